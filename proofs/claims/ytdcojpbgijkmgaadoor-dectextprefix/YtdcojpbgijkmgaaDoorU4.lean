/-
  A part of the proof.
-/
import Derived.Maps.AppendAt
import Derived.Deep.AppendLies
import Derived.Laws.BytesString
import Derived.Test.YtdcojpbgijkmgaaDoorU3
/-
  Runs of digits; when a text is a decimal one, in closed form.
-/
namespace Go.Proofs.YtdcojpbgijkmgaaDoor
open Go.RowKit
theorem re_ge (s : ByteArray) (k : Nat) : k ≤ re s k := by
  by_cases h : dgt (bt s k) = true
  · have h9 := dgt_in h; rw [re_on h]; have := re_ge s (k + 1); omega
  · rw [re_end (by simpa using h)]; omega
theorem re_lt {s : ByteArray} {k : Nat} (h : dgt (bt s k) = true) : k < re s k := by
  rw [re_on h]; have := re_ge s (k + 1); omega
theorem re_le {s : ByteArray} {k : Nat} (hk : k ≤ s.size) : re s k ≤ s.size := by
  by_cases h : dgt (bt s k) = true
  · rw [re_on h]; have := dgt_in h; exact re_le (by omega)
  · rw [re_end (by simpa using h)]; omega
theorem re_stop (s : ByteArray) (k : Nat) : dgt (bt s (re s k)) = false := by
  by_cases h : dgt (bt s k) = true
  · have h9 := dgt_in h; rw [re_on h]; exact re_stop s (k + 1)
  · rw [re_end (by simpa using h)]; simpa using h
theorem re_in {s : ByteArray} {k j : Nat} (h1 : k ≤ j) (h2 : j < re s k) : dgt (bt s j) = true := by
  by_cases h : dgt (bt s k) = true
  · by_cases e : k = j
    · subst e; exact h
    · have h9 := dgt_in h; rw [re_on h] at h2; exact re_in (k := k + 1) (by omega) h2
  · rw [re_end (by simpa using h)] at h2; omega
theorem re_eq {s : ByteArray} {k e : Nat} (h1 : k ≤ e) (h2 : ∀ j, k ≤ j → j < e → dgt (bt s j) = true) (h3 : dgt (bt s e) = false) : re s k = e := by
  by_cases hk : k = e
  · subst hk; exact re_end h3
  · have hd := h2 k (Nat.le_refl _) (by omega)
    have h9 : k < e := by omega
    rw [re_on hd]
    exact re_eq (by omega) (fun j a b => h2 j (by omega) b) h3
theorem az_iff {s : ByteArray} {k : Nat} : az s k = true ↔ ∀ j, k ≤ j → j < re s k → bt s j = 48 := by
  by_cases h : dgt (bt s k) = true
  · have h9 := dgt_in h
    rw [az_on h, Bool.and_eq_true, az_iff (s := s) (k := k + 1), re_on h]
    constructor
    · rintro ⟨a, b⟩ j h1 h2
      by_cases e : k = j
      · subst e; exact eq_of_beq a
      · exact b j (by omega) h2
    · intro a
      have := re_ge s (k + 1)
      exact ⟨by rw [a k (Nat.le_refl _) (by omega)]; rfl, fun j h1 h2 => a j (by omega) h2⟩
  · have h' : dgt (bt s k) = false := by simpa using h
    rw [az_end h', re_end h']
    exact ⟨fun _ j a b => by omega, fun _ => rfl⟩
theorem dgt48 : dgt 48 = true := rfl
theorem dgt46 : dgt 46 = false := rfl
/-- Is a text, from the first digit's place on, a decimal one? -/
def whp (s : ByteArray) (p : Nat) (b : Bool) : Bool :=
  decide (re s p ≠ p) && !((bt s p == 48) && decide (re s p > p + 1)) &&
    (if re s p < s.size then (bt s (re s p) == 46) && decide (re s p + 1 ≠ s.size) && decide (re s (re s p + 1) = s.size) && (!az s p || !az s (re s p + 1) || !b) else (!az s p || !b))
def whl (s : ByteArray) : Bool := if bt s 0 == 45 then whp s 1 true else whp s 0 false
theorem ah_of {s : ByteArray} {e : Nat} {b : Bool} (hs : 0 < s.size) (hel : e ≤ s.size) :
    (ah s e b 0 = s.size) ↔ (if e < s.size then bt s e = 46 ∧ e + 1 ≠ s.size ∧ re s (e + 1) = s.size ∧ (az s (e + 1) = false ∨ b = false) else b = false) := by
  unfold ah
  by_cases he : e < s.size
  · rw [if_pos he]
    by_cases h46 : bt s e = 46
    · rw [h46]
      by_cases hd : dgt (bt s (e + 1)) = true
      · have := re_lt hd; have := dgt_in hd
        rw [hd]
        cases hb : b <;> cases ha : az s (e + 1) <;> simp <;> omega
      · have hd' : dgt (bt s (e + 1)) = false := by simpa using hd
        rw [hd', re_end hd']
        cases hb : b <;> simp <;> omega
    · have : (bt s e == 46) = false := beq_eq_false_iff_ne.2 h46
      rw [this]
      cases hb : b <;> simp [h46] <;> omega
  · rw [if_neg he]
    have e1 : e = s.size := by omega
    have : bt s e = 0 := bt_out he
    rw [this]
    cases hb : b <;> simp <;> omega
theorem fi_whp {s : ByteArray} {p : Nat} {b : Bool} (hs : 0 < s.size) (hp : p ≤ s.size) : decide (fi s p b = s.size) = whp s p b := by
  rw [Bool.eq_iff_iff, decide_eq_true_iff]
  unfold fi whp
  by_cases h48 : bt s p = 48
  · have hd : dgt (bt s p) = true := by rw [h48]; rfl
    have hin := dgt_in hd
    rw [h48, re_on hd, az_on hd, h48]
    simp only [beq_self_eq_true, if_true, Bool.true_and]
    have hge := re_ge s (p + 1)
    by_cases hd2 : dgt (bt s (p + 1)) = true
    · have hl := re_lt hd2; have := dgt_in hd2
      have h46 : (bt s (p + 1) == 46) = false := by
        cases h : (bt s (p + 1) == 46) with
        | false => rfl
        | true => rw [eq_of_beq h] at hd2; cases hd2
      unfold ah
      rw [h46]
      cases b <;> simp <;> omega
    · have hd2' : dgt (bt s (p + 1)) = false := by simpa using hd2
      rw [ah_of hs (by omega), re_end hd2', az_end hd2']
      by_cases he : p + 1 < s.size
      · rw [if_pos he, if_pos he]
        cases b <;> simp [and_assoc]
      · rw [if_neg he, if_neg he]
        cases b <;> simp
  · have e48 : (bt s p == 48) = false := beq_eq_false_iff_ne.2 h48
    rw [e48]
    simp only [Bool.false_eq_true, if_false, Bool.false_and, Bool.not_false, Bool.and_true]
    by_cases hd : dgt (bt s p) = true
    · have hl := re_lt hd
      rw [if_pos hd, ah_of hs (re_le hp), az_on hd, e48]
      have : re s p ≠ p := by omega
      simp only [this, ne_eq, not_false_eq_true, decide_true, Bool.true_and, Bool.false_and, Bool.not_false, Bool.true_or, Bool.and_true]
      by_cases he : re s p < s.size
      · rw [if_pos he, if_pos he]; simp [and_assoc]
      · rw [if_neg he, if_neg he]; simp
    · have hd' : dgt (bt s p) = false := by simpa using hd
      rw [if_neg (by simpa using hd), re_end hd']
      simp; omega
theorem whl_dec (s : ByteArray) : whl s = isDec s := by
  unfold isDec whl pfx
  rw [emp_iff]
  by_cases hs : s.size = 0
  · have h0 : bt s 0 = 0 := bt_out (by omega)
    have hd : dgt (bt s 0) = false := by rw [h0]; rfl
    rw [decide_eq_true hs, h0]
    unfold whp
    rw [re_end hd]
    simp
  · rw [decide_eq_false hs]
    have hb : ∀ n : Nat, ((n : Int) == (s.size : Int)) = decide (n = s.size) := fun n => by
      rw [Bool.eq_iff_iff, beq_iff_eq, decide_eq_true_iff]; omega
    rw [hb]
    cases h : (bt s 0 == 45) with
    | true =>
      rw [if_pos rfl, if_pos rfl, fi_whp (by omega) (by omega)]; rfl
    | false =>
      rw [if_neg (by simp), if_neg (by simp), fi_whp (by omega) (by omega)]; rfl
end Go.Proofs.YtdcojpbgijkmgaaDoor
/-
  A decimal text and its parts.
-/
namespace Go.Proofs.YtdcojpbgijkmgaaDoor
open Go.RowKit
/-- The sign. -/
def sg8 (b : Bool) : List UInt8 := if b then [45] else []
def tn (o : Option UInt8) : Int := match o with | none => 0 | some x => (x.toNat : Int)
theorem bt_tn (s : ByteArray) (k : Nat) : bt s k = tn ((by8 s)[k]?) := by
  by_cases h : k < s.size
  · rw [bt_in h]
    have h2 : k < (by8 s).length := by rw [by8_len]; exact h
    rw [List.getElem?_eq_getElem h2]
    rfl
  · rw [bt_out h]
    have h2 : ¬ k < (by8 s).length := by rw [by8_len]; exact h
    rw [List.getElem?_eq_none (by omega)]
    rfl
/-- A decimal text's parts: the sign, the digits ahead of the point and those behind. -/
structure Df (l : List UInt8) (b : Bool) (A B : List UInt8) : Prop where
  eq : l = sg8 b ++ (A ++ (if B = [] then [] else 46 :: B))
  ne : A ≠ []
  ad : ∀ x ∈ A, isD x = true
  bd : ∀ x ∈ B, isD x = true
  ld : A.length = 1 ∨ A.head? ≠ some 48
  some : b = true → ∃ x ∈ A ++ B, x ≠ 48
theorem run_dig {s : ByteArray} {k n : Nat} (hn : k + n ≤ re s k) {x : UInt8} (hx : x ∈ ((by8 s).drop k).take n) : isD x = true := by
  obtain ⟨j, hj, rfl⟩ := List.getElem_of_mem hx
  have h1 : j < n := by simp at hj; omega
  have h2 := re_in (s := s) (k := k) (j := k + j) (by omega) (by omega)
  rw [bt_tn] at h2
  have h3 : k + j < (by8 s).length := by simp at hj ⊢; omega
  rw [List.getElem?_eq_getElem h3] at h2
  have e : (((by8 s).drop k).take n)[j] = (by8 s)[k + j] := by simp
  rw [e]; exact h2
theorem drop_run (l : List UInt8) (k e : Nat) (h : k ≤ e) : l.drop k = (l.drop k).take (e - k) ++ l.drop e := by
  conv => lhs; rw [← List.take_append_drop (e - k) (l.drop k)]
  rw [List.drop_drop, show k + (e - k) = e by omega]
theorem tn48 {o : Option UInt8} (h : tn o ≠ 48) : o ≠ some 48 := fun e => h (by rw [e]; rfl)
theorem nz_of {s : ByteArray} {k : Nat} (hk : k ≤ s.size) (h : az s k = false) : ∃ x ∈ ((by8 s).drop k).take (re s k - k), x ≠ 48 := by
  have h1 : ¬ ∀ j, k ≤ j → j < re s k → bt s j = 48 := fun h2 => by rw [az_iff.2 h2] at h; cases h
  simp only [Classical.not_forall] at h1
  obtain ⟨j, h2, h3, h4⟩ := h1
  have h5 := re_le hk
  have h6 : j < (by8 s).length := by rw [by8_len]; omega
  rw [bt_tn, List.getElem?_eq_getElem h6] at h4
  refine ⟨(by8 s)[j], ?_, fun e => h4 (by rw [e]; rfl)⟩
  rw [List.mem_iff_getElem]
  exact ⟨j - k, by simp; rw [← by8_len] at h5; simp at h5 h6; omega, by simp only [List.getElem_take, List.getElem_drop]; congr 1; omega⟩
theorem df_of {s : ByteArray} {p : Nat} {b : Bool} (hp : p ≤ s.size) (hsg : by8 s = sg8 b ++ (by8 s).drop p) (h : whp s p b = true) : ∃ A B, Df (by8 s) b A B ∧ (by8 s).drop p = A ++ (if B = [] then [] else 46 :: B) := by
  unfold whp at h
  simp only [Bool.and_eq_true, decide_eq_true_iff, Bool.not_eq_true'] at h
  obtain ⟨⟨h1, h2⟩, h3⟩ := h
  have hge := re_ge s p
  have hle := re_le hp
  have hl := by8_len s
  have hA : ((by8 s).drop p).take (re s p - p) ≠ [] := fun e => by
    have := congrArg List.length e; simp only [List.length_take, List.length_drop, List.length_nil, hl] at this; omega
  have had : ∀ x ∈ ((by8 s).drop p).take (re s p - p), isD x = true := fun x hx => run_dig (by omega) hx
  have hld : (((by8 s).drop p).take (re s p - p)).length = 1 ∨ (((by8 s).drop p).take (re s p - p)).head? ≠ some 48 := by
    by_cases h48 : bt s p = 48
    · left
      rw [h48] at h2; simp at h2
      simp only [List.length_take, List.length_drop, hl]; omega
    · right
      rw [bt_tn] at h48
      rw [List.head?_eq_getElem?, List.getElem?_take_of_lt (by omega), List.getElem?_drop]
      exact tn48 h48
  by_cases he : re s p < s.size
  · rw [if_pos he] at h3
    simp only [Bool.and_eq_true, decide_eq_true_iff, beq_iff_eq, Bool.or_eq_true, Bool.not_eq_true'] at h3
    obtain ⟨⟨⟨h4, h5⟩, h6⟩, h7⟩ := h3
    have hlt : re s p < (by8 s).length := by omega
    have e1 : (by8 s).drop (re s p) = 46 :: (by8 s).drop (re s p + 1) := by
      rw [List.drop_eq_getElem_cons hlt]
      rw [bt_tn, List.getElem?_eq_getElem hlt] at h4
      congr 1
      have h8 : (((by8 s)[re s p]).toNat : Int) = 46 := h4
      apply UInt8.toNat_inj.1
      have : (46 : UInt8).toNat = 46 := rfl
      omega
    have hB : (by8 s).drop (re s p + 1) ≠ [] := fun e => by
      have := congrArg List.length e; simp only [List.length_drop, List.length_nil, hl] at this; omega
    have hBt : ((by8 s).drop (re s p + 1)).take (re s (re s p + 1) - (re s p + 1)) = (by8 s).drop (re s p + 1) := by
      rw [List.take_of_length_le]; simp only [List.length_drop, hl]; omega
    have e2 : (by8 s).drop p = ((by8 s).drop p).take (re s p - p) ++ (if (by8 s).drop (re s p + 1) = [] then [] else 46 :: (by8 s).drop (re s p + 1)) := by
      rw [if_neg hB, ← e1]; exact drop_run _ _ _ hge
    refine ⟨_, (by8 s).drop (re s p + 1), ⟨?_, hA, had, fun x hx => ?_, hld, fun hb => ?_⟩, e2⟩
    · exact hsg.trans (congrArg (sg8 b ++ ·) e2)
    · rw [← hBt] at hx; exact run_dig (by omega) hx
    · rcases h7 with (h7 | h7) | h7
      · obtain ⟨x, hx, hn⟩ := nz_of hp h7
        exact ⟨x, List.mem_append_left _ hx, hn⟩
      · obtain ⟨x, hx, hn⟩ := nz_of (by omega) h7
        rw [hBt] at hx
        exact ⟨x, List.mem_append_right _ hx, hn⟩
      · rw [hb] at h7; cases h7
  · rw [if_neg he] at h3
    have e2 : (by8 s).drop p = ((by8 s).drop p).take (re s p - p) ++ (if ([] : List UInt8) = [] then [] else 46 :: []) := by
      rw [if_pos rfl, List.append_nil, List.take_of_length_le]; simp only [List.length_drop, hl]; omega
    refine ⟨_, [], ⟨?_, hA, had, fun x hx => (by cases hx), hld, fun hb => ?_⟩, e2⟩
    · exact hsg.trans (congrArg (sg8 b ++ ·) e2)
    · rw [hb] at h3
      simp only [Bool.or_eq_true, Bool.not_eq_true', Bool.not_true, Bool.false_eq_true, or_false] at h3
      obtain ⟨x, hx, hn⟩ := nz_of hp h3
      exact ⟨x, List.mem_append_left _ hx, hn⟩
theorem df_dec {s : ByteArray} (h : isDec s = true) : ∃ b A B, Df (by8 s) b A B := by
  rw [← whl_dec] at h
  unfold whl at h
  cases hb : (bt s 0 == 45) with
  | true =>
    rw [hb, if_pos rfl] at h
    have hin := eq_in (by decide) hb
    have h45 : by8 s = sg8 true ++ (by8 s).drop 1 := by
      have h0 : 0 < (by8 s).length := by rw [by8_len]; exact hin
      rw [bt_tn, List.getElem?_eq_getElem h0] at hb
      have h8 : (((by8 s)[0]).toNat : Int) = 45 := eq_of_beq hb
      have e : (by8 s)[0] = 45 := by
        apply UInt8.toNat_inj.1
        have : (45 : UInt8).toNat = 45 := rfl
        omega
      have e2 := List.drop_eq_getElem_cons h0
      rw [e] at e2
      exact e2
    obtain ⟨A, B, h1, _⟩ := df_of (by omega) h45 h
    exact ⟨true, A, B, h1⟩
  | false =>
    rw [hb, if_neg (by simp)] at h
    obtain ⟨A, B, h1, _⟩ := df_of (b := false) (by omega) rfl h
    exact ⟨false, A, B, h1⟩
theorem tn_in {x : UInt8} (h : isD x = true) : dgt (tn (some x)) = true := h
theorem dec_df {s : ByteArray} {b : Bool} {A B : List UInt8} (h : Df (by8 s) b A B) : isDec s = true := by
  have hl := by8_len s
  obtain ⟨heq, hne, had, hbd, hld, hsome⟩ := h
  have hApos : 0 < A.length := List.length_pos_iff.2 hne
  -- the letters
  have hA : ∀ (p : Nat) (S : List UInt8), by8 s = S ++ (A ++ (if B = [] then [] else 46 :: B)) → p = S.length →
      whp s p b = true := fun p S e hp => by
    have hgA : ∀ j, (hj : j < A.length) → bt s (p + j) = tn (some A[j]) := fun j hj => by
      rw [bt_tn, e, List.getElem?_append_right (by omega), hp, Nat.add_sub_cancel_left, List.getElem?_append_left hj, List.getElem?_eq_getElem hj]
    have hsz : s.size = p + A.length + (if B = [] then 0 else B.length + 1) := by
      rw [← hl, e]; simp only [List.length_append, hp]; split <;> simp <;> omega
    have hend : dgt (bt s (p + A.length)) = false := by
      rw [bt_tn, e, List.getElem?_append_right (by omega), hp, Nat.add_sub_cancel_left, List.getElem?_append_right (Nat.le_refl _), Nat.sub_self]
      split <;> rfl
    have hre : re s p = p + A.length := re_eq (by omega) (fun j h1 h2 => by
      have := hgA (j - p) (by omega)
      rw [show p + (j - p) = j by omega] at this
      rw [this]; exact tn_in (had _ (List.getElem_mem _))) hend
    have haz : az s p = true → ∀ x ∈ A, x = 48 := fun h x hx => by
      obtain ⟨j, hj, rfl⟩ := List.getElem_of_mem hx
      have h1 := az_iff.1 h (p + j) (by omega) (by omega)
      rw [hgA j hj] at h1
      apply UInt8.toNat_inj.1
      have e48 : (48 : UInt8).toNat = 48 := rfl
      have h1' : ((A[j]).toNat : Int) = 48 := h1
      omega
    unfold whp
    rw [hre]
    have h48 : ((bt s p == 48) && decide (p + A.length > p + 1)) = false := by
      rcases hld with hl1 | hl1
      · rw [hl1]; simp
      · have : (bt s p == 48) = false := beq_eq_false_iff_ne.2 fun e2 => hl1 (by
          have h0 := hgA 0 hApos
          rw [Nat.add_zero, e2] at h0
          rw [List.head?_eq_getElem?, List.getElem?_eq_getElem hApos]
          congr 1
          apply UInt8.toNat_inj.1
          have e48 : (48 : UInt8).toNat = 48 := rfl
          have h1' : (48 : Int) = ((A[0]).toNat : Int) := h0
          omega)
        rw [this]; rfl
    rw [h48]
    have hne2 : decide (p + A.length ≠ p) = true := decide_eq_true (by omega)
    rw [hne2]
    by_cases hB : B = []
    · rw [if_pos hB] at hsz
      rw [if_neg (by omega)]
      cases hb : b with
      | false => simp
      | true =>
        obtain ⟨x, hx, hn⟩ := hsome hb
        rw [hB, List.append_nil] at hx
        cases ha : az s p with
        | false => simp
        | true => exact absurd (haz ha x hx) hn
    · rw [if_neg hB] at hsz
      have hBpos : 0 < B.length := List.length_pos_iff.2 hB
      rw [if_pos (by omega)]
      have hgB : ∀ j, (hj : j < B.length) → bt s (p + A.length + 1 + j) = tn (some B[j]) := fun j hj => by
        rw [bt_tn, e, List.getElem?_append_right (by omega), hp, show S.length + A.length + 1 + j - S.length = A.length + (1 + j) by omega, List.getElem?_append_right (by omega), Nat.add_sub_cancel_left, if_neg hB, Nat.add_comm 1 j, List.getElem?_cons_succ, List.getElem?_eq_getElem hj]
      have h46 : (bt s (p + A.length) == 46) = true := by
        rw [bt_tn, e, List.getElem?_append_right (by omega), hp, Nat.add_sub_cancel_left, List.getElem?_append_right (Nat.le_refl _), Nat.sub_self, if_neg hB]
        rfl
      have hre2 : re s (p + A.length + 1) = s.size := re_eq (by omega) (fun j h1 h2 => by
        have := hgB (j - (p + A.length + 1)) (by omega)
        rw [show p + A.length + 1 + (j - (p + A.length + 1)) = j by omega] at this
        rw [this]; exact tn_in (hbd _ (List.getElem_mem _))) (by rw [bt_out (by omega)]; rfl)
      have haz2 : az s (p + A.length + 1) = true → ∀ x ∈ B, x = 48 := fun h x hx => by
        obtain ⟨j, hj, rfl⟩ := List.getElem_of_mem hx
        have h1 := az_iff.1 h (p + A.length + 1 + j) (by omega) (by omega)
        rw [hgB j hj] at h1
        apply UInt8.toNat_inj.1
        have e48 : (48 : UInt8).toNat = 48 := rfl
        have h1' : ((B[j]).toNat : Int) = 48 := h1
        omega
      rw [h46, hre2, decide_eq_true (show p + A.length + 1 ≠ s.size by omega)]
      cases hb : b with
      | false => simp
      | true =>
        obtain ⟨x, hx, hn⟩ := hsome hb
        cases ha : az s p with
        | false => simp
        | true =>
          cases ha2 : az s (p + A.length + 1) with
          | false => simp
          | true =>
            rcases List.mem_append.1 hx with hx | hx
            · exact absurd (haz ha x hx) hn
            · exact absurd (haz2 ha2 x hx) hn
  have h0 : ∀ x y : UInt8, x = y → True := fun _ _ _ => trivial
  rw [← whl_dec]
  unfold whl
  cases hb : b with
  | true =>
    rw [hb] at heq hA
    have : (bt s 0 == 45) = true := by rw [bt_tn, heq]; rfl
    rw [this, if_pos rfl]
    exact hA 1 _ heq rfl
  | false =>
    rw [hb] at heq hA
    have : (bt s 0 == 45) = false := by
      rw [bt_tn, heq]
      cases A with
      | nil => exact absurd rfl hne
      | cons a r =>
        have h1 := had a (by simp)
        refine beq_eq_false_iff_ne.2 fun e => ?_
        have e2 : (a.toNat : Int) = 45 := e
        unfold isD at h1
        rw [e2] at h1
        cases h1
    rw [this, if_neg (by simp)]
    exact hA 0 _ heq rfl
end Go.Proofs.YtdcojpbgijkmgaaDoor
/-
  A decimal text's parts: what the program's cuts make of them; digits with no 0 ahead.
-/
namespace Go.Proofs.YtdcojpbgijkmgaaDoor
open Go.RowKit
theorem dig_ne {x : UInt8} (h : isD x = true) (c : UInt8) (hc : isD c = false) : x ≠ c := fun e => by rw [e, hc] at h; cases h
theorem d45 : isD 45 = false := rfl
theorem d46 : isD 46 = false := rfl
theorem isD_b {x : UInt8} (h : isD x = true) : 48 ≤ (x.toNat : Int) ∧ (x.toNat : Int) ≤ 57 := by
  unfold isD at h; simpa using h
/-! The program's cuts. -/
theorem ixb_hit : ∀ (A B : List UInt8), (∀ x ∈ A, isD x = true) → Lib.indexByte (A ++ 46 :: B) 46 = (A.length : Int)
  | [], B, _ => by simp [Lib.indexByte]
  | a :: A, B, h => by
    have ha := dig_ne (h a (by simp)) 46 d46
    have ih := ixb_hit A B (fun x hx => h x (by simp [hx]))
    simp only [List.cons_append, Lib.indexByte, ih]
    rw [if_neg (by simpa using ha), if_neg (by simp)]
    simp
theorem ixb_miss : ∀ (A : List UInt8), (∀ x ∈ A, isD x = true) → Lib.indexByte A 46 = -1
  | [], _ => rfl
  | a :: A, h => by
    have ha := dig_ne (h a (by simp)) 46 d46
    have ih := ixb_miss A (fun x hx => h x (by simp [hx]))
    simp only [Lib.indexByte, ih]
    rw [if_neg (by simpa using ha)]
    rfl
theorem cut_df {A B : List UInt8} (h : ∀ x ∈ A, isD x = true) : (Lib.cut (A ++ (if B = [] then [] else 46 :: B)) [46]).1 = A ∧ (Lib.cut (A ++ (if B = [] then [] else 46 :: B)) [46]).2.1 = B := by
  unfold Lib.cut
  rw [Lib.index_one]
  by_cases hB : B = []
  · subst hB
    rw [if_pos rfl, List.append_nil, ixb_miss A h]
    exact ⟨rfl, rfl⟩
  · rw [if_neg hB, ixb_hit A B h, if_pos (by omega)]
    simp
theorem pre_df {l A B : List UInt8} {b : Bool} (h : Df l b A B) : Lib.hasPrefix l [45] = b ∧ Lib.trimPrefix l [45] = A ++ (if B = [] then [] else 46 :: B) := by
  have hp : Lib.hasPrefix l [45] = b := by
    rw [h.eq]
    unfold Lib.hasPrefix
    cases b with
    | true => rfl
    | false =>
      cases hA : A with
      | nil => exact absurd hA h.ne
      | cons a r =>
        have := dig_ne (h.ad a (by rw [hA]; simp)) 45 d45
        simp [sg8, List.isPrefixOf]
        exact fun e => this e.symm
  refine ⟨hp, ?_⟩
  unfold Lib.trimPrefix
  rw [hp]
  cases b with
  | true => rw [if_pos rfl, h.eq]; rfl
  | false => rw [if_neg (by simp), h.eq]; rfl
/-! Digits with no 0 ahead. -/
abbrev nl (l : List UInt8) : List Int := l.map fun x => (x.toNat : Int)
abbrev dw0 (l : List UInt8) : List UInt8 := l.dropWhile (· == 48)
structure Cn (z : List UInt8) : Prop where
  ne : z ≠ []
  dg : ∀ x ∈ z, isD x = true
  hd : z.length = 1 ∨ z.head? ≠ some 48
theorem dw0_mem {l : List UInt8} {x : UInt8} (h : x ∈ dw0 l) : x ∈ l := (List.dropWhile_sublist _).subset h
theorem dw0_head {l : List UInt8} : (dw0 l).head? ≠ some 48 := by
  intro h
  cases hd : dw0 l with
  | nil => rw [hd] at h; cases h
  | cons a r =>
    rw [hd] at h
    cases h
    have := List.head_dropWhile_not (p := (· == (48 : UInt8))) (l := l) (by rw [show l.dropWhile (· == 48) = 48 :: r from hd]; simp)
    simp only [show l.dropWhile (· == 48) = 48 :: r from hd] at this
    simp at this
theorem cn_woz {L : List UInt8} (h : ∀ x ∈ L, isD x = true) : Cn (woz L) := by
  unfold woz
  by_cases hz : L.dropWhile (· == 48) = []
  · rw [if_pos hz]
    exact ⟨by simp, by intro x hx; simp at hx; subst hx; rfl, Or.inl rfl⟩
  · rw [if_neg hz]
    exact ⟨hz, fun x hx => h x (dw0_mem hx), Or.inr dw0_head⟩
theorem cn_isT {z : List UInt8} (h : Cn z) : isT ⟨z.toArray⟩ := by
  have hl : (⟨z.toArray⟩ : ByteArray).size = z.length := tx_size z
  have hp : 0 < z.length := List.length_pos_iff.2 h.ne
  refine ⟨by omega, fun hh => ?_, fun j hj _ => ?_⟩
  · obtain ⟨h1, h2⟩ := hh
    rcases h.hd with h3 | h3
    · omega
    · apply h3
      rw [List.head?_eq_getElem?, List.getElem?_eq_getElem hp]
      congr 1
      apply UInt8.toNat_inj.1
      have e48 : (48 : UInt8).toNat = 48 := rfl
      have h2' : ((z[0]).toNat : Int) = 48 := h2
      omega
  · have hj' : j < z.length := by omega
    exact isD_b (h.dg (z[j]) (List.getElem_mem hj'))
theorem pvk_z8 (z : List UInt8) : pvk ⟨z.toArray⟩ (⟨z.toArray⟩ : ByteArray).size = pv z := by
  unfold pvk
  rw [tx_size]
  simp
theorem pv_nn : ∀ (z : List UInt8) (v : Int), (∀ x ∈ z, isD x = true) → 0 ≤ v → v ≤ z.foldl (fun v c => v * 10 + ((c.toNat : Int) - 48)) v
  | [], v, _, _ => by simp
  | x :: z, v, h, hv => by
    have hx := isD_b (h x (by simp))
    have := pv_nn z (v * 10 + ((x.toNat : Int) - 48)) (fun y hy => h y (by simp [hy])) (by omega)
    simp only [List.foldl_cons]
    omega
theorem pv_0 {z : List UInt8} (h : ∀ x ∈ z, isD x = true) : 0 ≤ pv z := pv_nn z 0 h (by omega)
theorem pv_pos {z : List UInt8} (h : ∀ x ∈ z, isD x = true) (hne : z ≠ []) (hh : z.head? ≠ some 48) : 0 < pv z := by
  cases z with
  | nil => exact absurd rfl hne
  | cons x r =>
    have hx := isD_b (h x (by simp))
    have hx48 : (x.toNat : Int) ≠ 48 := fun e => hh (by
      have : x = 48 := by
        apply UInt8.toNat_inj.1
        have e48 : (48 : UInt8).toNat = 48 := rfl
        omega
      rw [this]; rfl)
    have := pv_nn r (0 * 10 + ((x.toNat : Int) - 48)) (fun y hy => h y (by simp [hy])) (by omega)
    unfold pv
    simp only [List.foldl_cons]
    omega
theorem dw0_nil : ∀ (L : List UInt8), dw0 L = [] → ∀ y ∈ L, y = 48
  | [], _, y, hy => by cases hy
  | x :: L, e, y, hy => by
    by_cases hx : x = 48
    · subst hx
      have e2 : dw0 L = [] := by simpa [dw0, List.dropWhile_cons] using e
      rcases List.mem_cons.1 hy with rfl | hy
      · rfl
      · exact dw0_nil L e2 y hy
    · have : (x == 48) = false := beq_eq_false_iff_ne.2 hx
      simp [dw0, this] at e
theorem dw0_ne {L : List UInt8} (h : ∃ x ∈ L, x ≠ 48) : dw0 L ≠ [] := fun e => by
  obtain ⟨x, hx, hn⟩ := h
  exact hn (dw0_nil L e x hx)
/-- What a decimal text's digits say. -/
abbrev nof (A B : List UInt8) : Int := pv (woz (A ++ B))
theorem Df.dg {l A B : List UInt8} {b : Bool} (h : Df l b A B) : ∀ x ∈ A ++ B, isD x = true := fun x hx => by
  rcases List.mem_append.1 hx with hx | hx
  · exact h.ad x hx
  · exact h.bd x hx
theorem Df.n0 {l A B : List UInt8} {b : Bool} (h : Df l b A B) : 0 ≤ nof A B := pv_0 (cn_woz h.dg).dg
theorem Df.ck {l A B : List UInt8} {b : Bool} (h : Df l b A B) (hk : B.length ≤ 18) : ck b (nof A B) (B.length : Int) = 0 := by
  unfold YtdcojpbgijkmgaaDoor.ck sc
  rw [decide_eq_true (show (0 : Int) ≤ (B.length : Int) by omega), decide_eq_true (show (B.length : Int) ≤ 18 by omega)]
  cases hb : b with
  | false => rfl
  | true =>
    have hne := dw0_ne (h.some hb)
    have : 0 < nof A B := by
      have hc := cn_woz h.dg
      refine pv_pos hc.dg hc.ne ?_
      unfold woz
      rw [if_neg hne]
      exact dw0_head
    rw [decide_eq_false (show ¬ nof A B = 0 by omega)]
    rfl
theorem pv48 : pv [48] = 0 := rfl
theorem nl_str (D : List UInt8) : strOf (nl D) = ⟨D.toArray⟩ := by
  have h := strOf_list (nl D)
  have e : (strOf (nl D)).data.toList = D := by
    rw [h, List.map_map]
    conv => rhs; rw [← List.map_id D]
    apply List.map_congr_left
    intro x _
    simp
  calc strOf (nl D) = ⟨(strOf (nl D)).data⟩ := rfl
    _ = ⟨(strOf (nl D)).data.toList.toArray⟩ := by rw [Array.toArray_toList]
    _ = ⟨D.toArray⟩ := by rw [e]
end Go.Proofs.YtdcojpbgijkmgaaDoor
/-
  Parse of a decimal text: what the program says.
-/
namespace Go.Proofs.YtdcojpbgijkmgaaDoor
open Go.RowKit
/-- What Parse says of a decimal text: the error's number. -/
def pe (A B : List UInt8) : Int := if 18 < B.length then 31 else if nof A B < MM then 0 else 7
theorem lp_n {z : List UInt8} (hc : Cn z) (hl : z.length ≤ maxLen) (w : World) : Calls Tryd.prog 29 #[tx z] w fun e w' => e = .returned (.tuple #[nv (if pv z < MM then pv z else 0), .int .i64 (if pv z < MM then 0 else 7)]) ∧ Mo w w' := by
  haveI := Classical.propDecidable (isT ⟨z.toArray⟩)
  refine (parse_n ⟨z.toArray⟩ w (by rw [tx_size]; exact hl)).mono fun e w' ⟨he, hm⟩ => ⟨?_, hm⟩
  rw [he, if_pos (cn_isT hc)]
  unfold resP
  rw [pvk_z8]
  by_cases h : pv z < MM
  · rw [if_pos h, if_pos h, if_pos h]
  · rw [if_neg h, if_neg h, if_neg h]; rfl
theorem woz_len (L : List UInt8) : (woz L).length ≤ L.length + 1 := by
  unfold woz
  split
  · simp
  · have := (List.dropWhile_sublist (p := (· == (48 : UInt8))) (l := L)).length_le; omega
theorem Df.len {l A B : List UInt8} {b : Bool} (h : Df l b A B) : A.length + B.length ≤ l.length := by
  rw [h.eq]
  by_cases hB : B = []
  · rw [if_pos hB, hB]; simp
  · rw [if_neg hB]; simp; omega
theorem woz_len2 {L : List UInt8} (h : L ≠ []) : (woz L).length ≤ L.length := by
  have hp := List.length_pos_iff.2 h
  unfold woz
  split
  · simp; omega
  · exact (List.dropWhile_sublist (p := (· == (48 : UInt8))) (l := L)).length_le
/-- The answer to a decimal text. -/
def pva (b : Bool) (A B : List UInt8) : Value := if pe A B = 0 then .tuple #[dc b (nof A B) (B.length : Int), .int .i64 0] else er (pe A B)
theorem parse13_df {s : ByteArray} {b : Bool} {A B : List UInt8} (h : Df (by8 s) b A B) (hs : s.size ≤ maxLen) (w : World) : Calls Tryd.prog 13 #[.string s] w fun e w' => e = .returned (pva b A B) ∧ Mo w w' := by
  have hi : ∀ w, Calls Tryd.prog 26 #[.string s] w fun e w' => e = .returned (.bool true) ∧ Mo w w' := fun w => by
    have := isDec_n s w hs; rw [dec_df h] at this; exact this
  obtain ⟨hp1, hp2⟩ := pre_df h
  have hC : ∀ w, Calls Tryd.prog 27 #[.string s, .string ⟨#[45]⟩] w fun e w' => e = .returned (.tuple #[tx (A ++ (if B = [] then [] else 46 :: B)), .bool b]) ∧ Mo w w' := fun w => by
    refine (Tryd.strings_CutPrefix s ⟨#[45]⟩ w).mono fun e w' ⟨he, hm⟩ => ⟨?_, by rw [hm]; exact Mo.refl _⟩
    rw [he]
    show Ending.returned (.tuple #[tx (Lib.trimPrefix (by8 s) [45]), .bool (Lib.hasPrefix (by8 s) [45])]) = _
    rw [hp1, hp2]
  have hlen := h.len
  rw [by8_len] at hlen
  have hlt : (A ++ (if B = [] then [] else 46 :: B)).length ≤ s.size := by
    rw [← by8_len, h.eq]; simp only [List.length_append]; omega
  obtain ⟨hc1, hc2⟩ := cut_df (B := B) h.ad
  have hD : ∀ w, Calls Tryd.prog 28 #[tx (A ++ (if B = [] then [] else 46 :: B)), .string ⟨#[46]⟩] w fun e w' => e = .returned (.tuple #[tx A, tx B, .bool (Lib.cut (A ++ (if B = [] then [] else 46 :: B)) [46]).2.2]) ∧ Mo w w' := fun w => by
    refine (cut_n ⟨(A ++ (if B = [] then [] else 46 :: B)).toArray⟩ 46 w (by rw [tx_size]; omega)).mono fun e w' ⟨he, hm⟩ => ⟨?_, hm⟩
    rw [he]
    show Ending.returned (.tuple #[tx (Lib.cut (A ++ (if B = [] then [] else 46 :: B)) [46]).1, tx (Lib.cut (A ++ (if B = [] then [] else 46 :: B)) [46]).2.1, .bool (Lib.cut (A ++ (if B = [] then [] else 46 :: B)) [46]).2.2]) = _
    rw [hc1, hc2]
  unfold pva pe
  by_cases h18 : 18 < B.length
  · rw [if_pos h18, if_neg (by decide)]
    exact parse_b s w hi _ A B b _ hC hD (decide_eq_true (by omega))
  · rw [if_neg h18]
    have hl : decide ((B.length : Int) > 18) = false := decide_eq_false (by omega)
    have hy : (⟨A.toArray⟩ : ByteArray) ++ ⟨B.toArray⟩ = ⟨(A ++ B).toArray⟩ := by
      have e : by8 ((⟨A.toArray⟩ : ByteArray) ++ ⟨B.toArray⟩) = A ++ B := by rw [by8_app]
      calc (⟨A.toArray⟩ : ByteArray) ++ ⟨B.toArray⟩ = ⟨((⟨A.toArray⟩ : ByteArray) ++ ⟨B.toArray⟩).data⟩ := rfl
        _ = ⟨(by8 ((⟨A.toArray⟩ : ByteArray) ++ ⟨B.toArray⟩)).toArray⟩ := by rw [Array.toArray_toList]
        _ = ⟨(A ++ B).toArray⟩ := by rw [e]
    have hZ : ∀ w, Calls Tryd.prog 30 #[.string ⟨(A ++ B).toArray⟩] w fun e w' => e = .returned (tx (woz (A ++ B))) ∧ Mo w w' := fun w => withoutZeros_n ⟨(A ++ B).toArray⟩ w
    have hwl := woz_len2 (L := A ++ B) (by simp [h.ne])
    simp only [List.length_append] at hwl
    have hP := fun w => lp_n (cn_woz h.dg) (by omega) w
    unfold maxLen at hs
    by_cases hM : nof A B < MM
    · rw [if_pos hM, if_pos rfl]
      have hM' : pv (woz (A ++ B)) < MM := hM
      simp only [if_pos hM'] at hP
      exact parse_d s w hi _ A B b _ hC hD _ hl (by omega) _ hy hZ _ 0 hP rfl
    · rw [if_neg hM, if_neg (by decide)]
      have hM' : ¬ pv (woz (A ++ B)) < MM := hM
      simp only [if_neg hM'] at hP
      exact parse_c s w hi _ A B b _ hC hD _ hl (by omega) _ hy hZ _ 7 hP rfl
theorem parse13_no {s : ByteArray} (h : isDec s = false) (hs : s.size ≤ maxLen) (w : World) : Calls Tryd.prog 13 #[.string s] w fun e w' => e = .returned (er 30) ∧ Mo w w' :=
  parse_a s w (fun w => by have := isDec_n s w hs; rw [h] at this; exact this)
end Go.Proofs.YtdcojpbgijkmgaaDoor
/-
  Texts that the document fixes.
-/
namespace Go.Proofs.YtdcojpbgijkmgaaDoor
open Go.RowKit Go.Lib
abbrev s3 : ByteArray := ⟨#[51]⟩
abbrev s152 : ByteArray := ⟨#[49, 46, 53, 46, 50]⟩
theorem pfx_s3 : pfx s3 = 1 := by
  have b0 : bt s3 0 = 51 := rfl
  have b1 : bt s3 1 = 0 := rfl
  have r1 : re s3 1 = 1 := re_end (by rw [b1]; rfl)
  have r0 : re s3 0 = 1 := by rw [re_on (by rw [b0]; rfl), r1]
  unfold pfx fi ah
  rw [b0, r0, b1]
  rfl
theorem pfx_s152 : pfx s152 = 3 := by
  have b0 : bt s152 0 = 49 := rfl
  have b1 : bt s152 1 = 46 := rfl
  have b2 : bt s152 2 = 53 := rfl
  have b3 : bt s152 3 = 46 := rfl
  have r1 : re s152 1 = 1 := re_end (by rw [b1]; rfl)
  have r0 : re s152 0 = 1 := by rw [re_on (by rw [b0]; rfl), r1]
  have r3 : re s152 3 = 3 := re_end (by rw [b3]; rfl)
  have r2 : re s152 2 = 3 := by rw [re_on (by rw [b2]; rfl), r3]
  unfold pfx fi
  rw [b0, r0]
  unfold ah
  rw [b1, b2, r2]
  rfl
theorem isT_s3 : isT s3 := ⟨by decide, by decide, fun j h hj => by
  have : j = 0 := by have : s3.size = 1 := rfl; omega
  subst this
  show 48 ≤ ((51 : UInt8).toNat : Int) ∧ ((51 : UInt8).toNat : Int) ≤ 57
  decide⟩
theorem limbParse_s3 (w : World) : Calls Tryd.prog 29 #[tx [51]] w fun e w' => e = .returned (.tuple #[nv 3, .int .i64 0]) ∧ Mo w w' := by
  haveI := Classical.propDecidable (isT s3)
  refine (parse_n s3 w (by decide)).mono fun e w' ⟨he, hm⟩ => ⟨?_, hm⟩
  rw [he, if_pos isT_s3, resP_ok (by decide)]
  rfl
theorem parse_s3 (w : World) : Calls Tryd.prog 13 #[.string s3] w fun e w' => e = .returned (.tuple #[dc false 3 0, .int .i64 0]) ∧ Mo w w' := by
  refine parse_d s3 w (fun w => ?_) [51] [51] [] false false (fun w => ?_) (fun w => ?_) [51] rfl (by decide) s3 rfl (fun w => ?_) 3 0 (fun w => limbParse_s3 w) rfl
  · refine (isDec_n s3 w (by decide)).mono fun e w' ⟨he, hm⟩ => ⟨?_, hm⟩
    rw [he]; unfold isDec; rw [pfx_s3, emp_iff]; rfl
  · refine (Tryd.strings_CutPrefix s3 ⟨#[45]⟩ w).mono fun e w' ⟨he, hm⟩ => ⟨?_, by rw [hm]; exact Mo.refl _⟩
    rw [he]; rfl
  · refine (cut_n s3 46 w (by decide)).mono fun e w' ⟨he, hm⟩ => ⟨?_, hm⟩
    rw [he]; rfl
  · refine (withoutZeros_n s3 w).mono fun e w' ⟨he, hm⟩ => ⟨?_, hm⟩
    rw [he]; rfl
theorem rescale_3 (w : World) : Calls Tryd.prog 34 #[dc false 3 0, .int .i64 2, .int .i64 3] w fun e w' => e = .returned (.tuple #[dc false 300 2, .int .i64 0]) ∧ Mo w w' := by
  have := rescale_z 3 0 2 3 w (by decide) (by decide) (by decide) (by decide) (by decide)
  have e : rsV 3 0 2 3 = 300 := by decide
  rw [e] at this
  exact this
theorem parseAt_s3 (w : World) : Calls Tryd.prog 15 #[.string s3, .int .i64 2] w fun e w' => e = .returned (.tuple #[dc false 300 2, .int .i64 0]) ∧ Mo w w' :=
  parseAt_r s3 2 w rfl rfl false 3 0 0 parse_s3 rfl rfl false 300 2 0 rescale_3
end Go.Proofs.YtdcojpbgijkmgaaDoor
/-
  exciselaw03.live.
-/
namespace Go.Proofs.YtdcojpbgijkmgaaDoor.V
open Go.RowKit Go.Lib
theorem text_lv (w : World) : Calls Tryd.prog 9 #[.agg #[.bool true, .int .u64 1250, .int .u64 0, .int .u64 0, .int .u64 0, .int .i64 2]] w fun e w' => e = .returned (.string ⟨#[45, 49, 50, 46, 53, 48]⟩) ∧ Mw w w' := by
  refine (text_ok true 1250 2 w (by decide) (by decide) (by decide) (by decide)).mono fun e w' ⟨he, hm⟩ => ⟨?_, hm⟩
  rw [he]; rfl
theorem short_lv (w : World) : Calls Tryd.prog 11 #[.agg #[.bool true, .int .u64 1250, .int .u64 0, .int .u64 0, .int .u64 0, .int .i64 2]] w fun e w' => e = .returned (.string ⟨#[45, 49, 50, 46, 53]⟩) ∧ Mw w w' := by
  refine (short_ok true 1250 2 w (by decide) (by decide) (by decide) (by decide)).mono fun e w' ⟨he, hm⟩ => ⟨?_, hm⟩
  rw [he]; rfl
theorem parseAt_lv (w : World) : Calls Tryd.prog 15 #[.string ⟨#[51]⟩, .int .i64 (2)] w fun e w' => e = .returned (.tuple #[.agg #[.bool false, .int .u64 300, .int .u64 0, .int .u64 0, .int .u64 0, .int .i64 2], .int .i64 0]) ∧ Mw w w' := wk (parseAt_s3 w)
theorem prefix_lv (w : World) : Calls Tryd.prog 17 #[.string ⟨#[49, 46, 53, 46, 50]⟩] w fun e w' => e = .returned (.int .i64 3) ∧ Mw w w' := by
  refine (prefix_n s152 w (by decide)).mono fun e w' ⟨he, hm⟩ => ⟨?_, hm.1⟩
  rw [he, pfx_s152]; rfl
theorem eqS_run (a : ByteArray) (x y : Operand) (w : World) : (do eqGuard .eql 9 x y (.string a) (.string a); binOp .eql 9 (.string a) (.string a)).run Tryd.prog w = .ok (.bool true) w := by
  simp [go_sem]
theorem eqE_run {a b : Int} {r : Bool} (h : (a == b) = r) (x y : Operand) (w : World) : (do eqGuard .eql 30 x y (.int .i64 a) (.int .i64 b); binOp .eql 30 (.int .i64 a) (.int .i64 b)).run Tryd.prog w = .ok (.bool r) w := by
  subst h; kernel_rfl
theorem live_n (w : World) : Calls Tryd.prog 8 #[] w fun e w' => e = .returned (.bool true) ∧ Mw w w' := by
  refine w_enter 32 Tryd.func8 Tryd.ntmps8 rfl rfl ?_
  have M : Mw w w := Mw.refl _
  refine w_seq ?_
  refine w_reg ?_
  refine wl_mv (.const (.bool false)) (.bool false) (fun _ => rfl) rfl rfl ?_
  refine w_nil ?_
  refine xn_then ?_
  refine w_seq ?_
  refine w_reg ?_
  refine wl_build 24 [(0, (.const (.int .u64 (1250))))] [(0, .int .u64 (1250))] (.agg #[.int .u64 (1250), .int .u64 0, .int .u64 0, .int .u64 0]) rfl rfl (by kernel_rfl) rfl ?_
  refine wl_build 26 [(0, (.const (.bool true))), (1, (.tmp 4)), (2, (.const (.int .i64 (2))))] [(0, .bool true), (1, .agg #[.int .u64 (1250), .int .u64 0, .int .u64 0, .int .u64 0]), (2, .int .i64 (2))] (.agg #[.bool true, .int .u64 (1250), .int .u64 0, .int .u64 0, .int .u64 0, .int .i64 (2)]) rfl rfl (by kernel_rfl) rfl ?_
  refine wl_alloc 26 #[.bool false, .int .u64 0, .int .u64 0, .int .u64 0, .int .u64 0, .int .i64 0] rfl (fun _ => by kernel_rfl) rfl ?_
  intro k1 w1 hk hz hq Q1
  have N_k1 : w.heap.size ≤ k1 := by have := M.size; omega
  replace M := M.trans hq
  clear hk hz hq
  refine wl_st 26 (.tmp 1) (.tmp 5) k1 0 #[.bool true, .int .u64 (1250), .int .u64 0, .int .u64 0, .int .u64 0, .int .i64 (2)] [.bool false, .int .u64 0, .int .u64 0, .int .u64 0, .int .u64 0, .int .i64 0] [.bool true, .int .u64 (1250), .int .u64 0, .int .u64 0, .int .u64 0, .int .i64 (2)] Q1 rfl rfl rfl rfl rfl sz26 rfl rfl rfl ?_
  intro w2 hS Qn
  replace Q1 := Qn
  clear Qn
  replace M := hS.mo _ N_k1 M
  clear hS
  refine w_nil ?_
  refine xn_then ?_
  refine w_seq ?_
  refine w_reg ?_
  refine wl_call 15 [(.const (.string ⟨#[51]⟩)), (.const (.int .i64 (2)))] _ [.string ⟨#[51]⟩, .int .i64 (2)] (.tuple #[.agg #[.bool false, .int .u64 300, .int .u64 0, .int .u64 0, .int .u64 0, .int .i64 2], .int .i64 (0)]) rfl rfl (fun _ _ => by kernel_rfl) (parseAt_lv _) rfl ?_
  intro w3 hq
  replace Q1 := Q1.mo hq
  replace M := M.trans hq
  clear hq
  refine wl_mv (.tmp 7) (.tuple #[.agg #[.bool false, .int .u64 300, .int .u64 0, .int .u64 0, .int .u64 0, .int .i64 2], .int .i64 (0)]) (fun _ => rfl) rfl rfl ?_
  refine wl_un (fun v => Instr.extract v 0) (.tmp 6) (.tuple #[.agg #[.bool false, .int .u64 300, .int .u64 0, .int .u64 0, .int .u64 0, .int .i64 2], .int .i64 (0)]) (.agg #[.bool false, .int .u64 300, .int .u64 0, .int .u64 0, .int .u64 0, .int .i64 2]) (fun _ => rfl) rfl (by kernel_rfl) rfl ?_
  refine wl_un (fun v => Instr.extract v 1) (.tmp 6) (.tuple #[.agg #[.bool false, .int .u64 300, .int .u64 0, .int .u64 0, .int .u64 0, .int .i64 2], .int .i64 (0)]) (.int .i64 (0)) (fun _ => rfl) rfl (by kernel_rfl) rfl ?_
  refine wl_alloc 26 #[.bool false, .int .u64 0, .int .u64 0, .int .u64 0, .int .u64 0, .int .i64 0] rfl (fun _ => by kernel_rfl) rfl ?_
  intro k2 w4 hk hz hq Q2
  have ne_k1_k2 : k1 ≠ k2 := by have := Q1.lt; omega
  have N_k2 : w.heap.size ≤ k2 := by have := M.size; omega
  replace Q1 := Q1.mo hq
  replace M := M.trans hq
  clear hk hz hq
  refine wl_st 26 (.tmp 2) (.tmp 8) k2 0 #[.bool false, .int .u64 300, .int .u64 0, .int .u64 0, .int .u64 0, .int .i64 2] [.bool false, .int .u64 0, .int .u64 0, .int .u64 0, .int .u64 0, .int .i64 0] [.bool false, .int .u64 300, .int .u64 0, .int .u64 0, .int .u64 0, .int .i64 2] Q2 rfl rfl rfl rfl rfl sz26 rfl rfl rfl ?_
  intro w5 hS Qn
  replace Q2 := Qn
  clear Qn
  replace Q1 := hS.other _ _ ne_k1_k2 Q1
  replace M := hS.mo _ N_k2 M
  clear hS
  refine wl_mv (.tmp 9) (.int .i64 (0)) (fun _ => rfl) rfl rfl ?_
  refine w_nil ?_
  refine xn_then ?_
  refine w_seq ?_
  refine w_reg ?_
  refine wl_load 26 (.tmp 1) (pt k1 0) (.agg #[.bool true, .int .u64 (1250), .int .u64 0, .int .u64 0, .int .u64 0, .int .i64 (2)]) rfl rfl (run_row Q1 26 0 6 [.bool true, .int .u64 (1250), .int .u64 0, .int .u64 0, .int .u64 0, .int .i64 (2)] rfl Tryd.underlying26 rfl sz26) rfl ?_
  refine wl_call 9 [(.tmp 10)] _ [.agg #[.bool true, .int .u64 (1250), .int .u64 0, .int .u64 0, .int .u64 0, .int .i64 (2)]] (.string ⟨#[45, 49, 50, 46, 53, 48]⟩) rfl rfl (fun _ _ => by kernel_rfl) (text_lv _) rfl ?_
  intro w6 hq
  replace Q1 := Q1.mo hq
  replace Q2 := Q2.mo hq
  replace M := M.trans hq
  clear hq
  refine wl_bin (fun x y => do eqGuard .eql 9 (.tmp 11) (.const (.string ⟨#[45, 49, 50, 46, 53, 48]⟩)) x y; binOp .eql 9 x y) (.tmp 11) (.const (.string ⟨#[45, 49, 50, 46, 53, 48]⟩)) (.string ⟨#[45, 49, 50, 46, 53, 48]⟩) (.string ⟨#[45, 49, 50, 46, 53, 48]⟩) (.bool true) (fun _ => rfl) rfl rfl (eqS_run _ _ _ _) rfl ?_
  refine wl_mv (.tmp 12) (.bool true) (fun _ => rfl) rfl rfl ?_
  refine wl_load 26 (.tmp 1) (pt k1 0) (.agg #[.bool true, .int .u64 (1250), .int .u64 0, .int .u64 0, .int .u64 0, .int .i64 (2)]) rfl rfl (run_row Q1 26 0 6 [.bool true, .int .u64 (1250), .int .u64 0, .int .u64 0, .int .u64 0, .int .i64 (2)] rfl Tryd.underlying26 rfl sz26) rfl ?_
  refine wl_call 11 [(.tmp 14)] _ [.agg #[.bool true, .int .u64 (1250), .int .u64 0, .int .u64 0, .int .u64 0, .int .i64 (2)]] (.string ⟨#[45, 49, 50, 46, 53]⟩) rfl rfl (fun _ _ => by kernel_rfl) (short_lv _) rfl ?_
  intro w7 hq
  replace Q1 := Q1.mo hq
  replace Q2 := Q2.mo hq
  replace M := M.trans hq
  clear hq
  refine wl_bin (fun x y => do eqGuard .eql 9 (.tmp 15) (.const (.string ⟨#[45, 49, 50, 46, 53]⟩)) x y; binOp .eql 9 x y) (.tmp 15) (.const (.string ⟨#[45, 49, 50, 46, 53]⟩)) (.string ⟨#[45, 49, 50, 46, 53]⟩) (.string ⟨#[45, 49, 50, 46, 53]⟩) (.bool true) (fun _ => rfl) rfl rfl (eqS_run _ _ _ _) rfl ?_
  refine wl_pick (.tmp 13) (.tmp 16) (.const (.bool false)) true (.bool true) (fun _ => rfl) rfl rfl rfl ?_
  refine wl_mv (.tmp 17) (.bool true) (fun _ => rfl) rfl rfl ?_
  refine wl_mv (.tmp 3) (.int .i64 (0)) (fun _ => rfl) rfl rfl ?_
  refine wl_bin (fun x y => do eqGuard .eql 30 (.tmp 19) (.const (.int .i64 (0))) x y; binOp .eql 30 x y) (.tmp 19) (.const (.int .i64 (0))) (.int .i64 (0)) (.int .i64 (0)) (.bool true) (fun _ => rfl) rfl rfl (eqE_run rfl _ _ _) rfl ?_
  refine wl_pick (.tmp 18) (.tmp 20) (.const (.bool false)) true (.bool true) (fun _ => rfl) rfl rfl rfl ?_
  refine wl_mv (.tmp 21) (.bool true) (fun _ => rfl) rfl rfl ?_
  refine wl_load 26 (.tmp 2) (pt k2 0) (.agg #[.bool false, .int .u64 300, .int .u64 0, .int .u64 0, .int .u64 0, .int .i64 2]) rfl rfl (run_row Q2 26 0 6 [.bool false, .int .u64 300, .int .u64 0, .int .u64 0, .int .u64 0, .int .i64 2] rfl Tryd.underlying26 rfl sz26) rfl ?_
  refine wl_build 24 [(0, (.const (.int .u64 (300))))] [(0, .int .u64 (300))] (.agg #[.int .u64 (300), .int .u64 0, .int .u64 0, .int .u64 0]) rfl rfl (by kernel_rfl) rfl ?_
  refine wl_build 26 [(1, (.tmp 24)), (2, (.const (.int .i64 (2))))] [(1, .agg #[.int .u64 (300), .int .u64 0, .int .u64 0, .int .u64 0]), (2, .int .i64 (2))] (.agg #[.bool false, .int .u64 (300), .int .u64 0, .int .u64 0, .int .u64 0, .int .i64 (2)]) rfl rfl (by kernel_rfl) rfl ?_
  refine wl_bin (fun x y => do eqGuard .eql 26 (.tmp 23) (.tmp 25) x y; binOp .eql 26 x y) (.tmp 23) (.tmp 25) (.agg #[.bool false, .int .u64 300, .int .u64 0, .int .u64 0, .int .u64 0, .int .i64 2]) (.agg #[.bool false, .int .u64 (300), .int .u64 0, .int .u64 0, .int .u64 0, .int .i64 (2)]) (.bool true) (fun _ => rfl) rfl rfl (eqd_run (r := true) rfl _ _ _) rfl ?_
  refine wl_pick (.tmp 22) (.tmp 26) (.const (.bool false)) true (.bool true) (fun _ => rfl) rfl rfl rfl ?_
  refine wl_mv (.tmp 27) (.bool true) (fun _ => rfl) rfl rfl ?_
  refine wl_call 17 [(.const (.string ⟨#[49, 46, 53, 46, 50]⟩))] _ [.string ⟨#[49, 46, 53, 46, 50]⟩] (.int .i64 (3)) rfl rfl (fun _ _ => by kernel_rfl) (prefix_lv _) rfl ?_
  intro w8 hq
  replace Q1 := Q1.mo hq
  replace Q2 := Q2.mo hq
  replace M := M.trans hq
  clear hq
  refine wl_bin (fun x y => do eqGuard .eql 3 (.tmp 29) (.const (.int .i64 (3))) x y; binOp .eql 3 x y) (.tmp 29) (.const (.int .i64 (3))) (.int .i64 (3)) (.int .i64 (3)) (.bool true) (fun _ => rfl) rfl rfl (eq3_run (r := true) rfl _ _ _) rfl ?_
  refine wl_pick (.tmp 28) (.tmp 30) (.const (.bool false)) true (.bool true) (fun _ => rfl) rfl rfl rfl ?_
  refine wl_mv (.tmp 31) (.bool true) (fun _ => rfl) rfl rfl ?_
  refine w_nil ?_
  refine xn_then ?_
  refine w_ret ?_
  exact w_ret1 _ (.bool true) rfl rfl ⟨rfl, M⟩
end Go.Proofs.YtdcojpbgijkmgaaDoor.V
/-
  A text's beginning and end, as operations.
-/
namespace Go.Proofs.YtdcojpbgijkmgaaDoor
open Go.RowKit Go.Lib
theorem take_tx (l : List UInt8) (j : Nat) : Value.string ((⟨l.toArray⟩ : ByteArray).extract 0 j) = tx (l.take j) := by
  rw [tx_of, by8_ext]; rfl
theorem drop_tx (l : List UInt8) (j : Nat) : Value.string ((⟨l.toArray⟩ : ByteArray).extract j (⟨l.toArray⟩ : ByteArray).size) = tx (l.drop j) := by
  rw [tx_of, by8_ext, tx_size]
  have : ((by8 (⟨l.toArray⟩ : ByteArray)).drop j).take (l.length - j) = l.drop j := List.take_of_length_le (by simp [by8])
  rw [this]
theorem hi_run (ρ : Operand → Value) (x y : Operand) (l : List UInt8) (j : Nat) (hx : ρ x = tx l) (hy : ρ y = .int .i64 (j : Int)) (hj : j ≤ l.length) (dst : Option Tmp) (type : TypeId) (pos : String) (after : Array Edge) (guard : Option (Nat × Bool)) (w : World) :
    (execOp ρ { dst, op := .slice 9 x none (some y) none, type, pos, after, guard }).run Tryd.prog w = .ok (.value (tx (l.take j))) w := by
  have h1 : (j : Int) ≤ ((⟨l.toArray⟩ : ByteArray).size : Int) := by rw [tx_size]; omega
  have h0 : (0 : Int) ≤ (j : Int) := by omega
  rw [← take_tx]
  unfold tx at hx
  generalize (⟨l.toArray⟩ : ByteArray) = s at *
  simp [go_sem, hx, hy, h1, h0]
theorem lo_run (ρ : Operand → Value) (x y : Operand) (l : List UInt8) (j : Nat) (hx : ρ x = tx l) (hy : ρ y = .int .i64 (j : Int)) (hj : j ≤ l.length) (dst : Option Tmp) (type : TypeId) (pos : String) (after : Array Edge) (guard : Option (Nat × Bool)) (w : World) :
    (execOp ρ { dst, op := .slice 9 x (some y) none none, type, pos, after, guard }).run Tryd.prog w = .ok (.value (tx (l.drop j))) w := by
  have h1 : (j : Int) ≤ ((⟨l.toArray⟩ : ByteArray).size : Int) := by rw [tx_size]; omega
  have h0 : (0 : Int) ≤ (j : Int) := by omega
  rw [← drop_tx]
  unfold tx at hx
  generalize (⟨l.toArray⟩ : ByteArray) = s at *
  simp [go_sem, hx, hy, h1, h0]
theorem catl_run (a b : List UInt8) (h : a.length + b.length ≤ 9223372036854775807) (x y : Operand) (w : World) : (do eqGuard .add 9 x y (tx a) (tx b); binOp .add 9 (tx a) (tx b)).run Tryd.prog w = .ok (tx (a ++ b)) w := by
  have e : tx (a ++ b) = .string ((⟨a.toArray⟩ : ByteArray) ++ ⟨b.toArray⟩) := by rw [tx_of, by8_app]
  rw [e]; exact V.cat_run _ _ (by rw [tx_size, tx_size]; exact h) x y w
theorem leq3_run {a b : Int} {r : Bool} (h : decide (a ≤ b) = r) (x y : Operand) (w : World) : (do eqGuard .leq 3 x y (.int .i64 a) (.int .i64 b); binOp .leq 3 (.int .i64 a) (.int .i64 b)).run Tryd.prog w = .ok (.bool r) w := by
  subst h; kernel_rfl
theorem sub3_run {a b c : Nat} (h : a = b + c) (hc : a ≤ 9223372036854775807) (x y : Operand) (w : World) : (do eqGuard .sub 3 x y (.int .i64 (a : Int)) (.int .i64 (b : Int)); binOp .sub 3 (.int .i64 (a : Int)) (.int .i64 (b : Int))).run Tryd.prog w = .ok (.int .i64 (c : Int)) w := by
  have e : (do eqGuard .sub 3 x y (.int .i64 (a : Int)) (.int .i64 (b : Int)); binOp .sub 3 (.int .i64 (a : Int)) (.int .i64 (b : Int))).run Tryd.prog w = .ok (.int .i64 (IntKind.i64.wrap ((a : Int) - (b : Int)))) w := by kernel_rfl
  have h2 : IntKind.i64.wrap ((a : Int) - (b : Int)) = (c : Int) := by rw [IntKind.wrap_i64]; omega
  rw [e, h2]
end Go.Proofs.YtdcojpbgijkmgaaDoor
/-
  exciseref03.whole: is a text a decimal one?
-/
namespace Go.Proofs.YtdcojpbgijkmgaaDoor
open Go.RowKit
theorem w_cut {P : Program} {n : Nat} {l : List (Nat × Value)} {w : World} {Q : Exit → Act → World → Prop} {x y : Code} (I : List (Nat × Value) → World → Prop) (h2 : ∀ l w, I l w → WC P y Q n l w) (h : WC P x (Exit.then (fun a w' => ∃ l', a = fr n l' ∧ I l' w') Q) n l w) : WC P (Code.seq x y) Q n l w :=
  w_seq ⟨wp_mono h.out fun e a w' hq => by
    cases e with
    | normal => obtain ⟨l', rfl, hI⟩ := hq; exact (h2 l' w' hI).out
    | _ => exact hq⟩
theorem xn_cut {n : Nat} {l : List (Nat × Value)} {w : World} {Q : Exit → Act → World → Prop} {I : List (Nat × Value) → World → Prop} (h : I l w) : WX (Exit.then (fun a w' => ∃ l', a = fr n l' ∧ I l' w') Q) .normal n l w := ⟨⟨l, rfl, h⟩⟩
theorem len_s (ρ : Operand → Value) (x : Operand) (s : ByteArray) (hx : ρ x = .string s) (dst : Option Tmp) (type : TypeId) (pos : String) (after : Array Edge) (guard : Option (Nat × Bool)) (w : World) : (execOp ρ { dst, op := .call { callee := .builtin .len, args := #[x], argTypes := #[9] }, type, pos, after, guard }).run Tryd.prog w = .ok (.value (.int .i64 (s.size : Int))) w := by
  simp [go_sem, hx]
theorem ltN {a b : Nat} {r : Bool} (h : decide (a < b) = r) (x y : Operand) (w : World) : (do eqGuard .lss 3 x y (.int .i64 (a : Int)) (.int .i64 (b : Int)); binOp .lss 3 (.int .i64 (a : Int)) (.int .i64 (b : Int))).run Tryd.prog w = .ok (.bool r) w :=
  lt3_run (by rw [← h]; exact decide_eq_decide.2 Int.ofNat_lt) _ _ _
theorem gtN {a b : Nat} {r : Bool} (h : decide (b < a) = r) (x y : Operand) (w : World) : (do eqGuard .gtr 3 x y (.int .i64 (a : Int)) (.int .i64 (b : Int)); binOp .gtr 3 (.int .i64 (a : Int)) (.int .i64 (b : Int))).run Tryd.prog w = .ok (.bool r) w :=
  gt3_run (by rw [← h]; exact decide_eq_decide.2 Int.ofNat_lt) _ _ _
theorem eqN {a b : Nat} {r : Bool} (h : decide (a = b) = r) (x y : Operand) (w : World) : (do eqGuard .eql 3 x y (.int .i64 (a : Int)) (.int .i64 (b : Int)); binOp .eql 3 (.int .i64 (a : Int)) (.int .i64 (b : Int))).run Tryd.prog w = .ok (.bool r) w :=
  eq3_run (by rw [← h, Bool.eq_iff_iff, beq_iff_eq, decide_eq_true_iff]; omega) _ _ _
theorem idx_b {s : ByteArray} {k : Nat} (h : k < s.size) (w : World) : (Instr.index 9 (.string s) (.int .i64 (k : Int))).run Tryd.prog w = .ok (.int .u8 (bt s k)) w := by
  rw [bt_in h]
  simp [go_sem, h]
theorem digit_c {c : Int} {r : Bool} (h : dgt c = r) (w : World) : Calls Tryd.prog 32 #[.int .u8 c] w fun e w' => e = .returned (.bool r) ∧ Mo w w' := h ▸ digit_n c w
theorem whole_n (s : ByteArray) (w : World) (hs : s.size ≤ maxLen) : Calls Tryd.prog 31 #[.string s] w fun e w' => e = .returned (.bool (whl s)) ∧ Mo w w' := by
  replace hs : s.size ≤ 9223372036854775807 := by unfold maxLen at hs; exact hs
  refine w_enter 95 Tryd.func31 Tryd.ntmps31 rfl rfl ?_
  have M : Mo w w := Mo.refl _
  refine w_seq ?_
  refine w_reg ?_
  refine wl_mv (.const (.bool false)) (.bool false) (fun _ => rfl) rfl rfl ?_
  refine w_nil ?_
  refine xn_then ?_
  refine w_seq ?_
  refine w_reg ?_
  refine wl_mv (.const (.bool false)) (.bool false) (fun _ => rfl) rfl rfl ?_
  refine w_nil ?_
  refine xn_then ?_
  refine w_seq ?_
  refine w_reg ?_
  refine wl_mv (.const (.int .i64 (0))) (.int .i64 (0)) (fun _ => rfl) rfl rfl ?_
  refine w_nil ?_
  refine xn_then ?_
  refine w_cut (fun l w1 => ∃ (p : Nat) (b : Bool), look l 0 = .string s ∧ look l 3 = .bool false ∧ look l 4 = .int .i64 (p : Int) ∧ p ≤ s.size ∧ p ≤ 1 ∧ whl s = whp s p b ∧ b = (bt s 0 == 45) ∧ Mo w w1) ?_ ?_
  · skip
    clear M
    rintro l wa ⟨p, b, e0, e3, e4, hps, hp1, hw0, hb, M⟩
    refine w_seq ?_
    refine w_reg ?_
    refine wl_mv (.tmp 4) (.int .i64 ((p : Nat) : Int)) (fun _ => rfl) e4 rfl ?_
    refine wl_mv (.tmp 19) (.int .i64 ((p : Nat) : Int)) (fun _ => rfl) rfl rfl ?_
    refine w_nil ?_
    refine xn_then ?_
    refine w_cut (fun l w1 => ∃ (i : Nat) (o : Bool), look l 0 = .string s ∧ look l 3 = .bool o ∧ look l 4 = .int .i64 (i : Int) ∧ look l 5 = .int .i64 (p : Int) ∧ p ≤ i ∧ i ≤ s.size ∧ re s p = i ∧ az s p = (!o) ∧ Mo w w1) ?_ ?_
    · skip
      clear M
      rintro l wb ⟨i, o, e0, e3, e4, e5, hpi, his, hre, haz, M⟩
      have hW : whl s = (decide (i ≠ p) && !((bt s p == 48) && decide (i > p + 1)) && (if i < s.size then (bt s i == 46) && decide (i + 1 ≠ s.size) && decide (re s (i + 1) = s.size) && (o || !az s (i + 1) || !b) else (o || !b))) := by rw [hw0]; unfold whp; rw [hre, haz, Bool.not_not]
      refine w_seq ?_
      refine w_seq ?_
      cases hf0 : decide (i = p) with
      | true =>
        have hf0p := of_decide_eq_true hf0
        refine w_reg ?_
        refine wl_mv (.tmp 4) (.int .i64 ((i : Nat) : Int)) (fun _ => rfl) e4 rfl ?_
        refine wl_mv (.tmp 5) (.int .i64 ((p : Nat) : Int)) (fun _ => rfl) e5 rfl ?_
        refine wl_bin (fun x y => do eqGuard .eql 3 (.tmp 39) (.tmp 40) x y; binOp .eql 3 x y) (.tmp 39) (.tmp 40) (.int .i64 ((i : Nat) : Int)) (.int .i64 ((p : Nat) : Int)) (.bool true) (fun _ => rfl) rfl rfl (eqN hf0 _ _ _) rfl ?_
        refine wl_mv (.tmp 41) (.bool true) (fun _ => rfl) rfl rfl ?_
        refine wl_skip rfl ?_
        refine wl_skip rfl ?_
        refine wl_skip rfl ?_
        refine wl_skip rfl ?_
        refine wl_skip rfl ?_
        refine wl_skip rfl ?_
        refine wl_skip rfl ?_
        refine wl_skip rfl ?_
        refine wl_skip rfl ?_
        refine wl_skip rfl ?_
        refine wl_pick (.tmp 42) (.const (.bool true)) (.tmp 52) true (.bool true) (fun _ => rfl) rfl rfl rfl ?_
        refine w_nil ?_
        refine xn_then ?_
        refine w_condT rfl ?_
        refine w_seq ?_
        refine w_reg ?_
        refine wl_mv (.const (.bool false)) (.bool false) (fun _ => rfl) rfl rfl ?_
        refine w_nil ?_
        refine xn_then ?_
        refine w_ret ?_
        refine xr_then ?_
        have hfin : whl s = false := by rw [hW]; first | (simp [hf0p]; done) | (simp [hf0p]; omega)
        exact w_ret1 _ (.bool false) rfl rfl ⟨by rw [hfin], M⟩
      | false =>
        have hf0p := of_decide_eq_false hf0
        cases hf1 : (bt s (p) == 48) with
        | true =>
          cases hf2 : decide (p + 1 < i) with
          | true =>
            have hf2p := of_decide_eq_true hf2
            refine w_reg ?_
            refine wl_mv (.tmp 4) (.int .i64 ((i : Nat) : Int)) (fun _ => rfl) e4 rfl ?_
            refine wl_mv (.tmp 5) (.int .i64 ((p : Nat) : Int)) (fun _ => rfl) e5 rfl ?_
            refine wl_bin (fun x y => do eqGuard .eql 3 (.tmp 39) (.tmp 40) x y; binOp .eql 3 x y) (.tmp 39) (.tmp 40) (.int .i64 ((i : Nat) : Int)) (.int .i64 ((p : Nat) : Int)) (.bool false) (fun _ => rfl) rfl rfl (eqN hf0 _ _ _) rfl ?_
            refine wl_mv (.tmp 41) (.bool false) (fun _ => rfl) rfl rfl ?_
            refine wl_mv (.tmp 0) (.string s) (fun _ => rfl) e0 rfl ?_
            refine wl_mv (.tmp 5) (.int .i64 ((p : Nat) : Int)) (fun _ => rfl) e5 rfl ?_
            refine wl_bin (fun x y => Instr.index 9 x y) (.tmp 43) (.tmp 44) (.string s) (.int .i64 ((p : Nat) : Int)) (.int .u8 (bt s (p))) (fun _ => rfl) rfl rfl (idx_b (by omega) _) rfl ?_
            refine wl_bin (fun x y => do eqGuard .eql 5 (.tmp 45) (.const (.int .u8 (48))) x y; binOp .eql 5 x y) (.tmp 45) (.const (.int .u8 (48))) (.int .u8 (bt s (p))) (.int .u8 (48)) (.bool true) (fun _ => rfl) rfl rfl (eq5r hf1 _ _ _) rfl ?_
            refine wl_mv (.tmp 46) (.bool true) (fun _ => rfl) rfl rfl ?_
            refine wl_mv (.tmp 4) (.int .i64 ((i : Nat) : Int)) (fun _ => rfl) e4 rfl ?_
            refine wl_mv (.tmp 5) (.int .i64 ((p : Nat) : Int)) (fun _ => rfl) e5 rfl ?_
            refine wl_bin (fun x y => do eqGuard .add 3 (.tmp 49) (.const (.int .i64 (1))) x y; binOp .add 3 x y) (.tmp 49) (.const (.int .i64 (1))) (.int .i64 ((p : Nat) : Int)) (.int .i64 (1)) (.int .i64 ((p + 1 : Nat) : Int)) (fun _ => rfl) rfl rfl (add1r (k := p) (by omega) _ _ _) rfl ?_
            refine wl_bin (fun x y => do eqGuard .gtr 3 (.tmp 48) (.tmp 50) x y; binOp .gtr 3 x y) (.tmp 48) (.tmp 50) (.int .i64 ((i : Nat) : Int)) (.int .i64 ((p + 1 : Nat) : Int)) (.bool true) (fun _ => rfl) rfl rfl (gtN hf2 _ _ _) rfl ?_
            refine wl_pick (.tmp 47) (.tmp 51) (.const (.bool false)) true (.bool true) (fun _ => rfl) rfl rfl rfl ?_
            refine wl_pick (.tmp 42) (.const (.bool true)) (.tmp 52) false (.bool true) (fun _ => rfl) rfl rfl rfl ?_
            refine w_nil ?_
            refine xn_then ?_
            refine w_condT rfl ?_
            refine w_seq ?_
            refine w_reg ?_
            refine wl_mv (.const (.bool false)) (.bool false) (fun _ => rfl) rfl rfl ?_
            refine w_nil ?_
            refine xn_then ?_
            refine w_ret ?_
            refine xr_then ?_
            have hfin : whl s = false := by rw [hW]; first | (simp [hf0p, hf1, hf2p]; done) | (simp [hf0p, hf1, hf2p]; omega)
            exact w_ret1 _ (.bool false) rfl rfl ⟨by rw [hfin], M⟩
          | false =>
            have hf2p := of_decide_eq_false hf2
            refine w_reg ?_
            refine wl_mv (.tmp 4) (.int .i64 ((i : Nat) : Int)) (fun _ => rfl) e4 rfl ?_
            refine wl_mv (.tmp 5) (.int .i64 ((p : Nat) : Int)) (fun _ => rfl) e5 rfl ?_
            refine wl_bin (fun x y => do eqGuard .eql 3 (.tmp 39) (.tmp 40) x y; binOp .eql 3 x y) (.tmp 39) (.tmp 40) (.int .i64 ((i : Nat) : Int)) (.int .i64 ((p : Nat) : Int)) (.bool false) (fun _ => rfl) rfl rfl (eqN hf0 _ _ _) rfl ?_
            refine wl_mv (.tmp 41) (.bool false) (fun _ => rfl) rfl rfl ?_
            refine wl_mv (.tmp 0) (.string s) (fun _ => rfl) e0 rfl ?_
            refine wl_mv (.tmp 5) (.int .i64 ((p : Nat) : Int)) (fun _ => rfl) e5 rfl ?_
            refine wl_bin (fun x y => Instr.index 9 x y) (.tmp 43) (.tmp 44) (.string s) (.int .i64 ((p : Nat) : Int)) (.int .u8 (bt s (p))) (fun _ => rfl) rfl rfl (idx_b (by omega) _) rfl ?_
            refine wl_bin (fun x y => do eqGuard .eql 5 (.tmp 45) (.const (.int .u8 (48))) x y; binOp .eql 5 x y) (.tmp 45) (.const (.int .u8 (48))) (.int .u8 (bt s (p))) (.int .u8 (48)) (.bool true) (fun _ => rfl) rfl rfl (eq5r hf1 _ _ _) rfl ?_
            refine wl_mv (.tmp 46) (.bool true) (fun _ => rfl) rfl rfl ?_
            refine wl_mv (.tmp 4) (.int .i64 ((i : Nat) : Int)) (fun _ => rfl) e4 rfl ?_
            refine wl_mv (.tmp 5) (.int .i64 ((p : Nat) : Int)) (fun _ => rfl) e5 rfl ?_
            refine wl_bin (fun x y => do eqGuard .add 3 (.tmp 49) (.const (.int .i64 (1))) x y; binOp .add 3 x y) (.tmp 49) (.const (.int .i64 (1))) (.int .i64 ((p : Nat) : Int)) (.int .i64 (1)) (.int .i64 ((p + 1 : Nat) : Int)) (fun _ => rfl) rfl rfl (add1r (k := p) (by omega) _ _ _) rfl ?_
            refine wl_bin (fun x y => do eqGuard .gtr 3 (.tmp 48) (.tmp 50) x y; binOp .gtr 3 x y) (.tmp 48) (.tmp 50) (.int .i64 ((i : Nat) : Int)) (.int .i64 ((p + 1 : Nat) : Int)) (.bool false) (fun _ => rfl) rfl rfl (gtN hf2 _ _ _) rfl ?_
            refine wl_pick (.tmp 47) (.tmp 51) (.const (.bool false)) true (.bool false) (fun _ => rfl) rfl rfl rfl ?_
            refine wl_pick (.tmp 42) (.const (.bool true)) (.tmp 52) false (.bool false) (fun _ => rfl) rfl rfl rfl ?_
            refine w_nil ?_
            refine xn_then ?_
            refine w_condF rfl ?_
            refine w_skip ?_
            refine xn_then ?_
            refine w_cut (fun l w1 => ∃ (o2 : Bool), look l 0 = .string s ∧ look l 3 = .bool o2 ∧ whl s = (o2 || !b) ∧ 0 < s.size ∧ Mo w w1) ?_ ?_
            · skip
              clear M
              rintro l wc ⟨o2, e0, e3, hW2, hs0, M⟩
              refine w_seq ?_
              cases o2 with
              | true =>
                refine w_reg ?_
                refine wl_mv (.tmp 3) (.bool true) (fun _ => rfl) e3 rfl ?_
                refine wl_mv (.tmp 89) (.bool true) (fun _ => rfl) rfl rfl ?_
                refine wl_skip rfl ?_
                refine wl_skip rfl ?_
                refine wl_skip rfl ?_
                refine wl_pick (.tmp 90) (.const (.bool true)) (.tmp 93) true (.bool true) (fun _ => rfl) rfl rfl rfl ?_
                refine wl_mv (.tmp 94) (.bool true) (fun _ => rfl) rfl rfl ?_
                refine w_nil ?_
                refine xn_then ?_
                refine w_ret ?_
                have hfin : whl s = true := by rw [hW2, hb, ]; rfl
                exact w_ret1 _ (.bool true) rfl rfl ⟨by rw [hfin], M⟩
              | false =>
                cases hf3 : (bt s (0) == 45) with
                | true =>
                  refine w_reg ?_
                  refine wl_mv (.tmp 3) (.bool false) (fun _ => rfl) e3 rfl ?_
                  refine wl_mv (.tmp 89) (.bool false) (fun _ => rfl) rfl rfl ?_
                  refine wl_mv (.tmp 0) (.string s) (fun _ => rfl) e0 rfl ?_
                  refine wl_bin (fun x y => Instr.index 9 x y) (.tmp 91) (.const (.int .i64 (0))) (.string s) (.int .i64 (0)) (.int .u8 (bt s (0))) (fun _ => rfl) rfl rfl (idx_b (by omega) _) rfl ?_
                  refine wl_bin (fun x y => do eqGuard .neq 5 (.tmp 92) (.const (.int .u8 (45))) x y; binOp .neq 5 x y) (.tmp 92) (.const (.int .u8 (45))) (.int .u8 (bt s (0))) (.int .u8 (45)) (.bool false) (fun _ => rfl) rfl rfl (ne5r hf3 _ _ _) rfl ?_
                  refine wl_pick (.tmp 90) (.const (.bool true)) (.tmp 93) false (.bool false) (fun _ => rfl) rfl rfl rfl ?_
                  refine wl_mv (.tmp 94) (.bool false) (fun _ => rfl) rfl rfl ?_
                  refine w_nil ?_
                  refine xn_then ?_
                  refine w_ret ?_
                  have hfin : whl s = false := by rw [hW2, hb, hf3]; rfl
                  exact w_ret1 _ (.bool false) rfl rfl ⟨by rw [hfin], M⟩
                | false =>
                  refine w_reg ?_
                  refine wl_mv (.tmp 3) (.bool false) (fun _ => rfl) e3 rfl ?_
                  refine wl_mv (.tmp 89) (.bool false) (fun _ => rfl) rfl rfl ?_
                  refine wl_mv (.tmp 0) (.string s) (fun _ => rfl) e0 rfl ?_
                  refine wl_bin (fun x y => Instr.index 9 x y) (.tmp 91) (.const (.int .i64 (0))) (.string s) (.int .i64 (0)) (.int .u8 (bt s (0))) (fun _ => rfl) rfl rfl (idx_b (by omega) _) rfl ?_
                  refine wl_bin (fun x y => do eqGuard .neq 5 (.tmp 92) (.const (.int .u8 (45))) x y; binOp .neq 5 x y) (.tmp 92) (.const (.int .u8 (45))) (.int .u8 (bt s (0))) (.int .u8 (45)) (.bool true) (fun _ => rfl) rfl rfl (ne5r hf3 _ _ _) rfl ?_
                  refine wl_pick (.tmp 90) (.const (.bool true)) (.tmp 93) false (.bool true) (fun _ => rfl) rfl rfl rfl ?_
                  refine wl_mv (.tmp 94) (.bool true) (fun _ => rfl) rfl rfl ?_
                  refine w_nil ?_
                  refine xn_then ?_
                  refine w_ret ?_
                  have hfin : whl s = true := by rw [hW2, hb, hf3]; rfl
                  exact w_ret1 _ (.bool true) rfl rfl ⟨by rw [hfin], M⟩
            · skip
              refine w_seq ?_
              cases hf3 : decide (i < s.size) with
              | true =>
                have hf3p := of_decide_eq_true hf3
                refine w_reg ?_
                refine wl_mv (.tmp 4) (.int .i64 ((i : Nat) : Int)) (fun _ => rfl) e4 rfl ?_
                refine wl_mv (.tmp 0) (.string s) (fun _ => rfl) e0 rfl ?_
                refine wl_val (.int .i64 ((s.size : Nat) : Int)) (len_s _ _ s (by exact rfl) _ _ _ _ _ _) rfl ?_
                refine wl_bin (fun x y => do eqGuard .lss 3 (.tmp 54) (.tmp 56) x y; binOp .lss 3 x y) (.tmp 54) (.tmp 56) (.int .i64 ((i : Nat) : Int)) (.int .i64 ((s.size : Nat) : Int)) (.bool true) (fun _ => rfl) rfl rfl (ltN hf3 _ _ _) rfl ?_
                refine w_nil ?_
                refine xn_then ?_
                refine w_condT rfl ?_
                refine w_seq ?_
                refine w_seq ?_
                cases hf4 : (bt s (i) == 46) with
                | true =>
                  cases hf5 : decide (i + 1 = s.size) with
                  | true =>
                    have hf5p := of_decide_eq_true hf5
                    refine w_reg ?_
                    refine wl_mv (.tmp 0) (.string s) (fun _ => rfl) e0 rfl ?_
                    refine wl_mv (.tmp 4) (.int .i64 ((i : Nat) : Int)) (fun _ => rfl) e4 rfl ?_
                    refine wl_bin (fun x y => Instr.index 9 x y) (.tmp 58) (.tmp 59) (.string s) (.int .i64 ((i : Nat) : Int)) (.int .u8 (bt s (i))) (fun _ => rfl) rfl rfl (idx_b (by omega) _) rfl ?_
                    refine wl_bin (fun x y => do eqGuard .neq 5 (.tmp 60) (.const (.int .u8 (46))) x y; binOp .neq 5 x y) (.tmp 60) (.const (.int .u8 (46))) (.int .u8 (bt s (i))) (.int .u8 (46)) (.bool false) (fun _ => rfl) rfl rfl (ne5r hf4 _ _ _) rfl ?_
                    refine wl_mv (.tmp 61) (.bool false) (fun _ => rfl) rfl rfl ?_
                    refine wl_mv (.tmp 4) (.int .i64 ((i : Nat) : Int)) (fun _ => rfl) e4 rfl ?_
                    refine wl_bin (fun x y => do eqGuard .add 3 (.tmp 63) (.const (.int .i64 (1))) x y; binOp .add 3 x y) (.tmp 63) (.const (.int .i64 (1))) (.int .i64 ((i : Nat) : Int)) (.int .i64 (1)) (.int .i64 ((i + 1 : Nat) : Int)) (fun _ => rfl) rfl rfl (add1r (k := i) (by omega) _ _ _) rfl ?_
                    refine wl_mv (.tmp 0) (.string s) (fun _ => rfl) e0 rfl ?_
                    refine wl_val (.int .i64 ((s.size : Nat) : Int)) (len_s _ _ s (by exact rfl) _ _ _ _ _ _) rfl ?_
                    refine wl_bin (fun x y => do eqGuard .eql 3 (.tmp 64) (.tmp 66) x y; binOp .eql 3 x y) (.tmp 64) (.tmp 66) (.int .i64 ((i + 1 : Nat) : Int)) (.int .i64 ((s.size : Nat) : Int)) (.bool true) (fun _ => rfl) rfl rfl (eqN hf5 _ _ _) rfl ?_
                    refine wl_pick (.tmp 62) (.const (.bool true)) (.tmp 67) false (.bool true) (fun _ => rfl) rfl rfl rfl ?_
                    refine w_nil ?_
                    refine xn_then ?_
                    refine w_condT rfl ?_
                    refine w_seq ?_
                    refine w_reg ?_
                    refine wl_mv (.const (.bool false)) (.bool false) (fun _ => rfl) rfl rfl ?_
                    refine w_nil ?_
                    refine xn_then ?_
                    refine w_ret ?_
                    refine xr_then ?_
                    refine xr_then ?_
                    have hfin : whl s = false := by rw [hW]; first | (simp [hf0p, hf1, hf2p, hf3p, hf4, hf5p]; done) | (simp [hf0p, hf1, hf2p, hf3p, hf4, hf5p]; omega)
                    exact w_ret1 _ (.bool false) rfl rfl ⟨by rw [hfin], M⟩
                  | false =>
                    have hf5p := of_decide_eq_false hf5
                    refine w_reg ?_
                    refine wl_mv (.tmp 0) (.string s) (fun _ => rfl) e0 rfl ?_
                    refine wl_mv (.tmp 4) (.int .i64 ((i : Nat) : Int)) (fun _ => rfl) e4 rfl ?_
                    refine wl_bin (fun x y => Instr.index 9 x y) (.tmp 58) (.tmp 59) (.string s) (.int .i64 ((i : Nat) : Int)) (.int .u8 (bt s (i))) (fun _ => rfl) rfl rfl (idx_b (by omega) _) rfl ?_
                    refine wl_bin (fun x y => do eqGuard .neq 5 (.tmp 60) (.const (.int .u8 (46))) x y; binOp .neq 5 x y) (.tmp 60) (.const (.int .u8 (46))) (.int .u8 (bt s (i))) (.int .u8 (46)) (.bool false) (fun _ => rfl) rfl rfl (ne5r hf4 _ _ _) rfl ?_
                    refine wl_mv (.tmp 61) (.bool false) (fun _ => rfl) rfl rfl ?_
                    refine wl_mv (.tmp 4) (.int .i64 ((i : Nat) : Int)) (fun _ => rfl) e4 rfl ?_
                    refine wl_bin (fun x y => do eqGuard .add 3 (.tmp 63) (.const (.int .i64 (1))) x y; binOp .add 3 x y) (.tmp 63) (.const (.int .i64 (1))) (.int .i64 ((i : Nat) : Int)) (.int .i64 (1)) (.int .i64 ((i + 1 : Nat) : Int)) (fun _ => rfl) rfl rfl (add1r (k := i) (by omega) _ _ _) rfl ?_
                    refine wl_mv (.tmp 0) (.string s) (fun _ => rfl) e0 rfl ?_
                    refine wl_val (.int .i64 ((s.size : Nat) : Int)) (len_s _ _ s (by exact rfl) _ _ _ _ _ _) rfl ?_
                    refine wl_bin (fun x y => do eqGuard .eql 3 (.tmp 64) (.tmp 66) x y; binOp .eql 3 x y) (.tmp 64) (.tmp 66) (.int .i64 ((i + 1 : Nat) : Int)) (.int .i64 ((s.size : Nat) : Int)) (.bool false) (fun _ => rfl) rfl rfl (eqN hf5 _ _ _) rfl ?_
                    refine wl_pick (.tmp 62) (.const (.bool true)) (.tmp 67) false (.bool false) (fun _ => rfl) rfl rfl rfl ?_
                    refine w_nil ?_
                    refine xn_then ?_
                    refine w_condF rfl ?_
                    refine w_skip ?_
                    refine xn_then ?_
                    refine w_seq ?_
                    refine w_reg ?_
                    refine wl_mv (.tmp 4) (.int .i64 ((i : Nat) : Int)) (fun _ => rfl) e4 rfl ?_
                    refine wl_bin (fun x y => do eqGuard .add 3 (.tmp 69) (.const (.int .i64 (1))) x y; binOp .add 3 x y) (.tmp 69) (.const (.int .i64 (1))) (.int .i64 ((i : Nat) : Int)) (.int .i64 (1)) (.int .i64 ((i + 1 : Nat) : Int)) (fun _ => rfl) rfl rfl (add1r (k := i) (by omega) _ _ _) rfl ?_
                    refine wl_mv (.tmp 70) (.int .i64 ((i + 1 : Nat) : Int)) (fun _ => rfl) rfl rfl ?_
                    refine w_nil ?_
                    refine xn_then ?_
                    refine w_block ?_
                    refine w_loop (fun m l w1 => ∃ (k : Nat) (o2 : Bool), m = s.size - k ∧ look l 0 = .string s ∧ look l 3 = .bool o2 ∧ look l 6 = .int .i64 (k : Int) ∧ i + 1 ≤ k ∧ k ≤ s.size ∧ re s k = re s (i + 1) ∧ (o2 || !az s k) = (o || !az s (i + 1)) ∧ Mo w w1) _ ⟨i + 1, o, rfl, e0, e3, rfl, by omega, by omega, rfl, rfl, M⟩ ?_
                    clear M
                    rintro m2 l2 wl2 ⟨k, o2, rfl, e0, e3, e6, hik, hks, hrk, hzk, M⟩
                    refine w_seq ?_
                    refine w_seq ?_
                    cases hf6 : decide (k < s.size) with
                    | true =>
                      have hf6p := of_decide_eq_true hf6
                      refine w_reg ?_
                      refine wl_mv (.tmp 6) (.int .i64 ((k : Nat) : Int)) (fun _ => rfl) e6 rfl ?_
                      refine wl_mv (.tmp 0) (.string s) (fun _ => rfl) e0 rfl ?_
                      refine wl_val (.int .i64 ((s.size : Nat) : Int)) (len_s _ _ s (by exact rfl) _ _ _ _ _ _) rfl ?_
                      refine wl_bin (fun x y => do eqGuard .lss 3 (.tmp 71) (.tmp 73) x y; binOp .lss 3 x y) (.tmp 71) (.tmp 73) (.int .i64 ((k : Nat) : Int)) (.int .i64 ((s.size : Nat) : Int)) (.bool true) (fun _ => rfl) rfl rfl (ltN hf6 _ _ _) rfl ?_
                      refine w_nil ?_
                      refine xn_then ?_
                      refine w_condT rfl ?_
                      refine w_skip ?_
                      refine xn_then ?_
                      refine w_seq ?_
                      refine w_block ?_
                      refine w_seq ?_
                      refine w_seq ?_
                      cases hf7 : dgt (bt s (k)) with
                      | true =>
                        refine w_reg ?_
                        refine wl_mv (.tmp 0) (.string s) (fun _ => rfl) e0 rfl ?_
                        refine wl_mv (.tmp 6) (.int .i64 ((k : Nat) : Int)) (fun _ => rfl) e6 rfl ?_
                        refine wl_bin (fun x y => Instr.index 9 x y) (.tmp 77) (.tmp 78) (.string s) (.int .i64 ((k : Nat) : Int)) (.int .u8 (bt s (k))) (fun _ => rfl) rfl rfl (idx_b (by omega) _) rfl ?_
                        refine wl_call 32 [(.tmp 79)] _ [.int .u8 (bt s (k))] (.bool true) rfl rfl (fun _ _ => by kernel_rfl) (digit_c hf7 _) rfl ?_
                        intro w61 hq
                        replace M := M.trans hq
                        clear hq
                        refine wl_un (fun v => Op.unary .not v) (.tmp 80) (.bool true) (.bool false) (fun _ => rfl) rfl (by kernel_rfl) rfl ?_
                        refine w_nil ?_
                        refine xn_then ?_
                        refine w_condF rfl ?_
                        refine w_skip ?_
                        refine xn_then ?_
                        cases o2 with
                        | true =>
                          refine w_reg ?_
                          refine wl_mv (.tmp 3) (.bool true) (fun _ => rfl) e3 rfl ?_
                          refine wl_mv (.tmp 82) (.bool true) (fun _ => rfl) rfl rfl ?_
                          refine wl_skip rfl ?_
                          refine wl_skip rfl ?_
                          refine wl_skip rfl ?_
                          refine wl_skip rfl ?_
                          refine wl_pick (.tmp 83) (.const (.bool true)) (.tmp 87) true (.bool true) (fun _ => rfl) rfl rfl rfl ?_
                          refine wl_mv (.tmp 88) (.bool true) (fun _ => rfl) rfl rfl ?_
                          refine w_nil ?_
                          refine xn_blk ?_
                          refine xn_then ?_
                          refine w_reg ?_
                          refine wl_mv (.tmp 6) (.int .i64 ((k : Nat) : Int)) (fun _ => rfl) e6 rfl ?_
                          refine wl_bin (fun x y => do eqGuard .add 3 (.tmp 75) (.const (.int .i64 (1))) x y; binOp .add 3 x y) (.tmp 75) (.const (.int .i64 (1))) (.int .i64 ((k : Nat) : Int)) (.int .i64 (1)) (.int .i64 ((k + 1 : Nat) : Int)) (fun _ => rfl) rfl rfl (add1r (k := k) (by omega) _ _ _) rfl ?_
                          refine wl_mv (.tmp 76) (.int .i64 ((k + 1 : Nat) : Int)) (fun _ => rfl) rfl rfl ?_
                          refine w_nil ?_
                          exact xn_loop (s.size - (k + 1)) (by omega) ⟨k + 1, true, rfl, e0, rfl, rfl, by omega, by omega, by rw [← hrk, re_on hf7], by rw [← hzk, az_on hf7]; simp, M⟩
                        | false =>
                          cases hf8 : (bt s (k) == 48) with
                          | true =>
                            refine w_reg ?_
                            refine wl_mv (.tmp 3) (.bool false) (fun _ => rfl) e3 rfl ?_
                            refine wl_mv (.tmp 82) (.bool false) (fun _ => rfl) rfl rfl ?_
                            refine wl_mv (.tmp 0) (.string s) (fun _ => rfl) e0 rfl ?_
                            refine wl_mv (.tmp 6) (.int .i64 ((k : Nat) : Int)) (fun _ => rfl) e6 rfl ?_
                            refine wl_bin (fun x y => Instr.index 9 x y) (.tmp 84) (.tmp 85) (.string s) (.int .i64 ((k : Nat) : Int)) (.int .u8 (bt s (k))) (fun _ => rfl) rfl rfl (idx_b (by omega) _) rfl ?_
                            refine wl_bin (fun x y => do eqGuard .neq 5 (.tmp 86) (.const (.int .u8 (48))) x y; binOp .neq 5 x y) (.tmp 86) (.const (.int .u8 (48))) (.int .u8 (bt s (k))) (.int .u8 (48)) (.bool false) (fun _ => rfl) rfl rfl (ne5r hf8 _ _ _) rfl ?_
                            refine wl_pick (.tmp 83) (.const (.bool true)) (.tmp 87) false (.bool false) (fun _ => rfl) rfl rfl rfl ?_
                            refine wl_mv (.tmp 88) (.bool false) (fun _ => rfl) rfl rfl ?_
                            refine w_nil ?_
                            refine xn_blk ?_
                            refine xn_then ?_
                            refine w_reg ?_
                            refine wl_mv (.tmp 6) (.int .i64 ((k : Nat) : Int)) (fun _ => rfl) e6 rfl ?_
                            refine wl_bin (fun x y => do eqGuard .add 3 (.tmp 75) (.const (.int .i64 (1))) x y; binOp .add 3 x y) (.tmp 75) (.const (.int .i64 (1))) (.int .i64 ((k : Nat) : Int)) (.int .i64 (1)) (.int .i64 ((k + 1 : Nat) : Int)) (fun _ => rfl) rfl rfl (add1r (k := k) (by omega) _ _ _) rfl ?_
                            refine wl_mv (.tmp 76) (.int .i64 ((k + 1 : Nat) : Int)) (fun _ => rfl) rfl rfl ?_
                            refine w_nil ?_
                            exact xn_loop (s.size - (k + 1)) (by omega) ⟨k + 1, false, rfl, e0, rfl, rfl, by omega, by omega, by rw [← hrk, re_on hf7], by rw [← hzk, az_on hf7, hf8]; simp, M⟩
                          | false =>
                            refine w_reg ?_
                            refine wl_mv (.tmp 3) (.bool false) (fun _ => rfl) e3 rfl ?_
                            refine wl_mv (.tmp 82) (.bool false) (fun _ => rfl) rfl rfl ?_
                            refine wl_mv (.tmp 0) (.string s) (fun _ => rfl) e0 rfl ?_
                            refine wl_mv (.tmp 6) (.int .i64 ((k : Nat) : Int)) (fun _ => rfl) e6 rfl ?_
                            refine wl_bin (fun x y => Instr.index 9 x y) (.tmp 84) (.tmp 85) (.string s) (.int .i64 ((k : Nat) : Int)) (.int .u8 (bt s (k))) (fun _ => rfl) rfl rfl (idx_b (by omega) _) rfl ?_
                            refine wl_bin (fun x y => do eqGuard .neq 5 (.tmp 86) (.const (.int .u8 (48))) x y; binOp .neq 5 x y) (.tmp 86) (.const (.int .u8 (48))) (.int .u8 (bt s (k))) (.int .u8 (48)) (.bool true) (fun _ => rfl) rfl rfl (ne5r hf8 _ _ _) rfl ?_
                            refine wl_pick (.tmp 83) (.const (.bool true)) (.tmp 87) false (.bool true) (fun _ => rfl) rfl rfl rfl ?_
                            refine wl_mv (.tmp 88) (.bool true) (fun _ => rfl) rfl rfl ?_
                            refine w_nil ?_
                            refine xn_blk ?_
                            refine xn_then ?_
                            refine w_reg ?_
                            refine wl_mv (.tmp 6) (.int .i64 ((k : Nat) : Int)) (fun _ => rfl) e6 rfl ?_
                            refine wl_bin (fun x y => do eqGuard .add 3 (.tmp 75) (.const (.int .i64 (1))) x y; binOp .add 3 x y) (.tmp 75) (.const (.int .i64 (1))) (.int .i64 ((k : Nat) : Int)) (.int .i64 (1)) (.int .i64 ((k + 1 : Nat) : Int)) (fun _ => rfl) rfl rfl (add1r (k := k) (by omega) _ _ _) rfl ?_
                            refine wl_mv (.tmp 76) (.int .i64 ((k + 1 : Nat) : Int)) (fun _ => rfl) rfl rfl ?_
                            refine w_nil ?_
                            exact xn_loop (s.size - (k + 1)) (by omega) ⟨k + 1, true, rfl, e0, rfl, rfl, by omega, by omega, by rw [← hrk, re_on hf7], by rw [← hzk, az_on hf7, hf8]; simp, M⟩
                      | false =>
                        refine w_reg ?_
                        refine wl_mv (.tmp 0) (.string s) (fun _ => rfl) e0 rfl ?_
                        refine wl_mv (.tmp 6) (.int .i64 ((k : Nat) : Int)) (fun _ => rfl) e6 rfl ?_
                        refine wl_bin (fun x y => Instr.index 9 x y) (.tmp 77) (.tmp 78) (.string s) (.int .i64 ((k : Nat) : Int)) (.int .u8 (bt s (k))) (fun _ => rfl) rfl rfl (idx_b (by omega) _) rfl ?_
                        refine wl_call 32 [(.tmp 79)] _ [.int .u8 (bt s (k))] (.bool false) rfl rfl (fun _ _ => by kernel_rfl) (digit_c hf7 _) rfl ?_
                        intro w61 hq
                        replace M := M.trans hq
                        clear hq
                        refine wl_un (fun v => Op.unary .not v) (.tmp 80) (.bool false) (.bool true) (fun _ => rfl) rfl (by kernel_rfl) rfl ?_
                        refine w_nil ?_
                        refine xn_then ?_
                        refine w_condT rfl ?_
                        refine w_seq ?_
                        refine w_reg ?_
                        refine wl_mv (.const (.bool false)) (.bool false) (fun _ => rfl) rfl rfl ?_
                        refine w_nil ?_
                        refine xn_then ?_
                        refine w_ret ?_
                        refine xr_then ?_
                        refine xr_blk ?_
                        refine xr_then ?_
                        refine xr_then ?_
                        refine xr_blk ?_
                        refine xr_then ?_
                        have hr2 : re s (i + 1) = k := by rw [← hrk, re_end hf7]
                        have hkn : k ≠ s.size := by omega
                        have hfin : whl s = false := by rw [hW, hr2]; simp [hkn, hf0p, hf1, hf2p, hf3p, hf4, hf5p]
                        exact w_ret1 _ (.bool false) rfl rfl ⟨by rw [hfin], M⟩
                    | false =>
                      have hf6p := of_decide_eq_false hf6
                      refine w_reg ?_
                      refine wl_mv (.tmp 6) (.int .i64 ((k : Nat) : Int)) (fun _ => rfl) e6 rfl ?_
                      refine wl_mv (.tmp 0) (.string s) (fun _ => rfl) e0 rfl ?_
                      refine wl_val (.int .i64 ((s.size : Nat) : Int)) (len_s _ _ s (by exact rfl) _ _ _ _ _ _) rfl ?_
                      refine wl_bin (fun x y => do eqGuard .lss 3 (.tmp 71) (.tmp 73) x y; binOp .lss 3 x y) (.tmp 71) (.tmp 73) (.int .i64 ((k : Nat) : Int)) (.int .i64 ((s.size : Nat) : Int)) (.bool false) (fun _ => rfl) rfl rfl (ltN hf6 _ _ _) rfl ?_
                      refine w_nil ?_
                      refine xn_then ?_
                      refine w_condF rfl ?_
                      refine w_exit ?_
                      refine xx_then ?_
                      refine xx_then ?_
                      have hnd2 : dgt (bt s k) = false := by rw [bt_out (by omega)]; rfl
                      have hr2 : re s (i + 1) = s.size := by rw [← hrk, re_end hnd2]; omega
                      rw [az_end hnd2, Bool.not_true, Bool.or_false] at hzk
                      refine xx_blk ?_
                      exact xn_cut ⟨o2, e0, e3, by rw [hW, hr2]; first | (simp [hf0p, hf1, hf2p, hf3p, hf4, hf5p, ← hzk]; done) | (simp [hf0p, hf1, hf2p, hf3p, hf4, hf5p, hf6p, ← hzk]; omega), by omega, M⟩
                | false =>
                  refine w_reg ?_
                  refine wl_mv (.tmp 0) (.string s) (fun _ => rfl) e0 rfl ?_
                  refine wl_mv (.tmp 4) (.int .i64 ((i : Nat) : Int)) (fun _ => rfl) e4 rfl ?_
                  refine wl_bin (fun x y => Instr.index 9 x y) (.tmp 58) (.tmp 59) (.string s) (.int .i64 ((i : Nat) : Int)) (.int .u8 (bt s (i))) (fun _ => rfl) rfl rfl (idx_b (by omega) _) rfl ?_
                  refine wl_bin (fun x y => do eqGuard .neq 5 (.tmp 60) (.const (.int .u8 (46))) x y; binOp .neq 5 x y) (.tmp 60) (.const (.int .u8 (46))) (.int .u8 (bt s (i))) (.int .u8 (46)) (.bool true) (fun _ => rfl) rfl rfl (ne5r hf4 _ _ _) rfl ?_
                  refine wl_mv (.tmp 61) (.bool true) (fun _ => rfl) rfl rfl ?_
                  refine wl_skip rfl ?_
                  refine wl_skip rfl ?_
                  refine wl_skip rfl ?_
                  refine wl_skip rfl ?_
                  refine wl_skip rfl ?_
                  refine wl_pick (.tmp 62) (.const (.bool true)) (.tmp 67) true (.bool true) (fun _ => rfl) rfl rfl rfl ?_
                  refine w_nil ?_
                  refine xn_then ?_
                  refine w_condT rfl ?_
                  refine w_seq ?_
                  refine w_reg ?_
                  refine wl_mv (.const (.bool false)) (.bool false) (fun _ => rfl) rfl rfl ?_
                  refine w_nil ?_
                  refine xn_then ?_
                  refine w_ret ?_
                  refine xr_then ?_
                  refine xr_then ?_
                  have hfin : whl s = false := by rw [hW]; first | (simp [hf0p, hf1, hf2p, hf3p, hf4]; done) | (simp [hf0p, hf1, hf2p, hf3p, hf4]; omega)
                  exact w_ret1 _ (.bool false) rfl rfl ⟨by rw [hfin], M⟩
              | false =>
                have hf3p := of_decide_eq_false hf3
                refine w_reg ?_
                refine wl_mv (.tmp 4) (.int .i64 ((i : Nat) : Int)) (fun _ => rfl) e4 rfl ?_
                refine wl_mv (.tmp 0) (.string s) (fun _ => rfl) e0 rfl ?_
                refine wl_val (.int .i64 ((s.size : Nat) : Int)) (len_s _ _ s (by exact rfl) _ _ _ _ _ _) rfl ?_
                refine wl_bin (fun x y => do eqGuard .lss 3 (.tmp 54) (.tmp 56) x y; binOp .lss 3 x y) (.tmp 54) (.tmp 56) (.int .i64 ((i : Nat) : Int)) (.int .i64 ((s.size : Nat) : Int)) (.bool false) (fun _ => rfl) rfl rfl (ltN hf3 _ _ _) rfl ?_
                refine w_nil ?_
                refine xn_then ?_
                refine w_condF rfl ?_
                refine w_skip ?_
                exact xn_cut ⟨o, e0, e3, by rw [hW]; first | (simp [hf0p, hf1, hf2p, hf3p]; done) | (simp [hf0p, hf1, hf2p, hf3p]; omega), by omega, M⟩
        | false =>
          refine w_reg ?_
          refine wl_mv (.tmp 4) (.int .i64 ((i : Nat) : Int)) (fun _ => rfl) e4 rfl ?_
          refine wl_mv (.tmp 5) (.int .i64 ((p : Nat) : Int)) (fun _ => rfl) e5 rfl ?_
          refine wl_bin (fun x y => do eqGuard .eql 3 (.tmp 39) (.tmp 40) x y; binOp .eql 3 x y) (.tmp 39) (.tmp 40) (.int .i64 ((i : Nat) : Int)) (.int .i64 ((p : Nat) : Int)) (.bool false) (fun _ => rfl) rfl rfl (eqN hf0 _ _ _) rfl ?_
          refine wl_mv (.tmp 41) (.bool false) (fun _ => rfl) rfl rfl ?_
          refine wl_mv (.tmp 0) (.string s) (fun _ => rfl) e0 rfl ?_
          refine wl_mv (.tmp 5) (.int .i64 ((p : Nat) : Int)) (fun _ => rfl) e5 rfl ?_
          refine wl_bin (fun x y => Instr.index 9 x y) (.tmp 43) (.tmp 44) (.string s) (.int .i64 ((p : Nat) : Int)) (.int .u8 (bt s (p))) (fun _ => rfl) rfl rfl (idx_b (by omega) _) rfl ?_
          refine wl_bin (fun x y => do eqGuard .eql 5 (.tmp 45) (.const (.int .u8 (48))) x y; binOp .eql 5 x y) (.tmp 45) (.const (.int .u8 (48))) (.int .u8 (bt s (p))) (.int .u8 (48)) (.bool false) (fun _ => rfl) rfl rfl (eq5r hf1 _ _ _) rfl ?_
          refine wl_mv (.tmp 46) (.bool false) (fun _ => rfl) rfl rfl ?_
          refine wl_skip rfl ?_
          refine wl_skip rfl ?_
          refine wl_skip rfl ?_
          refine wl_skip rfl ?_
          refine wl_pick (.tmp 47) (.tmp 51) (.const (.bool false)) false (.bool false) (fun _ => rfl) rfl rfl rfl ?_
          refine wl_pick (.tmp 42) (.const (.bool true)) (.tmp 52) false (.bool false) (fun _ => rfl) rfl rfl rfl ?_
          refine w_nil ?_
          refine xn_then ?_
          refine w_condF rfl ?_
          refine w_skip ?_
          refine xn_then ?_
          refine w_cut (fun l w1 => ∃ (o2 : Bool), look l 0 = .string s ∧ look l 3 = .bool o2 ∧ whl s = (o2 || !b) ∧ 0 < s.size ∧ Mo w w1) ?_ ?_
          · skip
            clear M
            rintro l wc ⟨o2, e0, e3, hW2, hs0, M⟩
            refine w_seq ?_
            cases o2 with
            | true =>
              refine w_reg ?_
              refine wl_mv (.tmp 3) (.bool true) (fun _ => rfl) e3 rfl ?_
              refine wl_mv (.tmp 89) (.bool true) (fun _ => rfl) rfl rfl ?_
              refine wl_skip rfl ?_
              refine wl_skip rfl ?_
              refine wl_skip rfl ?_
              refine wl_pick (.tmp 90) (.const (.bool true)) (.tmp 93) true (.bool true) (fun _ => rfl) rfl rfl rfl ?_
              refine wl_mv (.tmp 94) (.bool true) (fun _ => rfl) rfl rfl ?_
              refine w_nil ?_
              refine xn_then ?_
              refine w_ret ?_
              have hfin : whl s = true := by rw [hW2, hb, ]; rfl
              exact w_ret1 _ (.bool true) rfl rfl ⟨by rw [hfin], M⟩
            | false =>
              cases hf2 : (bt s (0) == 45) with
              | true =>
                refine w_reg ?_
                refine wl_mv (.tmp 3) (.bool false) (fun _ => rfl) e3 rfl ?_
                refine wl_mv (.tmp 89) (.bool false) (fun _ => rfl) rfl rfl ?_
                refine wl_mv (.tmp 0) (.string s) (fun _ => rfl) e0 rfl ?_
                refine wl_bin (fun x y => Instr.index 9 x y) (.tmp 91) (.const (.int .i64 (0))) (.string s) (.int .i64 (0)) (.int .u8 (bt s (0))) (fun _ => rfl) rfl rfl (idx_b (by omega) _) rfl ?_
                refine wl_bin (fun x y => do eqGuard .neq 5 (.tmp 92) (.const (.int .u8 (45))) x y; binOp .neq 5 x y) (.tmp 92) (.const (.int .u8 (45))) (.int .u8 (bt s (0))) (.int .u8 (45)) (.bool false) (fun _ => rfl) rfl rfl (ne5r hf2 _ _ _) rfl ?_
                refine wl_pick (.tmp 90) (.const (.bool true)) (.tmp 93) false (.bool false) (fun _ => rfl) rfl rfl rfl ?_
                refine wl_mv (.tmp 94) (.bool false) (fun _ => rfl) rfl rfl ?_
                refine w_nil ?_
                refine xn_then ?_
                refine w_ret ?_
                have hfin : whl s = false := by rw [hW2, hb, hf2]; rfl
                exact w_ret1 _ (.bool false) rfl rfl ⟨by rw [hfin], M⟩
              | false =>
                refine w_reg ?_
                refine wl_mv (.tmp 3) (.bool false) (fun _ => rfl) e3 rfl ?_
                refine wl_mv (.tmp 89) (.bool false) (fun _ => rfl) rfl rfl ?_
                refine wl_mv (.tmp 0) (.string s) (fun _ => rfl) e0 rfl ?_
                refine wl_bin (fun x y => Instr.index 9 x y) (.tmp 91) (.const (.int .i64 (0))) (.string s) (.int .i64 (0)) (.int .u8 (bt s (0))) (fun _ => rfl) rfl rfl (idx_b (by omega) _) rfl ?_
                refine wl_bin (fun x y => do eqGuard .neq 5 (.tmp 92) (.const (.int .u8 (45))) x y; binOp .neq 5 x y) (.tmp 92) (.const (.int .u8 (45))) (.int .u8 (bt s (0))) (.int .u8 (45)) (.bool true) (fun _ => rfl) rfl rfl (ne5r hf2 _ _ _) rfl ?_
                refine wl_pick (.tmp 90) (.const (.bool true)) (.tmp 93) false (.bool true) (fun _ => rfl) rfl rfl rfl ?_
                refine wl_mv (.tmp 94) (.bool true) (fun _ => rfl) rfl rfl ?_
                refine w_nil ?_
                refine xn_then ?_
                refine w_ret ?_
                have hfin : whl s = true := by rw [hW2, hb, hf2]; rfl
                exact w_ret1 _ (.bool true) rfl rfl ⟨by rw [hfin], M⟩
          · skip
            refine w_seq ?_
            cases hf2 : decide (i < s.size) with
            | true =>
              have hf2p := of_decide_eq_true hf2
              refine w_reg ?_
              refine wl_mv (.tmp 4) (.int .i64 ((i : Nat) : Int)) (fun _ => rfl) e4 rfl ?_
              refine wl_mv (.tmp 0) (.string s) (fun _ => rfl) e0 rfl ?_
              refine wl_val (.int .i64 ((s.size : Nat) : Int)) (len_s _ _ s (by exact rfl) _ _ _ _ _ _) rfl ?_
              refine wl_bin (fun x y => do eqGuard .lss 3 (.tmp 54) (.tmp 56) x y; binOp .lss 3 x y) (.tmp 54) (.tmp 56) (.int .i64 ((i : Nat) : Int)) (.int .i64 ((s.size : Nat) : Int)) (.bool true) (fun _ => rfl) rfl rfl (ltN hf2 _ _ _) rfl ?_
              refine w_nil ?_
              refine xn_then ?_
              refine w_condT rfl ?_
              refine w_seq ?_
              refine w_seq ?_
              cases hf3 : (bt s (i) == 46) with
              | true =>
                cases hf4 : decide (i + 1 = s.size) with
                | true =>
                  have hf4p := of_decide_eq_true hf4
                  refine w_reg ?_
                  refine wl_mv (.tmp 0) (.string s) (fun _ => rfl) e0 rfl ?_
                  refine wl_mv (.tmp 4) (.int .i64 ((i : Nat) : Int)) (fun _ => rfl) e4 rfl ?_
                  refine wl_bin (fun x y => Instr.index 9 x y) (.tmp 58) (.tmp 59) (.string s) (.int .i64 ((i : Nat) : Int)) (.int .u8 (bt s (i))) (fun _ => rfl) rfl rfl (idx_b (by omega) _) rfl ?_
                  refine wl_bin (fun x y => do eqGuard .neq 5 (.tmp 60) (.const (.int .u8 (46))) x y; binOp .neq 5 x y) (.tmp 60) (.const (.int .u8 (46))) (.int .u8 (bt s (i))) (.int .u8 (46)) (.bool false) (fun _ => rfl) rfl rfl (ne5r hf3 _ _ _) rfl ?_
                  refine wl_mv (.tmp 61) (.bool false) (fun _ => rfl) rfl rfl ?_
                  refine wl_mv (.tmp 4) (.int .i64 ((i : Nat) : Int)) (fun _ => rfl) e4 rfl ?_
                  refine wl_bin (fun x y => do eqGuard .add 3 (.tmp 63) (.const (.int .i64 (1))) x y; binOp .add 3 x y) (.tmp 63) (.const (.int .i64 (1))) (.int .i64 ((i : Nat) : Int)) (.int .i64 (1)) (.int .i64 ((i + 1 : Nat) : Int)) (fun _ => rfl) rfl rfl (add1r (k := i) (by omega) _ _ _) rfl ?_
                  refine wl_mv (.tmp 0) (.string s) (fun _ => rfl) e0 rfl ?_
                  refine wl_val (.int .i64 ((s.size : Nat) : Int)) (len_s _ _ s (by exact rfl) _ _ _ _ _ _) rfl ?_
                  refine wl_bin (fun x y => do eqGuard .eql 3 (.tmp 64) (.tmp 66) x y; binOp .eql 3 x y) (.tmp 64) (.tmp 66) (.int .i64 ((i + 1 : Nat) : Int)) (.int .i64 ((s.size : Nat) : Int)) (.bool true) (fun _ => rfl) rfl rfl (eqN hf4 _ _ _) rfl ?_
                  refine wl_pick (.tmp 62) (.const (.bool true)) (.tmp 67) false (.bool true) (fun _ => rfl) rfl rfl rfl ?_
                  refine w_nil ?_
                  refine xn_then ?_
                  refine w_condT rfl ?_
                  refine w_seq ?_
                  refine w_reg ?_
                  refine wl_mv (.const (.bool false)) (.bool false) (fun _ => rfl) rfl rfl ?_
                  refine w_nil ?_
                  refine xn_then ?_
                  refine w_ret ?_
                  refine xr_then ?_
                  refine xr_then ?_
                  have hfin : whl s = false := by rw [hW]; first | (simp [hf0p, hf1, hf2p, hf3, hf4p]; done) | (simp [hf0p, hf1, hf2p, hf3, hf4p]; omega)
                  exact w_ret1 _ (.bool false) rfl rfl ⟨by rw [hfin], M⟩
                | false =>
                  have hf4p := of_decide_eq_false hf4
                  refine w_reg ?_
                  refine wl_mv (.tmp 0) (.string s) (fun _ => rfl) e0 rfl ?_
                  refine wl_mv (.tmp 4) (.int .i64 ((i : Nat) : Int)) (fun _ => rfl) e4 rfl ?_
                  refine wl_bin (fun x y => Instr.index 9 x y) (.tmp 58) (.tmp 59) (.string s) (.int .i64 ((i : Nat) : Int)) (.int .u8 (bt s (i))) (fun _ => rfl) rfl rfl (idx_b (by omega) _) rfl ?_
                  refine wl_bin (fun x y => do eqGuard .neq 5 (.tmp 60) (.const (.int .u8 (46))) x y; binOp .neq 5 x y) (.tmp 60) (.const (.int .u8 (46))) (.int .u8 (bt s (i))) (.int .u8 (46)) (.bool false) (fun _ => rfl) rfl rfl (ne5r hf3 _ _ _) rfl ?_
                  refine wl_mv (.tmp 61) (.bool false) (fun _ => rfl) rfl rfl ?_
                  refine wl_mv (.tmp 4) (.int .i64 ((i : Nat) : Int)) (fun _ => rfl) e4 rfl ?_
                  refine wl_bin (fun x y => do eqGuard .add 3 (.tmp 63) (.const (.int .i64 (1))) x y; binOp .add 3 x y) (.tmp 63) (.const (.int .i64 (1))) (.int .i64 ((i : Nat) : Int)) (.int .i64 (1)) (.int .i64 ((i + 1 : Nat) : Int)) (fun _ => rfl) rfl rfl (add1r (k := i) (by omega) _ _ _) rfl ?_
                  refine wl_mv (.tmp 0) (.string s) (fun _ => rfl) e0 rfl ?_
                  refine wl_val (.int .i64 ((s.size : Nat) : Int)) (len_s _ _ s (by exact rfl) _ _ _ _ _ _) rfl ?_
                  refine wl_bin (fun x y => do eqGuard .eql 3 (.tmp 64) (.tmp 66) x y; binOp .eql 3 x y) (.tmp 64) (.tmp 66) (.int .i64 ((i + 1 : Nat) : Int)) (.int .i64 ((s.size : Nat) : Int)) (.bool false) (fun _ => rfl) rfl rfl (eqN hf4 _ _ _) rfl ?_
                  refine wl_pick (.tmp 62) (.const (.bool true)) (.tmp 67) false (.bool false) (fun _ => rfl) rfl rfl rfl ?_
                  refine w_nil ?_
                  refine xn_then ?_
                  refine w_condF rfl ?_
                  refine w_skip ?_
                  refine xn_then ?_
                  refine w_seq ?_
                  refine w_reg ?_
                  refine wl_mv (.tmp 4) (.int .i64 ((i : Nat) : Int)) (fun _ => rfl) e4 rfl ?_
                  refine wl_bin (fun x y => do eqGuard .add 3 (.tmp 69) (.const (.int .i64 (1))) x y; binOp .add 3 x y) (.tmp 69) (.const (.int .i64 (1))) (.int .i64 ((i : Nat) : Int)) (.int .i64 (1)) (.int .i64 ((i + 1 : Nat) : Int)) (fun _ => rfl) rfl rfl (add1r (k := i) (by omega) _ _ _) rfl ?_
                  refine wl_mv (.tmp 70) (.int .i64 ((i + 1 : Nat) : Int)) (fun _ => rfl) rfl rfl ?_
                  refine w_nil ?_
                  refine xn_then ?_
                  refine w_block ?_
                  refine w_loop (fun m l w1 => ∃ (k : Nat) (o2 : Bool), m = s.size - k ∧ look l 0 = .string s ∧ look l 3 = .bool o2 ∧ look l 6 = .int .i64 (k : Int) ∧ i + 1 ≤ k ∧ k ≤ s.size ∧ re s k = re s (i + 1) ∧ (o2 || !az s k) = (o || !az s (i + 1)) ∧ Mo w w1) _ ⟨i + 1, o, rfl, e0, e3, rfl, by omega, by omega, rfl, rfl, M⟩ ?_
                  clear M
                  rintro m2 l2 wl2 ⟨k, o2, rfl, e0, e3, e6, hik, hks, hrk, hzk, M⟩
                  refine w_seq ?_
                  refine w_seq ?_
                  cases hf5 : decide (k < s.size) with
                  | true =>
                    have hf5p := of_decide_eq_true hf5
                    refine w_reg ?_
                    refine wl_mv (.tmp 6) (.int .i64 ((k : Nat) : Int)) (fun _ => rfl) e6 rfl ?_
                    refine wl_mv (.tmp 0) (.string s) (fun _ => rfl) e0 rfl ?_
                    refine wl_val (.int .i64 ((s.size : Nat) : Int)) (len_s _ _ s (by exact rfl) _ _ _ _ _ _) rfl ?_
                    refine wl_bin (fun x y => do eqGuard .lss 3 (.tmp 71) (.tmp 73) x y; binOp .lss 3 x y) (.tmp 71) (.tmp 73) (.int .i64 ((k : Nat) : Int)) (.int .i64 ((s.size : Nat) : Int)) (.bool true) (fun _ => rfl) rfl rfl (ltN hf5 _ _ _) rfl ?_
                    refine w_nil ?_
                    refine xn_then ?_
                    refine w_condT rfl ?_
                    refine w_skip ?_
                    refine xn_then ?_
                    refine w_seq ?_
                    refine w_block ?_
                    refine w_seq ?_
                    refine w_seq ?_
                    cases hf6 : dgt (bt s (k)) with
                    | true =>
                      refine w_reg ?_
                      refine wl_mv (.tmp 0) (.string s) (fun _ => rfl) e0 rfl ?_
                      refine wl_mv (.tmp 6) (.int .i64 ((k : Nat) : Int)) (fun _ => rfl) e6 rfl ?_
                      refine wl_bin (fun x y => Instr.index 9 x y) (.tmp 77) (.tmp 78) (.string s) (.int .i64 ((k : Nat) : Int)) (.int .u8 (bt s (k))) (fun _ => rfl) rfl rfl (idx_b (by omega) _) rfl ?_
                      refine wl_call 32 [(.tmp 79)] _ [.int .u8 (bt s (k))] (.bool true) rfl rfl (fun _ _ => by kernel_rfl) (digit_c hf6 _) rfl ?_
                      intro w61 hq
                      replace M := M.trans hq
                      clear hq
                      refine wl_un (fun v => Op.unary .not v) (.tmp 80) (.bool true) (.bool false) (fun _ => rfl) rfl (by kernel_rfl) rfl ?_
                      refine w_nil ?_
                      refine xn_then ?_
                      refine w_condF rfl ?_
                      refine w_skip ?_
                      refine xn_then ?_
                      cases o2 with
                      | true =>
                        refine w_reg ?_
                        refine wl_mv (.tmp 3) (.bool true) (fun _ => rfl) e3 rfl ?_
                        refine wl_mv (.tmp 82) (.bool true) (fun _ => rfl) rfl rfl ?_
                        refine wl_skip rfl ?_
                        refine wl_skip rfl ?_
                        refine wl_skip rfl ?_
                        refine wl_skip rfl ?_
                        refine wl_pick (.tmp 83) (.const (.bool true)) (.tmp 87) true (.bool true) (fun _ => rfl) rfl rfl rfl ?_
                        refine wl_mv (.tmp 88) (.bool true) (fun _ => rfl) rfl rfl ?_
                        refine w_nil ?_
                        refine xn_blk ?_
                        refine xn_then ?_
                        refine w_reg ?_
                        refine wl_mv (.tmp 6) (.int .i64 ((k : Nat) : Int)) (fun _ => rfl) e6 rfl ?_
                        refine wl_bin (fun x y => do eqGuard .add 3 (.tmp 75) (.const (.int .i64 (1))) x y; binOp .add 3 x y) (.tmp 75) (.const (.int .i64 (1))) (.int .i64 ((k : Nat) : Int)) (.int .i64 (1)) (.int .i64 ((k + 1 : Nat) : Int)) (fun _ => rfl) rfl rfl (add1r (k := k) (by omega) _ _ _) rfl ?_
                        refine wl_mv (.tmp 76) (.int .i64 ((k + 1 : Nat) : Int)) (fun _ => rfl) rfl rfl ?_
                        refine w_nil ?_
                        exact xn_loop (s.size - (k + 1)) (by omega) ⟨k + 1, true, rfl, e0, rfl, rfl, by omega, by omega, by rw [← hrk, re_on hf6], by rw [← hzk, az_on hf6]; simp, M⟩
                      | false =>
                        cases hf7 : (bt s (k) == 48) with
                        | true =>
                          refine w_reg ?_
                          refine wl_mv (.tmp 3) (.bool false) (fun _ => rfl) e3 rfl ?_
                          refine wl_mv (.tmp 82) (.bool false) (fun _ => rfl) rfl rfl ?_
                          refine wl_mv (.tmp 0) (.string s) (fun _ => rfl) e0 rfl ?_
                          refine wl_mv (.tmp 6) (.int .i64 ((k : Nat) : Int)) (fun _ => rfl) e6 rfl ?_
                          refine wl_bin (fun x y => Instr.index 9 x y) (.tmp 84) (.tmp 85) (.string s) (.int .i64 ((k : Nat) : Int)) (.int .u8 (bt s (k))) (fun _ => rfl) rfl rfl (idx_b (by omega) _) rfl ?_
                          refine wl_bin (fun x y => do eqGuard .neq 5 (.tmp 86) (.const (.int .u8 (48))) x y; binOp .neq 5 x y) (.tmp 86) (.const (.int .u8 (48))) (.int .u8 (bt s (k))) (.int .u8 (48)) (.bool false) (fun _ => rfl) rfl rfl (ne5r hf7 _ _ _) rfl ?_
                          refine wl_pick (.tmp 83) (.const (.bool true)) (.tmp 87) false (.bool false) (fun _ => rfl) rfl rfl rfl ?_
                          refine wl_mv (.tmp 88) (.bool false) (fun _ => rfl) rfl rfl ?_
                          refine w_nil ?_
                          refine xn_blk ?_
                          refine xn_then ?_
                          refine w_reg ?_
                          refine wl_mv (.tmp 6) (.int .i64 ((k : Nat) : Int)) (fun _ => rfl) e6 rfl ?_
                          refine wl_bin (fun x y => do eqGuard .add 3 (.tmp 75) (.const (.int .i64 (1))) x y; binOp .add 3 x y) (.tmp 75) (.const (.int .i64 (1))) (.int .i64 ((k : Nat) : Int)) (.int .i64 (1)) (.int .i64 ((k + 1 : Nat) : Int)) (fun _ => rfl) rfl rfl (add1r (k := k) (by omega) _ _ _) rfl ?_
                          refine wl_mv (.tmp 76) (.int .i64 ((k + 1 : Nat) : Int)) (fun _ => rfl) rfl rfl ?_
                          refine w_nil ?_
                          exact xn_loop (s.size - (k + 1)) (by omega) ⟨k + 1, false, rfl, e0, rfl, rfl, by omega, by omega, by rw [← hrk, re_on hf6], by rw [← hzk, az_on hf6, hf7]; simp, M⟩
                        | false =>
                          refine w_reg ?_
                          refine wl_mv (.tmp 3) (.bool false) (fun _ => rfl) e3 rfl ?_
                          refine wl_mv (.tmp 82) (.bool false) (fun _ => rfl) rfl rfl ?_
                          refine wl_mv (.tmp 0) (.string s) (fun _ => rfl) e0 rfl ?_
                          refine wl_mv (.tmp 6) (.int .i64 ((k : Nat) : Int)) (fun _ => rfl) e6 rfl ?_
                          refine wl_bin (fun x y => Instr.index 9 x y) (.tmp 84) (.tmp 85) (.string s) (.int .i64 ((k : Nat) : Int)) (.int .u8 (bt s (k))) (fun _ => rfl) rfl rfl (idx_b (by omega) _) rfl ?_
                          refine wl_bin (fun x y => do eqGuard .neq 5 (.tmp 86) (.const (.int .u8 (48))) x y; binOp .neq 5 x y) (.tmp 86) (.const (.int .u8 (48))) (.int .u8 (bt s (k))) (.int .u8 (48)) (.bool true) (fun _ => rfl) rfl rfl (ne5r hf7 _ _ _) rfl ?_
                          refine wl_pick (.tmp 83) (.const (.bool true)) (.tmp 87) false (.bool true) (fun _ => rfl) rfl rfl rfl ?_
                          refine wl_mv (.tmp 88) (.bool true) (fun _ => rfl) rfl rfl ?_
                          refine w_nil ?_
                          refine xn_blk ?_
                          refine xn_then ?_
                          refine w_reg ?_
                          refine wl_mv (.tmp 6) (.int .i64 ((k : Nat) : Int)) (fun _ => rfl) e6 rfl ?_
                          refine wl_bin (fun x y => do eqGuard .add 3 (.tmp 75) (.const (.int .i64 (1))) x y; binOp .add 3 x y) (.tmp 75) (.const (.int .i64 (1))) (.int .i64 ((k : Nat) : Int)) (.int .i64 (1)) (.int .i64 ((k + 1 : Nat) : Int)) (fun _ => rfl) rfl rfl (add1r (k := k) (by omega) _ _ _) rfl ?_
                          refine wl_mv (.tmp 76) (.int .i64 ((k + 1 : Nat) : Int)) (fun _ => rfl) rfl rfl ?_
                          refine w_nil ?_
                          exact xn_loop (s.size - (k + 1)) (by omega) ⟨k + 1, true, rfl, e0, rfl, rfl, by omega, by omega, by rw [← hrk, re_on hf6], by rw [← hzk, az_on hf6, hf7]; simp, M⟩
                    | false =>
                      refine w_reg ?_
                      refine wl_mv (.tmp 0) (.string s) (fun _ => rfl) e0 rfl ?_
                      refine wl_mv (.tmp 6) (.int .i64 ((k : Nat) : Int)) (fun _ => rfl) e6 rfl ?_
                      refine wl_bin (fun x y => Instr.index 9 x y) (.tmp 77) (.tmp 78) (.string s) (.int .i64 ((k : Nat) : Int)) (.int .u8 (bt s (k))) (fun _ => rfl) rfl rfl (idx_b (by omega) _) rfl ?_
                      refine wl_call 32 [(.tmp 79)] _ [.int .u8 (bt s (k))] (.bool false) rfl rfl (fun _ _ => by kernel_rfl) (digit_c hf6 _) rfl ?_
                      intro w61 hq
                      replace M := M.trans hq
                      clear hq
                      refine wl_un (fun v => Op.unary .not v) (.tmp 80) (.bool false) (.bool true) (fun _ => rfl) rfl (by kernel_rfl) rfl ?_
                      refine w_nil ?_
                      refine xn_then ?_
                      refine w_condT rfl ?_
                      refine w_seq ?_
                      refine w_reg ?_
                      refine wl_mv (.const (.bool false)) (.bool false) (fun _ => rfl) rfl rfl ?_
                      refine w_nil ?_
                      refine xn_then ?_
                      refine w_ret ?_
                      refine xr_then ?_
                      refine xr_blk ?_
                      refine xr_then ?_
                      refine xr_then ?_
                      refine xr_blk ?_
                      refine xr_then ?_
                      have hr2 : re s (i + 1) = k := by rw [← hrk, re_end hf6]
                      have hkn : k ≠ s.size := by omega
                      have hfin : whl s = false := by rw [hW, hr2]; simp [hkn, hf0p, hf1, hf2p, hf3, hf4p]
                      exact w_ret1 _ (.bool false) rfl rfl ⟨by rw [hfin], M⟩
                  | false =>
                    have hf5p := of_decide_eq_false hf5
                    refine w_reg ?_
                    refine wl_mv (.tmp 6) (.int .i64 ((k : Nat) : Int)) (fun _ => rfl) e6 rfl ?_
                    refine wl_mv (.tmp 0) (.string s) (fun _ => rfl) e0 rfl ?_
                    refine wl_val (.int .i64 ((s.size : Nat) : Int)) (len_s _ _ s (by exact rfl) _ _ _ _ _ _) rfl ?_
                    refine wl_bin (fun x y => do eqGuard .lss 3 (.tmp 71) (.tmp 73) x y; binOp .lss 3 x y) (.tmp 71) (.tmp 73) (.int .i64 ((k : Nat) : Int)) (.int .i64 ((s.size : Nat) : Int)) (.bool false) (fun _ => rfl) rfl rfl (ltN hf5 _ _ _) rfl ?_
                    refine w_nil ?_
                    refine xn_then ?_
                    refine w_condF rfl ?_
                    refine w_exit ?_
                    refine xx_then ?_
                    refine xx_then ?_
                    have hnd2 : dgt (bt s k) = false := by rw [bt_out (by omega)]; rfl
                    have hr2 : re s (i + 1) = s.size := by rw [← hrk, re_end hnd2]; omega
                    rw [az_end hnd2, Bool.not_true, Bool.or_false] at hzk
                    refine xx_blk ?_
                    exact xn_cut ⟨o2, e0, e3, by rw [hW, hr2]; first | (simp [hf0p, hf1, hf2p, hf3, hf4p, ← hzk]; done) | (simp [hf0p, hf1, hf2p, hf3, hf4p, hf5p, ← hzk]; omega), by omega, M⟩
              | false =>
                refine w_reg ?_
                refine wl_mv (.tmp 0) (.string s) (fun _ => rfl) e0 rfl ?_
                refine wl_mv (.tmp 4) (.int .i64 ((i : Nat) : Int)) (fun _ => rfl) e4 rfl ?_
                refine wl_bin (fun x y => Instr.index 9 x y) (.tmp 58) (.tmp 59) (.string s) (.int .i64 ((i : Nat) : Int)) (.int .u8 (bt s (i))) (fun _ => rfl) rfl rfl (idx_b (by omega) _) rfl ?_
                refine wl_bin (fun x y => do eqGuard .neq 5 (.tmp 60) (.const (.int .u8 (46))) x y; binOp .neq 5 x y) (.tmp 60) (.const (.int .u8 (46))) (.int .u8 (bt s (i))) (.int .u8 (46)) (.bool true) (fun _ => rfl) rfl rfl (ne5r hf3 _ _ _) rfl ?_
                refine wl_mv (.tmp 61) (.bool true) (fun _ => rfl) rfl rfl ?_
                refine wl_skip rfl ?_
                refine wl_skip rfl ?_
                refine wl_skip rfl ?_
                refine wl_skip rfl ?_
                refine wl_skip rfl ?_
                refine wl_pick (.tmp 62) (.const (.bool true)) (.tmp 67) true (.bool true) (fun _ => rfl) rfl rfl rfl ?_
                refine w_nil ?_
                refine xn_then ?_
                refine w_condT rfl ?_
                refine w_seq ?_
                refine w_reg ?_
                refine wl_mv (.const (.bool false)) (.bool false) (fun _ => rfl) rfl rfl ?_
                refine w_nil ?_
                refine xn_then ?_
                refine w_ret ?_
                refine xr_then ?_
                refine xr_then ?_
                have hfin : whl s = false := by rw [hW]; first | (simp [hf0p, hf1, hf2p, hf3]; done) | (simp [hf0p, hf1, hf2p, hf3]; omega)
                exact w_ret1 _ (.bool false) rfl rfl ⟨by rw [hfin], M⟩
            | false =>
              have hf2p := of_decide_eq_false hf2
              refine w_reg ?_
              refine wl_mv (.tmp 4) (.int .i64 ((i : Nat) : Int)) (fun _ => rfl) e4 rfl ?_
              refine wl_mv (.tmp 0) (.string s) (fun _ => rfl) e0 rfl ?_
              refine wl_val (.int .i64 ((s.size : Nat) : Int)) (len_s _ _ s (by exact rfl) _ _ _ _ _ _) rfl ?_
              refine wl_bin (fun x y => do eqGuard .lss 3 (.tmp 54) (.tmp 56) x y; binOp .lss 3 x y) (.tmp 54) (.tmp 56) (.int .i64 ((i : Nat) : Int)) (.int .i64 ((s.size : Nat) : Int)) (.bool false) (fun _ => rfl) rfl rfl (ltN hf2 _ _ _) rfl ?_
              refine w_nil ?_
              refine xn_then ?_
              refine w_condF rfl ?_
              refine w_skip ?_
              exact xn_cut ⟨o, e0, e3, by rw [hW]; first | (simp [hf0p, hf1, hf2p]; done) | (simp [hf0p, hf1, hf2p]; omega), by omega, M⟩
    · skip
      refine w_block ?_
      refine w_loop (fun m l w1 => ∃ (i : Nat) (o : Bool), m = s.size - i ∧ look l 0 = .string s ∧ look l 3 = .bool o ∧ look l 4 = .int .i64 (i : Int) ∧ look l 5 = .int .i64 (p : Int) ∧ p ≤ i ∧ i ≤ s.size ∧ re s i = re s p ∧ (o || !az s i) = !az s p ∧ Mo w w1) _ ⟨p, false, rfl, e0, e3, e4, rfl, Nat.le_refl _, hps, rfl, rfl, M⟩ ?_
      clear M
      rintro m l wl ⟨i, o, rfl, e0, e3, e4, e5, hpi, his, hre, haz, M⟩
      cases o with
      | true =>
        refine w_seq ?_
        refine w_seq ?_
        cases hf0 : decide (i < s.size) with
        | true =>
          have hf0p := of_decide_eq_true hf0
          cases hf1 : dgt (bt s (i)) with
          | true =>
            refine w_reg ?_
            refine wl_mv (.tmp 4) (.int .i64 ((i : Nat) : Int)) (fun _ => rfl) e4 rfl ?_
            refine wl_mv (.tmp 0) (.string s) (fun _ => rfl) e0 rfl ?_
            refine wl_val (.int .i64 ((s.size : Nat) : Int)) (len_s _ _ s (by exact rfl) _ _ _ _ _ _) rfl ?_
            refine wl_bin (fun x y => do eqGuard .lss 3 (.tmp 20) (.tmp 22) x y; binOp .lss 3 x y) (.tmp 20) (.tmp 22) (.int .i64 ((i : Nat) : Int)) (.int .i64 ((s.size : Nat) : Int)) (.bool true) (fun _ => rfl) rfl rfl (ltN hf0 _ _ _) rfl ?_
            refine wl_mv (.tmp 23) (.bool true) (fun _ => rfl) rfl rfl ?_
            refine wl_mv (.tmp 0) (.string s) (fun _ => rfl) e0 rfl ?_
            refine wl_mv (.tmp 4) (.int .i64 ((i : Nat) : Int)) (fun _ => rfl) e4 rfl ?_
            refine wl_bin (fun x y => Instr.index 9 x y) (.tmp 25) (.tmp 26) (.string s) (.int .i64 ((i : Nat) : Int)) (.int .u8 (bt s (i))) (fun _ => rfl) rfl rfl (idx_b (by omega) _) rfl ?_
            refine wl_call 32 [(.tmp 27)] _ [.int .u8 (bt s (i))] (.bool true) rfl rfl (fun _ _ => by kernel_rfl) (digit_c hf1 _) rfl ?_
            intro w21 hq
            replace M := M.trans hq
            clear hq
            refine wl_pick (.tmp 24) (.tmp 28) (.const (.bool false)) true (.bool true) (fun _ => rfl) rfl rfl rfl ?_
            refine w_nil ?_
            refine xn_then ?_
            refine w_condT rfl ?_
            refine w_skip ?_
            refine xn_then ?_
            refine w_block ?_
            refine w_seq ?_
            refine w_reg ?_
            refine wl_mv (.tmp 3) (.bool true) (fun _ => rfl) e3 rfl ?_
            refine wl_mv (.tmp 30) (.bool true) (fun _ => rfl) rfl rfl ?_
            refine wl_skip rfl ?_
            refine wl_skip rfl ?_
            refine wl_skip rfl ?_
            refine wl_skip rfl ?_
            refine wl_pick (.tmp 31) (.const (.bool true)) (.tmp 35) true (.bool true) (fun _ => rfl) rfl rfl rfl ?_
            refine wl_mv (.tmp 36) (.bool true) (fun _ => rfl) rfl rfl ?_
            refine w_nil ?_
            refine xn_then ?_
            refine w_reg ?_
            refine wl_mv (.tmp 4) (.int .i64 ((i : Nat) : Int)) (fun _ => rfl) e4 rfl ?_
            refine wl_bin (fun x y => do eqGuard .add 3 (.tmp 37) (.const (.int .i64 (1))) x y; binOp .add 3 x y) (.tmp 37) (.const (.int .i64 (1))) (.int .i64 ((i : Nat) : Int)) (.int .i64 (1)) (.int .i64 ((i + 1 : Nat) : Int)) (fun _ => rfl) rfl rfl (add1r (k := i) (by omega) _ _ _) rfl ?_
            refine wl_mv (.tmp 38) (.int .i64 ((i + 1 : Nat) : Int)) (fun _ => rfl) rfl rfl ?_
            refine w_nil ?_
            refine xn_blk ?_
            exact xn_loop (s.size - (i + 1)) (by omega) ⟨i + 1, true, rfl, e0, rfl, rfl, e5, by omega, by omega, by rw [← hre, re_on hf1], by rw [← haz, az_on hf1]; simp, M⟩
          | false =>
            refine w_reg ?_
            refine wl_mv (.tmp 4) (.int .i64 ((i : Nat) : Int)) (fun _ => rfl) e4 rfl ?_
            refine wl_mv (.tmp 0) (.string s) (fun _ => rfl) e0 rfl ?_
            refine wl_val (.int .i64 ((s.size : Nat) : Int)) (len_s _ _ s (by exact rfl) _ _ _ _ _ _) rfl ?_
            refine wl_bin (fun x y => do eqGuard .lss 3 (.tmp 20) (.tmp 22) x y; binOp .lss 3 x y) (.tmp 20) (.tmp 22) (.int .i64 ((i : Nat) : Int)) (.int .i64 ((s.size : Nat) : Int)) (.bool true) (fun _ => rfl) rfl rfl (ltN hf0 _ _ _) rfl ?_
            refine wl_mv (.tmp 23) (.bool true) (fun _ => rfl) rfl rfl ?_
            refine wl_mv (.tmp 0) (.string s) (fun _ => rfl) e0 rfl ?_
            refine wl_mv (.tmp 4) (.int .i64 ((i : Nat) : Int)) (fun _ => rfl) e4 rfl ?_
            refine wl_bin (fun x y => Instr.index 9 x y) (.tmp 25) (.tmp 26) (.string s) (.int .i64 ((i : Nat) : Int)) (.int .u8 (bt s (i))) (fun _ => rfl) rfl rfl (idx_b (by omega) _) rfl ?_
            refine wl_call 32 [(.tmp 27)] _ [.int .u8 (bt s (i))] (.bool false) rfl rfl (fun _ _ => by kernel_rfl) (digit_c hf1 _) rfl ?_
            intro w21 hq
            replace M := M.trans hq
            clear hq
            refine wl_pick (.tmp 24) (.tmp 28) (.const (.bool false)) true (.bool false) (fun _ => rfl) rfl rfl rfl ?_
            refine w_nil ?_
            refine xn_then ?_
            refine w_condF rfl ?_
            refine w_exit ?_
            refine xx_then ?_
            refine xx_then ?_
            refine xx_blk ?_
            have hnd : dgt (bt s i) = false := hf1
            rw [re_end hnd] at hre
            rw [az_end hnd] at haz
            exact xn_cut ⟨i, true, e0, e3, e4, e5, hpi, his, hre.symm, by rw [← Bool.not_not (az s p), ← haz]; rfl, M⟩
        | false =>
          have hf0p := of_decide_eq_false hf0
          refine w_reg ?_
          refine wl_mv (.tmp 4) (.int .i64 ((i : Nat) : Int)) (fun _ => rfl) e4 rfl ?_
          refine wl_mv (.tmp 0) (.string s) (fun _ => rfl) e0 rfl ?_
          refine wl_val (.int .i64 ((s.size : Nat) : Int)) (len_s _ _ s (by exact rfl) _ _ _ _ _ _) rfl ?_
          refine wl_bin (fun x y => do eqGuard .lss 3 (.tmp 20) (.tmp 22) x y; binOp .lss 3 x y) (.tmp 20) (.tmp 22) (.int .i64 ((i : Nat) : Int)) (.int .i64 ((s.size : Nat) : Int)) (.bool false) (fun _ => rfl) rfl rfl (ltN hf0 _ _ _) rfl ?_
          refine wl_mv (.tmp 23) (.bool false) (fun _ => rfl) rfl rfl ?_
          refine wl_skip rfl ?_
          refine wl_skip rfl ?_
          refine wl_skip rfl ?_
          refine wl_skip rfl ?_
          refine wl_pick (.tmp 24) (.tmp 28) (.const (.bool false)) false (.bool false) (fun _ => rfl) rfl rfl rfl ?_
          refine w_nil ?_
          refine xn_then ?_
          refine w_condF rfl ?_
          refine w_exit ?_
          refine xx_then ?_
          refine xx_then ?_
          refine xx_blk ?_
          have hnd : dgt (bt s i) = false := by rw [bt_out (by omega)]; rfl
          rw [re_end hnd] at hre
          rw [az_end hnd] at haz
          exact xn_cut ⟨i, true, e0, e3, e4, e5, hpi, his, hre.symm, by rw [← Bool.not_not (az s p), ← haz]; rfl, M⟩
      | false =>
        refine w_seq ?_
        refine w_seq ?_
        cases hf0 : decide (i < s.size) with
        | true =>
          have hf0p := of_decide_eq_true hf0
          cases hf1 : dgt (bt s (i)) with
          | true =>
            refine w_reg ?_
            refine wl_mv (.tmp 4) (.int .i64 ((i : Nat) : Int)) (fun _ => rfl) e4 rfl ?_
            refine wl_mv (.tmp 0) (.string s) (fun _ => rfl) e0 rfl ?_
            refine wl_val (.int .i64 ((s.size : Nat) : Int)) (len_s _ _ s (by exact rfl) _ _ _ _ _ _) rfl ?_
            refine wl_bin (fun x y => do eqGuard .lss 3 (.tmp 20) (.tmp 22) x y; binOp .lss 3 x y) (.tmp 20) (.tmp 22) (.int .i64 ((i : Nat) : Int)) (.int .i64 ((s.size : Nat) : Int)) (.bool true) (fun _ => rfl) rfl rfl (ltN hf0 _ _ _) rfl ?_
            refine wl_mv (.tmp 23) (.bool true) (fun _ => rfl) rfl rfl ?_
            refine wl_mv (.tmp 0) (.string s) (fun _ => rfl) e0 rfl ?_
            refine wl_mv (.tmp 4) (.int .i64 ((i : Nat) : Int)) (fun _ => rfl) e4 rfl ?_
            refine wl_bin (fun x y => Instr.index 9 x y) (.tmp 25) (.tmp 26) (.string s) (.int .i64 ((i : Nat) : Int)) (.int .u8 (bt s (i))) (fun _ => rfl) rfl rfl (idx_b (by omega) _) rfl ?_
            refine wl_call 32 [(.tmp 27)] _ [.int .u8 (bt s (i))] (.bool true) rfl rfl (fun _ _ => by kernel_rfl) (digit_c hf1 _) rfl ?_
            intro w21 hq
            replace M := M.trans hq
            clear hq
            refine wl_pick (.tmp 24) (.tmp 28) (.const (.bool false)) true (.bool true) (fun _ => rfl) rfl rfl rfl ?_
            refine w_nil ?_
            refine xn_then ?_
            refine w_condT rfl ?_
            refine w_skip ?_
            refine xn_then ?_
            refine w_block ?_
            refine w_seq ?_
            cases hf2 : (bt s (i) == 48) with
            | true =>
              refine w_reg ?_
              refine wl_mv (.tmp 3) (.bool false) (fun _ => rfl) e3 rfl ?_
              refine wl_mv (.tmp 30) (.bool false) (fun _ => rfl) rfl rfl ?_
              refine wl_mv (.tmp 0) (.string s) (fun _ => rfl) e0 rfl ?_
              refine wl_mv (.tmp 4) (.int .i64 ((i : Nat) : Int)) (fun _ => rfl) e4 rfl ?_
              refine wl_bin (fun x y => Instr.index 9 x y) (.tmp 32) (.tmp 33) (.string s) (.int .i64 ((i : Nat) : Int)) (.int .u8 (bt s (i))) (fun _ => rfl) rfl rfl (idx_b (by omega) _) rfl ?_
              refine wl_bin (fun x y => do eqGuard .neq 5 (.tmp 34) (.const (.int .u8 (48))) x y; binOp .neq 5 x y) (.tmp 34) (.const (.int .u8 (48))) (.int .u8 (bt s (i))) (.int .u8 (48)) (.bool false) (fun _ => rfl) rfl rfl (ne5r hf2 _ _ _) rfl ?_
              refine wl_pick (.tmp 31) (.const (.bool true)) (.tmp 35) false (.bool false) (fun _ => rfl) rfl rfl rfl ?_
              refine wl_mv (.tmp 36) (.bool false) (fun _ => rfl) rfl rfl ?_
              refine w_nil ?_
              refine xn_then ?_
              refine w_reg ?_
              refine wl_mv (.tmp 4) (.int .i64 ((i : Nat) : Int)) (fun _ => rfl) e4 rfl ?_
              refine wl_bin (fun x y => do eqGuard .add 3 (.tmp 37) (.const (.int .i64 (1))) x y; binOp .add 3 x y) (.tmp 37) (.const (.int .i64 (1))) (.int .i64 ((i : Nat) : Int)) (.int .i64 (1)) (.int .i64 ((i + 1 : Nat) : Int)) (fun _ => rfl) rfl rfl (add1r (k := i) (by omega) _ _ _) rfl ?_
              refine wl_mv (.tmp 38) (.int .i64 ((i + 1 : Nat) : Int)) (fun _ => rfl) rfl rfl ?_
              refine w_nil ?_
              refine xn_blk ?_
              exact xn_loop (s.size - (i + 1)) (by omega) ⟨i + 1, false, rfl, e0, rfl, rfl, e5, by omega, by omega, by rw [← hre, re_on hf1], by rw [← haz, az_on hf1, hf2]; simp, M⟩
            | false =>
              refine w_reg ?_
              refine wl_mv (.tmp 3) (.bool false) (fun _ => rfl) e3 rfl ?_
              refine wl_mv (.tmp 30) (.bool false) (fun _ => rfl) rfl rfl ?_
              refine wl_mv (.tmp 0) (.string s) (fun _ => rfl) e0 rfl ?_
              refine wl_mv (.tmp 4) (.int .i64 ((i : Nat) : Int)) (fun _ => rfl) e4 rfl ?_
              refine wl_bin (fun x y => Instr.index 9 x y) (.tmp 32) (.tmp 33) (.string s) (.int .i64 ((i : Nat) : Int)) (.int .u8 (bt s (i))) (fun _ => rfl) rfl rfl (idx_b (by omega) _) rfl ?_
              refine wl_bin (fun x y => do eqGuard .neq 5 (.tmp 34) (.const (.int .u8 (48))) x y; binOp .neq 5 x y) (.tmp 34) (.const (.int .u8 (48))) (.int .u8 (bt s (i))) (.int .u8 (48)) (.bool true) (fun _ => rfl) rfl rfl (ne5r hf2 _ _ _) rfl ?_
              refine wl_pick (.tmp 31) (.const (.bool true)) (.tmp 35) false (.bool true) (fun _ => rfl) rfl rfl rfl ?_
              refine wl_mv (.tmp 36) (.bool true) (fun _ => rfl) rfl rfl ?_
              refine w_nil ?_
              refine xn_then ?_
              refine w_reg ?_
              refine wl_mv (.tmp 4) (.int .i64 ((i : Nat) : Int)) (fun _ => rfl) e4 rfl ?_
              refine wl_bin (fun x y => do eqGuard .add 3 (.tmp 37) (.const (.int .i64 (1))) x y; binOp .add 3 x y) (.tmp 37) (.const (.int .i64 (1))) (.int .i64 ((i : Nat) : Int)) (.int .i64 (1)) (.int .i64 ((i + 1 : Nat) : Int)) (fun _ => rfl) rfl rfl (add1r (k := i) (by omega) _ _ _) rfl ?_
              refine wl_mv (.tmp 38) (.int .i64 ((i + 1 : Nat) : Int)) (fun _ => rfl) rfl rfl ?_
              refine w_nil ?_
              refine xn_blk ?_
              exact xn_loop (s.size - (i + 1)) (by omega) ⟨i + 1, true, rfl, e0, rfl, rfl, e5, by omega, by omega, by rw [← hre, re_on hf1], by rw [← haz, az_on hf1, hf2]; simp, M⟩
          | false =>
            refine w_reg ?_
            refine wl_mv (.tmp 4) (.int .i64 ((i : Nat) : Int)) (fun _ => rfl) e4 rfl ?_
            refine wl_mv (.tmp 0) (.string s) (fun _ => rfl) e0 rfl ?_
            refine wl_val (.int .i64 ((s.size : Nat) : Int)) (len_s _ _ s (by exact rfl) _ _ _ _ _ _) rfl ?_
            refine wl_bin (fun x y => do eqGuard .lss 3 (.tmp 20) (.tmp 22) x y; binOp .lss 3 x y) (.tmp 20) (.tmp 22) (.int .i64 ((i : Nat) : Int)) (.int .i64 ((s.size : Nat) : Int)) (.bool true) (fun _ => rfl) rfl rfl (ltN hf0 _ _ _) rfl ?_
            refine wl_mv (.tmp 23) (.bool true) (fun _ => rfl) rfl rfl ?_
            refine wl_mv (.tmp 0) (.string s) (fun _ => rfl) e0 rfl ?_
            refine wl_mv (.tmp 4) (.int .i64 ((i : Nat) : Int)) (fun _ => rfl) e4 rfl ?_
            refine wl_bin (fun x y => Instr.index 9 x y) (.tmp 25) (.tmp 26) (.string s) (.int .i64 ((i : Nat) : Int)) (.int .u8 (bt s (i))) (fun _ => rfl) rfl rfl (idx_b (by omega) _) rfl ?_
            refine wl_call 32 [(.tmp 27)] _ [.int .u8 (bt s (i))] (.bool false) rfl rfl (fun _ _ => by kernel_rfl) (digit_c hf1 _) rfl ?_
            intro w21 hq
            replace M := M.trans hq
            clear hq
            refine wl_pick (.tmp 24) (.tmp 28) (.const (.bool false)) true (.bool false) (fun _ => rfl) rfl rfl rfl ?_
            refine w_nil ?_
            refine xn_then ?_
            refine w_condF rfl ?_
            refine w_exit ?_
            refine xx_then ?_
            refine xx_then ?_
            refine xx_blk ?_
            have hnd : dgt (bt s i) = false := hf1
            rw [re_end hnd] at hre
            rw [az_end hnd] at haz
            exact xn_cut ⟨i, false, e0, e3, e4, e5, hpi, his, hre.symm, by rw [← Bool.not_not (az s p), ← haz]; rfl, M⟩
        | false =>
          have hf0p := of_decide_eq_false hf0
          refine w_reg ?_
          refine wl_mv (.tmp 4) (.int .i64 ((i : Nat) : Int)) (fun _ => rfl) e4 rfl ?_
          refine wl_mv (.tmp 0) (.string s) (fun _ => rfl) e0 rfl ?_
          refine wl_val (.int .i64 ((s.size : Nat) : Int)) (len_s _ _ s (by exact rfl) _ _ _ _ _ _) rfl ?_
          refine wl_bin (fun x y => do eqGuard .lss 3 (.tmp 20) (.tmp 22) x y; binOp .lss 3 x y) (.tmp 20) (.tmp 22) (.int .i64 ((i : Nat) : Int)) (.int .i64 ((s.size : Nat) : Int)) (.bool false) (fun _ => rfl) rfl rfl (ltN hf0 _ _ _) rfl ?_
          refine wl_mv (.tmp 23) (.bool false) (fun _ => rfl) rfl rfl ?_
          refine wl_skip rfl ?_
          refine wl_skip rfl ?_
          refine wl_skip rfl ?_
          refine wl_skip rfl ?_
          refine wl_pick (.tmp 24) (.tmp 28) (.const (.bool false)) false (.bool false) (fun _ => rfl) rfl rfl rfl ?_
          refine w_nil ?_
          refine xn_then ?_
          refine w_condF rfl ?_
          refine w_exit ?_
          refine xx_then ?_
          refine xx_then ?_
          refine xx_blk ?_
          have hnd : dgt (bt s i) = false := by rw [bt_out (by omega)]; rfl
          rw [re_end hnd] at hre
          rw [az_end hnd] at haz
          exact xn_cut ⟨i, false, e0, e3, e4, e5, hpi, his, hre.symm, by rw [← Bool.not_not (az s p), ← haz]; rfl, M⟩
  · skip
    refine w_seq ?_
    cases hf0 : decide (0 < s.size) with
    | true =>
      have hf0p := of_decide_eq_true hf0
      cases hf1 : (bt s (0) == 45) with
      | true =>
        refine w_reg ?_
        refine wl_mv (.tmp 4) (.int .i64 (0)) (fun _ => rfl) rfl rfl ?_
        refine wl_mv (.tmp 0) (.string s) (fun _ => rfl) rfl rfl ?_
        refine wl_val (.int .i64 ((s.size : Nat) : Int)) (len_s _ _ s (by exact rfl) _ _ _ _ _ _) rfl ?_
        refine wl_bin (fun x y => do eqGuard .lss 3 (.tmp 7) (.tmp 9) x y; binOp .lss 3 x y) (.tmp 7) (.tmp 9) (.int .i64 (0)) (.int .i64 ((s.size : Nat) : Int)) (.bool true) (fun _ => rfl) rfl rfl (ltN hf0 _ _ _) rfl ?_
        refine wl_mv (.tmp 10) (.bool true) (fun _ => rfl) rfl rfl ?_
        refine wl_mv (.tmp 0) (.string s) (fun _ => rfl) rfl rfl ?_
        refine wl_mv (.tmp 4) (.int .i64 (0)) (fun _ => rfl) rfl rfl ?_
        refine wl_bin (fun x y => Instr.index 9 x y) (.tmp 12) (.tmp 13) (.string s) (.int .i64 (0)) (.int .u8 (bt s (0))) (fun _ => rfl) rfl rfl (idx_b (by omega) _) rfl ?_
        refine wl_bin (fun x y => do eqGuard .eql 5 (.tmp 14) (.const (.int .u8 (45))) x y; binOp .eql 5 x y) (.tmp 14) (.const (.int .u8 (45))) (.int .u8 (bt s (0))) (.int .u8 (45)) (.bool true) (fun _ => rfl) rfl rfl (eq5r hf1 _ _ _) rfl ?_
        refine wl_pick (.tmp 11) (.tmp 15) (.const (.bool false)) true (.bool true) (fun _ => rfl) rfl rfl rfl ?_
        refine w_nil ?_
        refine xn_then ?_
        refine w_condT rfl ?_
        refine w_reg ?_
        refine wl_mv (.tmp 4) (.int .i64 (0)) (fun _ => rfl) rfl rfl ?_
        refine wl_bin (fun x y => do eqGuard .add 3 (.tmp 17) (.const (.int .i64 (1))) x y; binOp .add 3 x y) (.tmp 17) (.const (.int .i64 (1))) (.int .i64 (0)) (.int .i64 (1)) (.int .i64 ((0 + 1 : Nat) : Int)) (fun _ => rfl) rfl rfl (add1r (k := 0) (by decide) _ _ _) rfl ?_
        refine wl_mv (.tmp 18) (.int .i64 ((0 + 1 : Nat) : Int)) (fun _ => rfl) rfl rfl ?_
        refine w_nil ?_
        exact xn_cut ⟨1, true, rfl, rfl, rfl, by omega, by omega, by unfold whl; rw [hf1]; rfl, rfl, M⟩
      | false =>
        refine w_reg ?_
        refine wl_mv (.tmp 4) (.int .i64 (0)) (fun _ => rfl) rfl rfl ?_
        refine wl_mv (.tmp 0) (.string s) (fun _ => rfl) rfl rfl ?_
        refine wl_val (.int .i64 ((s.size : Nat) : Int)) (len_s _ _ s (by exact rfl) _ _ _ _ _ _) rfl ?_
        refine wl_bin (fun x y => do eqGuard .lss 3 (.tmp 7) (.tmp 9) x y; binOp .lss 3 x y) (.tmp 7) (.tmp 9) (.int .i64 (0)) (.int .i64 ((s.size : Nat) : Int)) (.bool true) (fun _ => rfl) rfl rfl (ltN hf0 _ _ _) rfl ?_
        refine wl_mv (.tmp 10) (.bool true) (fun _ => rfl) rfl rfl ?_
        refine wl_mv (.tmp 0) (.string s) (fun _ => rfl) rfl rfl ?_
        refine wl_mv (.tmp 4) (.int .i64 (0)) (fun _ => rfl) rfl rfl ?_
        refine wl_bin (fun x y => Instr.index 9 x y) (.tmp 12) (.tmp 13) (.string s) (.int .i64 (0)) (.int .u8 (bt s (0))) (fun _ => rfl) rfl rfl (idx_b (by omega) _) rfl ?_
        refine wl_bin (fun x y => do eqGuard .eql 5 (.tmp 14) (.const (.int .u8 (45))) x y; binOp .eql 5 x y) (.tmp 14) (.const (.int .u8 (45))) (.int .u8 (bt s (0))) (.int .u8 (45)) (.bool false) (fun _ => rfl) rfl rfl (eq5r hf1 _ _ _) rfl ?_
        refine wl_pick (.tmp 11) (.tmp 15) (.const (.bool false)) true (.bool false) (fun _ => rfl) rfl rfl rfl ?_
        refine w_nil ?_
        refine xn_then ?_
        refine w_condF rfl ?_
        refine w_skip ?_
        exact xn_cut ⟨0, false, rfl, rfl, rfl, by omega, by omega, by unfold whl; rw [hf1]; rfl, rfl, M⟩
    | false =>
      have hf0p := of_decide_eq_false hf0
      refine w_reg ?_
      refine wl_mv (.tmp 4) (.int .i64 (0)) (fun _ => rfl) rfl rfl ?_
      refine wl_mv (.tmp 0) (.string s) (fun _ => rfl) rfl rfl ?_
      refine wl_val (.int .i64 ((s.size : Nat) : Int)) (len_s _ _ s (by exact rfl) _ _ _ _ _ _) rfl ?_
      refine wl_bin (fun x y => do eqGuard .lss 3 (.tmp 7) (.tmp 9) x y; binOp .lss 3 x y) (.tmp 7) (.tmp 9) (.int .i64 (0)) (.int .i64 ((s.size : Nat) : Int)) (.bool false) (fun _ => rfl) rfl rfl (ltN hf0 _ _ _) rfl ?_
      refine wl_mv (.tmp 10) (.bool false) (fun _ => rfl) rfl rfl ?_
      refine wl_skip rfl ?_
      refine wl_skip rfl ?_
      refine wl_skip rfl ?_
      refine wl_skip rfl ?_
      refine wl_pick (.tmp 11) (.tmp 15) (.const (.bool false)) false (.bool false) (fun _ => rfl) rfl rfl rfl ?_
      refine w_nil ?_
      refine xn_then ?_
      refine w_condF rfl ?_
      refine w_skip ?_
      have hb0 : (bt s 0 == 45) = false := by rw [bt_out (by omega)]; rfl
      exact xn_cut ⟨0, false, rfl, rfl, rfl, by omega, by omega, by unfold whl; rw [hb0]; rfl, hb0.symm, M⟩
end Go.Proofs.YtdcojpbgijkmgaaDoor
/-
  Bytes put behind a slice of one's own, and a slice's bytes as a text: the laws of the steps.
-/
namespace Go.Proofs.YtdcojpbgijkmgaaDoor
open Go.RowKit
theorem bsl (c : Int) (w : World) : (Instr.buildSlice 51 1 #[(0, .int .u8 c)]).run Tryd.prog w = .ok (.slice (some ⟨w.heap.size, 0, none⟩) 1 1) (w.alloc (.cells #[.int .u8 c] 5)) := by kernel_rfl
theorem ixs (g j n c : Nat) (h : j < n) (w : World) : (Instr.indexAt 51 (.slice (some ⟨g, 0, none⟩) n c) (.int .i64 (j : Int))).run Tryd.prog w = .ok (pt g j) w := by
  simp [go_sem, h]
theorem inf5 : ∃ i, Tryd.prog.info? 5 = some i ∧ i.zero = some (.int .u8 0) ∧ i.size = 1 ∧ i.bytes = 1 := by
  have h : (Tryd.prog.info? 5).map (fun i => (i.zero, i.size, i.bytes)) = some (some (.int .u8 0), 1, 1) := by kernel_rfl
  cases hi : Tryd.prog.info? 5 with
  | none => rw [hi] at h; cases h
  | some i =>
    rw [hi] at h
    simp at h
    exact ⟨i, rfl, h.1, h.2.1, h.2.2⟩
/-- What an append leaves as it was. -/
structure AppW (v : Value) (w w' : World) : Prop where
  os : w'.os = w.os
  tape : w'.tape = w.tape
  output : w'.output = w.output
  size : w.heap.size ≤ w'.heap.size
  block : ∀ k, k < w.heap.size → v.ownBlock ≠ some k → w'.heap[k]? = w.heap[k]?
  fz : ∀ a, w'.frozen? a = w.frozen? a
theorem AppW.at {v : Value} {w w' : World} (h : AppW v w w') {j : Nat} {vs : List Value} (hA : At w j vs) (hn : v.ownBlock ≠ some j) : At w' j vs :=
  ⟨fun i u hu => (World.cell?_of_block (a := ⟨j, 0 + i, none⟩) (h.block j hA.2.2 hn)).trans (hA.1 i u hu), fun o => (h.fz _).trans (hA.2.1 o), Nat.lt_of_lt_of_le hA.2.2 h.size⟩
theorem AppW.mo {v : Value} {w w' a : World} (h : AppW v w w') (hM : Mo a w) (hn : ∀ k, v.ownBlock = some k → a.heap.size ≤ k) : Mo a w' :=
  ⟨⟨h.os.trans hM.1.os, h.tape.trans hM.1.tape, h.output.trans hM.1.output, Nat.le_trans hM.1.size h.size, fun k hk => (h.block k (Nat.lt_of_lt_of_le hk hM.1.size) (fun e => by have := hn k e; omega)).trans (hM.1.block k hk)⟩, fun x => (h.fz x).trans (hM.2 x)⟩
/-- What a store into the block k leaves as it was, block by block. -/
structure St2 (k : Nat) (w w' : World) : Prop extends St k w w' where
  os : w'.os = w.os
  tape : w'.tape = w.tape
  output : w'.output = w.output
  block : ∀ j, j ≠ k → w'.heap[j]? = w.heap[j]?
theorem heap_setCells (k j : Nat) (hj : j ≠ k) : ∀ (l : List Value) (o : Nat) (w : World), (w.setCells k o l).heap[j]? = w.heap[j]? ∧ (w.setCells k o l).os = w.os ∧ (w.setCells k o l).tape = w.tape ∧ (w.setCells k o l).output = w.output
  | [], _, _ => ⟨rfl, rfl, rfl, rfl⟩
  | v :: r, o, w => by
    have h := heap_setCells k j hj r (o + 1) (w.setCell ⟨k, o, none⟩ v)
    rw [World.setCells]
    refine ⟨h.1.trans ?_, h.2.1.trans rfl, h.2.2.1.trans rfl, h.2.2.2.trans rfl⟩
    simp [World.setCell, Array.getElem?_modify, Ne.symm hj]
theorem St2.mk2 (w : World) (k o : Nat) (l : List Value) : St2 k w (w.setCells k o l) :=
  { St.mk' w k o l with
    os := (heap_setCells k (k + 1) (by omega) l o w).2.1
    tape := (heap_setCells k (k + 1) (by omega) l o w).2.2.1
    output := (heap_setCells k (k + 1) (by omega) l o w).2.2.2
    block := fun j hj => (heap_setCells k j hj l o w).1 }
theorem own_st {w w' : World} {N k : Nat} {v : Value} {n : Nat} {xs : List Value} (m : St2 k w w') (h : w.ownsRow N 5 1 v n xs) (hne : v.ownBlock ≠ some k) : w'.ownsRow N 5 1 v n xs :=
  h.kept (row := some k) ⟨m.os, m.tape, m.output, Nat.le_of_eq m.size.symm, fun j _ hj => m.block j (fun e => hj (by rw [e]))⟩ (Or.inr hne)
section
variable {P : Program} {o : Oper} {n : Nat} {l : List (Nat × Value)} {w : World} {ops : Array Oper} {rest : List Oper} {Q : Exit → Act → World → Prop}
theorem wl_stx (ty : TypeId) (x y : Operand) (k off : Nat) (us : Array Value) (vs vs' : List Value) (hA : At w k vs) (ho : o.op = .store ty x y) (hd : o.dst = none) (hx : evl n l x = pt k off) (hy : evl n l y = .agg us)
    (hl : Nat.ble (off + us.size) vs.length = true) (hi : (P.info? ty).map (·.size) = some us.size) (h1 : us.toList.all (·.oneCell') = true) (hvs : vs' = vs.take off ++ us.toList ++ vs.drop (off + us.toList.length)) (hg : wnt n l ops o = true)
    (hk : ∀ w', St2 k w w' → At w' k vs' → WL P ops Q rest n l w') : WL P ops Q (o :: rest) n l w :=
  ⟨l_step hg (o_store ty x y _ _ ho hd hx hy (run_put hA ty off us (Nat.le_of_ble_eq_true hl) hi (by rw [← Array.all_toList]; exact h1)) (hk _ (St2.mk2 w k off us.toList) (hA.set off us.toList (by have := Nat.le_of_ble_eq_true hl; simpa using this) vs' hvs)).out)⟩
end
theorem own_mo {w w' : World} {N : Nat} {v : Value} {n : Nat} {xs : List Value} (h : w.ownsRow N 5 1 v n xs) (m : Mo w w') : w'.ownsRow N 5 1 v n xs :=
  h.kept (row := none) ⟨m.1.os, m.1.tape, m.1.output, m.1.size, fun k hk _ => m.1.block k hk⟩ (by cases e : v.ownBlock <;> simp)
theorem app1 (w : World) (ty : TypeId) (N : Nat) (v : Value) (n : Nat) (xs : List Value) (hown : w.ownsRow N 5 1 v n xs) (k : Nat) (c : Int) (hA : At w k [.int .u8 c]) (hn : n ≤ 1000) (hN : N ≤ w.heap.size) :
    ∃ v' w', (Builtin.append_ #[51, 51] ty #[v, .slice (some ⟨k, 0, none⟩) 1 1]).run Tryd.prog w = .ok v' w' ∧ w'.ownsRow N 5 1 v' (n + 1) (xs ++ [.int .u8 c]) ∧ AppW v w w' ∧ (v'.ownBlock = v.ownBlock ∨ v'.ownBlock = some w.heap.size) := by
  obtain ⟨i, hi, hz, hs, hby⟩ := inf5
  have hnews : ∀ j u, ([Value.int .u8 c] : List Value)[j]? = some u → w.cell? ((⟨k, 0, none⟩ : Addr).add j) = some u := fun j u hu => by
    rw [Addr.add_mid]; have := hA.1 j u hu; simpa using this
  obtain ⟨v', w', hr, h2, h3, _, h5⟩ := run_append_own_at (P := Tryd.prog) w N 51 ty 5 i (.int .u8 0) 1 1 Tryd.underlying51 hi hz hs hby rfl (by decide) v n xs hown ⟨k, 0, none⟩ 1 1 [.int .u8 c] rfl hnews (by simp [Value.oneCell']) (by unfold maxLen; omega) (by omega) hN
  refine ⟨v', w', hr, h2, ⟨h3.os, h3.tape, h3.output, h3.size, fun j hj hne => h3.block j hj (fun e => hne e.symm), ?_⟩, h5⟩
  -- the marks: arm by arm
  rcases hown.2 with ⟨rfl, rfl⟩ | ⟨g, cap, cur, rfl, hbg, hg, hnc, hcm, hcs, htake⟩
  · have hr2 := run_append_nil (P := Tryd.prog) w 51 ty 5 i (.int .u8 0) Tryd.underlying51 hi hz ⟨k, 0, none⟩ 1 1 [.int .u8 c] (by rw [hs]; rfl) hnews (by decide) (by decide) (by omega)
    rw [hr2] at hr
    cases hr
    exact ((Mo.refl w).drew.alloc _ _).2
  · by_cases hroom : n + 1 ≤ cap
    · have hr2 := run_append_room (P := Tryd.prog) w 51 ty 5 i Tryd.underlying51 hi g n cap cur hg ⟨k, 0, none⟩ 1 1 [.int .u8 c] (by rw [hs]; rfl) hnews (by simp [Value.oneCell']) hroom (by rw [hs]; simp; omega)
      rw [hr2] at hr
      cases hr
      intro a
      by_cases e : a.block = g
      · have h1 := setRow_heap w g cur (cur.toList.take (n * i.size) ++ [Value.int .u8 c] ++ cur.toList.drop (n * i.size + [Value.int .u8 c].length)).toArray 5 (0, 0) hg
        simp only [World.frozen?, e, h1, hg]
      · exact World.frozen?_of_block (setRow_other w g a.block _ e)
    · have hr2 := run_append_grow (P := Tryd.prog) w 51 ty 5 i (.int .u8 0) Tryd.underlying51 hi hz ⟨g, 0, none⟩ n cap xs (by rw [hs]; exact hown.1) (hown.cells (g := g) rfl) ⟨k, 0, none⟩ 1 1 [.int .u8 c] (by rw [hs]; rfl) hnews (by omega) (by omega) (by rw [hby]; exact growslice_fits (by omega) (by omega))
      rw [hr2] at hr
      cases hr
      exact ((Mo.refl w).drew.alloc _ _).2
section
variable {o : Oper} {n : Nat} {l : List (Nat × Value)} {w : World} {ops : Array Oper} {rest : List Oper} {Q : Exit → Act → World → Prop}
theorem wl_bsl (x : Operand) (c : Int) (ho : o.op = .buildSlice 51 1 #[(0, x)]) (hx : evl n l x = .int .u8 c) (hg : wnt n l ops o = true)
    (hk : ∀ k w', w.heap.size = k → w'.heap.size = k + 1 → Mo w w' → At w' k [.int .u8 c] → WL Tryd.prog ops Q rest n (ext l o.dst (.slice (some ⟨k, 0, none⟩) 1 1)) w') : WL Tryd.prog ops Q (o :: rest) n l w :=
  ⟨l_step hg (o_val (.slice (some ⟨w.heap.size, 0, none⟩) 1 1) (w' := w.alloc (.cells #[.int .u8 c] 5)) (by simp [execOp, ho, hx, bsl]) (hk _ _ rfl (by simp) ((Mo.refl _).alloc _ _) (At.new w #[.int .u8 c] 5)).out)⟩
theorem wl_app (s x : Operand) (N : Nat) (v : Value) (m : Nat) (xs : List Value) (k : Nat) (c : Int) (ho : o.op = .call { callee := .builtin .append, args := #[s, x], argTypes := #[51, 51] }) (hs : evl n l s = v) (hx : evl n l x = .slice (some ⟨k, 0, none⟩) 1 1)
    (hown : w.ownsRow N 5 1 v m xs) (hA : At w k [.int .u8 c]) (hm : m ≤ 1000) (hN : N ≤ w.heap.size) (hg : wnt n l ops o = true)
    (hk : ∀ v' w', w'.ownsRow N 5 1 v' (m + 1) (xs ++ [.int .u8 c]) → AppW v w w' → (v'.ownBlock = v.ownBlock ∨ v'.ownBlock = some w.heap.size) → WL Tryd.prog ops Q rest n (ext l o.dst v') w') : WL Tryd.prog ops Q (o :: rest) n l w := by
  obtain ⟨v', w', hr, h2, h3, h4⟩ := app1 w o.type N v m xs hown k c hA hm hN
  refine ⟨l_step hg (o_val v' (w' := w') ?_ (hk v' w' h2 h3 h4).out)⟩
  unfold execOp
  simp only [ho, resolve, invoke, builtin, Sem.run_bind, Sem.run_pure, Result.andThen_ok, List.map_toArray, List.map_cons, List.map_nil, hs, hx, hr]
end
theorem own_at {w : World} {N g cap n : Nat} {xs : List Value} (h : w.ownsRow N 5 1 (.slice (some ⟨g, 0, none⟩) n cap) n xs) : At w g xs := by
  have hl := h.1
  refine ⟨fun j v hv => ?_, fun o => h.frozenAt o, (h.lt g rfl).2⟩
  have hj : j < xs.length := (List.getElem?_eq_some_iff.1 hv).1
  rw [Nat.zero_add, h.cellAt j (by omega)]; exact hv
theorem set_tk {vs : List Value} {i : Nat} {v : Value} (h : i < vs.length) : vs.set i v = vs.take i ++ [v] ++ vs.drop (i + 1) := by
  rw [List.set_eq_take_append_cons_drop, if_pos h]; simp
theorem blt_t {a b : Nat} (h : a < b) : Nat.blt a b = true := by rw [Nat.blt_eq]; exact h
/-- The digits from the last on. -/
def dRev : Nat → Int → List Int
  | 0, _ => []
  | f + 1, n => if n = 0 then [] else (48 + n % 10) :: dRev f (n / 10)
theorem dRev_decF : ∀ (f : Nat) (n : Int), 0 < n → n < 10 ^ (f + 1) → (dRev (f + 1) n).reverse = decF (f + 1) n
  | 0, n, h0, h => by
    have : n / 10 = 0 := by simp at h; omega
    unfold dRev decF
    rw [if_neg (by omega), if_pos this]
    simp [dRev]
  | f + 1, n, h0, h => by
    unfold dRev decF
    rw [if_neg (by omega)]
    by_cases hz : n / 10 = 0
    · rw [if_pos hz, hz]
      have : dRev (f + 1) 0 = [] := by unfold dRev; rw [if_pos rfl]
      rw [this]; simp
    · rw [if_neg hz, List.reverse_cons, dRev_decF f (n / 10) (by omega) (by rw [Int.pow_succ] at h; omega)]
theorem dRev_len : ∀ (f : Nat) (n : Int), (dRev f n).length ≤ f
  | 0, _ => by simp [dRev]
  | f + 1, n => by
    unfold dRev; split
    · simp
    · have := dRev_len f (n / 10); simp; omega
theorem dRev_step {f : Nat} {n : Int} (h : n ≠ 0) : dRev (f + 1) n = (48 + n % 10) :: dRev f (n / 10) := by
  show (if n = 0 then [] else (48 + n % 10) :: dRev f (n / 10)) = _
  rw [if_neg h]
theorem dRev_zero (f : Nat) : dRev f 0 = [] := by cases f with | zero => rfl | succ f => unfold dRev; rw [if_pos rfl]
/-- The first i and the last i are exchanged. -/
def RvI (xs : List Int) (i : Nat) (zs : List Int) : Prop := zs.length = xs.length ∧ ∀ p, p < xs.length → zs.getD p 0 = if p < i ∨ xs.length - i ≤ p then xs.getD (xs.length - 1 - p) 0 else xs.getD p 0
theorem RvI.start (xs : List Int) : RvI xs 0 xs := ⟨rfl, fun p hp => by rw [if_neg (by omega)]⟩
theorem RvI.step {xs zs : List Int} {i j : Nat} (h : RvI xs i zs) (hij : i < j) (hl : i + j + 1 = xs.length) : RvI xs (i + 1) ((zs.set i (zs.getD j 0)).set j (zs.getD i 0)) := by
  obtain ⟨h1, h2⟩ := h
  refine ⟨by simp [h1], fun p hp => ?_⟩
  have hi := h2 i (by omega)
  have hj := h2 j (by omega)
  rw [if_neg (by omega)] at hi hj
  simp only [List.getD_eq_getElem?_getD] at *
  rw [List.getElem?_set, List.getElem?_set]
  by_cases e1 : j = p
  · subst e1
    rw [if_pos rfl, if_pos (by simp; omega), if_pos (by omega)]
    simp only [Option.getD_some]
    rw [hi, show xs.length - 1 - j = i by omega]
  · rw [if_neg e1]
    by_cases e2 : i = p
    · subst e2
      rw [if_pos rfl, if_pos (by omega), if_pos (by omega)]
      simp only [Option.getD_some]
      rw [hj, show xs.length - 1 - i = j by omega]
    · rw [if_neg e2, h2 p hp]
      by_cases c : p < i ∨ xs.length - i ≤ p
      · rw [if_pos c, if_pos (by omega)]
      · rw [if_neg c, if_neg (by omega)]
theorem RvI.done {xs zs : List Int} {i j : Nat} (h : RvI xs i zs) (hij : ¬ i < j) (hl : i + j + 1 = xs.length) : zs = xs.reverse := by
  obtain ⟨h1, h2⟩ := h
  apply List.ext_getElem
  · simp [h1]
  · intro p a b
    have hp : p < xs.length := by omega
    have := h2 p hp
    simp only [List.getD_eq_getElem?_getD, List.getElem?_eq_getElem a, Option.getD_some] at this
    rw [this, List.getElem_reverse]
    by_cases c : p < i ∨ xs.length - i ≤ p
    · rw [if_pos c, List.getElem?_eq_getElem (by omega), Option.getD_some]
    · rw [if_neg c, List.getElem?_eq_getElem (by omega), Option.getD_some]
      congr 1; omega
theorem str_run (w : World) (g c : Nat) (ns : List Int) (hA : At w g (ns.map (Value.int .u8))) (m : Nat) (hm : m = ns.length) : (convert 51 9 (.slice (some ⟨g, 0, none⟩) m c)).run Tryd.prog w = .ok (.string (strOf ns)) w := by
  subst hm
  rw [run_convert_bytes_string w 51 9 5 _ _ _ Tryd.underlying51 Tryd.underlying5 Tryd.underlying9, run_bytesToString w _ _ _ ns]
  · rfl
  · have := run_loadCells_list (P := Tryd.prog) w ⟨g, 0, none⟩ (ns.map (Value.int .u8)) (fun j v hv => by rw [Addr.add_mid]; exact hA.1 j v hv)
    simpa using this
end Go.Proofs.YtdcojpbgijkmgaaDoor
/-
  exciseref03.Parse: the number of a text.
-/
namespace Go.Proofs.YtdcojpbgijkmgaaDoor
open Go.RowKit
theorem app2 (w : World) (ty : TypeId) (N : Nat) (v : Value) (n : Nat) (xs : List Value) (hown : w.ownsRow N 5 1 v n xs) (k : Nat) (c : Int) (hA : At w k [.int .u8 c]) (hn : n + 1 ≤ 140737488355328) (hN : N ≤ w.heap.size) :
    ∃ v' w', (Builtin.append_ #[51, 51] ty #[v, .slice (some ⟨k, 0, none⟩) 1 1]).run Tryd.prog w = .ok v' w' ∧ w'.ownsRow N 5 1 v' (n + 1) (xs ++ [.int .u8 c]) ∧ AppW v w w' ∧ (v'.ownBlock = v.ownBlock ∨ v'.ownBlock = some w.heap.size) := by
  obtain ⟨i, hi, hz, hs, hby⟩ := inf5
  have hnews : ∀ j u, ([Value.int .u8 c] : List Value)[j]? = some u → w.cell? ((⟨k, 0, none⟩ : Addr).add j) = some u := fun j u hu => by
    rw [Addr.add_mid]; have := hA.1 j u hu; simpa using this
  obtain ⟨v', w', hr, h2, h3, _, h5⟩ := run_append_own_at (P := Tryd.prog) w N 51 ty 5 i (.int .u8 0) 1 1 Tryd.underlying51 hi hz hs hby rfl (by decide) v n xs hown ⟨k, 0, none⟩ 1 1 [.int .u8 c] rfl hnews (by simp [Value.oneCell']) (by unfold maxLen; omega) (by omega) hN
  refine ⟨v', w', hr, h2, ⟨h3.os, h3.tape, h3.output, h3.size, fun j hj hne => h3.block j hj (fun e => hne e.symm), ?_⟩, h5⟩
  -- the marks: arm by arm
  rcases hown.2 with ⟨rfl, rfl⟩ | ⟨g, cap, cur, rfl, hbg, hg, hnc, hcm, hcs, htake⟩
  · have hr2 := run_append_nil (P := Tryd.prog) w 51 ty 5 i (.int .u8 0) Tryd.underlying51 hi hz ⟨k, 0, none⟩ 1 1 [.int .u8 c] (by rw [hs]; rfl) hnews (by decide) (by decide) (by omega)
    rw [hr2] at hr
    cases hr
    exact ((Mo.refl w).drew.alloc _ _).2
  · by_cases hroom : n + 1 ≤ cap
    · have hr2 := run_append_room (P := Tryd.prog) w 51 ty 5 i Tryd.underlying51 hi g n cap cur hg ⟨k, 0, none⟩ 1 1 [.int .u8 c] (by rw [hs]; rfl) hnews (by simp [Value.oneCell']) hroom (by rw [hs]; simp; omega)
      rw [hr2] at hr
      cases hr
      intro a
      by_cases e : a.block = g
      · have h1 := setRow_heap w g cur (cur.toList.take (n * i.size) ++ [Value.int .u8 c] ++ cur.toList.drop (n * i.size + [Value.int .u8 c].length)).toArray 5 (0, 0) hg
        simp only [World.frozen?, e, h1, hg]
      · exact World.frozen?_of_block (setRow_other w g a.block _ e)
    · have hr2 := run_append_grow (P := Tryd.prog) w 51 ty 5 i (.int .u8 0) Tryd.underlying51 hi hz ⟨g, 0, none⟩ n cap xs (by rw [hs]; exact hown.1) (hown.cells (g := g) rfl) ⟨k, 0, none⟩ 1 1 [.int .u8 c] (by rw [hs]; rfl) hnews (by omega) (by omega) (by rw [hby]; exact growslice_fits (by omega) (by omega))
      rw [hr2] at hr
      cases hr
      exact ((Mo.refl w).drew.alloc _ _).2
section
variable {o : Oper} {n : Nat} {l : List (Nat × Value)} {w : World} {ops : Array Oper} {rest : List Oper} {Q : Exit → Act → World → Prop}
theorem wl_app2 (s x : Operand) (N : Nat) (v : Value) (m : Nat) (xs : List Value) (k : Nat) (c : Int) (ho : o.op = .call { callee := .builtin .append, args := #[s, x], argTypes := #[51, 51] }) (hs : evl n l s = v) (hx : evl n l x = .slice (some ⟨k, 0, none⟩) 1 1)
    (hown : w.ownsRow N 5 1 v m xs) (hA : At w k [.int .u8 c]) (hm : m + 1 ≤ 140737488355328) (hN : N ≤ w.heap.size) (hg : wnt n l ops o = true)
    (hk : ∀ v' w', w'.ownsRow N 5 1 v' (m + 1) (xs ++ [.int .u8 c]) → AppW v w w' → (v'.ownBlock = v.ownBlock ∨ v'.ownBlock = some w.heap.size) → WL Tryd.prog ops Q rest n (ext l o.dst v') w') : WL Tryd.prog ops Q (o :: rest) n l w := by
  obtain ⟨v', w', hr, h2, h3, h4⟩ := app2 w o.type N v m xs hown k c hA hm hN
  refine ⟨l_step hg (o_val v' (w' := w') ?_ (hk v' w' h2 h3 h4).out)⟩
  unfold execOp
  simp only [ho, resolve, invoke, builtin, Sem.run_bind, Sem.run_pure, Result.andThen_ok, List.map_toArray, List.map_cons, List.map_nil, hs, hx, hr]
end
theorem lens_r2 (ρ : Operand → Value) (x : Operand) (p : Option Addr) (m c : Nat) (hx : ρ x = .slice p m c) (dst : Option Tmp) (type : TypeId) (pos : String) (after : Array Edge) (guard : Option (Nat × Bool)) (w : World) : (execOp ρ { dst, op := .call { callee := .builtin .len, args := #[x], argTypes := #[51] }, type, pos, after, guard }).run Tryd.prog w = .ok (.value (.int .i64 (m : Int))) w := by
  simp [go_sem, hx]
theorem own_form {w : World} {N n : Nat} {v : Value} {xs : List Value} (h : w.ownsRow N 5 1 v n xs) : ∃ p c, v = .slice p n c := by
  rcases h.2 with ⟨rfl, rfl⟩ | ⟨g, cap, cur, rfl, _⟩
  · exact ⟨none, 0, rfl⟩
  · exact ⟨_, cap, rfl⟩
/-- The document's way to a text's digits: those that count, and how many stand behind the point. -/
def pr (s : ByteArray) (i : Nat) (a : List Int) (h : Nat) (q : Bool) : List Int × Nat :=
  if _h : i < s.size then
    if bt s i == 46 then pr s (i + 1) a h true
    else if dgt (bt s i) then pr s (i + 1) (if decide (0 < a.length) || !(bt s i == 48) then a ++ [bt s i] else a) (if q then h + 1 else h) q
    else pr s (i + 1) a h q
  else (a, h)
theorem pr_out {s : ByteArray} {i : Nat} {a : List Int} {h : Nat} {q : Bool} (hi : ¬ i < s.size) : pr s i a h q = (a, h) := by rw [pr, dif_neg hi]
theorem pr_in {s : ByteArray} {i : Nat} {a : List Int} {h : Nat} {q : Bool} (hi : i < s.size) : pr s i a h q = if bt s i == 46 then pr s (i + 1) a h true
    else if dgt (bt s i) then pr s (i + 1) (if decide (0 < a.length) || !(bt s i == 48) then a ++ [bt s i] else a) (if q then h + 1 else h) q
    else pr s (i + 1) a h q := by rw [pr, dif_pos hi]
abbrev prs (s : ByteArray) : List Int × Nat := pr s 0 [] 0 false
/-- What Parse answers, where N and E are what the digits' Parse does. -/
def rps (s : ByteArray) (N E : Int) : Value :=
  if whl s = false then er 30 else if 18 < (prs s).2 then er 31 else if (prs s).1.length = 0 then .tuple #[dc (bt s 0 == 45) 0 ((prs s).2 : Int), .int .i64 0]
  else if (E == 0) = false then er E else .tuple #[dc (bt s 0 == 45) N ((prs s).2 : Int), .int .i64 0]
theorem whl_pos {s : ByteArray} (h : whl s = true) : 0 < s.size := by
  rw [whl_dec] at h
  unfold isDec at h
  rw [emp_iff] at h
  by_cases h0 : s.size = 0
  · rw [decide_eq_true h0] at h; cases h
  · omega
theorem whole_c {s : ByteArray} {r : Bool} (hs : s.size ≤ maxLen) (h : whl s = r) (w : World) : Calls Tryd.prog 31 #[.string s] w fun e w' => e = .returned (.bool r) ∧ Mo w w' := h ▸ whole_n s w hs
theorem ne30 {a b : Int} {r : Bool} (h : (a == b) = r) (x y : Operand) (w : World) : (do eqGuard .neq 30 x y (.int .i64 a) (.int .i64 b); binOp .neq 30 (.int .i64 a) (.int .i64 b)).run Tryd.prog w = .ok (.bool (!r)) w := by
  subst h; kernel_rfl
theorem eqz5 {a b : Int} (x y : Operand) (w : World) : (do eqGuard .eql 5 x y (.int .u8 a) (.int .u8 b); binOp .eql 5 (.int .u8 a) (.int .u8 b)).run Tryd.prog w = .ok (.bool (a == b)) w := by kernel_rfl
theorem rpa_n (s : ByteArray) (N E : Int) (w : World) (hs : s.size ≤ maxLen) (hsz0 : s.size ≤ 140737488355328) (hrp : (prs s).1 ≠ [] → ∀ w, Calls Tryd.prog 33 #[.string (strOf (prs s).1)] w fun e w' => e = .returned (.tuple #[nv N, .int .i64 E]) ∧ Mo w w') : Calls Tryd.prog 14 #[.string s] w fun e w' => e = .returned (rps s N E) ∧ Mo w w' := by
  refine w_enter 75 Tryd.func14 Tryd.ntmps14 rfl rfl ?_
  have M : Mo w w := Mo.refl _
  refine w_seq ?_
  refine w_reg ?_
  refine wl_alloc 26 #[.bool false, .int .u64 0, .int .u64 0, .int .u64 0, .int .u64 0, .int .i64 0] rfl (fun _ => by kernel_rfl) rfl ?_
  intro k1 w1 hk hz hq Q1
  have N_k1 : w.heap.size ≤ k1 := by have := M.size; omega
  replace M := M.trans hq
  clear hk hz hq
  refine wl_mv (.const (.int .i64 (0))) (.int .i64 (0)) (fun _ => rfl) rfl rfl ?_
  refine w_nil ?_
  refine xn_then ?_
  refine w_seq ?_
  refine w_seq ?_
  cases hf0 : whl s with
  | true =>
    refine w_reg ?_
    refine wl_mv (.tmp 0) (.string s) (fun _ => rfl) rfl rfl ?_
    refine wl_call 31 [(.tmp 11)] _ [.string s] (.bool true) rfl rfl (fun _ _ => by kernel_rfl) (whole_c hs hf0 _) rfl ?_
    intro w2 hq
    replace Q1 := Q1.mo hq
    replace M := M.trans hq
    clear hq
    refine wl_un (fun v => Op.unary .not v) (.tmp 12) (.bool true) (.bool false) (fun _ => rfl) rfl (by kernel_rfl) rfl ?_
    refine w_nil ?_
    refine xn_then ?_
    refine w_condF rfl ?_
    refine w_skip ?_
    refine xn_then ?_
    refine w_seq ?_
    refine w_reg ?_
    refine wl_mv (.tmp 0) (.string s) (fun _ => rfl) rfl rfl ?_
    refine wl_bin (fun x y => Instr.index 9 x y) (.tmp 15) (.const (.int .i64 (0))) (.string s) (.int .i64 (0)) (.int .u8 (bt s 0)) (fun _ => rfl) rfl rfl (idx_b (k := 0) (whl_pos hf0) _) rfl ?_
    refine wl_bin (fun x y => do eqGuard .eql 5 (.tmp 16) (.const (.int .u8 (45))) x y; binOp .eql 5 x y) (.tmp 16) (.const (.int .u8 (45))) (.int .u8 (bt s 0)) (.int .u8 (45)) (.bool (bt s 0 == 45)) (fun _ => rfl) rfl rfl (eqz5 _ _ _) rfl ?_
    refine wl_build 26 [(0, (.tmp 17))] [(0, .bool (bt s 0 == 45))] (.agg #[.bool (bt s 0 == 45), .int .u64 0, .int .u64 0, .int .u64 0, .int .u64 0, .int .i64 0]) rfl rfl (by kernel_rfl) rfl ?_
    refine wl_alloc 26 #[.bool false, .int .u64 0, .int .u64 0, .int .u64 0, .int .u64 0, .int .i64 0] rfl (fun _ => by kernel_rfl) rfl ?_
    intro k2 w3 hk hz hq Q2
    have ne_k1_k2 : k1 ≠ k2 := by have := Q1.lt; omega
    have N_k2 : w.heap.size ≤ k2 := by have := M.size; omega
    replace Q1 := Q1.mo hq
    replace M := M.trans hq
    clear hk hz hq
    refine wl_st 26 (.tmp 4) (.tmp 18) k2 0 #[.bool (bt s 0 == 45), .int .u64 0, .int .u64 0, .int .u64 0, .int .u64 0, .int .i64 0] [.bool false, .int .u64 0, .int .u64 0, .int .u64 0, .int .u64 0, .int .i64 0] [.bool (bt s 0 == 45), .int .u64 0, .int .u64 0, .int .u64 0, .int .u64 0, .int .i64 0] Q2 rfl rfl rfl rfl rfl sz26 rfl rfl rfl ?_
    intro w4 hS Qn
    replace Q2 := Qn
    clear Qn
    replace Q1 := hS.other _ _ ne_k1_k2 Q1
    replace M := hS.mo _ N_k2 M
    clear hS
    refine w_nil ?_
    refine xn_then ?_
    refine w_seq ?_
    refine w_reg ?_
    refine wl_mv (.const (.slice none 0 0)) (.slice none 0 0) (fun _ => rfl) rfl rfl ?_
    refine w_nil ?_
    refine xn_then ?_
    refine w_seq ?_
    refine w_reg ?_
    refine wl_mv (.const (.int .i64 (0))) (.int .i64 (0)) (fun _ => rfl) rfl rfl ?_
    refine w_nil ?_
    refine xn_then ?_
    refine w_seq ?_
    refine w_reg ?_
    refine wl_mv (.const (.bool false)) (.bool false) (fun _ => rfl) rfl rfl ?_
    refine w_nil ?_
    refine xn_then ?_
    refine w_cut (fun l w1 => ∃ (p : Option Addr) (cv h : Nat) (xs : List Int), look l 2 = pt k1 0 ∧ look l 4 = pt k2 0 ∧ look l 5 = .slice p xs.length cv ∧ look l 6 = .int .i64 (h : Int) ∧ (xs ≠ [] → ∃ g, p = some ⟨g, 0, none⟩ ∧ g ≠ k1 ∧ g ≠ k2 ∧ At w1 g (xs.map (Value.int .u8)) ∧ w.heap.size ≤ g) ∧ At w1 k1 z40l ∧ At w1 k2 [.bool (bt s 0 == 45), .int .u64 0, .int .u64 0, .int .u64 0, .int .u64 0, .int .i64 (0)] ∧ prs s = (xs, h) ∧ Mo w w1) ?_ ?_
    · skip
      clear M Q1 Q2
      rintro l wc ⟨p, cv, h, xs, e2, e4, e5, e6, hg, Q1, Q2, hR, M⟩
      by_cases hx : xs = []
      · have hxl : decide (xs.length = 0) = true := by rw [hx]; rfl
        refine w_seq ?_
        refine w_seq ?_
        cases hf1 : decide (18 < h) with
        | true =>
          have hf1p := of_decide_eq_true hf1
          refine w_reg ?_
          refine wl_mv (.tmp 6) (.int .i64 ((h : Nat) : Int)) (fun _ => rfl) e6 rfl ?_
          refine wl_bin (fun x y => do eqGuard .gtr 3 (.tmp 53) (.const (.int .i64 (18))) x y; binOp .gtr 3 x y) (.tmp 53) (.const (.int .i64 (18))) (.int .i64 ((h : Nat) : Int)) (.int .i64 (18)) (.bool true) (fun _ => rfl) rfl rfl (gtN hf1 _ _ _) rfl ?_
          refine w_nil ?_
          refine xn_then ?_
          refine w_condT rfl ?_
          refine w_seq ?_
          refine w_reg ?_
          refine wl_build 26 [] [] (.agg #[.bool false, .int .u64 0, .int .u64 0, .int .u64 0, .int .u64 0, .int .i64 0]) rfl rfl (by kernel_rfl) rfl ?_
          refine wl_st 26 (.tmp 2) (.tmp 55) k1 0 #[.bool false, .int .u64 0, .int .u64 0, .int .u64 0, .int .u64 0, .int .i64 0] [.bool false, .int .u64 0, .int .u64 0, .int .u64 0, .int .u64 0, .int .i64 0] [.bool false, .int .u64 0, .int .u64 0, .int .u64 0, .int .u64 0, .int .i64 0] Q1 rfl rfl e2 rfl rfl sz26 rfl rfl rfl ?_
          intro w41 hS Qn
          replace Q1 := Qn
          clear Qn
          replace Q2 := hS.other _ _ ne_k1_k2.symm Q2
          replace M := hS.mo _ N_k1 M
          clear hS
          refine wl_mv (.const (.int .i64 (31))) (.int .i64 (31)) (fun _ => rfl) rfl rfl ?_
          refine w_nil ?_
          refine xn_then ?_
          refine w_ret ?_
          refine xr_then ?_
          have hfin : rps s N E = .tuple #[.agg #[.bool false, .int .u64 0, .int .u64 0, .int .u64 0, .int .u64 0, .int .i64 0], .int .i64 (31)] := by unfold rps; rw [if_neg (by rw [hf0]; simp), hR, if_pos (of_decide_eq_true hf1)]; try rfl
          exact w_ret2 _ _ (.agg #[.bool false, .int .u64 0, .int .u64 0, .int .u64 0, .int .u64 0, .int .i64 0]) (.int .i64 (31)) rfl ⟨k1, e2, (run_row Q1 26 0 6 [.bool false, .int .u64 0, .int .u64 0, .int .u64 0, .int .u64 0, .int .i64 0] rfl Tryd.underlying26 rfl sz26)⟩ rfl ⟨by rw [hfin], M⟩
        | false =>
          have hf1p := of_decide_eq_false hf1
          refine w_reg ?_
          refine wl_mv (.tmp 6) (.int .i64 ((h : Nat) : Int)) (fun _ => rfl) e6 rfl ?_
          refine wl_bin (fun x y => do eqGuard .gtr 3 (.tmp 53) (.const (.int .i64 (18))) x y; binOp .gtr 3 x y) (.tmp 53) (.const (.int .i64 (18))) (.int .i64 ((h : Nat) : Int)) (.int .i64 (18)) (.bool false) (fun _ => rfl) rfl rfl (gtN hf1 _ _ _) rfl ?_
          refine w_nil ?_
          refine xn_then ?_
          refine w_condF rfl ?_
          refine w_skip ?_
          refine xn_then ?_
          refine w_seq ?_
          refine w_reg ?_
          refine wl_mv (.tmp 6) (.int .i64 ((h : Nat) : Int)) (fun _ => rfl) e6 rfl ?_
          refine wl_un (fun v => Instr.fieldAt 26 v 2) (.tmp 4) (pt k2 0) (pt k2 5) (fun _ => rfl) e4 (by kernel_rfl) rfl ?_
          refine wl_st1 3 (.tmp 57) (.tmp 56) k2 5 (.int .i64 ((h : Nat) : Int)) [.bool (bt s 0 == 45), .int .u64 0, .int .u64 0, .int .u64 0, .int .u64 0, .int .i64 (0)] [.bool (bt s 0 == 45), .int .u64 0, .int .u64 0, .int .u64 0, .int .u64 0, .int .i64 ((h : Nat) : Int)] Q2 rfl rfl rfl rfl rfl sz3 rfl rfl rfl rfl ?_
          intro w41 hS Qn
          replace Q2 := Qn
          clear Qn
          replace Q1 := hS.other _ _ ne_k1_k2 Q1
          replace M := hS.mo _ N_k2 M
          clear hS
          refine w_nil ?_
          refine xn_then ?_
          refine w_seq ?_
          refine w_seq ?_
          refine w_reg ?_
          refine wl_mv (.tmp 5) (.slice p xs.length cv) (fun _ => rfl) e5 rfl ?_
          refine wl_val (.int .i64 ((xs.length : Nat) : Int)) (lens_r2 _ _ _ _ cv (by exact rfl) _ _ _ _ _ _) rfl ?_
          refine wl_bin (fun x y => do eqGuard .eql 3 (.tmp 59) (.const (.int .i64 (0))) x y; binOp .eql 3 x y) (.tmp 59) (.const (.int .i64 (0))) (.int .i64 ((xs.length : Nat) : Int)) (.int .i64 (0)) (.bool true) (fun _ => rfl) rfl rfl (eqN hxl _ _ _) rfl ?_
          refine w_nil ?_
          refine xn_then ?_
          refine w_condT rfl ?_
          refine w_seq ?_
          refine w_reg ?_
          refine wl_load 26 (.tmp 4) (pt k2 0) (.agg #[.bool (bt s 0 == 45), .int .u64 0, .int .u64 0, .int .u64 0, .int .u64 0, .int .i64 ((h : Nat) : Int)]) rfl e4 (run_row Q2 26 0 6 [.bool (bt s 0 == 45), .int .u64 0, .int .u64 0, .int .u64 0, .int .u64 0, .int .i64 ((h : Nat) : Int)] rfl Tryd.underlying26 rfl sz26) rfl ?_
          refine wl_st 26 (.tmp 2) (.tmp 61) k1 0 #[.bool (bt s 0 == 45), .int .u64 0, .int .u64 0, .int .u64 0, .int .u64 0, .int .i64 ((h : Nat) : Int)] [.bool false, .int .u64 0, .int .u64 0, .int .u64 0, .int .u64 0, .int .i64 0] [.bool (bt s 0 == 45), .int .u64 0, .int .u64 0, .int .u64 0, .int .u64 0, .int .i64 ((h : Nat) : Int)] Q1 rfl rfl e2 rfl rfl sz26 rfl rfl rfl ?_
          intro w42 hS Qn
          replace Q1 := Qn
          clear Qn
          replace Q2 := hS.other _ _ ne_k1_k2.symm Q2
          replace M := hS.mo _ N_k1 M
          clear hS
          refine wl_mv (.const (.int .i64 (0))) (.int .i64 (0)) (fun _ => rfl) rfl rfl ?_
          refine w_nil ?_
          refine xn_then ?_
          refine w_ret ?_
          refine xr_then ?_
          have hfin : rps s N E = .tuple #[.agg #[.bool (bt s 0 == 45), .int .u64 0, .int .u64 0, .int .u64 0, .int .u64 0, .int .i64 ((h : Nat) : Int)], .int .i64 (0)] := by unfold rps; rw [if_neg (by rw [hf0]; simp), hR, if_neg (of_decide_eq_false hf1), if_pos (of_decide_eq_true hxl)]; try rfl
          exact w_ret2 _ _ (.agg #[.bool (bt s 0 == 45), .int .u64 0, .int .u64 0, .int .u64 0, .int .u64 0, .int .i64 ((h : Nat) : Int)]) (.int .i64 (0)) rfl ⟨k1, e2, (run_row Q1 26 0 6 [.bool (bt s 0 == 45), .int .u64 0, .int .u64 0, .int .u64 0, .int .u64 0, .int .i64 ((h : Nat) : Int)] rfl Tryd.underlying26 rfl sz26)⟩ rfl ⟨by rw [hfin], M⟩
      · obtain ⟨g, rfl, ne_g_k1, ne_g_k2, Qg, hgN⟩ := hg hx
        have hxl : decide (xs.length = 0) = false := decide_eq_false (fun e => hx (List.eq_nil_of_length_eq_zero e))
        have hrp2 : ∀ w, Calls Tryd.prog 33 #[.string (strOf xs)] w fun e w' => e = .returned (.tuple #[nv N, .int .i64 E]) ∧ Mo w w' := by have := hrp (by rw [hR]; exact hx); rw [hR] at this; exact this
        refine w_seq ?_
        refine w_seq ?_
        cases hf1 : decide (18 < h) with
        | true =>
          have hf1p := of_decide_eq_true hf1
          refine w_reg ?_
          refine wl_mv (.tmp 6) (.int .i64 ((h : Nat) : Int)) (fun _ => rfl) e6 rfl ?_
          refine wl_bin (fun x y => do eqGuard .gtr 3 (.tmp 53) (.const (.int .i64 (18))) x y; binOp .gtr 3 x y) (.tmp 53) (.const (.int .i64 (18))) (.int .i64 ((h : Nat) : Int)) (.int .i64 (18)) (.bool true) (fun _ => rfl) rfl rfl (gtN hf1 _ _ _) rfl ?_
          refine w_nil ?_
          refine xn_then ?_
          refine w_condT rfl ?_
          refine w_seq ?_
          refine w_reg ?_
          refine wl_build 26 [] [] (.agg #[.bool false, .int .u64 0, .int .u64 0, .int .u64 0, .int .u64 0, .int .i64 0]) rfl rfl (by kernel_rfl) rfl ?_
          refine wl_st 26 (.tmp 2) (.tmp 55) k1 0 #[.bool false, .int .u64 0, .int .u64 0, .int .u64 0, .int .u64 0, .int .i64 0] [.bool false, .int .u64 0, .int .u64 0, .int .u64 0, .int .u64 0, .int .i64 0] [.bool false, .int .u64 0, .int .u64 0, .int .u64 0, .int .u64 0, .int .i64 0] Q1 rfl rfl e2 rfl rfl sz26 rfl rfl rfl ?_
          intro w41 hS Qn
          replace Q1 := Qn
          clear Qn
          replace Q2 := hS.other _ _ ne_k1_k2.symm Q2
          replace Qg := hS.other _ _ ne_g_k1 Qg
          replace M := hS.mo _ N_k1 M
          clear hS
          refine wl_mv (.const (.int .i64 (31))) (.int .i64 (31)) (fun _ => rfl) rfl rfl ?_
          refine w_nil ?_
          refine xn_then ?_
          refine w_ret ?_
          refine xr_then ?_
          have hfin : rps s N E = .tuple #[.agg #[.bool false, .int .u64 0, .int .u64 0, .int .u64 0, .int .u64 0, .int .i64 0], .int .i64 (31)] := by unfold rps; rw [if_neg (by rw [hf0]; simp), hR, if_pos (of_decide_eq_true hf1)]; try rfl
          exact w_ret2 _ _ (.agg #[.bool false, .int .u64 0, .int .u64 0, .int .u64 0, .int .u64 0, .int .i64 0]) (.int .i64 (31)) rfl ⟨k1, e2, (run_row Q1 26 0 6 [.bool false, .int .u64 0, .int .u64 0, .int .u64 0, .int .u64 0, .int .i64 0] rfl Tryd.underlying26 rfl sz26)⟩ rfl ⟨by rw [hfin], M⟩
        | false =>
          have hf1p := of_decide_eq_false hf1
          refine w_reg ?_
          refine wl_mv (.tmp 6) (.int .i64 ((h : Nat) : Int)) (fun _ => rfl) e6 rfl ?_
          refine wl_bin (fun x y => do eqGuard .gtr 3 (.tmp 53) (.const (.int .i64 (18))) x y; binOp .gtr 3 x y) (.tmp 53) (.const (.int .i64 (18))) (.int .i64 ((h : Nat) : Int)) (.int .i64 (18)) (.bool false) (fun _ => rfl) rfl rfl (gtN hf1 _ _ _) rfl ?_
          refine w_nil ?_
          refine xn_then ?_
          refine w_condF rfl ?_
          refine w_skip ?_
          refine xn_then ?_
          refine w_seq ?_
          refine w_reg ?_
          refine wl_mv (.tmp 6) (.int .i64 ((h : Nat) : Int)) (fun _ => rfl) e6 rfl ?_
          refine wl_un (fun v => Instr.fieldAt 26 v 2) (.tmp 4) (pt k2 0) (pt k2 5) (fun _ => rfl) e4 (by kernel_rfl) rfl ?_
          refine wl_st1 3 (.tmp 57) (.tmp 56) k2 5 (.int .i64 ((h : Nat) : Int)) [.bool (bt s 0 == 45), .int .u64 0, .int .u64 0, .int .u64 0, .int .u64 0, .int .i64 (0)] [.bool (bt s 0 == 45), .int .u64 0, .int .u64 0, .int .u64 0, .int .u64 0, .int .i64 ((h : Nat) : Int)] Q2 rfl rfl rfl rfl rfl sz3 rfl rfl rfl rfl ?_
          intro w41 hS Qn
          replace Q2 := Qn
          clear Qn
          replace Q1 := hS.other _ _ ne_k1_k2 Q1
          replace Qg := hS.other _ _ ne_g_k2 Qg
          replace M := hS.mo _ N_k2 M
          clear hS
          refine w_nil ?_
          refine xn_then ?_
          refine w_seq ?_
          refine w_seq ?_
          refine w_reg ?_
          refine wl_mv (.tmp 5) (.slice (some ⟨g, 0, none⟩) xs.length cv) (fun _ => rfl) e5 rfl ?_
          refine wl_val (.int .i64 ((xs.length : Nat) : Int)) (lens_r2 _ _ _ _ cv (by exact rfl) _ _ _ _ _ _) rfl ?_
          refine wl_bin (fun x y => do eqGuard .eql 3 (.tmp 59) (.const (.int .i64 (0))) x y; binOp .eql 3 x y) (.tmp 59) (.const (.int .i64 (0))) (.int .i64 ((xs.length : Nat) : Int)) (.int .i64 (0)) (.bool false) (fun _ => rfl) rfl rfl (eqN hxl _ _ _) rfl ?_
          refine w_nil ?_
          refine xn_then ?_
          refine w_condF rfl ?_
          refine w_skip ?_
          refine xn_then ?_
          refine w_seq ?_
          refine w_reg ?_
          refine wl_mv (.tmp 5) (.slice (some ⟨g, 0, none⟩) xs.length cv) (fun _ => rfl) e5 rfl ?_
          refine wl_un (fun v => convert 51 9 v) (.tmp 63) (.slice (some ⟨g, 0, none⟩) xs.length cv) (.string (strOf xs)) (fun _ => rfl) rfl (str_run _ g cv xs Qg _ rfl) rfl ?_
          refine wl_call 33 [(.tmp 64)] _ [.string (strOf xs)] (.tuple #[.agg #[.int .u64 (l0 N), .int .u64 (l1 N), .int .u64 (l2 N), .int .u64 (l3 N)], .int .i64 (E)]) rfl rfl (fun _ _ => by kernel_rfl) (hrp2 _) rfl ?_
          intro w42 hq
          replace Q1 := Q1.mo hq
          replace Q2 := Q2.mo hq
          replace Qg := Qg.mo hq
          replace M := M.trans hq
          clear hq
          refine wl_mv (.tmp 65) (.tuple #[.agg #[.int .u64 (l0 N), .int .u64 (l1 N), .int .u64 (l2 N), .int .u64 (l3 N)], .int .i64 (E)]) (fun _ => rfl) rfl rfl ?_
          refine wl_un (fun v => Instr.extract v 0) (.tmp 62) (.tuple #[.agg #[.int .u64 (l0 N), .int .u64 (l1 N), .int .u64 (l2 N), .int .u64 (l3 N)], .int .i64 (E)]) (.agg #[.int .u64 (l0 N), .int .u64 (l1 N), .int .u64 (l2 N), .int .u64 (l3 N)]) (fun _ => rfl) rfl (by kernel_rfl) rfl ?_
          refine wl_un (fun v => Instr.extract v 1) (.tmp 62) (.tuple #[.agg #[.int .u64 (l0 N), .int .u64 (l1 N), .int .u64 (l2 N), .int .u64 (l3 N)], .int .i64 (E)]) (.int .i64 (E)) (fun _ => rfl) rfl (by kernel_rfl) rfl ?_
          refine wl_alloc 24 #[.int .u64 0, .int .u64 0, .int .u64 0, .int .u64 0] rfl (fun _ => by kernel_rfl) rfl ?_
          intro k3 w43 hk hz hq Q3
          have ne_k1_k3 : k1 ≠ k3 := by have := Q1.lt; omega
          have ne_k2_k3 : k2 ≠ k3 := by have := Q2.lt; omega
          have ne_g_k3 : g ≠ k3 := by have := Qg.lt; omega
          have N_k3 : w.heap.size ≤ k3 := by have := M.size; omega
          replace Q1 := Q1.mo hq
          replace Q2 := Q2.mo hq
          replace Qg := Qg.mo hq
          replace M := M.trans hq
          clear hk hz hq
          refine wl_st 24 (.tmp 9) (.tmp 66) k3 0 #[.int .u64 (l0 N), .int .u64 (l1 N), .int .u64 (l2 N), .int .u64 (l3 N)] [.int .u64 0, .int .u64 0, .int .u64 0, .int .u64 0] [.int .u64 (l0 N), .int .u64 (l1 N), .int .u64 (l2 N), .int .u64 (l3 N)] Q3 rfl rfl rfl rfl rfl sz24 rfl rfl rfl ?_
          intro w44 hS Qn
          replace Q3 := Qn
          clear Qn
          replace Q1 := hS.other _ _ ne_k1_k3 Q1
          replace Q2 := hS.other _ _ ne_k2_k3 Q2
          replace Qg := hS.other _ _ ne_g_k3 Qg
          replace M := hS.mo _ N_k3 M
          clear hS
          refine wl_mv (.tmp 67) (.int .i64 (E)) (fun _ => rfl) rfl rfl ?_
          refine w_nil ?_
          refine xn_then ?_
          refine w_seq ?_
          refine w_seq ?_
          cases hf2 : (E == 0) with
          | true =>
            refine w_reg ?_
            refine wl_mv (.tmp 10) (.int .i64 (E)) (fun _ => rfl) rfl rfl ?_
            refine wl_bin (fun x y => do eqGuard .neq 30 (.tmp 68) (.const (.int .i64 (0))) x y; binOp .neq 30 x y) (.tmp 68) (.const (.int .i64 (0))) (.int .i64 (E)) (.int .i64 (0)) (.bool false) (fun _ => rfl) rfl rfl (ne30 hf2 _ _ _) rfl ?_
            refine w_nil ?_
            refine xn_then ?_
            refine w_condF rfl ?_
            refine w_skip ?_
            refine xn_then ?_
            refine w_seq ?_
            refine w_reg ?_
            refine wl_load 24 (.tmp 9) (pt k3 0) (.agg #[.int .u64 (l0 N), .int .u64 (l1 N), .int .u64 (l2 N), .int .u64 (l3 N)]) rfl rfl (run_row Q3 24 0 4 [.int .u64 (l0 N), .int .u64 (l1 N), .int .u64 (l2 N), .int .u64 (l3 N)] rfl Tryd.underlying24 rfl sz24) rfl ?_
            refine wl_un (fun v => Instr.fieldAt 26 v 1) (.tmp 4) (pt k2 0) (pt k2 1) (fun _ => rfl) e4 (by kernel_rfl) rfl ?_
            refine wl_st 24 (.tmp 73) (.tmp 72) k2 1 #[.int .u64 (l0 N), .int .u64 (l1 N), .int .u64 (l2 N), .int .u64 (l3 N)] [.bool (bt s 0 == 45), .int .u64 0, .int .u64 0, .int .u64 0, .int .u64 0, .int .i64 ((h : Nat) : Int)] [.bool (bt s 0 == 45), .int .u64 (l0 N), .int .u64 (l1 N), .int .u64 (l2 N), .int .u64 (l3 N), .int .i64 ((h : Nat) : Int)] Q2 rfl rfl rfl rfl rfl sz24 rfl rfl rfl ?_
            intro w45 hS Qn
            replace Q2 := Qn
            clear Qn
            replace Q1 := hS.other _ _ ne_k1_k2 Q1
            replace Qg := hS.other _ _ ne_g_k2 Qg
            replace Q3 := hS.other _ _ ne_k2_k3.symm Q3
            replace M := hS.mo _ N_k2 M
            clear hS
            refine w_nil ?_
            refine xn_then ?_
            refine w_seq ?_
            refine w_reg ?_
            refine wl_load 26 (.tmp 4) (pt k2 0) (.agg #[.bool (bt s 0 == 45), .int .u64 (l0 N), .int .u64 (l1 N), .int .u64 (l2 N), .int .u64 (l3 N), .int .i64 ((h : Nat) : Int)]) rfl e4 (run_row Q2 26 0 6 [.bool (bt s 0 == 45), .int .u64 (l0 N), .int .u64 (l1 N), .int .u64 (l2 N), .int .u64 (l3 N), .int .i64 ((h : Nat) : Int)] rfl Tryd.underlying26 rfl sz26) rfl ?_
            refine wl_st 26 (.tmp 2) (.tmp 74) k1 0 #[.bool (bt s 0 == 45), .int .u64 (l0 N), .int .u64 (l1 N), .int .u64 (l2 N), .int .u64 (l3 N), .int .i64 ((h : Nat) : Int)] [.bool false, .int .u64 0, .int .u64 0, .int .u64 0, .int .u64 0, .int .i64 0] [.bool (bt s 0 == 45), .int .u64 (l0 N), .int .u64 (l1 N), .int .u64 (l2 N), .int .u64 (l3 N), .int .i64 ((h : Nat) : Int)] Q1 rfl rfl e2 rfl rfl sz26 rfl rfl rfl ?_
            intro w46 hS Qn
            replace Q1 := Qn
            clear Qn
            replace Q2 := hS.other _ _ ne_k1_k2.symm Q2
            replace Qg := hS.other _ _ ne_g_k1 Qg
            replace Q3 := hS.other _ _ ne_k1_k3.symm Q3
            replace M := hS.mo _ N_k1 M
            clear hS
            refine wl_mv (.const (.int .i64 (0))) (.int .i64 (0)) (fun _ => rfl) rfl rfl ?_
            refine w_nil ?_
            refine xn_then ?_
            refine w_ret ?_
            have hfin : rps s N E = .tuple #[.agg #[.bool (bt s 0 == 45), .int .u64 (l0 N), .int .u64 (l1 N), .int .u64 (l2 N), .int .u64 (l3 N), .int .i64 ((h : Nat) : Int)], .int .i64 (0)] := by unfold rps; rw [if_neg (by rw [hf0]; simp), hR, if_neg (of_decide_eq_false hf1), if_neg (of_decide_eq_false hxl), if_neg (by rw [hf2]; simp)]; try rfl
            exact w_ret2 _ _ (.agg #[.bool (bt s 0 == 45), .int .u64 (l0 N), .int .u64 (l1 N), .int .u64 (l2 N), .int .u64 (l3 N), .int .i64 ((h : Nat) : Int)]) (.int .i64 (0)) rfl ⟨k1, e2, (run_row Q1 26 0 6 [.bool (bt s 0 == 45), .int .u64 (l0 N), .int .u64 (l1 N), .int .u64 (l2 N), .int .u64 (l3 N), .int .i64 ((h : Nat) : Int)] rfl Tryd.underlying26 rfl sz26)⟩ rfl ⟨by rw [hfin], M⟩
          | false =>
            refine w_reg ?_
            refine wl_mv (.tmp 10) (.int .i64 (E)) (fun _ => rfl) rfl rfl ?_
            refine wl_bin (fun x y => do eqGuard .neq 30 (.tmp 68) (.const (.int .i64 (0))) x y; binOp .neq 30 x y) (.tmp 68) (.const (.int .i64 (0))) (.int .i64 (E)) (.int .i64 (0)) (.bool true) (fun _ => rfl) rfl rfl (ne30 hf2 _ _ _) rfl ?_
            refine w_nil ?_
            refine xn_then ?_
            refine w_condT rfl ?_
            refine w_seq ?_
            refine w_reg ?_
            refine wl_build 26 [] [] (.agg #[.bool false, .int .u64 0, .int .u64 0, .int .u64 0, .int .u64 0, .int .i64 0]) rfl rfl (by kernel_rfl) rfl ?_
            refine wl_mv (.tmp 10) (.int .i64 (E)) (fun _ => rfl) rfl rfl ?_
            refine wl_st 26 (.tmp 2) (.tmp 70) k1 0 #[.bool false, .int .u64 0, .int .u64 0, .int .u64 0, .int .u64 0, .int .i64 0] [.bool false, .int .u64 0, .int .u64 0, .int .u64 0, .int .u64 0, .int .i64 0] [.bool false, .int .u64 0, .int .u64 0, .int .u64 0, .int .u64 0, .int .i64 0] Q1 rfl rfl e2 rfl rfl sz26 rfl rfl rfl ?_
            intro w45 hS Qn
            replace Q1 := Qn
            clear Qn
            replace Q2 := hS.other _ _ ne_k1_k2.symm Q2
            replace Qg := hS.other _ _ ne_g_k1 Qg
            replace Q3 := hS.other _ _ ne_k1_k3.symm Q3
            replace M := hS.mo _ N_k1 M
            clear hS
            refine wl_mv (.tmp 71) (.int .i64 (E)) (fun _ => rfl) rfl rfl ?_
            refine w_nil ?_
            refine xn_then ?_
            refine w_ret ?_
            refine xr_then ?_
            have hfin : rps s N E = .tuple #[.agg #[.bool false, .int .u64 0, .int .u64 0, .int .u64 0, .int .u64 0, .int .i64 0], .int .i64 (E)] := by unfold rps; rw [if_neg (by rw [hf0]; simp), hR, if_neg (of_decide_eq_false hf1), if_neg (of_decide_eq_false hxl), if_pos hf2]; try rfl
            exact w_ret2 _ _ (.agg #[.bool false, .int .u64 0, .int .u64 0, .int .u64 0, .int .u64 0, .int .i64 0]) (.int .i64 (E)) rfl ⟨k1, e2, (run_row Q1 26 0 6 [.bool false, .int .u64 0, .int .u64 0, .int .u64 0, .int .u64 0, .int .i64 0] rfl Tryd.underlying26 rfl sz26)⟩ rfl ⟨by rw [hfin], M⟩
    · skip
      refine w_seq ?_
      refine w_reg ?_
      refine wl_mv (.const (.int .i64 (0))) (.int .i64 (0)) (fun _ => rfl) rfl rfl ?_
      refine w_nil ?_
      refine xn_then ?_
      refine w_block ?_
      refine w_loop (fun m l w1 => ∃ (i h : Nat) (q : Bool) (xs : List Int) (v : Value), m = s.size - i ∧ look l 0 = .string s ∧ look l 2 = pt k1 0 ∧ look l 4 = pt k2 0 ∧ look l 5 = v ∧ look l 6 = .int .i64 (h : Int) ∧ look l 7 = .bool q ∧ look l 8 = .int .i64 (i : Int) ∧ i ≤ s.size ∧ xs.length ≤ i ∧ h ≤ i ∧ At w1 k1 z40l ∧ At w1 k2 [.bool (bt s 0 == 45), .int .u64 0, .int .u64 0, .int .u64 0, .int .u64 0, .int .i64 (0)] ∧ w1.ownsRow w.heap.size 5 1 v xs.length (xs.map (Value.int .u8)) ∧ v.ownBlock ≠ some k1 ∧ v.ownBlock ≠ some k2 ∧ pr s i xs h q = prs s ∧ Mo w w1) _ ⟨0, 0, false, [], .slice none 0 0, rfl, rfl, rfl, rfl, rfl, rfl, rfl, rfl, by omega, by simp, by omega, Q1, Q2, World.ownsRow_nil _ _ _ _, by simp [Value.ownBlock], by simp [Value.ownBlock], rfl, M⟩ ?_
      clear M Q1 Q2
      rintro m l wl ⟨i, h, q, xs, v, rfl, e0, e2, e4, e5, e6, e7, e8, his, hxi, hhi, Q1, Q2, hown, on_k1, on_k2, hR, M⟩
      obtain ⟨pv, cv, hv⟩ := own_form hown
      have hsz := M.size
      refine w_seq ?_
      refine w_seq ?_
      cases hf1 : decide (i < s.size) with
      | true =>
        have hf1p := of_decide_eq_true hf1
        refine w_reg ?_
        refine wl_mv (.tmp 8) (.int .i64 ((i : Nat) : Int)) (fun _ => rfl) e8 rfl ?_
        refine wl_mv (.tmp 0) (.string s) (fun _ => rfl) e0 rfl ?_
        refine wl_val (.int .i64 ((s.size : Nat) : Int)) (len_s _ _ s (by exact rfl) _ _ _ _ _ _) rfl ?_
        refine wl_bin (fun x y => do eqGuard .lss 3 (.tmp 19) (.tmp 21) x y; binOp .lss 3 x y) (.tmp 19) (.tmp 21) (.int .i64 ((i : Nat) : Int)) (.int .i64 ((s.size : Nat) : Int)) (.bool true) (fun _ => rfl) rfl rfl (ltN hf1 _ _ _) rfl ?_
        refine w_nil ?_
        refine xn_then ?_
        refine w_condT rfl ?_
        refine w_skip ?_
        refine xn_then ?_
        refine w_seq ?_
        refine w_block ?_
        refine w_block ?_
        refine w_seq ?_
        cases hf2 : (bt s (i) == 46) with
        | true =>
          refine w_reg ?_
          refine wl_mv (.tmp 0) (.string s) (fun _ => rfl) e0 rfl ?_
          refine wl_mv (.tmp 8) (.int .i64 ((i : Nat) : Int)) (fun _ => rfl) e8 rfl ?_
          refine wl_bin (fun x y => Instr.index 9 x y) (.tmp 26) (.tmp 27) (.string s) (.int .i64 ((i : Nat) : Int)) (.int .u8 (bt s (i))) (fun _ => rfl) rfl rfl (idx_b (by omega) _) rfl ?_
          refine wl_bin (fun x y => do eqGuard .eql 5 (.tmp 28) (.const (.int .u8 (46))) x y; binOp .eql 5 x y) (.tmp 28) (.const (.int .u8 (46))) (.int .u8 (bt s (i))) (.int .u8 (46)) (.bool true) (fun _ => rfl) rfl rfl (eq5r hf2 _ _ _) rfl ?_
          refine wl_mv (.tmp 29) (.bool true) (fun _ => rfl) rfl rfl ?_
          refine w_nil ?_
          refine xn_then ?_
          refine w_condT rfl ?_
          refine w_reg ?_
          refine wl_mv (.const (.bool true)) (.bool true) (fun _ => rfl) rfl rfl ?_
          refine w_nil ?_
          refine xn_blk ?_
          refine xn_blk ?_
          refine xn_then ?_
          refine w_reg ?_
          refine wl_mv (.tmp 8) (.int .i64 ((i : Nat) : Int)) (fun _ => rfl) e8 rfl ?_
          refine wl_bin (fun x y => do eqGuard .add 3 (.tmp 23) (.const (.int .i64 (1))) x y; binOp .add 3 x y) (.tmp 23) (.const (.int .i64 (1))) (.int .i64 ((i : Nat) : Int)) (.int .i64 (1)) (.int .i64 ((i + 1 : Nat) : Int)) (fun _ => rfl) rfl rfl (add1r (k := i) (by omega) _ _ _) rfl ?_
          refine wl_mv (.tmp 24) (.int .i64 ((i + 1 : Nat) : Int)) (fun _ => rfl) rfl rfl ?_
          refine w_nil ?_
          exact xn_loop (s.size - (i + 1)) (by omega) ⟨i + 1, h, true, xs, v, rfl, e0, e2, e4, e5, e6, rfl, rfl, by omega, by first | omega | (simp; omega), by omega, Q1, Q2, hown, on_k1, on_k2, by rw [← hR, pr_in (of_decide_eq_true hf1)]; simp [hf2], M⟩
        | false =>
          refine w_reg ?_
          refine wl_mv (.tmp 0) (.string s) (fun _ => rfl) e0 rfl ?_
          refine wl_mv (.tmp 8) (.int .i64 ((i : Nat) : Int)) (fun _ => rfl) e8 rfl ?_
          refine wl_bin (fun x y => Instr.index 9 x y) (.tmp 26) (.tmp 27) (.string s) (.int .i64 ((i : Nat) : Int)) (.int .u8 (bt s (i))) (fun _ => rfl) rfl rfl (idx_b (by omega) _) rfl ?_
          refine wl_bin (fun x y => do eqGuard .eql 5 (.tmp 28) (.const (.int .u8 (46))) x y; binOp .eql 5 x y) (.tmp 28) (.const (.int .u8 (46))) (.int .u8 (bt s (i))) (.int .u8 (46)) (.bool false) (fun _ => rfl) rfl rfl (eq5r hf2 _ _ _) rfl ?_
          refine wl_mv (.tmp 29) (.bool false) (fun _ => rfl) rfl rfl ?_
          refine w_nil ?_
          refine xn_then ?_
          refine w_condF rfl ?_
          refine w_seq ?_
          cases hf3 : dgt (bt s (i)) with
          | true =>
            refine w_reg ?_
            refine wl_mv (.tmp 0) (.string s) (fun _ => rfl) e0 rfl ?_
            refine wl_mv (.tmp 8) (.int .i64 ((i : Nat) : Int)) (fun _ => rfl) e8 rfl ?_
            refine wl_bin (fun x y => Instr.index 9 x y) (.tmp 31) (.tmp 32) (.string s) (.int .i64 ((i : Nat) : Int)) (.int .u8 (bt s (i))) (fun _ => rfl) rfl rfl (idx_b (by omega) _) rfl ?_
            refine wl_call 32 [(.tmp 33)] _ [.int .u8 (bt s (i))] (.bool true) rfl rfl (fun _ _ => by kernel_rfl) (digit_c hf3 _) rfl ?_
            intro w21 hq
            replace hown := own_mo hown hq
            replace Q1 := Q1.mo hq
            replace Q2 := Q2.mo hq
            replace M := M.trans hq
            clear hq
            refine wl_mv (.tmp 34) (.bool true) (fun _ => rfl) rfl rfl ?_
            refine w_nil ?_
            refine xn_then ?_
            refine w_condT rfl ?_
            refine w_seq ?_
            refine w_seq ?_
            refine w_reg ?_
            refine wl_mv (.tmp 7) (.bool q) (fun _ => rfl) e7 rfl ?_
            refine w_nil ?_
            refine xn_then ?_
            cases q with
            | true =>
              refine w_condT rfl ?_
              refine w_reg ?_
              refine wl_mv (.tmp 6) (.int .i64 ((h : Nat) : Int)) (fun _ => rfl) e6 rfl ?_
              refine wl_bin (fun x y => do eqGuard .add 3 (.tmp 36) (.const (.int .i64 (1))) x y; binOp .add 3 x y) (.tmp 36) (.const (.int .i64 (1))) (.int .i64 ((h : Nat) : Int)) (.int .i64 (1)) (.int .i64 ((h + 1 : Nat) : Int)) (fun _ => rfl) rfl rfl (add1r (k := h) (by omega) _ _ _) rfl ?_
              refine wl_mv (.tmp 37) (.int .i64 ((h + 1 : Nat) : Int)) (fun _ => rfl) rfl rfl ?_
              refine w_nil ?_
              refine xn_then ?_
              refine w_seq ?_
              cases hf4 : decide (0 < xs.length) with
              | true =>
                have hf4p := of_decide_eq_true hf4
                refine w_reg ?_
                refine wl_mv (.tmp 5) (v) (fun _ => rfl) e5 rfl ?_
                refine wl_val (.int .i64 ((xs.length : Nat) : Int)) (lens_r2 _ _ pv _ cv (Eq.trans (b := v) (by exact rfl) hv) _ _ _ _ _ _) rfl ?_
                refine wl_bin (fun x y => do eqGuard .gtr 3 (.tmp 39) (.const (.int .i64 (0))) x y; binOp .gtr 3 x y) (.tmp 39) (.const (.int .i64 (0))) (.int .i64 ((xs.length : Nat) : Int)) (.int .i64 (0)) (.bool true) (fun _ => rfl) rfl rfl (gtN hf4 _ _ _) rfl ?_
                refine wl_mv (.tmp 40) (.bool true) (fun _ => rfl) rfl rfl ?_
                refine wl_skip rfl ?_
                refine wl_skip rfl ?_
                refine wl_skip rfl ?_
                refine wl_skip rfl ?_
                refine wl_pick (.tmp 41) (.const (.bool true)) (.tmp 45) true (.bool true) (fun _ => rfl) rfl rfl rfl ?_
                refine w_nil ?_
                refine xn_then ?_
                refine w_condT rfl ?_
                refine w_reg ?_
                refine wl_mv (.tmp 5) (v) (fun _ => rfl) e5 rfl ?_
                refine wl_mv (.tmp 0) (.string s) (fun _ => rfl) e0 rfl ?_
                refine wl_mv (.tmp 8) (.int .i64 ((i : Nat) : Int)) (fun _ => rfl) e8 rfl ?_
                refine wl_bin (fun x y => Instr.index 9 x y) (.tmp 48) (.tmp 49) (.string s) (.int .i64 ((i : Nat) : Int)) (.int .u8 (bt s (i))) (fun _ => rfl) rfl rfl (idx_b (by omega) _) rfl ?_
                refine wl_bsl (.tmp 50) (bt s (i)) rfl rfl rfl ?_
                intro k21 w22 hk hz2 hq Q21
                have ne_k1_k21 : k1 ≠ k21 := by have := Q1.lt; omega
                have ne_k2_k21 : k2 ≠ k21 := by have := Q2.lt; omega
                have on_k21 : v.ownBlock ≠ some k21 := fun e => by have := (hown.lt _ e).2; omega
                have N_k21 : w.heap.size ≤ k21 := by have := M.size; omega
                replace hown := own_mo hown hq
                replace Q1 := Q1.mo hq
                replace Q2 := Q2.mo hq
                replace M := M.trans hq
                clear hk hz2 hq
                refine wl_app2 (.tmp 47) (.tmp 51) w.heap.size v xs.length (xs.map (Value.int .u8)) k21 (bt s (i)) rfl rfl rfl hown Q21 (by omega) (by have := M.size; omega) rfl ?_
                intro v' w23 hown2 hW hat
                have hne_k1 : v'.ownBlock ≠ some k1 := by rcases hat with h | h <;> rw [h]; exact on_k1; intro e; cases e; have := Q1.lt; omega
                have hne_k2 : v'.ownBlock ≠ some k2 := by rcases hat with h | h <;> rw [h]; exact on_k2; intro e; cases e; have := Q2.lt; omega
                replace M := hW.mo M (fun j e => (hown.lt _ e).1)
                replace Q1 := hW.at Q1 on_k1
                replace Q2 := hW.at Q2 on_k2
                replace Q21 := hW.at Q21 on_k21
                clear hown hW hat
                have hown := hown2
                clear hown2
                replace on_k1 := hne_k1
                replace on_k2 := hne_k2
                refine wl_mv (.tmp 52) (v') (fun _ => rfl) rfl rfl ?_
                refine w_nil ?_
                refine xn_blk ?_
                refine xn_blk ?_
                refine xn_then ?_
                refine w_reg ?_
                refine wl_mv (.tmp 8) (.int .i64 ((i : Nat) : Int)) (fun _ => rfl) e8 rfl ?_
                refine wl_bin (fun x y => do eqGuard .add 3 (.tmp 23) (.const (.int .i64 (1))) x y; binOp .add 3 x y) (.tmp 23) (.const (.int .i64 (1))) (.int .i64 ((i : Nat) : Int)) (.int .i64 (1)) (.int .i64 ((i + 1 : Nat) : Int)) (fun _ => rfl) rfl rfl (add1r (k := i) (by omega) _ _ _) rfl ?_
                refine wl_mv (.tmp 24) (.int .i64 ((i + 1 : Nat) : Int)) (fun _ => rfl) rfl rfl ?_
                refine w_nil ?_
                exact xn_loop (s.size - (i + 1)) (by omega) ⟨i + 1, h + 1, true, (xs ++ [bt s i]), v', rfl, e0, e2, e4, rfl, rfl, e7, rfl, by omega, by first | omega | (simp; omega), by omega, Q1, Q2, by rw [List.length_append, List.map_append]; exact hown, on_k1, on_k2, by rw [← hR, pr_in (of_decide_eq_true hf1)]; simp [hf2, hf3, hf4p], M⟩
              | false =>
                have hf4p := of_decide_eq_false hf4
                cases hf5 : (bt s (i) == 48) with
                | true =>
                  refine w_reg ?_
                  refine wl_mv (.tmp 5) (v) (fun _ => rfl) e5 rfl ?_
                  refine wl_val (.int .i64 ((xs.length : Nat) : Int)) (lens_r2 _ _ pv _ cv (Eq.trans (b := v) (by exact rfl) hv) _ _ _ _ _ _) rfl ?_
                  refine wl_bin (fun x y => do eqGuard .gtr 3 (.tmp 39) (.const (.int .i64 (0))) x y; binOp .gtr 3 x y) (.tmp 39) (.const (.int .i64 (0))) (.int .i64 ((xs.length : Nat) : Int)) (.int .i64 (0)) (.bool false) (fun _ => rfl) rfl rfl (gtN hf4 _ _ _) rfl ?_
                  refine wl_mv (.tmp 40) (.bool false) (fun _ => rfl) rfl rfl ?_
                  refine wl_mv (.tmp 0) (.string s) (fun _ => rfl) e0 rfl ?_
                  refine wl_mv (.tmp 8) (.int .i64 ((i : Nat) : Int)) (fun _ => rfl) e8 rfl ?_
                  refine wl_bin (fun x y => Instr.index 9 x y) (.tmp 42) (.tmp 43) (.string s) (.int .i64 ((i : Nat) : Int)) (.int .u8 (bt s (i))) (fun _ => rfl) rfl rfl (idx_b (by omega) _) rfl ?_
                  refine wl_bin (fun x y => do eqGuard .neq 5 (.tmp 44) (.const (.int .u8 (48))) x y; binOp .neq 5 x y) (.tmp 44) (.const (.int .u8 (48))) (.int .u8 (bt s (i))) (.int .u8 (48)) (.bool false) (fun _ => rfl) rfl rfl (ne5r hf5 _ _ _) rfl ?_
                  refine wl_pick (.tmp 41) (.const (.bool true)) (.tmp 45) false (.bool false) (fun _ => rfl) rfl rfl rfl ?_
                  refine w_nil ?_
                  refine xn_then ?_
                  refine w_condF rfl ?_
                  refine w_skip ?_
                  refine xn_blk ?_
                  refine xn_blk ?_
                  refine xn_then ?_
                  refine w_reg ?_
                  refine wl_mv (.tmp 8) (.int .i64 ((i : Nat) : Int)) (fun _ => rfl) e8 rfl ?_
                  refine wl_bin (fun x y => do eqGuard .add 3 (.tmp 23) (.const (.int .i64 (1))) x y; binOp .add 3 x y) (.tmp 23) (.const (.int .i64 (1))) (.int .i64 ((i : Nat) : Int)) (.int .i64 (1)) (.int .i64 ((i + 1 : Nat) : Int)) (fun _ => rfl) rfl rfl (add1r (k := i) (by omega) _ _ _) rfl ?_
                  refine wl_mv (.tmp 24) (.int .i64 ((i + 1 : Nat) : Int)) (fun _ => rfl) rfl rfl ?_
                  refine w_nil ?_
                  exact xn_loop (s.size - (i + 1)) (by omega) ⟨i + 1, h + 1, true, xs, v, rfl, e0, e2, e4, e5, rfl, e7, rfl, by omega, by first | omega | (simp; omega), by omega, Q1, Q2, hown, on_k1, on_k2, by rw [← hR, pr_in (of_decide_eq_true hf1)]; simp [hf2, hf3, hf4p, hf5], M⟩
                | false =>
                  refine w_reg ?_
                  refine wl_mv (.tmp 5) (v) (fun _ => rfl) e5 rfl ?_
                  refine wl_val (.int .i64 ((xs.length : Nat) : Int)) (lens_r2 _ _ pv _ cv (Eq.trans (b := v) (by exact rfl) hv) _ _ _ _ _ _) rfl ?_
                  refine wl_bin (fun x y => do eqGuard .gtr 3 (.tmp 39) (.const (.int .i64 (0))) x y; binOp .gtr 3 x y) (.tmp 39) (.const (.int .i64 (0))) (.int .i64 ((xs.length : Nat) : Int)) (.int .i64 (0)) (.bool false) (fun _ => rfl) rfl rfl (gtN hf4 _ _ _) rfl ?_
                  refine wl_mv (.tmp 40) (.bool false) (fun _ => rfl) rfl rfl ?_
                  refine wl_mv (.tmp 0) (.string s) (fun _ => rfl) e0 rfl ?_
                  refine wl_mv (.tmp 8) (.int .i64 ((i : Nat) : Int)) (fun _ => rfl) e8 rfl ?_
                  refine wl_bin (fun x y => Instr.index 9 x y) (.tmp 42) (.tmp 43) (.string s) (.int .i64 ((i : Nat) : Int)) (.int .u8 (bt s (i))) (fun _ => rfl) rfl rfl (idx_b (by omega) _) rfl ?_
                  refine wl_bin (fun x y => do eqGuard .neq 5 (.tmp 44) (.const (.int .u8 (48))) x y; binOp .neq 5 x y) (.tmp 44) (.const (.int .u8 (48))) (.int .u8 (bt s (i))) (.int .u8 (48)) (.bool true) (fun _ => rfl) rfl rfl (ne5r hf5 _ _ _) rfl ?_
                  refine wl_pick (.tmp 41) (.const (.bool true)) (.tmp 45) false (.bool true) (fun _ => rfl) rfl rfl rfl ?_
                  refine w_nil ?_
                  refine xn_then ?_
                  refine w_condT rfl ?_
                  refine w_reg ?_
                  refine wl_mv (.tmp 5) (v) (fun _ => rfl) e5 rfl ?_
                  refine wl_mv (.tmp 0) (.string s) (fun _ => rfl) e0 rfl ?_
                  refine wl_mv (.tmp 8) (.int .i64 ((i : Nat) : Int)) (fun _ => rfl) e8 rfl ?_
                  refine wl_bin (fun x y => Instr.index 9 x y) (.tmp 48) (.tmp 49) (.string s) (.int .i64 ((i : Nat) : Int)) (.int .u8 (bt s (i))) (fun _ => rfl) rfl rfl (idx_b (by omega) _) rfl ?_
                  refine wl_bsl (.tmp 50) (bt s (i)) rfl rfl rfl ?_
                  intro k21 w22 hk hz2 hq Q21
                  have ne_k1_k21 : k1 ≠ k21 := by have := Q1.lt; omega
                  have ne_k2_k21 : k2 ≠ k21 := by have := Q2.lt; omega
                  have on_k21 : v.ownBlock ≠ some k21 := fun e => by have := (hown.lt _ e).2; omega
                  have N_k21 : w.heap.size ≤ k21 := by have := M.size; omega
                  replace hown := own_mo hown hq
                  replace Q1 := Q1.mo hq
                  replace Q2 := Q2.mo hq
                  replace M := M.trans hq
                  clear hk hz2 hq
                  refine wl_app2 (.tmp 47) (.tmp 51) w.heap.size v xs.length (xs.map (Value.int .u8)) k21 (bt s (i)) rfl rfl rfl hown Q21 (by omega) (by have := M.size; omega) rfl ?_
                  intro v' w23 hown2 hW hat
                  have hne_k1 : v'.ownBlock ≠ some k1 := by rcases hat with h | h <;> rw [h]; exact on_k1; intro e; cases e; have := Q1.lt; omega
                  have hne_k2 : v'.ownBlock ≠ some k2 := by rcases hat with h | h <;> rw [h]; exact on_k2; intro e; cases e; have := Q2.lt; omega
                  replace M := hW.mo M (fun j e => (hown.lt _ e).1)
                  replace Q1 := hW.at Q1 on_k1
                  replace Q2 := hW.at Q2 on_k2
                  replace Q21 := hW.at Q21 on_k21
                  clear hown hW hat
                  have hown := hown2
                  clear hown2
                  replace on_k1 := hne_k1
                  replace on_k2 := hne_k2
                  refine wl_mv (.tmp 52) (v') (fun _ => rfl) rfl rfl ?_
                  refine w_nil ?_
                  refine xn_blk ?_
                  refine xn_blk ?_
                  refine xn_then ?_
                  refine w_reg ?_
                  refine wl_mv (.tmp 8) (.int .i64 ((i : Nat) : Int)) (fun _ => rfl) e8 rfl ?_
                  refine wl_bin (fun x y => do eqGuard .add 3 (.tmp 23) (.const (.int .i64 (1))) x y; binOp .add 3 x y) (.tmp 23) (.const (.int .i64 (1))) (.int .i64 ((i : Nat) : Int)) (.int .i64 (1)) (.int .i64 ((i + 1 : Nat) : Int)) (fun _ => rfl) rfl rfl (add1r (k := i) (by omega) _ _ _) rfl ?_
                  refine wl_mv (.tmp 24) (.int .i64 ((i + 1 : Nat) : Int)) (fun _ => rfl) rfl rfl ?_
                  refine w_nil ?_
                  exact xn_loop (s.size - (i + 1)) (by omega) ⟨i + 1, h + 1, true, (xs ++ [bt s i]), v', rfl, e0, e2, e4, rfl, rfl, e7, rfl, by omega, by first | omega | (simp; omega), by omega, Q1, Q2, by rw [List.length_append, List.map_append]; exact hown, on_k1, on_k2, by rw [← hR, pr_in (of_decide_eq_true hf1)]; simp [hf2, hf3, hf4p, hf5], M⟩
            | false =>
              refine w_condF rfl ?_
              refine w_skip ?_
              refine xn_then ?_
              refine w_seq ?_
              cases hf4 : decide (0 < xs.length) with
              | true =>
                have hf4p := of_decide_eq_true hf4
                refine w_reg ?_
                refine wl_mv (.tmp 5) (v) (fun _ => rfl) e5 rfl ?_
                refine wl_val (.int .i64 ((xs.length : Nat) : Int)) (lens_r2 _ _ pv _ cv (Eq.trans (b := v) (by exact rfl) hv) _ _ _ _ _ _) rfl ?_
                refine wl_bin (fun x y => do eqGuard .gtr 3 (.tmp 39) (.const (.int .i64 (0))) x y; binOp .gtr 3 x y) (.tmp 39) (.const (.int .i64 (0))) (.int .i64 ((xs.length : Nat) : Int)) (.int .i64 (0)) (.bool true) (fun _ => rfl) rfl rfl (gtN hf4 _ _ _) rfl ?_
                refine wl_mv (.tmp 40) (.bool true) (fun _ => rfl) rfl rfl ?_
                refine wl_skip rfl ?_
                refine wl_skip rfl ?_
                refine wl_skip rfl ?_
                refine wl_skip rfl ?_
                refine wl_pick (.tmp 41) (.const (.bool true)) (.tmp 45) true (.bool true) (fun _ => rfl) rfl rfl rfl ?_
                refine w_nil ?_
                refine xn_then ?_
                refine w_condT rfl ?_
                refine w_reg ?_
                refine wl_mv (.tmp 5) (v) (fun _ => rfl) e5 rfl ?_
                refine wl_mv (.tmp 0) (.string s) (fun _ => rfl) e0 rfl ?_
                refine wl_mv (.tmp 8) (.int .i64 ((i : Nat) : Int)) (fun _ => rfl) e8 rfl ?_
                refine wl_bin (fun x y => Instr.index 9 x y) (.tmp 48) (.tmp 49) (.string s) (.int .i64 ((i : Nat) : Int)) (.int .u8 (bt s (i))) (fun _ => rfl) rfl rfl (idx_b (by omega) _) rfl ?_
                refine wl_bsl (.tmp 50) (bt s (i)) rfl rfl rfl ?_
                intro k21 w22 hk hz2 hq Q21
                have ne_k1_k21 : k1 ≠ k21 := by have := Q1.lt; omega
                have ne_k2_k21 : k2 ≠ k21 := by have := Q2.lt; omega
                have on_k21 : v.ownBlock ≠ some k21 := fun e => by have := (hown.lt _ e).2; omega
                have N_k21 : w.heap.size ≤ k21 := by have := M.size; omega
                replace hown := own_mo hown hq
                replace Q1 := Q1.mo hq
                replace Q2 := Q2.mo hq
                replace M := M.trans hq
                clear hk hz2 hq
                refine wl_app2 (.tmp 47) (.tmp 51) w.heap.size v xs.length (xs.map (Value.int .u8)) k21 (bt s (i)) rfl rfl rfl hown Q21 (by omega) (by have := M.size; omega) rfl ?_
                intro v' w23 hown2 hW hat
                have hne_k1 : v'.ownBlock ≠ some k1 := by rcases hat with h | h <;> rw [h]; exact on_k1; intro e; cases e; have := Q1.lt; omega
                have hne_k2 : v'.ownBlock ≠ some k2 := by rcases hat with h | h <;> rw [h]; exact on_k2; intro e; cases e; have := Q2.lt; omega
                replace M := hW.mo M (fun j e => (hown.lt _ e).1)
                replace Q1 := hW.at Q1 on_k1
                replace Q2 := hW.at Q2 on_k2
                replace Q21 := hW.at Q21 on_k21
                clear hown hW hat
                have hown := hown2
                clear hown2
                replace on_k1 := hne_k1
                replace on_k2 := hne_k2
                refine wl_mv (.tmp 52) (v') (fun _ => rfl) rfl rfl ?_
                refine w_nil ?_
                refine xn_blk ?_
                refine xn_blk ?_
                refine xn_then ?_
                refine w_reg ?_
                refine wl_mv (.tmp 8) (.int .i64 ((i : Nat) : Int)) (fun _ => rfl) e8 rfl ?_
                refine wl_bin (fun x y => do eqGuard .add 3 (.tmp 23) (.const (.int .i64 (1))) x y; binOp .add 3 x y) (.tmp 23) (.const (.int .i64 (1))) (.int .i64 ((i : Nat) : Int)) (.int .i64 (1)) (.int .i64 ((i + 1 : Nat) : Int)) (fun _ => rfl) rfl rfl (add1r (k := i) (by omega) _ _ _) rfl ?_
                refine wl_mv (.tmp 24) (.int .i64 ((i + 1 : Nat) : Int)) (fun _ => rfl) rfl rfl ?_
                refine w_nil ?_
                exact xn_loop (s.size - (i + 1)) (by omega) ⟨i + 1, h, false, (xs ++ [bt s i]), v', rfl, e0, e2, e4, rfl, e6, e7, rfl, by omega, by first | omega | (simp; omega), by omega, Q1, Q2, by rw [List.length_append, List.map_append]; exact hown, on_k1, on_k2, by rw [← hR, pr_in (of_decide_eq_true hf1)]; simp [hf2, hf3, hf4p], M⟩
              | false =>
                have hf4p := of_decide_eq_false hf4
                cases hf5 : (bt s (i) == 48) with
                | true =>
                  refine w_reg ?_
                  refine wl_mv (.tmp 5) (v) (fun _ => rfl) e5 rfl ?_
                  refine wl_val (.int .i64 ((xs.length : Nat) : Int)) (lens_r2 _ _ pv _ cv (Eq.trans (b := v) (by exact rfl) hv) _ _ _ _ _ _) rfl ?_
                  refine wl_bin (fun x y => do eqGuard .gtr 3 (.tmp 39) (.const (.int .i64 (0))) x y; binOp .gtr 3 x y) (.tmp 39) (.const (.int .i64 (0))) (.int .i64 ((xs.length : Nat) : Int)) (.int .i64 (0)) (.bool false) (fun _ => rfl) rfl rfl (gtN hf4 _ _ _) rfl ?_
                  refine wl_mv (.tmp 40) (.bool false) (fun _ => rfl) rfl rfl ?_
                  refine wl_mv (.tmp 0) (.string s) (fun _ => rfl) e0 rfl ?_
                  refine wl_mv (.tmp 8) (.int .i64 ((i : Nat) : Int)) (fun _ => rfl) e8 rfl ?_
                  refine wl_bin (fun x y => Instr.index 9 x y) (.tmp 42) (.tmp 43) (.string s) (.int .i64 ((i : Nat) : Int)) (.int .u8 (bt s (i))) (fun _ => rfl) rfl rfl (idx_b (by omega) _) rfl ?_
                  refine wl_bin (fun x y => do eqGuard .neq 5 (.tmp 44) (.const (.int .u8 (48))) x y; binOp .neq 5 x y) (.tmp 44) (.const (.int .u8 (48))) (.int .u8 (bt s (i))) (.int .u8 (48)) (.bool false) (fun _ => rfl) rfl rfl (ne5r hf5 _ _ _) rfl ?_
                  refine wl_pick (.tmp 41) (.const (.bool true)) (.tmp 45) false (.bool false) (fun _ => rfl) rfl rfl rfl ?_
                  refine w_nil ?_
                  refine xn_then ?_
                  refine w_condF rfl ?_
                  refine w_skip ?_
                  refine xn_blk ?_
                  refine xn_blk ?_
                  refine xn_then ?_
                  refine w_reg ?_
                  refine wl_mv (.tmp 8) (.int .i64 ((i : Nat) : Int)) (fun _ => rfl) e8 rfl ?_
                  refine wl_bin (fun x y => do eqGuard .add 3 (.tmp 23) (.const (.int .i64 (1))) x y; binOp .add 3 x y) (.tmp 23) (.const (.int .i64 (1))) (.int .i64 ((i : Nat) : Int)) (.int .i64 (1)) (.int .i64 ((i + 1 : Nat) : Int)) (fun _ => rfl) rfl rfl (add1r (k := i) (by omega) _ _ _) rfl ?_
                  refine wl_mv (.tmp 24) (.int .i64 ((i + 1 : Nat) : Int)) (fun _ => rfl) rfl rfl ?_
                  refine w_nil ?_
                  exact xn_loop (s.size - (i + 1)) (by omega) ⟨i + 1, h, false, xs, v, rfl, e0, e2, e4, e5, e6, e7, rfl, by omega, by first | omega | (simp; omega), by omega, Q1, Q2, hown, on_k1, on_k2, by rw [← hR, pr_in (of_decide_eq_true hf1)]; simp [hf2, hf3, hf4p, hf5], M⟩
                | false =>
                  refine w_reg ?_
                  refine wl_mv (.tmp 5) (v) (fun _ => rfl) e5 rfl ?_
                  refine wl_val (.int .i64 ((xs.length : Nat) : Int)) (lens_r2 _ _ pv _ cv (Eq.trans (b := v) (by exact rfl) hv) _ _ _ _ _ _) rfl ?_
                  refine wl_bin (fun x y => do eqGuard .gtr 3 (.tmp 39) (.const (.int .i64 (0))) x y; binOp .gtr 3 x y) (.tmp 39) (.const (.int .i64 (0))) (.int .i64 ((xs.length : Nat) : Int)) (.int .i64 (0)) (.bool false) (fun _ => rfl) rfl rfl (gtN hf4 _ _ _) rfl ?_
                  refine wl_mv (.tmp 40) (.bool false) (fun _ => rfl) rfl rfl ?_
                  refine wl_mv (.tmp 0) (.string s) (fun _ => rfl) e0 rfl ?_
                  refine wl_mv (.tmp 8) (.int .i64 ((i : Nat) : Int)) (fun _ => rfl) e8 rfl ?_
                  refine wl_bin (fun x y => Instr.index 9 x y) (.tmp 42) (.tmp 43) (.string s) (.int .i64 ((i : Nat) : Int)) (.int .u8 (bt s (i))) (fun _ => rfl) rfl rfl (idx_b (by omega) _) rfl ?_
                  refine wl_bin (fun x y => do eqGuard .neq 5 (.tmp 44) (.const (.int .u8 (48))) x y; binOp .neq 5 x y) (.tmp 44) (.const (.int .u8 (48))) (.int .u8 (bt s (i))) (.int .u8 (48)) (.bool true) (fun _ => rfl) rfl rfl (ne5r hf5 _ _ _) rfl ?_
                  refine wl_pick (.tmp 41) (.const (.bool true)) (.tmp 45) false (.bool true) (fun _ => rfl) rfl rfl rfl ?_
                  refine w_nil ?_
                  refine xn_then ?_
                  refine w_condT rfl ?_
                  refine w_reg ?_
                  refine wl_mv (.tmp 5) (v) (fun _ => rfl) e5 rfl ?_
                  refine wl_mv (.tmp 0) (.string s) (fun _ => rfl) e0 rfl ?_
                  refine wl_mv (.tmp 8) (.int .i64 ((i : Nat) : Int)) (fun _ => rfl) e8 rfl ?_
                  refine wl_bin (fun x y => Instr.index 9 x y) (.tmp 48) (.tmp 49) (.string s) (.int .i64 ((i : Nat) : Int)) (.int .u8 (bt s (i))) (fun _ => rfl) rfl rfl (idx_b (by omega) _) rfl ?_
                  refine wl_bsl (.tmp 50) (bt s (i)) rfl rfl rfl ?_
                  intro k21 w22 hk hz2 hq Q21
                  have ne_k1_k21 : k1 ≠ k21 := by have := Q1.lt; omega
                  have ne_k2_k21 : k2 ≠ k21 := by have := Q2.lt; omega
                  have on_k21 : v.ownBlock ≠ some k21 := fun e => by have := (hown.lt _ e).2; omega
                  have N_k21 : w.heap.size ≤ k21 := by have := M.size; omega
                  replace hown := own_mo hown hq
                  replace Q1 := Q1.mo hq
                  replace Q2 := Q2.mo hq
                  replace M := M.trans hq
                  clear hk hz2 hq
                  refine wl_app2 (.tmp 47) (.tmp 51) w.heap.size v xs.length (xs.map (Value.int .u8)) k21 (bt s (i)) rfl rfl rfl hown Q21 (by omega) (by have := M.size; omega) rfl ?_
                  intro v' w23 hown2 hW hat
                  have hne_k1 : v'.ownBlock ≠ some k1 := by rcases hat with h | h <;> rw [h]; exact on_k1; intro e; cases e; have := Q1.lt; omega
                  have hne_k2 : v'.ownBlock ≠ some k2 := by rcases hat with h | h <;> rw [h]; exact on_k2; intro e; cases e; have := Q2.lt; omega
                  replace M := hW.mo M (fun j e => (hown.lt _ e).1)
                  replace Q1 := hW.at Q1 on_k1
                  replace Q2 := hW.at Q2 on_k2
                  replace Q21 := hW.at Q21 on_k21
                  clear hown hW hat
                  have hown := hown2
                  clear hown2
                  replace on_k1 := hne_k1
                  replace on_k2 := hne_k2
                  refine wl_mv (.tmp 52) (v') (fun _ => rfl) rfl rfl ?_
                  refine w_nil ?_
                  refine xn_blk ?_
                  refine xn_blk ?_
                  refine xn_then ?_
                  refine w_reg ?_
                  refine wl_mv (.tmp 8) (.int .i64 ((i : Nat) : Int)) (fun _ => rfl) e8 rfl ?_
                  refine wl_bin (fun x y => do eqGuard .add 3 (.tmp 23) (.const (.int .i64 (1))) x y; binOp .add 3 x y) (.tmp 23) (.const (.int .i64 (1))) (.int .i64 ((i : Nat) : Int)) (.int .i64 (1)) (.int .i64 ((i + 1 : Nat) : Int)) (fun _ => rfl) rfl rfl (add1r (k := i) (by omega) _ _ _) rfl ?_
                  refine wl_mv (.tmp 24) (.int .i64 ((i + 1 : Nat) : Int)) (fun _ => rfl) rfl rfl ?_
                  refine w_nil ?_
                  exact xn_loop (s.size - (i + 1)) (by omega) ⟨i + 1, h, false, (xs ++ [bt s i]), v', rfl, e0, e2, e4, rfl, e6, e7, rfl, by omega, by first | omega | (simp; omega), by omega, Q1, Q2, by rw [List.length_append, List.map_append]; exact hown, on_k1, on_k2, by rw [← hR, pr_in (of_decide_eq_true hf1)]; simp [hf2, hf3, hf4p, hf5], M⟩
          | false =>
            refine w_reg ?_
            refine wl_mv (.tmp 0) (.string s) (fun _ => rfl) e0 rfl ?_
            refine wl_mv (.tmp 8) (.int .i64 ((i : Nat) : Int)) (fun _ => rfl) e8 rfl ?_
            refine wl_bin (fun x y => Instr.index 9 x y) (.tmp 31) (.tmp 32) (.string s) (.int .i64 ((i : Nat) : Int)) (.int .u8 (bt s (i))) (fun _ => rfl) rfl rfl (idx_b (by omega) _) rfl ?_
            refine wl_call 32 [(.tmp 33)] _ [.int .u8 (bt s (i))] (.bool false) rfl rfl (fun _ _ => by kernel_rfl) (digit_c hf3 _) rfl ?_
            intro w21 hq
            replace hown := own_mo hown hq
            replace Q1 := Q1.mo hq
            replace Q2 := Q2.mo hq
            replace M := M.trans hq
            clear hq
            refine wl_mv (.tmp 34) (.bool false) (fun _ => rfl) rfl rfl ?_
            refine w_nil ?_
            refine xn_then ?_
            refine w_condF rfl ?_
            refine w_skip ?_
            refine xn_blk ?_
            refine xn_blk ?_
            refine xn_then ?_
            refine w_reg ?_
            refine wl_mv (.tmp 8) (.int .i64 ((i : Nat) : Int)) (fun _ => rfl) e8 rfl ?_
            refine wl_bin (fun x y => do eqGuard .add 3 (.tmp 23) (.const (.int .i64 (1))) x y; binOp .add 3 x y) (.tmp 23) (.const (.int .i64 (1))) (.int .i64 ((i : Nat) : Int)) (.int .i64 (1)) (.int .i64 ((i + 1 : Nat) : Int)) (fun _ => rfl) rfl rfl (add1r (k := i) (by omega) _ _ _) rfl ?_
            refine wl_mv (.tmp 24) (.int .i64 ((i + 1 : Nat) : Int)) (fun _ => rfl) rfl rfl ?_
            refine w_nil ?_
            exact xn_loop (s.size - (i + 1)) (by omega) ⟨i + 1, h, q, xs, v, rfl, e0, e2, e4, e5, e6, e7, rfl, by omega, by first | omega | (simp; omega), by omega, Q1, Q2, hown, on_k1, on_k2, by rw [← hR, pr_in (of_decide_eq_true hf1)]; simp [hf2, hf3], M⟩
      | false =>
        have hf1p := of_decide_eq_false hf1
        refine w_reg ?_
        refine wl_mv (.tmp 8) (.int .i64 ((i : Nat) : Int)) (fun _ => rfl) e8 rfl ?_
        refine wl_mv (.tmp 0) (.string s) (fun _ => rfl) e0 rfl ?_
        refine wl_val (.int .i64 ((s.size : Nat) : Int)) (len_s _ _ s (by exact rfl) _ _ _ _ _ _) rfl ?_
        refine wl_bin (fun x y => do eqGuard .lss 3 (.tmp 19) (.tmp 21) x y; binOp .lss 3 x y) (.tmp 19) (.tmp 21) (.int .i64 ((i : Nat) : Int)) (.int .i64 ((s.size : Nat) : Int)) (.bool false) (fun _ => rfl) rfl rfl (ltN hf1 _ _ _) rfl ?_
        refine w_nil ?_
        refine xn_then ?_
        refine w_condF rfl ?_
        refine w_exit ?_
        refine xx_then ?_
        refine xx_then ?_
        refine xx_blk ?_
        refine xn_cut ⟨pv, cv, h, xs, e2, e4, e5.trans hv, e6, fun hx => ?_, Q1, Q2, by rw [← hR, pr_out (of_decide_eq_false hf1)], M⟩
        obtain ⟨g, cap, rfl, hgN, hglt⟩ := hown.form (List.length_pos_iff.2 hx)
        cases hv
        exact ⟨g, rfl, fun e => on_k1 (by rw [e]; rfl), fun e => on_k2 (by rw [e]; rfl), own_at hown, hgN⟩
  | false =>
    refine w_reg ?_
    refine wl_mv (.tmp 0) (.string s) (fun _ => rfl) rfl rfl ?_
    refine wl_call 31 [(.tmp 11)] _ [.string s] (.bool false) rfl rfl (fun _ _ => by kernel_rfl) (whole_c hs hf0 _) rfl ?_
    intro w2 hq
    replace Q1 := Q1.mo hq
    replace M := M.trans hq
    clear hq
    refine wl_un (fun v => Op.unary .not v) (.tmp 12) (.bool false) (.bool true) (fun _ => rfl) rfl (by kernel_rfl) rfl ?_
    refine w_nil ?_
    refine xn_then ?_
    refine w_condT rfl ?_
    refine w_seq ?_
    refine w_reg ?_
    refine wl_build 26 [] [] (.agg #[.bool false, .int .u64 0, .int .u64 0, .int .u64 0, .int .u64 0, .int .i64 0]) rfl rfl (by kernel_rfl) rfl ?_
    refine wl_st 26 (.tmp 2) (.tmp 14) k1 0 #[.bool false, .int .u64 0, .int .u64 0, .int .u64 0, .int .u64 0, .int .i64 0] [.bool false, .int .u64 0, .int .u64 0, .int .u64 0, .int .u64 0, .int .i64 0] [.bool false, .int .u64 0, .int .u64 0, .int .u64 0, .int .u64 0, .int .i64 0] Q1 rfl rfl rfl rfl rfl sz26 rfl rfl rfl ?_
    intro w3 hS Qn
    replace Q1 := Qn
    clear Qn
    replace M := hS.mo _ N_k1 M
    clear hS
    refine wl_mv (.const (.int .i64 (30))) (.int .i64 (30)) (fun _ => rfl) rfl rfl ?_
    refine w_nil ?_
    refine xn_then ?_
    refine w_ret ?_
    refine xr_then ?_
    have hfin : rps s N E = .tuple #[.agg #[.bool false, .int .u64 0, .int .u64 0, .int .u64 0, .int .u64 0, .int .i64 0], .int .i64 (30)] := by unfold rps; rw [if_pos hf0]; try rfl
    exact w_ret2 _ _ (.agg #[.bool false, .int .u64 0, .int .u64 0, .int .u64 0, .int .u64 0, .int .i64 0]) (.int .i64 (30)) rfl ⟨k1, rfl, (run_row Q1 26 0 6 [.bool false, .int .u64 0, .int .u64 0, .int .u64 0, .int .u64 0, .int .i64 0] rfl Tryd.underlying26 rfl sz26)⟩ rfl ⟨by rw [hfin], M⟩
theorem rpa_no (s : ByteArray) (w : World) (hs : s.size ≤ maxLen) (hw : whl s = false) : Calls Tryd.prog 14 #[.string s] w fun e w' => e = .returned (er 30) ∧ Mo w w' := by
  refine w_enter 75 Tryd.func14 Tryd.ntmps14 rfl rfl ?_
  have M : Mo w w := Mo.refl _
  refine w_seq ?_
  refine w_reg ?_
  refine wl_alloc 26 #[.bool false, .int .u64 0, .int .u64 0, .int .u64 0, .int .u64 0, .int .i64 0] rfl (fun _ => by kernel_rfl) rfl ?_
  intro k1 w1 hk hz hq Q1
  have N_k1 : w.heap.size ≤ k1 := by have := M.size; omega
  replace M := M.trans hq
  clear hk hz hq
  refine wl_mv (.const (.int .i64 (0))) (.int .i64 (0)) (fun _ => rfl) rfl rfl ?_
  refine w_nil ?_
  refine xn_then ?_
  refine w_seq ?_
  refine w_seq ?_
  refine w_reg ?_
  refine wl_mv (.tmp 0) (.string s) (fun _ => rfl) rfl rfl ?_
  refine wl_call 31 [(.tmp 11)] _ [.string s] (.bool false) rfl rfl (fun _ _ => by kernel_rfl) (whole_c hs hw _) rfl ?_
  intro w2 hq
  replace Q1 := Q1.mo hq
  replace M := M.trans hq
  clear hq
  refine wl_un (fun v => Op.unary .not v) (.tmp 12) (.bool false) (.bool true) (fun _ => rfl) rfl (by kernel_rfl) rfl ?_
  refine w_nil ?_
  refine xn_then ?_
  refine w_condT rfl ?_
  refine w_seq ?_
  refine w_reg ?_
  refine wl_build 26 [] [] (.agg #[.bool false, .int .u64 0, .int .u64 0, .int .u64 0, .int .u64 0, .int .i64 0]) rfl rfl (by kernel_rfl) rfl ?_
  refine wl_st 26 (.tmp 2) (.tmp 14) k1 0 #[.bool false, .int .u64 0, .int .u64 0, .int .u64 0, .int .u64 0, .int .i64 0] [.bool false, .int .u64 0, .int .u64 0, .int .u64 0, .int .u64 0, .int .i64 0] [.bool false, .int .u64 0, .int .u64 0, .int .u64 0, .int .u64 0, .int .i64 0] Q1 rfl rfl rfl rfl rfl sz26 rfl rfl rfl ?_
  intro w3 hS Qn
  replace Q1 := Qn
  clear Qn
  replace M := hS.mo _ N_k1 M
  clear hS
  refine wl_mv (.const (.int .i64 (30))) (.int .i64 (30)) (fun _ => rfl) rfl rfl ?_
  refine w_nil ?_
  refine xn_then ?_
  refine w_ret ?_
  refine xr_then ?_
  exact w_ret2 _ _ (.agg #[.bool false, .int .u64 0, .int .u64 0, .int .u64 0, .int .u64 0, .int .i64 0]) (.int .i64 (30)) rfl ⟨k1, rfl, (run_row Q1 26 0 6 [.bool false, .int .u64 0, .int .u64 0, .int .u64 0, .int .u64 0, .int .i64 0] rfl Tryd.underlying26 rfl sz26)⟩ rfl ⟨rfl, M⟩
end Go.Proofs.YtdcojpbgijkmgaaDoor
/-
  What the document's reading makes of a decimal text's parts.
-/
namespace Go.Proofs.YtdcojpbgijkmgaaDoor
open Go.RowKit
/-! The document's digits. -/
def prl : List UInt8 → List Int → Nat → Bool → List Int × Nat
  | [], a, h, _ => (a, h)
  | x :: r, a, h, q => if (x.toNat : Int) == 46 then prl r a h true
    else if isD x then prl r (if decide (0 < a.length) || !((x.toNat : Int) == 48) then a ++ [(x.toNat : Int)] else a) (if q then h + 1 else h) q
    else prl r a h q
theorem prl_cons (x : UInt8) (r : List UInt8) (a : List Int) (h : Nat) (q : Bool) : prl (x :: r) a h q = if (x.toNat : Int) == 46 then prl r a h true
    else if isD x then prl r (if decide (0 < a.length) || !((x.toNat : Int) == 48) then a ++ [(x.toNat : Int)] else a) (if q then h + 1 else h) q
    else prl r a h q := by rw [prl]
theorem pr_prl (s : ByteArray) (i : Nat) (a : List Int) (h : Nat) (q : Bool) : pr s i a h q = prl ((by8 s).drop i) a h q := by
  by_cases hi : i < s.size
  · have hl : i < (by8 s).length := by rw [by8_len]; exact hi
    rw [pr_in hi, List.drop_eq_getElem_cons hl]
    have e : bt s i = (((by8 s)[i]).toNat : Int) := by rw [bt_tn, List.getElem?_eq_getElem hl]; rfl
    rw [e]
    unfold prl
    have ed : dgt (((by8 s)[i]).toNat : Int) = isD (by8 s)[i] := rfl
    rw [ed, pr_prl s (i + 1), pr_prl s (i + 1), pr_prl s (i + 1)]
  · rw [pr_out hi, List.drop_eq_nil_of_le (by rw [by8_len]; omega)]
    rfl
def apz (a : List UInt8) (D : List UInt8) : List UInt8 := if a = [] then dw0 D else a ++ D
theorem prl_run : ∀ (D r : List UInt8) (a : List UInt8) (h : Nat) (q : Bool), (∀ x ∈ D, isD x = true) → prl (D ++ r) (nl a) h q = prl r (nl (apz a D)) (if q then h + D.length else h) q
  | [], r, a, h, q, _ => by
    have : apz a [] = a := by unfold apz; split <;> simp_all
    rw [this]
    cases q <;> simp
  | x :: D, r, a, h, q, hd => by
    have hx := hd x (by simp)
    have h46 : ((x.toNat : Int) == 46) = false := beq_eq_false_iff_ne.2 (by have := isD_b hx; omega)
    have e48 : ((x.toNat : Int) == 48) = (x == 48) := by
      rw [Bool.eq_iff_iff, beq_iff_eq, beq_iff_eq, ← UInt8.toNat_inj]
      have : (48 : UInt8).toNat = 48 := rfl
      omega
    rw [List.cons_append, prl_cons, h46, if_neg (by simp), hx, if_pos rfl, e48]
    have ha : (if (decide (0 < (nl a).length) || !(x == 48)) = true then nl a ++ [(x.toNat : Int)] else nl a) = nl (if decide (a = []) && (x == 48) then a else a ++ [x]) := by
      cases a <;> cases (x == 48) <;> simp
    rw [ha, prl_run D r _ _ q (fun y hy => hd y (by simp [hy]))]
    have e2 : apz (if decide (a = []) && (x == 48) then a else a ++ [x]) D = apz a (x :: D) := by
      unfold apz
      cases a with
      | nil =>
        cases hz : (x == 48) with
        | true => simp [dw0, hz]
        | false => simp [dw0, hz]
      | cons y t => simp
    rw [e2]
    have e3 : (if q = true then (if q = true then h + 1 else h) + D.length else (if q = true then h + 1 else h)) = if q = true then h + (x :: D).length else h := by
      cases q with
      | false => rfl
      | true => simp; omega
    rw [e3]
theorem apz_apz (A B : List UInt8) : apz (apz [] A) B = dw0 (A ++ B) := by
  show (if A.dropWhile (· == 48) = [] then B.dropWhile (· == 48) else A.dropWhile (· == 48) ++ B) = (A ++ B).dropWhile (· == 48)
  rw [List.dropWhile_append]
  cases h : A.dropWhile (· == 48) <;> simp
theorem prs_df {s : ByteArray} {b : Bool} {A B : List UInt8} (h : Df (by8 s) b A B) : prs s = (nl (dw0 (A ++ B)), B.length) := by
  unfold prs
  rw [pr_prl, List.drop_zero, h.eq]
  have h0 : ∀ t, prl (sg8 b ++ t) [] 0 false = prl t (nl []) 0 false := fun t => by
    cases b with
    | false => rfl
    | true => rfl
  rw [h0, prl_run A _ [] 0 false h.ad]
  by_cases hB : B = []
  · rw [if_pos hB, hB]
    unfold prl
    rw [List.append_nil]
    rfl
  · rw [if_neg hB]
    unfold prl
    rw [if_pos (by rfl)]
    have := prl_run B [] (apz [] A) 0 true h.bd
    rw [List.append_nil] at this
    simp only [Bool.false_eq_true, if_false]
    rw [this, apz_apz]
    unfold prl
    simp
theorem sgn_df {s : ByteArray} {b : Bool} {A B : List UInt8} (h : Df (by8 s) b A B) : (bt s 0 == 45) = b := by
  rw [bt_tn, h.eq]
  cases b with
  | true => rfl
  | false =>
    cases hA : A with
    | nil => exact absurd hA h.ne
    | cons a r =>
      have h1 := isD_b (h.ad a (by rw [hA]; simp))
      refine beq_eq_false_iff_ne.2 fun e => ?_
      have e2 : (a.toNat : Int) = 45 := e
      omega
end Go.Proofs.YtdcojpbgijkmgaaDoor
/-
  Parse: the program's and the document's say the same.
-/
namespace Go.Proofs.YtdcojpbgijkmgaaDoor
open Go.RowKit
theorem rlp_n {z : List UInt8} (hc : Cn z) (hl : z.length ≤ maxLen) (w : World) : Calls Tryd.prog 33 #[tx z] w fun e w' => e = .returned (.tuple #[nv (if pv z < MM then pv z else 0), .int .i64 (if pv z < MM then 0 else 7)]) ∧ Mo w w' := by
  haveI := Classical.propDecidable (isT ⟨z.toArray⟩)
  refine (rparse_n ⟨z.toArray⟩ w (by rw [tx_size]; exact hl)).mono fun e w' ⟨he, hm⟩ => ⟨?_, hm⟩
  rw [he, if_pos (cn_isT hc)]
  unfold resP
  rw [pvk_z8]
  by_cases h : pv z < MM
  · rw [if_pos h, if_pos h, if_pos h]
  · rw [if_neg h, if_neg h, if_neg h]; rfl
theorem dw0_woz {L : List UInt8} (h : dw0 L ≠ []) : woz L = dw0 L := by unfold woz; rw [if_neg h]
theorem parse14_df {s : ByteArray} {b : Bool} {A B : List UInt8} (h : Df (by8 s) b A B) (hsz : s.size ≤ 140737488355328) (w : World) : Calls Tryd.prog 14 #[.string s] w fun e w' => e = .returned (pva b A B) ∧ Mo w w' := by
  have hs : s.size ≤ maxLen := by unfold maxLen; omega
  have hpr := prs_df h
  have hlen := h.len
  rw [by8_len] at hlen
  have hwl := woz_len2 (L := A ++ B) (by simp [h.ne])
  simp only [List.length_append] at hwl
  have hw : whl s = true := by rw [whl_dec]; exact dec_df h
  refine (rpa_n s (if nof A B < MM then nof A B else 0) (if nof A B < MM then 0 else 7) w hs hsz (fun hne w => ?_)).mono fun e w' ⟨he, hm⟩ => ⟨?_, hm⟩
  · rw [hpr] at hne ⊢
    have hne' : dw0 (A ++ B) ≠ [] := fun e => hne (by simp only [e]; rfl)
    rw [show (nl (dw0 (A ++ B)), B.length).1 = nl (dw0 (A ++ B)) from rfl, nl_str, ← dw0_woz hne']
    exact rlp_n (cn_woz h.dg) (by unfold maxLen; omega) w
  · rw [he]
    congr 1
    unfold rps pva pe
    rw [if_neg (by rw [hw]; simp), hpr, sgn_df h]
    by_cases h18 : 18 < B.length
    · rw [if_pos h18, if_pos h18, if_neg (by decide)]
    · rw [if_neg h18, if_neg h18]
      by_cases hz : dw0 (A ++ B) = []
      · have hn : nof A B = 0 := by
          unfold nof woz
          rw [if_pos hz]; rfl
        rw [if_pos (by rw [hz]; rfl), hn, if_pos (by decide)] <;> rfl
      · rw [if_neg (by simp only [List.length_map]; exact fun e => hz (List.eq_nil_of_length_eq_zero e))]
        by_cases hM : nof A B < MM
        · simp only [if_pos hM]
          rfl
        · simp only [if_neg hM]
          rfl
theorem parse14_no {s : ByteArray} (h : isDec s = false) (hs : s.size ≤ maxLen) (w : World) : Calls Tryd.prog 14 #[.string s] w fun e w' => e = .returned (er 30) ∧ Mo w w' :=
  rpa_no s w hs (by rw [whl_dec]; exact h)
/-- Both Parses say the same. -/
theorem parse_both (s : ByteArray) (hsz : s.size ≤ 140737488355328) : ∃ (b : Bool) (N E : Int) (k : Nat), 0 ≤ N ∧ N < MM ∧ k ≤ 18 ∧ (E = 0 → ck b N (k : Int) = 0) ∧ (E == 30) = !isDec s ∧
    (∀ w, Calls Tryd.prog 13 #[.string s] w fun e w' => e = .returned (.tuple #[dc b N (k : Int), .int .i64 E]) ∧ Mo w w') ∧ (∀ w, Calls Tryd.prog 14 #[.string s] w fun e w' => e = .returned (.tuple #[dc b N (k : Int), .int .i64 E]) ∧ Mo w w') := by
  have hs : s.size ≤ maxLen := by unfold maxLen; omega
  cases hd : isDec s with
  | false => exact ⟨false, 0, 30, 0, by omega, by decide, by omega, fun e => (by cases e), rfl, fun w => parse13_no hd hs w, fun w => parse14_no hd hs w⟩
  | true =>
    obtain ⟨b, A, B, h⟩ := df_dec hd
    have h3 := fun w => parse13_df h hs w
    have h4 := fun w => parse14_df h hsz w
    unfold pva at h3 h4
    by_cases hE : pe A B = 0
    · simp only [if_pos hE] at h3 h4
      unfold pe at hE
      by_cases h18 : 18 < B.length
      · rw [if_pos h18] at hE; cases hE
      · rw [if_neg h18] at hE
        by_cases hM : nof A B < MM
        · exact ⟨b, nof A B, 0, B.length, h.n0, hM, by omega, fun _ => h.ck (by omega), rfl, h3, h4⟩
        · rw [if_neg hM] at hE; cases hE
    · simp only [if_neg hE] at h3 h4
      have h30 : (pe A B == 30) = false := by
        unfold pe
        split
        · rfl
        · split <;> rfl
      exact ⟨false, 0, pe A B, 0, by omega, by decide, by omega, fun e => absurd e hE, h30, h3, h4⟩
end Go.Proofs.YtdcojpbgijkmgaaDoor
