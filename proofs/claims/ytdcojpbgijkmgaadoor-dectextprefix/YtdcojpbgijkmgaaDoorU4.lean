/-
  A part of the proof.
-/
import Derived.Test.YtdcojpbgijkmgaaDoorHalf
import Derived.Test.YtdcojpbgijkmgaaDoorU3
/-
  Runs of digits; when a text is a decimal one, in closed form.
-/
namespace Go.Proofs.YtdcojpbgijkmgaaDoor
open Go.RowKit
theorem re_ge (s : ByteArray) (k : Nat) : k ≤ re s k := by
  by_cases h : dgt (bt s k) = true
  · rw [re_on h]; have := re_ge s (k + 1); omega
  · rw [re_end (by simpa using h)]; omega
termination_by s.size - k
decreasing_by have := dgt_in h; omega
theorem re_lt {s : ByteArray} {k : Nat} (h : dgt (bt s k) = true) : k < re s k := by
  rw [re_on h]; have := re_ge s (k + 1); omega
theorem re_le {s : ByteArray} {k : Nat} (hk : k ≤ s.size) : re s k ≤ s.size := by
  by_cases h : dgt (bt s k) = true
  · rw [re_on h]; have := dgt_in h; exact re_le (by omega)
  · rw [re_end (by simpa using h)]; omega
termination_by s.size - k
decreasing_by omega
theorem re_stop (s : ByteArray) (k : Nat) : dgt (bt s (re s k)) = false := by
  by_cases h : dgt (bt s k) = true
  · rw [re_on h]; exact re_stop s (k + 1)
  · rw [re_end (by simpa using h)]; simpa using h
termination_by s.size - k
decreasing_by have := dgt_in h; omega
theorem re_in {s : ByteArray} {k j : Nat} (h1 : k ≤ j) (h2 : j < re s k) : dgt (bt s j) = true := by
  by_cases h : dgt (bt s k) = true
  · by_cases e : k = j
    · subst e; exact h
    · rw [re_on h] at h2; exact re_in (k := k + 1) (by omega) h2
  · rw [re_end (by simpa using h)] at h2; omega
termination_by s.size - k
decreasing_by have := dgt_in h; omega
theorem re_eq {s : ByteArray} {k e : Nat} (h1 : k ≤ e) (h2 : ∀ j, k ≤ j → j < e → dgt (bt s j) = true) (h3 : dgt (bt s e) = false) : re s k = e := by
  by_cases hk : k = e
  · subst hk; exact re_end h3
  · have hd := h2 k (Nat.le_refl _) (by omega)
    rw [re_on hd]
    exact re_eq (by omega) (fun j a b => h2 j (by omega) b) h3
termination_by e - k
theorem az_iff {s : ByteArray} {k : Nat} : az s k = true ↔ ∀ j, k ≤ j → j < re s k → bt s j = 48 := by
  by_cases h : dgt (bt s k) = true
  · rw [az_on h, Bool.and_eq_true, az_iff (s := s) (k := k + 1), re_on h]
    constructor
    · rintro ⟨a, b⟩ j h1 h2
      by_cases e : k = j
      · subst e; exact eq_of_beq a
      · exact b j (by omega) h2
    · intro a
      have := re_ge s (k + 1)
      exact ⟨by rw [a k (Nat.le_refl _) (by omega)]; rfl, fun j h1 h2 => a j (by omega) h2⟩
  · have h' : dgt (bt s k) = false := by simpa using h
    rw [az_end h', re_end h']
    exact ⟨fun _ j a b => by omega, fun _ => rfl⟩
termination_by s.size - k
decreasing_by have := dgt_in h; omega
theorem dgt48 : dgt 48 = true := rfl
theorem dgt46 : dgt 46 = false := rfl
/-- Is a text, from the first digit's place on, a decimal one? -/
def whp (s : ByteArray) (p : Nat) (b : Bool) : Bool :=
  decide (re s p ≠ p) && !((bt s p == 48) && decide (re s p > p + 1)) &&
    (if re s p < s.size then (bt s (re s p) == 46) && decide (re s p + 1 ≠ s.size) && decide (re s (re s p + 1) = s.size) && (!az s p || !az s (re s p + 1) || !b) else (!az s p || !b))
def whl (s : ByteArray) : Bool := if bt s 0 == 45 then whp s 1 true else whp s 0 false
theorem ah_of {s : ByteArray} {e : Nat} {b : Bool} (hs : 0 < s.size) (hel : e ≤ s.size) :
    (ah s e b 0 = s.size) ↔ (if e < s.size then bt s e = 46 ∧ e + 1 ≠ s.size ∧ re s (e + 1) = s.size ∧ (az s (e + 1) = false ∨ b = false) else b = false) := by
  unfold ah
  by_cases he : e < s.size
  · rw [if_pos he]
    by_cases h46 : bt s e = 46
    · rw [h46]
      by_cases hd : dgt (bt s (e + 1)) = true
      · have := re_lt hd; have := dgt_in hd
        rw [hd]
        cases hb : b <;> cases ha : az s (e + 1) <;> simp <;> omega
      · have hd' : dgt (bt s (e + 1)) = false := by simpa using hd
        rw [hd', re_end hd']
        cases hb : b <;> simp <;> omega
    · have : (bt s e == 46) = false := beq_eq_false_iff_ne.2 h46
      rw [this]
      cases hb : b <;> simp [h46] <;> omega
  · rw [if_neg he]
    have e1 : e = s.size := by omega
    have : bt s e = 0 := bt_out he
    rw [this]
    cases hb : b <;> simp <;> omega
theorem fi_whp {s : ByteArray} {p : Nat} {b : Bool} (hs : 0 < s.size) (hp : p ≤ s.size) : decide (fi s p b = s.size) = whp s p b := by
  rw [Bool.eq_iff_iff, decide_eq_true_iff]
  unfold fi whp
  by_cases h48 : bt s p = 48
  · have hd : dgt (bt s p) = true := by rw [h48]; rfl
    have hin := dgt_in hd
    rw [h48, re_on hd, az_on hd, h48]
    simp only [beq_self_eq_true, if_true, Bool.true_and]
    have hge := re_ge s (p + 1)
    by_cases hd2 : dgt (bt s (p + 1)) = true
    · have hl := re_lt hd2; have := dgt_in hd2
      have h46 : (bt s (p + 1) == 46) = false := by
        cases h : (bt s (p + 1) == 46) with
        | false => rfl
        | true => rw [eq_of_beq h] at hd2; cases hd2
      unfold ah
      rw [h46]
      cases b <;> simp <;> omega
    · have hd2' : dgt (bt s (p + 1)) = false := by simpa using hd2
      rw [ah_of hs (by omega), re_end hd2', az_end hd2']
      by_cases he : p + 1 < s.size
      · rw [if_pos he, if_pos he]
        cases b <;> simp [and_assoc]
      · rw [if_neg he, if_neg he]
        cases b <;> simp
  · have e48 : (bt s p == 48) = false := beq_eq_false_iff_ne.2 h48
    rw [e48]
    simp only [Bool.false_eq_true, if_false, Bool.false_and, Bool.not_false, Bool.and_true]
    by_cases hd : dgt (bt s p) = true
    · have hl := re_lt hd
      rw [if_pos hd, ah_of hs (re_le hp), az_on hd, e48]
      have : re s p ≠ p := by omega
      simp only [this, ne_eq, not_false_eq_true, decide_true, Bool.true_and, Bool.false_and, Bool.not_false, Bool.true_or, Bool.and_true]
      by_cases he : re s p < s.size
      · rw [if_pos he, if_pos he]; simp [and_assoc]
      · rw [if_neg he, if_neg he]; simp
    · have hd' : dgt (bt s p) = false := by simpa using hd
      rw [if_neg (by simpa using hd), re_end hd']
      simp; omega
theorem whl_dec (s : ByteArray) : whl s = isDec s := by
  unfold isDec whl pfx
  rw [emp_iff]
  by_cases hs : s.size = 0
  · have h0 : bt s 0 = 0 := bt_out (by omega)
    have hd : dgt (bt s 0) = false := by rw [h0]; rfl
    rw [decide_eq_true hs, h0]
    unfold whp
    rw [re_end hd]
    simp
  · rw [decide_eq_false hs]
    have hb : ∀ n : Nat, ((n : Int) == (s.size : Int)) = decide (n = s.size) := fun n => by
      rw [Bool.eq_iff_iff, beq_iff_eq, decide_eq_true_iff]; omega
    rw [hb]
    cases h : (bt s 0 == 45) with
    | true =>
      rw [if_pos rfl, if_pos rfl, fi_whp (by omega) (by omega)]; rfl
    | false =>
      rw [if_neg (by simp), if_neg (by simp), fi_whp (by omega) (by omega)]; rfl
end Go.Proofs.YtdcojpbgijkmgaaDoor
/-
  A decimal text and its parts.
-/
namespace Go.Proofs.YtdcojpbgijkmgaaDoor
open Go.RowKit
/-- The sign. -/
def sg8 (b : Bool) : List UInt8 := if b then [45] else []
def tn (o : Option UInt8) : Int := match o with | none => 0 | some x => (x.toNat : Int)
theorem bt_tn (s : ByteArray) (k : Nat) : bt s k = tn ((by8 s)[k]?) := by
  by_cases h : k < s.size
  · rw [bt_in h]
    have h2 : k < (by8 s).length := by rw [by8_len]; exact h
    rw [List.getElem?_eq_getElem h2]
    rfl
  · rw [bt_out h]
    have h2 : ¬ k < (by8 s).length := by rw [by8_len]; exact h
    rw [List.getElem?_eq_none (by omega)]
    rfl
/-- A decimal text's parts: the sign, the digits ahead of the point and those behind. -/
structure Df (l : List UInt8) (b : Bool) (A B : List UInt8) : Prop where
  eq : l = sg8 b ++ (A ++ (if B = [] then [] else 46 :: B))
  ne : A ≠ []
  ad : ∀ x ∈ A, isD x = true
  bd : ∀ x ∈ B, isD x = true
  ld : A.length = 1 ∨ A.head? ≠ some 48
  some : b = true → ∃ x ∈ A ++ B, x ≠ 48
theorem run_dig {s : ByteArray} {k n : Nat} (hn : k + n ≤ re s k) {x : UInt8} (hx : x ∈ ((by8 s).drop k).take n) : isD x = true := by
  obtain ⟨j, hj, rfl⟩ := List.getElem_of_mem hx
  have h1 : j < n := by simp at hj; omega
  have h2 := re_in (s := s) (k := k) (j := k + j) (by omega) (by omega)
  rw [bt_tn] at h2
  have h3 : k + j < (by8 s).length := by simp at hj ⊢; omega
  rw [List.getElem?_eq_getElem h3] at h2
  have e : (((by8 s).drop k).take n)[j] = (by8 s)[k + j] := by simp
  rw [e]; exact h2
theorem drop_run (l : List UInt8) (k e : Nat) (h : k ≤ e) : l.drop k = (l.drop k).take (e - k) ++ l.drop e := by
  conv => lhs; rw [← List.take_append_drop (e - k) (l.drop k)]
  rw [List.drop_drop, show k + (e - k) = e by omega]
theorem tn48 {o : Option UInt8} (h : tn o ≠ 48) : o ≠ some 48 := fun e => h (by rw [e]; rfl)
theorem nz_of {s : ByteArray} {k : Nat} (hk : k ≤ s.size) (h : az s k = false) : ∃ x ∈ ((by8 s).drop k).take (re s k - k), x ≠ 48 := by
  have h1 : ¬ ∀ j, k ≤ j → j < re s k → bt s j = 48 := fun h2 => by rw [az_iff.2 h2] at h; cases h
  simp only [Classical.not_forall] at h1
  obtain ⟨j, h2, h3, h4⟩ := h1
  have h5 := re_le hk
  have h6 : j < (by8 s).length := by rw [by8_len]; omega
  rw [bt_tn, List.getElem?_eq_getElem h6] at h4
  refine ⟨(by8 s)[j], ?_, fun e => h4 (by rw [e]; rfl)⟩
  rw [List.mem_iff_getElem]
  exact ⟨j - k, by simp; rw [← by8_len] at h5; simp at h5 h6; omega, by simp only [List.getElem_take, List.getElem_drop]; congr 1; omega⟩
theorem df_of {s : ByteArray} {p : Nat} {b : Bool} (hp : p ≤ s.size) (hsg : by8 s = sg8 b ++ (by8 s).drop p) (h : whp s p b = true) : ∃ A B, Df (by8 s) b A B ∧ (by8 s).drop p = A ++ (if B = [] then [] else 46 :: B) := by
  unfold whp at h
  simp only [Bool.and_eq_true, decide_eq_true_iff, Bool.not_eq_true'] at h
  obtain ⟨⟨h1, h2⟩, h3⟩ := h
  have hge := re_ge s p
  have hle := re_le hp
  have hl := by8_len s
  have hA : ((by8 s).drop p).take (re s p - p) ≠ [] := fun e => by
    have := congrArg List.length e; simp only [List.length_take, List.length_drop, List.length_nil, hl] at this; omega
  have had : ∀ x ∈ ((by8 s).drop p).take (re s p - p), isD x = true := fun x hx => run_dig (by omega) hx
  have hld : (((by8 s).drop p).take (re s p - p)).length = 1 ∨ (((by8 s).drop p).take (re s p - p)).head? ≠ some 48 := by
    by_cases h48 : bt s p = 48
    · left
      rw [h48] at h2; simp at h2
      simp only [List.length_take, List.length_drop, hl]; omega
    · right
      rw [bt_tn] at h48
      rw [List.head?_eq_getElem?, List.getElem?_take_of_lt (by omega), List.getElem?_drop]
      exact tn48 h48
  by_cases he : re s p < s.size
  · rw [if_pos he] at h3
    simp only [Bool.and_eq_true, decide_eq_true_iff, beq_iff_eq, Bool.or_eq_true, Bool.not_eq_true'] at h3
    obtain ⟨⟨⟨h4, h5⟩, h6⟩, h7⟩ := h3
    have hlt : re s p < (by8 s).length := by omega
    have e1 : (by8 s).drop (re s p) = 46 :: (by8 s).drop (re s p + 1) := by
      rw [List.drop_eq_getElem_cons hlt]
      rw [bt_tn, List.getElem?_eq_getElem hlt] at h4
      congr 1
      have h8 : (((by8 s)[re s p]).toNat : Int) = 46 := h4
      apply UInt8.toNat_inj.1
      have : (46 : UInt8).toNat = 46 := rfl
      omega
    have hB : (by8 s).drop (re s p + 1) ≠ [] := fun e => by
      have := congrArg List.length e; simp only [List.length_drop, List.length_nil, hl] at this; omega
    have hBt : ((by8 s).drop (re s p + 1)).take (re s (re s p + 1) - (re s p + 1)) = (by8 s).drop (re s p + 1) := by
      rw [List.take_of_length_le]; simp only [List.length_drop, hl]; omega
    have e2 : (by8 s).drop p = ((by8 s).drop p).take (re s p - p) ++ (if (by8 s).drop (re s p + 1) = [] then [] else 46 :: (by8 s).drop (re s p + 1)) := by
      rw [if_neg hB, ← e1]; exact drop_run _ _ _ hge
    refine ⟨_, (by8 s).drop (re s p + 1), ⟨?_, hA, had, fun x hx => ?_, hld, fun hb => ?_⟩, e2⟩
    · exact hsg.trans (congrArg (sg8 b ++ ·) e2)
    · rw [← hBt] at hx; exact run_dig (by omega) hx
    · rcases h7 with (h7 | h7) | h7
      · obtain ⟨x, hx, hn⟩ := nz_of hp h7
        exact ⟨x, List.mem_append_left _ hx, hn⟩
      · obtain ⟨x, hx, hn⟩ := nz_of (by omega) h7
        rw [hBt] at hx
        exact ⟨x, List.mem_append_right _ hx, hn⟩
      · rw [hb] at h7; cases h7
  · rw [if_neg he] at h3
    have e2 : (by8 s).drop p = ((by8 s).drop p).take (re s p - p) ++ (if ([] : List UInt8) = [] then [] else 46 :: []) := by
      rw [if_pos rfl, List.append_nil, List.take_of_length_le]; simp only [List.length_drop, hl]; omega
    refine ⟨_, [], ⟨?_, hA, had, fun x hx => (by cases hx), hld, fun hb => ?_⟩, e2⟩
    · exact hsg.trans (congrArg (sg8 b ++ ·) e2)
    · rw [hb] at h3
      simp only [Bool.or_eq_true, Bool.not_eq_true', Bool.not_true, Bool.false_eq_true, or_false] at h3
      obtain ⟨x, hx, hn⟩ := nz_of hp h3
      exact ⟨x, List.mem_append_left _ hx, hn⟩
theorem df_dec {s : ByteArray} (h : isDec s = true) : ∃ b A B, Df (by8 s) b A B := by
  rw [← whl_dec] at h
  unfold whl at h
  cases hb : (bt s 0 == 45) with
  | true =>
    rw [hb, if_pos rfl] at h
    have hin := eq_in (by decide) hb
    have h45 : by8 s = sg8 true ++ (by8 s).drop 1 := by
      have h0 : 0 < (by8 s).length := by rw [by8_len]; exact hin
      rw [bt_tn, List.getElem?_eq_getElem h0] at hb
      have h8 : (((by8 s)[0]).toNat : Int) = 45 := eq_of_beq hb
      have e : (by8 s)[0] = 45 := by
        apply UInt8.toNat_inj.1
        have : (45 : UInt8).toNat = 45 := rfl
        omega
      have e2 := List.drop_eq_getElem_cons h0
      rw [e] at e2
      exact e2
    obtain ⟨A, B, h1, _⟩ := df_of (by omega) h45 h
    exact ⟨true, A, B, h1⟩
  | false =>
    rw [hb, if_neg (by simp)] at h
    obtain ⟨A, B, h1, _⟩ := df_of (b := false) (by omega) rfl h
    exact ⟨false, A, B, h1⟩
theorem tn_in {x : UInt8} (h : isD x = true) : dgt (tn (some x)) = true := h
theorem dec_df {s : ByteArray} {b : Bool} {A B : List UInt8} (h : Df (by8 s) b A B) : isDec s = true := by
  have hl := by8_len s
  obtain ⟨heq, hne, had, hbd, hld, hsome⟩ := h
  have hApos : 0 < A.length := List.length_pos_iff.2 hne
  -- the letters
  have hA : ∀ (p : Nat) (S : List UInt8), by8 s = S ++ (A ++ (if B = [] then [] else 46 :: B)) → p = S.length →
      whp s p b = true := fun p S e hp => by
    have hgA : ∀ j, (hj : j < A.length) → bt s (p + j) = tn (some A[j]) := fun j hj => by
      rw [bt_tn, e, List.getElem?_append_right (by omega), hp, Nat.add_sub_cancel_left, List.getElem?_append_left hj, List.getElem?_eq_getElem hj]
    have hsz : s.size = p + A.length + (if B = [] then 0 else B.length + 1) := by
      rw [← hl, e]; simp only [List.length_append, hp]; split <;> simp <;> omega
    have hend : dgt (bt s (p + A.length)) = false := by
      rw [bt_tn, e, List.getElem?_append_right (by omega), hp, Nat.add_sub_cancel_left, List.getElem?_append_right (Nat.le_refl _), Nat.sub_self]
      split <;> rfl
    have hre : re s p = p + A.length := re_eq (by omega) (fun j h1 h2 => by
      have := hgA (j - p) (by omega)
      rw [show p + (j - p) = j by omega] at this
      rw [this]; exact tn_in (had _ (List.getElem_mem _))) hend
    have haz : az s p = true → ∀ x ∈ A, x = 48 := fun h x hx => by
      obtain ⟨j, hj, rfl⟩ := List.getElem_of_mem hx
      have h1 := az_iff.1 h (p + j) (by omega) (by omega)
      rw [hgA j hj] at h1
      apply UInt8.toNat_inj.1
      have e48 : (48 : UInt8).toNat = 48 := rfl
      have h1' : ((A[j]).toNat : Int) = 48 := h1
      omega
    unfold whp
    rw [hre]
    have h48 : ((bt s p == 48) && decide (p + A.length > p + 1)) = false := by
      rcases hld with hl1 | hl1
      · rw [hl1]; simp
      · have : (bt s p == 48) = false := beq_eq_false_iff_ne.2 fun e2 => hl1 (by
          have h0 := hgA 0 hApos
          rw [Nat.add_zero, e2] at h0
          rw [List.head?_eq_getElem?, List.getElem?_eq_getElem hApos]
          congr 1
          apply UInt8.toNat_inj.1
          have e48 : (48 : UInt8).toNat = 48 := rfl
          have h1' : (48 : Int) = ((A[0]).toNat : Int) := h0
          omega)
        rw [this]; rfl
    rw [h48]
    have hne2 : decide (p + A.length ≠ p) = true := decide_eq_true (by omega)
    rw [hne2]
    by_cases hB : B = []
    · rw [if_pos hB] at hsz
      rw [if_neg (by omega)]
      cases hb : b with
      | false => simp
      | true =>
        obtain ⟨x, hx, hn⟩ := hsome hb
        rw [hB, List.append_nil] at hx
        cases ha : az s p with
        | false => simp
        | true => exact absurd (haz ha x hx) hn
    · rw [if_neg hB] at hsz
      have hBpos : 0 < B.length := List.length_pos_iff.2 hB
      rw [if_pos (by omega)]
      have hgB : ∀ j, (hj : j < B.length) → bt s (p + A.length + 1 + j) = tn (some B[j]) := fun j hj => by
        rw [bt_tn, e, List.getElem?_append_right (by omega), hp, show S.length + A.length + 1 + j - S.length = A.length + (1 + j) by omega, List.getElem?_append_right (by omega), Nat.add_sub_cancel_left, if_neg hB, Nat.add_comm 1 j, List.getElem?_cons_succ, List.getElem?_eq_getElem hj]
      have h46 : (bt s (p + A.length) == 46) = true := by
        rw [bt_tn, e, List.getElem?_append_right (by omega), hp, Nat.add_sub_cancel_left, List.getElem?_append_right (Nat.le_refl _), Nat.sub_self, if_neg hB]
        rfl
      have hre2 : re s (p + A.length + 1) = s.size := re_eq (by omega) (fun j h1 h2 => by
        have := hgB (j - (p + A.length + 1)) (by omega)
        rw [show p + A.length + 1 + (j - (p + A.length + 1)) = j by omega] at this
        rw [this]; exact tn_in (hbd _ (List.getElem_mem _))) (by rw [bt_out (by omega)]; rfl)
      have haz2 : az s (p + A.length + 1) = true → ∀ x ∈ B, x = 48 := fun h x hx => by
        obtain ⟨j, hj, rfl⟩ := List.getElem_of_mem hx
        have h1 := az_iff.1 h (p + A.length + 1 + j) (by omega) (by omega)
        rw [hgB j hj] at h1
        apply UInt8.toNat_inj.1
        have e48 : (48 : UInt8).toNat = 48 := rfl
        have h1' : ((B[j]).toNat : Int) = 48 := h1
        omega
      rw [h46, hre2, decide_eq_true (show p + A.length + 1 ≠ s.size by omega)]
      cases hb : b with
      | false => simp
      | true =>
        obtain ⟨x, hx, hn⟩ := hsome hb
        cases ha : az s p with
        | false => simp
        | true =>
          cases ha2 : az s (p + A.length + 1) with
          | false => simp
          | true =>
            rcases List.mem_append.1 hx with hx | hx
            · exact absurd (haz ha x hx) hn
            · exact absurd (haz2 ha2 x hx) hn
  have h0 : ∀ x y : UInt8, x = y → True := fun _ _ _ => trivial
  rw [← whl_dec]
  unfold whl
  cases hb : b with
  | true =>
    rw [hb] at heq hA
    have : (bt s 0 == 45) = true := by rw [bt_tn, heq]; rfl
    rw [this, if_pos rfl]
    exact hA 1 _ heq rfl
  | false =>
    rw [hb] at heq hA
    have : (bt s 0 == 45) = false := by
      rw [bt_tn, heq]
      cases A with
      | nil => exact absurd rfl hne
      | cons a r =>
        have h1 := had a (by simp)
        refine beq_eq_false_iff_ne.2 fun e => ?_
        have e2 : (a.toNat : Int) = 45 := e
        unfold isD at h1
        rw [e2] at h1
        cases h1
    rw [this, if_neg (by simp)]
    exact hA 0 _ heq rfl
end Go.Proofs.YtdcojpbgijkmgaaDoor
/-
  A decimal text's parts: what the program's cuts make of them; digits with no 0 ahead.
-/
namespace Go.Proofs.YtdcojpbgijkmgaaDoor
open Go.RowKit
theorem dig_ne {x : UInt8} (h : isD x = true) (c : UInt8) (hc : isD c = false) : x ≠ c := fun e => by rw [e, hc] at h; cases h
theorem d45 : isD 45 = false := rfl
theorem d46 : isD 46 = false := rfl
theorem isD_b {x : UInt8} (h : isD x = true) : 48 ≤ (x.toNat : Int) ∧ (x.toNat : Int) ≤ 57 := by
  unfold isD at h; simpa using h
/-! The program's cuts. -/
theorem ixb_hit : ∀ (A B : List UInt8), (∀ x ∈ A, isD x = true) → Lib.indexByte (A ++ 46 :: B) 46 = (A.length : Int)
  | [], B, _ => by simp [Lib.indexByte]
  | a :: A, B, h => by
    have ha := dig_ne (h a (by simp)) 46 d46
    have ih := ixb_hit A B (fun x hx => h x (by simp [hx]))
    simp only [List.cons_append, Lib.indexByte, ih]
    rw [if_neg (by simpa using ha), if_neg (by simp)]
    simp
theorem ixb_miss : ∀ (A : List UInt8), (∀ x ∈ A, isD x = true) → Lib.indexByte A 46 = -1
  | [], _ => rfl
  | a :: A, h => by
    have ha := dig_ne (h a (by simp)) 46 d46
    have ih := ixb_miss A (fun x hx => h x (by simp [hx]))
    simp only [Lib.indexByte, ih]
    rw [if_neg (by simpa using ha)]
    rfl
theorem cut_df {A B : List UInt8} (h : ∀ x ∈ A, isD x = true) : (Lib.cut (A ++ (if B = [] then [] else 46 :: B)) [46]).1 = A ∧ (Lib.cut (A ++ (if B = [] then [] else 46 :: B)) [46]).2.1 = B := by
  unfold Lib.cut
  rw [Lib.index_one]
  by_cases hB : B = []
  · subst hB
    rw [if_pos rfl, List.append_nil, ixb_miss A h]
    exact ⟨rfl, rfl⟩
  · rw [if_neg hB, ixb_hit A B h, if_pos (by omega)]
    simp
theorem pre_df {l A B : List UInt8} {b : Bool} (h : Df l b A B) : Lib.hasPrefix l [45] = b ∧ Lib.trimPrefix l [45] = A ++ (if B = [] then [] else 46 :: B) := by
  have hp : Lib.hasPrefix l [45] = b := by
    rw [h.eq]
    unfold Lib.hasPrefix
    cases b with
    | true => rfl
    | false =>
      cases hA : A with
      | nil => exact absurd hA h.ne
      | cons a r =>
        have := dig_ne (h.ad a (by rw [hA]; simp)) 45 d45
        simp [sg8, List.isPrefixOf]
        exact fun e => this e.symm
  refine ⟨hp, ?_⟩
  unfold Lib.trimPrefix
  rw [hp]
  cases b with
  | true => rw [if_pos rfl, h.eq]; rfl
  | false => rw [if_neg (by simp), h.eq]; rfl
/-! Digits with no 0 ahead. -/
abbrev nl (l : List UInt8) : List Int := l.map fun x => (x.toNat : Int)
abbrev dw0 (l : List UInt8) : List UInt8 := l.dropWhile (· == 48)
structure Cn (z : List UInt8) : Prop where
  ne : z ≠ []
  dg : ∀ x ∈ z, isD x = true
  hd : z.length = 1 ∨ z.head? ≠ some 48
theorem dw0_mem {l : List UInt8} {x : UInt8} (h : x ∈ dw0 l) : x ∈ l := (List.dropWhile_sublist _).subset h
theorem dw0_head {l : List UInt8} : (dw0 l).head? ≠ some 48 := by
  intro h
  cases hd : dw0 l with
  | nil => rw [hd] at h; cases h
  | cons a r =>
    rw [hd] at h
    cases h
    have := List.head_dropWhile_not (p := (· == (48 : UInt8))) (l := l) (by rw [show l.dropWhile (· == 48) = 48 :: r from hd]; simp)
    simp only [show l.dropWhile (· == 48) = 48 :: r from hd] at this
    simp at this
theorem cn_woz {L : List UInt8} (h : ∀ x ∈ L, isD x = true) : Cn (woz L) := by
  unfold woz
  by_cases hz : L.dropWhile (· == 48) = []
  · rw [if_pos hz]
    exact ⟨by simp, by intro x hx; simp at hx; subst hx; rfl, Or.inl rfl⟩
  · rw [if_neg hz]
    exact ⟨hz, fun x hx => h x (dw0_mem hx), Or.inr dw0_head⟩
theorem cn_isT {z : List UInt8} (h : Cn z) : isT ⟨z.toArray⟩ := by
  have hl : (⟨z.toArray⟩ : ByteArray).size = z.length := tx_size z
  have hp : 0 < z.length := List.length_pos_iff.2 h.ne
  refine ⟨by omega, fun hh => ?_, fun j hj _ => ?_⟩
  · obtain ⟨h1, h2⟩ := hh
    rcases h.hd with h3 | h3
    · omega
    · apply h3
      rw [List.head?_eq_getElem?, List.getElem?_eq_getElem hp]
      congr 1
      apply UInt8.toNat_inj.1
      have e48 : (48 : UInt8).toNat = 48 := rfl
      have h2' : ((z[0]).toNat : Int) = 48 := h2
      omega
  · have hj' : j < z.length := by omega
    exact isD_b (h.dg (z[j]) (List.getElem_mem hj'))
theorem pvk_z8 (z : List UInt8) : pvk ⟨z.toArray⟩ (⟨z.toArray⟩ : ByteArray).size = pv z := by
  unfold pvk
  rw [tx_size]
  simp
theorem pv_nn : ∀ (z : List UInt8) (v : Int), (∀ x ∈ z, isD x = true) → 0 ≤ v → v ≤ z.foldl (fun v c => v * 10 + ((c.toNat : Int) - 48)) v
  | [], v, _, _ => by simp
  | x :: z, v, h, hv => by
    have hx := isD_b (h x (by simp))
    have := pv_nn z (v * 10 + ((x.toNat : Int) - 48)) (fun y hy => h y (by simp [hy])) (by omega)
    simp only [List.foldl_cons]
    omega
theorem pv_0 {z : List UInt8} (h : ∀ x ∈ z, isD x = true) : 0 ≤ pv z := pv_nn z 0 h (by omega)
theorem pv_pos {z : List UInt8} (h : ∀ x ∈ z, isD x = true) (hne : z ≠ []) (hh : z.head? ≠ some 48) : 0 < pv z := by
  cases z with
  | nil => exact absurd rfl hne
  | cons x r =>
    have hx := isD_b (h x (by simp))
    have hx48 : (x.toNat : Int) ≠ 48 := fun e => hh (by
      have : x = 48 := by
        apply UInt8.toNat_inj.1
        have e48 : (48 : UInt8).toNat = 48 := rfl
        omega
      rw [this]; rfl)
    have := pv_nn r (0 * 10 + ((x.toNat : Int) - 48)) (fun y hy => h y (by simp [hy])) (by omega)
    unfold pv
    simp only [List.foldl_cons]
    omega
theorem dw0_nil : ∀ (L : List UInt8), dw0 L = [] → ∀ y ∈ L, y = 48
  | [], _, y, hy => by cases hy
  | x :: L, e, y, hy => by
    by_cases hx : x = 48
    · subst hx
      have e2 : dw0 L = [] := by simpa [dw0, List.dropWhile_cons] using e
      rcases List.mem_cons.1 hy with rfl | hy
      · rfl
      · exact dw0_nil L e2 y hy
    · have : (x == 48) = false := beq_eq_false_iff_ne.2 hx
      simp [dw0, this] at e
theorem dw0_ne {L : List UInt8} (h : ∃ x ∈ L, x ≠ 48) : dw0 L ≠ [] := fun e => by
  obtain ⟨x, hx, hn⟩ := h
  exact hn (dw0_nil L e x hx)
/-- What a decimal text's digits say. -/
abbrev nof (A B : List UInt8) : Int := pv (woz (A ++ B))
theorem Df.dg {l A B : List UInt8} {b : Bool} (h : Df l b A B) : ∀ x ∈ A ++ B, isD x = true := fun x hx => by
  rcases List.mem_append.1 hx with hx | hx
  · exact h.ad x hx
  · exact h.bd x hx
theorem Df.n0 {l A B : List UInt8} {b : Bool} (h : Df l b A B) : 0 ≤ nof A B := pv_0 (cn_woz h.dg).dg
theorem Df.ck {l A B : List UInt8} {b : Bool} (h : Df l b A B) (hk : B.length ≤ 18) : ck b (nof A B) (B.length : Int) = 0 := by
  unfold YtdcojpbgijkmgaaDoor.ck sc
  rw [decide_eq_true (show (0 : Int) ≤ (B.length : Int) by omega), decide_eq_true (show (B.length : Int) ≤ 18 by omega)]
  cases hb : b with
  | false => rfl
  | true =>
    have hne := dw0_ne (h.some hb)
    have : 0 < nof A B := by
      have hc := cn_woz h.dg
      refine pv_pos hc.dg hc.ne ?_
      unfold woz
      rw [if_neg hne]
      exact dw0_head
    rw [decide_eq_false (show ¬ nof A B = 0 by omega)]
    rfl
theorem pv48 : pv [48] = 0 := rfl
theorem nl_str (D : List UInt8) : strOf (nl D) = ⟨D.toArray⟩ := by
  have h := strOf_list (nl D)
  have e : (strOf (nl D)).data.toList = D := by
    rw [h, List.map_map]
    conv => rhs; rw [← List.map_id D]
    apply List.map_congr_left
    intro x _
    simp
  calc strOf (nl D) = ⟨(strOf (nl D)).data⟩ := rfl
    _ = ⟨(strOf (nl D)).data.toList.toArray⟩ := by rw [Array.toArray_toList]
    _ = ⟨D.toArray⟩ := by rw [e]
end Go.Proofs.YtdcojpbgijkmgaaDoor
/-
  Parse of a decimal text: what the program says.
-/
namespace Go.Proofs.YtdcojpbgijkmgaaDoor
open Go.RowKit
/-- What Parse says of a decimal text: the error's number. -/
def pe (A B : List UInt8) : Int := if 18 < B.length then 31 else if nof A B < MM then 0 else 7
theorem lp_n {z : List UInt8} (hc : Cn z) (hl : z.length ≤ maxLen) (w : World) : Calls Tryd.prog 29 #[tx z] w fun e w' => e = .returned (.tuple #[nv (if pv z < MM then pv z else 0), .int .i64 (if pv z < MM then 0 else 7)]) ∧ Mo w w' := by
  haveI := Classical.propDecidable (isT ⟨z.toArray⟩)
  refine (parse_n ⟨z.toArray⟩ w (by rw [tx_size]; exact hl)).mono fun e w' ⟨he, hm⟩ => ⟨?_, hm⟩
  rw [he, if_pos (cn_isT hc)]
  unfold resP
  rw [pvk_z8]
  by_cases h : pv z < MM
  · rw [if_pos h, if_pos h, if_pos h]
  · rw [if_neg h, if_neg h, if_neg h]; rfl
theorem woz_len (L : List UInt8) : (woz L).length ≤ L.length + 1 := by
  unfold woz
  split
  · simp
  · have := (List.dropWhile_sublist (p := (· == (48 : UInt8))) (l := L)).length_le; omega
theorem Df.len {l A B : List UInt8} {b : Bool} (h : Df l b A B) : A.length + B.length ≤ l.length := by
  rw [h.eq]
  by_cases hB : B = []
  · rw [if_pos hB, hB]; simp
  · rw [if_neg hB]; simp; omega
theorem woz_len2 {L : List UInt8} (h : L ≠ []) : (woz L).length ≤ L.length := by
  have hp := List.length_pos_iff.2 h
  unfold woz
  split
  · simp; omega
  · exact (List.dropWhile_sublist (p := (· == (48 : UInt8))) (l := L)).length_le
/-- The answer to a decimal text. -/
def pva (b : Bool) (A B : List UInt8) : Value := if pe A B = 0 then .tuple #[dc b (nof A B) (B.length : Int), .int .i64 0] else er (pe A B)
theorem parse13_df {s : ByteArray} {b : Bool} {A B : List UInt8} (h : Df (by8 s) b A B) (hs : s.size ≤ maxLen) (w : World) : Calls Tryd.prog 13 #[.string s] w fun e w' => e = .returned (pva b A B) ∧ Mo w w' := by
  have hi : ∀ w, Calls Tryd.prog 26 #[.string s] w fun e w' => e = .returned (.bool true) ∧ Mo w w' := fun w => by
    have := isDec_n s w hs; rw [dec_df h] at this; exact this
  obtain ⟨hp1, hp2⟩ := pre_df h
  have hC : ∀ w, Calls Tryd.prog 27 #[.string s, .string ⟨#[45]⟩] w fun e w' => e = .returned (.tuple #[tx (A ++ (if B = [] then [] else 46 :: B)), .bool b]) ∧ Mo w w' := fun w => by
    refine (Tryd.strings_CutPrefix s ⟨#[45]⟩ w).mono fun e w' ⟨he, hm⟩ => ⟨?_, by rw [hm]; exact Mo.refl _⟩
    rw [he]
    show Ending.returned (.tuple #[tx (Lib.trimPrefix (by8 s) [45]), .bool (Lib.hasPrefix (by8 s) [45])]) = _
    rw [hp1, hp2]
  have hlen := h.len
  rw [by8_len] at hlen
  have hlt : (A ++ (if B = [] then [] else 46 :: B)).length ≤ s.size := by
    rw [← by8_len, h.eq]; simp only [List.length_append]; omega
  obtain ⟨hc1, hc2⟩ := cut_df (B := B) h.ad
  have hD : ∀ w, Calls Tryd.prog 28 #[tx (A ++ (if B = [] then [] else 46 :: B)), .string ⟨#[46]⟩] w fun e w' => e = .returned (.tuple #[tx A, tx B, .bool (Lib.cut (A ++ (if B = [] then [] else 46 :: B)) [46]).2.2]) ∧ Mo w w' := fun w => by
    refine (cut_n ⟨(A ++ (if B = [] then [] else 46 :: B)).toArray⟩ 46 w (by rw [tx_size]; omega)).mono fun e w' ⟨he, hm⟩ => ⟨?_, hm⟩
    rw [he]
    show Ending.returned (.tuple #[tx (Lib.cut (A ++ (if B = [] then [] else 46 :: B)) [46]).1, tx (Lib.cut (A ++ (if B = [] then [] else 46 :: B)) [46]).2.1, .bool (Lib.cut (A ++ (if B = [] then [] else 46 :: B)) [46]).2.2]) = _
    rw [hc1, hc2]
  unfold pva pe
  by_cases h18 : 18 < B.length
  · rw [if_pos h18, if_neg (by decide)]
    exact parse_b s w hi _ A B b _ hC hD (decide_eq_true (by omega))
  · rw [if_neg h18]
    have hl : decide ((B.length : Int) > 18) = false := decide_eq_false (by omega)
    have hy : (⟨A.toArray⟩ : ByteArray) ++ ⟨B.toArray⟩ = ⟨(A ++ B).toArray⟩ := by
      have e : by8 ((⟨A.toArray⟩ : ByteArray) ++ ⟨B.toArray⟩) = A ++ B := by rw [by8_app]
      calc (⟨A.toArray⟩ : ByteArray) ++ ⟨B.toArray⟩ = ⟨((⟨A.toArray⟩ : ByteArray) ++ ⟨B.toArray⟩).data⟩ := rfl
        _ = ⟨(by8 ((⟨A.toArray⟩ : ByteArray) ++ ⟨B.toArray⟩)).toArray⟩ := by rw [Array.toArray_toList]
        _ = ⟨(A ++ B).toArray⟩ := by rw [e]
    have hZ : ∀ w, Calls Tryd.prog 30 #[.string ⟨(A ++ B).toArray⟩] w fun e w' => e = .returned (tx (woz (A ++ B))) ∧ Mo w w' := fun w => withoutZeros_n ⟨(A ++ B).toArray⟩ w
    have hwl := woz_len2 (L := A ++ B) (by simp [h.ne])
    simp only [List.length_append] at hwl
    have hP := fun w => lp_n (cn_woz h.dg) (by omega) w
    unfold maxLen at hs
    by_cases hM : nof A B < MM
    · rw [if_pos hM, if_pos rfl]
      have hM' : pv (woz (A ++ B)) < MM := hM
      simp only [if_pos hM'] at hP
      exact parse_d s w hi _ A B b _ hC hD _ hl (by omega) _ hy hZ _ 0 hP rfl
    · rw [if_neg hM, if_neg (by decide)]
      have hM' : ¬ pv (woz (A ++ B)) < MM := hM
      simp only [if_neg hM'] at hP
      exact parse_c s w hi _ A B b _ hC hD _ hl (by omega) _ hy hZ _ 7 hP rfl
theorem parse13_no {s : ByteArray} (h : isDec s = false) (hs : s.size ≤ maxLen) (w : World) : Calls Tryd.prog 13 #[.string s] w fun e w' => e = .returned (er 30) ∧ Mo w w' :=
  parse_a s w (fun w => by have := isDec_n s w hs; rw [h] at this; exact this)
end Go.Proofs.YtdcojpbgijkmgaaDoor
/-
  Texts that the document fixes.
-/
namespace Go.Proofs.YtdcojpbgijkmgaaDoor
open Go.RowKit Go.Lib
abbrev s3 : ByteArray := ⟨#[51]⟩
abbrev s152 : ByteArray := ⟨#[49, 46, 53, 46, 50]⟩
theorem pfx_s3 : pfx s3 = 1 := by
  have b0 : bt s3 0 = 51 := rfl
  have b1 : bt s3 1 = 0 := rfl
  have r1 : re s3 1 = 1 := re_end (by rw [b1]; rfl)
  have r0 : re s3 0 = 1 := by rw [re_on (by rw [b0]; rfl), r1]
  unfold pfx fi ah
  rw [b0, r0, b1]
  rfl
theorem pfx_s152 : pfx s152 = 3 := by
  have b0 : bt s152 0 = 49 := rfl
  have b1 : bt s152 1 = 46 := rfl
  have b2 : bt s152 2 = 53 := rfl
  have b3 : bt s152 3 = 46 := rfl
  have r1 : re s152 1 = 1 := re_end (by rw [b1]; rfl)
  have r0 : re s152 0 = 1 := by rw [re_on (by rw [b0]; rfl), r1]
  have r3 : re s152 3 = 3 := re_end (by rw [b3]; rfl)
  have r2 : re s152 2 = 3 := by rw [re_on (by rw [b2]; rfl), r3]
  unfold pfx fi
  rw [b0, r0]
  unfold ah
  rw [b1, b2, r2]
  rfl
theorem isT_s3 : isT s3 := ⟨by decide, by decide, fun j h hj => by
  have : j = 0 := by have : s3.size = 1 := rfl; omega
  subst this
  show 48 ≤ ((51 : UInt8).toNat : Int) ∧ ((51 : UInt8).toNat : Int) ≤ 57
  decide⟩
theorem limbParse_s3 (w : World) : Calls Tryd.prog 29 #[tx [51]] w fun e w' => e = .returned (.tuple #[nv 3, .int .i64 0]) ∧ Mo w w' := by
  haveI := Classical.propDecidable (isT s3)
  refine (parse_n s3 w (by decide)).mono fun e w' ⟨he, hm⟩ => ⟨?_, hm⟩
  rw [he, if_pos isT_s3, resP_ok (by decide)]
  rfl
theorem parse_s3 (w : World) : Calls Tryd.prog 13 #[.string s3] w fun e w' => e = .returned (.tuple #[dc false 3 0, .int .i64 0]) ∧ Mo w w' := by
  refine parse_d s3 w (fun w => ?_) [51] [51] [] false false (fun w => ?_) (fun w => ?_) [51] rfl (by decide) s3 rfl (fun w => ?_) 3 0 (fun w => limbParse_s3 w) rfl
  · refine (isDec_n s3 w (by decide)).mono fun e w' ⟨he, hm⟩ => ⟨?_, hm⟩
    rw [he]; unfold isDec; rw [pfx_s3, emp_iff]; rfl
  · refine (Tryd.strings_CutPrefix s3 ⟨#[45]⟩ w).mono fun e w' ⟨he, hm⟩ => ⟨?_, by rw [hm]; exact Mo.refl _⟩
    rw [he]; rfl
  · refine (cut_n s3 46 w (by decide)).mono fun e w' ⟨he, hm⟩ => ⟨?_, hm⟩
    rw [he]; rfl
  · refine (withoutZeros_n s3 w).mono fun e w' ⟨he, hm⟩ => ⟨?_, hm⟩
    rw [he]; rfl
theorem rescale_3 (w : World) : Calls Tryd.prog 34 #[dc false 3 0, .int .i64 2, .int .i64 3] w fun e w' => e = .returned (.tuple #[dc false 300 2, .int .i64 0]) ∧ Mo w w' := by
  have := rescale_z 3 0 2 3 w (by decide) (by decide) (by decide) (by decide) (by decide)
  have e : rsV 3 0 2 3 = 300 := by decide
  rw [e] at this
  exact this
theorem parseAt_s3 (w : World) : Calls Tryd.prog 15 #[.string s3, .int .i64 2] w fun e w' => e = .returned (.tuple #[dc false 300 2, .int .i64 0]) ∧ Mo w w' :=
  parseAt_r s3 2 w rfl rfl false 3 0 0 parse_s3 rfl rfl false 300 2 0 rescale_3
end Go.Proofs.YtdcojpbgijkmgaaDoor
/-
  exciselaw03.live.
-/
namespace Go.Proofs.YtdcojpbgijkmgaaDoor.V
open Go.RowKit Go.Lib
theorem text_lv (w : World) : Calls Tryd.prog 9 #[.agg #[.bool true, .int .u64 1250, .int .u64 0, .int .u64 0, .int .u64 0, .int .i64 2]] w fun e w' => e = .returned (.string ⟨#[45, 49, 50, 46, 53, 48]⟩) ∧ Mw w w' := by
  refine (text_ok true 1250 2 w (by decide) (by decide) (by decide) (by decide)).mono fun e w' ⟨he, hm⟩ => ⟨?_, hm⟩
  rw [he]; rfl
theorem short_lv (w : World) : Calls Tryd.prog 11 #[.agg #[.bool true, .int .u64 1250, .int .u64 0, .int .u64 0, .int .u64 0, .int .i64 2]] w fun e w' => e = .returned (.string ⟨#[45, 49, 50, 46, 53]⟩) ∧ Mw w w' := by
  refine (short_ok true 1250 2 w (by decide) (by decide) (by decide) (by decide)).mono fun e w' ⟨he, hm⟩ => ⟨?_, hm⟩
  rw [he]; rfl
theorem parseAt_lv (w : World) : Calls Tryd.prog 15 #[.string ⟨#[51]⟩, .int .i64 (2)] w fun e w' => e = .returned (.tuple #[.agg #[.bool false, .int .u64 300, .int .u64 0, .int .u64 0, .int .u64 0, .int .i64 2], .int .i64 0]) ∧ Mw w w' := wk (parseAt_s3 w)
theorem prefix_lv (w : World) : Calls Tryd.prog 17 #[.string ⟨#[49, 46, 53, 46, 50]⟩] w fun e w' => e = .returned (.int .i64 3) ∧ Mw w w' := by
  refine (prefix_n s152 w (by decide)).mono fun e w' ⟨he, hm⟩ => ⟨?_, hm.1⟩
  rw [he, pfx_s152]; rfl
theorem eqS_run (a : ByteArray) (x y : Operand) (w : World) : (do eqGuard .eql 9 x y (.string a) (.string a); binOp .eql 9 (.string a) (.string a)).run Tryd.prog w = .ok (.bool true) w := by
  simp [go_sem]
theorem eqE_run {a b : Int} {r : Bool} (h : (a == b) = r) (x y : Operand) (w : World) : (do eqGuard .eql 30 x y (.int .i64 a) (.int .i64 b); binOp .eql 30 (.int .i64 a) (.int .i64 b)).run Tryd.prog w = .ok (.bool r) w := by
  subst h; kernel_rfl
theorem live_n (w : World) : Calls Tryd.prog 8 #[] w fun e w' => e = .returned (.bool true) ∧ Mw w w' := by
  refine w_enter 32 Tryd.func8 Tryd.ntmps8 rfl rfl ?_
  have M : Mw w w := Mw.refl _
  refine w_seq ?_
  refine w_reg ?_
  refine wl_mv (.const (.bool false)) (.bool false) (fun _ => rfl) rfl rfl ?_
  refine w_nil ?_
  refine xn_then ?_
  refine w_seq ?_
  refine w_reg ?_
  refine wl_build 24 [(0, (.const (.int .u64 (1250))))] [(0, .int .u64 (1250))] (.agg #[.int .u64 (1250), .int .u64 0, .int .u64 0, .int .u64 0]) rfl rfl (by kernel_rfl) rfl ?_
  refine wl_build 26 [(0, (.const (.bool true))), (1, (.tmp 4)), (2, (.const (.int .i64 (2))))] [(0, .bool true), (1, .agg #[.int .u64 (1250), .int .u64 0, .int .u64 0, .int .u64 0]), (2, .int .i64 (2))] (.agg #[.bool true, .int .u64 (1250), .int .u64 0, .int .u64 0, .int .u64 0, .int .i64 (2)]) rfl rfl (by kernel_rfl) rfl ?_
  refine wl_alloc 26 #[.bool false, .int .u64 0, .int .u64 0, .int .u64 0, .int .u64 0, .int .i64 0] rfl (fun _ => by kernel_rfl) rfl ?_
  intro k1 w1 hk hz hq Q1
  have N_k1 : w.heap.size ≤ k1 := by have := M.size; omega
  replace M := M.trans hq
  clear hk hz hq
  refine wl_st 26 (.tmp 1) (.tmp 5) k1 0 #[.bool true, .int .u64 (1250), .int .u64 0, .int .u64 0, .int .u64 0, .int .i64 (2)] [.bool false, .int .u64 0, .int .u64 0, .int .u64 0, .int .u64 0, .int .i64 0] [.bool true, .int .u64 (1250), .int .u64 0, .int .u64 0, .int .u64 0, .int .i64 (2)] Q1 rfl rfl rfl rfl rfl sz26 rfl rfl rfl ?_
  intro w2 hS Qn
  replace Q1 := Qn
  clear Qn
  replace M := hS.mo _ N_k1 M
  clear hS
  refine w_nil ?_
  refine xn_then ?_
  refine w_seq ?_
  refine w_reg ?_
  refine wl_call 15 [(.const (.string ⟨#[51]⟩)), (.const (.int .i64 (2)))] _ [.string ⟨#[51]⟩, .int .i64 (2)] (.tuple #[.agg #[.bool false, .int .u64 300, .int .u64 0, .int .u64 0, .int .u64 0, .int .i64 2], .int .i64 (0)]) rfl rfl (fun _ _ => by kernel_rfl) (parseAt_lv _) rfl ?_
  intro w3 hq
  replace Q1 := Q1.mo hq
  replace M := M.trans hq
  clear hq
  refine wl_mv (.tmp 7) (.tuple #[.agg #[.bool false, .int .u64 300, .int .u64 0, .int .u64 0, .int .u64 0, .int .i64 2], .int .i64 (0)]) (fun _ => rfl) rfl rfl ?_
  refine wl_un (fun v => Instr.extract v 0) (.tmp 6) (.tuple #[.agg #[.bool false, .int .u64 300, .int .u64 0, .int .u64 0, .int .u64 0, .int .i64 2], .int .i64 (0)]) (.agg #[.bool false, .int .u64 300, .int .u64 0, .int .u64 0, .int .u64 0, .int .i64 2]) (fun _ => rfl) rfl (by kernel_rfl) rfl ?_
  refine wl_un (fun v => Instr.extract v 1) (.tmp 6) (.tuple #[.agg #[.bool false, .int .u64 300, .int .u64 0, .int .u64 0, .int .u64 0, .int .i64 2], .int .i64 (0)]) (.int .i64 (0)) (fun _ => rfl) rfl (by kernel_rfl) rfl ?_
  refine wl_alloc 26 #[.bool false, .int .u64 0, .int .u64 0, .int .u64 0, .int .u64 0, .int .i64 0] rfl (fun _ => by kernel_rfl) rfl ?_
  intro k2 w4 hk hz hq Q2
  have ne_k1_k2 : k1 ≠ k2 := by have := Q1.lt; omega
  have N_k2 : w.heap.size ≤ k2 := by have := M.size; omega
  replace Q1 := Q1.mo hq
  replace M := M.trans hq
  clear hk hz hq
  refine wl_st 26 (.tmp 2) (.tmp 8) k2 0 #[.bool false, .int .u64 300, .int .u64 0, .int .u64 0, .int .u64 0, .int .i64 2] [.bool false, .int .u64 0, .int .u64 0, .int .u64 0, .int .u64 0, .int .i64 0] [.bool false, .int .u64 300, .int .u64 0, .int .u64 0, .int .u64 0, .int .i64 2] Q2 rfl rfl rfl rfl rfl sz26 rfl rfl rfl ?_
  intro w5 hS Qn
  replace Q2 := Qn
  clear Qn
  replace Q1 := hS.other _ _ ne_k1_k2 Q1
  replace M := hS.mo _ N_k2 M
  clear hS
  refine wl_mv (.tmp 9) (.int .i64 (0)) (fun _ => rfl) rfl rfl ?_
  refine w_nil ?_
  refine xn_then ?_
  refine w_seq ?_
  refine w_reg ?_
  refine wl_load 26 (.tmp 1) (pt k1 0) (.agg #[.bool true, .int .u64 (1250), .int .u64 0, .int .u64 0, .int .u64 0, .int .i64 (2)]) rfl rfl (run_row Q1 26 0 6 [.bool true, .int .u64 (1250), .int .u64 0, .int .u64 0, .int .u64 0, .int .i64 (2)] rfl Tryd.underlying26 rfl sz26) rfl ?_
  refine wl_call 9 [(.tmp 10)] _ [.agg #[.bool true, .int .u64 (1250), .int .u64 0, .int .u64 0, .int .u64 0, .int .i64 (2)]] (.string ⟨#[45, 49, 50, 46, 53, 48]⟩) rfl rfl (fun _ _ => by kernel_rfl) (text_lv _) rfl ?_
  intro w6 hq
  replace Q1 := Q1.mo hq
  replace Q2 := Q2.mo hq
  replace M := M.trans hq
  clear hq
  refine wl_bin (fun x y => do eqGuard .eql 9 (.tmp 11) (.const (.string ⟨#[45, 49, 50, 46, 53, 48]⟩)) x y; binOp .eql 9 x y) (.tmp 11) (.const (.string ⟨#[45, 49, 50, 46, 53, 48]⟩)) (.string ⟨#[45, 49, 50, 46, 53, 48]⟩) (.string ⟨#[45, 49, 50, 46, 53, 48]⟩) (.bool true) (fun _ => rfl) rfl rfl (eqS_run _ _ _ _) rfl ?_
  refine wl_mv (.tmp 12) (.bool true) (fun _ => rfl) rfl rfl ?_
  refine wl_load 26 (.tmp 1) (pt k1 0) (.agg #[.bool true, .int .u64 (1250), .int .u64 0, .int .u64 0, .int .u64 0, .int .i64 (2)]) rfl rfl (run_row Q1 26 0 6 [.bool true, .int .u64 (1250), .int .u64 0, .int .u64 0, .int .u64 0, .int .i64 (2)] rfl Tryd.underlying26 rfl sz26) rfl ?_
  refine wl_call 11 [(.tmp 14)] _ [.agg #[.bool true, .int .u64 (1250), .int .u64 0, .int .u64 0, .int .u64 0, .int .i64 (2)]] (.string ⟨#[45, 49, 50, 46, 53]⟩) rfl rfl (fun _ _ => by kernel_rfl) (short_lv _) rfl ?_
  intro w7 hq
  replace Q1 := Q1.mo hq
  replace Q2 := Q2.mo hq
  replace M := M.trans hq
  clear hq
  refine wl_bin (fun x y => do eqGuard .eql 9 (.tmp 15) (.const (.string ⟨#[45, 49, 50, 46, 53]⟩)) x y; binOp .eql 9 x y) (.tmp 15) (.const (.string ⟨#[45, 49, 50, 46, 53]⟩)) (.string ⟨#[45, 49, 50, 46, 53]⟩) (.string ⟨#[45, 49, 50, 46, 53]⟩) (.bool true) (fun _ => rfl) rfl rfl (eqS_run _ _ _ _) rfl ?_
  refine wl_pick (.tmp 13) (.tmp 16) (.const (.bool false)) true (.bool true) (fun _ => rfl) rfl rfl rfl ?_
  refine wl_mv (.tmp 17) (.bool true) (fun _ => rfl) rfl rfl ?_
  refine wl_mv (.tmp 3) (.int .i64 (0)) (fun _ => rfl) rfl rfl ?_
  refine wl_bin (fun x y => do eqGuard .eql 30 (.tmp 19) (.const (.int .i64 (0))) x y; binOp .eql 30 x y) (.tmp 19) (.const (.int .i64 (0))) (.int .i64 (0)) (.int .i64 (0)) (.bool true) (fun _ => rfl) rfl rfl (eqE_run rfl _ _ _) rfl ?_
  refine wl_pick (.tmp 18) (.tmp 20) (.const (.bool false)) true (.bool true) (fun _ => rfl) rfl rfl rfl ?_
  refine wl_mv (.tmp 21) (.bool true) (fun _ => rfl) rfl rfl ?_
  refine wl_load 26 (.tmp 2) (pt k2 0) (.agg #[.bool false, .int .u64 300, .int .u64 0, .int .u64 0, .int .u64 0, .int .i64 2]) rfl rfl (run_row Q2 26 0 6 [.bool false, .int .u64 300, .int .u64 0, .int .u64 0, .int .u64 0, .int .i64 2] rfl Tryd.underlying26 rfl sz26) rfl ?_
  refine wl_build 24 [(0, (.const (.int .u64 (300))))] [(0, .int .u64 (300))] (.agg #[.int .u64 (300), .int .u64 0, .int .u64 0, .int .u64 0]) rfl rfl (by kernel_rfl) rfl ?_
  refine wl_build 26 [(1, (.tmp 24)), (2, (.const (.int .i64 (2))))] [(1, .agg #[.int .u64 (300), .int .u64 0, .int .u64 0, .int .u64 0]), (2, .int .i64 (2))] (.agg #[.bool false, .int .u64 (300), .int .u64 0, .int .u64 0, .int .u64 0, .int .i64 (2)]) rfl rfl (by kernel_rfl) rfl ?_
  refine wl_bin (fun x y => do eqGuard .eql 26 (.tmp 23) (.tmp 25) x y; binOp .eql 26 x y) (.tmp 23) (.tmp 25) (.agg #[.bool false, .int .u64 300, .int .u64 0, .int .u64 0, .int .u64 0, .int .i64 2]) (.agg #[.bool false, .int .u64 (300), .int .u64 0, .int .u64 0, .int .u64 0, .int .i64 (2)]) (.bool true) (fun _ => rfl) rfl rfl (eqd_run (r := true) rfl _ _ _) rfl ?_
  refine wl_pick (.tmp 22) (.tmp 26) (.const (.bool false)) true (.bool true) (fun _ => rfl) rfl rfl rfl ?_
  refine wl_mv (.tmp 27) (.bool true) (fun _ => rfl) rfl rfl ?_
  refine wl_call 17 [(.const (.string ⟨#[49, 46, 53, 46, 50]⟩))] _ [.string ⟨#[49, 46, 53, 46, 50]⟩] (.int .i64 (3)) rfl rfl (fun _ _ => by kernel_rfl) (prefix_lv _) rfl ?_
  intro w8 hq
  replace Q1 := Q1.mo hq
  replace Q2 := Q2.mo hq
  replace M := M.trans hq
  clear hq
  refine wl_bin (fun x y => do eqGuard .eql 3 (.tmp 29) (.const (.int .i64 (3))) x y; binOp .eql 3 x y) (.tmp 29) (.const (.int .i64 (3))) (.int .i64 (3)) (.int .i64 (3)) (.bool true) (fun _ => rfl) rfl rfl (eq3_run (r := true) rfl _ _ _) rfl ?_
  refine wl_pick (.tmp 28) (.tmp 30) (.const (.bool false)) true (.bool true) (fun _ => rfl) rfl rfl rfl ?_
  refine wl_mv (.tmp 31) (.bool true) (fun _ => rfl) rfl rfl ?_
  refine w_nil ?_
  refine xn_then ?_
  refine w_ret ?_
  exact w_ret1 _ (.bool true) rfl rfl ⟨rfl, M⟩
end Go.Proofs.YtdcojpbgijkmgaaDoor.V
/-
  A text's beginning and end, as operations.
-/
namespace Go.Proofs.YtdcojpbgijkmgaaDoor
open Go.RowKit Go.Lib
theorem take_tx (l : List UInt8) (j : Nat) : Value.string ((⟨l.toArray⟩ : ByteArray).extract 0 j) = tx (l.take j) := by
  rw [tx_of, by8_ext]; rfl
theorem drop_tx (l : List UInt8) (j : Nat) : Value.string ((⟨l.toArray⟩ : ByteArray).extract j (⟨l.toArray⟩ : ByteArray).size) = tx (l.drop j) := by
  rw [tx_of, by8_ext, tx_size]
  have : ((by8 (⟨l.toArray⟩ : ByteArray)).drop j).take (l.length - j) = l.drop j := List.take_of_length_le (by simp [by8])
  rw [this]
theorem hi_run (ρ : Operand → Value) (x y : Operand) (l : List UInt8) (j : Nat) (hx : ρ x = tx l) (hy : ρ y = .int .i64 (j : Int)) (hj : j ≤ l.length) (dst : Option Tmp) (type : TypeId) (pos : String) (after : Array Edge) (guard : Option (Nat × Bool)) (w : World) :
    (execOp ρ { dst, op := .slice 9 x none (some y) none, type, pos, after, guard }).run Tryd.prog w = .ok (.value (tx (l.take j))) w := by
  have h1 : (j : Int) ≤ ((⟨l.toArray⟩ : ByteArray).size : Int) := by rw [tx_size]; omega
  have h0 : (0 : Int) ≤ (j : Int) := by omega
  rw [← take_tx]
  unfold tx at hx
  generalize (⟨l.toArray⟩ : ByteArray) = s at *
  simp [go_sem, hx, hy, h1, h0]
theorem lo_run (ρ : Operand → Value) (x y : Operand) (l : List UInt8) (j : Nat) (hx : ρ x = tx l) (hy : ρ y = .int .i64 (j : Int)) (hj : j ≤ l.length) (dst : Option Tmp) (type : TypeId) (pos : String) (after : Array Edge) (guard : Option (Nat × Bool)) (w : World) :
    (execOp ρ { dst, op := .slice 9 x (some y) none none, type, pos, after, guard }).run Tryd.prog w = .ok (.value (tx (l.drop j))) w := by
  have h1 : (j : Int) ≤ ((⟨l.toArray⟩ : ByteArray).size : Int) := by rw [tx_size]; omega
  have h0 : (0 : Int) ≤ (j : Int) := by omega
  rw [← drop_tx]
  unfold tx at hx
  generalize (⟨l.toArray⟩ : ByteArray) = s at *
  simp [go_sem, hx, hy, h1, h0]
theorem catl_run (a b : List UInt8) (h : a.length + b.length ≤ 9223372036854775807) (x y : Operand) (w : World) : (do eqGuard .add 9 x y (tx a) (tx b); binOp .add 9 (tx a) (tx b)).run Tryd.prog w = .ok (tx (a ++ b)) w := by
  have e : tx (a ++ b) = .string ((⟨a.toArray⟩ : ByteArray) ++ ⟨b.toArray⟩) := by rw [tx_of, by8_app]
  rw [e]; exact V.cat_run _ _ (by rw [tx_size, tx_size]; exact h) x y w
theorem leq3_run {a b : Int} {r : Bool} (h : decide (a ≤ b) = r) (x y : Operand) (w : World) : (do eqGuard .leq 3 x y (.int .i64 a) (.int .i64 b); binOp .leq 3 (.int .i64 a) (.int .i64 b)).run Tryd.prog w = .ok (.bool r) w := by
  subst h; kernel_rfl
theorem sub3_run {a b c : Nat} (h : a = b + c) (hc : a ≤ 9223372036854775807) (x y : Operand) (w : World) : (do eqGuard .sub 3 x y (.int .i64 (a : Int)) (.int .i64 (b : Int)); binOp .sub 3 (.int .i64 (a : Int)) (.int .i64 (b : Int))).run Tryd.prog w = .ok (.int .i64 (c : Int)) w := by
  have e : (do eqGuard .sub 3 x y (.int .i64 (a : Int)) (.int .i64 (b : Int)); binOp .sub 3 (.int .i64 (a : Int)) (.int .i64 (b : Int))).run Tryd.prog w = .ok (.int .i64 (IntKind.i64.wrap ((a : Int) - (b : Int)))) w := by kernel_rfl
  have h2 : IntKind.i64.wrap ((a : Int) - (b : Int)) = (c : Int) := by rw [IntKind.wrap_i64]; omega
  rw [e, h2]
end Go.Proofs.YtdcojpbgijkmgaaDoor
/-
  exciseref03.whole: is a text a decimal one?
-/
namespace Go.Proofs.YtdcojpbgijkmgaaDoor
open Go.RowKit
theorem w_cut {P : Program} {n : Nat} {l : List (Nat × Value)} {w : World} {Q : Exit → Act → World → Prop} {x y : Code} (I : List (Nat × Value) → World → Prop) (h2 : ∀ l w, I l w → WC P y Q n l w) (h : WC P x (Exit.then (fun a w' => ∃ l', a = fr n l' ∧ I l' w') Q) n l w) : WC P (Code.seq x y) Q n l w :=
  w_seq ⟨wp_mono h.out fun e a w' hq => by
    cases e with
    | normal => obtain ⟨l', rfl, hI⟩ := hq; exact (h2 l' w' hI).out
    | _ => exact hq⟩
theorem xn_cut {n : Nat} {l : List (Nat × Value)} {w : World} {Q : Exit → Act → World → Prop} {I : List (Nat × Value) → World → Prop} (h : I l w) : WX (Exit.then (fun a w' => ∃ l', a = fr n l' ∧ I l' w') Q) .normal n l w := ⟨⟨l, rfl, h⟩⟩
theorem len_s (ρ : Operand → Value) (x : Operand) (s : ByteArray) (hx : ρ x = .string s) (dst : Option Tmp) (type : TypeId) (pos : String) (after : Array Edge) (guard : Option (Nat × Bool)) (w : World) : (execOp ρ { dst, op := .call { callee := .builtin .len, args := #[x], argTypes := #[9] }, type, pos, after, guard }).run Tryd.prog w = .ok (.value (.int .i64 (s.size : Int))) w := by
  simp [go_sem, hx]
theorem ltN {a b : Nat} {r : Bool} (h : decide (a < b) = r) (x y : Operand) (w : World) : (do eqGuard .lss 3 x y (.int .i64 (a : Int)) (.int .i64 (b : Int)); binOp .lss 3 (.int .i64 (a : Int)) (.int .i64 (b : Int))).run Tryd.prog w = .ok (.bool r) w :=
  lt3_run (by rw [← h]; exact decide_eq_decide.2 Int.ofNat_lt) _ _ _
theorem gtN {a b : Nat} {r : Bool} (h : decide (b < a) = r) (x y : Operand) (w : World) : (do eqGuard .gtr 3 x y (.int .i64 (a : Int)) (.int .i64 (b : Int)); binOp .gtr 3 (.int .i64 (a : Int)) (.int .i64 (b : Int))).run Tryd.prog w = .ok (.bool r) w :=
  gt3_run (by rw [← h]; exact decide_eq_decide.2 Int.ofNat_lt) _ _ _
theorem eqN {a b : Nat} {r : Bool} (h : decide (a = b) = r) (x y : Operand) (w : World) : (do eqGuard .eql 3 x y (.int .i64 (a : Int)) (.int .i64 (b : Int)); binOp .eql 3 (.int .i64 (a : Int)) (.int .i64 (b : Int))).run Tryd.prog w = .ok (.bool r) w :=
  eq3_run (by rw [← h, Bool.eq_iff_iff, beq_iff_eq, decide_eq_true_iff]; omega) _ _ _
theorem idx_b {s : ByteArray} {k : Nat} (h : k < s.size) (w : World) : (Instr.index 9 (.string s) (.int .i64 (k : Int))).run Tryd.prog w = .ok (.int .u8 (bt s k)) w := by
  rw [bt_in h]
  simp [go_sem, h]
theorem digit_c {c : Int} {r : Bool} (h : dgt c = r) (w : World) : Calls Tryd.prog 32 #[.int .u8 c] w fun e w' => e = .returned (.bool r) ∧ Mo w w' := h ▸ digit_n c w
theorem whole_n (s : ByteArray) (w : World) (hs : s.size ≤ maxLen) : Calls Tryd.prog 31 #[.string s] w fun e w' => e = .returned (.bool (whl s)) ∧ Mo w w' := by
  replace hs : s.size ≤ 9223372036854775807 := by unfold maxLen at hs; exact hs
  refine w_enter 95 Tryd.func31 Tryd.ntmps31 rfl rfl ?_
  have M : Mo w w := Mo.refl _
  refine w_seq ?_
  refine w_reg ?_
  refine wl_mv (.const (.bool false)) (.bool false) (fun _ => rfl) rfl rfl ?_
  refine w_nil ?_
  refine xn_then ?_
  refine w_seq ?_
  refine w_reg ?_
  refine wl_mv (.const (.bool false)) (.bool false) (fun _ => rfl) rfl rfl ?_
  refine w_nil ?_
  refine xn_then ?_
  refine w_seq ?_
  refine w_reg ?_
  refine wl_mv (.const (.int .i64 (0))) (.int .i64 (0)) (fun _ => rfl) rfl rfl ?_
  refine w_nil ?_
  refine xn_then ?_
  refine w_cut (fun l w1 => ∃ (p : Nat) (b : Bool), look l 0 = .string s ∧ look l 3 = .bool false ∧ look l 4 = .int .i64 (p : Int) ∧ p ≤ s.size ∧ p ≤ 1 ∧ whl s = whp s p b ∧ b = (bt s 0 == 45) ∧ Mo w w1) ?_ ?_
  · skip
    clear M
    rintro l wa ⟨p, b, e0, e3, e4, hps, hp1, hw0, hb, M⟩
    refine w_seq ?_
    refine w_reg ?_
    refine wl_mv (.tmp 4) (.int .i64 ((p : Nat) : Int)) (fun _ => rfl) e4 rfl ?_
    refine wl_mv (.tmp 19) (.int .i64 ((p : Nat) : Int)) (fun _ => rfl) rfl rfl ?_
    refine w_nil ?_
    refine xn_then ?_
    refine w_cut (fun l w1 => ∃ (i : Nat) (o : Bool), look l 0 = .string s ∧ look l 3 = .bool o ∧ look l 4 = .int .i64 (i : Int) ∧ look l 5 = .int .i64 (p : Int) ∧ p ≤ i ∧ i ≤ s.size ∧ re s p = i ∧ az s p = (!o) ∧ Mo w w1) ?_ ?_
    · skip
      clear M
      rintro l wb ⟨i, o, e0, e3, e4, e5, hpi, his, hre, haz, M⟩
      have hW : whl s = (decide (i ≠ p) && !((bt s p == 48) && decide (i > p + 1)) && (if i < s.size then (bt s i == 46) && decide (i + 1 ≠ s.size) && decide (re s (i + 1) = s.size) && (o || !az s (i + 1) || !b) else (o || !b))) := by rw [hw0]; unfold whp; rw [hre, haz, Bool.not_not]
      refine w_seq ?_
      refine w_seq ?_
      cases hf0 : decide (i = p) with
      | true =>
        have hf0p := of_decide_eq_true hf0
        refine w_reg ?_
        refine wl_mv (.tmp 4) (.int .i64 ((i : Nat) : Int)) (fun _ => rfl) e4 rfl ?_
        refine wl_mv (.tmp 5) (.int .i64 ((p : Nat) : Int)) (fun _ => rfl) e5 rfl ?_
        refine wl_bin (fun x y => do eqGuard .eql 3 (.tmp 39) (.tmp 40) x y; binOp .eql 3 x y) (.tmp 39) (.tmp 40) (.int .i64 ((i : Nat) : Int)) (.int .i64 ((p : Nat) : Int)) (.bool true) (fun _ => rfl) rfl rfl (eqN hf0 _ _ _) rfl ?_
        refine wl_mv (.tmp 41) (.bool true) (fun _ => rfl) rfl rfl ?_
        refine wl_skip rfl ?_
        refine wl_skip rfl ?_
        refine wl_skip rfl ?_
        refine wl_skip rfl ?_
        refine wl_skip rfl ?_
        refine wl_skip rfl ?_
        refine wl_skip rfl ?_
        refine wl_skip rfl ?_
        refine wl_skip rfl ?_
        refine wl_skip rfl ?_
        refine wl_pick (.tmp 42) (.const (.bool true)) (.tmp 52) true (.bool true) (fun _ => rfl) rfl rfl rfl ?_
        refine w_nil ?_
        refine xn_then ?_
        refine w_condT rfl ?_
        refine w_seq ?_
        refine w_reg ?_
        refine wl_mv (.const (.bool false)) (.bool false) (fun _ => rfl) rfl rfl ?_
        refine w_nil ?_
        refine xn_then ?_
        refine w_ret ?_
        refine xr_then ?_
        have hfin : whl s = false := by rw [hW]; first | (simp [hf0p]; done) | (simp [hf0p]; omega)
        exact w_ret1 _ (.bool false) rfl rfl ⟨by rw [hfin], M⟩
      | false =>
        have hf0p := of_decide_eq_false hf0
        cases hf1 : (bt s (p) == 48) with
        | true =>
          cases hf2 : decide (p + 1 < i) with
          | true =>
            have hf2p := of_decide_eq_true hf2
            refine w_reg ?_
            refine wl_mv (.tmp 4) (.int .i64 ((i : Nat) : Int)) (fun _ => rfl) e4 rfl ?_
            refine wl_mv (.tmp 5) (.int .i64 ((p : Nat) : Int)) (fun _ => rfl) e5 rfl ?_
            refine wl_bin (fun x y => do eqGuard .eql 3 (.tmp 39) (.tmp 40) x y; binOp .eql 3 x y) (.tmp 39) (.tmp 40) (.int .i64 ((i : Nat) : Int)) (.int .i64 ((p : Nat) : Int)) (.bool false) (fun _ => rfl) rfl rfl (eqN hf0 _ _ _) rfl ?_
            refine wl_mv (.tmp 41) (.bool false) (fun _ => rfl) rfl rfl ?_
            refine wl_mv (.tmp 0) (.string s) (fun _ => rfl) e0 rfl ?_
            refine wl_mv (.tmp 5) (.int .i64 ((p : Nat) : Int)) (fun _ => rfl) e5 rfl ?_
            refine wl_bin (fun x y => Instr.index 9 x y) (.tmp 43) (.tmp 44) (.string s) (.int .i64 ((p : Nat) : Int)) (.int .u8 (bt s (p))) (fun _ => rfl) rfl rfl (idx_b (by omega) _) rfl ?_
            refine wl_bin (fun x y => do eqGuard .eql 5 (.tmp 45) (.const (.int .u8 (48))) x y; binOp .eql 5 x y) (.tmp 45) (.const (.int .u8 (48))) (.int .u8 (bt s (p))) (.int .u8 (48)) (.bool true) (fun _ => rfl) rfl rfl (eq5r hf1 _ _ _) rfl ?_
            refine wl_mv (.tmp 46) (.bool true) (fun _ => rfl) rfl rfl ?_
            refine wl_mv (.tmp 4) (.int .i64 ((i : Nat) : Int)) (fun _ => rfl) e4 rfl ?_
            refine wl_mv (.tmp 5) (.int .i64 ((p : Nat) : Int)) (fun _ => rfl) e5 rfl ?_
            refine wl_bin (fun x y => do eqGuard .add 3 (.tmp 49) (.const (.int .i64 (1))) x y; binOp .add 3 x y) (.tmp 49) (.const (.int .i64 (1))) (.int .i64 ((p : Nat) : Int)) (.int .i64 (1)) (.int .i64 ((p + 1 : Nat) : Int)) (fun _ => rfl) rfl rfl (add1r (k := p) (by omega) _ _ _) rfl ?_
            refine wl_bin (fun x y => do eqGuard .gtr 3 (.tmp 48) (.tmp 50) x y; binOp .gtr 3 x y) (.tmp 48) (.tmp 50) (.int .i64 ((i : Nat) : Int)) (.int .i64 ((p + 1 : Nat) : Int)) (.bool true) (fun _ => rfl) rfl rfl (gtN hf2 _ _ _) rfl ?_
            refine wl_pick (.tmp 47) (.tmp 51) (.const (.bool false)) true (.bool true) (fun _ => rfl) rfl rfl rfl ?_
            refine wl_pick (.tmp 42) (.const (.bool true)) (.tmp 52) false (.bool true) (fun _ => rfl) rfl rfl rfl ?_
            refine w_nil ?_
            refine xn_then ?_
            refine w_condT rfl ?_
            refine w_seq ?_
            refine w_reg ?_
            refine wl_mv (.const (.bool false)) (.bool false) (fun _ => rfl) rfl rfl ?_
            refine w_nil ?_
            refine xn_then ?_
            refine w_ret ?_
            refine xr_then ?_
            have hfin : whl s = false := by rw [hW]; first | (simp [hf0p, hf1, hf2p]; done) | (simp [hf0p, hf1, hf2p]; omega)
            exact w_ret1 _ (.bool false) rfl rfl ⟨by rw [hfin], M⟩
          | false =>
            have hf2p := of_decide_eq_false hf2
            refine w_reg ?_
            refine wl_mv (.tmp 4) (.int .i64 ((i : Nat) : Int)) (fun _ => rfl) e4 rfl ?_
            refine wl_mv (.tmp 5) (.int .i64 ((p : Nat) : Int)) (fun _ => rfl) e5 rfl ?_
            refine wl_bin (fun x y => do eqGuard .eql 3 (.tmp 39) (.tmp 40) x y; binOp .eql 3 x y) (.tmp 39) (.tmp 40) (.int .i64 ((i : Nat) : Int)) (.int .i64 ((p : Nat) : Int)) (.bool false) (fun _ => rfl) rfl rfl (eqN hf0 _ _ _) rfl ?_
            refine wl_mv (.tmp 41) (.bool false) (fun _ => rfl) rfl rfl ?_
            refine wl_mv (.tmp 0) (.string s) (fun _ => rfl) e0 rfl ?_
            refine wl_mv (.tmp 5) (.int .i64 ((p : Nat) : Int)) (fun _ => rfl) e5 rfl ?_
            refine wl_bin (fun x y => Instr.index 9 x y) (.tmp 43) (.tmp 44) (.string s) (.int .i64 ((p : Nat) : Int)) (.int .u8 (bt s (p))) (fun _ => rfl) rfl rfl (idx_b (by omega) _) rfl ?_
            refine wl_bin (fun x y => do eqGuard .eql 5 (.tmp 45) (.const (.int .u8 (48))) x y; binOp .eql 5 x y) (.tmp 45) (.const (.int .u8 (48))) (.int .u8 (bt s (p))) (.int .u8 (48)) (.bool true) (fun _ => rfl) rfl rfl (eq5r hf1 _ _ _) rfl ?_
            refine wl_mv (.tmp 46) (.bool true) (fun _ => rfl) rfl rfl ?_
            refine wl_mv (.tmp 4) (.int .i64 ((i : Nat) : Int)) (fun _ => rfl) e4 rfl ?_
            refine wl_mv (.tmp 5) (.int .i64 ((p : Nat) : Int)) (fun _ => rfl) e5 rfl ?_
            refine wl_bin (fun x y => do eqGuard .add 3 (.tmp 49) (.const (.int .i64 (1))) x y; binOp .add 3 x y) (.tmp 49) (.const (.int .i64 (1))) (.int .i64 ((p : Nat) : Int)) (.int .i64 (1)) (.int .i64 ((p + 1 : Nat) : Int)) (fun _ => rfl) rfl rfl (add1r (k := p) (by omega) _ _ _) rfl ?_
            refine wl_bin (fun x y => do eqGuard .gtr 3 (.tmp 48) (.tmp 50) x y; binOp .gtr 3 x y) (.tmp 48) (.tmp 50) (.int .i64 ((i : Nat) : Int)) (.int .i64 ((p + 1 : Nat) : Int)) (.bool false) (fun _ => rfl) rfl rfl (gtN hf2 _ _ _) rfl ?_
            refine wl_pick (.tmp 47) (.tmp 51) (.const (.bool false)) true (.bool false) (fun _ => rfl) rfl rfl rfl ?_
            refine wl_pick (.tmp 42) (.const (.bool true)) (.tmp 52) false (.bool false) (fun _ => rfl) rfl rfl rfl ?_
            refine w_nil ?_
            refine xn_then ?_
            refine w_condF rfl ?_
            refine w_skip ?_
            refine xn_then ?_
            refine w_cut (fun l w1 => ∃ (o2 : Bool), look l 0 = .string s ∧ look l 3 = .bool o2 ∧ whl s = (o2 || !b) ∧ 0 < s.size ∧ Mo w w1) ?_ ?_
            · skip
              clear M
              rintro l wc ⟨o2, e0, e3, hW2, hs0, M⟩
              refine w_seq ?_
              cases o2 with
              | true =>
                refine w_reg ?_
                refine wl_mv (.tmp 3) (.bool true) (fun _ => rfl) e3 rfl ?_
                refine wl_mv (.tmp 89) (.bool true) (fun _ => rfl) rfl rfl ?_
                refine wl_skip rfl ?_
                refine wl_skip rfl ?_
                refine wl_skip rfl ?_
                refine wl_pick (.tmp 90) (.const (.bool true)) (.tmp 93) true (.bool true) (fun _ => rfl) rfl rfl rfl ?_
                refine wl_mv (.tmp 94) (.bool true) (fun _ => rfl) rfl rfl ?_
                refine w_nil ?_
                refine xn_then ?_
                refine w_ret ?_
                have hfin : whl s = true := by rw [hW2, hb, ]; rfl
                exact w_ret1 _ (.bool true) rfl rfl ⟨by rw [hfin], M⟩
              | false =>
                cases hf3 : (bt s (0) == 45) with
                | true =>
                  refine w_reg ?_
                  refine wl_mv (.tmp 3) (.bool false) (fun _ => rfl) e3 rfl ?_
                  refine wl_mv (.tmp 89) (.bool false) (fun _ => rfl) rfl rfl ?_
                  refine wl_mv (.tmp 0) (.string s) (fun _ => rfl) e0 rfl ?_
                  refine wl_bin (fun x y => Instr.index 9 x y) (.tmp 91) (.const (.int .i64 (0))) (.string s) (.int .i64 (0)) (.int .u8 (bt s (0))) (fun _ => rfl) rfl rfl (idx_b (by omega) _) rfl ?_
                  refine wl_bin (fun x y => do eqGuard .neq 5 (.tmp 92) (.const (.int .u8 (45))) x y; binOp .neq 5 x y) (.tmp 92) (.const (.int .u8 (45))) (.int .u8 (bt s (0))) (.int .u8 (45)) (.bool false) (fun _ => rfl) rfl rfl (ne5r hf3 _ _ _) rfl ?_
                  refine wl_pick (.tmp 90) (.const (.bool true)) (.tmp 93) false (.bool false) (fun _ => rfl) rfl rfl rfl ?_
                  refine wl_mv (.tmp 94) (.bool false) (fun _ => rfl) rfl rfl ?_
                  refine w_nil ?_
                  refine xn_then ?_
                  refine w_ret ?_
                  have hfin : whl s = false := by rw [hW2, hb, hf3]; rfl
                  exact w_ret1 _ (.bool false) rfl rfl ⟨by rw [hfin], M⟩
                | false =>
                  refine w_reg ?_
                  refine wl_mv (.tmp 3) (.bool false) (fun _ => rfl) e3 rfl ?_
                  refine wl_mv (.tmp 89) (.bool false) (fun _ => rfl) rfl rfl ?_
                  refine wl_mv (.tmp 0) (.string s) (fun _ => rfl) e0 rfl ?_
                  refine wl_bin (fun x y => Instr.index 9 x y) (.tmp 91) (.const (.int .i64 (0))) (.string s) (.int .i64 (0)) (.int .u8 (bt s (0))) (fun _ => rfl) rfl rfl (idx_b (by omega) _) rfl ?_
                  refine wl_bin (fun x y => do eqGuard .neq 5 (.tmp 92) (.const (.int .u8 (45))) x y; binOp .neq 5 x y) (.tmp 92) (.const (.int .u8 (45))) (.int .u8 (bt s (0))) (.int .u8 (45)) (.bool true) (fun _ => rfl) rfl rfl (ne5r hf3 _ _ _) rfl ?_
                  refine wl_pick (.tmp 90) (.const (.bool true)) (.tmp 93) false (.bool true) (fun _ => rfl) rfl rfl rfl ?_
                  refine wl_mv (.tmp 94) (.bool true) (fun _ => rfl) rfl rfl ?_
                  refine w_nil ?_
                  refine xn_then ?_
                  refine w_ret ?_
                  have hfin : whl s = true := by rw [hW2, hb, hf3]; rfl
                  exact w_ret1 _ (.bool true) rfl rfl ⟨by rw [hfin], M⟩
            · skip
              refine w_seq ?_
              cases hf3 : decide (i < s.size) with
              | true =>
                have hf3p := of_decide_eq_true hf3
                refine w_reg ?_
                refine wl_mv (.tmp 4) (.int .i64 ((i : Nat) : Int)) (fun _ => rfl) e4 rfl ?_
                refine wl_mv (.tmp 0) (.string s) (fun _ => rfl) e0 rfl ?_
                refine wl_val (.int .i64 ((s.size : Nat) : Int)) (len_s _ _ s (by exact rfl) _ _ _ _ _ _) rfl ?_
                refine wl_bin (fun x y => do eqGuard .lss 3 (.tmp 54) (.tmp 56) x y; binOp .lss 3 x y) (.tmp 54) (.tmp 56) (.int .i64 ((i : Nat) : Int)) (.int .i64 ((s.size : Nat) : Int)) (.bool true) (fun _ => rfl) rfl rfl (ltN hf3 _ _ _) rfl ?_
                refine w_nil ?_
                refine xn_then ?_
                refine w_condT rfl ?_
                refine w_seq ?_
                refine w_seq ?_
                cases hf4 : (bt s (i) == 46) with
                | true =>
                  cases hf5 : decide (i + 1 = s.size) with
                  | true =>
                    have hf5p := of_decide_eq_true hf5
                    refine w_reg ?_
                    refine wl_mv (.tmp 0) (.string s) (fun _ => rfl) e0 rfl ?_
                    refine wl_mv (.tmp 4) (.int .i64 ((i : Nat) : Int)) (fun _ => rfl) e4 rfl ?_
                    refine wl_bin (fun x y => Instr.index 9 x y) (.tmp 58) (.tmp 59) (.string s) (.int .i64 ((i : Nat) : Int)) (.int .u8 (bt s (i))) (fun _ => rfl) rfl rfl (idx_b (by omega) _) rfl ?_
                    refine wl_bin (fun x y => do eqGuard .neq 5 (.tmp 60) (.const (.int .u8 (46))) x y; binOp .neq 5 x y) (.tmp 60) (.const (.int .u8 (46))) (.int .u8 (bt s (i))) (.int .u8 (46)) (.bool false) (fun _ => rfl) rfl rfl (ne5r hf4 _ _ _) rfl ?_
                    refine wl_mv (.tmp 61) (.bool false) (fun _ => rfl) rfl rfl ?_
                    refine wl_mv (.tmp 4) (.int .i64 ((i : Nat) : Int)) (fun _ => rfl) e4 rfl ?_
                    refine wl_bin (fun x y => do eqGuard .add 3 (.tmp 63) (.const (.int .i64 (1))) x y; binOp .add 3 x y) (.tmp 63) (.const (.int .i64 (1))) (.int .i64 ((i : Nat) : Int)) (.int .i64 (1)) (.int .i64 ((i + 1 : Nat) : Int)) (fun _ => rfl) rfl rfl (add1r (k := i) (by omega) _ _ _) rfl ?_
                    refine wl_mv (.tmp 0) (.string s) (fun _ => rfl) e0 rfl ?_
                    refine wl_val (.int .i64 ((s.size : Nat) : Int)) (len_s _ _ s (by exact rfl) _ _ _ _ _ _) rfl ?_
                    refine wl_bin (fun x y => do eqGuard .eql 3 (.tmp 64) (.tmp 66) x y; binOp .eql 3 x y) (.tmp 64) (.tmp 66) (.int .i64 ((i + 1 : Nat) : Int)) (.int .i64 ((s.size : Nat) : Int)) (.bool true) (fun _ => rfl) rfl rfl (eqN hf5 _ _ _) rfl ?_
                    refine wl_pick (.tmp 62) (.const (.bool true)) (.tmp 67) false (.bool true) (fun _ => rfl) rfl rfl rfl ?_
                    refine w_nil ?_
                    refine xn_then ?_
                    refine w_condT rfl ?_
                    refine w_seq ?_
                    refine w_reg ?_
                    refine wl_mv (.const (.bool false)) (.bool false) (fun _ => rfl) rfl rfl ?_
                    refine w_nil ?_
                    refine xn_then ?_
                    refine w_ret ?_
                    refine xr_then ?_
                    refine xr_then ?_
                    have hfin : whl s = false := by rw [hW]; first | (simp [hf0p, hf1, hf2p, hf3p, hf4, hf5p]; done) | (simp [hf0p, hf1, hf2p, hf3p, hf4, hf5p]; omega)
                    exact w_ret1 _ (.bool false) rfl rfl ⟨by rw [hfin], M⟩
                  | false =>
                    have hf5p := of_decide_eq_false hf5
                    refine w_reg ?_
                    refine wl_mv (.tmp 0) (.string s) (fun _ => rfl) e0 rfl ?_
                    refine wl_mv (.tmp 4) (.int .i64 ((i : Nat) : Int)) (fun _ => rfl) e4 rfl ?_
                    refine wl_bin (fun x y => Instr.index 9 x y) (.tmp 58) (.tmp 59) (.string s) (.int .i64 ((i : Nat) : Int)) (.int .u8 (bt s (i))) (fun _ => rfl) rfl rfl (idx_b (by omega) _) rfl ?_
                    refine wl_bin (fun x y => do eqGuard .neq 5 (.tmp 60) (.const (.int .u8 (46))) x y; binOp .neq 5 x y) (.tmp 60) (.const (.int .u8 (46))) (.int .u8 (bt s (i))) (.int .u8 (46)) (.bool false) (fun _ => rfl) rfl rfl (ne5r hf4 _ _ _) rfl ?_
                    refine wl_mv (.tmp 61) (.bool false) (fun _ => rfl) rfl rfl ?_
                    refine wl_mv (.tmp 4) (.int .i64 ((i : Nat) : Int)) (fun _ => rfl) e4 rfl ?_
                    refine wl_bin (fun x y => do eqGuard .add 3 (.tmp 63) (.const (.int .i64 (1))) x y; binOp .add 3 x y) (.tmp 63) (.const (.int .i64 (1))) (.int .i64 ((i : Nat) : Int)) (.int .i64 (1)) (.int .i64 ((i + 1 : Nat) : Int)) (fun _ => rfl) rfl rfl (add1r (k := i) (by omega) _ _ _) rfl ?_
                    refine wl_mv (.tmp 0) (.string s) (fun _ => rfl) e0 rfl ?_
                    refine wl_val (.int .i64 ((s.size : Nat) : Int)) (len_s _ _ s (by exact rfl) _ _ _ _ _ _) rfl ?_
                    refine wl_bin (fun x y => do eqGuard .eql 3 (.tmp 64) (.tmp 66) x y; binOp .eql 3 x y) (.tmp 64) (.tmp 66) (.int .i64 ((i + 1 : Nat) : Int)) (.int .i64 ((s.size : Nat) : Int)) (.bool false) (fun _ => rfl) rfl rfl (eqN hf5 _ _ _) rfl ?_
                    refine wl_pick (.tmp 62) (.const (.bool true)) (.tmp 67) false (.bool false) (fun _ => rfl) rfl rfl rfl ?_
                    refine w_nil ?_
                    refine xn_then ?_
                    refine w_condF rfl ?_
                    refine w_skip ?_
                    refine xn_then ?_
                    refine w_seq ?_
                    refine w_reg ?_
                    refine wl_mv (.tmp 4) (.int .i64 ((i : Nat) : Int)) (fun _ => rfl) e4 rfl ?_
                    refine wl_bin (fun x y => do eqGuard .add 3 (.tmp 69) (.const (.int .i64 (1))) x y; binOp .add 3 x y) (.tmp 69) (.const (.int .i64 (1))) (.int .i64 ((i : Nat) : Int)) (.int .i64 (1)) (.int .i64 ((i + 1 : Nat) : Int)) (fun _ => rfl) rfl rfl (add1r (k := i) (by omega) _ _ _) rfl ?_
                    refine wl_mv (.tmp 70) (.int .i64 ((i + 1 : Nat) : Int)) (fun _ => rfl) rfl rfl ?_
                    refine w_nil ?_
                    refine xn_then ?_
                    refine w_block ?_
                    refine w_loop (fun m l w1 => ∃ (k : Nat) (o2 : Bool), m = s.size - k ∧ look l 0 = .string s ∧ look l 3 = .bool o2 ∧ look l 6 = .int .i64 (k : Int) ∧ i + 1 ≤ k ∧ k ≤ s.size ∧ re s k = re s (i + 1) ∧ (o2 || !az s k) = (o || !az s (i + 1)) ∧ Mo w w1) _ ⟨i + 1, o, rfl, e0, e3, rfl, by omega, by omega, rfl, rfl, M⟩ ?_
                    clear M
                    rintro m2 l2 wl2 ⟨k, o2, rfl, e0, e3, e6, hik, hks, hrk, hzk, M⟩
                    refine w_seq ?_
                    refine w_seq ?_
                    cases hf6 : decide (k < s.size) with
                    | true =>
                      have hf6p := of_decide_eq_true hf6
                      refine w_reg ?_
                      refine wl_mv (.tmp 6) (.int .i64 ((k : Nat) : Int)) (fun _ => rfl) e6 rfl ?_
                      refine wl_mv (.tmp 0) (.string s) (fun _ => rfl) e0 rfl ?_
                      refine wl_val (.int .i64 ((s.size : Nat) : Int)) (len_s _ _ s (by exact rfl) _ _ _ _ _ _) rfl ?_
                      refine wl_bin (fun x y => do eqGuard .lss 3 (.tmp 71) (.tmp 73) x y; binOp .lss 3 x y) (.tmp 71) (.tmp 73) (.int .i64 ((k : Nat) : Int)) (.int .i64 ((s.size : Nat) : Int)) (.bool true) (fun _ => rfl) rfl rfl (ltN hf6 _ _ _) rfl ?_
                      refine w_nil ?_
                      refine xn_then ?_
                      refine w_condT rfl ?_
                      refine w_skip ?_
                      refine xn_then ?_
                      refine w_seq ?_
                      refine w_block ?_
                      refine w_seq ?_
                      refine w_seq ?_
                      cases hf7 : dgt (bt s (k)) with
                      | true =>
                        refine w_reg ?_
                        refine wl_mv (.tmp 0) (.string s) (fun _ => rfl) e0 rfl ?_
                        refine wl_mv (.tmp 6) (.int .i64 ((k : Nat) : Int)) (fun _ => rfl) e6 rfl ?_
                        refine wl_bin (fun x y => Instr.index 9 x y) (.tmp 77) (.tmp 78) (.string s) (.int .i64 ((k : Nat) : Int)) (.int .u8 (bt s (k))) (fun _ => rfl) rfl rfl (idx_b (by omega) _) rfl ?_
                        refine wl_call 32 [(.tmp 79)] _ [.int .u8 (bt s (k))] (.bool true) rfl rfl (fun _ _ => by kernel_rfl) (digit_c hf7 _) rfl ?_
                        intro w61 hq
                        replace M := M.trans hq
                        clear hq
                        refine wl_un (fun v => Op.unary .not v) (.tmp 80) (.bool true) (.bool false) (fun _ => rfl) rfl (by kernel_rfl) rfl ?_
                        refine w_nil ?_
                        refine xn_then ?_
                        refine w_condF rfl ?_
                        refine w_skip ?_
                        refine xn_then ?_
                        cases o2 with
                        | true =>
                          refine w_reg ?_
                          refine wl_mv (.tmp 3) (.bool true) (fun _ => rfl) e3 rfl ?_
                          refine wl_mv (.tmp 82) (.bool true) (fun _ => rfl) rfl rfl ?_
                          refine wl_skip rfl ?_
                          refine wl_skip rfl ?_
                          refine wl_skip rfl ?_
                          refine wl_skip rfl ?_
                          refine wl_pick (.tmp 83) (.const (.bool true)) (.tmp 87) true (.bool true) (fun _ => rfl) rfl rfl rfl ?_
                          refine wl_mv (.tmp 88) (.bool true) (fun _ => rfl) rfl rfl ?_
                          refine w_nil ?_
                          refine xn_blk ?_
                          refine xn_then ?_
                          refine w_reg ?_
                          refine wl_mv (.tmp 6) (.int .i64 ((k : Nat) : Int)) (fun _ => rfl) e6 rfl ?_
                          refine wl_bin (fun x y => do eqGuard .add 3 (.tmp 75) (.const (.int .i64 (1))) x y; binOp .add 3 x y) (.tmp 75) (.const (.int .i64 (1))) (.int .i64 ((k : Nat) : Int)) (.int .i64 (1)) (.int .i64 ((k + 1 : Nat) : Int)) (fun _ => rfl) rfl rfl (add1r (k := k) (by omega) _ _ _) rfl ?_
                          refine wl_mv (.tmp 76) (.int .i64 ((k + 1 : Nat) : Int)) (fun _ => rfl) rfl rfl ?_
                          refine w_nil ?_
                          exact xn_loop (s.size - (k + 1)) (by omega) ⟨k + 1, true, rfl, e0, rfl, rfl, by omega, by omega, by rw [← hrk, re_on hf7], by rw [← hzk, az_on hf7]; simp, M⟩
                        | false =>
                          cases hf8 : (bt s (k) == 48) with
                          | true =>
                            refine w_reg ?_
                            refine wl_mv (.tmp 3) (.bool false) (fun _ => rfl) e3 rfl ?_
                            refine wl_mv (.tmp 82) (.bool false) (fun _ => rfl) rfl rfl ?_
                            refine wl_mv (.tmp 0) (.string s) (fun _ => rfl) e0 rfl ?_
                            refine wl_mv (.tmp 6) (.int .i64 ((k : Nat) : Int)) (fun _ => rfl) e6 rfl ?_
                            refine wl_bin (fun x y => Instr.index 9 x y) (.tmp 84) (.tmp 85) (.string s) (.int .i64 ((k : Nat) : Int)) (.int .u8 (bt s (k))) (fun _ => rfl) rfl rfl (idx_b (by omega) _) rfl ?_
                            refine wl_bin (fun x y => do eqGuard .neq 5 (.tmp 86) (.const (.int .u8 (48))) x y; binOp .neq 5 x y) (.tmp 86) (.const (.int .u8 (48))) (.int .u8 (bt s (k))) (.int .u8 (48)) (.bool false) (fun _ => rfl) rfl rfl (ne5r hf8 _ _ _) rfl ?_
                            refine wl_pick (.tmp 83) (.const (.bool true)) (.tmp 87) false (.bool false) (fun _ => rfl) rfl rfl rfl ?_
                            refine wl_mv (.tmp 88) (.bool false) (fun _ => rfl) rfl rfl ?_
                            refine w_nil ?_
                            refine xn_blk ?_
                            refine xn_then ?_
                            refine w_reg ?_
                            refine wl_mv (.tmp 6) (.int .i64 ((k : Nat) : Int)) (fun _ => rfl) e6 rfl ?_
                            refine wl_bin (fun x y => do eqGuard .add 3 (.tmp 75) (.const (.int .i64 (1))) x y; binOp .add 3 x y) (.tmp 75) (.const (.int .i64 (1))) (.int .i64 ((k : Nat) : Int)) (.int .i64 (1)) (.int .i64 ((k + 1 : Nat) : Int)) (fun _ => rfl) rfl rfl (add1r (k := k) (by omega) _ _ _) rfl ?_
                            refine wl_mv (.tmp 76) (.int .i64 ((k + 1 : Nat) : Int)) (fun _ => rfl) rfl rfl ?_
                            refine w_nil ?_
                            exact xn_loop (s.size - (k + 1)) (by omega) ⟨k + 1, false, rfl, e0, rfl, rfl, by omega, by omega, by rw [← hrk, re_on hf7], by rw [← hzk, az_on hf7, hf8]; simp, M⟩
                          | false =>
                            refine w_reg ?_
                            refine wl_mv (.tmp 3) (.bool false) (fun _ => rfl) e3 rfl ?_
                            refine wl_mv (.tmp 82) (.bool false) (fun _ => rfl) rfl rfl ?_
                            refine wl_mv (.tmp 0) (.string s) (fun _ => rfl) e0 rfl ?_
                            refine wl_mv (.tmp 6) (.int .i64 ((k : Nat) : Int)) (fun _ => rfl) e6 rfl ?_
                            refine wl_bin (fun x y => Instr.index 9 x y) (.tmp 84) (.tmp 85) (.string s) (.int .i64 ((k : Nat) : Int)) (.int .u8 (bt s (k))) (fun _ => rfl) rfl rfl (idx_b (by omega) _) rfl ?_
                            refine wl_bin (fun x y => do eqGuard .neq 5 (.tmp 86) (.const (.int .u8 (48))) x y; binOp .neq 5 x y) (.tmp 86) (.const (.int .u8 (48))) (.int .u8 (bt s (k))) (.int .u8 (48)) (.bool true) (fun _ => rfl) rfl rfl (ne5r hf8 _ _ _) rfl ?_
                            refine wl_pick (.tmp 83) (.const (.bool true)) (.tmp 87) false (.bool true) (fun _ => rfl) rfl rfl rfl ?_
                            refine wl_mv (.tmp 88) (.bool true) (fun _ => rfl) rfl rfl ?_
                            refine w_nil ?_
                            refine xn_blk ?_
                            refine xn_then ?_
                            refine w_reg ?_
                            refine wl_mv (.tmp 6) (.int .i64 ((k : Nat) : Int)) (fun _ => rfl) e6 rfl ?_
                            refine wl_bin (fun x y => do eqGuard .add 3 (.tmp 75) (.const (.int .i64 (1))) x y; binOp .add 3 x y) (.tmp 75) (.const (.int .i64 (1))) (.int .i64 ((k : Nat) : Int)) (.int .i64 (1)) (.int .i64 ((k + 1 : Nat) : Int)) (fun _ => rfl) rfl rfl (add1r (k := k) (by omega) _ _ _) rfl ?_
                            refine wl_mv (.tmp 76) (.int .i64 ((k + 1 : Nat) : Int)) (fun _ => rfl) rfl rfl ?_
                            refine w_nil ?_
                            exact xn_loop (s.size - (k + 1)) (by omega) ⟨k + 1, true, rfl, e0, rfl, rfl, by omega, by omega, by rw [← hrk, re_on hf7], by rw [← hzk, az_on hf7, hf8]; simp, M⟩
                      | false =>
                        refine w_reg ?_
                        refine wl_mv (.tmp 0) (.string s) (fun _ => rfl) e0 rfl ?_
                        refine wl_mv (.tmp 6) (.int .i64 ((k : Nat) : Int)) (fun _ => rfl) e6 rfl ?_
                        refine wl_bin (fun x y => Instr.index 9 x y) (.tmp 77) (.tmp 78) (.string s) (.int .i64 ((k : Nat) : Int)) (.int .u8 (bt s (k))) (fun _ => rfl) rfl rfl (idx_b (by omega) _) rfl ?_
                        refine wl_call 32 [(.tmp 79)] _ [.int .u8 (bt s (k))] (.bool false) rfl rfl (fun _ _ => by kernel_rfl) (digit_c hf7 _) rfl ?_
                        intro w61 hq
                        replace M := M.trans hq
                        clear hq
                        refine wl_un (fun v => Op.unary .not v) (.tmp 80) (.bool false) (.bool true) (fun _ => rfl) rfl (by kernel_rfl) rfl ?_
                        refine w_nil ?_
                        refine xn_then ?_
                        refine w_condT rfl ?_
                        refine w_seq ?_
                        refine w_reg ?_
                        refine wl_mv (.const (.bool false)) (.bool false) (fun _ => rfl) rfl rfl ?_
                        refine w_nil ?_
                        refine xn_then ?_
                        refine w_ret ?_
                        refine xr_then ?_
                        refine xr_blk ?_
                        refine xr_then ?_
                        refine xr_then ?_
                        refine xr_blk ?_
                        refine xr_then ?_
                        have hr2 : re s (i + 1) = k := by rw [← hrk, re_end hf7]
                        have hkn : k ≠ s.size := by omega
                        have hfin : whl s = false := by rw [hW, hr2]; simp [hkn, hf0p, hf1, hf2p, hf3p, hf4, hf5p]
                        exact w_ret1 _ (.bool false) rfl rfl ⟨by rw [hfin], M⟩
                    | false =>
                      have hf6p := of_decide_eq_false hf6
                      refine w_reg ?_
                      refine wl_mv (.tmp 6) (.int .i64 ((k : Nat) : Int)) (fun _ => rfl) e6 rfl ?_
                      refine wl_mv (.tmp 0) (.string s) (fun _ => rfl) e0 rfl ?_
                      refine wl_val (.int .i64 ((s.size : Nat) : Int)) (len_s _ _ s (by exact rfl) _ _ _ _ _ _) rfl ?_
                      refine wl_bin (fun x y => do eqGuard .lss 3 (.tmp 71) (.tmp 73) x y; binOp .lss 3 x y) (.tmp 71) (.tmp 73) (.int .i64 ((k : Nat) : Int)) (.int .i64 ((s.size : Nat) : Int)) (.bool false) (fun _ => rfl) rfl rfl (ltN hf6 _ _ _) rfl ?_
                      refine w_nil ?_
                      refine xn_then ?_
                      refine w_condF rfl ?_
                      refine w_exit ?_
                      refine xx_then ?_
                      refine xx_then ?_
                      have hnd2 : dgt (bt s k) = false := by rw [bt_out (by omega)]; rfl
                      have hr2 : re s (i + 1) = s.size := by rw [← hrk, re_end hnd2]; omega
                      rw [az_end hnd2, Bool.not_true, Bool.or_false] at hzk
                      refine xx_blk ?_
                      exact xn_cut ⟨o2, e0, e3, by rw [hW, hr2]; first | (simp [hf0p, hf1, hf2p, hf3p, hf4, hf5p, ← hzk]; done) | (simp [hf0p, hf1, hf2p, hf3p, hf4, hf5p, hf6p, ← hzk]; omega), by omega, M⟩
                | false =>
                  refine w_reg ?_
                  refine wl_mv (.tmp 0) (.string s) (fun _ => rfl) e0 rfl ?_
                  refine wl_mv (.tmp 4) (.int .i64 ((i : Nat) : Int)) (fun _ => rfl) e4 rfl ?_
                  refine wl_bin (fun x y => Instr.index 9 x y) (.tmp 58) (.tmp 59) (.string s) (.int .i64 ((i : Nat) : Int)) (.int .u8 (bt s (i))) (fun _ => rfl) rfl rfl (idx_b (by omega) _) rfl ?_
                  refine wl_bin (fun x y => do eqGuard .neq 5 (.tmp 60) (.const (.int .u8 (46))) x y; binOp .neq 5 x y) (.tmp 60) (.const (.int .u8 (46))) (.int .u8 (bt s (i))) (.int .u8 (46)) (.bool true) (fun _ => rfl) rfl rfl (ne5r hf4 _ _ _) rfl ?_
                  refine wl_mv (.tmp 61) (.bool true) (fun _ => rfl) rfl rfl ?_
                  refine wl_skip rfl ?_
                  refine wl_skip rfl ?_
                  refine wl_skip rfl ?_
                  refine wl_skip rfl ?_
                  refine wl_skip rfl ?_
                  refine wl_pick (.tmp 62) (.const (.bool true)) (.tmp 67) true (.bool true) (fun _ => rfl) rfl rfl rfl ?_
                  refine w_nil ?_
                  refine xn_then ?_
                  refine w_condT rfl ?_
                  refine w_seq ?_
                  refine w_reg ?_
                  refine wl_mv (.const (.bool false)) (.bool false) (fun _ => rfl) rfl rfl ?_
                  refine w_nil ?_
                  refine xn_then ?_
                  refine w_ret ?_
                  refine xr_then ?_
                  refine xr_then ?_
                  have hfin : whl s = false := by rw [hW]; first | (simp [hf0p, hf1, hf2p, hf3p, hf4]; done) | (simp [hf0p, hf1, hf2p, hf3p, hf4]; omega)
                  exact w_ret1 _ (.bool false) rfl rfl ⟨by rw [hfin], M⟩
              | false =>
                have hf3p := of_decide_eq_false hf3
                refine w_reg ?_
                refine wl_mv (.tmp 4) (.int .i64 ((i : Nat) : Int)) (fun _ => rfl) e4 rfl ?_
                refine wl_mv (.tmp 0) (.string s) (fun _ => rfl) e0 rfl ?_
                refine wl_val (.int .i64 ((s.size : Nat) : Int)) (len_s _ _ s (by exact rfl) _ _ _ _ _ _) rfl ?_
                refine wl_bin (fun x y => do eqGuard .lss 3 (.tmp 54) (.tmp 56) x y; binOp .lss 3 x y) (.tmp 54) (.tmp 56) (.int .i64 ((i : Nat) : Int)) (.int .i64 ((s.size : Nat) : Int)) (.bool false) (fun _ => rfl) rfl rfl (ltN hf3 _ _ _) rfl ?_
                refine w_nil ?_
                refine xn_then ?_
                refine w_condF rfl ?_
                refine w_skip ?_
                exact xn_cut ⟨o, e0, e3, by rw [hW]; first | (simp [hf0p, hf1, hf2p, hf3p]; done) | (simp [hf0p, hf1, hf2p, hf3p]; omega), by omega, M⟩
        | false =>
          refine w_reg ?_
          refine wl_mv (.tmp 4) (.int .i64 ((i : Nat) : Int)) (fun _ => rfl) e4 rfl ?_
          refine wl_mv (.tmp 5) (.int .i64 ((p : Nat) : Int)) (fun _ => rfl) e5 rfl ?_
          refine wl_bin (fun x y => do eqGuard .eql 3 (.tmp 39) (.tmp 40) x y; binOp .eql 3 x y) (.tmp 39) (.tmp 40) (.int .i64 ((i : Nat) : Int)) (.int .i64 ((p : Nat) : Int)) (.bool false) (fun _ => rfl) rfl rfl (eqN hf0 _ _ _) rfl ?_
          refine wl_mv (.tmp 41) (.bool false) (fun _ => rfl) rfl rfl ?_
          refine wl_mv (.tmp 0) (.string s) (fun _ => rfl) e0 rfl ?_
          refine wl_mv (.tmp 5) (.int .i64 ((p : Nat) : Int)) (fun _ => rfl) e5 rfl ?_
          refine wl_bin (fun x y => Instr.index 9 x y) (.tmp 43) (.tmp 44) (.string s) (.int .i64 ((p : Nat) : Int)) (.int .u8 (bt s (p))) (fun _ => rfl) rfl rfl (idx_b (by omega) _) rfl ?_
          refine wl_bin (fun x y => do eqGuard .eql 5 (.tmp 45) (.const (.int .u8 (48))) x y; binOp .eql 5 x y) (.tmp 45) (.const (.int .u8 (48))) (.int .u8 (bt s (p))) (.int .u8 (48)) (.bool false) (fun _ => rfl) rfl rfl (eq5r hf1 _ _ _) rfl ?_
          refine wl_mv (.tmp 46) (.bool false) (fun _ => rfl) rfl rfl ?_
          refine wl_skip rfl ?_
          refine wl_skip rfl ?_
          refine wl_skip rfl ?_
          refine wl_skip rfl ?_
          refine wl_pick (.tmp 47) (.tmp 51) (.const (.bool false)) false (.bool false) (fun _ => rfl) rfl rfl rfl ?_
          refine wl_pick (.tmp 42) (.const (.bool true)) (.tmp 52) false (.bool false) (fun _ => rfl) rfl rfl rfl ?_
          refine w_nil ?_
          refine xn_then ?_
          refine w_condF rfl ?_
          refine w_skip ?_
          refine xn_then ?_
          refine w_cut (fun l w1 => ∃ (o2 : Bool), look l 0 = .string s ∧ look l 3 = .bool o2 ∧ whl s = (o2 || !b) ∧ 0 < s.size ∧ Mo w w1) ?_ ?_
          · skip
            clear M
            rintro l wc ⟨o2, e0, e3, hW2, hs0, M⟩
            refine w_seq ?_
            cases o2 with
            | true =>
              refine w_reg ?_
              refine wl_mv (.tmp 3) (.bool true) (fun _ => rfl) e3 rfl ?_
              refine wl_mv (.tmp 89) (.bool true) (fun _ => rfl) rfl rfl ?_
              refine wl_skip rfl ?_
              refine wl_skip rfl ?_
              refine wl_skip rfl ?_
              refine wl_pick (.tmp 90) (.const (.bool true)) (.tmp 93) true (.bool true) (fun _ => rfl) rfl rfl rfl ?_
              refine wl_mv (.tmp 94) (.bool true) (fun _ => rfl) rfl rfl ?_
              refine w_nil ?_
              refine xn_then ?_
              refine w_ret ?_
              have hfin : whl s = true := by rw [hW2, hb, ]; rfl
              exact w_ret1 _ (.bool true) rfl rfl ⟨by rw [hfin], M⟩
            | false =>
              cases hf2 : (bt s (0) == 45) with
              | true =>
                refine w_reg ?_
                refine wl_mv (.tmp 3) (.bool false) (fun _ => rfl) e3 rfl ?_
                refine wl_mv (.tmp 89) (.bool false) (fun _ => rfl) rfl rfl ?_
                refine wl_mv (.tmp 0) (.string s) (fun _ => rfl) e0 rfl ?_
                refine wl_bin (fun x y => Instr.index 9 x y) (.tmp 91) (.const (.int .i64 (0))) (.string s) (.int .i64 (0)) (.int .u8 (bt s (0))) (fun _ => rfl) rfl rfl (idx_b (by omega) _) rfl ?_
                refine wl_bin (fun x y => do eqGuard .neq 5 (.tmp 92) (.const (.int .u8 (45))) x y; binOp .neq 5 x y) (.tmp 92) (.const (.int .u8 (45))) (.int .u8 (bt s (0))) (.int .u8 (45)) (.bool false) (fun _ => rfl) rfl rfl (ne5r hf2 _ _ _) rfl ?_
                refine wl_pick (.tmp 90) (.const (.bool true)) (.tmp 93) false (.bool false) (fun _ => rfl) rfl rfl rfl ?_
                refine wl_mv (.tmp 94) (.bool false) (fun _ => rfl) rfl rfl ?_
                refine w_nil ?_
                refine xn_then ?_
                refine w_ret ?_
                have hfin : whl s = false := by rw [hW2, hb, hf2]; rfl
                exact w_ret1 _ (.bool false) rfl rfl ⟨by rw [hfin], M⟩
              | false =>
                refine w_reg ?_
                refine wl_mv (.tmp 3) (.bool false) (fun _ => rfl) e3 rfl ?_
                refine wl_mv (.tmp 89) (.bool false) (fun _ => rfl) rfl rfl ?_
                refine wl_mv (.tmp 0) (.string s) (fun _ => rfl) e0 rfl ?_
                refine wl_bin (fun x y => Instr.index 9 x y) (.tmp 91) (.const (.int .i64 (0))) (.string s) (.int .i64 (0)) (.int .u8 (bt s (0))) (fun _ => rfl) rfl rfl (idx_b (by omega) _) rfl ?_
                refine wl_bin (fun x y => do eqGuard .neq 5 (.tmp 92) (.const (.int .u8 (45))) x y; binOp .neq 5 x y) (.tmp 92) (.const (.int .u8 (45))) (.int .u8 (bt s (0))) (.int .u8 (45)) (.bool true) (fun _ => rfl) rfl rfl (ne5r hf2 _ _ _) rfl ?_
                refine wl_pick (.tmp 90) (.const (.bool true)) (.tmp 93) false (.bool true) (fun _ => rfl) rfl rfl rfl ?_
                refine wl_mv (.tmp 94) (.bool true) (fun _ => rfl) rfl rfl ?_
                refine w_nil ?_
                refine xn_then ?_
                refine w_ret ?_
                have hfin : whl s = true := by rw [hW2, hb, hf2]; rfl
                exact w_ret1 _ (.bool true) rfl rfl ⟨by rw [hfin], M⟩
          · skip
            refine w_seq ?_
            cases hf2 : decide (i < s.size) with
            | true =>
              have hf2p := of_decide_eq_true hf2
              refine w_reg ?_
              refine wl_mv (.tmp 4) (.int .i64 ((i : Nat) : Int)) (fun _ => rfl) e4 rfl ?_
              refine wl_mv (.tmp 0) (.string s) (fun _ => rfl) e0 rfl ?_
              refine wl_val (.int .i64 ((s.size : Nat) : Int)) (len_s _ _ s (by exact rfl) _ _ _ _ _ _) rfl ?_
              refine wl_bin (fun x y => do eqGuard .lss 3 (.tmp 54) (.tmp 56) x y; binOp .lss 3 x y) (.tmp 54) (.tmp 56) (.int .i64 ((i : Nat) : Int)) (.int .i64 ((s.size : Nat) : Int)) (.bool true) (fun _ => rfl) rfl rfl (ltN hf2 _ _ _) rfl ?_
              refine w_nil ?_
              refine xn_then ?_
              refine w_condT rfl ?_
              refine w_seq ?_
              refine w_seq ?_
              cases hf3 : (bt s (i) == 46) with
              | true =>
                cases hf4 : decide (i + 1 = s.size) with
                | true =>
                  have hf4p := of_decide_eq_true hf4
                  refine w_reg ?_
                  refine wl_mv (.tmp 0) (.string s) (fun _ => rfl) e0 rfl ?_
                  refine wl_mv (.tmp 4) (.int .i64 ((i : Nat) : Int)) (fun _ => rfl) e4 rfl ?_
                  refine wl_bin (fun x y => Instr.index 9 x y) (.tmp 58) (.tmp 59) (.string s) (.int .i64 ((i : Nat) : Int)) (.int .u8 (bt s (i))) (fun _ => rfl) rfl rfl (idx_b (by omega) _) rfl ?_
                  refine wl_bin (fun x y => do eqGuard .neq 5 (.tmp 60) (.const (.int .u8 (46))) x y; binOp .neq 5 x y) (.tmp 60) (.const (.int .u8 (46))) (.int .u8 (bt s (i))) (.int .u8 (46)) (.bool false) (fun _ => rfl) rfl rfl (ne5r hf3 _ _ _) rfl ?_
                  refine wl_mv (.tmp 61) (.bool false) (fun _ => rfl) rfl rfl ?_
                  refine wl_mv (.tmp 4) (.int .i64 ((i : Nat) : Int)) (fun _ => rfl) e4 rfl ?_
                  refine wl_bin (fun x y => do eqGuard .add 3 (.tmp 63) (.const (.int .i64 (1))) x y; binOp .add 3 x y) (.tmp 63) (.const (.int .i64 (1))) (.int .i64 ((i : Nat) : Int)) (.int .i64 (1)) (.int .i64 ((i + 1 : Nat) : Int)) (fun _ => rfl) rfl rfl (add1r (k := i) (by omega) _ _ _) rfl ?_
                  refine wl_mv (.tmp 0) (.string s) (fun _ => rfl) e0 rfl ?_
                  refine wl_val (.int .i64 ((s.size : Nat) : Int)) (len_s _ _ s (by exact rfl) _ _ _ _ _ _) rfl ?_
                  refine wl_bin (fun x y => do eqGuard .eql 3 (.tmp 64) (.tmp 66) x y; binOp .eql 3 x y) (.tmp 64) (.tmp 66) (.int .i64 ((i + 1 : Nat) : Int)) (.int .i64 ((s.size : Nat) : Int)) (.bool true) (fun _ => rfl) rfl rfl (eqN hf4 _ _ _) rfl ?_
                  refine wl_pick (.tmp 62) (.const (.bool true)) (.tmp 67) false (.bool true) (fun _ => rfl) rfl rfl rfl ?_
                  refine w_nil ?_
                  refine xn_then ?_
                  refine w_condT rfl ?_
                  refine w_seq ?_
                  refine w_reg ?_
                  refine wl_mv (.const (.bool false)) (.bool false) (fun _ => rfl) rfl rfl ?_
                  refine w_nil ?_
                  refine xn_then ?_
                  refine w_ret ?_
                  refine xr_then ?_
                  refine xr_then ?_
                  have hfin : whl s = false := by rw [hW]; first | (simp [hf0p, hf1, hf2p, hf3, hf4p]; done) | (simp [hf0p, hf1, hf2p, hf3, hf4p]; omega)
                  exact w_ret1 _ (.bool false) rfl rfl ⟨by rw [hfin], M⟩
                | false =>
                  have hf4p := of_decide_eq_false hf4
                  refine w_reg ?_
                  refine wl_mv (.tmp 0) (.string s) (fun _ => rfl) e0 rfl ?_
                  refine wl_mv (.tmp 4) (.int .i64 ((i : Nat) : Int)) (fun _ => rfl) e4 rfl ?_
                  refine wl_bin (fun x y => Instr.index 9 x y) (.tmp 58) (.tmp 59) (.string s) (.int .i64 ((i : Nat) : Int)) (.int .u8 (bt s (i))) (fun _ => rfl) rfl rfl (idx_b (by omega) _) rfl ?_
                  refine wl_bin (fun x y => do eqGuard .neq 5 (.tmp 60) (.const (.int .u8 (46))) x y; binOp .neq 5 x y) (.tmp 60) (.const (.int .u8 (46))) (.int .u8 (bt s (i))) (.int .u8 (46)) (.bool false) (fun _ => rfl) rfl rfl (ne5r hf3 _ _ _) rfl ?_
                  refine wl_mv (.tmp 61) (.bool false) (fun _ => rfl) rfl rfl ?_
                  refine wl_mv (.tmp 4) (.int .i64 ((i : Nat) : Int)) (fun _ => rfl) e4 rfl ?_
                  refine wl_bin (fun x y => do eqGuard .add 3 (.tmp 63) (.const (.int .i64 (1))) x y; binOp .add 3 x y) (.tmp 63) (.const (.int .i64 (1))) (.int .i64 ((i : Nat) : Int)) (.int .i64 (1)) (.int .i64 ((i + 1 : Nat) : Int)) (fun _ => rfl) rfl rfl (add1r (k := i) (by omega) _ _ _) rfl ?_
                  refine wl_mv (.tmp 0) (.string s) (fun _ => rfl) e0 rfl ?_
                  refine wl_val (.int .i64 ((s.size : Nat) : Int)) (len_s _ _ s (by exact rfl) _ _ _ _ _ _) rfl ?_
                  refine wl_bin (fun x y => do eqGuard .eql 3 (.tmp 64) (.tmp 66) x y; binOp .eql 3 x y) (.tmp 64) (.tmp 66) (.int .i64 ((i + 1 : Nat) : Int)) (.int .i64 ((s.size : Nat) : Int)) (.bool false) (fun _ => rfl) rfl rfl (eqN hf4 _ _ _) rfl ?_
                  refine wl_pick (.tmp 62) (.const (.bool true)) (.tmp 67) false (.bool false) (fun _ => rfl) rfl rfl rfl ?_
                  refine w_nil ?_
                  refine xn_then ?_
                  refine w_condF rfl ?_
                  refine w_skip ?_
                  refine xn_then ?_
                  refine w_seq ?_
                  refine w_reg ?_
                  refine wl_mv (.tmp 4) (.int .i64 ((i : Nat) : Int)) (fun _ => rfl) e4 rfl ?_
                  refine wl_bin (fun x y => do eqGuard .add 3 (.tmp 69) (.const (.int .i64 (1))) x y; binOp .add 3 x y) (.tmp 69) (.const (.int .i64 (1))) (.int .i64 ((i : Nat) : Int)) (.int .i64 (1)) (.int .i64 ((i + 1 : Nat) : Int)) (fun _ => rfl) rfl rfl (add1r (k := i) (by omega) _ _ _) rfl ?_
                  refine wl_mv (.tmp 70) (.int .i64 ((i + 1 : Nat) : Int)) (fun _ => rfl) rfl rfl ?_
                  refine w_nil ?_
                  refine xn_then ?_
                  refine w_block ?_
                  refine w_loop (fun m l w1 => ∃ (k : Nat) (o2 : Bool), m = s.size - k ∧ look l 0 = .string s ∧ look l 3 = .bool o2 ∧ look l 6 = .int .i64 (k : Int) ∧ i + 1 ≤ k ∧ k ≤ s.size ∧ re s k = re s (i + 1) ∧ (o2 || !az s k) = (o || !az s (i + 1)) ∧ Mo w w1) _ ⟨i + 1, o, rfl, e0, e3, rfl, by omega, by omega, rfl, rfl, M⟩ ?_
                  clear M
                  rintro m2 l2 wl2 ⟨k, o2, rfl, e0, e3, e6, hik, hks, hrk, hzk, M⟩
                  refine w_seq ?_
                  refine w_seq ?_
                  cases hf5 : decide (k < s.size) with
                  | true =>
                    have hf5p := of_decide_eq_true hf5
                    refine w_reg ?_
                    refine wl_mv (.tmp 6) (.int .i64 ((k : Nat) : Int)) (fun _ => rfl) e6 rfl ?_
                    refine wl_mv (.tmp 0) (.string s) (fun _ => rfl) e0 rfl ?_
                    refine wl_val (.int .i64 ((s.size : Nat) : Int)) (len_s _ _ s (by exact rfl) _ _ _ _ _ _) rfl ?_
                    refine wl_bin (fun x y => do eqGuard .lss 3 (.tmp 71) (.tmp 73) x y; binOp .lss 3 x y) (.tmp 71) (.tmp 73) (.int .i64 ((k : Nat) : Int)) (.int .i64 ((s.size : Nat) : Int)) (.bool true) (fun _ => rfl) rfl rfl (ltN hf5 _ _ _) rfl ?_
                    refine w_nil ?_
                    refine xn_then ?_
                    refine w_condT rfl ?_
                    refine w_skip ?_
                    refine xn_then ?_
                    refine w_seq ?_
                    refine w_block ?_
                    refine w_seq ?_
                    refine w_seq ?_
                    cases hf6 : dgt (bt s (k)) with
                    | true =>
                      refine w_reg ?_
                      refine wl_mv (.tmp 0) (.string s) (fun _ => rfl) e0 rfl ?_
                      refine wl_mv (.tmp 6) (.int .i64 ((k : Nat) : Int)) (fun _ => rfl) e6 rfl ?_
                      refine wl_bin (fun x y => Instr.index 9 x y) (.tmp 77) (.tmp 78) (.string s) (.int .i64 ((k : Nat) : Int)) (.int .u8 (bt s (k))) (fun _ => rfl) rfl rfl (idx_b (by omega) _) rfl ?_
                      refine wl_call 32 [(.tmp 79)] _ [.int .u8 (bt s (k))] (.bool true) rfl rfl (fun _ _ => by kernel_rfl) (digit_c hf6 _) rfl ?_
                      intro w61 hq
                      replace M := M.trans hq
                      clear hq
                      refine wl_un (fun v => Op.unary .not v) (.tmp 80) (.bool true) (.bool false) (fun _ => rfl) rfl (by kernel_rfl) rfl ?_
                      refine w_nil ?_
                      refine xn_then ?_
                      refine w_condF rfl ?_
                      refine w_skip ?_
                      refine xn_then ?_
                      cases o2 with
                      | true =>
                        refine w_reg ?_
                        refine wl_mv (.tmp 3) (.bool true) (fun _ => rfl) e3 rfl ?_
                        refine wl_mv (.tmp 82) (.bool true) (fun _ => rfl) rfl rfl ?_
                        refine wl_skip rfl ?_
                        refine wl_skip rfl ?_
                        refine wl_skip rfl ?_
                        refine wl_skip rfl ?_
                        refine wl_pick (.tmp 83) (.const (.bool true)) (.tmp 87) true (.bool true) (fun _ => rfl) rfl rfl rfl ?_
                        refine wl_mv (.tmp 88) (.bool true) (fun _ => rfl) rfl rfl ?_
                        refine w_nil ?_
                        refine xn_blk ?_
                        refine xn_then ?_
                        refine w_reg ?_
                        refine wl_mv (.tmp 6) (.int .i64 ((k : Nat) : Int)) (fun _ => rfl) e6 rfl ?_
                        refine wl_bin (fun x y => do eqGuard .add 3 (.tmp 75) (.const (.int .i64 (1))) x y; binOp .add 3 x y) (.tmp 75) (.const (.int .i64 (1))) (.int .i64 ((k : Nat) : Int)) (.int .i64 (1)) (.int .i64 ((k + 1 : Nat) : Int)) (fun _ => rfl) rfl rfl (add1r (k := k) (by omega) _ _ _) rfl ?_
                        refine wl_mv (.tmp 76) (.int .i64 ((k + 1 : Nat) : Int)) (fun _ => rfl) rfl rfl ?_
                        refine w_nil ?_
                        exact xn_loop (s.size - (k + 1)) (by omega) ⟨k + 1, true, rfl, e0, rfl, rfl, by omega, by omega, by rw [← hrk, re_on hf6], by rw [← hzk, az_on hf6]; simp, M⟩
                      | false =>
                        cases hf7 : (bt s (k) == 48) with
                        | true =>
                          refine w_reg ?_
                          refine wl_mv (.tmp 3) (.bool false) (fun _ => rfl) e3 rfl ?_
                          refine wl_mv (.tmp 82) (.bool false) (fun _ => rfl) rfl rfl ?_
                          refine wl_mv (.tmp 0) (.string s) (fun _ => rfl) e0 rfl ?_
                          refine wl_mv (.tmp 6) (.int .i64 ((k : Nat) : Int)) (fun _ => rfl) e6 rfl ?_
                          refine wl_bin (fun x y => Instr.index 9 x y) (.tmp 84) (.tmp 85) (.string s) (.int .i64 ((k : Nat) : Int)) (.int .u8 (bt s (k))) (fun _ => rfl) rfl rfl (idx_b (by omega) _) rfl ?_
                          refine wl_bin (fun x y => do eqGuard .neq 5 (.tmp 86) (.const (.int .u8 (48))) x y; binOp .neq 5 x y) (.tmp 86) (.const (.int .u8 (48))) (.int .u8 (bt s (k))) (.int .u8 (48)) (.bool false) (fun _ => rfl) rfl rfl (ne5r hf7 _ _ _) rfl ?_
                          refine wl_pick (.tmp 83) (.const (.bool true)) (.tmp 87) false (.bool false) (fun _ => rfl) rfl rfl rfl ?_
                          refine wl_mv (.tmp 88) (.bool false) (fun _ => rfl) rfl rfl ?_
                          refine w_nil ?_
                          refine xn_blk ?_
                          refine xn_then ?_
                          refine w_reg ?_
                          refine wl_mv (.tmp 6) (.int .i64 ((k : Nat) : Int)) (fun _ => rfl) e6 rfl ?_
                          refine wl_bin (fun x y => do eqGuard .add 3 (.tmp 75) (.const (.int .i64 (1))) x y; binOp .add 3 x y) (.tmp 75) (.const (.int .i64 (1))) (.int .i64 ((k : Nat) : Int)) (.int .i64 (1)) (.int .i64 ((k + 1 : Nat) : Int)) (fun _ => rfl) rfl rfl (add1r (k := k) (by omega) _ _ _) rfl ?_
                          refine wl_mv (.tmp 76) (.int .i64 ((k + 1 : Nat) : Int)) (fun _ => rfl) rfl rfl ?_
                          refine w_nil ?_
                          exact xn_loop (s.size - (k + 1)) (by omega) ⟨k + 1, false, rfl, e0, rfl, rfl, by omega, by omega, by rw [← hrk, re_on hf6], by rw [← hzk, az_on hf6, hf7]; simp, M⟩
                        | false =>
                          refine w_reg ?_
                          refine wl_mv (.tmp 3) (.bool false) (fun _ => rfl) e3 rfl ?_
                          refine wl_mv (.tmp 82) (.bool false) (fun _ => rfl) rfl rfl ?_
                          refine wl_mv (.tmp 0) (.string s) (fun _ => rfl) e0 rfl ?_
                          refine wl_mv (.tmp 6) (.int .i64 ((k : Nat) : Int)) (fun _ => rfl) e6 rfl ?_
                          refine wl_bin (fun x y => Instr.index 9 x y) (.tmp 84) (.tmp 85) (.string s) (.int .i64 ((k : Nat) : Int)) (.int .u8 (bt s (k))) (fun _ => rfl) rfl rfl (idx_b (by omega) _) rfl ?_
                          refine wl_bin (fun x y => do eqGuard .neq 5 (.tmp 86) (.const (.int .u8 (48))) x y; binOp .neq 5 x y) (.tmp 86) (.const (.int .u8 (48))) (.int .u8 (bt s (k))) (.int .u8 (48)) (.bool true) (fun _ => rfl) rfl rfl (ne5r hf7 _ _ _) rfl ?_
                          refine wl_pick (.tmp 83) (.const (.bool true)) (.tmp 87) false (.bool true) (fun _ => rfl) rfl rfl rfl ?_
                          refine wl_mv (.tmp 88) (.bool true) (fun _ => rfl) rfl rfl ?_
                          refine w_nil ?_
                          refine xn_blk ?_
                          refine xn_then ?_
                          refine w_reg ?_
                          refine wl_mv (.tmp 6) (.int .i64 ((k : Nat) : Int)) (fun _ => rfl) e6 rfl ?_
                          refine wl_bin (fun x y => do eqGuard .add 3 (.tmp 75) (.const (.int .i64 (1))) x y; binOp .add 3 x y) (.tmp 75) (.const (.int .i64 (1))) (.int .i64 ((k : Nat) : Int)) (.int .i64 (1)) (.int .i64 ((k + 1 : Nat) : Int)) (fun _ => rfl) rfl rfl (add1r (k := k) (by omega) _ _ _) rfl ?_
                          refine wl_mv (.tmp 76) (.int .i64 ((k + 1 : Nat) : Int)) (fun _ => rfl) rfl rfl ?_
                          refine w_nil ?_
                          exact xn_loop (s.size - (k + 1)) (by omega) ⟨k + 1, true, rfl, e0, rfl, rfl, by omega, by omega, by rw [← hrk, re_on hf6], by rw [← hzk, az_on hf6, hf7]; simp, M⟩
                    | false =>
                      refine w_reg ?_
                      refine wl_mv (.tmp 0) (.string s) (fun _ => rfl) e0 rfl ?_
                      refine wl_mv (.tmp 6) (.int .i64 ((k : Nat) : Int)) (fun _ => rfl) e6 rfl ?_
                      refine wl_bin (fun x y => Instr.index 9 x y) (.tmp 77) (.tmp 78) (.string s) (.int .i64 ((k : Nat) : Int)) (.int .u8 (bt s (k))) (fun _ => rfl) rfl rfl (idx_b (by omega) _) rfl ?_
                      refine wl_call 32 [(.tmp 79)] _ [.int .u8 (bt s (k))] (.bool false) rfl rfl (fun _ _ => by kernel_rfl) (digit_c hf6 _) rfl ?_
                      intro w61 hq
                      replace M := M.trans hq
                      clear hq
                      refine wl_un (fun v => Op.unary .not v) (.tmp 80) (.bool false) (.bool true) (fun _ => rfl) rfl (by kernel_rfl) rfl ?_
                      refine w_nil ?_
                      refine xn_then ?_
                      refine w_condT rfl ?_
                      refine w_seq ?_
                      refine w_reg ?_
                      refine wl_mv (.const (.bool false)) (.bool false) (fun _ => rfl) rfl rfl ?_
                      refine w_nil ?_
                      refine xn_then ?_
                      refine w_ret ?_
                      refine xr_then ?_
                      refine xr_blk ?_
                      refine xr_then ?_
                      refine xr_then ?_
                      refine xr_blk ?_
                      refine xr_then ?_
                      have hr2 : re s (i + 1) = k := by rw [← hrk, re_end hf6]
                      have hkn : k ≠ s.size := by omega
                      have hfin : whl s = false := by rw [hW, hr2]; simp [hkn, hf0p, hf1, hf2p, hf3, hf4p]
                      exact w_ret1 _ (.bool false) rfl rfl ⟨by rw [hfin], M⟩
                  | false =>
                    have hf5p := of_decide_eq_false hf5
                    refine w_reg ?_
                    refine wl_mv (.tmp 6) (.int .i64 ((k : Nat) : Int)) (fun _ => rfl) e6 rfl ?_
                    refine wl_mv (.tmp 0) (.string s) (fun _ => rfl) e0 rfl ?_
                    refine wl_val (.int .i64 ((s.size : Nat) : Int)) (len_s _ _ s (by exact rfl) _ _ _ _ _ _) rfl ?_
                    refine wl_bin (fun x y => do eqGuard .lss 3 (.tmp 71) (.tmp 73) x y; binOp .lss 3 x y) (.tmp 71) (.tmp 73) (.int .i64 ((k : Nat) : Int)) (.int .i64 ((s.size : Nat) : Int)) (.bool false) (fun _ => rfl) rfl rfl (ltN hf5 _ _ _) rfl ?_
                    refine w_nil ?_
                    refine xn_then ?_
                    refine w_condF rfl ?_
                    refine w_exit ?_
                    refine xx_then ?_
                    refine xx_then ?_
                    have hnd2 : dgt (bt s k) = false := by rw [bt_out (by omega)]; rfl
                    have hr2 : re s (i + 1) = s.size := by rw [← hrk, re_end hnd2]; omega
                    rw [az_end hnd2, Bool.not_true, Bool.or_false] at hzk
                    refine xx_blk ?_
                    exact xn_cut ⟨o2, e0, e3, by rw [hW, hr2]; first | (simp [hf0p, hf1, hf2p, hf3, hf4p, ← hzk]; done) | (simp [hf0p, hf1, hf2p, hf3, hf4p, hf5p, ← hzk]; omega), by omega, M⟩
              | false =>
                refine w_reg ?_
                refine wl_mv (.tmp 0) (.string s) (fun _ => rfl) e0 rfl ?_
                refine wl_mv (.tmp 4) (.int .i64 ((i : Nat) : Int)) (fun _ => rfl) e4 rfl ?_
                refine wl_bin (fun x y => Instr.index 9 x y) (.tmp 58) (.tmp 59) (.string s) (.int .i64 ((i : Nat) : Int)) (.int .u8 (bt s (i))) (fun _ => rfl) rfl rfl (idx_b (by omega) _) rfl ?_
                refine wl_bin (fun x y => do eqGuard .neq 5 (.tmp 60) (.const (.int .u8 (46))) x y; binOp .neq 5 x y) (.tmp 60) (.const (.int .u8 (46))) (.int .u8 (bt s (i))) (.int .u8 (46)) (.bool true) (fun _ => rfl) rfl rfl (ne5r hf3 _ _ _) rfl ?_
                refine wl_mv (.tmp 61) (.bool true) (fun _ => rfl) rfl rfl ?_
                refine wl_skip rfl ?_
                refine wl_skip rfl ?_
                refine wl_skip rfl ?_
                refine wl_skip rfl ?_
                refine wl_skip rfl ?_
                refine wl_pick (.tmp 62) (.const (.bool true)) (.tmp 67) true (.bool true) (fun _ => rfl) rfl rfl rfl ?_
                refine w_nil ?_
                refine xn_then ?_
                refine w_condT rfl ?_
                refine w_seq ?_
                refine w_reg ?_
                refine wl_mv (.const (.bool false)) (.bool false) (fun _ => rfl) rfl rfl ?_
                refine w_nil ?_
                refine xn_then ?_
                refine w_ret ?_
                refine xr_then ?_
                refine xr_then ?_
                have hfin : whl s = false := by rw [hW]; first | (simp [hf0p, hf1, hf2p, hf3]; done) | (simp [hf0p, hf1, hf2p, hf3]; omega)
                exact w_ret1 _ (.bool false) rfl rfl ⟨by rw [hfin], M⟩
            | false =>
              have hf2p := of_decide_eq_false hf2
              refine w_reg ?_
              refine wl_mv (.tmp 4) (.int .i64 ((i : Nat) : Int)) (fun _ => rfl) e4 rfl ?_
              refine wl_mv (.tmp 0) (.string s) (fun _ => rfl) e0 rfl ?_
              refine wl_val (.int .i64 ((s.size : Nat) : Int)) (len_s _ _ s (by exact rfl) _ _ _ _ _ _) rfl ?_
              refine wl_bin (fun x y => do eqGuard .lss 3 (.tmp 54) (.tmp 56) x y; binOp .lss 3 x y) (.tmp 54) (.tmp 56) (.int .i64 ((i : Nat) : Int)) (.int .i64 ((s.size : Nat) : Int)) (.bool false) (fun _ => rfl) rfl rfl (ltN hf2 _ _ _) rfl ?_
              refine w_nil ?_
              refine xn_then ?_
              refine w_condF rfl ?_
              refine w_skip ?_
              exact xn_cut ⟨o, e0, e3, by rw [hW]; first | (simp [hf0p, hf1, hf2p]; done) | (simp [hf0p, hf1, hf2p]; omega), by omega, M⟩
    · skip
      refine w_block ?_
      refine w_loop (fun m l w1 => ∃ (i : Nat) (o : Bool), m = s.size - i ∧ look l 0 = .string s ∧ look l 3 = .bool o ∧ look l 4 = .int .i64 (i : Int) ∧ look l 5 = .int .i64 (p : Int) ∧ p ≤ i ∧ i ≤ s.size ∧ re s i = re s p ∧ (o || !az s i) = !az s p ∧ Mo w w1) _ ⟨p, false, rfl, e0, e3, e4, rfl, Nat.le_refl _, hps, rfl, rfl, M⟩ ?_
      clear M
      rintro m l wl ⟨i, o, rfl, e0, e3, e4, e5, hpi, his, hre, haz, M⟩
      cases o with
      | true =>
        refine w_seq ?_
        refine w_seq ?_
        cases hf0 : decide (i < s.size) with
        | true =>
          have hf0p := of_decide_eq_true hf0
          cases hf1 : dgt (bt s (i)) with
          | true =>
            refine w_reg ?_
            refine wl_mv (.tmp 4) (.int .i64 ((i : Nat) : Int)) (fun _ => rfl) e4 rfl ?_
            refine wl_mv (.tmp 0) (.string s) (fun _ => rfl) e0 rfl ?_
            refine wl_val (.int .i64 ((s.size : Nat) : Int)) (len_s _ _ s (by exact rfl) _ _ _ _ _ _) rfl ?_
            refine wl_bin (fun x y => do eqGuard .lss 3 (.tmp 20) (.tmp 22) x y; binOp .lss 3 x y) (.tmp 20) (.tmp 22) (.int .i64 ((i : Nat) : Int)) (.int .i64 ((s.size : Nat) : Int)) (.bool true) (fun _ => rfl) rfl rfl (ltN hf0 _ _ _) rfl ?_
            refine wl_mv (.tmp 23) (.bool true) (fun _ => rfl) rfl rfl ?_
            refine wl_mv (.tmp 0) (.string s) (fun _ => rfl) e0 rfl ?_
            refine wl_mv (.tmp 4) (.int .i64 ((i : Nat) : Int)) (fun _ => rfl) e4 rfl ?_
            refine wl_bin (fun x y => Instr.index 9 x y) (.tmp 25) (.tmp 26) (.string s) (.int .i64 ((i : Nat) : Int)) (.int .u8 (bt s (i))) (fun _ => rfl) rfl rfl (idx_b (by omega) _) rfl ?_
            refine wl_call 32 [(.tmp 27)] _ [.int .u8 (bt s (i))] (.bool true) rfl rfl (fun _ _ => by kernel_rfl) (digit_c hf1 _) rfl ?_
            intro w21 hq
            replace M := M.trans hq
            clear hq
            refine wl_pick (.tmp 24) (.tmp 28) (.const (.bool false)) true (.bool true) (fun _ => rfl) rfl rfl rfl ?_
            refine w_nil ?_
            refine xn_then ?_
            refine w_condT rfl ?_
            refine w_skip ?_
            refine xn_then ?_
            refine w_block ?_
            refine w_seq ?_
            refine w_reg ?_
            refine wl_mv (.tmp 3) (.bool true) (fun _ => rfl) e3 rfl ?_
            refine wl_mv (.tmp 30) (.bool true) (fun _ => rfl) rfl rfl ?_
            refine wl_skip rfl ?_
            refine wl_skip rfl ?_
            refine wl_skip rfl ?_
            refine wl_skip rfl ?_
            refine wl_pick (.tmp 31) (.const (.bool true)) (.tmp 35) true (.bool true) (fun _ => rfl) rfl rfl rfl ?_
            refine wl_mv (.tmp 36) (.bool true) (fun _ => rfl) rfl rfl ?_
            refine w_nil ?_
            refine xn_then ?_
            refine w_reg ?_
            refine wl_mv (.tmp 4) (.int .i64 ((i : Nat) : Int)) (fun _ => rfl) e4 rfl ?_
            refine wl_bin (fun x y => do eqGuard .add 3 (.tmp 37) (.const (.int .i64 (1))) x y; binOp .add 3 x y) (.tmp 37) (.const (.int .i64 (1))) (.int .i64 ((i : Nat) : Int)) (.int .i64 (1)) (.int .i64 ((i + 1 : Nat) : Int)) (fun _ => rfl) rfl rfl (add1r (k := i) (by omega) _ _ _) rfl ?_
            refine wl_mv (.tmp 38) (.int .i64 ((i + 1 : Nat) : Int)) (fun _ => rfl) rfl rfl ?_
            refine w_nil ?_
            refine xn_blk ?_
            exact xn_loop (s.size - (i + 1)) (by omega) ⟨i + 1, true, rfl, e0, rfl, rfl, e5, by omega, by omega, by rw [← hre, re_on hf1], by rw [← haz, az_on hf1]; simp, M⟩
          | false =>
            refine w_reg ?_
            refine wl_mv (.tmp 4) (.int .i64 ((i : Nat) : Int)) (fun _ => rfl) e4 rfl ?_
            refine wl_mv (.tmp 0) (.string s) (fun _ => rfl) e0 rfl ?_
            refine wl_val (.int .i64 ((s.size : Nat) : Int)) (len_s _ _ s (by exact rfl) _ _ _ _ _ _) rfl ?_
            refine wl_bin (fun x y => do eqGuard .lss 3 (.tmp 20) (.tmp 22) x y; binOp .lss 3 x y) (.tmp 20) (.tmp 22) (.int .i64 ((i : Nat) : Int)) (.int .i64 ((s.size : Nat) : Int)) (.bool true) (fun _ => rfl) rfl rfl (ltN hf0 _ _ _) rfl ?_
            refine wl_mv (.tmp 23) (.bool true) (fun _ => rfl) rfl rfl ?_
            refine wl_mv (.tmp 0) (.string s) (fun _ => rfl) e0 rfl ?_
            refine wl_mv (.tmp 4) (.int .i64 ((i : Nat) : Int)) (fun _ => rfl) e4 rfl ?_
            refine wl_bin (fun x y => Instr.index 9 x y) (.tmp 25) (.tmp 26) (.string s) (.int .i64 ((i : Nat) : Int)) (.int .u8 (bt s (i))) (fun _ => rfl) rfl rfl (idx_b (by omega) _) rfl ?_
            refine wl_call 32 [(.tmp 27)] _ [.int .u8 (bt s (i))] (.bool false) rfl rfl (fun _ _ => by kernel_rfl) (digit_c hf1 _) rfl ?_
            intro w21 hq
            replace M := M.trans hq
            clear hq
            refine wl_pick (.tmp 24) (.tmp 28) (.const (.bool false)) true (.bool false) (fun _ => rfl) rfl rfl rfl ?_
            refine w_nil ?_
            refine xn_then ?_
            refine w_condF rfl ?_
            refine w_exit ?_
            refine xx_then ?_
            refine xx_then ?_
            refine xx_blk ?_
            have hnd : dgt (bt s i) = false := hf1
            rw [re_end hnd] at hre
            rw [az_end hnd] at haz
            exact xn_cut ⟨i, true, e0, e3, e4, e5, hpi, his, hre.symm, by rw [← Bool.not_not (az s p), ← haz]; rfl, M⟩
        | false =>
          have hf0p := of_decide_eq_false hf0
          refine w_reg ?_
          refine wl_mv (.tmp 4) (.int .i64 ((i : Nat) : Int)) (fun _ => rfl) e4 rfl ?_
          refine wl_mv (.tmp 0) (.string s) (fun _ => rfl) e0 rfl ?_
          refine wl_val (.int .i64 ((s.size : Nat) : Int)) (len_s _ _ s (by exact rfl) _ _ _ _ _ _) rfl ?_
          refine wl_bin (fun x y => do eqGuard .lss 3 (.tmp 20) (.tmp 22) x y; binOp .lss 3 x y) (.tmp 20) (.tmp 22) (.int .i64 ((i : Nat) : Int)) (.int .i64 ((s.size : Nat) : Int)) (.bool false) (fun _ => rfl) rfl rfl (ltN hf0 _ _ _) rfl ?_
          refine wl_mv (.tmp 23) (.bool false) (fun _ => rfl) rfl rfl ?_
          refine wl_skip rfl ?_
          refine wl_skip rfl ?_
          refine wl_skip rfl ?_
          refine wl_skip rfl ?_
          refine wl_pick (.tmp 24) (.tmp 28) (.const (.bool false)) false (.bool false) (fun _ => rfl) rfl rfl rfl ?_
          refine w_nil ?_
          refine xn_then ?_
          refine w_condF rfl ?_
          refine w_exit ?_
          refine xx_then ?_
          refine xx_then ?_
          refine xx_blk ?_
          have hnd : dgt (bt s i) = false := by rw [bt_out (by omega)]; rfl
          rw [re_end hnd] at hre
          rw [az_end hnd] at haz
          exact xn_cut ⟨i, true, e0, e3, e4, e5, hpi, his, hre.symm, by rw [← Bool.not_not (az s p), ← haz]; rfl, M⟩
      | false =>
        refine w_seq ?_
        refine w_seq ?_
        cases hf0 : decide (i < s.size) with
        | true =>
          have hf0p := of_decide_eq_true hf0
          cases hf1 : dgt (bt s (i)) with
          | true =>
            refine w_reg ?_
            refine wl_mv (.tmp 4) (.int .i64 ((i : Nat) : Int)) (fun _ => rfl) e4 rfl ?_
            refine wl_mv (.tmp 0) (.string s) (fun _ => rfl) e0 rfl ?_
            refine wl_val (.int .i64 ((s.size : Nat) : Int)) (len_s _ _ s (by exact rfl) _ _ _ _ _ _) rfl ?_
            refine wl_bin (fun x y => do eqGuard .lss 3 (.tmp 20) (.tmp 22) x y; binOp .lss 3 x y) (.tmp 20) (.tmp 22) (.int .i64 ((i : Nat) : Int)) (.int .i64 ((s.size : Nat) : Int)) (.bool true) (fun _ => rfl) rfl rfl (ltN hf0 _ _ _) rfl ?_
            refine wl_mv (.tmp 23) (.bool true) (fun _ => rfl) rfl rfl ?_
            refine wl_mv (.tmp 0) (.string s) (fun _ => rfl) e0 rfl ?_
            refine wl_mv (.tmp 4) (.int .i64 ((i : Nat) : Int)) (fun _ => rfl) e4 rfl ?_
            refine wl_bin (fun x y => Instr.index 9 x y) (.tmp 25) (.tmp 26) (.string s) (.int .i64 ((i : Nat) : Int)) (.int .u8 (bt s (i))) (fun _ => rfl) rfl rfl (idx_b (by omega) _) rfl ?_
            refine wl_call 32 [(.tmp 27)] _ [.int .u8 (bt s (i))] (.bool true) rfl rfl (fun _ _ => by kernel_rfl) (digit_c hf1 _) rfl ?_
            intro w21 hq
            replace M := M.trans hq
            clear hq
            refine wl_pick (.tmp 24) (.tmp 28) (.const (.bool false)) true (.bool true) (fun _ => rfl) rfl rfl rfl ?_
            refine w_nil ?_
            refine xn_then ?_
            refine w_condT rfl ?_
            refine w_skip ?_
            refine xn_then ?_
            refine w_block ?_
            refine w_seq ?_
            cases hf2 : (bt s (i) == 48) with
            | true =>
              refine w_reg ?_
              refine wl_mv (.tmp 3) (.bool false) (fun _ => rfl) e3 rfl ?_
              refine wl_mv (.tmp 30) (.bool false) (fun _ => rfl) rfl rfl ?_
              refine wl_mv (.tmp 0) (.string s) (fun _ => rfl) e0 rfl ?_
              refine wl_mv (.tmp 4) (.int .i64 ((i : Nat) : Int)) (fun _ => rfl) e4 rfl ?_
              refine wl_bin (fun x y => Instr.index 9 x y) (.tmp 32) (.tmp 33) (.string s) (.int .i64 ((i : Nat) : Int)) (.int .u8 (bt s (i))) (fun _ => rfl) rfl rfl (idx_b (by omega) _) rfl ?_
              refine wl_bin (fun x y => do eqGuard .neq 5 (.tmp 34) (.const (.int .u8 (48))) x y; binOp .neq 5 x y) (.tmp 34) (.const (.int .u8 (48))) (.int .u8 (bt s (i))) (.int .u8 (48)) (.bool false) (fun _ => rfl) rfl rfl (ne5r hf2 _ _ _) rfl ?_
              refine wl_pick (.tmp 31) (.const (.bool true)) (.tmp 35) false (.bool false) (fun _ => rfl) rfl rfl rfl ?_
              refine wl_mv (.tmp 36) (.bool false) (fun _ => rfl) rfl rfl ?_
              refine w_nil ?_
              refine xn_then ?_
              refine w_reg ?_
              refine wl_mv (.tmp 4) (.int .i64 ((i : Nat) : Int)) (fun _ => rfl) e4 rfl ?_
              refine wl_bin (fun x y => do eqGuard .add 3 (.tmp 37) (.const (.int .i64 (1))) x y; binOp .add 3 x y) (.tmp 37) (.const (.int .i64 (1))) (.int .i64 ((i : Nat) : Int)) (.int .i64 (1)) (.int .i64 ((i + 1 : Nat) : Int)) (fun _ => rfl) rfl rfl (add1r (k := i) (by omega) _ _ _) rfl ?_
              refine wl_mv (.tmp 38) (.int .i64 ((i + 1 : Nat) : Int)) (fun _ => rfl) rfl rfl ?_
              refine w_nil ?_
              refine xn_blk ?_
              exact xn_loop (s.size - (i + 1)) (by omega) ⟨i + 1, false, rfl, e0, rfl, rfl, e5, by omega, by omega, by rw [← hre, re_on hf1], by rw [← haz, az_on hf1, hf2]; simp, M⟩
            | false =>
              refine w_reg ?_
              refine wl_mv (.tmp 3) (.bool false) (fun _ => rfl) e3 rfl ?_
              refine wl_mv (.tmp 30) (.bool false) (fun _ => rfl) rfl rfl ?_
              refine wl_mv (.tmp 0) (.string s) (fun _ => rfl) e0 rfl ?_
              refine wl_mv (.tmp 4) (.int .i64 ((i : Nat) : Int)) (fun _ => rfl) e4 rfl ?_
              refine wl_bin (fun x y => Instr.index 9 x y) (.tmp 32) (.tmp 33) (.string s) (.int .i64 ((i : Nat) : Int)) (.int .u8 (bt s (i))) (fun _ => rfl) rfl rfl (idx_b (by omega) _) rfl ?_
              refine wl_bin (fun x y => do eqGuard .neq 5 (.tmp 34) (.const (.int .u8 (48))) x y; binOp .neq 5 x y) (.tmp 34) (.const (.int .u8 (48))) (.int .u8 (bt s (i))) (.int .u8 (48)) (.bool true) (fun _ => rfl) rfl rfl (ne5r hf2 _ _ _) rfl ?_
              refine wl_pick (.tmp 31) (.const (.bool true)) (.tmp 35) false (.bool true) (fun _ => rfl) rfl rfl rfl ?_
              refine wl_mv (.tmp 36) (.bool true) (fun _ => rfl) rfl rfl ?_
              refine w_nil ?_
              refine xn_then ?_
              refine w_reg ?_
              refine wl_mv (.tmp 4) (.int .i64 ((i : Nat) : Int)) (fun _ => rfl) e4 rfl ?_
              refine wl_bin (fun x y => do eqGuard .add 3 (.tmp 37) (.const (.int .i64 (1))) x y; binOp .add 3 x y) (.tmp 37) (.const (.int .i64 (1))) (.int .i64 ((i : Nat) : Int)) (.int .i64 (1)) (.int .i64 ((i + 1 : Nat) : Int)) (fun _ => rfl) rfl rfl (add1r (k := i) (by omega) _ _ _) rfl ?_
              refine wl_mv (.tmp 38) (.int .i64 ((i + 1 : Nat) : Int)) (fun _ => rfl) rfl rfl ?_
              refine w_nil ?_
              refine xn_blk ?_
              exact xn_loop (s.size - (i + 1)) (by omega) ⟨i + 1, true, rfl, e0, rfl, rfl, e5, by omega, by omega, by rw [← hre, re_on hf1], by rw [← haz, az_on hf1, hf2]; simp, M⟩
          | false =>
            refine w_reg ?_
            refine wl_mv (.tmp 4) (.int .i64 ((i : Nat) : Int)) (fun _ => rfl) e4 rfl ?_
            refine wl_mv (.tmp 0) (.string s) (fun _ => rfl) e0 rfl ?_
            refine wl_val (.int .i64 ((s.size : Nat) : Int)) (len_s _ _ s (by exact rfl) _ _ _ _ _ _) rfl ?_
            refine wl_bin (fun x y => do eqGuard .lss 3 (.tmp 20) (.tmp 22) x y; binOp .lss 3 x y) (.tmp 20) (.tmp 22) (.int .i64 ((i : Nat) : Int)) (.int .i64 ((s.size : Nat) : Int)) (.bool true) (fun _ => rfl) rfl rfl (ltN hf0 _ _ _) rfl ?_
            refine wl_mv (.tmp 23) (.bool true) (fun _ => rfl) rfl rfl ?_
            refine wl_mv (.tmp 0) (.string s) (fun _ => rfl) e0 rfl ?_
            refine wl_mv (.tmp 4) (.int .i64 ((i : Nat) : Int)) (fun _ => rfl) e4 rfl ?_
            refine wl_bin (fun x y => Instr.index 9 x y) (.tmp 25) (.tmp 26) (.string s) (.int .i64 ((i : Nat) : Int)) (.int .u8 (bt s (i))) (fun _ => rfl) rfl rfl (idx_b (by omega) _) rfl ?_
            refine wl_call 32 [(.tmp 27)] _ [.int .u8 (bt s (i))] (.bool false) rfl rfl (fun _ _ => by kernel_rfl) (digit_c hf1 _) rfl ?_
            intro w21 hq
            replace M := M.trans hq
            clear hq
            refine wl_pick (.tmp 24) (.tmp 28) (.const (.bool false)) true (.bool false) (fun _ => rfl) rfl rfl rfl ?_
            refine w_nil ?_
            refine xn_then ?_
            refine w_condF rfl ?_
            refine w_exit ?_
            refine xx_then ?_
            refine xx_then ?_
            refine xx_blk ?_
            have hnd : dgt (bt s i) = false := hf1
            rw [re_end hnd] at hre
            rw [az_end hnd] at haz
            exact xn_cut ⟨i, false, e0, e3, e4, e5, hpi, his, hre.symm, by rw [← Bool.not_not (az s p), ← haz]; rfl, M⟩
        | false =>
          have hf0p := of_decide_eq_false hf0
          refine w_reg ?_
          refine wl_mv (.tmp 4) (.int .i64 ((i : Nat) : Int)) (fun _ => rfl) e4 rfl ?_
          refine wl_mv (.tmp 0) (.string s) (fun _ => rfl) e0 rfl ?_
          refine wl_val (.int .i64 ((s.size : Nat) : Int)) (len_s _ _ s (by exact rfl) _ _ _ _ _ _) rfl ?_
          refine wl_bin (fun x y => do eqGuard .lss 3 (.tmp 20) (.tmp 22) x y; binOp .lss 3 x y) (.tmp 20) (.tmp 22) (.int .i64 ((i : Nat) : Int)) (.int .i64 ((s.size : Nat) : Int)) (.bool false) (fun _ => rfl) rfl rfl (ltN hf0 _ _ _) rfl ?_
          refine wl_mv (.tmp 23) (.bool false) (fun _ => rfl) rfl rfl ?_
          refine wl_skip rfl ?_
          refine wl_skip rfl ?_
          refine wl_skip rfl ?_
          refine wl_skip rfl ?_
          refine wl_pick (.tmp 24) (.tmp 28) (.const (.bool false)) false (.bool false) (fun _ => rfl) rfl rfl rfl ?_
          refine w_nil ?_
          refine xn_then ?_
          refine w_condF rfl ?_
          refine w_exit ?_
          refine xx_then ?_
          refine xx_then ?_
          refine xx_blk ?_
          have hnd : dgt (bt s i) = false := by rw [bt_out (by omega)]; rfl
          rw [re_end hnd] at hre
          rw [az_end hnd] at haz
          exact xn_cut ⟨i, false, e0, e3, e4, e5, hpi, his, hre.symm, by rw [← Bool.not_not (az s p), ← haz]; rfl, M⟩
  · skip
    refine w_seq ?_
    cases hf0 : decide (0 < s.size) with
    | true =>
      have hf0p := of_decide_eq_true hf0
      cases hf1 : (bt s (0) == 45) with
      | true =>
        refine w_reg ?_
        refine wl_mv (.tmp 4) (.int .i64 (0)) (fun _ => rfl) rfl rfl ?_
        refine wl_mv (.tmp 0) (.string s) (fun _ => rfl) rfl rfl ?_
        refine wl_val (.int .i64 ((s.size : Nat) : Int)) (len_s _ _ s (by exact rfl) _ _ _ _ _ _) rfl ?_
        refine wl_bin (fun x y => do eqGuard .lss 3 (.tmp 7) (.tmp 9) x y; binOp .lss 3 x y) (.tmp 7) (.tmp 9) (.int .i64 (0)) (.int .i64 ((s.size : Nat) : Int)) (.bool true) (fun _ => rfl) rfl rfl (ltN hf0 _ _ _) rfl ?_
        refine wl_mv (.tmp 10) (.bool true) (fun _ => rfl) rfl rfl ?_
        refine wl_mv (.tmp 0) (.string s) (fun _ => rfl) rfl rfl ?_
        refine wl_mv (.tmp 4) (.int .i64 (0)) (fun _ => rfl) rfl rfl ?_
        refine wl_bin (fun x y => Instr.index 9 x y) (.tmp 12) (.tmp 13) (.string s) (.int .i64 (0)) (.int .u8 (bt s (0))) (fun _ => rfl) rfl rfl (idx_b (by omega) _) rfl ?_
        refine wl_bin (fun x y => do eqGuard .eql 5 (.tmp 14) (.const (.int .u8 (45))) x y; binOp .eql 5 x y) (.tmp 14) (.const (.int .u8 (45))) (.int .u8 (bt s (0))) (.int .u8 (45)) (.bool true) (fun _ => rfl) rfl rfl (eq5r hf1 _ _ _) rfl ?_
        refine wl_pick (.tmp 11) (.tmp 15) (.const (.bool false)) true (.bool true) (fun _ => rfl) rfl rfl rfl ?_
        refine w_nil ?_
        refine xn_then ?_
        refine w_condT rfl ?_
        refine w_reg ?_
        refine wl_mv (.tmp 4) (.int .i64 (0)) (fun _ => rfl) rfl rfl ?_
        refine wl_bin (fun x y => do eqGuard .add 3 (.tmp 17) (.const (.int .i64 (1))) x y; binOp .add 3 x y) (.tmp 17) (.const (.int .i64 (1))) (.int .i64 (0)) (.int .i64 (1)) (.int .i64 ((0 + 1 : Nat) : Int)) (fun _ => rfl) rfl rfl (add1r (k := 0) (by decide) _ _ _) rfl ?_
        refine wl_mv (.tmp 18) (.int .i64 ((0 + 1 : Nat) : Int)) (fun _ => rfl) rfl rfl ?_
        refine w_nil ?_
        exact xn_cut ⟨1, true, rfl, rfl, rfl, by omega, by omega, by unfold whl; rw [hf1]; rfl, rfl, M⟩
      | false =>
        refine w_reg ?_
        refine wl_mv (.tmp 4) (.int .i64 (0)) (fun _ => rfl) rfl rfl ?_
        refine wl_mv (.tmp 0) (.string s) (fun _ => rfl) rfl rfl ?_
        refine wl_val (.int .i64 ((s.size : Nat) : Int)) (len_s _ _ s (by exact rfl) _ _ _ _ _ _) rfl ?_
        refine wl_bin (fun x y => do eqGuard .lss 3 (.tmp 7) (.tmp 9) x y; binOp .lss 3 x y) (.tmp 7) (.tmp 9) (.int .i64 (0)) (.int .i64 ((s.size : Nat) : Int)) (.bool true) (fun _ => rfl) rfl rfl (ltN hf0 _ _ _) rfl ?_
        refine wl_mv (.tmp 10) (.bool true) (fun _ => rfl) rfl rfl ?_
        refine wl_mv (.tmp 0) (.string s) (fun _ => rfl) rfl rfl ?_
        refine wl_mv (.tmp 4) (.int .i64 (0)) (fun _ => rfl) rfl rfl ?_
        refine wl_bin (fun x y => Instr.index 9 x y) (.tmp 12) (.tmp 13) (.string s) (.int .i64 (0)) (.int .u8 (bt s (0))) (fun _ => rfl) rfl rfl (idx_b (by omega) _) rfl ?_
        refine wl_bin (fun x y => do eqGuard .eql 5 (.tmp 14) (.const (.int .u8 (45))) x y; binOp .eql 5 x y) (.tmp 14) (.const (.int .u8 (45))) (.int .u8 (bt s (0))) (.int .u8 (45)) (.bool false) (fun _ => rfl) rfl rfl (eq5r hf1 _ _ _) rfl ?_
        refine wl_pick (.tmp 11) (.tmp 15) (.const (.bool false)) true (.bool false) (fun _ => rfl) rfl rfl rfl ?_
        refine w_nil ?_
        refine xn_then ?_
        refine w_condF rfl ?_
        refine w_skip ?_
        exact xn_cut ⟨0, false, rfl, rfl, rfl, by omega, by omega, by unfold whl; rw [hf1]; rfl, rfl, M⟩
    | false =>
      have hf0p := of_decide_eq_false hf0
      refine w_reg ?_
      refine wl_mv (.tmp 4) (.int .i64 (0)) (fun _ => rfl) rfl rfl ?_
      refine wl_mv (.tmp 0) (.string s) (fun _ => rfl) rfl rfl ?_
      refine wl_val (.int .i64 ((s.size : Nat) : Int)) (len_s _ _ s (by exact rfl) _ _ _ _ _ _) rfl ?_
      refine wl_bin (fun x y => do eqGuard .lss 3 (.tmp 7) (.tmp 9) x y; binOp .lss 3 x y) (.tmp 7) (.tmp 9) (.int .i64 (0)) (.int .i64 ((s.size : Nat) : Int)) (.bool false) (fun _ => rfl) rfl rfl (ltN hf0 _ _ _) rfl ?_
      refine wl_mv (.tmp 10) (.bool false) (fun _ => rfl) rfl rfl ?_
      refine wl_skip rfl ?_
      refine wl_skip rfl ?_
      refine wl_skip rfl ?_
      refine wl_skip rfl ?_
      refine wl_pick (.tmp 11) (.tmp 15) (.const (.bool false)) false (.bool false) (fun _ => rfl) rfl rfl rfl ?_
      refine w_nil ?_
      refine xn_then ?_
      refine w_condF rfl ?_
      refine w_skip ?_
      have hb0 : (bt s 0 == 45) = false := by rw [bt_out (by omega)]; rfl
      exact xn_cut ⟨0, false, rfl, rfl, rfl, by omega, by omega, by unfold whl; rw [hb0]; rfl, hb0.symm, M⟩
end Go.Proofs.YtdcojpbgijkmgaaDoor
/-
  The document's small quotient: by ten.
-/
namespace Go.Proofs.YtdcojpbgijkmgaaDoor
open Go.RowKit
theorem shlA (a : Int) (x y : Operand) (w : World) : (do eqGuard .shl 22 x y (.int .u64 a) (.int .u64 32); binOp .shl 22 (.int .u64 a) (.int .u64 32)).run Tryd.prog w = .ok (.int .u64 (IntKind.u64.wrap (a * 2 ^ 32))) w := by kernel_rfl
theorem shlB (a : Int) (x y : Operand) (w : World) : (do eqGuard .shl 22 x y (.int .u64 a) (.int .i64 32); binOp .shl 22 (.int .u64 a) (.int .i64 32)).run Tryd.prog w = .ok (.int .u64 (IntKind.u64.wrap (a * 2 ^ 32))) w := by kernel_rfl
theorem shlC (a : Int) (x y : Operand) (w : World) : (do eqGuard .shl 22 x y (.int .u64 a) (.int .i64 0); binOp .shl 22 (.int .u64 a) (.int .i64 0)).run Tryd.prog w = .ok (.int .u64 (IntKind.u64.wrap (a * 2 ^ 0))) w := by kernel_rfl
theorem quoA (a : Int) (x y : Operand) (w : World) : (do eqGuard .quo 22 x y (.int .u64 a) (.int .u64 10); binOp .quo 22 (.int .u64 a) (.int .u64 10)).run Tryd.prog w = .ok (.int .u64 (IntKind.u64.wrap (a.tdiv 10))) w := by kernel_rfl
theorem quo3 (x y : Operand) (w : World) : (do eqGuard .quo 3 x y (.int .i64 7) (.int .i64 2); binOp .quo 3 (.int .i64 7) (.int .i64 2)).run Tryd.prog w = .ok (.int .i64 3) w := by kernel_rfl
theorem addU (a b : Int) (x y : Operand) (w : World) : (do eqGuard .add 22 x y (.int .u64 a) (.int .u64 b); binOp .add 22 (.int .u64 a) (.int .u64 b)).run Tryd.prog w = .ok (.int .u64 (IntKind.u64.wrap (a + b))) w := by kernel_rfl
theorem remA (a : Int) (x y : Operand) (w : World) : (do eqGuard .rem 22 x y (.int .u64 a) (.int .u64 10); binOp .rem 22 (.int .u64 a) (.int .u64 10)).run Tryd.prog w = .ok (.int .u64 (a.tmod 10)) w := by kernel_rfl
theorem cvA (a : Int) (w : World) : (convert 22 5 (.int .u64 a)).run Tryd.prog w = .ok (.int .u8 (IntKind.u8.wrap a)) w := by kernel_rfl
theorem shlu_run {a c : Int} (h : a * 4294967296 = c) (h0 : 0 ≤ c) (h1 : c < 18446744073709551616) (x y : Operand) (w : World) : (do eqGuard .shl 22 x y (.int .u64 a) (.int .u64 32); binOp .shl 22 (.int .u64 a) (.int .u64 32)).run Tryd.prog w = .ok (.int .u64 c) w := by
  have e : IntKind.u64.wrap (a * 2 ^ 32) = c := by rw [IntKind.wrap_u64]; omega
  rw [shlA, e]
theorem shli_run {a c : Int} (h : a * 4294967296 = c) (h0 : 0 ≤ c) (h1 : c < 18446744073709551616) (x y : Operand) (w : World) : (do eqGuard .shl 22 x y (.int .u64 a) (.int .i64 32); binOp .shl 22 (.int .u64 a) (.int .i64 32)).run Tryd.prog w = .ok (.int .u64 c) w := by
  have e : IntKind.u64.wrap (a * 2 ^ 32) = c := by rw [IntKind.wrap_u64]; omega
  rw [shlB, e]
theorem shl0_run {a : Int} (h0 : 0 ≤ a) (h1 : a < 18446744073709551616) (x y : Operand) (w : World) : (do eqGuard .shl 22 x y (.int .u64 a) (.int .i64 0); binOp .shl 22 (.int .u64 a) (.int .i64 0)).run Tryd.prog w = .ok (.int .u64 a) w := by
  have e : IntKind.u64.wrap (a * 2 ^ 0) = a := by rw [IntKind.wrap_u64]; omega
  rw [shlC, e]
theorem quou_run {a c : Int} (h : a / 10 = c) (h0 : 0 ≤ a) (h1 : a < 18446744073709551616) (x y : Operand) (w : World) : (do eqGuard .quo 22 x y (.int .u64 a) (.int .u64 10); binOp .quo 22 (.int .u64 a) (.int .u64 10)).run Tryd.prog w = .ok (.int .u64 c) w := by
  have e : IntKind.u64.wrap (a.tdiv 10) = c := by rw [IntKind.wrap_u64, Int.tdiv_eq_ediv_of_nonneg h0]; omega
  rw [quoA, e]
theorem remu_run {a c : Int} (h : a % 10 = c) (h0 : 0 ≤ a) (x y : Operand) (w : World) : (do eqGuard .rem 22 x y (.int .u64 a) (.int .u64 10); binOp .rem 22 (.int .u64 a) (.int .u64 10)).run Tryd.prog w = .ok (.int .u64 c) w := by
  have e : a.tmod 10 = c := by rw [Int.tmod_eq_emod_of_nonneg h0]; exact h
  rw [remA, e]
theorem addu_run {a b c : Int} (h : a + b = c) (h0 : 0 ≤ c) (h1 : c < 18446744073709551616) (x y : Operand) (w : World) : (do eqGuard .add 22 x y (.int .u64 a) (.int .u64 b); binOp .add 22 (.int .u64 a) (.int .u64 b)).run Tryd.prog w = .ok (.int .u64 c) w := by
  have e : IntKind.u64.wrap (a + b) = c := by rw [IntKind.wrap_u64]; omega
  rw [addU, e]
theorem sz22b : (Tryd.prog.info? 22).map (·.size) = some 1 := by kernel_rfl
/-- The quotient's cells, ahead of the round of the digit m - 1. -/
def qc (y : Nat → Int) : Nat → List Value
  | 0 => [.int .u64 (y 1 * 4294967296 + y 0), .int .u64 (y 3 * 4294967296 + y 2), .int .u64 (y 5 * 4294967296 + y 4), .int .u64 (y 7 * 4294967296 + y 6)]
  | 1 => [.int .u64 (y 1 * 4294967296), .int .u64 (y 3 * 4294967296 + y 2), .int .u64 (y 5 * 4294967296 + y 4), .int .u64 (y 7 * 4294967296 + y 6)]
  | 2 => [.int .u64 0, .int .u64 (y 3 * 4294967296 + y 2), .int .u64 (y 5 * 4294967296 + y 4), .int .u64 (y 7 * 4294967296 + y 6)]
  | 3 => [.int .u64 0, .int .u64 (y 3 * 4294967296), .int .u64 (y 5 * 4294967296 + y 4), .int .u64 (y 7 * 4294967296 + y 6)]
  | 4 => [.int .u64 0, .int .u64 0, .int .u64 (y 5 * 4294967296 + y 4), .int .u64 (y 7 * 4294967296 + y 6)]
  | 5 => [.int .u64 0, .int .u64 0, .int .u64 (y 5 * 4294967296), .int .u64 (y 7 * 4294967296 + y 6)]
  | 6 => [.int .u64 0, .int .u64 0, .int .u64 0, .int .u64 (y 7 * 4294967296 + y 6)]
  | 7 => [.int .u64 0, .int .u64 0, .int .u64 0, .int .u64 (y 7 * 4294967296)]
  | _ => [.int .u64 0, .int .u64 0, .int .u64 0, .int .u64 0]
theorem small_w (n : Int) (x y r : Nat → Int) (w : World) (hr8 : r 8 = 0) (hxy : ∀ i, i < 8 → r (i + 1) * 4294967296 + dg n i = x i ∧ x i / 10 = y i ∧ x i % 10 = r i)
    (rb : ∀ i, i ≤ 8 → 0 ≤ r i ∧ r i < 10) (yb : ∀ i, i < 8 → 0 ≤ y i ∧ y i < 4294967296) :
    Calls Tryd.prog 47 #[nv n, .int .u64 10] w fun e w' => e = .returned (.tuple #[.agg (qc y 0).toArray, .int .u64 (r 0)]) ∧ Mo w w' := by
  refine w_enter 38 Tryd.func47 Tryd.ntmps47 rfl rfl ?_
  have M : Mo w w := Mo.refl _
  refine w_seq ?_
  refine w_reg ?_
  refine wl_box 24 (.tmp 0) (nv (n)) ((nvar (n))) rfl rfl (fun _ => by kernel_rfl) rfl ?_
  intro k1 w1 hk hz hq Q1
  have N_k1 : w.heap.size ≤ k1 := by have := M.size; omega
  replace M := M.trans hq
  clear hk hz hq
  refine wl_alloc 24 #[.int .u64 0, .int .u64 0, .int .u64 0, .int .u64 0] rfl (fun _ => by kernel_rfl) rfl ?_
  intro k2 w2 hk hz hq Q2
  have ne_k1_k2 : k1 ≠ k2 := by have := Q1.lt; omega
  have N_k2 : w.heap.size ≤ k2 := by have := M.size; omega
  replace Q1 := Q1.mo hq
  replace M := M.trans hq
  clear hk hz hq
  refine wl_mv (.const (.int .u64 (0))) (.int .u64 (0)) (fun _ => rfl) rfl rfl ?_
  refine w_nil ?_
  refine xn_then ?_
  refine w_seq ?_
  refine w_reg ?_
  refine wl_alloc 24 #[.int .u64 0, .int .u64 0, .int .u64 0, .int .u64 0] rfl (fun _ => by kernel_rfl) rfl ?_
  intro k3 w3 hk hz hq Q3
  have ne_k1_k3 : k1 ≠ k3 := by have := Q1.lt; omega
  have ne_k2_k3 : k2 ≠ k3 := by have := Q2.lt; omega
  have N_k3 : w.heap.size ≤ k3 := by have := M.size; omega
  replace Q1 := Q1.mo hq
  replace Q2 := Q2.mo hq
  replace M := M.trans hq
  clear hk hz hq
  refine w_nil ?_
  refine xn_then ?_
  refine w_seq ?_
  refine w_reg ?_
  refine wl_mv (.const (.int .u64 (0))) (.int .u64 (0)) (fun _ => rfl) rfl rfl ?_
  refine w_nil ?_
  refine xn_then ?_
  refine w_seq ?_
  refine w_seq ?_
  refine w_reg ?_
  refine wl_mv (.const (.int .i64 (7))) (.int .i64 (7)) (fun _ => rfl) rfl rfl ?_
  refine w_nil ?_
  refine xn_then ?_
  refine w_block ?_
  refine w_loop (fun m l w1 => m ≤ 8 ∧ look l 8 = .int .i64 ((m : Int) - 1) ∧ look l 7 = .int .u64 (r m) ∧ look l 1 = .int .u64 10 ∧ look l 2 = pt k1 0 ∧ look l 4 = pt k2 0 ∧ look l 6 = pt k3 0 ∧ At w1 k1 (nvli n) ∧ At w1 k2 [.int .u64 0, .int .u64 0, .int .u64 0, .int .u64 0] ∧ At w1 k3 (qc y m) ∧ Mo w w1) 8 ⟨by decide, rfl, by rw [hr8]; rfl, rfl, rfl, rfl, rfl, Q1, Q2, Q3, M⟩ ?_
  clear M Q1 Q2 Q3
  rintro m l wl ⟨hm, e8, e7, e1, e2, e4, e6, Q1, Q2, Q3, M⟩
  rcases m with _ | _ | _ | _ | _ | _ | _ | _ | _ | m
  · replace e8 : look l 8 = .int .i64 (-1) := by rw [e8]; rfl
    refine w_seq ?_
    refine w_seq ?_
    refine w_reg ?_
    refine wl_mv (.tmp 8) (.int .i64 (-1)) (fun _ => rfl) e8 rfl ?_
    refine wl_bin (fun x y => do eqGuard .geq 3 (.tmp 10) (.const (.int .i64 (0))) x y; binOp .geq 3 x y) (.tmp 10) (.const (.int .i64 (0))) (.int .i64 (-1)) (.int .i64 (0)) (.bool false) (fun _ => rfl) rfl rfl (by kernel_rfl) rfl ?_
    refine w_nil ?_
    refine xn_then ?_
    refine w_condF rfl ?_
    refine w_exit ?_
    refine xx_then ?_
    refine xx_then ?_
    refine xx_blk ?_
    refine xn_then ?_
    refine w_seq ?_
    refine w_reg ?_
    refine wl_load 24 (.tmp 6) (pt k3 0) (.agg #[.int .u64 (y 1 * 4294967296 + y 0), .int .u64 (y 3 * 4294967296 + y 2), .int .u64 (y 5 * 4294967296 + y 4), .int .u64 (y 7 * 4294967296 + y 6)]) rfl e6 (run_row Q3 24 0 4 [.int .u64 (y 1 * 4294967296 + y 0), .int .u64 (y 3 * 4294967296 + y 2), .int .u64 (y 5 * 4294967296 + y 4), .int .u64 (y 7 * 4294967296 + y 6)] rfl Tryd.underlying24 rfl sz24) rfl ?_
    refine wl_mv (.tmp 7) (.int .u64 (r 0)) (fun _ => rfl) e7 rfl ?_
    refine wl_st 24 (.tmp 4) (.tmp 36) k2 0 #[.int .u64 (y 1 * 4294967296 + y 0), .int .u64 (y 3 * 4294967296 + y 2), .int .u64 (y 5 * 4294967296 + y 4), .int .u64 (y 7 * 4294967296 + y 6)] [.int .u64 0, .int .u64 0, .int .u64 0, .int .u64 0] [.int .u64 (y 1 * 4294967296 + y 0), .int .u64 (y 3 * 4294967296 + y 2), .int .u64 (y 5 * 4294967296 + y 4), .int .u64 (y 7 * 4294967296 + y 6)] Q2 rfl rfl e4 rfl rfl sz24 rfl rfl rfl ?_
    intro w21 hS Qn
    replace Q2 := Qn
    clear Qn
    replace Q1 := hS.other _ _ ne_k1_k2 Q1
    replace Q3 := hS.other _ _ ne_k2_k3.symm Q3
    replace M := hS.mo _ N_k2 M
    clear hS
    refine wl_mv (.tmp 37) (.int .u64 (r 0)) (fun _ => rfl) rfl rfl ?_
    refine w_nil ?_
    refine xn_then ?_
    refine w_ret ?_
    exact w_ret2 _ _ (.agg #[.int .u64 (y 1 * 4294967296 + y 0), .int .u64 (y 3 * 4294967296 + y 2), .int .u64 (y 5 * 4294967296 + y 4), .int .u64 (y 7 * 4294967296 + y 6)]) (.int .u64 (r 0)) rfl ⟨k2, e4, (run_row Q2 24 0 4 [.int .u64 (y 1 * 4294967296 + y 0), .int .u64 (y 3 * 4294967296 + y 2), .int .u64 (y 5 * 4294967296 + y 4), .int .u64 (y 7 * 4294967296 + y 6)] rfl Tryd.underlying24 rfl sz24)⟩ rfl ⟨rfl, M⟩
  · obtain ⟨hx, hy, hr⟩ := hxy 0 (by decide)
    have hd := dg_bd n 0
    have hb := rb 0 (by decide)
    have hb1 := rb 1 (by decide)
    have hy1 := yb 1 (by decide)
    have hy2 := yb 2 (by decide)
    have hy3 := yb 3 (by decide)
    have hy4 := yb 4 (by decide)
    have hy5 := yb 5 (by decide)
    have hy6 := yb 6 (by decide)
    have hy7 := yb 7 (by decide)
    have hyi := yb 0 (by decide)
    refine w_seq ?_
    refine w_seq ?_
    refine w_reg ?_
    refine wl_mv (.tmp 8) (.int .i64 (0)) (fun _ => rfl) e8 rfl ?_
    refine wl_bin (fun x y => do eqGuard .geq 3 (.tmp 10) (.const (.int .i64 (0))) x y; binOp .geq 3 x y) (.tmp 10) (.const (.int .i64 (0))) (.int .i64 (0)) (.int .i64 (0)) (.bool true) (fun _ => rfl) rfl rfl (by kernel_rfl) rfl ?_
    refine w_nil ?_
    refine xn_then ?_
    refine w_condT rfl ?_
    refine w_skip ?_
    refine xn_then ?_
    refine w_seq ?_
    refine w_block ?_
    refine w_seq ?_
    refine w_reg ?_
    refine wl_mv (.tmp 7) (.int .u64 (r 1)) (fun _ => rfl) e7 rfl ?_
    refine wl_bin (fun x y => do eqGuard .shl 22 (.tmp 14) (.const (.int .u64 (32))) x y; binOp .shl 22 x y) (.tmp 14) (.const (.int .u64 (32))) (.int .u64 (r 1)) (.int .u64 (32)) (.int .u64 (r 1 * 4294967296)) (fun _ => rfl) rfl rfl (shlu_run rfl (by omega) (by omega) _ _ _) rfl ?_
    refine wl_load 24 (.tmp 2) (pt k1 0) (nv (n)) rfl e2 (run_row Q1 24 0 4 (nvli (n)) rfl Tryd.underlying24 rfl sz24) rfl ?_
    refine wl_mv (.tmp 8) (.int .i64 (0)) (fun _ => rfl) e8 rfl ?_
    refine wl_call 59 [(.tmp 16), (.tmp 17)] _ [nv (n), .int .i64 (0)] (.int .u64 (dg n 0)) rfl rfl (fun _ _ => by kernel_rfl) (half_any n 0 _ (by decide)) rfl ?_
    intro w21 hq
    replace Q1 := Q1.mo hq
    replace Q2 := Q2.mo hq
    replace Q3 := Q3.mo hq
    replace M := M.trans hq
    clear hq
    refine wl_bin (fun x y => do eqGuard .add 22 (.tmp 15) (.tmp 18) x y; binOp .add 22 x y) (.tmp 15) (.tmp 18) (.int .u64 (r 1 * 4294967296)) (.int .u64 (dg n 0)) (.int .u64 (x 0)) (fun _ => rfl) rfl rfl (addu_run hx (by omega) (by omega) _ _ _) rfl ?_
    refine wl_mv (.tmp 19) (.int .u64 (x 0)) (fun _ => rfl) rfl rfl ?_
    refine w_nil ?_
    refine xn_then ?_
    refine w_seq ?_
    refine w_any 13 [.inl (.int .i64 (0)), .inl (.int .i64 (0)), .inl (pt k3 0), .inl (.int .u64 (y 1 * 4294967296)), .inl (.int .u64 (x 0)), .inl (.int .u64 10), .inl (.int .u64 (y 0)), .inl (.int .i64 (0)), .inl (.int .i64 (0)), .inl (.int .i64 (0)), .inl (.int .u64 (y 0)), .inl (.int .u64 (y 1 * 4294967296 + y 0)), .inl (pt k3 0)] [] (by kernel_rfl) (by kernel_rfl) (by kernel_rfl) (by kernel_rfl) rfl (by kernel_rfl) (by kernel_rfl) late_nil ?_ ?_ ?_
    · exact Ds.none rfl
    · refine ea_cons ?_ (ea_cons ?_ (ea_cons ?_ (ea_cons ?_ (ea_cons ?_ (ea_cons ?_ (ea_cons ?_ (ea_cons ?_ (ea_cons ?_ (ea_cons ?_ (ea_cons ?_ (ea_cons ?_ (ea_cons ?_ (ea_nil)))))))))))))
      · exact og_eq (.int .i64 (0)) rfl (fun f wf hq hd K hK => go_run rfl (wo_mv (.tmp 8) (.int .i64 (0)) (fun _ => rfl) e8 (hK _ (Mo.refl _))))
      · exact og_eq (.int .i64 (0)) rfl (fun f wf hq hd K hK => go_run rfl (wo_bin (fun x y => do eqGuard .quo 3 (.tmp 20) (.const (.int .i64 (2))) x y; binOp .quo 3 x y) (.tmp 20) (.const (.int .i64 (2))) (.int .i64 (0)) (.int .i64 (2)) (.int .i64 (0)) (fun _ => rfl) (hd 0 rfl) rfl (by kernel_rfl) (hK _ (Mo.refl _))))
      · exact og_eq (pt k3 0) rfl (fun f wf hq hd K hK => go_run rfl (wo_bin (fun x y => Instr.indexAt 24 x y) (.tmp 6) (.tmp 21) (pt k3 0) (.int .i64 (0)) (pt k3 0) (fun _ => rfl) e6 (hd 1 rfl) (by kernel_rfl) (hK _ (Mo.refl _))))
      · exact og_eq (.int .u64 (y 1 * 4294967296)) rfl (fun f wf hq hd K hK => have Q3 := Q3.mo hq; go_run rfl (wo_load 22 (.tmp 22) (pt k3 0) (.int .u64 (y 1 * 4294967296)) rfl (hd 2 rfl) (run_one Q3 22 0 rfl Tryd.underlying22 rfl) (hK _ (Mo.refl _))))
      · exact og_eq (.int .u64 (x 0)) rfl (fun f wf hq hd K hK => go_run rfl (wo_mv (.tmp 9) (.int .u64 (x 0)) (fun _ => rfl) rfl (hK _ (Mo.refl _))))
      · exact og_eq (.int .u64 10) rfl (fun f wf hq hd K hK => go_run rfl (wo_mv (.tmp 1) (.int .u64 10) (fun _ => rfl) e1 (hK _ (Mo.refl _))))
      · exact og_eq (.int .u64 (y 0)) rfl (fun f wf hq hd K hK => go_run rfl (wo_bin (fun x y => do eqGuard .quo 22 (.tmp 24) (.tmp 25) x y; binOp .quo 22 x y) (.tmp 24) (.tmp 25) (.int .u64 (x 0)) (.int .u64 10) (.int .u64 (y 0)) (fun _ => rfl) (hd 4 rfl) (hd 5 rfl) (quou_run hy (by omega) (by omega) _ _ _) (hK _ (Mo.refl _))))
      · exact og_eq (.int .i64 (0)) rfl (fun f wf hq hd K hK => go_run rfl (wo_mv (.tmp 8) (.int .i64 (0)) (fun _ => rfl) e8 (hK _ (Mo.refl _))))
      · exact og_eq (.int .i64 (0)) rfl (fun f wf hq hd K hK => go_run rfl (wo_bin (fun x y => do eqGuard .rem 3 (.tmp 27) (.const (.int .i64 (2))) x y; binOp .rem 3 x y) (.tmp 27) (.const (.int .i64 (2))) (.int .i64 (0)) (.int .i64 (2)) (.int .i64 (0)) (fun _ => rfl) (hd 7 rfl) rfl (by kernel_rfl) (hK _ (Mo.refl _))))
      · exact og_eq (.int .i64 (0)) rfl (fun f wf hq hd K hK => go_run rfl (wo_bin (fun x y => do eqGuard .mul 3 (.tmp 28) (.const (.int .i64 (32))) x y; binOp .mul 3 x y) (.tmp 28) (.const (.int .i64 (32))) (.int .i64 (0)) (.int .i64 (32)) (.int .i64 (0)) (fun _ => rfl) (hd 8 rfl) rfl (by kernel_rfl) (hK _ (Mo.refl _))))
      · exact og_eq (.int .u64 (y 0)) rfl (fun f wf hq hd K hK => go_run rfl (wo_bin (fun x y => do eqGuard .shl 22 (.tmp 26) (.tmp 29) x y; binOp .shl 22 x y) (.tmp 26) (.tmp 29) (.int .u64 (y 0)) (.int .i64 (0)) (.int .u64 (y 0)) (fun _ => rfl) (hd 6 rfl) (hd 9 rfl) (shl0_run (by omega) (by omega) _ _ _) (hK _ (Mo.refl _))))
      · exact og_eq (.int .u64 (y 1 * 4294967296 + y 0)) rfl (fun f wf hq hd K hK => go_run rfl (wo_bin (fun x y => do eqGuard .add 22 (.tmp 23) (.tmp 30) x y; binOp .add 22 x y) (.tmp 23) (.tmp 30) (.int .u64 (y 1 * 4294967296)) (.int .u64 (y 0)) (.int .u64 (y 1 * 4294967296 + y 0)) (fun _ => rfl) (hd 3 rfl) (hd 10 rfl) (addu_run (by omega) (by omega) (by omega) _ _ _) (hK _ (Mo.refl _))))
      · exact og_eq (pt k3 0) rfl (fun f wf hq hd K hK => go_run rfl (wo_bin (fun x y => Instr.indexAt 24 x y) (.tmp 6) (.tmp 21) (pt k3 0) (.int .i64 (0)) (pt k3 0) (fun _ => rfl) e6 (hd 1 rfl) (by kernel_rfl) (hK _ (Mo.refl _))))
    intro kf22 w22 hq hR hne
    replace Q1 := Q1.mo hq
    replace Q2 := Q2.mo hq
    replace Q3 := Q3.mo hq
    replace M := M.trans hq
    clear hq hR hne
    refine wl_st1 22 (.tmp 32) (.tmp 31) k3 0 (.int .u64 (y 1 * 4294967296 + y 0)) [.int .u64 (y 1 * 4294967296), .int .u64 (y 3 * 4294967296 + y 2), .int .u64 (y 5 * 4294967296 + y 4), .int .u64 (y 7 * 4294967296 + y 6)] [.int .u64 (y 1 * 4294967296 + y 0), .int .u64 (y 3 * 4294967296 + y 2), .int .u64 (y 5 * 4294967296 + y 4), .int .u64 (y 7 * 4294967296 + y 6)] Q3 rfl rfl rfl rfl rfl sz22b rfl rfl rfl rfl ?_
    intro w23 hS Qn
    replace Q3 := Qn
    clear Qn
    replace Q1 := hS.other _ _ ne_k1_k3 Q1
    replace Q2 := hS.other _ _ ne_k2_k3 Q2
    replace M := hS.mo _ N_k3 M
    clear hS
    refine w_nil ?_
    refine xn_then ?_
    refine w_reg ?_
    refine wl_mv (.tmp 9) (.int .u64 (x 0)) (fun _ => rfl) rfl rfl ?_
    refine wl_mv (.tmp 1) (.int .u64 10) (fun _ => rfl) e1 rfl ?_
    refine wl_bin (fun x y => do eqGuard .rem 22 (.tmp 33) (.tmp 34) x y; binOp .rem 22 x y) (.tmp 33) (.tmp 34) (.int .u64 (x 0)) (.int .u64 10) (.int .u64 (r 0)) (fun _ => rfl) rfl rfl (remu_run hr (by omega) _ _ _) rfl ?_
    refine wl_mv (.tmp 35) (.int .u64 (r 0)) (fun _ => rfl) rfl rfl ?_
    refine w_nil ?_
    refine xn_blk ?_
    refine xn_then ?_
    refine w_reg ?_
    refine wl_mv (.tmp 8) (.int .i64 (0)) (fun _ => rfl) e8 rfl ?_
    refine wl_bin (fun x y => do eqGuard .sub 3 (.tmp 12) (.const (.int .i64 (1))) x y; binOp .sub 3 x y) (.tmp 12) (.const (.int .i64 (1))) (.int .i64 (0)) (.int .i64 (1)) (.int .i64 (-1)) (fun _ => rfl) rfl rfl (by kernel_rfl) rfl ?_
    refine wl_mv (.tmp 13) (.int .i64 (-1)) (fun _ => rfl) rfl rfl ?_
    refine w_nil ?_
    exact xn_loop 0 (by decide) ⟨by decide, rfl, rfl, e1, e2, e4, e6, Q1, Q2, Q3, M⟩
  · obtain ⟨hx, hy, hr⟩ := hxy 1 (by decide)
    have hd := dg_bd n 1
    have hb := rb 1 (by decide)
    have hb1 := rb 2 (by decide)
    have hy2 := yb 2 (by decide)
    have hy3 := yb 3 (by decide)
    have hy4 := yb 4 (by decide)
    have hy5 := yb 5 (by decide)
    have hy6 := yb 6 (by decide)
    have hy7 := yb 7 (by decide)
    have hyi := yb 1 (by decide)
    refine w_seq ?_
    refine w_seq ?_
    refine w_reg ?_
    refine wl_mv (.tmp 8) (.int .i64 (1)) (fun _ => rfl) e8 rfl ?_
    refine wl_bin (fun x y => do eqGuard .geq 3 (.tmp 10) (.const (.int .i64 (0))) x y; binOp .geq 3 x y) (.tmp 10) (.const (.int .i64 (0))) (.int .i64 (1)) (.int .i64 (0)) (.bool true) (fun _ => rfl) rfl rfl (by kernel_rfl) rfl ?_
    refine w_nil ?_
    refine xn_then ?_
    refine w_condT rfl ?_
    refine w_skip ?_
    refine xn_then ?_
    refine w_seq ?_
    refine w_block ?_
    refine w_seq ?_
    refine w_reg ?_
    refine wl_mv (.tmp 7) (.int .u64 (r 2)) (fun _ => rfl) e7 rfl ?_
    refine wl_bin (fun x y => do eqGuard .shl 22 (.tmp 14) (.const (.int .u64 (32))) x y; binOp .shl 22 x y) (.tmp 14) (.const (.int .u64 (32))) (.int .u64 (r 2)) (.int .u64 (32)) (.int .u64 (r 2 * 4294967296)) (fun _ => rfl) rfl rfl (shlu_run rfl (by omega) (by omega) _ _ _) rfl ?_
    refine wl_load 24 (.tmp 2) (pt k1 0) (nv (n)) rfl e2 (run_row Q1 24 0 4 (nvli (n)) rfl Tryd.underlying24 rfl sz24) rfl ?_
    refine wl_mv (.tmp 8) (.int .i64 (1)) (fun _ => rfl) e8 rfl ?_
    refine wl_call 59 [(.tmp 16), (.tmp 17)] _ [nv (n), .int .i64 (1)] (.int .u64 (dg n 1)) rfl rfl (fun _ _ => by kernel_rfl) (half_any n 1 _ (by decide)) rfl ?_
    intro w21 hq
    replace Q1 := Q1.mo hq
    replace Q2 := Q2.mo hq
    replace Q3 := Q3.mo hq
    replace M := M.trans hq
    clear hq
    refine wl_bin (fun x y => do eqGuard .add 22 (.tmp 15) (.tmp 18) x y; binOp .add 22 x y) (.tmp 15) (.tmp 18) (.int .u64 (r 2 * 4294967296)) (.int .u64 (dg n 1)) (.int .u64 (x 1)) (fun _ => rfl) rfl rfl (addu_run hx (by omega) (by omega) _ _ _) rfl ?_
    refine wl_mv (.tmp 19) (.int .u64 (x 1)) (fun _ => rfl) rfl rfl ?_
    refine w_nil ?_
    refine xn_then ?_
    refine w_seq ?_
    refine w_any 13 [.inl (.int .i64 (1)), .inl (.int .i64 (0)), .inl (pt k3 0), .inl (.int .u64 0), .inl (.int .u64 (x 1)), .inl (.int .u64 10), .inl (.int .u64 (y 1)), .inl (.int .i64 (1)), .inl (.int .i64 (1)), .inl (.int .i64 (32)), .inl (.int .u64 (y 1 * 4294967296)), .inl (.int .u64 (y 1 * 4294967296)), .inl (pt k3 0)] [] (by kernel_rfl) (by kernel_rfl) (by kernel_rfl) (by kernel_rfl) rfl (by kernel_rfl) (by kernel_rfl) late_nil ?_ ?_ ?_
    · exact Ds.none rfl
    · refine ea_cons ?_ (ea_cons ?_ (ea_cons ?_ (ea_cons ?_ (ea_cons ?_ (ea_cons ?_ (ea_cons ?_ (ea_cons ?_ (ea_cons ?_ (ea_cons ?_ (ea_cons ?_ (ea_cons ?_ (ea_cons ?_ (ea_nil)))))))))))))
      · exact og_eq (.int .i64 (1)) rfl (fun f wf hq hd K hK => go_run rfl (wo_mv (.tmp 8) (.int .i64 (1)) (fun _ => rfl) e8 (hK _ (Mo.refl _))))
      · exact og_eq (.int .i64 (0)) rfl (fun f wf hq hd K hK => go_run rfl (wo_bin (fun x y => do eqGuard .quo 3 (.tmp 20) (.const (.int .i64 (2))) x y; binOp .quo 3 x y) (.tmp 20) (.const (.int .i64 (2))) (.int .i64 (1)) (.int .i64 (2)) (.int .i64 (0)) (fun _ => rfl) (hd 0 rfl) rfl (by kernel_rfl) (hK _ (Mo.refl _))))
      · exact og_eq (pt k3 0) rfl (fun f wf hq hd K hK => go_run rfl (wo_bin (fun x y => Instr.indexAt 24 x y) (.tmp 6) (.tmp 21) (pt k3 0) (.int .i64 (0)) (pt k3 0) (fun _ => rfl) e6 (hd 1 rfl) (by kernel_rfl) (hK _ (Mo.refl _))))
      · exact og_eq (.int .u64 0) rfl (fun f wf hq hd K hK => have Q3 := Q3.mo hq; go_run rfl (wo_load 22 (.tmp 22) (pt k3 0) (.int .u64 0) rfl (hd 2 rfl) (run_one Q3 22 0 rfl Tryd.underlying22 rfl) (hK _ (Mo.refl _))))
      · exact og_eq (.int .u64 (x 1)) rfl (fun f wf hq hd K hK => go_run rfl (wo_mv (.tmp 9) (.int .u64 (x 1)) (fun _ => rfl) rfl (hK _ (Mo.refl _))))
      · exact og_eq (.int .u64 10) rfl (fun f wf hq hd K hK => go_run rfl (wo_mv (.tmp 1) (.int .u64 10) (fun _ => rfl) e1 (hK _ (Mo.refl _))))
      · exact og_eq (.int .u64 (y 1)) rfl (fun f wf hq hd K hK => go_run rfl (wo_bin (fun x y => do eqGuard .quo 22 (.tmp 24) (.tmp 25) x y; binOp .quo 22 x y) (.tmp 24) (.tmp 25) (.int .u64 (x 1)) (.int .u64 10) (.int .u64 (y 1)) (fun _ => rfl) (hd 4 rfl) (hd 5 rfl) (quou_run hy (by omega) (by omega) _ _ _) (hK _ (Mo.refl _))))
      · exact og_eq (.int .i64 (1)) rfl (fun f wf hq hd K hK => go_run rfl (wo_mv (.tmp 8) (.int .i64 (1)) (fun _ => rfl) e8 (hK _ (Mo.refl _))))
      · exact og_eq (.int .i64 (1)) rfl (fun f wf hq hd K hK => go_run rfl (wo_bin (fun x y => do eqGuard .rem 3 (.tmp 27) (.const (.int .i64 (2))) x y; binOp .rem 3 x y) (.tmp 27) (.const (.int .i64 (2))) (.int .i64 (1)) (.int .i64 (2)) (.int .i64 (1)) (fun _ => rfl) (hd 7 rfl) rfl (by kernel_rfl) (hK _ (Mo.refl _))))
      · exact og_eq (.int .i64 (32)) rfl (fun f wf hq hd K hK => go_run rfl (wo_bin (fun x y => do eqGuard .mul 3 (.tmp 28) (.const (.int .i64 (32))) x y; binOp .mul 3 x y) (.tmp 28) (.const (.int .i64 (32))) (.int .i64 (1)) (.int .i64 (32)) (.int .i64 (32)) (fun _ => rfl) (hd 8 rfl) rfl (by kernel_rfl) (hK _ (Mo.refl _))))
      · exact og_eq (.int .u64 (y 1 * 4294967296)) rfl (fun f wf hq hd K hK => go_run rfl (wo_bin (fun x y => do eqGuard .shl 22 (.tmp 26) (.tmp 29) x y; binOp .shl 22 x y) (.tmp 26) (.tmp 29) (.int .u64 (y 1)) (.int .i64 (32)) (.int .u64 (y 1 * 4294967296)) (fun _ => rfl) (hd 6 rfl) (hd 9 rfl) (shli_run rfl (by omega) (by omega) _ _ _) (hK _ (Mo.refl _))))
      · exact og_eq (.int .u64 (y 1 * 4294967296)) rfl (fun f wf hq hd K hK => go_run rfl (wo_bin (fun x y => do eqGuard .add 22 (.tmp 23) (.tmp 30) x y; binOp .add 22 x y) (.tmp 23) (.tmp 30) (.int .u64 0) (.int .u64 (y 1 * 4294967296)) (.int .u64 (y 1 * 4294967296)) (fun _ => rfl) (hd 3 rfl) (hd 10 rfl) (addu_run (by omega) (by omega) (by omega) _ _ _) (hK _ (Mo.refl _))))
      · exact og_eq (pt k3 0) rfl (fun f wf hq hd K hK => go_run rfl (wo_bin (fun x y => Instr.indexAt 24 x y) (.tmp 6) (.tmp 21) (pt k3 0) (.int .i64 (0)) (pt k3 0) (fun _ => rfl) e6 (hd 1 rfl) (by kernel_rfl) (hK _ (Mo.refl _))))
    intro kf22 w22 hq hR hne
    replace Q1 := Q1.mo hq
    replace Q2 := Q2.mo hq
    replace Q3 := Q3.mo hq
    replace M := M.trans hq
    clear hq hR hne
    refine wl_st1 22 (.tmp 32) (.tmp 31) k3 0 (.int .u64 (y 1 * 4294967296)) [.int .u64 0, .int .u64 (y 3 * 4294967296 + y 2), .int .u64 (y 5 * 4294967296 + y 4), .int .u64 (y 7 * 4294967296 + y 6)] [.int .u64 (y 1 * 4294967296), .int .u64 (y 3 * 4294967296 + y 2), .int .u64 (y 5 * 4294967296 + y 4), .int .u64 (y 7 * 4294967296 + y 6)] Q3 rfl rfl rfl rfl rfl sz22b rfl rfl rfl rfl ?_
    intro w23 hS Qn
    replace Q3 := Qn
    clear Qn
    replace Q1 := hS.other _ _ ne_k1_k3 Q1
    replace Q2 := hS.other _ _ ne_k2_k3 Q2
    replace M := hS.mo _ N_k3 M
    clear hS
    refine w_nil ?_
    refine xn_then ?_
    refine w_reg ?_
    refine wl_mv (.tmp 9) (.int .u64 (x 1)) (fun _ => rfl) rfl rfl ?_
    refine wl_mv (.tmp 1) (.int .u64 10) (fun _ => rfl) e1 rfl ?_
    refine wl_bin (fun x y => do eqGuard .rem 22 (.tmp 33) (.tmp 34) x y; binOp .rem 22 x y) (.tmp 33) (.tmp 34) (.int .u64 (x 1)) (.int .u64 10) (.int .u64 (r 1)) (fun _ => rfl) rfl rfl (remu_run hr (by omega) _ _ _) rfl ?_
    refine wl_mv (.tmp 35) (.int .u64 (r 1)) (fun _ => rfl) rfl rfl ?_
    refine w_nil ?_
    refine xn_blk ?_
    refine xn_then ?_
    refine w_reg ?_
    refine wl_mv (.tmp 8) (.int .i64 (1)) (fun _ => rfl) e8 rfl ?_
    refine wl_bin (fun x y => do eqGuard .sub 3 (.tmp 12) (.const (.int .i64 (1))) x y; binOp .sub 3 x y) (.tmp 12) (.const (.int .i64 (1))) (.int .i64 (1)) (.int .i64 (1)) (.int .i64 (0)) (fun _ => rfl) rfl rfl (by kernel_rfl) rfl ?_
    refine wl_mv (.tmp 13) (.int .i64 (0)) (fun _ => rfl) rfl rfl ?_
    refine w_nil ?_
    exact xn_loop 1 (by decide) ⟨by decide, rfl, rfl, e1, e2, e4, e6, Q1, Q2, Q3, M⟩
  · obtain ⟨hx, hy, hr⟩ := hxy 2 (by decide)
    have hd := dg_bd n 2
    have hb := rb 2 (by decide)
    have hb1 := rb 3 (by decide)
    have hy3 := yb 3 (by decide)
    have hy4 := yb 4 (by decide)
    have hy5 := yb 5 (by decide)
    have hy6 := yb 6 (by decide)
    have hy7 := yb 7 (by decide)
    have hyi := yb 2 (by decide)
    refine w_seq ?_
    refine w_seq ?_
    refine w_reg ?_
    refine wl_mv (.tmp 8) (.int .i64 (2)) (fun _ => rfl) e8 rfl ?_
    refine wl_bin (fun x y => do eqGuard .geq 3 (.tmp 10) (.const (.int .i64 (0))) x y; binOp .geq 3 x y) (.tmp 10) (.const (.int .i64 (0))) (.int .i64 (2)) (.int .i64 (0)) (.bool true) (fun _ => rfl) rfl rfl (by kernel_rfl) rfl ?_
    refine w_nil ?_
    refine xn_then ?_
    refine w_condT rfl ?_
    refine w_skip ?_
    refine xn_then ?_
    refine w_seq ?_
    refine w_block ?_
    refine w_seq ?_
    refine w_reg ?_
    refine wl_mv (.tmp 7) (.int .u64 (r 3)) (fun _ => rfl) e7 rfl ?_
    refine wl_bin (fun x y => do eqGuard .shl 22 (.tmp 14) (.const (.int .u64 (32))) x y; binOp .shl 22 x y) (.tmp 14) (.const (.int .u64 (32))) (.int .u64 (r 3)) (.int .u64 (32)) (.int .u64 (r 3 * 4294967296)) (fun _ => rfl) rfl rfl (shlu_run rfl (by omega) (by omega) _ _ _) rfl ?_
    refine wl_load 24 (.tmp 2) (pt k1 0) (nv (n)) rfl e2 (run_row Q1 24 0 4 (nvli (n)) rfl Tryd.underlying24 rfl sz24) rfl ?_
    refine wl_mv (.tmp 8) (.int .i64 (2)) (fun _ => rfl) e8 rfl ?_
    refine wl_call 59 [(.tmp 16), (.tmp 17)] _ [nv (n), .int .i64 (2)] (.int .u64 (dg n 2)) rfl rfl (fun _ _ => by kernel_rfl) (half_any n 2 _ (by decide)) rfl ?_
    intro w21 hq
    replace Q1 := Q1.mo hq
    replace Q2 := Q2.mo hq
    replace Q3 := Q3.mo hq
    replace M := M.trans hq
    clear hq
    refine wl_bin (fun x y => do eqGuard .add 22 (.tmp 15) (.tmp 18) x y; binOp .add 22 x y) (.tmp 15) (.tmp 18) (.int .u64 (r 3 * 4294967296)) (.int .u64 (dg n 2)) (.int .u64 (x 2)) (fun _ => rfl) rfl rfl (addu_run hx (by omega) (by omega) _ _ _) rfl ?_
    refine wl_mv (.tmp 19) (.int .u64 (x 2)) (fun _ => rfl) rfl rfl ?_
    refine w_nil ?_
    refine xn_then ?_
    refine w_seq ?_
    refine w_any 13 [.inl (.int .i64 (2)), .inl (.int .i64 (1)), .inl (pt k3 1), .inl (.int .u64 (y 3 * 4294967296)), .inl (.int .u64 (x 2)), .inl (.int .u64 10), .inl (.int .u64 (y 2)), .inl (.int .i64 (2)), .inl (.int .i64 (0)), .inl (.int .i64 (0)), .inl (.int .u64 (y 2)), .inl (.int .u64 (y 3 * 4294967296 + y 2)), .inl (pt k3 1)] [] (by kernel_rfl) (by kernel_rfl) (by kernel_rfl) (by kernel_rfl) rfl (by kernel_rfl) (by kernel_rfl) late_nil ?_ ?_ ?_
    · exact Ds.none rfl
    · refine ea_cons ?_ (ea_cons ?_ (ea_cons ?_ (ea_cons ?_ (ea_cons ?_ (ea_cons ?_ (ea_cons ?_ (ea_cons ?_ (ea_cons ?_ (ea_cons ?_ (ea_cons ?_ (ea_cons ?_ (ea_cons ?_ (ea_nil)))))))))))))
      · exact og_eq (.int .i64 (2)) rfl (fun f wf hq hd K hK => go_run rfl (wo_mv (.tmp 8) (.int .i64 (2)) (fun _ => rfl) e8 (hK _ (Mo.refl _))))
      · exact og_eq (.int .i64 (1)) rfl (fun f wf hq hd K hK => go_run rfl (wo_bin (fun x y => do eqGuard .quo 3 (.tmp 20) (.const (.int .i64 (2))) x y; binOp .quo 3 x y) (.tmp 20) (.const (.int .i64 (2))) (.int .i64 (2)) (.int .i64 (2)) (.int .i64 (1)) (fun _ => rfl) (hd 0 rfl) rfl (by kernel_rfl) (hK _ (Mo.refl _))))
      · exact og_eq (pt k3 1) rfl (fun f wf hq hd K hK => go_run rfl (wo_bin (fun x y => Instr.indexAt 24 x y) (.tmp 6) (.tmp 21) (pt k3 0) (.int .i64 (1)) (pt k3 1) (fun _ => rfl) e6 (hd 1 rfl) (by kernel_rfl) (hK _ (Mo.refl _))))
      · exact og_eq (.int .u64 (y 3 * 4294967296)) rfl (fun f wf hq hd K hK => have Q3 := Q3.mo hq; go_run rfl (wo_load 22 (.tmp 22) (pt k3 1) (.int .u64 (y 3 * 4294967296)) rfl (hd 2 rfl) (run_one Q3 22 1 rfl Tryd.underlying22 rfl) (hK _ (Mo.refl _))))
      · exact og_eq (.int .u64 (x 2)) rfl (fun f wf hq hd K hK => go_run rfl (wo_mv (.tmp 9) (.int .u64 (x 2)) (fun _ => rfl) rfl (hK _ (Mo.refl _))))
      · exact og_eq (.int .u64 10) rfl (fun f wf hq hd K hK => go_run rfl (wo_mv (.tmp 1) (.int .u64 10) (fun _ => rfl) e1 (hK _ (Mo.refl _))))
      · exact og_eq (.int .u64 (y 2)) rfl (fun f wf hq hd K hK => go_run rfl (wo_bin (fun x y => do eqGuard .quo 22 (.tmp 24) (.tmp 25) x y; binOp .quo 22 x y) (.tmp 24) (.tmp 25) (.int .u64 (x 2)) (.int .u64 10) (.int .u64 (y 2)) (fun _ => rfl) (hd 4 rfl) (hd 5 rfl) (quou_run hy (by omega) (by omega) _ _ _) (hK _ (Mo.refl _))))
      · exact og_eq (.int .i64 (2)) rfl (fun f wf hq hd K hK => go_run rfl (wo_mv (.tmp 8) (.int .i64 (2)) (fun _ => rfl) e8 (hK _ (Mo.refl _))))
      · exact og_eq (.int .i64 (0)) rfl (fun f wf hq hd K hK => go_run rfl (wo_bin (fun x y => do eqGuard .rem 3 (.tmp 27) (.const (.int .i64 (2))) x y; binOp .rem 3 x y) (.tmp 27) (.const (.int .i64 (2))) (.int .i64 (2)) (.int .i64 (2)) (.int .i64 (0)) (fun _ => rfl) (hd 7 rfl) rfl (by kernel_rfl) (hK _ (Mo.refl _))))
      · exact og_eq (.int .i64 (0)) rfl (fun f wf hq hd K hK => go_run rfl (wo_bin (fun x y => do eqGuard .mul 3 (.tmp 28) (.const (.int .i64 (32))) x y; binOp .mul 3 x y) (.tmp 28) (.const (.int .i64 (32))) (.int .i64 (0)) (.int .i64 (32)) (.int .i64 (0)) (fun _ => rfl) (hd 8 rfl) rfl (by kernel_rfl) (hK _ (Mo.refl _))))
      · exact og_eq (.int .u64 (y 2)) rfl (fun f wf hq hd K hK => go_run rfl (wo_bin (fun x y => do eqGuard .shl 22 (.tmp 26) (.tmp 29) x y; binOp .shl 22 x y) (.tmp 26) (.tmp 29) (.int .u64 (y 2)) (.int .i64 (0)) (.int .u64 (y 2)) (fun _ => rfl) (hd 6 rfl) (hd 9 rfl) (shl0_run (by omega) (by omega) _ _ _) (hK _ (Mo.refl _))))
      · exact og_eq (.int .u64 (y 3 * 4294967296 + y 2)) rfl (fun f wf hq hd K hK => go_run rfl (wo_bin (fun x y => do eqGuard .add 22 (.tmp 23) (.tmp 30) x y; binOp .add 22 x y) (.tmp 23) (.tmp 30) (.int .u64 (y 3 * 4294967296)) (.int .u64 (y 2)) (.int .u64 (y 3 * 4294967296 + y 2)) (fun _ => rfl) (hd 3 rfl) (hd 10 rfl) (addu_run (by omega) (by omega) (by omega) _ _ _) (hK _ (Mo.refl _))))
      · exact og_eq (pt k3 1) rfl (fun f wf hq hd K hK => go_run rfl (wo_bin (fun x y => Instr.indexAt 24 x y) (.tmp 6) (.tmp 21) (pt k3 0) (.int .i64 (1)) (pt k3 1) (fun _ => rfl) e6 (hd 1 rfl) (by kernel_rfl) (hK _ (Mo.refl _))))
    intro kf22 w22 hq hR hne
    replace Q1 := Q1.mo hq
    replace Q2 := Q2.mo hq
    replace Q3 := Q3.mo hq
    replace M := M.trans hq
    clear hq hR hne
    refine wl_st1 22 (.tmp 32) (.tmp 31) k3 1 (.int .u64 (y 3 * 4294967296 + y 2)) [.int .u64 0, .int .u64 (y 3 * 4294967296), .int .u64 (y 5 * 4294967296 + y 4), .int .u64 (y 7 * 4294967296 + y 6)] [.int .u64 0, .int .u64 (y 3 * 4294967296 + y 2), .int .u64 (y 5 * 4294967296 + y 4), .int .u64 (y 7 * 4294967296 + y 6)] Q3 rfl rfl rfl rfl rfl sz22b rfl rfl rfl rfl ?_
    intro w23 hS Qn
    replace Q3 := Qn
    clear Qn
    replace Q1 := hS.other _ _ ne_k1_k3 Q1
    replace Q2 := hS.other _ _ ne_k2_k3 Q2
    replace M := hS.mo _ N_k3 M
    clear hS
    refine w_nil ?_
    refine xn_then ?_
    refine w_reg ?_
    refine wl_mv (.tmp 9) (.int .u64 (x 2)) (fun _ => rfl) rfl rfl ?_
    refine wl_mv (.tmp 1) (.int .u64 10) (fun _ => rfl) e1 rfl ?_
    refine wl_bin (fun x y => do eqGuard .rem 22 (.tmp 33) (.tmp 34) x y; binOp .rem 22 x y) (.tmp 33) (.tmp 34) (.int .u64 (x 2)) (.int .u64 10) (.int .u64 (r 2)) (fun _ => rfl) rfl rfl (remu_run hr (by omega) _ _ _) rfl ?_
    refine wl_mv (.tmp 35) (.int .u64 (r 2)) (fun _ => rfl) rfl rfl ?_
    refine w_nil ?_
    refine xn_blk ?_
    refine xn_then ?_
    refine w_reg ?_
    refine wl_mv (.tmp 8) (.int .i64 (2)) (fun _ => rfl) e8 rfl ?_
    refine wl_bin (fun x y => do eqGuard .sub 3 (.tmp 12) (.const (.int .i64 (1))) x y; binOp .sub 3 x y) (.tmp 12) (.const (.int .i64 (1))) (.int .i64 (2)) (.int .i64 (1)) (.int .i64 (1)) (fun _ => rfl) rfl rfl (by kernel_rfl) rfl ?_
    refine wl_mv (.tmp 13) (.int .i64 (1)) (fun _ => rfl) rfl rfl ?_
    refine w_nil ?_
    exact xn_loop 2 (by decide) ⟨by decide, rfl, rfl, e1, e2, e4, e6, Q1, Q2, Q3, M⟩
  · obtain ⟨hx, hy, hr⟩ := hxy 3 (by decide)
    have hd := dg_bd n 3
    have hb := rb 3 (by decide)
    have hb1 := rb 4 (by decide)
    have hy4 := yb 4 (by decide)
    have hy5 := yb 5 (by decide)
    have hy6 := yb 6 (by decide)
    have hy7 := yb 7 (by decide)
    have hyi := yb 3 (by decide)
    refine w_seq ?_
    refine w_seq ?_
    refine w_reg ?_
    refine wl_mv (.tmp 8) (.int .i64 (3)) (fun _ => rfl) e8 rfl ?_
    refine wl_bin (fun x y => do eqGuard .geq 3 (.tmp 10) (.const (.int .i64 (0))) x y; binOp .geq 3 x y) (.tmp 10) (.const (.int .i64 (0))) (.int .i64 (3)) (.int .i64 (0)) (.bool true) (fun _ => rfl) rfl rfl (by kernel_rfl) rfl ?_
    refine w_nil ?_
    refine xn_then ?_
    refine w_condT rfl ?_
    refine w_skip ?_
    refine xn_then ?_
    refine w_seq ?_
    refine w_block ?_
    refine w_seq ?_
    refine w_reg ?_
    refine wl_mv (.tmp 7) (.int .u64 (r 4)) (fun _ => rfl) e7 rfl ?_
    refine wl_bin (fun x y => do eqGuard .shl 22 (.tmp 14) (.const (.int .u64 (32))) x y; binOp .shl 22 x y) (.tmp 14) (.const (.int .u64 (32))) (.int .u64 (r 4)) (.int .u64 (32)) (.int .u64 (r 4 * 4294967296)) (fun _ => rfl) rfl rfl (shlu_run rfl (by omega) (by omega) _ _ _) rfl ?_
    refine wl_load 24 (.tmp 2) (pt k1 0) (nv (n)) rfl e2 (run_row Q1 24 0 4 (nvli (n)) rfl Tryd.underlying24 rfl sz24) rfl ?_
    refine wl_mv (.tmp 8) (.int .i64 (3)) (fun _ => rfl) e8 rfl ?_
    refine wl_call 59 [(.tmp 16), (.tmp 17)] _ [nv (n), .int .i64 (3)] (.int .u64 (dg n 3)) rfl rfl (fun _ _ => by kernel_rfl) (half_any n 3 _ (by decide)) rfl ?_
    intro w21 hq
    replace Q1 := Q1.mo hq
    replace Q2 := Q2.mo hq
    replace Q3 := Q3.mo hq
    replace M := M.trans hq
    clear hq
    refine wl_bin (fun x y => do eqGuard .add 22 (.tmp 15) (.tmp 18) x y; binOp .add 22 x y) (.tmp 15) (.tmp 18) (.int .u64 (r 4 * 4294967296)) (.int .u64 (dg n 3)) (.int .u64 (x 3)) (fun _ => rfl) rfl rfl (addu_run hx (by omega) (by omega) _ _ _) rfl ?_
    refine wl_mv (.tmp 19) (.int .u64 (x 3)) (fun _ => rfl) rfl rfl ?_
    refine w_nil ?_
    refine xn_then ?_
    refine w_seq ?_
    refine w_any 13 [.inl (.int .i64 (3)), .inl (.int .i64 (1)), .inl (pt k3 1), .inl (.int .u64 0), .inl (.int .u64 (x 3)), .inl (.int .u64 10), .inl (.int .u64 (y 3)), .inl (.int .i64 (3)), .inl (.int .i64 (1)), .inl (.int .i64 (32)), .inl (.int .u64 (y 3 * 4294967296)), .inl (.int .u64 (y 3 * 4294967296)), .inl (pt k3 1)] [] (by kernel_rfl) (by kernel_rfl) (by kernel_rfl) (by kernel_rfl) rfl (by kernel_rfl) (by kernel_rfl) late_nil ?_ ?_ ?_
    · exact Ds.none rfl
    · refine ea_cons ?_ (ea_cons ?_ (ea_cons ?_ (ea_cons ?_ (ea_cons ?_ (ea_cons ?_ (ea_cons ?_ (ea_cons ?_ (ea_cons ?_ (ea_cons ?_ (ea_cons ?_ (ea_cons ?_ (ea_cons ?_ (ea_nil)))))))))))))
      · exact og_eq (.int .i64 (3)) rfl (fun f wf hq hd K hK => go_run rfl (wo_mv (.tmp 8) (.int .i64 (3)) (fun _ => rfl) e8 (hK _ (Mo.refl _))))
      · exact og_eq (.int .i64 (1)) rfl (fun f wf hq hd K hK => go_run rfl (wo_bin (fun x y => do eqGuard .quo 3 (.tmp 20) (.const (.int .i64 (2))) x y; binOp .quo 3 x y) (.tmp 20) (.const (.int .i64 (2))) (.int .i64 (3)) (.int .i64 (2)) (.int .i64 (1)) (fun _ => rfl) (hd 0 rfl) rfl (by kernel_rfl) (hK _ (Mo.refl _))))
      · exact og_eq (pt k3 1) rfl (fun f wf hq hd K hK => go_run rfl (wo_bin (fun x y => Instr.indexAt 24 x y) (.tmp 6) (.tmp 21) (pt k3 0) (.int .i64 (1)) (pt k3 1) (fun _ => rfl) e6 (hd 1 rfl) (by kernel_rfl) (hK _ (Mo.refl _))))
      · exact og_eq (.int .u64 0) rfl (fun f wf hq hd K hK => have Q3 := Q3.mo hq; go_run rfl (wo_load 22 (.tmp 22) (pt k3 1) (.int .u64 0) rfl (hd 2 rfl) (run_one Q3 22 1 rfl Tryd.underlying22 rfl) (hK _ (Mo.refl _))))
      · exact og_eq (.int .u64 (x 3)) rfl (fun f wf hq hd K hK => go_run rfl (wo_mv (.tmp 9) (.int .u64 (x 3)) (fun _ => rfl) rfl (hK _ (Mo.refl _))))
      · exact og_eq (.int .u64 10) rfl (fun f wf hq hd K hK => go_run rfl (wo_mv (.tmp 1) (.int .u64 10) (fun _ => rfl) e1 (hK _ (Mo.refl _))))
      · exact og_eq (.int .u64 (y 3)) rfl (fun f wf hq hd K hK => go_run rfl (wo_bin (fun x y => do eqGuard .quo 22 (.tmp 24) (.tmp 25) x y; binOp .quo 22 x y) (.tmp 24) (.tmp 25) (.int .u64 (x 3)) (.int .u64 10) (.int .u64 (y 3)) (fun _ => rfl) (hd 4 rfl) (hd 5 rfl) (quou_run hy (by omega) (by omega) _ _ _) (hK _ (Mo.refl _))))
      · exact og_eq (.int .i64 (3)) rfl (fun f wf hq hd K hK => go_run rfl (wo_mv (.tmp 8) (.int .i64 (3)) (fun _ => rfl) e8 (hK _ (Mo.refl _))))
      · exact og_eq (.int .i64 (1)) rfl (fun f wf hq hd K hK => go_run rfl (wo_bin (fun x y => do eqGuard .rem 3 (.tmp 27) (.const (.int .i64 (2))) x y; binOp .rem 3 x y) (.tmp 27) (.const (.int .i64 (2))) (.int .i64 (3)) (.int .i64 (2)) (.int .i64 (1)) (fun _ => rfl) (hd 7 rfl) rfl (by kernel_rfl) (hK _ (Mo.refl _))))
      · exact og_eq (.int .i64 (32)) rfl (fun f wf hq hd K hK => go_run rfl (wo_bin (fun x y => do eqGuard .mul 3 (.tmp 28) (.const (.int .i64 (32))) x y; binOp .mul 3 x y) (.tmp 28) (.const (.int .i64 (32))) (.int .i64 (1)) (.int .i64 (32)) (.int .i64 (32)) (fun _ => rfl) (hd 8 rfl) rfl (by kernel_rfl) (hK _ (Mo.refl _))))
      · exact og_eq (.int .u64 (y 3 * 4294967296)) rfl (fun f wf hq hd K hK => go_run rfl (wo_bin (fun x y => do eqGuard .shl 22 (.tmp 26) (.tmp 29) x y; binOp .shl 22 x y) (.tmp 26) (.tmp 29) (.int .u64 (y 3)) (.int .i64 (32)) (.int .u64 (y 3 * 4294967296)) (fun _ => rfl) (hd 6 rfl) (hd 9 rfl) (shli_run rfl (by omega) (by omega) _ _ _) (hK _ (Mo.refl _))))
      · exact og_eq (.int .u64 (y 3 * 4294967296)) rfl (fun f wf hq hd K hK => go_run rfl (wo_bin (fun x y => do eqGuard .add 22 (.tmp 23) (.tmp 30) x y; binOp .add 22 x y) (.tmp 23) (.tmp 30) (.int .u64 0) (.int .u64 (y 3 * 4294967296)) (.int .u64 (y 3 * 4294967296)) (fun _ => rfl) (hd 3 rfl) (hd 10 rfl) (addu_run (by omega) (by omega) (by omega) _ _ _) (hK _ (Mo.refl _))))
      · exact og_eq (pt k3 1) rfl (fun f wf hq hd K hK => go_run rfl (wo_bin (fun x y => Instr.indexAt 24 x y) (.tmp 6) (.tmp 21) (pt k3 0) (.int .i64 (1)) (pt k3 1) (fun _ => rfl) e6 (hd 1 rfl) (by kernel_rfl) (hK _ (Mo.refl _))))
    intro kf22 w22 hq hR hne
    replace Q1 := Q1.mo hq
    replace Q2 := Q2.mo hq
    replace Q3 := Q3.mo hq
    replace M := M.trans hq
    clear hq hR hne
    refine wl_st1 22 (.tmp 32) (.tmp 31) k3 1 (.int .u64 (y 3 * 4294967296)) [.int .u64 0, .int .u64 0, .int .u64 (y 5 * 4294967296 + y 4), .int .u64 (y 7 * 4294967296 + y 6)] [.int .u64 0, .int .u64 (y 3 * 4294967296), .int .u64 (y 5 * 4294967296 + y 4), .int .u64 (y 7 * 4294967296 + y 6)] Q3 rfl rfl rfl rfl rfl sz22b rfl rfl rfl rfl ?_
    intro w23 hS Qn
    replace Q3 := Qn
    clear Qn
    replace Q1 := hS.other _ _ ne_k1_k3 Q1
    replace Q2 := hS.other _ _ ne_k2_k3 Q2
    replace M := hS.mo _ N_k3 M
    clear hS
    refine w_nil ?_
    refine xn_then ?_
    refine w_reg ?_
    refine wl_mv (.tmp 9) (.int .u64 (x 3)) (fun _ => rfl) rfl rfl ?_
    refine wl_mv (.tmp 1) (.int .u64 10) (fun _ => rfl) e1 rfl ?_
    refine wl_bin (fun x y => do eqGuard .rem 22 (.tmp 33) (.tmp 34) x y; binOp .rem 22 x y) (.tmp 33) (.tmp 34) (.int .u64 (x 3)) (.int .u64 10) (.int .u64 (r 3)) (fun _ => rfl) rfl rfl (remu_run hr (by omega) _ _ _) rfl ?_
    refine wl_mv (.tmp 35) (.int .u64 (r 3)) (fun _ => rfl) rfl rfl ?_
    refine w_nil ?_
    refine xn_blk ?_
    refine xn_then ?_
    refine w_reg ?_
    refine wl_mv (.tmp 8) (.int .i64 (3)) (fun _ => rfl) e8 rfl ?_
    refine wl_bin (fun x y => do eqGuard .sub 3 (.tmp 12) (.const (.int .i64 (1))) x y; binOp .sub 3 x y) (.tmp 12) (.const (.int .i64 (1))) (.int .i64 (3)) (.int .i64 (1)) (.int .i64 (2)) (fun _ => rfl) rfl rfl (by kernel_rfl) rfl ?_
    refine wl_mv (.tmp 13) (.int .i64 (2)) (fun _ => rfl) rfl rfl ?_
    refine w_nil ?_
    exact xn_loop 3 (by decide) ⟨by decide, rfl, rfl, e1, e2, e4, e6, Q1, Q2, Q3, M⟩
  · obtain ⟨hx, hy, hr⟩ := hxy 4 (by decide)
    have hd := dg_bd n 4
    have hb := rb 4 (by decide)
    have hb1 := rb 5 (by decide)
    have hy5 := yb 5 (by decide)
    have hy6 := yb 6 (by decide)
    have hy7 := yb 7 (by decide)
    have hyi := yb 4 (by decide)
    refine w_seq ?_
    refine w_seq ?_
    refine w_reg ?_
    refine wl_mv (.tmp 8) (.int .i64 (4)) (fun _ => rfl) e8 rfl ?_
    refine wl_bin (fun x y => do eqGuard .geq 3 (.tmp 10) (.const (.int .i64 (0))) x y; binOp .geq 3 x y) (.tmp 10) (.const (.int .i64 (0))) (.int .i64 (4)) (.int .i64 (0)) (.bool true) (fun _ => rfl) rfl rfl (by kernel_rfl) rfl ?_
    refine w_nil ?_
    refine xn_then ?_
    refine w_condT rfl ?_
    refine w_skip ?_
    refine xn_then ?_
    refine w_seq ?_
    refine w_block ?_
    refine w_seq ?_
    refine w_reg ?_
    refine wl_mv (.tmp 7) (.int .u64 (r 5)) (fun _ => rfl) e7 rfl ?_
    refine wl_bin (fun x y => do eqGuard .shl 22 (.tmp 14) (.const (.int .u64 (32))) x y; binOp .shl 22 x y) (.tmp 14) (.const (.int .u64 (32))) (.int .u64 (r 5)) (.int .u64 (32)) (.int .u64 (r 5 * 4294967296)) (fun _ => rfl) rfl rfl (shlu_run rfl (by omega) (by omega) _ _ _) rfl ?_
    refine wl_load 24 (.tmp 2) (pt k1 0) (nv (n)) rfl e2 (run_row Q1 24 0 4 (nvli (n)) rfl Tryd.underlying24 rfl sz24) rfl ?_
    refine wl_mv (.tmp 8) (.int .i64 (4)) (fun _ => rfl) e8 rfl ?_
    refine wl_call 59 [(.tmp 16), (.tmp 17)] _ [nv (n), .int .i64 (4)] (.int .u64 (dg n 4)) rfl rfl (fun _ _ => by kernel_rfl) (half_any n 4 _ (by decide)) rfl ?_
    intro w21 hq
    replace Q1 := Q1.mo hq
    replace Q2 := Q2.mo hq
    replace Q3 := Q3.mo hq
    replace M := M.trans hq
    clear hq
    refine wl_bin (fun x y => do eqGuard .add 22 (.tmp 15) (.tmp 18) x y; binOp .add 22 x y) (.tmp 15) (.tmp 18) (.int .u64 (r 5 * 4294967296)) (.int .u64 (dg n 4)) (.int .u64 (x 4)) (fun _ => rfl) rfl rfl (addu_run hx (by omega) (by omega) _ _ _) rfl ?_
    refine wl_mv (.tmp 19) (.int .u64 (x 4)) (fun _ => rfl) rfl rfl ?_
    refine w_nil ?_
    refine xn_then ?_
    refine w_seq ?_
    refine w_any 13 [.inl (.int .i64 (4)), .inl (.int .i64 (2)), .inl (pt k3 2), .inl (.int .u64 (y 5 * 4294967296)), .inl (.int .u64 (x 4)), .inl (.int .u64 10), .inl (.int .u64 (y 4)), .inl (.int .i64 (4)), .inl (.int .i64 (0)), .inl (.int .i64 (0)), .inl (.int .u64 (y 4)), .inl (.int .u64 (y 5 * 4294967296 + y 4)), .inl (pt k3 2)] [] (by kernel_rfl) (by kernel_rfl) (by kernel_rfl) (by kernel_rfl) rfl (by kernel_rfl) (by kernel_rfl) late_nil ?_ ?_ ?_
    · exact Ds.none rfl
    · refine ea_cons ?_ (ea_cons ?_ (ea_cons ?_ (ea_cons ?_ (ea_cons ?_ (ea_cons ?_ (ea_cons ?_ (ea_cons ?_ (ea_cons ?_ (ea_cons ?_ (ea_cons ?_ (ea_cons ?_ (ea_cons ?_ (ea_nil)))))))))))))
      · exact og_eq (.int .i64 (4)) rfl (fun f wf hq hd K hK => go_run rfl (wo_mv (.tmp 8) (.int .i64 (4)) (fun _ => rfl) e8 (hK _ (Mo.refl _))))
      · exact og_eq (.int .i64 (2)) rfl (fun f wf hq hd K hK => go_run rfl (wo_bin (fun x y => do eqGuard .quo 3 (.tmp 20) (.const (.int .i64 (2))) x y; binOp .quo 3 x y) (.tmp 20) (.const (.int .i64 (2))) (.int .i64 (4)) (.int .i64 (2)) (.int .i64 (2)) (fun _ => rfl) (hd 0 rfl) rfl (by kernel_rfl) (hK _ (Mo.refl _))))
      · exact og_eq (pt k3 2) rfl (fun f wf hq hd K hK => go_run rfl (wo_bin (fun x y => Instr.indexAt 24 x y) (.tmp 6) (.tmp 21) (pt k3 0) (.int .i64 (2)) (pt k3 2) (fun _ => rfl) e6 (hd 1 rfl) (by kernel_rfl) (hK _ (Mo.refl _))))
      · exact og_eq (.int .u64 (y 5 * 4294967296)) rfl (fun f wf hq hd K hK => have Q3 := Q3.mo hq; go_run rfl (wo_load 22 (.tmp 22) (pt k3 2) (.int .u64 (y 5 * 4294967296)) rfl (hd 2 rfl) (run_one Q3 22 2 rfl Tryd.underlying22 rfl) (hK _ (Mo.refl _))))
      · exact og_eq (.int .u64 (x 4)) rfl (fun f wf hq hd K hK => go_run rfl (wo_mv (.tmp 9) (.int .u64 (x 4)) (fun _ => rfl) rfl (hK _ (Mo.refl _))))
      · exact og_eq (.int .u64 10) rfl (fun f wf hq hd K hK => go_run rfl (wo_mv (.tmp 1) (.int .u64 10) (fun _ => rfl) e1 (hK _ (Mo.refl _))))
      · exact og_eq (.int .u64 (y 4)) rfl (fun f wf hq hd K hK => go_run rfl (wo_bin (fun x y => do eqGuard .quo 22 (.tmp 24) (.tmp 25) x y; binOp .quo 22 x y) (.tmp 24) (.tmp 25) (.int .u64 (x 4)) (.int .u64 10) (.int .u64 (y 4)) (fun _ => rfl) (hd 4 rfl) (hd 5 rfl) (quou_run hy (by omega) (by omega) _ _ _) (hK _ (Mo.refl _))))
      · exact og_eq (.int .i64 (4)) rfl (fun f wf hq hd K hK => go_run rfl (wo_mv (.tmp 8) (.int .i64 (4)) (fun _ => rfl) e8 (hK _ (Mo.refl _))))
      · exact og_eq (.int .i64 (0)) rfl (fun f wf hq hd K hK => go_run rfl (wo_bin (fun x y => do eqGuard .rem 3 (.tmp 27) (.const (.int .i64 (2))) x y; binOp .rem 3 x y) (.tmp 27) (.const (.int .i64 (2))) (.int .i64 (4)) (.int .i64 (2)) (.int .i64 (0)) (fun _ => rfl) (hd 7 rfl) rfl (by kernel_rfl) (hK _ (Mo.refl _))))
      · exact og_eq (.int .i64 (0)) rfl (fun f wf hq hd K hK => go_run rfl (wo_bin (fun x y => do eqGuard .mul 3 (.tmp 28) (.const (.int .i64 (32))) x y; binOp .mul 3 x y) (.tmp 28) (.const (.int .i64 (32))) (.int .i64 (0)) (.int .i64 (32)) (.int .i64 (0)) (fun _ => rfl) (hd 8 rfl) rfl (by kernel_rfl) (hK _ (Mo.refl _))))
      · exact og_eq (.int .u64 (y 4)) rfl (fun f wf hq hd K hK => go_run rfl (wo_bin (fun x y => do eqGuard .shl 22 (.tmp 26) (.tmp 29) x y; binOp .shl 22 x y) (.tmp 26) (.tmp 29) (.int .u64 (y 4)) (.int .i64 (0)) (.int .u64 (y 4)) (fun _ => rfl) (hd 6 rfl) (hd 9 rfl) (shl0_run (by omega) (by omega) _ _ _) (hK _ (Mo.refl _))))
      · exact og_eq (.int .u64 (y 5 * 4294967296 + y 4)) rfl (fun f wf hq hd K hK => go_run rfl (wo_bin (fun x y => do eqGuard .add 22 (.tmp 23) (.tmp 30) x y; binOp .add 22 x y) (.tmp 23) (.tmp 30) (.int .u64 (y 5 * 4294967296)) (.int .u64 (y 4)) (.int .u64 (y 5 * 4294967296 + y 4)) (fun _ => rfl) (hd 3 rfl) (hd 10 rfl) (addu_run (by omega) (by omega) (by omega) _ _ _) (hK _ (Mo.refl _))))
      · exact og_eq (pt k3 2) rfl (fun f wf hq hd K hK => go_run rfl (wo_bin (fun x y => Instr.indexAt 24 x y) (.tmp 6) (.tmp 21) (pt k3 0) (.int .i64 (2)) (pt k3 2) (fun _ => rfl) e6 (hd 1 rfl) (by kernel_rfl) (hK _ (Mo.refl _))))
    intro kf22 w22 hq hR hne
    replace Q1 := Q1.mo hq
    replace Q2 := Q2.mo hq
    replace Q3 := Q3.mo hq
    replace M := M.trans hq
    clear hq hR hne
    refine wl_st1 22 (.tmp 32) (.tmp 31) k3 2 (.int .u64 (y 5 * 4294967296 + y 4)) [.int .u64 0, .int .u64 0, .int .u64 (y 5 * 4294967296), .int .u64 (y 7 * 4294967296 + y 6)] [.int .u64 0, .int .u64 0, .int .u64 (y 5 * 4294967296 + y 4), .int .u64 (y 7 * 4294967296 + y 6)] Q3 rfl rfl rfl rfl rfl sz22b rfl rfl rfl rfl ?_
    intro w23 hS Qn
    replace Q3 := Qn
    clear Qn
    replace Q1 := hS.other _ _ ne_k1_k3 Q1
    replace Q2 := hS.other _ _ ne_k2_k3 Q2
    replace M := hS.mo _ N_k3 M
    clear hS
    refine w_nil ?_
    refine xn_then ?_
    refine w_reg ?_
    refine wl_mv (.tmp 9) (.int .u64 (x 4)) (fun _ => rfl) rfl rfl ?_
    refine wl_mv (.tmp 1) (.int .u64 10) (fun _ => rfl) e1 rfl ?_
    refine wl_bin (fun x y => do eqGuard .rem 22 (.tmp 33) (.tmp 34) x y; binOp .rem 22 x y) (.tmp 33) (.tmp 34) (.int .u64 (x 4)) (.int .u64 10) (.int .u64 (r 4)) (fun _ => rfl) rfl rfl (remu_run hr (by omega) _ _ _) rfl ?_
    refine wl_mv (.tmp 35) (.int .u64 (r 4)) (fun _ => rfl) rfl rfl ?_
    refine w_nil ?_
    refine xn_blk ?_
    refine xn_then ?_
    refine w_reg ?_
    refine wl_mv (.tmp 8) (.int .i64 (4)) (fun _ => rfl) e8 rfl ?_
    refine wl_bin (fun x y => do eqGuard .sub 3 (.tmp 12) (.const (.int .i64 (1))) x y; binOp .sub 3 x y) (.tmp 12) (.const (.int .i64 (1))) (.int .i64 (4)) (.int .i64 (1)) (.int .i64 (3)) (fun _ => rfl) rfl rfl (by kernel_rfl) rfl ?_
    refine wl_mv (.tmp 13) (.int .i64 (3)) (fun _ => rfl) rfl rfl ?_
    refine w_nil ?_
    exact xn_loop 4 (by decide) ⟨by decide, rfl, rfl, e1, e2, e4, e6, Q1, Q2, Q3, M⟩
  · obtain ⟨hx, hy, hr⟩ := hxy 5 (by decide)
    have hd := dg_bd n 5
    have hb := rb 5 (by decide)
    have hb1 := rb 6 (by decide)
    have hy6 := yb 6 (by decide)
    have hy7 := yb 7 (by decide)
    have hyi := yb 5 (by decide)
    refine w_seq ?_
    refine w_seq ?_
    refine w_reg ?_
    refine wl_mv (.tmp 8) (.int .i64 (5)) (fun _ => rfl) e8 rfl ?_
    refine wl_bin (fun x y => do eqGuard .geq 3 (.tmp 10) (.const (.int .i64 (0))) x y; binOp .geq 3 x y) (.tmp 10) (.const (.int .i64 (0))) (.int .i64 (5)) (.int .i64 (0)) (.bool true) (fun _ => rfl) rfl rfl (by kernel_rfl) rfl ?_
    refine w_nil ?_
    refine xn_then ?_
    refine w_condT rfl ?_
    refine w_skip ?_
    refine xn_then ?_
    refine w_seq ?_
    refine w_block ?_
    refine w_seq ?_
    refine w_reg ?_
    refine wl_mv (.tmp 7) (.int .u64 (r 6)) (fun _ => rfl) e7 rfl ?_
    refine wl_bin (fun x y => do eqGuard .shl 22 (.tmp 14) (.const (.int .u64 (32))) x y; binOp .shl 22 x y) (.tmp 14) (.const (.int .u64 (32))) (.int .u64 (r 6)) (.int .u64 (32)) (.int .u64 (r 6 * 4294967296)) (fun _ => rfl) rfl rfl (shlu_run rfl (by omega) (by omega) _ _ _) rfl ?_
    refine wl_load 24 (.tmp 2) (pt k1 0) (nv (n)) rfl e2 (run_row Q1 24 0 4 (nvli (n)) rfl Tryd.underlying24 rfl sz24) rfl ?_
    refine wl_mv (.tmp 8) (.int .i64 (5)) (fun _ => rfl) e8 rfl ?_
    refine wl_call 59 [(.tmp 16), (.tmp 17)] _ [nv (n), .int .i64 (5)] (.int .u64 (dg n 5)) rfl rfl (fun _ _ => by kernel_rfl) (half_any n 5 _ (by decide)) rfl ?_
    intro w21 hq
    replace Q1 := Q1.mo hq
    replace Q2 := Q2.mo hq
    replace Q3 := Q3.mo hq
    replace M := M.trans hq
    clear hq
    refine wl_bin (fun x y => do eqGuard .add 22 (.tmp 15) (.tmp 18) x y; binOp .add 22 x y) (.tmp 15) (.tmp 18) (.int .u64 (r 6 * 4294967296)) (.int .u64 (dg n 5)) (.int .u64 (x 5)) (fun _ => rfl) rfl rfl (addu_run hx (by omega) (by omega) _ _ _) rfl ?_
    refine wl_mv (.tmp 19) (.int .u64 (x 5)) (fun _ => rfl) rfl rfl ?_
    refine w_nil ?_
    refine xn_then ?_
    refine w_seq ?_
    refine w_any 13 [.inl (.int .i64 (5)), .inl (.int .i64 (2)), .inl (pt k3 2), .inl (.int .u64 0), .inl (.int .u64 (x 5)), .inl (.int .u64 10), .inl (.int .u64 (y 5)), .inl (.int .i64 (5)), .inl (.int .i64 (1)), .inl (.int .i64 (32)), .inl (.int .u64 (y 5 * 4294967296)), .inl (.int .u64 (y 5 * 4294967296)), .inl (pt k3 2)] [] (by kernel_rfl) (by kernel_rfl) (by kernel_rfl) (by kernel_rfl) rfl (by kernel_rfl) (by kernel_rfl) late_nil ?_ ?_ ?_
    · exact Ds.none rfl
    · refine ea_cons ?_ (ea_cons ?_ (ea_cons ?_ (ea_cons ?_ (ea_cons ?_ (ea_cons ?_ (ea_cons ?_ (ea_cons ?_ (ea_cons ?_ (ea_cons ?_ (ea_cons ?_ (ea_cons ?_ (ea_cons ?_ (ea_nil)))))))))))))
      · exact og_eq (.int .i64 (5)) rfl (fun f wf hq hd K hK => go_run rfl (wo_mv (.tmp 8) (.int .i64 (5)) (fun _ => rfl) e8 (hK _ (Mo.refl _))))
      · exact og_eq (.int .i64 (2)) rfl (fun f wf hq hd K hK => go_run rfl (wo_bin (fun x y => do eqGuard .quo 3 (.tmp 20) (.const (.int .i64 (2))) x y; binOp .quo 3 x y) (.tmp 20) (.const (.int .i64 (2))) (.int .i64 (5)) (.int .i64 (2)) (.int .i64 (2)) (fun _ => rfl) (hd 0 rfl) rfl (by kernel_rfl) (hK _ (Mo.refl _))))
      · exact og_eq (pt k3 2) rfl (fun f wf hq hd K hK => go_run rfl (wo_bin (fun x y => Instr.indexAt 24 x y) (.tmp 6) (.tmp 21) (pt k3 0) (.int .i64 (2)) (pt k3 2) (fun _ => rfl) e6 (hd 1 rfl) (by kernel_rfl) (hK _ (Mo.refl _))))
      · exact og_eq (.int .u64 0) rfl (fun f wf hq hd K hK => have Q3 := Q3.mo hq; go_run rfl (wo_load 22 (.tmp 22) (pt k3 2) (.int .u64 0) rfl (hd 2 rfl) (run_one Q3 22 2 rfl Tryd.underlying22 rfl) (hK _ (Mo.refl _))))
      · exact og_eq (.int .u64 (x 5)) rfl (fun f wf hq hd K hK => go_run rfl (wo_mv (.tmp 9) (.int .u64 (x 5)) (fun _ => rfl) rfl (hK _ (Mo.refl _))))
      · exact og_eq (.int .u64 10) rfl (fun f wf hq hd K hK => go_run rfl (wo_mv (.tmp 1) (.int .u64 10) (fun _ => rfl) e1 (hK _ (Mo.refl _))))
      · exact og_eq (.int .u64 (y 5)) rfl (fun f wf hq hd K hK => go_run rfl (wo_bin (fun x y => do eqGuard .quo 22 (.tmp 24) (.tmp 25) x y; binOp .quo 22 x y) (.tmp 24) (.tmp 25) (.int .u64 (x 5)) (.int .u64 10) (.int .u64 (y 5)) (fun _ => rfl) (hd 4 rfl) (hd 5 rfl) (quou_run hy (by omega) (by omega) _ _ _) (hK _ (Mo.refl _))))
      · exact og_eq (.int .i64 (5)) rfl (fun f wf hq hd K hK => go_run rfl (wo_mv (.tmp 8) (.int .i64 (5)) (fun _ => rfl) e8 (hK _ (Mo.refl _))))
      · exact og_eq (.int .i64 (1)) rfl (fun f wf hq hd K hK => go_run rfl (wo_bin (fun x y => do eqGuard .rem 3 (.tmp 27) (.const (.int .i64 (2))) x y; binOp .rem 3 x y) (.tmp 27) (.const (.int .i64 (2))) (.int .i64 (5)) (.int .i64 (2)) (.int .i64 (1)) (fun _ => rfl) (hd 7 rfl) rfl (by kernel_rfl) (hK _ (Mo.refl _))))
      · exact og_eq (.int .i64 (32)) rfl (fun f wf hq hd K hK => go_run rfl (wo_bin (fun x y => do eqGuard .mul 3 (.tmp 28) (.const (.int .i64 (32))) x y; binOp .mul 3 x y) (.tmp 28) (.const (.int .i64 (32))) (.int .i64 (1)) (.int .i64 (32)) (.int .i64 (32)) (fun _ => rfl) (hd 8 rfl) rfl (by kernel_rfl) (hK _ (Mo.refl _))))
      · exact og_eq (.int .u64 (y 5 * 4294967296)) rfl (fun f wf hq hd K hK => go_run rfl (wo_bin (fun x y => do eqGuard .shl 22 (.tmp 26) (.tmp 29) x y; binOp .shl 22 x y) (.tmp 26) (.tmp 29) (.int .u64 (y 5)) (.int .i64 (32)) (.int .u64 (y 5 * 4294967296)) (fun _ => rfl) (hd 6 rfl) (hd 9 rfl) (shli_run rfl (by omega) (by omega) _ _ _) (hK _ (Mo.refl _))))
      · exact og_eq (.int .u64 (y 5 * 4294967296)) rfl (fun f wf hq hd K hK => go_run rfl (wo_bin (fun x y => do eqGuard .add 22 (.tmp 23) (.tmp 30) x y; binOp .add 22 x y) (.tmp 23) (.tmp 30) (.int .u64 0) (.int .u64 (y 5 * 4294967296)) (.int .u64 (y 5 * 4294967296)) (fun _ => rfl) (hd 3 rfl) (hd 10 rfl) (addu_run (by omega) (by omega) (by omega) _ _ _) (hK _ (Mo.refl _))))
      · exact og_eq (pt k3 2) rfl (fun f wf hq hd K hK => go_run rfl (wo_bin (fun x y => Instr.indexAt 24 x y) (.tmp 6) (.tmp 21) (pt k3 0) (.int .i64 (2)) (pt k3 2) (fun _ => rfl) e6 (hd 1 rfl) (by kernel_rfl) (hK _ (Mo.refl _))))
    intro kf22 w22 hq hR hne
    replace Q1 := Q1.mo hq
    replace Q2 := Q2.mo hq
    replace Q3 := Q3.mo hq
    replace M := M.trans hq
    clear hq hR hne
    refine wl_st1 22 (.tmp 32) (.tmp 31) k3 2 (.int .u64 (y 5 * 4294967296)) [.int .u64 0, .int .u64 0, .int .u64 0, .int .u64 (y 7 * 4294967296 + y 6)] [.int .u64 0, .int .u64 0, .int .u64 (y 5 * 4294967296), .int .u64 (y 7 * 4294967296 + y 6)] Q3 rfl rfl rfl rfl rfl sz22b rfl rfl rfl rfl ?_
    intro w23 hS Qn
    replace Q3 := Qn
    clear Qn
    replace Q1 := hS.other _ _ ne_k1_k3 Q1
    replace Q2 := hS.other _ _ ne_k2_k3 Q2
    replace M := hS.mo _ N_k3 M
    clear hS
    refine w_nil ?_
    refine xn_then ?_
    refine w_reg ?_
    refine wl_mv (.tmp 9) (.int .u64 (x 5)) (fun _ => rfl) rfl rfl ?_
    refine wl_mv (.tmp 1) (.int .u64 10) (fun _ => rfl) e1 rfl ?_
    refine wl_bin (fun x y => do eqGuard .rem 22 (.tmp 33) (.tmp 34) x y; binOp .rem 22 x y) (.tmp 33) (.tmp 34) (.int .u64 (x 5)) (.int .u64 10) (.int .u64 (r 5)) (fun _ => rfl) rfl rfl (remu_run hr (by omega) _ _ _) rfl ?_
    refine wl_mv (.tmp 35) (.int .u64 (r 5)) (fun _ => rfl) rfl rfl ?_
    refine w_nil ?_
    refine xn_blk ?_
    refine xn_then ?_
    refine w_reg ?_
    refine wl_mv (.tmp 8) (.int .i64 (5)) (fun _ => rfl) e8 rfl ?_
    refine wl_bin (fun x y => do eqGuard .sub 3 (.tmp 12) (.const (.int .i64 (1))) x y; binOp .sub 3 x y) (.tmp 12) (.const (.int .i64 (1))) (.int .i64 (5)) (.int .i64 (1)) (.int .i64 (4)) (fun _ => rfl) rfl rfl (by kernel_rfl) rfl ?_
    refine wl_mv (.tmp 13) (.int .i64 (4)) (fun _ => rfl) rfl rfl ?_
    refine w_nil ?_
    exact xn_loop 5 (by decide) ⟨by decide, rfl, rfl, e1, e2, e4, e6, Q1, Q2, Q3, M⟩
  · obtain ⟨hx, hy, hr⟩ := hxy 6 (by decide)
    have hd := dg_bd n 6
    have hb := rb 6 (by decide)
    have hb1 := rb 7 (by decide)
    have hy7 := yb 7 (by decide)
    have hyi := yb 6 (by decide)
    refine w_seq ?_
    refine w_seq ?_
    refine w_reg ?_
    refine wl_mv (.tmp 8) (.int .i64 (6)) (fun _ => rfl) e8 rfl ?_
    refine wl_bin (fun x y => do eqGuard .geq 3 (.tmp 10) (.const (.int .i64 (0))) x y; binOp .geq 3 x y) (.tmp 10) (.const (.int .i64 (0))) (.int .i64 (6)) (.int .i64 (0)) (.bool true) (fun _ => rfl) rfl rfl (by kernel_rfl) rfl ?_
    refine w_nil ?_
    refine xn_then ?_
    refine w_condT rfl ?_
    refine w_skip ?_
    refine xn_then ?_
    refine w_seq ?_
    refine w_block ?_
    refine w_seq ?_
    refine w_reg ?_
    refine wl_mv (.tmp 7) (.int .u64 (r 7)) (fun _ => rfl) e7 rfl ?_
    refine wl_bin (fun x y => do eqGuard .shl 22 (.tmp 14) (.const (.int .u64 (32))) x y; binOp .shl 22 x y) (.tmp 14) (.const (.int .u64 (32))) (.int .u64 (r 7)) (.int .u64 (32)) (.int .u64 (r 7 * 4294967296)) (fun _ => rfl) rfl rfl (shlu_run rfl (by omega) (by omega) _ _ _) rfl ?_
    refine wl_load 24 (.tmp 2) (pt k1 0) (nv (n)) rfl e2 (run_row Q1 24 0 4 (nvli (n)) rfl Tryd.underlying24 rfl sz24) rfl ?_
    refine wl_mv (.tmp 8) (.int .i64 (6)) (fun _ => rfl) e8 rfl ?_
    refine wl_call 59 [(.tmp 16), (.tmp 17)] _ [nv (n), .int .i64 (6)] (.int .u64 (dg n 6)) rfl rfl (fun _ _ => by kernel_rfl) (half_any n 6 _ (by decide)) rfl ?_
    intro w21 hq
    replace Q1 := Q1.mo hq
    replace Q2 := Q2.mo hq
    replace Q3 := Q3.mo hq
    replace M := M.trans hq
    clear hq
    refine wl_bin (fun x y => do eqGuard .add 22 (.tmp 15) (.tmp 18) x y; binOp .add 22 x y) (.tmp 15) (.tmp 18) (.int .u64 (r 7 * 4294967296)) (.int .u64 (dg n 6)) (.int .u64 (x 6)) (fun _ => rfl) rfl rfl (addu_run hx (by omega) (by omega) _ _ _) rfl ?_
    refine wl_mv (.tmp 19) (.int .u64 (x 6)) (fun _ => rfl) rfl rfl ?_
    refine w_nil ?_
    refine xn_then ?_
    refine w_seq ?_
    refine w_any 13 [.inl (.int .i64 (6)), .inl (.int .i64 (3)), .inl (pt k3 3), .inl (.int .u64 (y 7 * 4294967296)), .inl (.int .u64 (x 6)), .inl (.int .u64 10), .inl (.int .u64 (y 6)), .inl (.int .i64 (6)), .inl (.int .i64 (0)), .inl (.int .i64 (0)), .inl (.int .u64 (y 6)), .inl (.int .u64 (y 7 * 4294967296 + y 6)), .inl (pt k3 3)] [] (by kernel_rfl) (by kernel_rfl) (by kernel_rfl) (by kernel_rfl) rfl (by kernel_rfl) (by kernel_rfl) late_nil ?_ ?_ ?_
    · exact Ds.none rfl
    · refine ea_cons ?_ (ea_cons ?_ (ea_cons ?_ (ea_cons ?_ (ea_cons ?_ (ea_cons ?_ (ea_cons ?_ (ea_cons ?_ (ea_cons ?_ (ea_cons ?_ (ea_cons ?_ (ea_cons ?_ (ea_cons ?_ (ea_nil)))))))))))))
      · exact og_eq (.int .i64 (6)) rfl (fun f wf hq hd K hK => go_run rfl (wo_mv (.tmp 8) (.int .i64 (6)) (fun _ => rfl) e8 (hK _ (Mo.refl _))))
      · exact og_eq (.int .i64 (3)) rfl (fun f wf hq hd K hK => go_run rfl (wo_bin (fun x y => do eqGuard .quo 3 (.tmp 20) (.const (.int .i64 (2))) x y; binOp .quo 3 x y) (.tmp 20) (.const (.int .i64 (2))) (.int .i64 (6)) (.int .i64 (2)) (.int .i64 (3)) (fun _ => rfl) (hd 0 rfl) rfl (by kernel_rfl) (hK _ (Mo.refl _))))
      · exact og_eq (pt k3 3) rfl (fun f wf hq hd K hK => go_run rfl (wo_bin (fun x y => Instr.indexAt 24 x y) (.tmp 6) (.tmp 21) (pt k3 0) (.int .i64 (3)) (pt k3 3) (fun _ => rfl) e6 (hd 1 rfl) (by kernel_rfl) (hK _ (Mo.refl _))))
      · exact og_eq (.int .u64 (y 7 * 4294967296)) rfl (fun f wf hq hd K hK => have Q3 := Q3.mo hq; go_run rfl (wo_load 22 (.tmp 22) (pt k3 3) (.int .u64 (y 7 * 4294967296)) rfl (hd 2 rfl) (run_one Q3 22 3 rfl Tryd.underlying22 rfl) (hK _ (Mo.refl _))))
      · exact og_eq (.int .u64 (x 6)) rfl (fun f wf hq hd K hK => go_run rfl (wo_mv (.tmp 9) (.int .u64 (x 6)) (fun _ => rfl) rfl (hK _ (Mo.refl _))))
      · exact og_eq (.int .u64 10) rfl (fun f wf hq hd K hK => go_run rfl (wo_mv (.tmp 1) (.int .u64 10) (fun _ => rfl) e1 (hK _ (Mo.refl _))))
      · exact og_eq (.int .u64 (y 6)) rfl (fun f wf hq hd K hK => go_run rfl (wo_bin (fun x y => do eqGuard .quo 22 (.tmp 24) (.tmp 25) x y; binOp .quo 22 x y) (.tmp 24) (.tmp 25) (.int .u64 (x 6)) (.int .u64 10) (.int .u64 (y 6)) (fun _ => rfl) (hd 4 rfl) (hd 5 rfl) (quou_run hy (by omega) (by omega) _ _ _) (hK _ (Mo.refl _))))
      · exact og_eq (.int .i64 (6)) rfl (fun f wf hq hd K hK => go_run rfl (wo_mv (.tmp 8) (.int .i64 (6)) (fun _ => rfl) e8 (hK _ (Mo.refl _))))
      · exact og_eq (.int .i64 (0)) rfl (fun f wf hq hd K hK => go_run rfl (wo_bin (fun x y => do eqGuard .rem 3 (.tmp 27) (.const (.int .i64 (2))) x y; binOp .rem 3 x y) (.tmp 27) (.const (.int .i64 (2))) (.int .i64 (6)) (.int .i64 (2)) (.int .i64 (0)) (fun _ => rfl) (hd 7 rfl) rfl (by kernel_rfl) (hK _ (Mo.refl _))))
      · exact og_eq (.int .i64 (0)) rfl (fun f wf hq hd K hK => go_run rfl (wo_bin (fun x y => do eqGuard .mul 3 (.tmp 28) (.const (.int .i64 (32))) x y; binOp .mul 3 x y) (.tmp 28) (.const (.int .i64 (32))) (.int .i64 (0)) (.int .i64 (32)) (.int .i64 (0)) (fun _ => rfl) (hd 8 rfl) rfl (by kernel_rfl) (hK _ (Mo.refl _))))
      · exact og_eq (.int .u64 (y 6)) rfl (fun f wf hq hd K hK => go_run rfl (wo_bin (fun x y => do eqGuard .shl 22 (.tmp 26) (.tmp 29) x y; binOp .shl 22 x y) (.tmp 26) (.tmp 29) (.int .u64 (y 6)) (.int .i64 (0)) (.int .u64 (y 6)) (fun _ => rfl) (hd 6 rfl) (hd 9 rfl) (shl0_run (by omega) (by omega) _ _ _) (hK _ (Mo.refl _))))
      · exact og_eq (.int .u64 (y 7 * 4294967296 + y 6)) rfl (fun f wf hq hd K hK => go_run rfl (wo_bin (fun x y => do eqGuard .add 22 (.tmp 23) (.tmp 30) x y; binOp .add 22 x y) (.tmp 23) (.tmp 30) (.int .u64 (y 7 * 4294967296)) (.int .u64 (y 6)) (.int .u64 (y 7 * 4294967296 + y 6)) (fun _ => rfl) (hd 3 rfl) (hd 10 rfl) (addu_run (by omega) (by omega) (by omega) _ _ _) (hK _ (Mo.refl _))))
      · exact og_eq (pt k3 3) rfl (fun f wf hq hd K hK => go_run rfl (wo_bin (fun x y => Instr.indexAt 24 x y) (.tmp 6) (.tmp 21) (pt k3 0) (.int .i64 (3)) (pt k3 3) (fun _ => rfl) e6 (hd 1 rfl) (by kernel_rfl) (hK _ (Mo.refl _))))
    intro kf22 w22 hq hR hne
    replace Q1 := Q1.mo hq
    replace Q2 := Q2.mo hq
    replace Q3 := Q3.mo hq
    replace M := M.trans hq
    clear hq hR hne
    refine wl_st1 22 (.tmp 32) (.tmp 31) k3 3 (.int .u64 (y 7 * 4294967296 + y 6)) [.int .u64 0, .int .u64 0, .int .u64 0, .int .u64 (y 7 * 4294967296)] [.int .u64 0, .int .u64 0, .int .u64 0, .int .u64 (y 7 * 4294967296 + y 6)] Q3 rfl rfl rfl rfl rfl sz22b rfl rfl rfl rfl ?_
    intro w23 hS Qn
    replace Q3 := Qn
    clear Qn
    replace Q1 := hS.other _ _ ne_k1_k3 Q1
    replace Q2 := hS.other _ _ ne_k2_k3 Q2
    replace M := hS.mo _ N_k3 M
    clear hS
    refine w_nil ?_
    refine xn_then ?_
    refine w_reg ?_
    refine wl_mv (.tmp 9) (.int .u64 (x 6)) (fun _ => rfl) rfl rfl ?_
    refine wl_mv (.tmp 1) (.int .u64 10) (fun _ => rfl) e1 rfl ?_
    refine wl_bin (fun x y => do eqGuard .rem 22 (.tmp 33) (.tmp 34) x y; binOp .rem 22 x y) (.tmp 33) (.tmp 34) (.int .u64 (x 6)) (.int .u64 10) (.int .u64 (r 6)) (fun _ => rfl) rfl rfl (remu_run hr (by omega) _ _ _) rfl ?_
    refine wl_mv (.tmp 35) (.int .u64 (r 6)) (fun _ => rfl) rfl rfl ?_
    refine w_nil ?_
    refine xn_blk ?_
    refine xn_then ?_
    refine w_reg ?_
    refine wl_mv (.tmp 8) (.int .i64 (6)) (fun _ => rfl) e8 rfl ?_
    refine wl_bin (fun x y => do eqGuard .sub 3 (.tmp 12) (.const (.int .i64 (1))) x y; binOp .sub 3 x y) (.tmp 12) (.const (.int .i64 (1))) (.int .i64 (6)) (.int .i64 (1)) (.int .i64 (5)) (fun _ => rfl) rfl rfl (by kernel_rfl) rfl ?_
    refine wl_mv (.tmp 13) (.int .i64 (5)) (fun _ => rfl) rfl rfl ?_
    refine w_nil ?_
    exact xn_loop 6 (by decide) ⟨by decide, rfl, rfl, e1, e2, e4, e6, Q1, Q2, Q3, M⟩
  · obtain ⟨hx, hy, hr⟩ := hxy 7 (by decide)
    have hd := dg_bd n 7
    have hb := rb 7 (by decide)
    have hb1 := rb 8 (by decide)
    have hyi := yb 7 (by decide)
    refine w_seq ?_
    refine w_seq ?_
    refine w_reg ?_
    refine wl_mv (.tmp 8) (.int .i64 (7)) (fun _ => rfl) e8 rfl ?_
    refine wl_bin (fun x y => do eqGuard .geq 3 (.tmp 10) (.const (.int .i64 (0))) x y; binOp .geq 3 x y) (.tmp 10) (.const (.int .i64 (0))) (.int .i64 (7)) (.int .i64 (0)) (.bool true) (fun _ => rfl) rfl rfl (by kernel_rfl) rfl ?_
    refine w_nil ?_
    refine xn_then ?_
    refine w_condT rfl ?_
    refine w_skip ?_
    refine xn_then ?_
    refine w_seq ?_
    refine w_block ?_
    refine w_seq ?_
    refine w_reg ?_
    refine wl_mv (.tmp 7) (.int .u64 (r 8)) (fun _ => rfl) e7 rfl ?_
    refine wl_bin (fun x y => do eqGuard .shl 22 (.tmp 14) (.const (.int .u64 (32))) x y; binOp .shl 22 x y) (.tmp 14) (.const (.int .u64 (32))) (.int .u64 (r 8)) (.int .u64 (32)) (.int .u64 (r 8 * 4294967296)) (fun _ => rfl) rfl rfl (shlu_run rfl (by omega) (by omega) _ _ _) rfl ?_
    refine wl_load 24 (.tmp 2) (pt k1 0) (nv (n)) rfl e2 (run_row Q1 24 0 4 (nvli (n)) rfl Tryd.underlying24 rfl sz24) rfl ?_
    refine wl_mv (.tmp 8) (.int .i64 (7)) (fun _ => rfl) e8 rfl ?_
    refine wl_call 59 [(.tmp 16), (.tmp 17)] _ [nv (n), .int .i64 (7)] (.int .u64 (dg n 7)) rfl rfl (fun _ _ => by kernel_rfl) (half_any n 7 _ (by decide)) rfl ?_
    intro w21 hq
    replace Q1 := Q1.mo hq
    replace Q2 := Q2.mo hq
    replace Q3 := Q3.mo hq
    replace M := M.trans hq
    clear hq
    refine wl_bin (fun x y => do eqGuard .add 22 (.tmp 15) (.tmp 18) x y; binOp .add 22 x y) (.tmp 15) (.tmp 18) (.int .u64 (r 8 * 4294967296)) (.int .u64 (dg n 7)) (.int .u64 (x 7)) (fun _ => rfl) rfl rfl (addu_run hx (by omega) (by omega) _ _ _) rfl ?_
    refine wl_mv (.tmp 19) (.int .u64 (x 7)) (fun _ => rfl) rfl rfl ?_
    refine w_nil ?_
    refine xn_then ?_
    refine w_seq ?_
    refine w_any 13 [.inl (.int .i64 (7)), .inl (.int .i64 (3)), .inl (pt k3 3), .inl (.int .u64 0), .inl (.int .u64 (x 7)), .inl (.int .u64 10), .inl (.int .u64 (y 7)), .inl (.int .i64 (7)), .inl (.int .i64 (1)), .inl (.int .i64 (32)), .inl (.int .u64 (y 7 * 4294967296)), .inl (.int .u64 (y 7 * 4294967296)), .inl (pt k3 3)] [] (by kernel_rfl) (by kernel_rfl) (by kernel_rfl) (by kernel_rfl) rfl (by kernel_rfl) (by kernel_rfl) late_nil ?_ ?_ ?_
    · exact Ds.none rfl
    · refine ea_cons ?_ (ea_cons ?_ (ea_cons ?_ (ea_cons ?_ (ea_cons ?_ (ea_cons ?_ (ea_cons ?_ (ea_cons ?_ (ea_cons ?_ (ea_cons ?_ (ea_cons ?_ (ea_cons ?_ (ea_cons ?_ (ea_nil)))))))))))))
      · exact og_eq (.int .i64 (7)) rfl (fun f wf hq hd K hK => go_run rfl (wo_mv (.tmp 8) (.int .i64 (7)) (fun _ => rfl) e8 (hK _ (Mo.refl _))))
      · exact og_eq (.int .i64 (3)) rfl (fun f wf hq hd K hK => go_run rfl (wo_bin (fun x y => do eqGuard .quo 3 (.tmp 20) (.const (.int .i64 (2))) x y; binOp .quo 3 x y) (.tmp 20) (.const (.int .i64 (2))) (.int .i64 (7)) (.int .i64 (2)) (.int .i64 (3)) (fun _ => rfl) (hd 0 rfl) rfl (by kernel_rfl) (hK _ (Mo.refl _))))
      · exact og_eq (pt k3 3) rfl (fun f wf hq hd K hK => go_run rfl (wo_bin (fun x y => Instr.indexAt 24 x y) (.tmp 6) (.tmp 21) (pt k3 0) (.int .i64 (3)) (pt k3 3) (fun _ => rfl) e6 (hd 1 rfl) (by kernel_rfl) (hK _ (Mo.refl _))))
      · exact og_eq (.int .u64 0) rfl (fun f wf hq hd K hK => have Q3 := Q3.mo hq; go_run rfl (wo_load 22 (.tmp 22) (pt k3 3) (.int .u64 0) rfl (hd 2 rfl) (run_one Q3 22 3 rfl Tryd.underlying22 rfl) (hK _ (Mo.refl _))))
      · exact og_eq (.int .u64 (x 7)) rfl (fun f wf hq hd K hK => go_run rfl (wo_mv (.tmp 9) (.int .u64 (x 7)) (fun _ => rfl) rfl (hK _ (Mo.refl _))))
      · exact og_eq (.int .u64 10) rfl (fun f wf hq hd K hK => go_run rfl (wo_mv (.tmp 1) (.int .u64 10) (fun _ => rfl) e1 (hK _ (Mo.refl _))))
      · exact og_eq (.int .u64 (y 7)) rfl (fun f wf hq hd K hK => go_run rfl (wo_bin (fun x y => do eqGuard .quo 22 (.tmp 24) (.tmp 25) x y; binOp .quo 22 x y) (.tmp 24) (.tmp 25) (.int .u64 (x 7)) (.int .u64 10) (.int .u64 (y 7)) (fun _ => rfl) (hd 4 rfl) (hd 5 rfl) (quou_run hy (by omega) (by omega) _ _ _) (hK _ (Mo.refl _))))
      · exact og_eq (.int .i64 (7)) rfl (fun f wf hq hd K hK => go_run rfl (wo_mv (.tmp 8) (.int .i64 (7)) (fun _ => rfl) e8 (hK _ (Mo.refl _))))
      · exact og_eq (.int .i64 (1)) rfl (fun f wf hq hd K hK => go_run rfl (wo_bin (fun x y => do eqGuard .rem 3 (.tmp 27) (.const (.int .i64 (2))) x y; binOp .rem 3 x y) (.tmp 27) (.const (.int .i64 (2))) (.int .i64 (7)) (.int .i64 (2)) (.int .i64 (1)) (fun _ => rfl) (hd 7 rfl) rfl (by kernel_rfl) (hK _ (Mo.refl _))))
      · exact og_eq (.int .i64 (32)) rfl (fun f wf hq hd K hK => go_run rfl (wo_bin (fun x y => do eqGuard .mul 3 (.tmp 28) (.const (.int .i64 (32))) x y; binOp .mul 3 x y) (.tmp 28) (.const (.int .i64 (32))) (.int .i64 (1)) (.int .i64 (32)) (.int .i64 (32)) (fun _ => rfl) (hd 8 rfl) rfl (by kernel_rfl) (hK _ (Mo.refl _))))
      · exact og_eq (.int .u64 (y 7 * 4294967296)) rfl (fun f wf hq hd K hK => go_run rfl (wo_bin (fun x y => do eqGuard .shl 22 (.tmp 26) (.tmp 29) x y; binOp .shl 22 x y) (.tmp 26) (.tmp 29) (.int .u64 (y 7)) (.int .i64 (32)) (.int .u64 (y 7 * 4294967296)) (fun _ => rfl) (hd 6 rfl) (hd 9 rfl) (shli_run rfl (by omega) (by omega) _ _ _) (hK _ (Mo.refl _))))
      · exact og_eq (.int .u64 (y 7 * 4294967296)) rfl (fun f wf hq hd K hK => go_run rfl (wo_bin (fun x y => do eqGuard .add 22 (.tmp 23) (.tmp 30) x y; binOp .add 22 x y) (.tmp 23) (.tmp 30) (.int .u64 0) (.int .u64 (y 7 * 4294967296)) (.int .u64 (y 7 * 4294967296)) (fun _ => rfl) (hd 3 rfl) (hd 10 rfl) (addu_run (by omega) (by omega) (by omega) _ _ _) (hK _ (Mo.refl _))))
      · exact og_eq (pt k3 3) rfl (fun f wf hq hd K hK => go_run rfl (wo_bin (fun x y => Instr.indexAt 24 x y) (.tmp 6) (.tmp 21) (pt k3 0) (.int .i64 (3)) (pt k3 3) (fun _ => rfl) e6 (hd 1 rfl) (by kernel_rfl) (hK _ (Mo.refl _))))
    intro kf22 w22 hq hR hne
    replace Q1 := Q1.mo hq
    replace Q2 := Q2.mo hq
    replace Q3 := Q3.mo hq
    replace M := M.trans hq
    clear hq hR hne
    refine wl_st1 22 (.tmp 32) (.tmp 31) k3 3 (.int .u64 (y 7 * 4294967296)) [.int .u64 0, .int .u64 0, .int .u64 0, .int .u64 0] [.int .u64 0, .int .u64 0, .int .u64 0, .int .u64 (y 7 * 4294967296)] Q3 rfl rfl rfl rfl rfl sz22b rfl rfl rfl rfl ?_
    intro w23 hS Qn
    replace Q3 := Qn
    clear Qn
    replace Q1 := hS.other _ _ ne_k1_k3 Q1
    replace Q2 := hS.other _ _ ne_k2_k3 Q2
    replace M := hS.mo _ N_k3 M
    clear hS
    refine w_nil ?_
    refine xn_then ?_
    refine w_reg ?_
    refine wl_mv (.tmp 9) (.int .u64 (x 7)) (fun _ => rfl) rfl rfl ?_
    refine wl_mv (.tmp 1) (.int .u64 10) (fun _ => rfl) e1 rfl ?_
    refine wl_bin (fun x y => do eqGuard .rem 22 (.tmp 33) (.tmp 34) x y; binOp .rem 22 x y) (.tmp 33) (.tmp 34) (.int .u64 (x 7)) (.int .u64 10) (.int .u64 (r 7)) (fun _ => rfl) rfl rfl (remu_run hr (by omega) _ _ _) rfl ?_
    refine wl_mv (.tmp 35) (.int .u64 (r 7)) (fun _ => rfl) rfl rfl ?_
    refine w_nil ?_
    refine xn_blk ?_
    refine xn_then ?_
    refine w_reg ?_
    refine wl_mv (.tmp 8) (.int .i64 (7)) (fun _ => rfl) e8 rfl ?_
    refine wl_bin (fun x y => do eqGuard .sub 3 (.tmp 12) (.const (.int .i64 (1))) x y; binOp .sub 3 x y) (.tmp 12) (.const (.int .i64 (1))) (.int .i64 (7)) (.int .i64 (1)) (.int .i64 (6)) (fun _ => rfl) rfl rfl (by kernel_rfl) rfl ?_
    refine wl_mv (.tmp 13) (.int .i64 (6)) (fun _ => rfl) rfl rfl ?_
    refine w_nil ?_
    exact xn_loop 7 (by decide) ⟨by decide, rfl, rfl, e1, e2, e4, e6, Q1, Q2, Q3, M⟩
  · omega
/-- The rests, from the highest digit on. -/
def srd (n : Int) : Nat → Int
  | 0 => 0
  | j + 1 => (srd n j * 4294967296 + dg n (7 - j)) % 10
theorem srd_bd (n : Int) (j : Nat) : 0 ≤ srd n j ∧ srd n j < 10 := by
  cases j with
  | zero => show 0 ≤ (0 : Int) ∧ (0 : Int) < 10; decide
  | succ j => unfold srd; omega
theorem small_n (n : Int) (w : World) (h0 : 0 ≤ n) (h : n < MM) : Calls Tryd.prog 47 #[nv n, .int .u64 10] w fun e w' => e = .returned (.tuple #[nv (n / 10), .int .u64 (n % 10)]) ∧ Mo w w' := by
  have key := small_w n (fun i => srd n (7 - i) * 4294967296 + dg n i) (fun i => (srd n (7 - i) * 4294967296 + dg n i) / 10) (fun i => srd n (8 - i)) w rfl (fun i hi => ⟨by
      show srd n (8 - (i + 1)) * 4294967296 + dg n i = _
      rw [show 8 - (i + 1) = 7 - i by omega], rfl, by
      show _ = srd n (8 - i)
      rw [show 8 - i = (7 - i) + 1 by omega]
      show _ = (srd n (7 - i) * 4294967296 + dg n (7 - (7 - i))) % 10
      rw [show 7 - (7 - i) = i by omega]⟩) (fun i _ => srd_bd n _) (fun i _ => by
      have a := srd_bd n (7 - i); have b := dg_bd n i
      show 0 ≤ (srd n (7 - i) * 4294967296 + dg n i) / 10 ∧ (srd n (7 - i) * 4294967296 + dg n i) / 10 < 4294967296
      omega)
  have e0 : n = ((((((((dg n 7 * 4294967296 + dg n 6) * 4294967296 + dg n 5) * 4294967296 + dg n 4) * 4294967296 + dg n 3) * 4294967296 + dg n 2) * 4294967296 + dg n 1) * 4294967296 + dg n 0)) := by
    unfold dg MM at *; omega
  have b7 := dg_bd n 7
  have b6 := dg_bd n 6
  have b5 := dg_bd n 5
  have b4 := dg_bd n 4
  have b3 := dg_bd n 3
  have b2 := dg_bd n 2
  have b1 := dg_bd n 1
  have b0 := dg_bd n 0
  have s1 : srd n 1 = (0 * 4294967296 + dg n 7) % 10 := rfl
  have s2 : srd n 2 = (srd n 1 * 4294967296 + dg n 6) % 10 := rfl
  have s3 : srd n 3 = (srd n 2 * 4294967296 + dg n 5) % 10 := rfl
  have s4 : srd n 4 = (srd n 3 * 4294967296 + dg n 4) % 10 := rfl
  have s5 : srd n 5 = (srd n 4 * 4294967296 + dg n 3) % 10 := rfl
  have s6 : srd n 6 = (srd n 5 * 4294967296 + dg n 2) % 10 := rfl
  have s7 : srd n 7 = (srd n 6 * 4294967296 + dg n 1) % 10 := rfl
  have s8 : srd n 8 = (srd n 7 * 4294967296 + dg n 0) % 10 := rfl
  have z0 : srd n 0 = 0 := rfl
  have hQ : Value.agg (qc (fun i => (srd n (7 - i) * 4294967296 + dg n i) / 10) 0).toArray = nv (n / 10) ∧ srd n 8 = n % 10 := by
    show Value.agg #[.int .u64 ((srd n 6 * 4294967296 + dg n 1) / 10 * 4294967296 + (srd n 7 * 4294967296 + dg n 0) / 10), .int .u64 ((srd n 4 * 4294967296 + dg n 3) / 10 * 4294967296 + (srd n 5 * 4294967296 + dg n 2) / 10), .int .u64 ((srd n 2 * 4294967296 + dg n 5) / 10 * 4294967296 + (srd n 3 * 4294967296 + dg n 4) / 10), .int .u64 ((srd n 0 * 4294967296 + dg n 7) / 10 * 4294967296 + (srd n 1 * 4294967296 + dg n 6) / 10)] = nv (n / 10) ∧ srd n 8 = n % 10
    rw [z0]
    generalize srd n 1 = c1 at *
    generalize srd n 2 = c2 at *
    generalize srd n 3 = c3 at *
    generalize srd n 4 = c4 at *
    generalize srd n 5 = c5 at *
    generalize srd n 6 = c6 at *
    generalize srd n 7 = c7 at *
    generalize srd n 8 = c8 at *
    generalize dg n 7 = d7 at *
    generalize dg n 6 = d6 at *
    generalize dg n 5 = d5 at *
    generalize dg n 4 = d4 at *
    generalize dg n 3 = d3 at *
    generalize dg n 2 = d2 at *
    generalize dg n 1 = d1 at *
    generalize dg n 0 = d0 at *
    obtain ⟨y7, q7⟩ : ∃ y, (0 * 4294967296 + d7) / 10 = y := ⟨_, rfl⟩
    obtain ⟨y6, q6⟩ : ∃ y, (c1 * 4294967296 + d6) / 10 = y := ⟨_, rfl⟩
    obtain ⟨y5, q5⟩ : ∃ y, (c2 * 4294967296 + d5) / 10 = y := ⟨_, rfl⟩
    obtain ⟨y4, q4⟩ : ∃ y, (c3 * 4294967296 + d4) / 10 = y := ⟨_, rfl⟩
    obtain ⟨y3, q3⟩ : ∃ y, (c4 * 4294967296 + d3) / 10 = y := ⟨_, rfl⟩
    obtain ⟨y2, q2⟩ : ∃ y, (c5 * 4294967296 + d2) / 10 = y := ⟨_, rfl⟩
    obtain ⟨y1, q1⟩ : ∃ y, (c6 * 4294967296 + d1) / 10 = y := ⟨_, rfl⟩
    obtain ⟨y0, q0⟩ : ∃ y, (c7 * 4294967296 + d0) / 10 = y := ⟨_, rfl⟩
    rw [q7, q6, q5, q4, q3, q2, q1, q0]
    have t7 : d7 = 10 * y7 + c1 ∧ 0 ≤ y7 ∧ y7 < 4294967296 ∧ 0 ≤ c1 ∧ c1 < 10 := by omega
    have t6 : c1 * 4294967296 + d6 = 10 * y6 + c2 ∧ 0 ≤ y6 ∧ y6 < 4294967296 ∧ 0 ≤ c2 ∧ c2 < 10 := by omega
    have t5 : c2 * 4294967296 + d5 = 10 * y5 + c3 ∧ 0 ≤ y5 ∧ y5 < 4294967296 ∧ 0 ≤ c3 ∧ c3 < 10 := by omega
    have t4 : c3 * 4294967296 + d4 = 10 * y4 + c4 ∧ 0 ≤ y4 ∧ y4 < 4294967296 ∧ 0 ≤ c4 ∧ c4 < 10 := by omega
    have t3 : c4 * 4294967296 + d3 = 10 * y3 + c5 ∧ 0 ≤ y3 ∧ y3 < 4294967296 ∧ 0 ≤ c5 ∧ c5 < 10 := by omega
    have t2 : c5 * 4294967296 + d2 = 10 * y2 + c6 ∧ 0 ≤ y2 ∧ y2 < 4294967296 ∧ 0 ≤ c6 ∧ c6 < 10 := by omega
    have t1 : c6 * 4294967296 + d1 = 10 * y1 + c7 ∧ 0 ≤ y1 ∧ y1 < 4294967296 ∧ 0 ≤ c7 ∧ c7 < 10 := by omega
    have t0 : c7 * 4294967296 + d0 = 10 * y0 + c8 ∧ 0 ≤ y0 ∧ y0 < 4294967296 ∧ 0 ≤ c8 ∧ c8 < 10 := by omega
    clear s1 s2 s3 s4 s5 s6 s7 s8 q0 q1 q2 q3 q4 q5 q6 q7 b0 b1 b2 b3 b4 b5 b6 b7
    have hn : n = 10 * (((((((y7 * 4294967296 + y6) * 4294967296 + y5) * 4294967296 + y4) * 4294967296 + y3) * 4294967296 + y2) * 4294967296 + y1) * 4294967296 + y0) + c8 := by omega
    have hq : n / 10 = ((((((y7 * 4294967296 + y6) * 4294967296 + y5) * 4294967296 + y4) * 4294967296 + y3) * 4294967296 + y2) * 4294967296 + y1) * 4294967296 + y0 := by omega
    have hm : n % 10 = c8 := by omega
    rw [hq, hm]
    obtain ⟨_, u7, v7, _, _⟩ := t7
    obtain ⟨_, u6, v6, _, _⟩ := t6
    obtain ⟨_, u5, v5, _, _⟩ := t5
    obtain ⟨_, u4, v4, _, _⟩ := t4
    obtain ⟨_, u3, v3, _, _⟩ := t3
    obtain ⟨_, u2, v2, _, _⟩ := t2
    obtain ⟨_, u1, v1, _, _⟩ := t1
    obtain ⟨_, u0, v0, _, _⟩ := t0
    clear hn hq hm e0
    refine ⟨?_, rfl⟩
    unfold nv
    have g0 : l0 (((((((y7 * 4294967296 + y6) * 4294967296 + y5) * 4294967296 + y4) * 4294967296 + y3) * 4294967296 + y2) * 4294967296 + y1) * 4294967296 + y0) = y1 * 4294967296 + y0 := by unfold l0; omega
    have g1 : l1 (((((((y7 * 4294967296 + y6) * 4294967296 + y5) * 4294967296 + y4) * 4294967296 + y3) * 4294967296 + y2) * 4294967296 + y1) * 4294967296 + y0) = y3 * 4294967296 + y2 := by unfold l1; omega
    have g2 : l2 (((((((y7 * 4294967296 + y6) * 4294967296 + y5) * 4294967296 + y4) * 4294967296 + y3) * 4294967296 + y2) * 4294967296 + y1) * 4294967296 + y0) = y5 * 4294967296 + y4 := by unfold l2; omega
    have g3 : l3 (((((((y7 * 4294967296 + y6) * 4294967296 + y5) * 4294967296 + y4) * 4294967296 + y3) * 4294967296 + y2) * 4294967296 + y1) * 4294967296 + y0) = y7 * 4294967296 + y6 := by unfold l3; omega
    rw [g0, g1, g2, g3]
  rw [hQ.1] at key
  have e8 : srd n (8 - 0) = n % 10 := hQ.2
  rw [e8] at key
  exact key
end Go.Proofs.YtdcojpbgijkmgaaDoor
