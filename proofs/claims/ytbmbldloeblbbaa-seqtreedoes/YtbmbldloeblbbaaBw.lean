/-
  Weights: what is mended is balanced; how deep a balanced tree is.
-/
import Derived.Test.YtbmbldloeblbbaaTq
namespace Go.Proofs.Ytbmbldloeblbbaa
open Go.RowKit
/-- No side weighs more than three times the other. -/
def T.bw : T → Prop
  | .e => True
  | .n _ _ _ l r => l.sz + 1 ≤ 3 * (r.sz + 1) ∧ r.sz + 1 ≤ 3 * (l.sz + 1) ∧ l.bw ∧ r.bw
theorem bal_bw {k : Nat} {i : Int} {l r : T} (hl : l.bw) (hr : r.bw) (h1 : l.sz + 1 ≤ 3 * (r.sz + 1) + 3) (h2 : r.sz + 1 ≤ 3 * (l.sz + 1) + 3) : (bal k i l r).bw := by
  unfold bal
  have hl0 := T.sz_nn l
  have hr0 := T.sz_nn r
  split
  · rename_i hh
    unfold lightL
    cases l with
    | e => simp only [T.sz] at hh; omega
    | n kk ii ss a b =>
      have ha0 := T.sz_nn a
      have hb0 := T.sz_nn b
      obtain ⟨q1, q2, q3, q4⟩ := hl
      cases hd : decide (2 * (a.sz + 1) ≤ b.sz + 1) with
      | false =>
        have hd' := of_decide_eq_false hd
        simp only [hd]
        simp only [T.bw, T.sz] at *
        refine ⟨by omega, by omega, q3, by omega, by omega, q4, hr⟩
      | true =>
        have hd' := of_decide_eq_true hd
        cases b with
        | e => simp only [T.sz] at hd'; omega
        | n j jj js c z =>
          have hc0 := T.sz_nn c
          have hz0 := T.sz_nn z
          obtain ⟨p1, p2, p3, p4⟩ := q4
          simp only [hd]
          simp only [T.bw, T.sz] at *
          refine ⟨by omega, by omega, ⟨by omega, by omega, q3, p3⟩, by omega, by omega, p4, hr⟩
  · rename_i hh
    split
    · rename_i hh2
      unfold lightR
      cases r with
      | e => simp only [T.sz] at hh2; omega
      | n kk ii ss b a =>
        have ha0 := T.sz_nn a
        have hb0 := T.sz_nn b
        obtain ⟨q1, q2, q4, q3⟩ := hr
        cases hd : decide (2 * (a.sz + 1) ≤ b.sz + 1) with
        | false =>
          have hd' := of_decide_eq_false hd
          simp only [hd]
          simp only [T.bw, T.sz] at *
          refine ⟨by omega, by omega, ⟨by omega, by omega, hl, q4⟩, q3⟩
        | true =>
          have hd' := of_decide_eq_true hd
          cases b with
          | e => simp only [T.sz] at hd'; omega
          | n j jj js c z =>
            have hc0 := T.sz_nn c
            have hz0 := T.sz_nn z
            obtain ⟨p1, p2, p3, p4⟩ := q4
            simp only [hd]
            simp only [T.bw, T.sz] at *
            refine ⟨by omega, by omega, ⟨by omega, by omega, hl, p3⟩, by omega, by omega, p4, q3⟩
    · exact ⟨by omega, by omega, hl, hr⟩
theorem jn_bw {f : Fr} {t : T} (h : (f.jn t).bw) : f.o.bw ∧ t.bw ∧ f.o.sz + 1 ≤ 3 * (t.sz + 1) ∧ t.sz + 1 ≤ 3 * (f.o.sz + 1) := by
  unfold Fr.jn at h
  cases hd : f.d with
  | true => rw [hd] at h; exact ⟨h.2.2.1, h.2.2.2, h.1, h.2.1⟩
  | false => rw [hd] at h; exact ⟨h.2.2.2, h.2.2.1, h.2.1, h.1⟩
theorem jn_sz (f : Fr) (t : T) : (f.jn t).sz = 1 + f.o.sz + t.sz := by
  unfold Fr.jn
  cases f.d <;> simp [T.sz] <;> omega
theorem plug_bw : ∀ {C : Cx} {t : T}, (plug C t).bw → t.bw
  | [], _, h => h
  | _ :: C, _, h => (jn_bw (plug_bw (C := C) h)).2.1
theorem rebuild_bw : ∀ (C : Cx) {t0 t1 : T}, (plug C t0).bw → t1.bw → t1.sz ≤ t0.sz + 1 → t0.sz ≤ t1.sz + 1 → (rebuild C t1).bw
  | [], _, _, _, h, _, _ => h
  | f :: C, t0, t1, h0, h, a, b => by
    obtain ⟨q1, _, q3, q4⟩ := jn_bw (plug_bw (C := C) h0)
    have hb : (balF f t1).bw := by
      unfold balF
      split
      · exact bal_bw q1 h (by omega) (by omega)
      · exact bal_bw h q1 (by omega) (by omega)
    exact rebuild_bw C (t0 := f.jn t0) h0 hb (by rw [balF_sz, jn_sz]; omega) (by rw [balF_sz, jn_sz]; omega)
theorem plug_bw_like : ∀ (C : Cx) {t u : T}, t.sz = u.sz → (t.bw → u.bw) → (plug C t).bw → (plug C u).bw
  | [], _, _, _, h, k => h k
  | f :: C, t, u, hs, h, k => by
    refine plug_bw_like C (t := f.jn t) (u := f.jn u) (by rw [jn_sz, jn_sz, hs]) (fun q => ?_) k
    unfold Fr.jn at q ⊢
    cases hd : f.d with
    | true => rw [hd] at q; exact ⟨by rw [← hs]; exact q.1, by rw [← hs]; exact q.2.1, q.2.2.1, h q.2.2.2⟩
    | false => rw [hd] at q; exact ⟨by rw [← hs]; exact q.1, by rw [← hs]; exact q.2.1, h q.2.2.1, q.2.2.2⟩
theorem Ins.bw {tr tr' : T} {at0 id : Int} {kn : Nat} (h : Ins tr at0 id kn tr') (hb : tr.bw) : tr'.bw := by
  obtain ⟨C, rfl, _, rfl⟩ := h
  exact rebuild_bw C hb ⟨by simp [T.sz], by simp [T.sz], trivial, trivial⟩ (by simp [T.sz]) (by simp [T.sz])
theorem Del.bw {tr tr' : T} {i p : Int} (h : Del tr i p tr') (hb : tr.bw) : tr'.bw := by
  obtain ⟨C, k, s, l, r, rfl, _, h⟩ := h
  have hn := plug_bw (C := C) hb
  rcases h with ⟨rfl, rfl⟩ | ⟨rfl, rfl⟩ | ⟨_, Ls, kn, i2, s2, b, hpl, _, rfl⟩
  · exact rebuild_bw C hb hn.2.2.2 (by simp only [T.sz]; omega) (by simp only [T.sz]; omega)
  · exact rebuild_bw C hb hn.2.2.1 (by simp only [T.sz]; omega) (by simp only [T.sz]; omega)
  · have h2 : (plug (Ls ++ (⟨k, i2, s, true, l⟩ : Fr) :: C) (.n kn i2 s2 .e b)).bw := by
      rw [plug_app, hpl]
      exact plug_bw_like C (t := .n k i s l r) rfl (fun q => q) hb
    exact rebuild_bw _ h2 (plug_bw h2).2.2.2 (by simp only [T.sz]; omega) (by simp only [T.sz]; omega)
/-- The least weight of a balanced tree of a height. -/
def mw : Nat → Int
  | 0 => 1
  | h + 1 => mw h + (mw h + 2) / 3
theorem mw_pos : ∀ h, 1 ≤ mw h
  | 0 => by decide
  | h + 1 => by have := mw_pos h; unfold mw; omega
theorem mw_mono : ∀ {a b : Nat}, a ≤ b → mw a ≤ mw b
  | a, 0, h => by rw [show a = 0 by omega]; exact Int.le_refl _
  | a, b + 1, h => by
    by_cases e : a = b + 1
    · rw [e]; exact Int.le_refl _
    · have := mw_mono (a := a) (b := b) (by omega)
      have := mw_pos b
      show mw a ≤ mw b + (mw b + 2) / 3
      omega
theorem bw_mw : ∀ {t : T}, t.bw → mw t.ht ≤ t.sz + 1
  | .e, _ => by decide
  | .n _ _ _ l r, h => by
    have hl := bw_mw h.2.2.1
    have hr := bw_mw h.2.2.2
    have h1 := h.1
    have h2 := h.2.1
    show mw (1 + max l.ht r.ht) ≤ 1 + l.sz + r.sz + 1
    by_cases hm : l.ht ≤ r.ht
    · rw [Nat.max_eq_right hm, Nat.add_comm]
      unfold mw
      omega
    · rw [Nat.max_eq_left (by omega), Nat.add_comm]
      unfold mw
      omega
/-- How many binary digits. -/
def bitc (n : Nat) : Nat := if h : n = 0 then 0 else 1 + bitc (n / 2)
termination_by n
decreasing_by omega
theorem bitc_0 : bitc 0 = 0 := by rw [bitc]; rfl
theorem bitc_s {n : Nat} (h : n ≠ 0) : bitc n = 1 + bitc (n / 2) := by rw [bitc, dif_neg h]
theorem bitc_mono : ∀ {b a : Nat}, a ≤ b → bitc a ≤ bitc b := by
  intro b
  induction b using Nat.strongRecOn with
  | ind b ih =>
    intro a h
    by_cases ha : a = 0
    · subst ha; rw [bitc_0]; omega
    · rw [bitc_s ha, bitc_s (show b ≠ 0 by omega)]
      have := ih (b / 2) (by omega) (a := a / 2) (by omega)
      omega
theorem ht_21 {t : T} (h : t.bw) (hs : t.sz ≤ 1024) : t.ht ≤ 21 := by
  have h1 := bw_mw h
  by_cases q : t.ht ≤ 21
  · exact q
  · have h2 := mw_mono (a := 22) (b := t.ht) (by omega)
    have h3 : mw 22 = 1163 := by decide
    omega
theorem bitc_pow : ∀ (e : Nat) {n : Nat}, 2 ^ e ≤ n → e + 1 ≤ bitc n
  | 0, n, h => by rw [bitc_s (show n ≠ 0 by omega)]; omega
  | e + 1, n, h => by
    rw [Nat.pow_succ] at h
    have hp : 1 ≤ 2 ^ e := Nat.one_le_two_pow
    rw [bitc_s (show n ≠ 0 by omega)]
    have := bitc_pow e (n := n / 2) (by omega)
    omega
/-- A balanced tree is no deeper than is promised. -/
theorem ht_bits {t : T} (h : t.bw) (hs : t.sz ≤ 1024) : t.ht ≤ 3 * bitc t.sz.toNat ∧ 11 * t.ht + 3 ≤ 24 * (1 + bitc t.sz.toNat) := by
  have h1 := bw_mw h
  have h21 := ht_21 h hs
  generalize t.ht = q at *
  generalize t.sz = z at *
  have hq : q = 0 ∨ q = 1 ∨ q = 2 ∨ q = 3 ∨ q = 4 ∨ q = 5 ∨ q = 6 ∨ q = 7 ∨ q = 8 ∨ q = 9 ∨ q = 10 ∨ q = 11 ∨ q = 12 ∨ q = 13 ∨ q = 14 ∨ q = 15 ∨ q = 16 ∨ q = 17 ∨ q = 18 ∨ q = 19 ∨ q = 20 ∨ q = 21 := by omega
  rcases hq with rfl | rfl | rfl | rfl | rfl | rfl | rfl | rfl | rfl | rfl | rfl | rfl | rfl | rfl | rfl | rfl | rfl | rfl | rfl | rfl | rfl | rfl
  · omega
  · have hm : mw 1 = 2 := by decide
    have := bitc_pow 0 (n := z.toNat) (by omega)
    omega
  · have hm : mw 2 = 3 := by decide
    have := bitc_pow 1 (n := z.toNat) (by omega)
    omega
  · have hm : mw 3 = 4 := by decide
    have := bitc_pow 1 (n := z.toNat) (by omega)
    omega
  · have hm : mw 4 = 6 := by decide
    have := bitc_pow 2 (n := z.toNat) (by omega)
    omega
  · have hm : mw 5 = 8 := by decide
    have := bitc_pow 2 (n := z.toNat) (by omega)
    omega
  · have hm : mw 6 = 11 := by decide
    have := bitc_pow 3 (n := z.toNat) (by omega)
    omega
  · have hm : mw 7 = 15 := by decide
    have := bitc_pow 3 (n := z.toNat) (by omega)
    omega
  · have hm : mw 8 = 20 := by decide
    have := bitc_pow 4 (n := z.toNat) (by omega)
    omega
  · have hm : mw 9 = 27 := by decide
    have := bitc_pow 4 (n := z.toNat) (by omega)
    omega
  · have hm : mw 10 = 36 := by decide
    have := bitc_pow 5 (n := z.toNat) (by omega)
    omega
  · have hm : mw 11 = 48 := by decide
    have := bitc_pow 5 (n := z.toNat) (by omega)
    omega
  · have hm : mw 12 = 64 := by decide
    have := bitc_pow 5 (n := z.toNat) (by omega)
    omega
  · have hm : mw 13 = 86 := by decide
    have := bitc_pow 6 (n := z.toNat) (by omega)
    omega
  · have hm : mw 14 = 115 := by decide
    have := bitc_pow 6 (n := z.toNat) (by omega)
    omega
  · have hm : mw 15 = 154 := by decide
    have := bitc_pow 7 (n := z.toNat) (by omega)
    omega
  · have hm : mw 16 = 206 := by decide
    have := bitc_pow 7 (n := z.toNat) (by omega)
    omega
  · have hm : mw 17 = 275 := by decide
    have := bitc_pow 8 (n := z.toNat) (by omega)
    omega
  · have hm : mw 18 = 367 := by decide
    have := bitc_pow 8 (n := z.toNat) (by omega)
    omega
  · have hm : mw 19 = 490 := by decide
    have := bitc_pow 8 (n := z.toNat) (by omega)
    omega
  · have hm : mw 20 = 654 := by decide
    have := bitc_pow 9 (n := z.toNat) (by omega)
    omega
  · have hm : mw 21 = 872 := by decide
    have := bitc_pow 9 (n := z.toNat) (by omega)
    omega
end Go.Proofs.Ytbmbldloeblbbaa
