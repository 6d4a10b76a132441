/-
  Whatever number is asked for: where it stands, what it reads, who reads it, what is below it.
-/
import Derived.Test.YthghblgbjgghcaaG42
namespace Go.Proofs.Ythghblgbjgghcaa
open Go.RowKit D Go.Proofs
theorem eq4t (b : Bool) (x y : Operand) (w : World) : (do eqGuard .eql 4 x y (.bool b) (.bool b); binOp .eql 4 (.bool b) (.bool b)).run Try.prog w = .ok (.bool true) w := by cases b <;> kernel_rfl
theorem nuA_form (l : List S5) (s j : Int) : ∃ (a : Int) (b : Bool), nuA l s j = .tuple #[.int .i64 a, .bool b] := by
  unfold nuA; split
  · exact ⟨_, _, rfl⟩
  · exact ⟨_, _, rfl⟩
/-- Where a number stands, or nowhere. -/
def OfP (l : List S5) (n a b : Int) (c : Bool) : Prop := (∃ (s j : Nat) (y : S5) (z : It), l[s]? = some y ∧ y.items[j]? = some z ∧ ((fsn l s + j : Nat) : Int) = n ∧ a = ((s : Nat) : Int) ∧ b = ((j : Nat) : Int) ∧ c = true) ∨ ((n < 0 ∨ ((nI l : Nat) : Int) ≤ n) ∧ a = 0 ∧ b = 0 ∧ c = false)
theorem of_one {l : List S5} {s j s' j' : Nat} {y y' : S5} (hy : l[s]? = some y) (hj : j < y.items.length) (hy' : l[s']? = some y') (hj' : j' < y'.items.length) (h : fsn l s + j = fsn l s' + j') : s = s' ∧ j = j' := by
  have h1 := fsn_s hy
  have h2 := fsn_s hy'
  rcases Nat.lt_trichotomy s s' with q | q | q
  · have := fsn_mono (l := l) (show s + 1 ≤ s' by omega); omega
  · subst q; exact ⟨rfl, by omega⟩
  · have := fsn_mono (l := l) (show s' + 1 ≤ s by omega); omega
theorem OfP.one {l : List S5} {n a b a' b' : Int} {c c' : Bool} (h : OfP l n a b c) (h' : OfP l n a' b' c') : a = a' ∧ b = b' ∧ c = c' := by
  rcases h with ⟨s, j, y, z, h1, h2, h3, rfl, rfl, rfl⟩ | ⟨h1, rfl, rfl, rfl⟩
  · rcases h' with ⟨s', j', y', z', k1, k2, k3, rfl, rfl, rfl⟩ | ⟨k1, rfl, rfl, rfl⟩
    · obtain ⟨rfl, rfl⟩ := of_one h1 (lt_of_get h2) k1 (lt_of_get k2) (by omega)
      exact ⟨rfl, rfl, rfl⟩
    · have := fsn_lt h1 (lt_of_get h2); omega
  · rcases h' with ⟨s', j', y', z', k1, k2, k3, rfl, rfl, rfl⟩ | ⟨k1, rfl, rfl, rfl⟩
    · have := fsn_lt k1 (lt_of_get k2); omega
    · exact ⟨rfl, rfl, rfl⟩
/-- What the item of any number reads. -/
def rowZ (l : List S5) (n : Int) : List Nat := if 0 ≤ n then row (RA l) n.toNat else []
theorem rowZ_nat (l : List S5) (m : Nat) : rowZ l ((m : Nat) : Int) = row (RA l) m := by unfold rowZ; rw [if_pos (by omega), Int.toNat_natCast]
theorem rowZ_neg {l : List S5} {n : Int} (h : n < 0) : rowZ l n = [] := by unfold rowZ; rw [if_neg (by omega)]
theorem rowZ_out {l : List S5} {m : Nat} (h : nI l ≤ m) : rowZ l ((m : Nat) : Int) = [] := by
  rw [rowZ_nat]; unfold row; rw [List.getElem?_eq_none (by rw [RA_len]; exact h)]; rfl
def usP (l : List S5) (n : Int) (u : Nat) : Bool := decide (∃ y ∈ row (RA l) u, ((y : Nat) : Int) = n)
theorem us_nat (l : List S5) (m : Nat) : ris (nI l) (fun u => decide (m ∈ row (RA l) u)) = ris (nI l) (usP l ((m : Nat) : Int)) := ris_congr (fun k _ => by
  unfold usP; rw [Bool.eq_iff_iff, decide_eq_true_eq, decide_eq_true_eq]
  exact ⟨fun h => ⟨m, h, rfl⟩, fun ⟨y, h, e⟩ => by have : y = m := (by omega); exact this ▸ h⟩)
theorem us_neg {l : List S5} {n : Int} (h : n < 0) : ris (nI l) (usP l n) = [] := by
  exact (ris_congr (p := usP l n) (q := fun _ => false) (fun k _ => decide_eq_false (fun ⟨y, _, e⟩ => by omega))).trans (ris_no _)
def BlP (l : List S5) (n : Int) (U : List Nat) : Prop := U.length ≤ nI l ∧ U.Pairwise (· < ·) ∧ ∀ u, u ∈ U ↔ 0 ≤ n ∧ Rch (RA l) u n.toNat
theorem BlP.one {l : List S5} {n : Int} {U U' : List Nat} (h : BlP l n U) (h' : BlP l n U') : U = U' := nat_ext _ _ h.2.1 h'.2.1 (fun u => (h.2.2 u).trans (h'.2.2 u).symm)
theorem cut3 (l : List S5) (n : Int) : n < 0 ∨ (∃ m : Nat, n = ((m : Nat) : Int) ∧ m < nI l) ∨ ∃ m : Nat, n = ((m : Nat) : Int) ∧ nI l ≤ m := by
  rcases Int.lt_or_le n 0 with h | h
  · exact Or.inl h
  · obtain ⟨m, rfl⟩ := Int.eq_ofNat_of_zero_le h
    rcases Nat.lt_or_ge m (nI l) with q | q
    · exact Or.inr (Or.inl ⟨m, rfl, q⟩)
    · exact Or.inr (Or.inr ⟨m, rfl, q⟩)
section
variable {w : World} {l : List S5} {pl : Option Addr} {cl : Nat} (hL : SL w 5 S5.cells pl l) (hLx : ∀ x ∈ l, LS5 w x) (hz : l.length < 400000) (hzI : nI l < 400000) (hnd : ∀ y ∈ l, ∀ z ∈ y.items, nd z.ex ≤ 3000000) (n : Int) (hn : n ≤ 9223372036854775807)
include hL hLx hz hzI hn
omit hLx in
theorem of12_any : Calls Try.prog 12 #[.slice pl l.length cl, .int .i64 n] w fun e w' => ∃ (a b : Int) (c : Bool), e = .returned (.tuple #[.int .i64 a, .int .i64 b, .bool c]) ∧ OfP l n a b c ∧ Mo w w' := by
  rcases cut3 l n with h | ⟨m, rfl, h⟩ | ⟨m, rfl, h⟩
  · exact (of12_neg h).mono fun e w' ⟨he, hq⟩ => ⟨_, _, _, he, Or.inr ⟨Or.inl h, rfl, rfl, rfl⟩, hq⟩
  · exact (of_n hL hz hzI h).mono fun e w' ⟨s, j, y, z, he, h1, h2, h3, hq⟩ => ⟨_, _, _, he, Or.inl ⟨s, j, y, z, h1, h2, by rw [h3], rfl, rfl, rfl⟩, hq⟩
  · exact (of12_out hL hz h (by omega)).mono fun e w' ⟨he, hq⟩ => ⟨_, _, _, he, Or.inr ⟨Or.inr (by omega), rfl, rfl, rfl⟩, hq⟩
omit hLx in
theorem of13_any : Calls Try.prog 13 #[.slice pl l.length cl, .int .i64 n] w fun e w' => ∃ (a b : Int) (c : Bool), e = .returned (.tuple #[.int .i64 a, .int .i64 b, .bool c]) ∧ OfP l n a b c ∧ Mo w w' := by
  rcases cut3 l n with h | ⟨m, rfl, h⟩ | ⟨m, rfl, h⟩
  · exact (of13_neg h).mono fun e w' ⟨he, hq⟩ => ⟨_, _, _, he, Or.inr ⟨Or.inl h, rfl, rfl, rfl⟩, hq⟩
  · exact (of13_n hL hz hzI h).mono fun e w' ⟨s, j, y, z, he, h1, h2, h3, hq⟩ => ⟨_, _, _, he, Or.inl ⟨s, j, y, z, h1, h2, by rw [h3], rfl, rfl, rfl⟩, hq⟩
  · exact (of13_out hL hz h (by omega)).mono fun e w' ⟨he, hq⟩ => ⟨_, _, _, he, Or.inr ⟨Or.inr (by omega), rfl, rfl, rfl⟩, hq⟩
theorem reads16_any : Calls Try.prog 16 #[.slice pl l.length cl, .int .i64 n] w fun e w' => ∃ (pa : Option Addr) (cap : Nat), e = .returned (.slice pa (rowZ l n).length cap) ∧ Li w' pa (rowZ l n) ∧ Mo w w' := by
  rcases cut3 l n with h | ⟨m, rfl, h⟩ | ⟨m, rfl, h⟩
  · rw [rowZ_neg h]; exact (reads16_neg h).mono fun e w' ⟨he, hq⟩ => ⟨none, 0, he, Li.nil _, hq⟩
  · rw [rowZ_nat]; exact reads16_n hL hLx hz hzI h
  · rw [rowZ_out h]; exact (reads16_out hL hz h (by omega)).mono fun e w' ⟨he, hq⟩ => ⟨none, 0, he, Li.nil _, hq⟩
include hnd
theorem reads15_any : Calls Try.prog 15 #[.slice pl l.length cl, .int .i64 n] w fun e w' => ∃ (pa : Option Addr) (cap : Nat), e = .returned (.slice pa (rowZ l n).length cap) ∧ Li w' pa (rowZ l n) ∧ Mo w w' := by
  rcases cut3 l n with h | ⟨m, rfl, h⟩ | ⟨m, rfl, h⟩
  · rw [rowZ_neg h]; exact (reads15_neg h).mono fun e w' ⟨he, hq⟩ => ⟨none, 0, he, Li.nil _, hq⟩
  · rw [rowZ_nat]; exact (reads15_n hL hLx hz hzI hnd h).mono fun e w' ⟨pa, cap, he, ho, hq⟩ => ⟨pa, cap, he, Li.own ho (by have := row_len l m; unfold maxLen; omega), hq⟩
  · rw [rowZ_out h]; exact (reads15_out hL hz h (by omega)).mono fun e w' ⟨he, hq⟩ => ⟨none, 0, he, Li.nil _, hq⟩
omit hn in
theorem users17_any : Calls Try.prog 17 #[.slice pl l.length cl, .int .i64 n] w fun e w' => ∃ (pa : Option Addr) (cap : Nat), e = .returned (.slice pa (ris (nI l) (usP l n)).length cap) ∧ Li w' pa (ris (nI l) (usP l n)) ∧ Mo w w' := by
  have hl := ris_len (nI l) (usP l n)
  rcases Int.lt_or_le n 0 with h | h
  · rw [us_neg h]; exact (users_neg hL hLx hz hzI hnd n h).mono fun e w' ⟨he, hq⟩ => ⟨none, 0, he, Li.nil _, hq⟩
  · obtain ⟨m, rfl⟩ := Int.eq_ofNat_of_zero_le h
    rw [← us_nat] at hl ⊢
    exact (users_nat hL hLx hz hzI hnd m).mono fun e w' ⟨pa, cap, he, ho, hq⟩ => ⟨pa, cap, he, Li.own ho (by unfold maxLen; omega), hq⟩
omit hn in
theorem below19_any : Calls Try.prog 19 #[.slice pl l.length cl, .int .i64 n] w fun e w' => ∃ (U : List Nat) (pa : Option Addr) (cap : Nat), e = .returned (.slice pa U.length cap) ∧ Li w' pa U ∧ BlP l n U ∧ Mo w w' :=
  (below_any hL hLx hz hzI hnd n).mono fun e w' ⟨U, pa, cap, he, ho, h1, h2, h3, hq⟩ => ⟨U, pa, cap, he, Li.own ho (by unfold maxLen; omega), ⟨h1, h2, h3⟩, hq⟩
omit hnd hn in
theorem h16_of : ∀ {u : World} {m : Nat}, Mo w u → m < nI l → Calls Try.prog 16 #[.slice pl l.length cl, .int .i64 ((m : Nat) : Int)] u fun e w' => ∃ (pa : Option Addr) (cap : Nat), e = .returned (.slice pa (row (RA l) m).length cap) ∧ Li w' pa (row (RA l) m) ∧ Mo u w' :=
  fun m q => reads16_n (hL.kp m.kp) (fun x hx => (hLx x hx).kp m.kp) hz hzI q
omit hnd hn in
theorem users18_any : Calls Try.prog 18 #[.slice pl l.length cl, .int .i64 n] w fun e w' => ∃ (pa : Option Addr) (cap : Nat), e = .returned (.slice pa (ris (nI l) (usP l n)).length cap) ∧ Li w' pa (ris (nI l) (usP l n)) ∧ Mo w w' :=
  (users18_n hL hz hzI (h16_of hL hLx hz hzI) n).mono fun e w' ⟨pa, cap, he, ho, hq⟩ => ⟨pa, cap, he, Li.own ho (by have := ris_len (nI l) (usP l n); unfold maxLen; omega), hq⟩
omit hnd hn in
theorem below20_any : Calls Try.prog 20 #[.slice pl l.length cl, .int .i64 n] w fun e w' => ∃ (U : List Nat) (pa : Option Addr) (cap : Nat), e = .returned (.slice pa U.length cap) ∧ Li w' pa U ∧ BlP l n U ∧ Mo w w' := by
  rcases cut3 l n with h | ⟨m, rfl, h⟩ | ⟨m, rfl, h⟩
  · exact (below20_neg hL hz hzI (h16_of hL hLx hz hzI) h).mono fun e w' ⟨he, hq⟩ => ⟨[], none, 0, he, Li.nil _, ⟨Nat.zero_le _, List.Pairwise.nil, fun u => ⟨fun q => by simp at q, fun q => by omega⟩⟩, hq⟩
  · refine (below20_n hL hz hzI (h16_of hL hLx hz hzI) h).mono ?_
    rintro e w' ⟨p, pa, cap, hp, rfl, ho, hq⟩
    have hl := ris_len (nI l) p
    refine ⟨_, pa, cap, rfl, Li.own ho (by unfold maxLen; omega), ⟨hl, ris_up _ _, fun u => ?_⟩, hq⟩
    rw [mem_ris, hp, Int.toNat_natCast]
    exact ⟨fun q => ⟨by omega, q.2⟩, fun q => ⟨by obtain ⟨f, hf⟩ := q.2; rw [← RA_len]; cases f with | zero => exact row_lt hf | succ f => obtain ⟨c, h1, _⟩ := hf; exact row_lt h1, q.2⟩⟩
  · refine (below20_out hL hz hzI (h16_of hL hLx hz hzI) h).mono fun e w' ⟨he, hq⟩ => ⟨[], none, 0, he, Li.nil _, ⟨Nat.zero_le _, List.Pairwise.nil, fun u => ⟨fun q => by simp at q, fun q => ?_⟩⟩, hq⟩
    have := q.2.lt (RA_in l)
    rw [RA_len, Int.toNat_natCast] at this
    omega
end
end Go.Proofs.Ythghblgbjgghcaa
