/-
  Pieces of slices.
-/
import Derived.Test.YthghblgbjgghcaaRh
namespace Go.Proofs.Ythghblgbjgghcaa
open Go.RowKit D
theorem sll93 (ρ : Operand → Value) (x y : Operand) (b off n c k : Nat) (hx : ρ x = .slice (some ⟨b, off, none⟩) n c) (hy : ρ y = .int .i64 (k : Int)) (hk : k ≤ n) (hc : n ≤ c) (dst : Option Tmp) (type : TypeId) (pos : String) (after : Array Edge) (guard : Option (Nat × Bool)) (w : World) : (execOp ρ { dst, op := .slice 93 x (some y) none none, type, pos, after, guard }).run Try.prog w = .ok (.value (.slice (some ⟨b, if c = k then off else off + k * 2, none⟩) (n - k) (c - k))) w := by
  by_cases h : c = k
  · have h1 : n = k := by omega
    subst h1; subst h; simp [go_sem, hx, hy]
  · have h0 : ¬ c - k = 0 := by omega
    simp [go_sem, hx, hy, hk, h, Addr.add_mid]
theorem sll93n (ρ : Operand → Value) (x y : Operand) (hx : ρ x = .slice none 0 0) (hy : ρ y = .int .i64 ((0 : Nat) : Int)) (dst : Option Tmp) (type : TypeId) (pos : String) (after : Array Edge) (guard : Option (Nat × Bool)) (w : World) : (execOp ρ { dst, op := .slice 93 x (some y) none none, type, pos, after, guard }).run Try.prog w = .ok (.value (.slice none 0 0)) w := by
  simp [go_sem, hx, hy]
theorem slh93 (ρ : Operand → Value) (x y : Operand) (p : Option Addr) (n c k : Nat) (hx : ρ x = .slice p n c) (hy : ρ y = .int .i64 (k : Int)) (hk : k ≤ c) (dst : Option Tmp) (type : TypeId) (pos : String) (after : Array Edge) (guard : Option (Nat × Bool)) (w : World) : (execOp ρ { dst, op := .slice 93 x none (some y) none, type, pos, after, guard }).run Try.prog w = .ok (.value (.slice p k c)) w := by
  simp [go_sem, hx, hy, hk]
theorem sll32 (ρ : Operand → Value) (x y : Operand) (b off n c k : Nat) (hx : ρ x = .slice (some ⟨b, off, none⟩) n c) (hy : ρ y = .int .i64 (k : Int)) (hk : k ≤ n) (hc : n ≤ c) (dst : Option Tmp) (type : TypeId) (pos : String) (after : Array Edge) (guard : Option (Nat × Bool)) (w : World) : (execOp ρ { dst, op := .slice 32 x (some y) none none, type, pos, after, guard }).run Try.prog w = .ok (.value (.slice (some ⟨b, if c = k then off else off + k, none⟩) (n - k) (c - k))) w := by
  by_cases h : c = k
  · have h1 : n = k := by omega
    subst h1; subst h; simp [go_sem, hx, hy]
  · have h0 : ¬ c - k = 0 := by omega
    simp [go_sem, hx, hy, hk, h, Addr.add_mid]
theorem SL.drop {w : World} {n : Nat} {α : Type} {cells : α → List Value} {b off : Nat} {L : List α} (h : SL w n cells (some ⟨b, off, none⟩) L) (k : Nat) : SL w n cells (some ⟨b, off + k * n, none⟩) (L.drop k) := ⟨by have := h.1; simp; omega, fun i o e => by
  rw [List.getElem?_drop] at e
  obtain ⟨b', off', hp, hb, hr⟩ := h.2 (k + i) o e
  cases hp
  refine ⟨b, off + k * n, rfl, hb, ?_⟩
  rw [Nat.add_mul, ← Nat.add_assoc] at hr; exact hr⟩
theorem piece {N et sz : Nat} {α : Type} {cells : α → List Value} {w : World} {pv : Option Addr} {cv : Nat} {L : List α} (hl : ∀ x, (cells x).length = sz) (h : Ow N et sz cells w pv cv L) {k : Nat} (hk : k ≤ L.length) (hz : L.length ≤ maxLen) : (pv = none ∧ L = [] ∧ cv = 0 ∧ k = 0) ∨ ∃ g, pv = some ⟨g, 0, none⟩ ∧ L.length ≤ cv ∧ Tl w et sz cells (some ⟨g, if cv = k then 0 else 0 + k * sz, none⟩) (L.drop k) := by
  have hs := own_sl (cells := cells) hl hz h
  rcases h.2 with ⟨e, h0⟩ | ⟨g, c2, cur, e, hg, hb, hnc, _⟩
  · rw [Value.slice.injEq] at e
    obtain ⟨e1, _, e3⟩ := e
    have : L = [] := List.length_eq_zero_iff.1 h0
    subst this; exact Or.inl ⟨e1, rfl, e3, by simpa using hk⟩
  · cases e
    have hT : Ty w g et := ⟨cur.toList, by unfold Ob; rw [Array.toArray_toList]; exact hb⟩
    refine Or.inr ⟨g, rfl, hnc, ?_, fun a e => by cases e; exact hT⟩
    by_cases h1 : cv = k
    · have : L.drop k = [] := List.drop_eq_nil_of_le (by omega)
      rw [this]; exact ⟨Nat.zero_le _, fun i o e => by simp at e⟩
    · rw [if_neg h1]; exact SL.drop hs k
theorem piece93 {N : Nat} {w : World} {pv : Option Addr} {cv : Nat} {L : List (ByteArray × Int)} (h : Ow N 105 2 hc w pv cv L) {k : Nat} (hk : k ≤ L.length) (hz : L.length ≤ maxLen) : ∃ p2 c2, Tl w 105 2 hc p2 (L.drop k) ∧ ∀ (ρ : Operand → Value) (x y : Operand), ρ x = .slice pv L.length cv → ρ y = .int .i64 (k : Int) → ∀ (dst : Option Tmp) (type : TypeId) (pos : String) (after : Array Edge) (guard : Option (Nat × Bool)) (w' : World), (execOp ρ { dst, op := .slice 93 x (some y) none none, type, pos, after, guard }).run Try.prog w' = .ok (.value (.slice p2 (L.drop k).length c2)) w' := by
  rcases piece (cells := hc) (fun _ => rfl) h hk hz with ⟨rfl, rfl, rfl, rfl⟩ | ⟨g, rfl, h1, h2⟩
  · exact ⟨none, 0, ⟨⟨Nat.zero_le _, fun i o e => by simp at e⟩, fun a e => by cases e⟩, fun ρ x y hx hy dst type pos after guard w' => sll93n ρ x y hx hy dst type pos after guard w'⟩
  · refine ⟨_, cv - k, h2, fun ρ x y hx hy dst type pos after guard w' => ?_⟩
    rw [sll93 ρ x y g 0 L.length cv k hx hy hk h1 dst type pos after guard w', List.length_drop]
theorem sll32n (ρ : Operand → Value) (x y : Operand) (hx : ρ x = .slice none 0 0) (hy : ρ y = .int .i64 ((0 : Nat) : Int)) (dst : Option Tmp) (type : TypeId) (pos : String) (after : Array Edge) (guard : Option (Nat × Bool)) (w : World) : (execOp ρ { dst, op := .slice 32 x (some y) none none, type, pos, after, guard }).run Try.prog w = .ok (.value (.slice none 0 0)) w := by
  simp [go_sem, hx, hy]
theorem piece32 {N : Nat} {w : World} {pv : Option Addr} {cv : Nat} {L : List Nat} (h : Ow N 3 1 ic w pv cv L) {k : Nat} (hk : k ≤ L.length) (hz : L.length ≤ maxLen) : ∃ p2 c2, Tl w 3 1 ic p2 (L.drop k) ∧ ∀ (ρ : Operand → Value) (x y : Operand), ρ x = .slice pv L.length cv → ρ y = .int .i64 (k : Int) → ∀ (dst : Option Tmp) (type : TypeId) (pos : String) (after : Array Edge) (guard : Option (Nat × Bool)) (w' : World), (execOp ρ { dst, op := .slice 32 x (some y) none none, type, pos, after, guard }).run Try.prog w' = .ok (.value (.slice p2 (L.drop k).length c2)) w' := by
  rcases piece (cells := ic) (fun _ => rfl) h hk hz with ⟨rfl, rfl, rfl, rfl⟩ | ⟨g, rfl, h1, h2⟩
  · exact ⟨none, 0, ⟨⟨Nat.zero_le _, fun i o e => by simp at e⟩, fun a e => by cases e⟩, fun ρ x y hx hy dst type pos after guard w' => sll32n ρ x y hx hy dst type pos after guard w'⟩
  · refine ⟨_, cv - k, h2, fun ρ x y hx hy dst type pos after guard w' => ?_⟩
    rw [sll32 ρ x y g 0 L.length cv k hx hy hk h1 dst type pos after guard w', List.length_drop]
    simp
/-- Shortened, it is one's own still. -/
theorem Ow.cut {N et sz : Nat} {α : Type} {cells : α → List Value} {w : World} {pv : Option Addr} {cv : Nat} {L : List α} (hl : ∀ x, (cells x).length = sz) (h : Ow N et sz cells w pv cv L) {k : Nat} (hk : k ≤ L.length) : Ow N et sz cells w pv cv (L.take k) ∧ k ≤ cv := by
  have hfl : (L.take k).length = k := by simp; omega
  have hft : (L.take k).flatMap cells = (L.flatMap cells).take (k * sz) := by
    have e := congrArg (fun M => (M.flatMap cells).take (k * sz)) (List.take_append_drop k L).symm
    simp only [List.flatMap_append] at e
    rw [e, List.take_append_of_le_length (by rw [flat_len hl, hfl]; exact Nat.le_refl _)]
    exact (List.take_of_length_le (by rw [flat_len hl, hfl]; exact Nat.le_refl _)).symm
  rcases h.2 with ⟨e, h0⟩ | ⟨g, c2, cur, e, hg, hb, hnc, hcm, hcs, htk⟩
  · rw [Value.slice.injEq] at e
    obtain ⟨e1, _, e3⟩ := e
    subst e1; subst e3
    have : L = [] := List.length_eq_zero_iff.1 h0
    subst this
    have : k = 0 := by simpa using hk
    subst this
    exact ⟨⟨by simp, Or.inl ⟨rfl, rfl⟩⟩, Nat.le_refl _⟩
  · cases e
    refine ⟨⟨flat_len hl _, Or.inr ⟨g, cv, cur, rfl, hg, hb, by omega, hcm, hcs, ?_⟩⟩, by omega⟩
    rw [hft, ← htk, hfl, List.take_take, Nat.min_eq_left (Nat.mul_le_mul_right _ hk)]
end Go.Proofs.Ythghblgbjgghcaa
