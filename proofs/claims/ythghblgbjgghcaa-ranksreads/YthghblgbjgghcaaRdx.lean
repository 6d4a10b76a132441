/-
  What a node reads itself, by what the document asks; a rising list under way.
-/
import Derived.Test.YthghblgbjgghcaaGpa
import Derived.Test.YthghblgbjgghcaaGda
namespace Go.Proofs.Ythghblgbjgghcaa
open Go.RowKit D Go.Proofs
/-- A rising list of numbers below N lies there. -/
structure Ror (w : World) (pa : Option Addr) (cap : Nat) (L : List Nat) (N : Nat) : Prop where
  li : Li w pa L
  cp : L.length ≤ cap
  up : L.Pairwise (· < ·)
  lt : ∀ k ∈ L, k < N
theorem Ror.mo {w w' : World} {pa : Option Addr} {cap N : Nat} {L : List Nat} (h : Ror w pa cap L N) (m : Mo w w') : Ror w' pa cap L N := ⟨h.li.mo m, h.cp, h.up, h.lt⟩
theorem Ror.len {w : World} {pa : Option Addr} {cap N : Nat} {L : List Nat} (h : Ror w pa cap L N) : L.length ≤ N := nodup_le N L (h.up.imp (fun q => by omega)) h.lt
theorem Ror.nil (w : World) (N : Nat) : Ror w none 0 [] N := ⟨Li.nil w, Nat.le_refl _, List.Pairwise.nil, fun k hk => by cases hk⟩
theorem fnd_ok {l : List S5} {nm : ByteArray} {t j : Nat} : ∀ (f : Nat) (s : Int), fnd l f s nm = some (t, j) → ∃ y, l[t]? = some y ∧ j < y.items.length
  | 0, _, h => by cases h
  | f + 1, s, h => by
    unfold fnd at h
    split at h
    · rename_i hs
      obtain ⟨k, x, rfl, hx⟩ := hasS_get hs
      rw [Int.toNat_natCast] at h
      cases e : ownI (itn l k) nm with
      | some i =>
        rw [e] at h
        simp at h
        obtain ⟨rfl, rfl⟩ := h
        exact ⟨x, hx, by have := ownI_lt e; rw [itn_eq hx] at this; exact this⟩
      | none => rw [e] at h; exact fnd_ok f _ h
    · cases h
section
variable {l : List S5} {s : Nat} {x : Ex}
theorem rdN_name (hk : decide (x.k = 2) = true) {t j : Nat} (h : fnd l (l.length + 1) ((s : Nat) : Int) x.nm = some (t, j)) : rdN l ((s : Nat) : Int) (FM l ((s : Nat) : Int)) x = [fsn l t + j] := by
  have e : rdO l ((s : Nat) : Int) (FM l ((s : Nat) : Int)) x.k x.op x.nm x.se = ((fsn l t + j : Nat) : Int) := by
    unfold rdO FM; rw [if_pos (of_decide_eq_true hk), mean_fnd, h]; rfl
  unfold rdN; rw [e, if_neg (by omega), Int.toNat_natCast]
theorem rdN_name0 (hk : decide (x.k = 2) = true) (h : fnd l (l.length + 1) ((s : Nat) : Int) x.nm = none) : rdN l ((s : Nat) : Int) (FM l ((s : Nat) : Int)) x = [] := by
  have e : rdO l ((s : Nat) : Int) (FM l ((s : Nat) : Int)) x.k x.op x.nm x.se = -1 := by
    unfold rdO FM; rw [if_pos (of_decide_eq_true hk), mean_fnd, h]; rfl
  unfold rdN; rw [if_pos e]
theorem rdN_c (hk : decide (x.k = 10) = true) (ho : decide (x.op = 16) = false) : rdO l ((s : Nat) : Int) (FM l ((s : Nat) : Int)) x.k x.op x.nm x.se = col l ((s : Nat) : Int) x.se x.nm := by
  have h1 := of_decide_eq_true hk
  unfold rdO; rw [if_neg (by omega), if_pos ⟨h1, of_decide_eq_false ho⟩]
theorem rdN_col (hk : decide (x.k = 10) = true) (ho : decide (x.op = 16) = false) {k i : Nat} {y : S5} (hd : kidN l ((s : Nat) : Int) x.se = some k) (hy : l[k]? = some y) (hi : ownI y.items x.nm = some i) : rdN l ((s : Nat) : Int) (FM l ((s : Nat) : Int)) x = [fsn l k + i] := by
  have e : col l ((s : Nat) : Int) x.se x.nm = ((fsn l k + i : Nat) : Int) := by unfold col ownN; rw [hd]; simp only [itn_eq hy, hi]; rfl
  unfold rdN; rw [rdN_c hk ho, e, if_neg (by omega), Int.toNat_natCast]
theorem rdN_col0 (hk : decide (x.k = 10) = true) (ho : decide (x.op = 16) = false) {k : Nat} {y : S5} (hd : kidN l ((s : Nat) : Int) x.se = some k) (hy : l[k]? = some y) (hi : ownI y.items x.nm = none) : rdN l ((s : Nat) : Int) (FM l ((s : Nat) : Int)) x = [] := by
  have e : col l ((s : Nat) : Int) x.se x.nm = -1 := by unfold col ownN; rw [hd]; simp only [itn_eq hy, hi]; rfl
  unfold rdN; rw [rdN_c hk ho, if_pos e]
theorem rdN_kid0 (hk : decide (x.k = 10) = true) (ho : decide (x.op = 16) = false) (hd : kidN l ((s : Nat) : Int) x.se = none) : rdN l ((s : Nat) : Int) (FM l ((s : Nat) : Int)) x = [] := by
  have e : col l ((s : Nat) : Int) x.se x.nm = -1 := by unfold col; rw [hd]
  unfold rdN; rw [rdN_c hk ho, if_pos e]
theorem rdN_else (hk : decide (x.k = 2) = false) (ho : decide (x.k = 10) = false ∨ decide (x.op = 16) = true) : rdN l ((s : Nat) : Int) (FM l ((s : Nat) : Int)) x = [] := by
  have e : rdO l ((s : Nat) : Int) (FM l ((s : Nat) : Int)) x.k x.op x.nm x.se = -1 := by
    unfold rdO; rw [if_neg (of_decide_eq_false hk), if_neg]
    rintro ⟨h1, h2⟩
    rcases ho with q | q
    · exact of_decide_eq_false q h1
    · exact h2 (of_decide_eq_true q)
  unfold rdN; rw [if_pos e]
theorem rdN_lt (l : List S5) (s : Nat) (x : Ex) : ∀ k ∈ rdN l ((s : Nat) : Int) (FM l ((s : Nat) : Int)) x, k < nI l := fun k hk => gth_lt (Fok.FM l _) _ x k (by rw [gth_eq]; exact List.mem_append_left _ hk)
end
/-- What put tells, of such a list. -/
theorem Ror.put {w w' : World} {pa p2 : Option Addr} {cap c2 N n : Nat} {L L2 : List Nat} (h : Ror w pa cap L N) (hn : n < N) (h1 : Li w' p2 L2) (h2 : L2.length ≤ c2) (h3 : L2.Pairwise (· < ·)) (h4 : ∀ x, x ∈ L2 ↔ x ∈ L ∨ x = n) : Ror w' p2 c2 L2 N := ⟨h1, h2, h3, fun k hk => ((h4 k).1 hk).elim (h.lt k) (fun e => e ▸ hn)⟩
end Go.Proofs.Ythghblgbjgghcaa
