/-
  Plain facts on decimal digits: what Text writes is digits, and says its number.
-/
import Derived.Test.YtpfmccfogkgakaaText
import Derived.Test.YtpfmccfogkgakaaIsd
namespace Go.Proofs.Ytpfmccfogkgakaa
theorem strOf_list (ns : List Int) : (strOf ns).data.toList = ns.map (fun n => UInt8.ofNat n.toNat) := by
  have g : ∀ (l : List Int) (b : ByteArray), (l.foldl (fun r n => r.push (UInt8.ofNat n.toNat)) b).data.toList = b.data.toList ++ l.map (fun n => UInt8.ofNat n.toNat) := by
    intro l
    induction l with
    | nil => intro b; simp
    | cons x l ih => intro b; rw [List.foldl_cons, ih]; simp [ByteArray.push]
  unfold strOf
  rw [g]
  simp
theorem decF_digits : ∀ (f : Nat) (n : Int), ∀ d ∈ decF f n, 48 ≤ d ∧ d ≤ 57
  | 0, _, d, h => by simp [decF] at h
  | f + 1, n, d, h => by
    unfold decF at h
    split at h
    · simp at h; omega
    · rw [List.mem_append] at h
      rcases h with h | h
      · exact decF_digits f _ d h
      · simp at h; omega
theorem decF_len : ∀ (f : Nat) (n : Int), (decF f n).length ≤ f
  | 0, _ => by simp [decF]
  | f + 1, n => by
    unfold decF
    split
    · simp
    · have := decF_len f (n / 10)
      simp
      omega
theorem decF_ne {f : Nat} (n : Int) : decF (f + 1) n ≠ [] := by
  unfold decF
  split <;> simp
/-- The number of digits. -/
def dv (l : List Int) : Int := l.foldl (fun v d => v * 10 + (d - 48)) 0
theorem dv_snoc (l : List Int) (d : Int) : dv (l ++ [d]) = dv l * 10 + (d - 48) := by unfold dv; rw [List.foldl_append]; rfl
theorem decF_dv : ∀ (f : Nat) (n : Int), 0 ≤ n → n < 10 ^ f → dv (decF f n) = n
  | 0, n, h0, h => by simp at h; unfold decF dv; simp; omega
  | f + 1, n, h0, h => by
    unfold decF
    split
    · rw [show [48 + n % 10] = [] ++ [48 + n % 10] from rfl, dv_snoc]; unfold dv; simp; omega
    · rw [dv_snoc, decF_dv f (n / 10) (by omega) (by rw [Int.pow_succ] at h; omega)]; omega
theorem decF_head : ∀ (f : Nat) (n : Int), 0 < n → n < 10 ^ f → (decF f n).headD 0 ≠ 48
  | 0, n, h0, h => by simp at h; omega
  | f + 1, n, h0, h => by
    unfold decF
    split
    · simp; omega
    · rename_i hq
      have e := decF_head f (n / 10) (by omega) (by rw [Int.pow_succ] at h; omega)
      cases hf : decF f (n / 10) with
      | nil => rw [hf] at e; simp at e ⊢; cases f with
        | zero => simp at h; omega
        | succ g => exact absurd hf (decF_ne _)
      | cons a l => rw [hf] at e; simpa using e
theorem dv_from (l : List Int) : ∀ v : Int, 0 ≤ v → (∀ d ∈ l, 48 ≤ d ∧ d ≤ 57) → v ≤ l.foldl (fun v d => v * 10 + (d - 48)) v := by
  induction l with
  | nil => intro v _ _; exact Int.le_refl _
  | cons x l ih =>
    intro v hv h
    have hx := h x (by simp)
    have := ih (v * 10 + (x - 48)) (by omega) (fun d hd => h d (by simp [hd]))
    rw [List.foldl_cons]
    omega
theorem dv_take (l : List Int) (h : ∀ d ∈ l, 48 ≤ d ∧ d ≤ 57) (k : Nat) : 0 ≤ dv (l.take k) ∧ dv (l.take k) ≤ dv l := by
  have a : 0 ≤ dv (l.take k) := dv_from (l.take k) 0 (Int.le_refl 0) (fun d hd => h d (List.mem_of_mem_take hd))
  refine ⟨a, ?_⟩
  have e : dv l = (l.drop k).foldl (fun v d => v * 10 + (d - 48)) (dv (l.take k)) := by
    unfold dv; rw [← List.foldl_append, List.take_append_drop]
  rw [e]
  exact dv_from _ _ a (fun d hd => h d (List.mem_of_mem_drop hd))
end Go.Proofs.Ytpfmccfogkgakaa
