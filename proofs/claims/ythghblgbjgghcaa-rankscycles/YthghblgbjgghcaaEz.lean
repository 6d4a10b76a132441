/-
  slices.Equal and slices.Contains at lists of numbers. An expression that is a name.
-/
import Derived.Test.YthghblgbjgghcaaG17
import Derived.Test.YthghblgbjgghcaaG19
namespace Go.Proofs.Ythghblgbjgghcaa
open Go.RowKit D Go.Lib
theorem drewN_mo {w : World} (q : Nat) : Mo w (w.drewN q) := ⟨⟨rfl, rfl, rfl, Nat.le_refl _, fun _ _ => rfl⟩, fun _ _ => rfl⟩
theorem sl_cells {w : World} {b off : Nat} {L : List Nat} (h : SL w 1 ic (some ⟨b, off, none⟩) L) : ∀ j, j < (L.map (fun n : Nat => (n : Int))).length → w.cell? ⟨b, off + j, none⟩ = some (.int .i64 ((L.map (fun n : Nat => (n : Int))).getD j 0)) := fun j hj => by
  have hj' : j < L.length := by simpa using hj
  obtain ⟨x, hx⟩ := get_of_lt hj'
  obtain ⟨b', off', e, _, hr⟩ := h.2 j x hx
  cases e
  have h9 := hr 0 _ rfl
  rw [Nat.mul_one, Nat.add_zero] at h9
  rw [h9]
  simp [hx]
theorem sl_addr {w : World} {pa : Option Addr} {L : List Nat} (h : SL w 1 ic pa L) (hn : L ≠ []) : ∃ b off, pa = some ⟨b, off, none⟩ := by
  obtain ⟨x, hx⟩ := get_of_lt (show 0 < L.length by rcases L with _ | _; exact (hn rfl).elim; simp)
  obtain ⟨b, off, e, _⟩ := h.2 0 x hx
  exact ⟨b, off, e⟩
theorem map_inj_nat : ∀ {L1 L2 : List Nat}, L1.map (fun n : Nat => (n : Int)) = L2.map (fun n : Nat => (n : Int)) → L1 = L2
  | [], [], _ => rfl
  | [], _ :: _, h => by cases h
  | _ :: _, [], h => by cases h
  | a :: x, b :: y, h => by
    simp only [List.map_cons, List.cons.injEq] at h
    rw [map_inj_nat h.2, show a = b by omega]
theorem equal_n {w : World} {p1 p2 : Option Addr} {L1 L2 : List Nat} (h1 : SL w 1 ic p1 L1) (h2 : SL w 1 ic p2 L2) (c1 c2 : Nat) : Calls Try.prog 14 #[.slice p1 L1.length c1, .slice p2 L2.length c2] w fun e w' => e = .returned (.bool (decide (L1 = L2))) ∧ Mo w w' := by
  have z1 := h1.1
  have z2 := h2.1
  unfold maxLen at z1 z2
  by_cases e1 : L1 = []
  · subst e1
    refine (Try.slices_Equal_int_empty p1 p2 c1 L2.length c2 w (by omega)).mono ?_
    rintro e w' ⟨rfl, rfl⟩
    refine ⟨?_, Mo.refl _⟩
    congr 2
    apply decide_eq_decide.2
    rw [List.length_eq_zero_iff]; exact eq_comm
  · by_cases e2 : L2 = []
    · subst e2
      have hl : L1.length ≠ 0 := fun e => e1 (List.length_eq_zero_iff.1 e)
      refine (Try.slices_Equal_int_lens p1 p2 L1.length c1 0 c2 w hl).mono ?_
      rintro e w' ⟨rfl, h⟩
      refine ⟨by rw [decide_eq_false e1], ?_⟩
      first | (subst h; exact Mo.refl _) | (obtain ⟨q, rfl⟩ := h; exact drewN_mo q)
    · obtain ⟨b1, o1, rfl⟩ := sl_addr h1 e1
      obtain ⟨b2, o2, rfl⟩ := sl_addr h2 e2
      refine (Try.slices_Equal_int b1 o1 L1.length c1 b2 o2 L2.length c2 (L1.map (fun n : Nat => (n : Int))) (L2.map (fun n : Nat => (n : Int))) w (by simp) (by simp) (by omega) (by omega) (sl_cells h1) (sl_cells h2)).mono ?_
      rintro e w' ⟨rfl, q, rfl⟩
      refine ⟨?_, drewN_mo q⟩
      rw [List.take_of_length_le (by simp), List.take_of_length_le (by simp)]
      congr 2
      by_cases e : L1 = L2
      · subst e; simp
      · rw [decide_eq_false e]
        apply Bool.eq_false_iff.2
        intro h
        exact e (map_inj_nat (eq_of_beq h))
theorem cont_n {w : World} {p : Option Addr} {L : List Nat} (h : SL w 1 ic p L) (c : Nat) (x : Nat) : Calls Try.prog 29 #[.slice p L.length c, .int .i64 ((x : Nat) : Int)] w fun e w' => e = .returned (.bool (decide (x ∈ L))) ∧ Mo w w' := by
  have z1 := h.1
  unfold maxLen at z1
  by_cases e1 : L = []
  · subst e1
    refine (Try.slices_Contains_int_empty p c x w).mono ?_
    rintro e w' ⟨rfl, rfl⟩
    exact ⟨by simp, Mo.refl _⟩
  · obtain ⟨b1, o1, rfl⟩ := sl_addr h e1
    refine (Try.slices_Contains_int b1 o1 L.length c (L.map (fun n : Nat => (n : Int))) x w (by simp) (by omega) (sl_cells h)).mono ?_
    rintro e w' ⟨rfl, rfl⟩
    refine ⟨?_, Mo.refl _⟩
    rw [List.take_of_length_le (by simp)]
    congr 2
    rw [List.contains_eq_mem]
    apply decide_eq_decide.2
    rw [List.mem_map]
    constructor
    · rintro ⟨a, ha, e⟩; rw [show x = a by omega]; exact ha
    · intro hx; exact ⟨x, hx, rfl⟩
/-! The literal of live. -/
def vl0 : Vl := ⟨0, ⟨false, 0, 0, 0, 0, 0⟩, false, ⟨#[]⟩, 0⟩
def exN (k : Int) (nm : ByteArray) : Ex := .mk k 0 nm ⟨#[]⟩ vl0 0 0 none 0 []
def itA : It := ⟨⟨#[97]⟩, 1, 0, 0, false, 0, exN 0 ⟨#[]⟩⟩
def itB : It := ⟨⟨#[98]⟩, 2, 0, 0, false, 0, exN 2 ⟨#[99]⟩⟩
def itC : It := ⟨⟨#[99]⟩, 2, 0, 0, false, 0, exN 2 ⟨#[97]⟩⟩
def l0 (k : Nat) : List S5 := [⟨-1, 1, ⟨#[]⟩, 0, some ⟨k, 0, none⟩, 3, [itA, itB, itC]⟩]
theorem nd_exN (k : Int) (nm : ByteArray) : nd (exN k nm) = 1 := by rw [nd_eq]; rfl
theorem gth_exN (l : List S5) (s : Int) (F : Fn) (k : Int) (nm : ByteArray) : gth l s F (exN k nm) = rdN l s F (exN k nm) := by
  rw [gth_eq]
  exact List.append_nil _
theorem rd_itA (k : Nat) : rdI (l0 k) 0 (FM (l0 k) 0) itA = [] := by
  have h : (if itA.k = 1 then [] else ris (nI (l0 k)) (fun q => decide (q ∈ rdN (l0 k) ((0 : Nat) : Int) (FM (l0 k) 0) (exN 0 ⟨#[]⟩)))) = [] := by kernel_rfl
  unfold rdI
  rw [show itA.ex = exN 0 ⟨#[]⟩ from rfl, gth_exN]
  exact h
theorem rd_itB (k : Nat) : rdI (l0 k) 0 (FM (l0 k) 0) itB = [2] := by
  have h : (if itB.k = 1 then [] else ris (nI (l0 k)) (fun q => decide (q ∈ rdN (l0 k) ((0 : Nat) : Int) (FM (l0 k) 0) (exN 2 ⟨#[99]⟩)))) = [2] := by kernel_rfl
  unfold rdI
  rw [show itB.ex = exN 2 ⟨#[99]⟩ from rfl, gth_exN]
  exact h
theorem rd_itC (k : Nat) : rdI (l0 k) 0 (FM (l0 k) 0) itC = [0] := by
  have h : (if itC.k = 1 then [] else ris (nI (l0 k)) (fun q => decide (q ∈ rdN (l0 k) ((0 : Nat) : Int) (FM (l0 k) 0) (exN 2 ⟨#[97]⟩)))) = [0] := by kernel_rfl
  unfold rdI
  rw [show itC.ex = exN 2 ⟨#[97]⟩ from rfl, gth_exN]
  exact h
theorem RA_l0 (k : Nat) : RA (l0 k) = [[], [2], [0]] := by
  have e : RA (l0 k) = [rdI (l0 k) 0 (FM (l0 k) 0) itA, rdI (l0 k) 0 (FM (l0 k) 0) itB, rdI (l0 k) 0 (FM (l0 k) 0) itC] := by kernel_rfl
  rw [e, rd_itA, rd_itB, rd_itC]
end Go.Proofs.Ythghblgbjgghcaa
namespace Go.Proofs.Ythghblgbjgghcaa
open Go.RowKit D
theorem lx_n (nm : ByteArray) (w : World) : Calls Try.prog 32 #[.string nm] w fun e w' => e = .returned (.agg #[.int .i64 2, .int .i64 0, .string nm, .string ⟨#[]⟩, .int .i64 0, .bool false, .int .u64 0, .int .u64 0, .int .u64 0, .int .u64 0, .int .i64 0, .bool false, .string ⟨#[]⟩, .int .i64 0, .int .i64 0, .int .i64 0, .slice none 0 0]) ∧ Mo w w' := by
  refine w_enter 5 Try.func32 Try.ntmps32 rfl rfl ?_
  have M : Mo w w := Mo.refl _
  refine w_seq ?_
  refine w_reg ?_
  refine wl_alloc 67 #[.int .i64 0, .int .i64 0, .string ⟨#[]⟩, .string ⟨#[]⟩, .int .i64 0, .bool false, .int .u64 0, .int .u64 0, .int .u64 0, .int .u64 0, .int .i64 0, .bool false, .string ⟨#[]⟩, .int .i64 0, .int .i64 0, .int .i64 0, .slice none 0 0] rfl (fun _ => by kernel_rfl) rfl ?_
  intro k1 u1 hk hz hq Q1
  have N_k1 : w.heap.size ≤ k1 := by have := M.size; omega
  replace M := M.trans hq
  clear hk hz hq
  refine w_nil ?_
  refine xn_then ?_
  refine w_seq ?_
  refine w_reg ?_
  refine wl_mv (.tmp 0) (.string nm) (fun _ => rfl) rfl rfl ?_
  refine wl_build 67 [(0, (.const (.int .i64 (2)))), (2, (.tmp 3))] [(0, .int .i64 (2)), (2, .string nm)] (.agg #[.int .i64 (2), .int .i64 0, .string nm, .string ⟨#[]⟩, .int .i64 0, .bool false, .int .u64 0, .int .u64 0, .int .u64 0, .int .u64 0, .int .i64 0, .bool false, .string ⟨#[]⟩, .int .i64 0, .int .i64 0, .int .i64 0, .slice none 0 0]) rfl rfl (by kernel_rfl) rfl ?_
  refine wl_st 67 (.tmp 2) (.tmp 4) k1 0 #[.int .i64 (2), .int .i64 0, .string nm, .string ⟨#[]⟩, .int .i64 0, .bool false, .int .u64 0, .int .u64 0, .int .u64 0, .int .u64 0, .int .i64 0, .bool false, .string ⟨#[]⟩, .int .i64 0, .int .i64 0, .int .i64 0, .slice none 0 0] [.int .i64 0, .int .i64 0, .string ⟨#[]⟩, .string ⟨#[]⟩, .int .i64 0, .bool false, .int .u64 0, .int .u64 0, .int .u64 0, .int .u64 0, .int .i64 0, .bool false, .string ⟨#[]⟩, .int .i64 0, .int .i64 0, .int .i64 0, .slice none 0 0] [.int .i64 (2), .int .i64 0, .string nm, .string ⟨#[]⟩, .int .i64 0, .bool false, .int .u64 0, .int .u64 0, .int .u64 0, .int .u64 0, .int .i64 0, .bool false, .string ⟨#[]⟩, .int .i64 0, .int .i64 0, .int .i64 0, .slice none 0 0] Q1 rfl rfl rfl rfl rfl sz67 rfl rfl rfl ?_
  intro u2 hS Qn
  replace Q1 := Qn
  clear Qn
  replace M := hS.mo _ N_k1 M
  clear hS
  refine w_nil ?_
  refine xn_then ?_
  refine w_ret ?_
  exact w_ret1 _ (.agg #[.int .i64 (2), .int .i64 0, .string nm, .string ⟨#[]⟩, .int .i64 0, .bool false, .int .u64 0, .int .u64 0, .int .u64 0, .int .u64 0, .int .i64 0, .bool false, .string ⟨#[]⟩, .int .i64 0, .int .i64 0, .int .i64 0, .slice none 0 0]) rfl ⟨k1, rfl, (run_row Q1 67 0 17 [.int .i64 (2), .int .i64 0, .string nm, .string ⟨#[]⟩, .int .i64 0, .bool false, .int .u64 0, .int .u64 0, .int .u64 0, .int .u64 0, .int .i64 0, .bool false, .string ⟨#[]⟩, .int .i64 0, .int .i64 0, .int .i64 0, .slice none 0 0] rfl Try.underlying67 rfl sz67)⟩ ⟨rfl, M⟩
end Go.Proofs.Ythghblgbjgghcaa
