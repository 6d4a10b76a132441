/-
  The document's list: Index, put, cut, Insert, Delete, Move, At.
-/
import Derived.Test.YtbmbldloeblbbaaLa
namespace Go.Proofs.Ytbmbldloeblbbaa
open Go.RowKit
def rixN : List Int → Int → Option Nat
  | [], _ => none
  | x :: r, id => if x = id then some 0 else (rixN r id).map (· + 1)
/-- Where an id stands first; -1: nowhere. -/
def rix (L : List Int) (id : Int) : Int := match rixN L id with
  | none => -1
  | some i => (i : Int)
theorem rixN_at : ∀ (L : List Int) (id : Int) (i : Nat), (∀ j, j < i → L[j]? ≠ some id) → L[i]? = some id → rixN L id = some i
  | [], _, _, _, h => by cases h
  | x :: r, id, 0, _, h => by simp at h; unfold rixN; rw [if_pos h]
  | x :: r, id, i + 1, hn, h => by
    have h0 : x ≠ id := fun e => hn 0 (by omega) (by rw [e]; rfl)
    have := rixN_at r id i (fun j hj e => hn (j + 1) (by omega) (by simpa using e)) (by simpa using h)
    unfold rixN; rw [if_neg h0, this]; rfl
theorem rixN_out : ∀ (L : List Int) (id : Int), id ∉ L → rixN L id = none
  | [], _, _ => rfl
  | x :: r, id, h => by
    simp only [List.mem_cons, not_or] at h
    unfold rixN
    rw [if_neg (fun e => h.1 e.symm), rixN_out r id h.2]; rfl
theorem rix_out {L : List Int} {id : Int} (h : ∀ j, j < L.length → L[j]? ≠ some id) : rix L id = -1 := by
  unfold rix
  rw [rixN_out L id (fun hm => by
    obtain ⟨j, hj, e⟩ := List.getElem_of_mem hm
    exact h j hj (by rw [List.getElem?_eq_getElem hj, e]))]
theorem rix_no {L : List Int} {id : Int} (h : id ∉ L) : rix L id = -1 := by unfold rix; rw [rixN_out L id h]
theorem rix_at {L : List Int} {id : Int} {i : Nat} (h : ∀ j, j < i → L[j]? ≠ some id) (hi : L[i]? = some id) : rix L id = i := by
  unfold rix; rw [rixN_at L id i h hi]
theorem rix_nd {L : List Int} {id : Int} {i : Nat} (hn : L.Nodup) (hi : L[i]? = some id) : rix L id = i :=
  rix_at (fun j hj e => by
    obtain ⟨p1, q1⟩ := List.getElem?_eq_some_iff.1 hi
    obtain ⟨p2, q2⟩ := List.getElem?_eq_some_iff.1 e
    have := (List.getElem_inj hn).1 (q1.trans q2.symm)
    omega) hi
theorem no_succ {L : List Int} {id : Int} {i : Nat} (h : ∀ j, j < i → L[j]? ≠ some id) (hi : L[i]? ≠ some id) : ∀ j, j < i + 1 → L[j]? ≠ some id := fun j hj => by
  by_cases e : j = i
  · rw [e]; exact hi
  · exact h j (by omega)
def pmap (L : List Int) : List Value := L.map (fun i => Value.int .i64 i)
section
variable {w : World}
theorem idx_n {r cap : Nat} {p : Option Addr} {L : List Int} (Q : At w r [.slice p L.length cap]) (hSI : SI w p L) (hn : L.length ≤ 1048576) (id : Int) : Calls Try.prog 14 #[pt r 0, .int .i64 id] w fun e w' => e = .returned (.int .i64 (rix L id)) ∧ Mo w w' := by
  refine w_enter 25 Try.func14 Try.ntmps14 rfl rfl ?_
  have M : Mo w w := Mo.refl _
  refine w_seq ?_
  refine w_reg ?_
  refine wl_mv (.const (.int .i64 (0))) (.int .i64 (0)) (fun _ => rfl) rfl rfl ?_
  refine w_nil ?_
  refine xn_then ?_
  refine w_seq ?_
  refine w_seq ?_
  refine w_reg ?_
  refine wl_mv (.const (.int .i64 (0))) (.int .i64 (0)) (fun _ => rfl) rfl rfl ?_
  refine w_nil ?_
  refine xn_then ?_
  refine w_block ?_
  refine w_loop (fun m l wc => ∃ i : Nat, m + i = L.length ∧ look l 0 = pt r 0 ∧ look l 1 = .int .i64 id ∧ look l 5 = .int .i64 (i : Int) ∧ (∀ j, j < i → L[j]? ≠ some id) ∧ At wc r [.slice p L.length cap] ∧ SI wc p L ∧ Mo w wc) L.length ⟨0, by omega, rfl, rfl, rfl, fun j h => (by omega), Q, hSI, M⟩ ?_
  clear M Q hSI
  rintro m l wc ⟨i, hm, g0, g1, g5, hno, Q, hSI, M⟩
  refine w_seq ?_
  refine w_seq ?_
  cases hf0 : decide (((i : Nat) : Int) < (L.length : Int)) with
  | true =>
    have hf0p := of_decide_eq_true hf0
    refine w_reg ?_
    refine wl_mv (.tmp 5) (.int .i64 ((i : Nat) : Int)) (fun _ => rfl) g5 rfl ?_
    refine wl_mv (.tmp 0) (pt r 0) (fun _ => rfl) g0 rfl ?_
    refine wl_nc (.tmp 7) r 0 rfl rfl rfl ?_
    refine wl_un (fun v => Instr.fieldAt 28 v 0) (.tmp 8) (pt r 0) (pt r 0) (fun _ => rfl) rfl (by kernel_rfl) rfl ?_
    refine wl_load 26 (.tmp 9) (pt r 0) (.slice p L.length cap) rfl rfl (run_one Q 26 0 rfl Try.underlying26 rfl) rfl ?_
    refine wl_val (.int .i64 ((L.length : Int))) (len26 _ _ _ _ _ (by exact rfl) _ _ _ _ _ _) rfl ?_
    refine wl_bin (fun x y => do eqGuard .lss 3 (.tmp 6) (.tmp 11) x y; binOp .lss 3 x y) (.tmp 6) (.tmp 11) (.int .i64 ((i : Nat) : Int)) (.int .i64 ((L.length : Int))) (.bool true) (fun _ => rfl) rfl rfl (ltI hf0 _ _ _) rfl ?_
    refine w_nil ?_
    refine xn_then ?_
    refine w_condT rfl ?_
    refine w_skip ?_
    refine xn_then ?_
    refine w_seq ?_
    refine w_block ?_
    refine w_seq ?_
    cases hf1 : decide (L[i]?.getD 0 = id) with
    | true =>
      have hf1p := of_decide_eq_true hf1
      refine w_reg ?_
      refine wl_mv (.tmp 0) (pt r 0) (fun _ => rfl) g0 rfl ?_
      refine wl_nc (.tmp 15) r 0 rfl rfl rfl ?_
      refine wl_un (fun v => Instr.fieldAt 28 v 0) (.tmp 16) (pt r 0) (pt r 0) (fun _ => rfl) rfl (by kernel_rfl) rfl ?_
      refine wl_load 26 (.tmp 17) (pt r 0) (.slice p L.length cap) rfl rfl (run_one Q 26 0 rfl Try.underlying26 rfl) rfl ?_
      refine wl_mv (.tmp 5) (.int .i64 ((i : Nat) : Int)) (fun _ => rfl) g5 rfl ?_
      have hyi : L[i]? = some (L[i]?.getD 0) := by rw [List.getElem?_eq_getElem (by omega)]; rfl
      obtain ⟨b, off, hpb, hbl, hcx⟩ := hSI _ _ hyi
      refine wl_bin (fun x y => Instr.indexAt 26 x y) (.tmp 18) (.tmp 19) (.slice p L.length cap) (.int .i64 ((i : Nat) : Int)) (pt b (off + i)) (fun _ => rfl) rfl rfl (by rw [hpb]; exact ix26 b off i _ _ (by omega) _) rfl ?_
      refine wl_load 2 (.tmp 20) (pt b (off + i)) (.int .i64 (L[i]?.getD 0)) rfl rfl (ld2 hcx) rfl ?_
      refine wl_mv (.tmp 1) (.int .i64 (id)) (fun _ => rfl) g1 rfl ?_
      refine wl_bin (fun x y => do eqGuard .eql 2 (.tmp 21) (.tmp 22) x y; binOp .eql 2 x y) (.tmp 21) (.tmp 22) (.int .i64 (L[i]?.getD 0)) (.int .i64 (id)) (.bool true) (fun _ => rfl) rfl rfl (eqL hf1 _ _ _) rfl ?_
      refine w_nil ?_
      refine xn_then ?_
      refine w_condT rfl ?_
      refine w_seq ?_
      refine w_reg ?_
      refine wl_mv (.tmp 5) (.int .i64 ((i : Nat) : Int)) (fun _ => rfl) g5 rfl ?_
      refine wl_mv (.tmp 24) (.int .i64 ((i : Nat) : Int)) (fun _ => rfl) rfl rfl ?_
      refine w_nil ?_
      refine xn_then ?_
      refine w_ret ?_
      refine xr_blk ?_
      refine xr_then ?_
      refine xr_then ?_
      refine xr_blk ?_
      refine xr_then ?_
      exact w_ret1 _ (.int .i64 ((i : Nat) : Int)) rfl rfl ⟨by rw [rix_at hno (by rw [hyi, hf1p])], M⟩
    | false =>
      have hf1p := of_decide_eq_false hf1
      refine w_reg ?_
      refine wl_mv (.tmp 0) (pt r 0) (fun _ => rfl) g0 rfl ?_
      refine wl_nc (.tmp 15) r 0 rfl rfl rfl ?_
      refine wl_un (fun v => Instr.fieldAt 28 v 0) (.tmp 16) (pt r 0) (pt r 0) (fun _ => rfl) rfl (by kernel_rfl) rfl ?_
      refine wl_load 26 (.tmp 17) (pt r 0) (.slice p L.length cap) rfl rfl (run_one Q 26 0 rfl Try.underlying26 rfl) rfl ?_
      refine wl_mv (.tmp 5) (.int .i64 ((i : Nat) : Int)) (fun _ => rfl) g5 rfl ?_
      have hyi : L[i]? = some (L[i]?.getD 0) := by rw [List.getElem?_eq_getElem (by omega)]; rfl
      obtain ⟨b, off, hpb, hbl, hcx⟩ := hSI _ _ hyi
      refine wl_bin (fun x y => Instr.indexAt 26 x y) (.tmp 18) (.tmp 19) (.slice p L.length cap) (.int .i64 ((i : Nat) : Int)) (pt b (off + i)) (fun _ => rfl) rfl rfl (by rw [hpb]; exact ix26 b off i _ _ (by omega) _) rfl ?_
      refine wl_load 2 (.tmp 20) (pt b (off + i)) (.int .i64 (L[i]?.getD 0)) rfl rfl (ld2 hcx) rfl ?_
      refine wl_mv (.tmp 1) (.int .i64 (id)) (fun _ => rfl) g1 rfl ?_
      refine wl_bin (fun x y => do eqGuard .eql 2 (.tmp 21) (.tmp 22) x y; binOp .eql 2 x y) (.tmp 21) (.tmp 22) (.int .i64 (L[i]?.getD 0)) (.int .i64 (id)) (.bool false) (fun _ => rfl) rfl rfl (eqL hf1 _ _ _) rfl ?_
      refine w_nil ?_
      refine xn_then ?_
      refine w_condF rfl ?_
      refine w_skip ?_
      refine xn_blk ?_
      refine xn_then ?_
      refine w_reg ?_
      refine wl_mv (.tmp 5) (.int .i64 ((i : Nat) : Int)) (fun _ => rfl) g5 rfl ?_
      refine wl_bin (fun x y => do eqGuard .add 3 (.tmp 13) (.const (.int .i64 (1))) x y; binOp .add 3 x y) (.tmp 13) (.const (.int .i64 (1))) (.int .i64 ((i : Nat) : Int)) (.int .i64 (1)) (.int .i64 ((i + 1 : Nat) : Int)) (fun _ => rfl) rfl rfl (add1r (by omega) _ _ _) rfl ?_
      refine wl_mv (.tmp 14) (.int .i64 ((i + 1 : Nat) : Int)) (fun _ => rfl) rfl rfl ?_
      refine w_nil ?_
      exact xn_loop (m - 1) (by omega) ⟨i + 1, by omega, g0, g1, rfl, no_succ hno (fun e => hf1p (by rw [e]; rfl)), Q, hSI, M⟩
  | false =>
    have hf0p := of_decide_eq_false hf0
    refine w_reg ?_
    refine wl_mv (.tmp 5) (.int .i64 ((i : Nat) : Int)) (fun _ => rfl) g5 rfl ?_
    refine wl_mv (.tmp 0) (pt r 0) (fun _ => rfl) g0 rfl ?_
    refine wl_nc (.tmp 7) r 0 rfl rfl rfl ?_
    refine wl_un (fun v => Instr.fieldAt 28 v 0) (.tmp 8) (pt r 0) (pt r 0) (fun _ => rfl) rfl (by kernel_rfl) rfl ?_
    refine wl_load 26 (.tmp 9) (pt r 0) (.slice p L.length cap) rfl rfl (run_one Q 26 0 rfl Try.underlying26 rfl) rfl ?_
    refine wl_val (.int .i64 ((L.length : Int))) (len26 _ _ _ _ _ (by exact rfl) _ _ _ _ _ _) rfl ?_
    refine wl_bin (fun x y => do eqGuard .lss 3 (.tmp 6) (.tmp 11) x y; binOp .lss 3 x y) (.tmp 6) (.tmp 11) (.int .i64 ((i : Nat) : Int)) (.int .i64 ((L.length : Int))) (.bool false) (fun _ => rfl) rfl rfl (ltI hf0 _ _ _) rfl ?_
    refine w_nil ?_
    refine xn_then ?_
    refine w_condF rfl ?_
    refine w_exit ?_
    refine xx_then ?_
    refine xx_then ?_
    refine xx_blk ?_
    refine xn_then ?_
    refine w_seq ?_
    refine w_reg ?_
    refine wl_mv (.const (.int .i64 (-1))) (.int .i64 (-1)) (fun _ => rfl) rfl rfl ?_
    refine w_nil ?_
    refine xn_then ?_
    refine w_ret ?_
    exact w_ret1 _ (.int .i64 (-1)) rfl rfl ⟨by rw [rix_out (fun j hj => hno j (by omega))], M⟩
theorem rat_a {r : Nat} (a : Int) (q0 : decide (a < 0) = true) : Calls Try.prog 12 #[pt r 0, .int .i64 a] w fun e w' => e = .returned (.tuple #[.int .i64 0, .bool false]) ∧ Mo w w' := by
  refine w_enter 24 Try.func12 Try.ntmps12 rfl rfl ?_
  have M : Mo w w := Mo.refl _
  refine w_seq ?_
  refine w_reg ?_
  refine wl_mv (.const (.int .i64 (0))) (.int .i64 (0)) (fun _ => rfl) rfl rfl ?_
  refine wl_mv (.const (.bool false)) (.bool false) (fun _ => rfl) rfl rfl ?_
  refine w_nil ?_
  refine xn_then ?_
  refine w_seq ?_
  refine w_seq ?_
  refine w_reg ?_
  refine wl_mv (.tmp 1) (.int .i64 (a)) (fun _ => rfl) rfl rfl ?_
  refine wl_bin (fun x y => do eqGuard .lss 3 (.tmp 6) (.const (.int .i64 (0))) x y; binOp .lss 3 x y) (.tmp 6) (.const (.int .i64 (0))) (.int .i64 (a)) (.int .i64 (0)) (.bool true) (fun _ => rfl) rfl rfl (ltI q0 _ _ _) rfl ?_
  refine wl_mv (.tmp 7) (.bool true) (fun _ => rfl) rfl rfl ?_
  refine wl_skip rfl ?_
  refine wl_skip rfl ?_
  refine wl_skip rfl ?_
  refine wl_skip rfl ?_
  refine wl_skip rfl ?_
  refine wl_skip rfl ?_
  refine wl_skip rfl ?_
  refine wl_pick (.tmp 8) (.const (.bool true)) (.tmp 15) true (.bool true) (fun _ => rfl) rfl rfl rfl ?_
  refine w_nil ?_
  refine xn_then ?_
  refine w_condT rfl ?_
  refine w_seq ?_
  refine w_reg ?_
  refine wl_mv (.const (.int .i64 (0))) (.int .i64 (0)) (fun _ => rfl) rfl rfl ?_
  refine wl_mv (.const (.bool false)) (.bool false) (fun _ => rfl) rfl rfl ?_
  refine w_nil ?_
  refine xn_then ?_
  refine w_ret ?_
  refine xr_then ?_
  exact w_ret2 _ _ (.int .i64 (0)) (.bool false) rfl rfl rfl ⟨rfl, M⟩
theorem rat_b {r cap : Nat} {p : Option Addr} {L : List Int} (Q : At w r [.slice p L.length cap]) (a : Int) (q0 : decide (a < 0) = false) (q1 : decide ((L.length : Int) ≤ a) = true) : Calls Try.prog 12 #[pt r 0, .int .i64 a] w fun e w' => e = .returned (.tuple #[.int .i64 0, .bool false]) ∧ Mo w w' := by
  refine w_enter 24 Try.func12 Try.ntmps12 rfl rfl ?_
  have M : Mo w w := Mo.refl _
  refine w_seq ?_
  refine w_reg ?_
  refine wl_mv (.const (.int .i64 (0))) (.int .i64 (0)) (fun _ => rfl) rfl rfl ?_
  refine wl_mv (.const (.bool false)) (.bool false) (fun _ => rfl) rfl rfl ?_
  refine w_nil ?_
  refine xn_then ?_
  refine w_seq ?_
  refine w_seq ?_
  refine w_reg ?_
  refine wl_mv (.tmp 1) (.int .i64 (a)) (fun _ => rfl) rfl rfl ?_
  refine wl_bin (fun x y => do eqGuard .lss 3 (.tmp 6) (.const (.int .i64 (0))) x y; binOp .lss 3 x y) (.tmp 6) (.const (.int .i64 (0))) (.int .i64 (a)) (.int .i64 (0)) (.bool false) (fun _ => rfl) rfl rfl (ltI q0 _ _ _) rfl ?_
  refine wl_mv (.tmp 7) (.bool false) (fun _ => rfl) rfl rfl ?_
  refine wl_mv (.tmp 1) (.int .i64 (a)) (fun _ => rfl) rfl rfl ?_
  refine wl_mv (.tmp 0) (pt r 0) (fun _ => rfl) rfl rfl ?_
  refine wl_nc (.tmp 10) r 0 rfl rfl rfl ?_
  refine wl_un (fun v => Instr.fieldAt 28 v 0) (.tmp 11) (pt r 0) (pt r 0) (fun _ => rfl) rfl (by kernel_rfl) rfl ?_
  refine wl_load 26 (.tmp 12) (pt r 0) (.slice p L.length cap) rfl rfl (run_one Q 26 0 rfl Try.underlying26 rfl) rfl ?_
  refine wl_val (.int .i64 ((L.length : Int))) (len26 _ _ _ _ _ (by exact rfl) _ _ _ _ _ _) rfl ?_
  refine wl_bin (fun x y => do eqGuard .geq 3 (.tmp 9) (.tmp 14) x y; binOp .geq 3 x y) (.tmp 9) (.tmp 14) (.int .i64 (a)) (.int .i64 ((L.length : Int))) (.bool true) (fun _ => rfl) rfl rfl (geI q1 _ _ _) rfl ?_
  refine wl_pick (.tmp 8) (.const (.bool true)) (.tmp 15) false (.bool true) (fun _ => rfl) rfl rfl rfl ?_
  refine w_nil ?_
  refine xn_then ?_
  refine w_condT rfl ?_
  refine w_seq ?_
  refine w_reg ?_
  refine wl_mv (.const (.int .i64 (0))) (.int .i64 (0)) (fun _ => rfl) rfl rfl ?_
  refine wl_mv (.const (.bool false)) (.bool false) (fun _ => rfl) rfl rfl ?_
  refine w_nil ?_
  refine xn_then ?_
  refine w_ret ?_
  refine xr_then ?_
  exact w_ret2 _ _ (.int .i64 (0)) (.bool false) rfl rfl rfl ⟨rfl, M⟩
theorem rat_c {r cap k : Nat} {p : Option Addr} {L : List Int} {x : Int} (Q : At w r [.slice p L.length cap]) (hSI : SI w p L) (hyi : L[k]? = some x) : Calls Try.prog 12 #[pt r 0, .int .i64 (k : Int)] w fun e w' => e = .returned (.tuple #[.int .i64 x, .bool true]) ∧ Mo w w' := by
  have hlt := (List.getElem?_eq_some_iff.1 hyi).1
  have q0 : decide (((k : Nat) : Int) < 0) = false := decide_eq_false (by omega)
  have q1 : decide ((L.length : Int) ≤ ((k : Nat) : Int)) = false := decide_eq_false (by omega)
  refine w_enter 24 Try.func12 Try.ntmps12 rfl rfl ?_
  have M : Mo w w := Mo.refl _
  refine w_seq ?_
  refine w_reg ?_
  refine wl_mv (.const (.int .i64 (0))) (.int .i64 (0)) (fun _ => rfl) rfl rfl ?_
  refine wl_mv (.const (.bool false)) (.bool false) (fun _ => rfl) rfl rfl ?_
  refine w_nil ?_
  refine xn_then ?_
  refine w_seq ?_
  refine w_seq ?_
  refine w_reg ?_
  refine wl_mv (.tmp 1) (.int .i64 ((k : Nat) : Int)) (fun _ => rfl) rfl rfl ?_
  refine wl_bin (fun x y => do eqGuard .lss 3 (.tmp 6) (.const (.int .i64 (0))) x y; binOp .lss 3 x y) (.tmp 6) (.const (.int .i64 (0))) (.int .i64 ((k : Nat) : Int)) (.int .i64 (0)) (.bool false) (fun _ => rfl) rfl rfl (ltI q0 _ _ _) rfl ?_
  refine wl_mv (.tmp 7) (.bool false) (fun _ => rfl) rfl rfl ?_
  refine wl_mv (.tmp 1) (.int .i64 ((k : Nat) : Int)) (fun _ => rfl) rfl rfl ?_
  refine wl_mv (.tmp 0) (pt r 0) (fun _ => rfl) rfl rfl ?_
  refine wl_nc (.tmp 10) r 0 rfl rfl rfl ?_
  refine wl_un (fun v => Instr.fieldAt 28 v 0) (.tmp 11) (pt r 0) (pt r 0) (fun _ => rfl) rfl (by kernel_rfl) rfl ?_
  refine wl_load 26 (.tmp 12) (pt r 0) (.slice p L.length cap) rfl rfl (run_one Q 26 0 rfl Try.underlying26 rfl) rfl ?_
  refine wl_val (.int .i64 ((L.length : Int))) (len26 _ _ _ _ _ (by exact rfl) _ _ _ _ _ _) rfl ?_
  refine wl_bin (fun x y => do eqGuard .geq 3 (.tmp 9) (.tmp 14) x y; binOp .geq 3 x y) (.tmp 9) (.tmp 14) (.int .i64 ((k : Nat) : Int)) (.int .i64 ((L.length : Int))) (.bool false) (fun _ => rfl) rfl rfl (geI q1 _ _ _) rfl ?_
  refine wl_pick (.tmp 8) (.const (.bool true)) (.tmp 15) false (.bool false) (fun _ => rfl) rfl rfl rfl ?_
  refine w_nil ?_
  refine xn_then ?_
  refine w_condF rfl ?_
  refine w_skip ?_
  refine xn_then ?_
  refine w_seq ?_
  refine w_reg ?_
  refine wl_mv (.tmp 0) (pt r 0) (fun _ => rfl) rfl rfl ?_
  refine wl_nc (.tmp 17) r 0 rfl rfl rfl ?_
  refine wl_un (fun v => Instr.fieldAt 28 v 0) (.tmp 18) (pt r 0) (pt r 0) (fun _ => rfl) rfl (by kernel_rfl) rfl ?_
  refine wl_load 26 (.tmp 19) (pt r 0) (.slice p L.length cap) rfl rfl (run_one Q 26 0 rfl Try.underlying26 rfl) rfl ?_
  refine wl_mv (.tmp 1) (.int .i64 ((k : Nat) : Int)) (fun _ => rfl) rfl rfl ?_
  obtain ⟨b, off, hpb, hbl, hcx⟩ := hSI _ _ hyi
  refine wl_bin (fun x y => Instr.indexAt 26 x y) (.tmp 20) (.tmp 21) (.slice p L.length cap) (.int .i64 ((k : Nat) : Int)) (pt b (off + k)) (fun _ => rfl) rfl rfl (by rw [hpb]; exact ix26 b off k _ _ (by omega) _) rfl ?_
  refine wl_load 2 (.tmp 22) (pt b (off + k)) (.int .i64 x) rfl rfl (ld2 hcx) rfl ?_
  refine wl_mv (.tmp 23) (.int .i64 x) (fun _ => rfl) rfl rfl ?_
  refine wl_mv (.const (.bool true)) (.bool true) (fun _ => rfl) rfl rfl ?_
  refine w_nil ?_
  refine xn_then ?_
  refine w_ret ?_
  exact w_ret2 _ _ (.int .i64 x) (.bool true) rfl rfl rfl ⟨rfl, M⟩
theorem own_one {w : World} {N : Nat} {v : Value} {n : Nat} {xs : List Value} (h : w.ownsRow N 2 1 v n xs) : v.cells = #[v] ∧ v.oneCell' = true := by
  rcases h.2 with ⟨rfl, _⟩ | ⟨g, cap, cur, rfl, _⟩
  · exact ⟨rfl, rfl⟩
  · exact ⟨rfl, rfl⟩
theorem cut_n {r cap k : Nat} {p : Option Addr} {L : List Int} (Q : At w r [.slice p L.length cap]) (hSI : SI w p L) (hcap : L.length ≤ cap) (hpn : p = none → cap = 0) (hpa : plainA p) (hn : L.length ≤ 1048576) (hk : k < L.length) : Calls Try.prog 38 #[pt r 0, .int .i64 (k : Int)] w fun e w' => e = .returned (.tuple #[]) ∧ ∃ v, At w' r [v] ∧ w'.ownsRow w.heap.size 2 1 v (L.take k ++ L.drop (k + 1)).length ((L.take k ++ L.drop (k + 1)).map (fun i => Value.int .i64 i)) ∧ v.ownBlock ≠ some r ∧ Mk (fun j => j = r) w w' := by
  have hrl := Q.lt
  refine w_enter 24 Try.func38 Try.ntmps38 rfl rfl ?_
  have M : Mo w w := Mo.refl _
  refine w_seq ?_
  refine w_reg ?_
  refine wl_mv (.tmp 0) (pt r 0) (fun _ => rfl) rfl rfl ?_
  refine wl_nc (.tmp 5) r 0 rfl rfl rfl ?_
  refine wl_un (fun v => Instr.fieldAt 28 v 0) (.tmp 6) (pt r 0) (pt r 0) (fun _ => rfl) rfl (by kernel_rfl) rfl ?_
  refine wl_load 26 (.tmp 7) (pt r 0) (.slice p L.length cap) rfl rfl (run_one Q 26 0 rfl Try.underlying26 rfl) rfl ?_
  refine wl_mv (.tmp 1) (.int .i64 ((k : Nat) : Int)) (fun _ => rfl) rfl rfl ?_
  refine wl_val (.slice p k cap) (sl26hi _ _ _ p L.length cap k (by exact rfl) (by exact rfl) (by omega) _ _ _ _ _ _) rfl ?_
  refine wl_app26s (.const (.slice none 0 0)) (.tmp 10) w.heap.size (.slice none 0 0) 0 [] p k cap (L.take k) rfl rfl rfl (World.ownsRow_nil _ _ _ _) (by rw [List.length_take]; omega) (hSI.mo M |>.take k) (by omega) M.size rfl ?_
  intro v1 w1 hown hAp hob
  have hq : Mo _ _ := hAp.mo (Mo.refl _) (fun k e => by cases e)
  replace Q := Q.mo hq
  replace M := M.trans hq
  clear hq hAp hob
  rw [Nat.zero_add, List.nil_append] at hown
  refine wl_mv (.tmp 11) (v1) (fun _ => rfl) rfl rfl ?_
  refine w_nil ?_
  refine xn_then ?_
  refine w_reg ?_
  refine wl_mv (.tmp 0) (pt r 0) (fun _ => rfl) rfl rfl ?_
  refine wl_mv (.tmp 4) (v1) (fun _ => rfl) rfl rfl ?_
  refine wl_mv (.tmp 0) (pt r 0) (fun _ => rfl) rfl rfl ?_
  refine wl_nc (.tmp 14) r 0 rfl rfl rfl ?_
  refine wl_un (fun v => Instr.fieldAt 28 v 0) (.tmp 15) (pt r 0) (pt r 0) (fun _ => rfl) rfl (by kernel_rfl) rfl ?_
  refine wl_load 26 (.tmp 16) (pt r 0) (.slice p L.length cap) rfl rfl (run_one Q 26 0 rfl Try.underlying26 rfl) rfl ?_
  refine wl_mv (.tmp 1) (.int .i64 ((k : Nat) : Int)) (fun _ => rfl) rfl rfl ?_
  refine wl_bin (fun x y => do eqGuard .add 3 (.tmp 18) (.const (.int .i64 (1))) x y; binOp .add 3 x y) (.tmp 18) (.const (.int .i64 (1))) (.int .i64 ((k : Nat) : Int)) (.int .i64 (1)) (.int .i64 ((k + 1 : Nat) : Int)) (fun _ => rfl) rfl rfl (add1r (by omega) _ _ _) rfl ?_
  refine wl_val (.slice (slo26 p cap (k + 1)) (L.length - (k + 1)) (cap - (k + 1))) (sl26lo _ _ _ p L.length cap (k + 1) (by exact rfl) (by exact rfl) (by omega) hcap hpn hpa _ _ _ _ _ _) rfl ?_
  refine wl_app26s (.tmp 13) (.tmp 20) w.heap.size v1 k ((L.take k).map (fun i => Value.int .i64 i)) (slo26 p cap (k + 1)) (L.length - (k + 1)) (cap - (k + 1)) (L.drop (k + 1)) rfl rfl rfl hown (by rw [List.length_drop]) (SI.drop (hSI.mo M) hcap (k + 1)) (by omega) M.size rfl ?_
  intro v2 w2 hown2 hAp hob
  have hne : v1.ownBlock ≠ some r := fun e => by have := (hown.lt _ e).1; have := hrl; omega
  replace Q := hAp.at Q hne
  replace M := hAp.mo M (fun k e => (hown.lt k e).1)
  refine wl_nc (.tmp 12) r 0 rfl rfl rfl ?_
  refine wl_un (fun v => Instr.fieldAt 28 v 0) (.tmp 22) (pt r 0) (pt r 0) (fun _ => rfl) rfl (by kernel_rfl) rfl ?_
  have hv2 : (v2).cells = #[v2] ∧ (v2).oneCell' = true := own_one hown2
  refine wl_st1x 26 (.tmp 23) (.tmp 21) r 0 v2 [.slice p L.length cap] [v2] Q rfl rfl rfl rfl rfl sz26 hv2.1 hv2.2 rfl rfl ?_
  intro w3 hT Qn
  refine w_nil ?_
  have hn2 : v2.ownBlock ≠ some r := fun e => by have := (hown2.lt _ e).1; omega
  have hcut : k + (L.length - (k + 1)) = (L.take k ++ L.drop (k + 1)).length := by rw [List.length_append, List.length_take, List.length_drop]; omega
  exact w_end0 rfl ⟨rfl, v2, Qn, own_st2 (by rw [List.map_append]; exact hcut ▸ hown2) hT hn2, hn2, (Mk.refl (fun j => j = r) _ |>.tr (Mk.of _ M) (fun _ _ e => e)).st hT rfl⟩
theorem put_n0 {r cap k : Nat} {p : Option Addr} {L : List Int} (Q : At w r [.slice p L.length cap]) (hSI : SI w p L) (hcap : L.length ≤ cap) (hpn : p = none → cap = 0) (hpa : plainA p) (hn : L.length ≤ 1048576) (hk : k ≤ L.length) (id : Int) : Calls Try.prog 37 #[pt r 0, .int .i64 (k : Int), .int .i64 id] w fun e w' => e = .returned (.tuple #[]) ∧ ∃ v, At w' r [v] ∧ w'.ownsRow w.heap.size 2 1 v (L.take k ++ id :: L.drop k).length ((L.take k ++ id :: L.drop k).map (fun i => Value.int .i64 i)) ∧ v.ownBlock ≠ some r ∧ Mk (fun j => j = r) w w' := by
  have hrl := Q.lt
  have Q0 := Q
  refine w_enter 28 Try.func37 Try.ntmps37 rfl rfl ?_
  have M : Mo w w := Mo.refl _
  refine w_seq ?_
  refine w_reg ?_
  refine wl_mv (.tmp 0) (pt r 0) (fun _ => rfl) rfl rfl ?_
  refine wl_nc (.tmp 7) r 0 rfl rfl rfl ?_
  refine wl_un (fun v => Instr.fieldAt 28 v 0) (.tmp 8) (pt r 0) (pt r 0) (fun _ => rfl) rfl (by kernel_rfl) rfl ?_
  refine wl_load 26 (.tmp 9) (pt r 0) (.slice p L.length cap) rfl rfl (run_one Q 26 0 rfl Try.underlying26 rfl) rfl ?_
  refine wl_mv (.tmp 1) (.int .i64 ((k : Nat) : Int)) (fun _ => rfl) rfl rfl ?_
  refine wl_val (.slice p k cap) (sl26hi _ _ _ p L.length cap k (by exact rfl) (by exact rfl) (by omega) _ _ _ _ _ _) rfl ?_
  refine wl_app26s (.const (.slice none 0 0)) (.tmp 12) w.heap.size (.slice none 0 0) 0 [] p k cap (L.take k) rfl rfl rfl (World.ownsRow_nil _ _ _ _) (by rw [List.length_take]; omega) (hSI.mo M |>.take k) (by omega) M.size rfl ?_
  intro v1 w1 hown hAp hob
  have hq : Mo _ _ := hAp.mo (Mo.refl _) (fun k e => by cases e)
  replace Q := Q.mo hq
  replace M := M.trans hq
  clear hq hAp hob
  rw [Nat.zero_add, List.nil_append] at hown
  refine wl_mv (.tmp 13) (v1) (fun _ => rfl) rfl rfl ?_
  refine w_nil ?_
  refine xn_then ?_
  have hsm : Smos [vq (pt r 0), vq v1, vq (.int .i64 id), (fun _ _ => True), (fun _ _ => True), vq (pt r 0), vq (pt r 0), vq (pt r 0), vq (.slice p L.length cap), vq (.int .i64 ((k : Nat) : Int)), vq (.slice (slo26 p cap k) (L.length - k) (cap - k)), (fun _ _ => True)] := smos_cons (smo_vq _) (smos_cons (smo_vq _) (smos_cons (smo_vq _) (smos_cons (fun _ _ _ _ _ => trivial) (smos_cons (fun _ _ _ _ _ => trivial) (smos_cons (smo_vq _) (smos_cons (smo_vq _) (smos_cons (smo_vq _) (smos_cons (smo_vq _) (smos_cons (smo_vq _) (smos_cons (smo_vq _) (smos_cons (fun _ _ _ _ _ => trivial) (smos_nil))))))))))))
  obtain ⟨G, hGd⟩ : ∃ G, G = (fun (L9 : Nat → Bool) (f9 : Nat → Value) (w9 : World) => Mo w w9 ∧ (L9 11 = true → L9 4 = true) ∧ (L9 3 = true → L9 4 = false → ∃ kn, f9 3 = .slice (some ⟨kn, 0, none⟩) 1 1 ∧ At w9 kn [.int .i64 id]) ∧ (L9 4 = false → w9.ownsRow w.heap.size 2 1 v1 k ((L.take k).map (fun i => Value.int .i64 i))) ∧ (L9 4 = true → L9 11 = false → w9.ownsRow w.heap.size 2 1 (f9 4) (k + 1) (((L.take k).map (fun i => Value.int .i64 i)) ++ [.int .i64 id])) ∧ (L9 11 = true → w9.ownsRow w.heap.size 2 1 (f9 11) (k + 1 + (L.length - k)) ((((L.take k).map (fun i => Value.int .i64 i)) ++ [.int .i64 id]) ++ ((L.drop k).map (fun i => Value.int .i64 i))))) := ⟨_, rfl⟩
  have hgr : ∀ (i : Nat) (v : Value), i ≠ 3 → i ≠ 4 → i ≠ 11 → ∀ (L9 : Nat → Bool) (f9 : Nat → Value) (a b : World), G L9 f9 a → L9 i = false → Mo a b → G (updB L9 i) (upd f9 i v) b := by
    intro i v h3 h4 h11 L9 f9 a b h _ m
    rw [hGd] at h ⊢
    obtain ⟨g1, g2, g3, g4, g5, g6⟩ := h
    simp only [updB_ne (Ne.symm h3), updB_ne (Ne.symm h4), updB_ne (Ne.symm h11), upd_ne (Ne.symm h3), upd_ne (Ne.symm h4), upd_ne (Ne.symm h11)]
    exact ⟨g1.trans m, g2, fun x y => (by obtain ⟨kn, e, hA⟩ := g3 x y; exact ⟨kn, e, hA.mo m⟩), fun x => own_mo (g4 x) m, fun x y => own_mo (g5 x y) m, fun x => own_mo (g6 x) m⟩
  refine w_ogl 12 G [vq (pt r 0), vq v1, vq (.int .i64 id), (fun _ _ => True), (fun _ _ => True), vq (pt r 0), vq (pt r 0), vq (pt r 0), vq (.slice p L.length cap), vq (.int .i64 ((k : Nat) : Int)), vq (.slice (slo26 p cap k) (L.length - k) (cap - k)), (fun _ _ => True)] (by kernel_rfl) (by kernel_rfl) (by kernel_rfl) (by kernel_rfl) rfl (fun f => by rw [hGd]; exact ⟨M.drew, (fun e => by cases e), (fun e => by cases e), fun _ => own_mo hown ((Mo.refl _).drew), (fun e => by cases e), (fun e => by cases e)⟩) ?_ ?_
  · refine ea_cons ?_ (ea_cons ?_ (ea_cons ?_ (ea_cons ?_ (ea_cons ?_ (ea_cons ?_ (ea_cons ?_ (ea_cons ?_ (ea_cons ?_ (ea_cons ?_ (ea_cons ?_ (ea_cons ?_ (ea_nil))))))))))))
    · exact ol_eq (pt r 0) rfl (hgr 0 _ (by decide) (by decide) (by decide)) hsm (fun L9 f wf hG hd K hK => go_run rfl (wo_mv (.tmp 0) (pt r 0) (fun _ => rfl) rfl (hK _ (Mo.refl _))))
    · exact ol_eq (v1) rfl (hgr 1 _ (by decide) (by decide) (by decide)) hsm (fun L9 f wf hG hd K hK => go_run rfl (wo_mv (.tmp 6) (v1) (fun _ => rfl) rfl (hK _ (Mo.refl _))))
    · exact ol_eq (.int .i64 id) rfl (hgr 2 _ (by decide) (by decide) (by decide)) hsm (fun L9 f wf hG hd K hK => go_run rfl (wo_mv (.tmp 2) (.int .i64 id) (fun _ => rfl) rfl (hK _ (Mo.refl _))))
    · refine ⟨fun L9 f wf hG hi hd K hK => ?_⟩
      refine go_run rfl (wo_bs26 (.tmp 16) id rfl (hd 2 rfl).2 (fun kn w9 hk _ hq hA => hK _ w9 ?_ trivial (fun j u _ hr => hsm j u _ _ hr hq)))
      rw [hGd] at hG ⊢
      obtain ⟨g1, g2, g3, g4, g5, g6⟩ := hG
      simp only [updB_ne (show (4 : Nat) ≠ 3 by decide), updB_ne (show (11 : Nat) ≠ 3 by decide), upd_ne (show (4 : Nat) ≠ 3 by decide), upd_ne (show (11 : Nat) ≠ 3 by decide), upd_eq]
      exact ⟨g1.trans hq, g2, fun _ _ => ⟨kn, rfl, hA⟩, fun x => own_mo (g4 x) hq, fun x y => own_mo (g5 x y) hq, fun x => own_mo (g6 x) hq⟩
    · refine ⟨fun L9 f wf hG hi hd K hK => ?_⟩
      rw [hGd] at hG
      obtain ⟨g1, g2, g3, g4, g5, g6⟩ := hG
      obtain ⟨kn, e3, hA3⟩ := g3 (hd 3 rfl).1 hi
      have h11 : L9 11 = false := by cases h : L9 11 with | false => rfl | true => rw [g2 h] at hi; cases hi
      refine go_run rfl (wo_app26 (.tmp 15) (.tmp 17) w.heap.size v1 k ((L.take k).map (fun i => Value.int .i64 i)) kn 1 1 [.int .i64 id] rfl (hd 1 rfl).2 e3 (g4 hi) rfl hA3 (fun u hu => by rw [List.mem_singleton.1 hu]; rfl) (by decide) (by omega) g1.size (fun v9 w9 h1 h2 _ _ => hK v9 w9 ?_ trivial (fun j u hj hr => ?_)))
      · rw [hGd]
        simp only [updB_ne (show (3 : Nat) ≠ 4 by decide), updB_ne (show (11 : Nat) ≠ 4 by decide), upd_ne (show (3 : Nat) ≠ 4 by decide), upd_ne (show (11 : Nat) ≠ 4 by decide), upd_eq, updB_eq]
        exact ⟨h2.mo g1 (fun k e => ((g4 hi).lt k e).1), fun _ => trivial, fun _ e => (by cases e), fun e => (by cases e), fun _ _ => h1, fun e => (by rw [h11] at e; cases e)⟩
      · match j, hj, hr with
        | 0, _, hr => exact hr
        | 1, _, hr => exact hr
        | 2, _, hr => exact hr
        | 3, _, hr => exact hr
        | 4, _, hr => exact hr
        | 5, _, hr => exact hr
        | 6, _, hr => exact hr
        | 7, _, hr => exact hr
        | 8, _, hr => exact hr
        | 9, _, hr => exact hr
        | 10, _, hr => exact hr
        | 11, _, hr => exact hr
        | j + 12, _, _ => trivial
    · exact ol_eq (pt r 0) rfl (hgr 5 _ (by decide) (by decide) (by decide)) hsm (fun L9 f wf hG hd K hK => go_run rfl (wo_mv (.tmp 0) (pt r 0) (fun _ => rfl) rfl (hK _ (Mo.refl _))))
    · exact ol_eq (pt r 0) rfl (hgr 6 _ (by decide) (by decide) (by decide)) hsm (fun L9 f wf hG hd K hK => go_run rfl (wo_nc (.tmp 19) r 0 rfl (hd 5 rfl) (hK _ (Mo.refl _))))
    · exact ol_eq (pt r 0) rfl (hgr 7 _ (by decide) (by decide) (by decide)) hsm (fun L9 f wf hG hd K hK => go_run rfl (wo_un (fun v => Instr.fieldAt 28 v 0) (.tmp 20) (pt r 0) (pt r 0) (fun _ => rfl) (hd 6 rfl) (by kernel_rfl) (hK _ (Mo.refl _))))
    · exact ol_eq (.slice p L.length cap) rfl (hgr 8 _ (by decide) (by decide) (by decide)) hsm (fun L9 f wf hG hd K hK => have Q9 := Q0.mo (by rw [hGd] at hG; exact hG.1); go_run rfl (wo_load 26 (.tmp 21) (pt r 0) (.slice p L.length cap) rfl (hd 7 rfl) (run_one Q9 26 0 rfl Try.underlying26 rfl) (hK _ (Mo.refl _))))
    · exact ol_eq (.int .i64 ((k : Nat) : Int)) rfl (hgr 9 _ (by decide) (by decide) (by decide)) hsm (fun L9 f wf hG hd K hK => go_run rfl (wo_mv (.tmp 1) (.int .i64 ((k : Nat) : Int)) (fun _ => rfl) rfl (hK _ (Mo.refl _))))
    · exact ol_eq (.slice (slo26 p cap k) (L.length - k) (cap - k)) rfl (hgr 10 _ (by decide) (by decide) (by decide)) hsm (fun L9 f wf hG hd K hK => go_run rfl (wo_val (.slice (slo26 p cap k) (L.length - k) (cap - k)) (sl26lo _ _ _ p L.length cap k (by exact (hd 8 rfl)) (by exact (hd 9 rfl)) (by omega) hcap hpn hpa _ _ _ _ _ _) (hK _ (Mo.refl _))))
    · refine ⟨fun L9 f wf hG hi hd K hK => ?_⟩
      rw [hGd] at hG
      obtain ⟨g1, g2, g3, g4, g5, g6⟩ := hG
      have h4 := (hd 4 rfl).1
      refine go_run rfl (wo_app26s (.tmp 18) (.tmp 24) w.heap.size (f 4) (k + 1) (((L.take k).map (fun i => Value.int .i64 i)) ++ [.int .i64 id]) (slo26 p cap k) (L.length - k) (cap - k) (L.drop k) rfl rfl (hd 10 rfl).2 (g5 h4 hi) (by rw [List.length_drop]) (SI.drop (hSI.mo g1) hcap k) (by omega) g1.size (fun v9 w9 h1 h2 _ _ => hK v9 w9 ?_ trivial (fun j u hj hr => ?_)))
      · rw [hGd]
        simp only [updB_ne (show (3 : Nat) ≠ 11 by decide), updB_ne (show (4 : Nat) ≠ 11 by decide), upd_ne (show (3 : Nat) ≠ 11 by decide), upd_ne (show (4 : Nat) ≠ 11 by decide), upd_eq, updB_eq]
        exact ⟨h2.mo g1 (fun k e => ((g5 h4 hi).lt k e).1), fun _ => h4, fun _ e => (by rw [h4] at e; cases e), fun e => (by rw [h4] at e; cases e), fun _ e => (by cases e), fun _ => h1⟩
      · match j, hj, hr with
        | 0, _, hr => exact hr
        | 1, _, hr => exact hr
        | 2, _, hr => exact hr
        | 3, _, hr => exact hr
        | 4, _, hr => exact hr
        | 5, _, hr => exact hr
        | 6, _, hr => exact hr
        | 7, _, hr => exact hr
        | 8, _, hr => exact hr
        | 9, _, hr => exact hr
        | 10, _, hr => exact hr
        | 11, _, hr => exact hr
        | j + 12, _, _ => trivial
  intro L9 f w2 hall hG hR
  rw [hGd] at hG
  obtain ⟨g1, _, _, _, _, g6⟩ := hG
  have hown2 := g6 (hall 11 rfl)
  have e0 := hR 0 rfl
  obtain ⟨v2, hv9⟩ : ∃ v, f 11 = v := ⟨_, rfl⟩
  rw [hv9] at hown2
  replace Q := Q0.mo g1
  clear M hown hgr hsm hGd hR hall g6
  have M := g1
  refine wl_nc (.tmp 14) r 0 rfl e0 rfl ?_
  refine wl_un (fun v => Instr.fieldAt 28 v 0) (.tmp 26) (pt r 0) (pt r 0) (fun _ => rfl) rfl (by kernel_rfl) rfl ?_
  have hv2 : (v2).cells = #[v2] ∧ (v2).oneCell' = true := own_one hown2
  refine wl_st1x 26 (.tmp 27) (.tmp 25) r 0 v2 [.slice p L.length cap] [v2] Q rfl rfl rfl hv9 rfl sz26 hv2.1 hv2.2 rfl rfl ?_
  intro w3 hT Qn
  refine w_nil ?_
  have hn2 : v2.ownBlock ≠ some r := fun e => by have := (hown2.lt _ e).1; omega
  have hput : (L.take k ++ id :: L.drop k).length = k + 1 + (L.length - k) := by rw [List.length_append, List.length_take, List.length_cons, List.length_drop]; omega
  have hput2 : (L.take k ++ id :: L.drop k).map (fun i => Value.int .i64 i) = (((L.take k).map (fun i => Value.int .i64 i)) ++ [.int .i64 id]) ++ ((L.drop k).map (fun i => Value.int .i64 i)) := by simp
  exact w_end0 rfl ⟨rfl, v2, Qn, own_st2 (by rw [hput, hput2]; exact hown2) hT hn2, hn2, (Mk.refl (fun j => j = r) _ |>.tr (Mk.of _ M) (fun _ _ e => e)).st hT rfl⟩
end
/-- The document's list: its ids lie in a row of their own. -/
structure RL (n0 : Nat) (w : World) (r : Nat) (L : List Int) (v : Value) : Prop where
  at1 : At w r [v]
  own : w.ownsRow n0 2 1 v L.length (L.map (fun i => Value.int .i64 i))
  ne : v.ownBlock ≠ some r
theorem RL.mo {n0 : Nat} {w w' : World} {r : Nat} {L : List Int} {v : Value} (h : RL n0 w r L v) (m : Mo w w') : RL n0 w' r L v := ⟨h.at1.mo m, own_mo h.own m, h.ne⟩
theorem RL.open {n0 : Nat} {w : World} {r : Nat} {L : List Int} {v : Value} (h : RL n0 w r L v) : ∃ p cap, v = .slice p L.length cap ∧ SI w p L ∧ L.length ≤ cap ∧ (p = none → cap = 0) ∧ plainA p := by
  obtain ⟨p, cap, hv, hSI, _⟩ := own_si h.own
  rcases h.own.2 with ⟨hv2, hn9⟩ | ⟨g, cap2, cur, hv2, _, _, hnc, _⟩
  · have hL : L = [] := List.length_eq_zero_iff.1 hn9
    subst hL
    exact ⟨none, 0, hv2, (fun _ _ e => by cases e), Nat.le_refl _, (fun _ => rfl), (fun a e => by cases e)⟩
  · rw [hv2] at hv; cases hv
    exact ⟨_, _, hv2, hSI, hnc, (fun e => by cases e), (fun a e => by cases e; rfl)⟩
theorem RL.kept {n0 : Nat} {E : Nat → Prop} {w w' : World} {r : Nat} {L : List Int} {v : Value} (h : RL n0 w r L v) (m : Mk E w w') (hr : ¬ E r) (hv : ∀ g, v.ownBlock = some g → ¬ E g) : RL n0 w' r L v :=
  ⟨m.at h.at1 hr, by
    rcases h.own.2 with ⟨hv2, hn⟩ | ⟨g, cap2, cur, hv2, hb, hg, rest⟩
    · exact ⟨h.own.1, .inl ⟨hv2, hn⟩⟩
    · refine ⟨h.own.1, .inr ⟨g, cap2, cur, hv2, hb, ?_, rest⟩⟩
      rw [m.block g (Array.getElem?_eq_some_iff.1 hg).1 (hv g (by rw [hv2]; rfl))]; exact hg, h.ne⟩
/-- The document's answer to Insert. -/
def insL (L : List Int) (a id : Int) : Int := if id < 1 ∨ 9007199254740992 < id then 1 else if id ∈ L then 5 else if 1024 ≤ (L.length : Int) then 6 else if a < 0 ∨ (L.length : Int) < a then 1 else 0
theorem rix_pos {L : List Int} {id : Int} : (0 ≤ rix L id) ↔ id ∈ L := by
  constructor
  · intro h
    apply Classical.byContradiction
    intro hn
    rw [rix_no hn] at h; omega
  · intro h
    obtain ⟨j, hj, e⟩ := List.getElem_of_mem h
    unfold rix
    cases hr : rixN L id with
    | some i => simp
    | none =>
      exfalso
      have hex : ∃ m, L[m]? = some id := ⟨j, by rw [List.getElem?_eq_getElem hj, e]⟩
      obtain ⟨m, h1, h2⟩ := exists_least hex
      rw [rixN_at L id m (fun i hi q => by have := h2 i q; omega) h1] at hr
      cases hr
theorem rix_lt {L : List Int} {id : Int} (h : id ∈ L) : ∃ k : Nat, rix L id = k ∧ L[k]? = some id := by
  obtain ⟨j, hj, e⟩ := List.getElem_of_mem h
  have hex : ∃ m, L[m]? = some id := ⟨j, by rw [List.getElem?_eq_getElem hj, e]⟩
  obtain ⟨m, h1, h2⟩ := exists_least hex
  exact ⟨m, rix_at (fun i hi q => by have := h2 i q; omega) h1, h1⟩
section
variable {w : World}
theorem ridx_n {n0 r : Nat} {L : List Int} {v : Value} (h : RL n0 w r L v) (hn : L.length ≤ 1048576) (id : Int) : Calls Try.prog 14 #[pt r 0, .int .i64 id] w fun e w' => e = .returned (.int .i64 (rix L id)) ∧ Mo w w' := by
  obtain ⟨p, cap, rfl, hSI, _, _, _⟩ := h.open
  exact idx_n h.at1 hSI hn id
theorem rput_n {n0 r k : Nat} {L : List Int} {v : Value} (h : RL n0 w r L v) (hn : L.length ≤ 1048576) (hk : k ≤ L.length) (id : Int) : Calls Try.prog 37 #[pt r 0, .int .i64 (k : Int), .int .i64 id] w fun e w' => e = .returned (.tuple #[]) ∧ ∃ v, RL w.heap.size w' r (L.take k ++ id :: L.drop k) v ∧ Mk (fun j => j = r) w w' := by
  obtain ⟨p, cap, rfl, hSI, hc, hp, ha⟩ := h.open
  exact (put_n0 h.at1 hSI hc hp ha hn hk id).mono fun e w' ⟨h1, v, h2, h3, h4, h5⟩ => ⟨h1, v, ⟨h2, h3, h4⟩, h5⟩
theorem rcut_n {n0 r k : Nat} {L : List Int} {v : Value} (h : RL n0 w r L v) (hn : L.length ≤ 1048576) (hk : k < L.length) : Calls Try.prog 38 #[pt r 0, .int .i64 (k : Int)] w fun e w' => e = .returned (.tuple #[]) ∧ ∃ v, RL w.heap.size w' r (L.take k ++ L.drop (k + 1)) v ∧ Mk (fun j => j = r) w w' := by
  obtain ⟨p, cap, rfl, hSI, hc, hp, ha⟩ := h.open
  exact (cut_n h.at1 hSI hc hp ha hn hk).mono fun e w' ⟨h1, v, h2, h3, h4, h5⟩ => ⟨h1, v, ⟨h2, h3, h4⟩, h5⟩
theorem rins_a {n0 r : Nat} {L : List Int} {v : Value} (hL : RL n0 w r L v) (a id : Int) (q1 : decide (id < 1) = true) : Calls Try.prog 25 #[pt r 0, .int .i64 a, .int .i64 id] w fun e w' => e = .returned (.int .i64 1) ∧ RL n0 w' r L v ∧ Mk (fun j => j = r) w w' := by
  obtain ⟨p, cap, hv, hSI, hcp, hp0, hpa⟩ := hL.open
  subst hv
  have Q := hL.at1
  refine w_enter 42 Try.func25 Try.ntmps25 rfl rfl ?_
  have M : Mk (fun j => j = r) w w := Mk.refl _ _
  refine w_seq ?_
  refine w_reg ?_
  refine wl_mv (.const (.int .i64 (0))) (.int .i64 (0)) (fun _ => rfl) rfl rfl ?_
  refine w_nil ?_
  refine xn_then ?_
  refine w_seq ?_
  refine w_block ?_
  refine w_seq ?_
  refine w_reg ?_
  refine wl_mv (.tmp 2) (.int .i64 (id)) (fun _ => rfl) rfl rfl ?_
  refine wl_bin (fun x y => do eqGuard .lss 2 (.tmp 8) (.const (.int .i64 (1))) x y; binOp .lss 2 x y) (.tmp 8) (.const (.int .i64 (1))) (.int .i64 (id)) (.int .i64 (1)) (.bool true) (fun _ => rfl) rfl rfl (ltL q1 _ _ _) rfl ?_
  refine wl_mv (.tmp 9) (.bool true) (fun _ => rfl) rfl rfl ?_
  refine wl_skip rfl ?_
  refine wl_skip rfl ?_
  refine wl_pick (.tmp 10) (.const (.bool true)) (.tmp 12) true (.bool true) (fun _ => rfl) rfl rfl rfl ?_
  refine wl_mv (.tmp 13) (.bool true) (fun _ => rfl) rfl rfl ?_
  refine w_nil ?_
  refine xn_then ?_
  refine w_condT rfl ?_
  refine w_seq ?_
  refine w_reg ?_
  refine wl_mv (.const (.int .i64 (1))) (.int .i64 (1)) (fun _ => rfl) rfl rfl ?_
  refine w_nil ?_
  refine xn_then ?_
  refine w_ret ?_
  refine xr_blk ?_
  refine xr_then ?_
  exact w_ret1 _ (.int .i64 (1)) rfl rfl ⟨rfl, hL, M⟩
theorem rins_b {n0 r : Nat} {L : List Int} {v : Value} (hL : RL n0 w r L v) (a id : Int) (q1 : decide (id < 1) = false) (q2 : decide (9007199254740992 < id) = true) : Calls Try.prog 25 #[pt r 0, .int .i64 a, .int .i64 id] w fun e w' => e = .returned (.int .i64 1) ∧ RL n0 w' r L v ∧ Mk (fun j => j = r) w w' := by
  obtain ⟨p, cap, hv, hSI, hcp, hp0, hpa⟩ := hL.open
  subst hv
  have Q := hL.at1
  refine w_enter 42 Try.func25 Try.ntmps25 rfl rfl ?_
  have M : Mk (fun j => j = r) w w := Mk.refl _ _
  refine w_seq ?_
  refine w_reg ?_
  refine wl_mv (.const (.int .i64 (0))) (.int .i64 (0)) (fun _ => rfl) rfl rfl ?_
  refine w_nil ?_
  refine xn_then ?_
  refine w_seq ?_
  refine w_block ?_
  refine w_seq ?_
  refine w_reg ?_
  refine wl_mv (.tmp 2) (.int .i64 (id)) (fun _ => rfl) rfl rfl ?_
  refine wl_bin (fun x y => do eqGuard .lss 2 (.tmp 8) (.const (.int .i64 (1))) x y; binOp .lss 2 x y) (.tmp 8) (.const (.int .i64 (1))) (.int .i64 (id)) (.int .i64 (1)) (.bool false) (fun _ => rfl) rfl rfl (ltL q1 _ _ _) rfl ?_
  refine wl_mv (.tmp 9) (.bool false) (fun _ => rfl) rfl rfl ?_
  refine wl_mv (.tmp 2) (.int .i64 (id)) (fun _ => rfl) rfl rfl ?_
  refine wl_bin (fun x y => do eqGuard .gtr 2 (.tmp 11) (.const (.int .i64 (9007199254740992))) x y; binOp .gtr 2 x y) (.tmp 11) (.const (.int .i64 (9007199254740992))) (.int .i64 (id)) (.int .i64 (9007199254740992)) (.bool true) (fun _ => rfl) rfl rfl (gtL q2 _ _ _) rfl ?_
  refine wl_pick (.tmp 10) (.const (.bool true)) (.tmp 12) false (.bool true) (fun _ => rfl) rfl rfl rfl ?_
  refine wl_mv (.tmp 13) (.bool true) (fun _ => rfl) rfl rfl ?_
  refine w_nil ?_
  refine xn_then ?_
  refine w_condT rfl ?_
  refine w_seq ?_
  refine w_reg ?_
  refine wl_mv (.const (.int .i64 (1))) (.int .i64 (1)) (fun _ => rfl) rfl rfl ?_
  refine w_nil ?_
  refine xn_then ?_
  refine w_ret ?_
  refine xr_blk ?_
  refine xr_then ?_
  exact w_ret1 _ (.int .i64 (1)) rfl rfl ⟨rfl, hL, M⟩
theorem rins_c {n0 r : Nat} {L : List Int} {v : Value} (hL : RL n0 w r L v) (hn : L.length ≤ 1048576) (a id : Int) (q1 : decide (id < 1) = false) (q2 : decide (9007199254740992 < id) = false) (q3 : decide (0 ≤ rix L id) = true) : Calls Try.prog 25 #[pt r 0, .int .i64 a, .int .i64 id] w fun e w' => e = .returned (.int .i64 5) ∧ RL n0 w' r L v ∧ Mk (fun j => j = r) w w' := by
  obtain ⟨p, cap, hv, hSI, hcp, hp0, hpa⟩ := hL.open
  subst hv
  have Q := hL.at1
  refine w_enter 42 Try.func25 Try.ntmps25 rfl rfl ?_
  have M : Mk (fun j => j = r) w w := Mk.refl _ _
  refine w_seq ?_
  refine w_reg ?_
  refine wl_mv (.const (.int .i64 (0))) (.int .i64 (0)) (fun _ => rfl) rfl rfl ?_
  refine w_nil ?_
  refine xn_then ?_
  refine w_seq ?_
  refine w_block ?_
  refine w_seq ?_
  refine w_reg ?_
  refine wl_mv (.tmp 2) (.int .i64 (id)) (fun _ => rfl) rfl rfl ?_
  refine wl_bin (fun x y => do eqGuard .lss 2 (.tmp 8) (.const (.int .i64 (1))) x y; binOp .lss 2 x y) (.tmp 8) (.const (.int .i64 (1))) (.int .i64 (id)) (.int .i64 (1)) (.bool false) (fun _ => rfl) rfl rfl (ltL q1 _ _ _) rfl ?_
  refine wl_mv (.tmp 9) (.bool false) (fun _ => rfl) rfl rfl ?_
  refine wl_mv (.tmp 2) (.int .i64 (id)) (fun _ => rfl) rfl rfl ?_
  refine wl_bin (fun x y => do eqGuard .gtr 2 (.tmp 11) (.const (.int .i64 (9007199254740992))) x y; binOp .gtr 2 x y) (.tmp 11) (.const (.int .i64 (9007199254740992))) (.int .i64 (id)) (.int .i64 (9007199254740992)) (.bool false) (fun _ => rfl) rfl rfl (gtL q2 _ _ _) rfl ?_
  refine wl_pick (.tmp 10) (.const (.bool true)) (.tmp 12) false (.bool false) (fun _ => rfl) rfl rfl rfl ?_
  refine wl_mv (.tmp 13) (.bool false) (fun _ => rfl) rfl rfl ?_
  refine w_nil ?_
  refine xn_then ?_
  refine w_condF rfl ?_
  refine w_seq ?_
  refine w_reg ?_
  refine wl_mv (.tmp 0) (pt r 0) (fun _ => rfl) rfl rfl ?_
  refine wl_mv (.tmp 2) (.int .i64 (id)) (fun _ => rfl) rfl rfl ?_
  refine wl_call 14 [(.tmp 15), (.tmp 16)] _ [pt r 0, .int .i64 (id)] (.int .i64 (rix L id)) rfl rfl (fun _ _ => by kernel_rfl) (ridx_n hL hn id) rfl ?_
  intro w1 hq
  replace Q := Q.mo hq
  replace hL := hL.mo hq
  replace M := M.trans hq
  clear hq
  refine wl_bin (fun x y => do eqGuard .geq 3 (.tmp 17) (.const (.int .i64 (0))) x y; binOp .geq 3 x y) (.tmp 17) (.const (.int .i64 (0))) (.int .i64 (rix L id)) (.int .i64 (0)) (.bool true) (fun _ => rfl) rfl rfl (geI q3 _ _ _) rfl ?_
  refine wl_mv (.tmp 18) (.bool true) (fun _ => rfl) rfl rfl ?_
  refine w_nil ?_
  refine xn_then ?_
  refine w_condT rfl ?_
  refine w_seq ?_
  refine w_reg ?_
  refine wl_mv (.const (.int .i64 (5))) (.int .i64 (5)) (fun _ => rfl) rfl rfl ?_
  refine w_nil ?_
  refine xn_then ?_
  refine w_ret ?_
  refine xr_blk ?_
  refine xr_then ?_
  exact w_ret1 _ (.int .i64 (5)) rfl rfl ⟨rfl, hL, M⟩
theorem rins_d {n0 r : Nat} {L : List Int} {v : Value} (hL : RL n0 w r L v) (hn : L.length ≤ 1048576) (a id : Int) (q1 : decide (id < 1) = false) (q2 : decide (9007199254740992 < id) = false) (q3 : decide (0 ≤ rix L id) = false) (q4 : decide (1024 ≤ (L.length : Int)) = true) : Calls Try.prog 25 #[pt r 0, .int .i64 a, .int .i64 id] w fun e w' => e = .returned (.int .i64 6) ∧ RL n0 w' r L v ∧ Mk (fun j => j = r) w w' := by
  obtain ⟨p, cap, hv, hSI, hcp, hp0, hpa⟩ := hL.open
  subst hv
  have Q := hL.at1
  refine w_enter 42 Try.func25 Try.ntmps25 rfl rfl ?_
  have M : Mk (fun j => j = r) w w := Mk.refl _ _
  refine w_seq ?_
  refine w_reg ?_
  refine wl_mv (.const (.int .i64 (0))) (.int .i64 (0)) (fun _ => rfl) rfl rfl ?_
  refine w_nil ?_
  refine xn_then ?_
  refine w_seq ?_
  refine w_block ?_
  refine w_seq ?_
  refine w_reg ?_
  refine wl_mv (.tmp 2) (.int .i64 (id)) (fun _ => rfl) rfl rfl ?_
  refine wl_bin (fun x y => do eqGuard .lss 2 (.tmp 8) (.const (.int .i64 (1))) x y; binOp .lss 2 x y) (.tmp 8) (.const (.int .i64 (1))) (.int .i64 (id)) (.int .i64 (1)) (.bool false) (fun _ => rfl) rfl rfl (ltL q1 _ _ _) rfl ?_
  refine wl_mv (.tmp 9) (.bool false) (fun _ => rfl) rfl rfl ?_
  refine wl_mv (.tmp 2) (.int .i64 (id)) (fun _ => rfl) rfl rfl ?_
  refine wl_bin (fun x y => do eqGuard .gtr 2 (.tmp 11) (.const (.int .i64 (9007199254740992))) x y; binOp .gtr 2 x y) (.tmp 11) (.const (.int .i64 (9007199254740992))) (.int .i64 (id)) (.int .i64 (9007199254740992)) (.bool false) (fun _ => rfl) rfl rfl (gtL q2 _ _ _) rfl ?_
  refine wl_pick (.tmp 10) (.const (.bool true)) (.tmp 12) false (.bool false) (fun _ => rfl) rfl rfl rfl ?_
  refine wl_mv (.tmp 13) (.bool false) (fun _ => rfl) rfl rfl ?_
  refine w_nil ?_
  refine xn_then ?_
  refine w_condF rfl ?_
  refine w_seq ?_
  refine w_reg ?_
  refine wl_mv (.tmp 0) (pt r 0) (fun _ => rfl) rfl rfl ?_
  refine wl_mv (.tmp 2) (.int .i64 (id)) (fun _ => rfl) rfl rfl ?_
  refine wl_call 14 [(.tmp 15), (.tmp 16)] _ [pt r 0, .int .i64 (id)] (.int .i64 (rix L id)) rfl rfl (fun _ _ => by kernel_rfl) (ridx_n hL hn id) rfl ?_
  intro w1 hq
  replace Q := Q.mo hq
  replace hL := hL.mo hq
  replace M := M.trans hq
  clear hq
  refine wl_bin (fun x y => do eqGuard .geq 3 (.tmp 17) (.const (.int .i64 (0))) x y; binOp .geq 3 x y) (.tmp 17) (.const (.int .i64 (0))) (.int .i64 (rix L id)) (.int .i64 (0)) (.bool false) (fun _ => rfl) rfl rfl (geI q3 _ _ _) rfl ?_
  refine wl_mv (.tmp 18) (.bool false) (fun _ => rfl) rfl rfl ?_
  refine w_nil ?_
  refine xn_then ?_
  refine w_condF rfl ?_
  refine w_seq ?_
  refine w_reg ?_
  refine wl_mv (.tmp 0) (pt r 0) (fun _ => rfl) rfl rfl ?_
  refine wl_nc (.tmp 20) r 0 rfl rfl rfl ?_
  refine wl_un (fun v => Instr.fieldAt 28 v 0) (.tmp 21) (pt r 0) (pt r 0) (fun _ => rfl) rfl (by kernel_rfl) rfl ?_
  refine wl_load 26 (.tmp 22) (pt r 0) (.slice p L.length cap) rfl rfl (run_one Q 26 0 rfl Try.underlying26 rfl) rfl ?_
  refine wl_val (.int .i64 ((L.length : Int))) (len26 _ _ _ _ _ (by exact rfl) _ _ _ _ _ _) rfl ?_
  refine wl_bin (fun x y => do eqGuard .geq 3 (.tmp 24) (.const (.int .i64 (1024))) x y; binOp .geq 3 x y) (.tmp 24) (.const (.int .i64 (1024))) (.int .i64 ((L.length : Int))) (.int .i64 (1024)) (.bool true) (fun _ => rfl) rfl rfl (geI q4 _ _ _) rfl ?_
  refine wl_mv (.tmp 25) (.bool true) (fun _ => rfl) rfl rfl ?_
  refine w_nil ?_
  refine xn_then ?_
  refine w_condT rfl ?_
  refine w_seq ?_
  refine w_reg ?_
  refine wl_mv (.const (.int .i64 (6))) (.int .i64 (6)) (fun _ => rfl) rfl rfl ?_
  refine w_nil ?_
  refine xn_then ?_
  refine w_ret ?_
  refine xr_blk ?_
  refine xr_then ?_
  exact w_ret1 _ (.int .i64 (6)) rfl rfl ⟨rfl, hL, M⟩
theorem rins_e {n0 r : Nat} {L : List Int} {v : Value} (hL : RL n0 w r L v) (hn : L.length ≤ 1048576) (a id : Int) (q1 : decide (id < 1) = false) (q2 : decide (9007199254740992 < id) = false) (q3 : decide (0 ≤ rix L id) = false) (q4 : decide (1024 ≤ (L.length : Int)) = false) (q5 : decide (a < 0) = true) : Calls Try.prog 25 #[pt r 0, .int .i64 a, .int .i64 id] w fun e w' => e = .returned (.int .i64 1) ∧ RL n0 w' r L v ∧ Mk (fun j => j = r) w w' := by
  obtain ⟨p, cap, hv, hSI, hcp, hp0, hpa⟩ := hL.open
  subst hv
  have Q := hL.at1
  refine w_enter 42 Try.func25 Try.ntmps25 rfl rfl ?_
  have M : Mk (fun j => j = r) w w := Mk.refl _ _
  refine w_seq ?_
  refine w_reg ?_
  refine wl_mv (.const (.int .i64 (0))) (.int .i64 (0)) (fun _ => rfl) rfl rfl ?_
  refine w_nil ?_
  refine xn_then ?_
  refine w_seq ?_
  refine w_block ?_
  refine w_seq ?_
  refine w_reg ?_
  refine wl_mv (.tmp 2) (.int .i64 (id)) (fun _ => rfl) rfl rfl ?_
  refine wl_bin (fun x y => do eqGuard .lss 2 (.tmp 8) (.const (.int .i64 (1))) x y; binOp .lss 2 x y) (.tmp 8) (.const (.int .i64 (1))) (.int .i64 (id)) (.int .i64 (1)) (.bool false) (fun _ => rfl) rfl rfl (ltL q1 _ _ _) rfl ?_
  refine wl_mv (.tmp 9) (.bool false) (fun _ => rfl) rfl rfl ?_
  refine wl_mv (.tmp 2) (.int .i64 (id)) (fun _ => rfl) rfl rfl ?_
  refine wl_bin (fun x y => do eqGuard .gtr 2 (.tmp 11) (.const (.int .i64 (9007199254740992))) x y; binOp .gtr 2 x y) (.tmp 11) (.const (.int .i64 (9007199254740992))) (.int .i64 (id)) (.int .i64 (9007199254740992)) (.bool false) (fun _ => rfl) rfl rfl (gtL q2 _ _ _) rfl ?_
  refine wl_pick (.tmp 10) (.const (.bool true)) (.tmp 12) false (.bool false) (fun _ => rfl) rfl rfl rfl ?_
  refine wl_mv (.tmp 13) (.bool false) (fun _ => rfl) rfl rfl ?_
  refine w_nil ?_
  refine xn_then ?_
  refine w_condF rfl ?_
  refine w_seq ?_
  refine w_reg ?_
  refine wl_mv (.tmp 0) (pt r 0) (fun _ => rfl) rfl rfl ?_
  refine wl_mv (.tmp 2) (.int .i64 (id)) (fun _ => rfl) rfl rfl ?_
  refine wl_call 14 [(.tmp 15), (.tmp 16)] _ [pt r 0, .int .i64 (id)] (.int .i64 (rix L id)) rfl rfl (fun _ _ => by kernel_rfl) (ridx_n hL hn id) rfl ?_
  intro w1 hq
  replace Q := Q.mo hq
  replace hL := hL.mo hq
  replace M := M.trans hq
  clear hq
  refine wl_bin (fun x y => do eqGuard .geq 3 (.tmp 17) (.const (.int .i64 (0))) x y; binOp .geq 3 x y) (.tmp 17) (.const (.int .i64 (0))) (.int .i64 (rix L id)) (.int .i64 (0)) (.bool false) (fun _ => rfl) rfl rfl (geI q3 _ _ _) rfl ?_
  refine wl_mv (.tmp 18) (.bool false) (fun _ => rfl) rfl rfl ?_
  refine w_nil ?_
  refine xn_then ?_
  refine w_condF rfl ?_
  refine w_seq ?_
  refine w_reg ?_
  refine wl_mv (.tmp 0) (pt r 0) (fun _ => rfl) rfl rfl ?_
  refine wl_nc (.tmp 20) r 0 rfl rfl rfl ?_
  refine wl_un (fun v => Instr.fieldAt 28 v 0) (.tmp 21) (pt r 0) (pt r 0) (fun _ => rfl) rfl (by kernel_rfl) rfl ?_
  refine wl_load 26 (.tmp 22) (pt r 0) (.slice p L.length cap) rfl rfl (run_one Q 26 0 rfl Try.underlying26 rfl) rfl ?_
  refine wl_val (.int .i64 ((L.length : Int))) (len26 _ _ _ _ _ (by exact rfl) _ _ _ _ _ _) rfl ?_
  refine wl_bin (fun x y => do eqGuard .geq 3 (.tmp 24) (.const (.int .i64 (1024))) x y; binOp .geq 3 x y) (.tmp 24) (.const (.int .i64 (1024))) (.int .i64 ((L.length : Int))) (.int .i64 (1024)) (.bool false) (fun _ => rfl) rfl rfl (geI q4 _ _ _) rfl ?_
  refine wl_mv (.tmp 25) (.bool false) (fun _ => rfl) rfl rfl ?_
  refine w_nil ?_
  refine xn_then ?_
  refine w_condF rfl ?_
  refine w_seq ?_
  refine w_reg ?_
  refine wl_mv (.tmp 1) (.int .i64 (a)) (fun _ => rfl) rfl rfl ?_
  refine wl_bin (fun x y => do eqGuard .lss 3 (.tmp 27) (.const (.int .i64 (0))) x y; binOp .lss 3 x y) (.tmp 27) (.const (.int .i64 (0))) (.int .i64 (a)) (.int .i64 (0)) (.bool true) (fun _ => rfl) rfl rfl (ltI q5 _ _ _) rfl ?_
  refine wl_mv (.tmp 28) (.bool true) (fun _ => rfl) rfl rfl ?_
  refine wl_skip rfl ?_
  refine wl_skip rfl ?_
  refine wl_skip rfl ?_
  refine wl_skip rfl ?_
  refine wl_skip rfl ?_
  refine wl_skip rfl ?_
  refine wl_skip rfl ?_
  refine wl_pick (.tmp 29) (.const (.bool true)) (.tmp 36) true (.bool true) (fun _ => rfl) rfl rfl rfl ?_
  refine wl_mv (.tmp 37) (.bool true) (fun _ => rfl) rfl rfl ?_
  refine w_nil ?_
  refine xn_then ?_
  refine w_condT rfl ?_
  refine w_seq ?_
  refine w_reg ?_
  refine wl_mv (.const (.int .i64 (1))) (.int .i64 (1)) (fun _ => rfl) rfl rfl ?_
  refine w_nil ?_
  refine xn_then ?_
  refine w_ret ?_
  refine xr_blk ?_
  refine xr_then ?_
  exact w_ret1 _ (.int .i64 (1)) rfl rfl ⟨rfl, hL, M⟩
theorem rins_f {n0 r : Nat} {L : List Int} {v : Value} (hL : RL n0 w r L v) (hn : L.length ≤ 1048576) (a id : Int) (q1 : decide (id < 1) = false) (q2 : decide (9007199254740992 < id) = false) (q3 : decide (0 ≤ rix L id) = false) (q4 : decide (1024 ≤ (L.length : Int)) = false) (q5 : decide (a < 0) = false) (q6 : decide ((L.length : Int) < a) = true) : Calls Try.prog 25 #[pt r 0, .int .i64 a, .int .i64 id] w fun e w' => e = .returned (.int .i64 1) ∧ RL n0 w' r L v ∧ Mk (fun j => j = r) w w' := by
  obtain ⟨p, cap, hv, hSI, hcp, hp0, hpa⟩ := hL.open
  subst hv
  have Q := hL.at1
  refine w_enter 42 Try.func25 Try.ntmps25 rfl rfl ?_
  have M : Mk (fun j => j = r) w w := Mk.refl _ _
  refine w_seq ?_
  refine w_reg ?_
  refine wl_mv (.const (.int .i64 (0))) (.int .i64 (0)) (fun _ => rfl) rfl rfl ?_
  refine w_nil ?_
  refine xn_then ?_
  refine w_seq ?_
  refine w_block ?_
  refine w_seq ?_
  refine w_reg ?_
  refine wl_mv (.tmp 2) (.int .i64 (id)) (fun _ => rfl) rfl rfl ?_
  refine wl_bin (fun x y => do eqGuard .lss 2 (.tmp 8) (.const (.int .i64 (1))) x y; binOp .lss 2 x y) (.tmp 8) (.const (.int .i64 (1))) (.int .i64 (id)) (.int .i64 (1)) (.bool false) (fun _ => rfl) rfl rfl (ltL q1 _ _ _) rfl ?_
  refine wl_mv (.tmp 9) (.bool false) (fun _ => rfl) rfl rfl ?_
  refine wl_mv (.tmp 2) (.int .i64 (id)) (fun _ => rfl) rfl rfl ?_
  refine wl_bin (fun x y => do eqGuard .gtr 2 (.tmp 11) (.const (.int .i64 (9007199254740992))) x y; binOp .gtr 2 x y) (.tmp 11) (.const (.int .i64 (9007199254740992))) (.int .i64 (id)) (.int .i64 (9007199254740992)) (.bool false) (fun _ => rfl) rfl rfl (gtL q2 _ _ _) rfl ?_
  refine wl_pick (.tmp 10) (.const (.bool true)) (.tmp 12) false (.bool false) (fun _ => rfl) rfl rfl rfl ?_
  refine wl_mv (.tmp 13) (.bool false) (fun _ => rfl) rfl rfl ?_
  refine w_nil ?_
  refine xn_then ?_
  refine w_condF rfl ?_
  refine w_seq ?_
  refine w_reg ?_
  refine wl_mv (.tmp 0) (pt r 0) (fun _ => rfl) rfl rfl ?_
  refine wl_mv (.tmp 2) (.int .i64 (id)) (fun _ => rfl) rfl rfl ?_
  refine wl_call 14 [(.tmp 15), (.tmp 16)] _ [pt r 0, .int .i64 (id)] (.int .i64 (rix L id)) rfl rfl (fun _ _ => by kernel_rfl) (ridx_n hL hn id) rfl ?_
  intro w1 hq
  replace Q := Q.mo hq
  replace hL := hL.mo hq
  replace M := M.trans hq
  clear hq
  refine wl_bin (fun x y => do eqGuard .geq 3 (.tmp 17) (.const (.int .i64 (0))) x y; binOp .geq 3 x y) (.tmp 17) (.const (.int .i64 (0))) (.int .i64 (rix L id)) (.int .i64 (0)) (.bool false) (fun _ => rfl) rfl rfl (geI q3 _ _ _) rfl ?_
  refine wl_mv (.tmp 18) (.bool false) (fun _ => rfl) rfl rfl ?_
  refine w_nil ?_
  refine xn_then ?_
  refine w_condF rfl ?_
  refine w_seq ?_
  refine w_reg ?_
  refine wl_mv (.tmp 0) (pt r 0) (fun _ => rfl) rfl rfl ?_
  refine wl_nc (.tmp 20) r 0 rfl rfl rfl ?_
  refine wl_un (fun v => Instr.fieldAt 28 v 0) (.tmp 21) (pt r 0) (pt r 0) (fun _ => rfl) rfl (by kernel_rfl) rfl ?_
  refine wl_load 26 (.tmp 22) (pt r 0) (.slice p L.length cap) rfl rfl (run_one Q 26 0 rfl Try.underlying26 rfl) rfl ?_
  refine wl_val (.int .i64 ((L.length : Int))) (len26 _ _ _ _ _ (by exact rfl) _ _ _ _ _ _) rfl ?_
  refine wl_bin (fun x y => do eqGuard .geq 3 (.tmp 24) (.const (.int .i64 (1024))) x y; binOp .geq 3 x y) (.tmp 24) (.const (.int .i64 (1024))) (.int .i64 ((L.length : Int))) (.int .i64 (1024)) (.bool false) (fun _ => rfl) rfl rfl (geI q4 _ _ _) rfl ?_
  refine wl_mv (.tmp 25) (.bool false) (fun _ => rfl) rfl rfl ?_
  refine w_nil ?_
  refine xn_then ?_
  refine w_condF rfl ?_
  refine w_seq ?_
  refine w_reg ?_
  refine wl_mv (.tmp 1) (.int .i64 (a)) (fun _ => rfl) rfl rfl ?_
  refine wl_bin (fun x y => do eqGuard .lss 3 (.tmp 27) (.const (.int .i64 (0))) x y; binOp .lss 3 x y) (.tmp 27) (.const (.int .i64 (0))) (.int .i64 (a)) (.int .i64 (0)) (.bool false) (fun _ => rfl) rfl rfl (ltI q5 _ _ _) rfl ?_
  refine wl_mv (.tmp 28) (.bool false) (fun _ => rfl) rfl rfl ?_
  refine wl_mv (.tmp 1) (.int .i64 (a)) (fun _ => rfl) rfl rfl ?_
  refine wl_mv (.tmp 0) (pt r 0) (fun _ => rfl) rfl rfl ?_
  refine wl_nc (.tmp 31) r 0 rfl rfl rfl ?_
  refine wl_un (fun v => Instr.fieldAt 28 v 0) (.tmp 32) (pt r 0) (pt r 0) (fun _ => rfl) rfl (by kernel_rfl) rfl ?_
  refine wl_load 26 (.tmp 33) (pt r 0) (.slice p L.length cap) rfl rfl (run_one Q 26 0 rfl Try.underlying26 rfl) rfl ?_
  refine wl_val (.int .i64 ((L.length : Int))) (len26 _ _ _ _ _ (by exact rfl) _ _ _ _ _ _) rfl ?_
  refine wl_bin (fun x y => do eqGuard .gtr 3 (.tmp 30) (.tmp 35) x y; binOp .gtr 3 x y) (.tmp 30) (.tmp 35) (.int .i64 (a)) (.int .i64 ((L.length : Int))) (.bool true) (fun _ => rfl) rfl rfl (gtI q6 _ _ _) rfl ?_
  refine wl_pick (.tmp 29) (.const (.bool true)) (.tmp 36) false (.bool true) (fun _ => rfl) rfl rfl rfl ?_
  refine wl_mv (.tmp 37) (.bool true) (fun _ => rfl) rfl rfl ?_
  refine w_nil ?_
  refine xn_then ?_
  refine w_condT rfl ?_
  refine w_seq ?_
  refine w_reg ?_
  refine wl_mv (.const (.int .i64 (1))) (.int .i64 (1)) (fun _ => rfl) rfl rfl ?_
  refine w_nil ?_
  refine xn_then ?_
  refine w_ret ?_
  refine xr_blk ?_
  refine xr_then ?_
  exact w_ret1 _ (.int .i64 (1)) rfl rfl ⟨rfl, hL, M⟩
theorem RL.base {n0 n1 : Nat} {w : World} {r : Nat} {L : List Int} {v : Value} (h : RL n1 w r L v) (hb : n0 ≤ n1) : RL n0 w r L v := ⟨h.at1, by
  rcases h.own.2 with ⟨hv2, hn⟩ | ⟨g, cap2, cur, hv2, hb2, rest⟩
  · exact ⟨h.own.1, .inl ⟨hv2, hn⟩⟩
  · exact ⟨h.own.1, .inr ⟨g, cap2, cur, hv2, Nat.le_trans hb hb2, rest⟩⟩, h.ne⟩
theorem rins_ok {k : Nat} {n0 r : Nat} {L : List Int} {v : Value} (hL : RL n0 w r L v) (hn : L.length ≤ 1048576) (hk : k ≤ L.length) (id : Int) (q1 : decide (id < 1) = false) (q2 : decide (9007199254740992 < id) = false) (q3 : decide (0 ≤ rix L id) = false) (q4 : decide (1024 ≤ (L.length : Int)) = false) (q5 : decide (((k : Nat) : Int) < 0) = false) (q6 : decide ((L.length : Int) < ((k : Nat) : Int)) = false) : Calls Try.prog 25 #[pt r 0, .int .i64 (k : Int), .int .i64 id] w fun e w' => e = .returned (.int .i64 0) ∧ ∃ v, RL w.heap.size w' r (L.take k ++ id :: L.drop k) v ∧ Mk (fun j => j = r) w w' := by
  obtain ⟨p, cap, hv, hSI, hcp, hp0, hpa⟩ := hL.open
  subst hv
  have Q := hL.at1
  refine w_enter 42 Try.func25 Try.ntmps25 rfl rfl ?_
  have M : Mk (fun j => j = r) w w := Mk.refl _ _
  refine w_seq ?_
  refine w_reg ?_
  refine wl_mv (.const (.int .i64 (0))) (.int .i64 (0)) (fun _ => rfl) rfl rfl ?_
  refine w_nil ?_
  refine xn_then ?_
  refine w_seq ?_
  refine w_block ?_
  refine w_seq ?_
  refine w_reg ?_
  refine wl_mv (.tmp 2) (.int .i64 (id)) (fun _ => rfl) rfl rfl ?_
  refine wl_bin (fun x y => do eqGuard .lss 2 (.tmp 8) (.const (.int .i64 (1))) x y; binOp .lss 2 x y) (.tmp 8) (.const (.int .i64 (1))) (.int .i64 (id)) (.int .i64 (1)) (.bool false) (fun _ => rfl) rfl rfl (ltL q1 _ _ _) rfl ?_
  refine wl_mv (.tmp 9) (.bool false) (fun _ => rfl) rfl rfl ?_
  refine wl_mv (.tmp 2) (.int .i64 (id)) (fun _ => rfl) rfl rfl ?_
  refine wl_bin (fun x y => do eqGuard .gtr 2 (.tmp 11) (.const (.int .i64 (9007199254740992))) x y; binOp .gtr 2 x y) (.tmp 11) (.const (.int .i64 (9007199254740992))) (.int .i64 (id)) (.int .i64 (9007199254740992)) (.bool false) (fun _ => rfl) rfl rfl (gtL q2 _ _ _) rfl ?_
  refine wl_pick (.tmp 10) (.const (.bool true)) (.tmp 12) false (.bool false) (fun _ => rfl) rfl rfl rfl ?_
  refine wl_mv (.tmp 13) (.bool false) (fun _ => rfl) rfl rfl ?_
  refine w_nil ?_
  refine xn_then ?_
  refine w_condF rfl ?_
  refine w_seq ?_
  refine w_reg ?_
  refine wl_mv (.tmp 0) (pt r 0) (fun _ => rfl) rfl rfl ?_
  refine wl_mv (.tmp 2) (.int .i64 (id)) (fun _ => rfl) rfl rfl ?_
  refine wl_call 14 [(.tmp 15), (.tmp 16)] _ [pt r 0, .int .i64 (id)] (.int .i64 (rix L id)) rfl rfl (fun _ _ => by kernel_rfl) (ridx_n hL hn id) rfl ?_
  intro w1 hq
  replace Q := Q.mo hq
  replace hL := hL.mo hq
  replace M := M.trans hq
  clear hq
  refine wl_bin (fun x y => do eqGuard .geq 3 (.tmp 17) (.const (.int .i64 (0))) x y; binOp .geq 3 x y) (.tmp 17) (.const (.int .i64 (0))) (.int .i64 (rix L id)) (.int .i64 (0)) (.bool false) (fun _ => rfl) rfl rfl (geI q3 _ _ _) rfl ?_
  refine wl_mv (.tmp 18) (.bool false) (fun _ => rfl) rfl rfl ?_
  refine w_nil ?_
  refine xn_then ?_
  refine w_condF rfl ?_
  refine w_seq ?_
  refine w_reg ?_
  refine wl_mv (.tmp 0) (pt r 0) (fun _ => rfl) rfl rfl ?_
  refine wl_nc (.tmp 20) r 0 rfl rfl rfl ?_
  refine wl_un (fun v => Instr.fieldAt 28 v 0) (.tmp 21) (pt r 0) (pt r 0) (fun _ => rfl) rfl (by kernel_rfl) rfl ?_
  refine wl_load 26 (.tmp 22) (pt r 0) (.slice p L.length cap) rfl rfl (run_one Q 26 0 rfl Try.underlying26 rfl) rfl ?_
  refine wl_val (.int .i64 ((L.length : Int))) (len26 _ _ _ _ _ (by exact rfl) _ _ _ _ _ _) rfl ?_
  refine wl_bin (fun x y => do eqGuard .geq 3 (.tmp 24) (.const (.int .i64 (1024))) x y; binOp .geq 3 x y) (.tmp 24) (.const (.int .i64 (1024))) (.int .i64 ((L.length : Int))) (.int .i64 (1024)) (.bool false) (fun _ => rfl) rfl rfl (geI q4 _ _ _) rfl ?_
  refine wl_mv (.tmp 25) (.bool false) (fun _ => rfl) rfl rfl ?_
  refine w_nil ?_
  refine xn_then ?_
  refine w_condF rfl ?_
  refine w_seq ?_
  refine w_reg ?_
  refine wl_mv (.tmp 1) (.int .i64 ((k : Nat) : Int)) (fun _ => rfl) rfl rfl ?_
  refine wl_bin (fun x y => do eqGuard .lss 3 (.tmp 27) (.const (.int .i64 (0))) x y; binOp .lss 3 x y) (.tmp 27) (.const (.int .i64 (0))) (.int .i64 ((k : Nat) : Int)) (.int .i64 (0)) (.bool false) (fun _ => rfl) rfl rfl (ltI q5 _ _ _) rfl ?_
  refine wl_mv (.tmp 28) (.bool false) (fun _ => rfl) rfl rfl ?_
  refine wl_mv (.tmp 1) (.int .i64 ((k : Nat) : Int)) (fun _ => rfl) rfl rfl ?_
  refine wl_mv (.tmp 0) (pt r 0) (fun _ => rfl) rfl rfl ?_
  refine wl_nc (.tmp 31) r 0 rfl rfl rfl ?_
  refine wl_un (fun v => Instr.fieldAt 28 v 0) (.tmp 32) (pt r 0) (pt r 0) (fun _ => rfl) rfl (by kernel_rfl) rfl ?_
  refine wl_load 26 (.tmp 33) (pt r 0) (.slice p L.length cap) rfl rfl (run_one Q 26 0 rfl Try.underlying26 rfl) rfl ?_
  refine wl_val (.int .i64 ((L.length : Int))) (len26 _ _ _ _ _ (by exact rfl) _ _ _ _ _ _) rfl ?_
  refine wl_bin (fun x y => do eqGuard .gtr 3 (.tmp 30) (.tmp 35) x y; binOp .gtr 3 x y) (.tmp 30) (.tmp 35) (.int .i64 ((k : Nat) : Int)) (.int .i64 ((L.length : Int))) (.bool false) (fun _ => rfl) rfl rfl (gtI q6 _ _ _) rfl ?_
  refine wl_pick (.tmp 29) (.const (.bool true)) (.tmp 36) false (.bool false) (fun _ => rfl) rfl rfl rfl ?_
  refine wl_mv (.tmp 37) (.bool false) (fun _ => rfl) rfl rfl ?_
  refine w_nil ?_
  refine xn_then ?_
  refine w_condF rfl ?_
  refine w_skip ?_
  refine xn_blk ?_
  refine xn_then ?_
  refine w_seq ?_
  refine w_reg ?_
  refine wl_mv (.tmp 0) (pt r 0) (fun _ => rfl) rfl rfl ?_
  refine wl_mv (.tmp 1) (.int .i64 ((k : Nat) : Int)) (fun _ => rfl) rfl rfl ?_
  refine wl_mv (.tmp 2) (.int .i64 (id)) (fun _ => rfl) rfl rfl ?_
  have hsz := M.size
  refine wl_callx 37 [(.tmp 38), (.tmp 39), (.tmp 40)] _ [pt r 0, .int .i64 ((k : Nat) : Int), .int .i64 (id)] rfl rfl (fun _ _ => by kernel_rfl) (rput_n hL hn hk id) rfl ?_
  rintro _ w2 ⟨rfl, vw2, hL, hM2⟩
  refine ⟨_, rfl, ?_⟩
  replace M := M.same hM2
  clear hM2
  refine w_nil ?_
  refine xn_then ?_
  refine w_seq ?_
  refine w_reg ?_
  refine wl_mv (.const (.int .i64 (0))) (.int .i64 (0)) (fun _ => rfl) rfl rfl ?_
  refine w_nil ?_
  refine xn_then ?_
  refine w_ret ?_
  exact w_ret1 _ (.int .i64 (0)) rfl rfl ⟨rfl, vw2, hL.base hsz, M⟩
theorem rdel_no {n0 r : Nat} {L : List Int} {v : Value} (hL : RL n0 w r L v) (hn : L.length ≤ 1048576) (id : Int) (q1 : decide (rix L id < 0) = true) : Calls Try.prog 26 #[pt r 0, .int .i64 id] w fun e w' => e = .returned (.tuple #[.int .i64 0, .int .i64 4]) ∧ RL n0 w' r L v ∧ Mk (fun j => j = r) w w' := by
  obtain ⟨p, cap, hv, hSI, hcp, hp0, hpa⟩ := hL.open
  subst hv
  have Q := hL.at1
  refine w_enter 16 Try.func26 Try.ntmps26 rfl rfl ?_
  have M : Mk (fun j => j = r) w w := Mk.refl _ _
  refine w_seq ?_
  refine w_reg ?_
  refine wl_mv (.const (.int .i64 (0))) (.int .i64 (0)) (fun _ => rfl) rfl rfl ?_
  refine wl_mv (.const (.int .i64 (0))) (.int .i64 (0)) (fun _ => rfl) rfl rfl ?_
  refine w_nil ?_
  refine xn_then ?_
  refine w_seq ?_
  refine w_reg ?_
  refine wl_mv (.tmp 0) (pt r 0) (fun _ => rfl) rfl rfl ?_
  refine wl_mv (.tmp 1) (.int .i64 (id)) (fun _ => rfl) rfl rfl ?_
  refine wl_call 14 [(.tmp 7), (.tmp 8)] _ [pt r 0, .int .i64 (id)] (.int .i64 (rix L id)) rfl rfl (fun _ _ => by kernel_rfl) (ridx_n hL hn id) rfl ?_
  intro w1 hq
  replace Q := Q.mo hq
  replace hL := hL.mo hq
  replace M := M.trans hq
  clear hq
  refine wl_mv (.tmp 9) (.int .i64 (rix L id)) (fun _ => rfl) rfl rfl ?_
  refine w_nil ?_
  refine xn_then ?_
  refine w_seq ?_
  refine w_seq ?_
  refine w_reg ?_
  refine wl_mv (.tmp 6) (.int .i64 (rix L id)) (fun _ => rfl) rfl rfl ?_
  refine wl_bin (fun x y => do eqGuard .lss 3 (.tmp 10) (.const (.int .i64 (0))) x y; binOp .lss 3 x y) (.tmp 10) (.const (.int .i64 (0))) (.int .i64 (rix L id)) (.int .i64 (0)) (.bool true) (fun _ => rfl) rfl rfl (ltI q1 _ _ _) rfl ?_
  refine w_nil ?_
  refine xn_then ?_
  refine w_condT rfl ?_
  refine w_seq ?_
  refine w_reg ?_
  refine wl_mv (.const (.int .i64 (0))) (.int .i64 (0)) (fun _ => rfl) rfl rfl ?_
  refine wl_mv (.const (.int .i64 (4))) (.int .i64 (4)) (fun _ => rfl) rfl rfl ?_
  refine w_nil ?_
  refine xn_then ?_
  refine w_ret ?_
  refine xr_then ?_
  exact w_ret2 _ _ (.int .i64 (0)) (.int .i64 (4)) rfl rfl rfl ⟨rfl, hL, M⟩
theorem rdel_ok {k : Nat} {n0 r : Nat} {L : List Int} {v : Value} (hL : RL n0 w r L v) (hn : L.length ≤ 1048576) (id : Int) (hk : rix L id = k) (hkl : k < L.length) : Calls Try.prog 26 #[pt r 0, .int .i64 id] w fun e w' => e = .returned (.tuple #[.int .i64 (k : Int), .int .i64 0]) ∧ ∃ v, RL w.heap.size w' r (L.take k ++ L.drop (k + 1)) v ∧ Mk (fun j => j = r) w w' := by
  have q1 : decide (((k : Nat) : Int) < 0) = false := decide_eq_false (by omega)
  obtain ⟨p, cap, hv, hSI, hcp, hp0, hpa⟩ := hL.open
  subst hv
  have Q := hL.at1
  refine w_enter 16 Try.func26 Try.ntmps26 rfl rfl ?_
  have M : Mk (fun j => j = r) w w := Mk.refl _ _
  refine w_seq ?_
  refine w_reg ?_
  refine wl_mv (.const (.int .i64 (0))) (.int .i64 (0)) (fun _ => rfl) rfl rfl ?_
  refine wl_mv (.const (.int .i64 (0))) (.int .i64 (0)) (fun _ => rfl) rfl rfl ?_
  refine w_nil ?_
  refine xn_then ?_
  refine w_seq ?_
  refine w_reg ?_
  refine wl_mv (.tmp 0) (pt r 0) (fun _ => rfl) rfl rfl ?_
  refine wl_mv (.tmp 1) (.int .i64 (id)) (fun _ => rfl) rfl rfl ?_
  refine wl_call 14 [(.tmp 7), (.tmp 8)] _ [pt r 0, .int .i64 (id)] (.int .i64 ((k : Nat) : Int)) rfl rfl (fun _ _ => by kernel_rfl) ((by have h := ridx_n hL hn id; rw [hk] at h; exact h)) rfl ?_
  intro w1 hq
  replace Q := Q.mo hq
  replace hL := hL.mo hq
  replace M := M.trans hq
  clear hq
  refine wl_mv (.tmp 9) (.int .i64 ((k : Nat) : Int)) (fun _ => rfl) rfl rfl ?_
  refine w_nil ?_
  refine xn_then ?_
  refine w_seq ?_
  refine w_seq ?_
  refine w_reg ?_
  refine wl_mv (.tmp 6) (.int .i64 ((k : Nat) : Int)) (fun _ => rfl) rfl rfl ?_
  refine wl_bin (fun x y => do eqGuard .lss 3 (.tmp 10) (.const (.int .i64 (0))) x y; binOp .lss 3 x y) (.tmp 10) (.const (.int .i64 (0))) (.int .i64 ((k : Nat) : Int)) (.int .i64 (0)) (.bool false) (fun _ => rfl) rfl rfl (ltI q1 _ _ _) rfl ?_
  refine w_nil ?_
  refine xn_then ?_
  refine w_condF rfl ?_
  refine w_skip ?_
  refine xn_then ?_
  refine w_seq ?_
  refine w_reg ?_
  refine wl_mv (.tmp 0) (pt r 0) (fun _ => rfl) rfl rfl ?_
  refine wl_mv (.tmp 6) (.int .i64 ((k : Nat) : Int)) (fun _ => rfl) rfl rfl ?_
  have hsz := M.size
  refine wl_callx 38 [(.tmp 12), (.tmp 13)] _ [pt r 0, .int .i64 ((k : Nat) : Int)] rfl rfl (fun _ _ => by kernel_rfl) (rcut_n hL hn hkl) rfl ?_
  rintro _ w2 ⟨rfl, vw2, hL, hM2⟩
  refine ⟨_, rfl, ?_⟩
  replace M := M.same hM2
  clear hM2
  refine w_nil ?_
  refine xn_then ?_
  refine w_seq ?_
  refine w_reg ?_
  refine wl_mv (.tmp 6) (.int .i64 ((k : Nat) : Int)) (fun _ => rfl) rfl rfl ?_
  refine wl_mv (.tmp 15) (.int .i64 ((k : Nat) : Int)) (fun _ => rfl) rfl rfl ?_
  refine wl_mv (.const (.int .i64 (0))) (.int .i64 (0)) (fun _ => rfl) rfl rfl ?_
  refine w_nil ?_
  refine xn_then ?_
  refine w_ret ?_
  exact w_ret2 _ _ (.int .i64 ((k : Nat) : Int)) (.int .i64 (0)) rfl rfl rfl ⟨rfl, vw2, hL.base hsz, M⟩
theorem rmov_no {n0 r : Nat} {L : List Int} {v : Value} (hL : RL n0 w r L v) (hn : L.length ≤ 1048576) (id a : Int) (q1 : decide (rix L id < 0) = true) : Calls Try.prog 27 #[pt r 0, .int .i64 id, .int .i64 a] w fun e w' => e = .returned (.tuple #[.int .i64 0, .int .i64 4]) ∧ RL n0 w' r L v ∧ Mk (fun j => j = r) w w' := by
  obtain ⟨p, cap, hv, hSI, hcp, hp0, hpa⟩ := hL.open
  subst hv
  have Q := hL.at1
  refine w_enter 33 Try.func27 Try.ntmps27 rfl rfl ?_
  have M : Mk (fun j => j = r) w w := Mk.refl _ _
  refine w_seq ?_
  refine w_reg ?_
  refine wl_mv (.const (.int .i64 (0))) (.int .i64 (0)) (fun _ => rfl) rfl rfl ?_
  refine wl_mv (.const (.int .i64 (0))) (.int .i64 (0)) (fun _ => rfl) rfl rfl ?_
  refine w_nil ?_
  refine xn_then ?_
  refine w_seq ?_
  refine w_reg ?_
  refine wl_mv (.tmp 0) (pt r 0) (fun _ => rfl) rfl rfl ?_
  refine wl_mv (.tmp 1) (.int .i64 (id)) (fun _ => rfl) rfl rfl ?_
  refine wl_call 14 [(.tmp 9), (.tmp 10)] _ [pt r 0, .int .i64 (id)] (.int .i64 (rix L id)) rfl rfl (fun _ _ => by kernel_rfl) (ridx_n hL hn id) rfl ?_
  intro w1 hq
  replace Q := Q.mo hq
  replace hL := hL.mo hq
  replace M := M.trans hq
  clear hq
  refine wl_mv (.tmp 11) (.int .i64 (rix L id)) (fun _ => rfl) rfl rfl ?_
  refine w_nil ?_
  refine xn_then ?_
  refine w_seq ?_
  refine w_seq ?_
  refine w_reg ?_
  refine wl_mv (.tmp 8) (.int .i64 (rix L id)) (fun _ => rfl) rfl rfl ?_
  refine wl_bin (fun x y => do eqGuard .lss 3 (.tmp 12) (.const (.int .i64 (0))) x y; binOp .lss 3 x y) (.tmp 12) (.const (.int .i64 (0))) (.int .i64 (rix L id)) (.int .i64 (0)) (.bool true) (fun _ => rfl) rfl rfl (ltI q1 _ _ _) rfl ?_
  refine w_nil ?_
  refine xn_then ?_
  refine w_condT rfl ?_
  refine w_seq ?_
  refine w_reg ?_
  refine wl_mv (.const (.int .i64 (0))) (.int .i64 (0)) (fun _ => rfl) rfl rfl ?_
  refine wl_mv (.const (.int .i64 (4))) (.int .i64 (4)) (fun _ => rfl) rfl rfl ?_
  refine w_nil ?_
  refine xn_then ?_
  refine w_ret ?_
  refine xr_then ?_
  exact w_ret2 _ _ (.int .i64 (0)) (.int .i64 (4)) rfl rfl rfl ⟨rfl, hL, M⟩
theorem rmov_a {n0 r : Nat} {L : List Int} {v : Value} (hL : RL n0 w r L v) (hn : L.length ≤ 1048576) (id a : Int) (q1 : decide (rix L id < 0) = false) (q2 : decide (a < 0) = true) : Calls Try.prog 27 #[pt r 0, .int .i64 id, .int .i64 a] w fun e w' => e = .returned (.tuple #[.int .i64 0, .int .i64 1]) ∧ RL n0 w' r L v ∧ Mk (fun j => j = r) w w' := by
  obtain ⟨p, cap, hv, hSI, hcp, hp0, hpa⟩ := hL.open
  subst hv
  have Q := hL.at1
  refine w_enter 33 Try.func27 Try.ntmps27 rfl rfl ?_
  have M : Mk (fun j => j = r) w w := Mk.refl _ _
  refine w_seq ?_
  refine w_reg ?_
  refine wl_mv (.const (.int .i64 (0))) (.int .i64 (0)) (fun _ => rfl) rfl rfl ?_
  refine wl_mv (.const (.int .i64 (0))) (.int .i64 (0)) (fun _ => rfl) rfl rfl ?_
  refine w_nil ?_
  refine xn_then ?_
  refine w_seq ?_
  refine w_reg ?_
  refine wl_mv (.tmp 0) (pt r 0) (fun _ => rfl) rfl rfl ?_
  refine wl_mv (.tmp 1) (.int .i64 (id)) (fun _ => rfl) rfl rfl ?_
  refine wl_call 14 [(.tmp 9), (.tmp 10)] _ [pt r 0, .int .i64 (id)] (.int .i64 (rix L id)) rfl rfl (fun _ _ => by kernel_rfl) (ridx_n hL hn id) rfl ?_
  intro w1 hq
  replace Q := Q.mo hq
  replace hL := hL.mo hq
  replace M := M.trans hq
  clear hq
  refine wl_mv (.tmp 11) (.int .i64 (rix L id)) (fun _ => rfl) rfl rfl ?_
  refine w_nil ?_
  refine xn_then ?_
  refine w_seq ?_
  refine w_seq ?_
  refine w_reg ?_
  refine wl_mv (.tmp 8) (.int .i64 (rix L id)) (fun _ => rfl) rfl rfl ?_
  refine wl_bin (fun x y => do eqGuard .lss 3 (.tmp 12) (.const (.int .i64 (0))) x y; binOp .lss 3 x y) (.tmp 12) (.const (.int .i64 (0))) (.int .i64 (rix L id)) (.int .i64 (0)) (.bool false) (fun _ => rfl) rfl rfl (ltI q1 _ _ _) rfl ?_
  refine w_nil ?_
  refine xn_then ?_
  refine w_condF rfl ?_
  refine w_skip ?_
  refine xn_then ?_
  refine w_seq ?_
  refine w_seq ?_
  refine w_reg ?_
  refine wl_mv (.tmp 2) (.int .i64 (a)) (fun _ => rfl) rfl rfl ?_
  refine wl_bin (fun x y => do eqGuard .lss 3 (.tmp 14) (.const (.int .i64 (0))) x y; binOp .lss 3 x y) (.tmp 14) (.const (.int .i64 (0))) (.int .i64 (a)) (.int .i64 (0)) (.bool true) (fun _ => rfl) rfl rfl (ltI q2 _ _ _) rfl ?_
  refine wl_mv (.tmp 15) (.bool true) (fun _ => rfl) rfl rfl ?_
  refine wl_skip rfl ?_
  refine wl_skip rfl ?_
  refine wl_skip rfl ?_
  refine wl_skip rfl ?_
  refine wl_skip rfl ?_
  refine wl_skip rfl ?_
  refine wl_skip rfl ?_
  refine wl_pick (.tmp 16) (.const (.bool true)) (.tmp 23) true (.bool true) (fun _ => rfl) rfl rfl rfl ?_
  refine w_nil ?_
  refine xn_then ?_
  refine w_condT rfl ?_
  refine w_seq ?_
  refine w_reg ?_
  refine wl_mv (.const (.int .i64 (0))) (.int .i64 (0)) (fun _ => rfl) rfl rfl ?_
  refine wl_mv (.const (.int .i64 (1))) (.int .i64 (1)) (fun _ => rfl) rfl rfl ?_
  refine w_nil ?_
  refine xn_then ?_
  refine w_ret ?_
  refine xr_then ?_
  exact w_ret2 _ _ (.int .i64 (0)) (.int .i64 (1)) rfl rfl rfl ⟨rfl, hL, M⟩
theorem rmov_b {n0 r : Nat} {L : List Int} {v : Value} (hL : RL n0 w r L v) (hn : L.length ≤ 1048576) (id a : Int) (q1 : decide (rix L id < 0) = false) (q2 : decide (a < 0) = false) (q3 : decide ((L.length : Int) ≤ a) = true) : Calls Try.prog 27 #[pt r 0, .int .i64 id, .int .i64 a] w fun e w' => e = .returned (.tuple #[.int .i64 0, .int .i64 1]) ∧ RL n0 w' r L v ∧ Mk (fun j => j = r) w w' := by
  obtain ⟨p, cap, hv, hSI, hcp, hp0, hpa⟩ := hL.open
  subst hv
  have Q := hL.at1
  refine w_enter 33 Try.func27 Try.ntmps27 rfl rfl ?_
  have M : Mk (fun j => j = r) w w := Mk.refl _ _
  refine w_seq ?_
  refine w_reg ?_
  refine wl_mv (.const (.int .i64 (0))) (.int .i64 (0)) (fun _ => rfl) rfl rfl ?_
  refine wl_mv (.const (.int .i64 (0))) (.int .i64 (0)) (fun _ => rfl) rfl rfl ?_
  refine w_nil ?_
  refine xn_then ?_
  refine w_seq ?_
  refine w_reg ?_
  refine wl_mv (.tmp 0) (pt r 0) (fun _ => rfl) rfl rfl ?_
  refine wl_mv (.tmp 1) (.int .i64 (id)) (fun _ => rfl) rfl rfl ?_
  refine wl_call 14 [(.tmp 9), (.tmp 10)] _ [pt r 0, .int .i64 (id)] (.int .i64 (rix L id)) rfl rfl (fun _ _ => by kernel_rfl) (ridx_n hL hn id) rfl ?_
  intro w1 hq
  replace Q := Q.mo hq
  replace hL := hL.mo hq
  replace M := M.trans hq
  clear hq
  refine wl_mv (.tmp 11) (.int .i64 (rix L id)) (fun _ => rfl) rfl rfl ?_
  refine w_nil ?_
  refine xn_then ?_
  refine w_seq ?_
  refine w_seq ?_
  refine w_reg ?_
  refine wl_mv (.tmp 8) (.int .i64 (rix L id)) (fun _ => rfl) rfl rfl ?_
  refine wl_bin (fun x y => do eqGuard .lss 3 (.tmp 12) (.const (.int .i64 (0))) x y; binOp .lss 3 x y) (.tmp 12) (.const (.int .i64 (0))) (.int .i64 (rix L id)) (.int .i64 (0)) (.bool false) (fun _ => rfl) rfl rfl (ltI q1 _ _ _) rfl ?_
  refine w_nil ?_
  refine xn_then ?_
  refine w_condF rfl ?_
  refine w_skip ?_
  refine xn_then ?_
  refine w_seq ?_
  refine w_seq ?_
  refine w_reg ?_
  refine wl_mv (.tmp 2) (.int .i64 (a)) (fun _ => rfl) rfl rfl ?_
  refine wl_bin (fun x y => do eqGuard .lss 3 (.tmp 14) (.const (.int .i64 (0))) x y; binOp .lss 3 x y) (.tmp 14) (.const (.int .i64 (0))) (.int .i64 (a)) (.int .i64 (0)) (.bool false) (fun _ => rfl) rfl rfl (ltI q2 _ _ _) rfl ?_
  refine wl_mv (.tmp 15) (.bool false) (fun _ => rfl) rfl rfl ?_
  refine wl_mv (.tmp 2) (.int .i64 (a)) (fun _ => rfl) rfl rfl ?_
  refine wl_mv (.tmp 0) (pt r 0) (fun _ => rfl) rfl rfl ?_
  refine wl_nc (.tmp 18) r 0 rfl rfl rfl ?_
  refine wl_un (fun v => Instr.fieldAt 28 v 0) (.tmp 19) (pt r 0) (pt r 0) (fun _ => rfl) rfl (by kernel_rfl) rfl ?_
  refine wl_load 26 (.tmp 20) (pt r 0) (.slice p L.length cap) rfl rfl (run_one Q 26 0 rfl Try.underlying26 rfl) rfl ?_
  refine wl_val (.int .i64 ((L.length : Int))) (len26 _ _ _ _ _ (by exact rfl) _ _ _ _ _ _) rfl ?_
  refine wl_bin (fun x y => do eqGuard .geq 3 (.tmp 17) (.tmp 22) x y; binOp .geq 3 x y) (.tmp 17) (.tmp 22) (.int .i64 (a)) (.int .i64 ((L.length : Int))) (.bool true) (fun _ => rfl) rfl rfl (geI q3 _ _ _) rfl ?_
  refine wl_pick (.tmp 16) (.const (.bool true)) (.tmp 23) false (.bool true) (fun _ => rfl) rfl rfl rfl ?_
  refine w_nil ?_
  refine xn_then ?_
  refine w_condT rfl ?_
  refine w_seq ?_
  refine w_reg ?_
  refine wl_mv (.const (.int .i64 (0))) (.int .i64 (0)) (fun _ => rfl) rfl rfl ?_
  refine wl_mv (.const (.int .i64 (1))) (.int .i64 (1)) (fun _ => rfl) rfl rfl ?_
  refine w_nil ?_
  refine xn_then ?_
  refine w_ret ?_
  refine xr_then ?_
  exact w_ret2 _ _ (.int .i64 (0)) (.int .i64 (1)) rfl rfl rfl ⟨rfl, hL, M⟩
theorem rmov_ok {k a : Nat} {n0 r : Nat} {L : List Int} {v : Value} (hL : RL n0 w r L v) (hn : L.length ≤ 1048576) (id : Int) (hk : rix L id = k) (hkl : k < L.length) (ha : a < L.length) : Calls Try.prog 27 #[pt r 0, .int .i64 id, .int .i64 (a : Int)] w fun e w' => e = .returned (.tuple #[.int .i64 (k : Int), .int .i64 0]) ∧ ∃ v, RL w.heap.size w' r ((L.take k ++ L.drop (k + 1)).take a ++ id :: (L.take k ++ L.drop (k + 1)).drop a) v ∧ Mk (fun j => j = r) w w' := by
  have q1 : decide (((k : Nat) : Int) < 0) = false := decide_eq_false (by omega)
  have q2 : decide (((a : Nat) : Int) < 0) = false := decide_eq_false (by omega)
  have q3 : decide ((L.length : Int) ≤ ((a : Nat) : Int)) = false := decide_eq_false (by omega)
  have hll : (L.take k ++ L.drop (k + 1)).length = L.length - 1 := by rw [List.length_append, List.length_take, List.length_drop]; omega
  have hn2 : (L.take k ++ L.drop (k + 1)).length ≤ 1048576 := by omega
  have hto : a ≤ (L.take k ++ L.drop (k + 1)).length := by omega
  obtain ⟨p, cap, hv, hSI, hcp, hp0, hpa⟩ := hL.open
  subst hv
  have Q := hL.at1
  refine w_enter 33 Try.func27 Try.ntmps27 rfl rfl ?_
  have M : Mk (fun j => j = r) w w := Mk.refl _ _
  refine w_seq ?_
  refine w_reg ?_
  refine wl_mv (.const (.int .i64 (0))) (.int .i64 (0)) (fun _ => rfl) rfl rfl ?_
  refine wl_mv (.const (.int .i64 (0))) (.int .i64 (0)) (fun _ => rfl) rfl rfl ?_
  refine w_nil ?_
  refine xn_then ?_
  refine w_seq ?_
  refine w_reg ?_
  refine wl_mv (.tmp 0) (pt r 0) (fun _ => rfl) rfl rfl ?_
  refine wl_mv (.tmp 1) (.int .i64 (id)) (fun _ => rfl) rfl rfl ?_
  refine wl_call 14 [(.tmp 9), (.tmp 10)] _ [pt r 0, .int .i64 (id)] (.int .i64 ((k : Nat) : Int)) rfl rfl (fun _ _ => by kernel_rfl) ((by have h := ridx_n hL hn id; rw [hk] at h; exact h)) rfl ?_
  intro w1 hq
  replace Q := Q.mo hq
  replace hL := hL.mo hq
  replace M := M.trans hq
  clear hq
  refine wl_mv (.tmp 11) (.int .i64 ((k : Nat) : Int)) (fun _ => rfl) rfl rfl ?_
  refine w_nil ?_
  refine xn_then ?_
  refine w_seq ?_
  refine w_seq ?_
  refine w_reg ?_
  refine wl_mv (.tmp 8) (.int .i64 ((k : Nat) : Int)) (fun _ => rfl) rfl rfl ?_
  refine wl_bin (fun x y => do eqGuard .lss 3 (.tmp 12) (.const (.int .i64 (0))) x y; binOp .lss 3 x y) (.tmp 12) (.const (.int .i64 (0))) (.int .i64 ((k : Nat) : Int)) (.int .i64 (0)) (.bool false) (fun _ => rfl) rfl rfl (ltI q1 _ _ _) rfl ?_
  refine w_nil ?_
  refine xn_then ?_
  refine w_condF rfl ?_
  refine w_skip ?_
  refine xn_then ?_
  refine w_seq ?_
  refine w_seq ?_
  refine w_reg ?_
  refine wl_mv (.tmp 2) (.int .i64 ((a : Nat) : Int)) (fun _ => rfl) rfl rfl ?_
  refine wl_bin (fun x y => do eqGuard .lss 3 (.tmp 14) (.const (.int .i64 (0))) x y; binOp .lss 3 x y) (.tmp 14) (.const (.int .i64 (0))) (.int .i64 ((a : Nat) : Int)) (.int .i64 (0)) (.bool false) (fun _ => rfl) rfl rfl (ltI q2 _ _ _) rfl ?_
  refine wl_mv (.tmp 15) (.bool false) (fun _ => rfl) rfl rfl ?_
  refine wl_mv (.tmp 2) (.int .i64 ((a : Nat) : Int)) (fun _ => rfl) rfl rfl ?_
  refine wl_mv (.tmp 0) (pt r 0) (fun _ => rfl) rfl rfl ?_
  refine wl_nc (.tmp 18) r 0 rfl rfl rfl ?_
  refine wl_un (fun v => Instr.fieldAt 28 v 0) (.tmp 19) (pt r 0) (pt r 0) (fun _ => rfl) rfl (by kernel_rfl) rfl ?_
  refine wl_load 26 (.tmp 20) (pt r 0) (.slice p L.length cap) rfl rfl (run_one Q 26 0 rfl Try.underlying26 rfl) rfl ?_
  refine wl_val (.int .i64 ((L.length : Int))) (len26 _ _ _ _ _ (by exact rfl) _ _ _ _ _ _) rfl ?_
  refine wl_bin (fun x y => do eqGuard .geq 3 (.tmp 17) (.tmp 22) x y; binOp .geq 3 x y) (.tmp 17) (.tmp 22) (.int .i64 ((a : Nat) : Int)) (.int .i64 ((L.length : Int))) (.bool false) (fun _ => rfl) rfl rfl (geI q3 _ _ _) rfl ?_
  refine wl_pick (.tmp 16) (.const (.bool true)) (.tmp 23) false (.bool false) (fun _ => rfl) rfl rfl rfl ?_
  refine w_nil ?_
  refine xn_then ?_
  refine w_condF rfl ?_
  refine w_skip ?_
  refine xn_then ?_
  refine w_seq ?_
  refine w_reg ?_
  refine wl_mv (.tmp 0) (pt r 0) (fun _ => rfl) rfl rfl ?_
  refine wl_mv (.tmp 8) (.int .i64 ((k : Nat) : Int)) (fun _ => rfl) rfl rfl ?_
  have hsz := M.size
  refine wl_callx 38 [(.tmp 25), (.tmp 26)] _ [pt r 0, .int .i64 ((k : Nat) : Int)] rfl rfl (fun _ _ => by kernel_rfl) (rcut_n hL hn hkl) rfl ?_
  rintro _ w2 ⟨rfl, vw2, hL, hM2⟩
  refine ⟨_, rfl, ?_⟩
  replace M := M.same hM2
  clear hM2
  refine w_nil ?_
  refine xn_then ?_
  refine w_seq ?_
  refine w_reg ?_
  refine wl_mv (.tmp 0) (pt r 0) (fun _ => rfl) rfl rfl ?_
  refine wl_mv (.tmp 2) (.int .i64 ((a : Nat) : Int)) (fun _ => rfl) rfl rfl ?_
  refine wl_mv (.tmp 1) (.int .i64 (id)) (fun _ => rfl) rfl rfl ?_
  have hsz2 := M.size
  refine wl_callx 37 [(.tmp 28), (.tmp 29), (.tmp 30)] _ [pt r 0, .int .i64 ((a : Nat) : Int), .int .i64 (id)] rfl rfl (fun _ _ => by kernel_rfl) (rput_n hL hn2 hto id) rfl ?_
  rintro _ w3 ⟨rfl, vw3, hL, hM2⟩
  refine ⟨_, rfl, ?_⟩
  replace M := M.same hM2
  clear hM2
  refine w_nil ?_
  refine xn_then ?_
  refine w_seq ?_
  refine w_reg ?_
  refine wl_mv (.tmp 8) (.int .i64 ((k : Nat) : Int)) (fun _ => rfl) rfl rfl ?_
  refine wl_mv (.tmp 32) (.int .i64 ((k : Nat) : Int)) (fun _ => rfl) rfl rfl ?_
  refine wl_mv (.const (.int .i64 (0))) (.int .i64 (0)) (fun _ => rfl) rfl rfl ?_
  refine w_nil ?_
  refine xn_then ?_
  refine w_ret ?_
  exact w_ret2 _ _ (.int .i64 ((k : Nat) : Int)) (.int .i64 (0)) rfl rfl rfl ⟨rfl, vw3, hL.base hsz2, M⟩
end
end Go.Proofs.Ytbmbldloeblbbaa
