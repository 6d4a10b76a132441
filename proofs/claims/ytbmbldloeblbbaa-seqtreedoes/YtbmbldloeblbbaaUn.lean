/-
  A tree that no call made: what each call answers; All.
-/
import Derived.Test.YtbmbldloeblbbaaIds
namespace Go.Proofs.Ytbmbldloeblbbaa
open Go.RowKit
/-- A tree that no call made. -/
def UT (w : World) (v : Value) : Prop := v = .pointer none ∨ ∃ t, v = pt t 0 ∧ At w t [pp none, .map none, .int .i64 0]
theorem UT.mo {w w' : World} {v : Value} (h : UT w v) (m : Mo w w') : UT w' v := by
  rcases h with h | ⟨t, h1, h2⟩
  · exact Or.inl h
  · exact Or.inr ⟨t, h1, h2.mo m⟩
theorem PB.mo {a : Nat} {w w' : World} {p : Option Addr} (h : ∀ k, pb p k → a ≤ k ∧ k < w.heap.size) (m : Mo w w') : ∀ k, pb p k → a ≤ k ∧ k < w'.heap.size := fun k hk => ⟨(h k hk).1, Nat.lt_of_lt_of_le (h k hk).2 m.size⟩
theorem PB.st {a j : Nat} {w w' : World} {p : Option Addr} (h : ∀ k, pb p k → a ≤ k ∧ k < w.heap.size) (s : St2 j w w') : ∀ k, pb p k → a ≤ k ∧ k < w'.heap.size := fun k hk => ⟨(h k hk).1, by rw [s.size]; exact (h k hk).2⟩
section
variable {w : World}
theorem made_u0 : Calls Try.prog 29 #[.pointer none] w fun e w' => e = .returned (.bool false) ∧ Mo w w' := by
  refine w_enter 12 Try.func29 Try.ntmps29 rfl rfl ?_
  have M : Mo w w := Mo.refl _
  refine w_seq ?_
  refine w_reg ?_
  refine wl_mv (.const (.bool false)) (.bool false) (fun _ => rfl) rfl rfl ?_
  refine w_nil ?_
  refine xn_then ?_
  refine w_seq ?_
  refine w_reg ?_
  refine wl_mv (.tmp 0) (pp none) (fun _ => rfl) rfl rfl ?_
  refine wl_bin (fun x y => do eqGuard .neq 23 (.tmp 3) (.const (.pointer none)) x y; binOp .neq 23 x y) (.tmp 3) (.const (.pointer none)) (pp none) (pp none) (.bool false) (fun _ => rfl) rfl rfl (by kernel_rfl) rfl ?_
  refine wl_mv (.tmp 4) (.bool false) (fun _ => rfl) rfl rfl ?_
  refine wl_skip rfl ?_
  refine wl_skip rfl ?_
  refine wl_skip rfl ?_
  refine wl_skip rfl ?_
  refine wl_skip rfl ?_
  refine wl_pick (.tmp 5) (.tmp 10) (.const (.bool false)) false (.bool false) (fun _ => rfl) rfl rfl rfl ?_
  refine wl_mv (.tmp 11) (.bool false) (fun _ => rfl) rfl rfl ?_
  refine w_nil ?_
  refine xn_then ?_
  refine w_ret ?_
  exact w_ret1 _ (.bool false) rfl rfl ⟨rfl, M⟩
theorem made_u1 {t : Nat} (Q : At w t [pp none, .map none, .int .i64 0]) : Calls Try.prog 29 #[pt t 0] w fun e w' => e = .returned (.bool false) ∧ Mo w w' := by
  refine w_enter 12 Try.func29 Try.ntmps29 rfl rfl ?_
  have M : Mo w w := Mo.refl _
  refine w_seq ?_
  refine w_reg ?_
  refine wl_mv (.const (.bool false)) (.bool false) (fun _ => rfl) rfl rfl ?_
  refine w_nil ?_
  refine xn_then ?_
  refine w_seq ?_
  refine w_reg ?_
  refine wl_mv (.tmp 0) (pt t 0) (fun _ => rfl) rfl rfl ?_
  refine wl_bin (fun x y => do eqGuard .neq 23 (.tmp 3) (.const (.pointer none)) x y; binOp .neq 23 x y) (.tmp 3) (.const (.pointer none)) (pt t 0) (pp none) (.bool true) (fun _ => rfl) rfl rfl (by kernel_rfl) rfl ?_
  refine wl_mv (.tmp 4) (.bool true) (fun _ => rfl) rfl rfl ?_
  refine wl_mv (.tmp 0) (pt t 0) (fun _ => rfl) rfl rfl ?_
  refine wl_nc (.tmp 6) t 0 rfl rfl rfl ?_
  refine wl_un (fun v => Instr.fieldAt 59 v 1) (.tmp 7) (pt t 0) (pt t 1) (fun _ => rfl) rfl (by kernel_rfl) rfl ?_
  refine wl_load 57 (.tmp 8) (pt t 1) (.map none) rfl rfl (run_one Q 57 1 rfl Try.underlying57 rfl) rfl ?_
  refine wl_bin (fun x y => do eqGuard .neq 57 (.tmp 9) (.const (.map none)) x y; binOp .neq 57 x y) (.tmp 9) (.const (.map none)) (.map none) (.map none) (.bool false) (fun _ => rfl) rfl rfl (by kernel_rfl) rfl ?_
  refine wl_pick (.tmp 5) (.tmp 10) (.const (.bool false)) true (.bool false) (fun _ => rfl) rfl rfl rfl ?_
  refine wl_mv (.tmp 11) (.bool false) (fun _ => rfl) rfl rfl ?_
  refine w_nil ?_
  refine xn_then ?_
  refine w_ret ?_
  exact w_ret1 _ (.bool false) rfl rfl ⟨rfl, M⟩
theorem made_u {v : Value} (h : UT w v) : Calls Try.prog 29 #[v] w fun e w' => e = .returned (.bool false) ∧ Mo w w' := by
  rcases h with rfl | ⟨t, rfl, h⟩
  · exact made_u0
  · exact made_u1 h
theorem len_u {v : Value} (h : UT w v) : Calls Try.prog 15 #[v] w fun e w' => e = .returned (.int .i64 0) ∧ Mo w w' := by
  refine w_enter 11 Try.func15 Try.ntmps15 rfl rfl ?_
  have M : Mo w w := Mo.refl _
  refine w_seq ?_
  refine w_reg ?_
  refine wl_mv (.const (.int .i64 (0))) (.int .i64 (0)) (fun _ => rfl) rfl rfl ?_
  refine w_nil ?_
  refine xn_then ?_
  refine w_seq ?_
  refine w_seq ?_
  refine w_reg ?_
  refine wl_mv (.tmp 0) (v) (fun _ => rfl) rfl rfl ?_
  refine wl_call 29 [(.tmp 3)] _ [v] (.bool false) rfl rfl (fun _ _ => by kernel_rfl) (made_u h) rfl ?_
  intro w1 hq
  replace h := h.mo hq
  replace M := M.trans hq
  clear hq
  refine wl_un (fun v => Op.unary .not v) (.tmp 4) (.bool false) (.bool true) (fun _ => rfl) rfl (by kernel_rfl) rfl ?_
  refine w_nil ?_
  refine xn_then ?_
  refine w_condT rfl ?_
  refine w_seq ?_
  refine w_reg ?_
  refine wl_mv (.const (.int .i64 (0))) (.int .i64 (0)) (fun _ => rfl) rfl rfl ?_
  refine w_nil ?_
  refine xn_then ?_
  refine w_ret ?_
  refine xr_then ?_
  exact w_ret1 _ (.int .i64 (0)) rfl rfl ⟨rfl, M⟩
theorem looked_u {v : Value} (h : UT w v) : Calls Try.prog 18 #[v] w fun e w' => e = .returned (.int .i64 0) ∧ Mo w w' := by
  refine w_enter 10 Try.func18 Try.ntmps18 rfl rfl ?_
  have M : Mo w w := Mo.refl _
  refine w_seq ?_
  refine w_reg ?_
  refine wl_mv (.const (.int .i64 (0))) (.int .i64 (0)) (fun _ => rfl) rfl rfl ?_
  refine w_nil ?_
  refine xn_then ?_
  refine w_seq ?_
  refine w_seq ?_
  refine w_reg ?_
  refine wl_mv (.tmp 0) (v) (fun _ => rfl) rfl rfl ?_
  refine wl_call 29 [(.tmp 3)] _ [v] (.bool false) rfl rfl (fun _ _ => by kernel_rfl) (made_u h) rfl ?_
  intro w1 hq
  replace h := h.mo hq
  replace M := M.trans hq
  clear hq
  refine wl_un (fun v => Op.unary .not v) (.tmp 4) (.bool false) (.bool true) (fun _ => rfl) rfl (by kernel_rfl) rfl ?_
  refine w_nil ?_
  refine xn_then ?_
  refine w_condT rfl ?_
  refine w_seq ?_
  refine w_reg ?_
  refine wl_mv (.const (.int .i64 (0))) (.int .i64 (0)) (fun _ => rfl) rfl rfl ?_
  refine w_nil ?_
  refine xn_then ?_
  refine w_ret ?_
  refine xr_then ?_
  exact w_ret1 _ (.int .i64 (0)) rfl rfl ⟨rfl, M⟩
theorem depth_u {v : Value} (h : UT w v) : Calls Try.prog 22 #[v] w fun e w' => e = .returned (.int .i64 0) ∧ Mo w w' := by
  refine w_enter 11 Try.func22 Try.ntmps22 rfl rfl ?_
  have M : Mo w w := Mo.refl _
  refine w_seq ?_
  refine w_reg ?_
  refine wl_mv (.const (.int .i64 (0))) (.int .i64 (0)) (fun _ => rfl) rfl rfl ?_
  refine w_nil ?_
  refine xn_then ?_
  refine w_seq ?_
  refine w_seq ?_
  refine w_reg ?_
  refine wl_mv (.tmp 0) (v) (fun _ => rfl) rfl rfl ?_
  refine wl_call 29 [(.tmp 3)] _ [v] (.bool false) rfl rfl (fun _ _ => by kernel_rfl) (made_u h) rfl ?_
  intro w1 hq
  replace h := h.mo hq
  replace M := M.trans hq
  clear hq
  refine wl_un (fun v => Op.unary .not v) (.tmp 4) (.bool false) (.bool true) (fun _ => rfl) rfl (by kernel_rfl) rfl ?_
  refine w_nil ?_
  refine xn_then ?_
  refine w_condT rfl ?_
  refine w_seq ?_
  refine w_reg ?_
  refine wl_mv (.const (.int .i64 (0))) (.int .i64 (0)) (fun _ => rfl) rfl rfl ?_
  refine w_nil ?_
  refine xn_then ?_
  refine w_ret ?_
  refine xr_then ?_
  exact w_ret1 _ (.int .i64 (0)) rfl rfl ⟨rfl, M⟩
theorem clone_u {v : Value} (h : UT w v) : Calls Try.prog 24 #[v] w fun e w' => e = .returned (.pointer none) ∧ Mo w w' := by
  refine w_enter 25 Try.func24 Try.ntmps24 rfl rfl ?_
  have M : Mo w w := Mo.refl _
  refine w_seq ?_
  refine w_reg ?_
  refine wl_mv (.const (.pointer none)) (pp none) (fun _ => rfl) rfl rfl ?_
  refine w_nil ?_
  refine xn_then ?_
  refine w_seq ?_
  refine w_seq ?_
  refine w_reg ?_
  refine wl_mv (.tmp 0) (v) (fun _ => rfl) rfl rfl ?_
  refine wl_call 29 [(.tmp 4)] _ [v] (.bool false) rfl rfl (fun _ _ => by kernel_rfl) (made_u h) rfl ?_
  intro w1 hq
  replace h := h.mo hq
  replace M := M.trans hq
  clear hq
  refine wl_un (fun v => Op.unary .not v) (.tmp 5) (.bool false) (.bool true) (fun _ => rfl) rfl (by kernel_rfl) rfl ?_
  refine w_nil ?_
  refine xn_then ?_
  refine w_condT rfl ?_
  refine w_seq ?_
  refine w_reg ?_
  refine wl_mv (.const (.pointer none)) (pp none) (fun _ => rfl) rfl rfl ?_
  refine w_nil ?_
  refine xn_then ?_
  refine w_ret ?_
  refine xr_then ?_
  exact w_ret1 _ (pp none) rfl rfl ⟨rfl, M⟩
theorem ids_u {v : Value} (h : UT w v) : Calls Try.prog 31 #[v] w fun e w' => e = .returned (.slice none 0 0) ∧ Mo w w' := by
  refine w_enter 22 Try.func31 Try.ntmps31 rfl rfl ?_
  have M : Mo w w := Mo.refl _
  refine w_seq ?_
  refine w_reg ?_
  refine wl_mv (.const (.slice none 0 0)) (.slice none 0 0) (fun _ => rfl) rfl rfl ?_
  refine w_nil ?_
  refine xn_then ?_
  refine w_seq ?_
  refine w_seq ?_
  refine w_reg ?_
  refine wl_mv (.tmp 0) (v) (fun _ => rfl) rfl rfl ?_
  refine wl_call 29 [(.tmp 5)] _ [v] (.bool false) rfl rfl (fun _ _ => by kernel_rfl) (made_u h) rfl ?_
  intro w1 hq
  replace h := h.mo hq
  replace M := M.trans hq
  clear hq
  refine wl_un (fun v => Op.unary .not v) (.tmp 6) (.bool false) (.bool true) (fun _ => rfl) rfl (by kernel_rfl) rfl ?_
  refine w_nil ?_
  refine xn_then ?_
  refine w_condT rfl ?_
  refine w_seq ?_
  refine w_reg ?_
  refine wl_mv (.const (.slice none 0 0)) (.slice none 0 0) (fun _ => rfl) rfl rfl ?_
  refine w_nil ?_
  refine xn_then ?_
  refine w_ret ?_
  refine xr_then ?_
  exact w_ret1 _ (.slice none 0 0) rfl rfl ⟨rfl, M⟩
theorem insert_u {v : Value} (h : UT w v) (a i : Int) : Calls Try.prog 19 #[v, .int .i64 a, .int .i64 i] w fun e w' => e = .returned (.int .i64 2) ∧ Mo w w' := by
  refine w_enter 43 Try.func19 Try.ntmps19 rfl rfl ?_
  have M : Mo w w := Mo.refl _
  refine w_seq ?_
  refine w_reg ?_
  refine wl_mv (.const (.int .i64 (0))) (.int .i64 (0)) (fun _ => rfl) rfl rfl ?_
  refine w_nil ?_
  refine xn_then ?_
  refine w_seq ?_
  refine w_block ?_
  refine w_seq ?_
  refine w_reg ?_
  refine wl_mv (.tmp 0) (v) (fun _ => rfl) rfl rfl ?_
  refine wl_call 29 [(.tmp 8)] _ [v] (.bool false) rfl rfl (fun _ _ => by kernel_rfl) (made_u h) rfl ?_
  intro w1 hq
  replace h := h.mo hq
  replace M := M.trans hq
  clear hq
  refine wl_un (fun v => Op.unary .not v) (.tmp 9) (.bool false) (.bool true) (fun _ => rfl) rfl (by kernel_rfl) rfl ?_
  refine wl_mv (.tmp 10) (.bool true) (fun _ => rfl) rfl rfl ?_
  refine w_nil ?_
  refine xn_then ?_
  refine w_condT rfl ?_
  refine w_seq ?_
  refine w_reg ?_
  refine wl_mv (.const (.int .i64 (2))) (.int .i64 (2)) (fun _ => rfl) rfl rfl ?_
  refine w_nil ?_
  refine xn_then ?_
  refine w_ret ?_
  refine xr_blk ?_
  refine xr_then ?_
  exact w_ret1 _ (.int .i64 (2)) rfl rfl ⟨rfl, M⟩
theorem delete_u {v : Value} (h : UT w v) (i : Int) : Calls Try.prog 20 #[v, .int .i64 i] w fun e w' => e = .returned (.tuple #[.int .i64 0, .int .i64 2]) ∧ Mo w w' := by
  refine w_enter 26 Try.func20 Try.ntmps20 rfl rfl ?_
  have M : Mo w w := Mo.refl _
  refine w_seq ?_
  refine w_reg ?_
  refine wl_mv (.const (.int .i64 (0))) (.int .i64 (0)) (fun _ => rfl) rfl rfl ?_
  refine wl_mv (.const (.int .i64 (0))) (.int .i64 (0)) (fun _ => rfl) rfl rfl ?_
  refine w_nil ?_
  refine xn_then ?_
  refine w_seq ?_
  refine w_seq ?_
  refine w_reg ?_
  refine wl_mv (.tmp 0) (v) (fun _ => rfl) rfl rfl ?_
  refine wl_call 29 [(.tmp 8)] _ [v] (.bool false) rfl rfl (fun _ _ => by kernel_rfl) (made_u h) rfl ?_
  intro w1 hq
  replace h := h.mo hq
  replace M := M.trans hq
  clear hq
  refine wl_un (fun v => Op.unary .not v) (.tmp 9) (.bool false) (.bool true) (fun _ => rfl) rfl (by kernel_rfl) rfl ?_
  refine w_nil ?_
  refine xn_then ?_
  refine w_condT rfl ?_
  refine w_seq ?_
  refine w_reg ?_
  refine wl_mv (.const (.int .i64 (0))) (.int .i64 (0)) (fun _ => rfl) rfl rfl ?_
  refine wl_mv (.const (.int .i64 (2))) (.int .i64 (2)) (fun _ => rfl) rfl rfl ?_
  refine w_nil ?_
  refine xn_then ?_
  refine w_ret ?_
  refine xr_then ?_
  exact w_ret2 _ _ (.int .i64 (0)) (.int .i64 (2)) rfl rfl rfl ⟨rfl, M⟩
theorem move_u {v : Value} (h : UT w v) (i a : Int) : Calls Try.prog 21 #[v, .int .i64 i, .int .i64 a] w fun e w' => e = .returned (.tuple #[.int .i64 0, .int .i64 2]) ∧ Mo w w' := by
  refine w_enter 40 Try.func21 Try.ntmps21 rfl rfl ?_
  have M : Mo w w := Mo.refl _
  refine w_seq ?_
  refine w_reg ?_
  refine wl_mv (.const (.int .i64 (0))) (.int .i64 (0)) (fun _ => rfl) rfl rfl ?_
  refine wl_mv (.const (.int .i64 (0))) (.int .i64 (0)) (fun _ => rfl) rfl rfl ?_
  refine w_nil ?_
  refine xn_then ?_
  refine w_seq ?_
  refine w_seq ?_
  refine w_reg ?_
  refine wl_mv (.tmp 0) (v) (fun _ => rfl) rfl rfl ?_
  refine wl_call 29 [(.tmp 10)] _ [v] (.bool false) rfl rfl (fun _ _ => by kernel_rfl) (made_u h) rfl ?_
  intro w1 hq
  replace h := h.mo hq
  replace M := M.trans hq
  clear hq
  refine wl_un (fun v => Op.unary .not v) (.tmp 11) (.bool false) (.bool true) (fun _ => rfl) rfl (by kernel_rfl) rfl ?_
  refine w_nil ?_
  refine xn_then ?_
  refine w_condT rfl ?_
  refine w_seq ?_
  refine w_reg ?_
  refine wl_mv (.const (.int .i64 (0))) (.int .i64 (0)) (fun _ => rfl) rfl rfl ?_
  refine wl_mv (.const (.int .i64 (2))) (.int .i64 (2)) (fun _ => rfl) rfl rfl ?_
  refine w_nil ?_
  refine xn_then ?_
  refine w_ret ?_
  refine xr_then ?_
  exact w_ret2 _ _ (.int .i64 (0)) (.int .i64 (2)) rfl rfl rfl ⟨rfl, M⟩
theorem index_u {v : Value} (h : UT w v) (i : Int) : Calls Try.prog 13 #[v, .int .i64 i] w fun e w' => e = .returned (.tuple #[.int .i64 0, .bool false]) ∧ Mo w w' := by
  refine w_enter 21 Try.func13 Try.ntmps13 rfl rfl ?_
  have M : Mo w w := Mo.refl _
  refine w_seq ?_
  refine w_reg ?_
  refine wl_mv (.const (.int .i64 (0))) (.int .i64 (0)) (fun _ => rfl) rfl rfl ?_
  refine wl_mv (.const (.bool false)) (.bool false) (fun _ => rfl) rfl rfl ?_
  refine w_nil ?_
  refine xn_then ?_
  refine w_seq ?_
  refine w_seq ?_
  refine w_reg ?_
  refine wl_mv (.tmp 0) (v) (fun _ => rfl) rfl rfl ?_
  refine wl_call 29 [(.tmp 7)] _ [v] (.bool false) rfl rfl (fun _ _ => by kernel_rfl) (made_u h) rfl ?_
  intro w1 hq
  replace h := h.mo hq
  replace M := M.trans hq
  clear hq
  refine wl_un (fun v => Op.unary .not v) (.tmp 8) (.bool false) (.bool true) (fun _ => rfl) rfl (by kernel_rfl) rfl ?_
  refine w_nil ?_
  refine xn_then ?_
  refine w_condT rfl ?_
  refine w_seq ?_
  refine w_reg ?_
  refine wl_mv (.const (.int .i64 (0))) (.int .i64 (0)) (fun _ => rfl) rfl rfl ?_
  refine wl_mv (.const (.bool false)) (.bool false) (fun _ => rfl) rfl rfl ?_
  refine w_nil ?_
  refine xn_then ?_
  refine w_ret ?_
  refine xr_then ?_
  exact w_ret2 _ _ (.int .i64 (0)) (.bool false) rfl rfl rfl ⟨rfl, M⟩
theorem at_ua {v : Value} (a : Int) (q0 : decide (a < 0) = true) : Calls Try.prog 11 #[v, .int .i64 a] w fun e w' => e = .returned (.tuple #[.int .i64 0, .bool false]) ∧ Mo w w' := by
  refine w_enter 20 Try.func11 Try.ntmps11 rfl rfl ?_
  have M : Mo w w := Mo.refl _
  refine w_seq ?_
  refine w_reg ?_
  refine wl_mv (.const (.int .i64 (0))) (.int .i64 (0)) (fun _ => rfl) rfl rfl ?_
  refine wl_mv (.const (.bool false)) (.bool false) (fun _ => rfl) rfl rfl ?_
  refine w_nil ?_
  refine xn_then ?_
  refine w_seq ?_
  refine w_seq ?_
  refine w_reg ?_
  refine wl_mv (.tmp 1) (.int .i64 (a)) (fun _ => rfl) rfl rfl ?_
  refine wl_bin (fun x y => do eqGuard .lss 3 (.tmp 6) (.const (.int .i64 (0))) x y; binOp .lss 3 x y) (.tmp 6) (.const (.int .i64 (0))) (.int .i64 (a)) (.int .i64 (0)) (.bool true) (fun _ => rfl) rfl rfl (ltI q0 _ _ _) rfl ?_
  refine wl_mv (.tmp 7) (.bool true) (fun _ => rfl) rfl rfl ?_
  refine wl_skip rfl ?_
  refine wl_skip rfl ?_
  refine wl_skip rfl ?_
  refine wl_skip rfl ?_
  refine wl_pick (.tmp 8) (.const (.bool true)) (.tmp 12) true (.bool true) (fun _ => rfl) rfl rfl rfl ?_
  refine w_nil ?_
  refine xn_then ?_
  refine w_condT rfl ?_
  refine w_seq ?_
  refine w_reg ?_
  refine wl_mv (.const (.int .i64 (0))) (.int .i64 (0)) (fun _ => rfl) rfl rfl ?_
  refine wl_mv (.const (.bool false)) (.bool false) (fun _ => rfl) rfl rfl ?_
  refine w_nil ?_
  refine xn_then ?_
  refine w_ret ?_
  refine xr_then ?_
  exact w_ret2 _ _ (.int .i64 (0)) (.bool false) rfl rfl rfl ⟨rfl, M⟩
theorem at_ub {v : Value} (h : UT w v) (a : Int) (q0 : decide (a < 0) = false) (q1 : decide (0 ≤ a) = true) : Calls Try.prog 11 #[v, .int .i64 a] w fun e w' => e = .returned (.tuple #[.int .i64 0, .bool false]) ∧ Mo w w' := by
  refine w_enter 20 Try.func11 Try.ntmps11 rfl rfl ?_
  have M : Mo w w := Mo.refl _
  refine w_seq ?_
  refine w_reg ?_
  refine wl_mv (.const (.int .i64 (0))) (.int .i64 (0)) (fun _ => rfl) rfl rfl ?_
  refine wl_mv (.const (.bool false)) (.bool false) (fun _ => rfl) rfl rfl ?_
  refine w_nil ?_
  refine xn_then ?_
  refine w_seq ?_
  refine w_seq ?_
  refine w_reg ?_
  refine wl_mv (.tmp 1) (.int .i64 (a)) (fun _ => rfl) rfl rfl ?_
  refine wl_bin (fun x y => do eqGuard .lss 3 (.tmp 6) (.const (.int .i64 (0))) x y; binOp .lss 3 x y) (.tmp 6) (.const (.int .i64 (0))) (.int .i64 (a)) (.int .i64 (0)) (.bool false) (fun _ => rfl) rfl rfl (ltI q0 _ _ _) rfl ?_
  refine wl_mv (.tmp 7) (.bool false) (fun _ => rfl) rfl rfl ?_
  refine wl_mv (.tmp 1) (.int .i64 (a)) (fun _ => rfl) rfl rfl ?_
  refine wl_mv (.tmp 0) (v) (fun _ => rfl) rfl rfl ?_
  refine wl_call 15 [(.tmp 10)] _ [v] (.int .i64 (0)) rfl rfl (fun _ _ => by kernel_rfl) (len_u h) rfl ?_
  intro w1 hq
  replace h := h.mo hq
  replace M := M.trans hq
  clear hq
  refine wl_bin (fun x y => do eqGuard .geq 3 (.tmp 9) (.tmp 11) x y; binOp .geq 3 x y) (.tmp 9) (.tmp 11) (.int .i64 (a)) (.int .i64 (0)) (.bool true) (fun _ => rfl) rfl rfl (geI q1 _ _ _) rfl ?_
  refine wl_pick (.tmp 8) (.const (.bool true)) (.tmp 12) false (.bool true) (fun _ => rfl) rfl rfl rfl ?_
  refine w_nil ?_
  refine xn_then ?_
  refine w_condT rfl ?_
  refine w_seq ?_
  refine w_reg ?_
  refine wl_mv (.const (.int .i64 (0))) (.int .i64 (0)) (fun _ => rfl) rfl rfl ?_
  refine wl_mv (.const (.bool false)) (.bool false) (fun _ => rfl) rfl rfl ?_
  refine w_nil ?_
  refine xn_then ?_
  refine w_ret ?_
  refine xr_then ?_
  exact w_ret2 _ _ (.int .i64 (0)) (.bool false) rfl rfl rfl ⟨rfl, M⟩
theorem at_u {v : Value} (h : UT w v) (a : Int) : Calls Try.prog 11 #[v, .int .i64 a] w fun e w' => e = .returned (.tuple #[.int .i64 0, .bool false]) ∧ Mo w w' := by
  by_cases c : a < 0
  · exact at_ua a (decide_eq_true c)
  · exact at_ub h a (decide_eq_false c) (decide_eq_true (by omega))
theorem all_n {t mb : Nat} {D : Nat → Prop} {lk : Int} {tr : T} (hF : FT D w t mb tr lk) : Calls Try.prog 17 #[pt t 0] w fun e w' => ∃ kb p cap, e = .returned (.func (.func 32) #[] #[pt kb 0]) ∧ At w' kb [.slice p tr.ids.length cap] ∧ SI w' p tr.ids ∧ (∀ k, pb p k → w.heap.size ≤ k ∧ k < w'.heap.size) ∧ w.heap.size ≤ kb ∧ Mo w w' := by
  refine w_enter 7 Try.func17 Try.ntmps17 rfl rfl ?_
  have M : Mo w w := Mo.refl _
  refine w_seq ?_
  refine w_reg ?_
  refine wl_mv (.const (Go.Value.nilFunc)) (.nilFunc) (fun _ => rfl) rfl rfl ?_
  refine w_nil ?_
  refine xn_then ?_
  refine w_seq ?_
  refine w_reg ?_
  refine wl_mv (.tmp 0) (pt t 0) (fun _ => rfl) rfl rfl ?_
  refine wl_callx 31 [(.tmp 4)] _ [pt t 0] rfl rfl (fun _ _ => by kernel_rfl) (R.ids_n (hF.mo M)) rfl ?_
  rintro _ w1 ⟨p, cap, rfl, hSI, hpb, hq⟩
  refine ⟨_, rfl, ?_⟩
  replace M := M.trans hq
  clear hq
  refine wl_alloc 26 #[.slice none 0 0] rfl (fun _ => by kernel_rfl) rfl ?_
  intro k1 w2 hk hz hq Q1
  have N_k1 : w.heap.size ≤ k1 := by have := M.size; omega
  have hks : ∀ j, pb p j → j < k1 := fun j hj => by have := (hpb j hj).2; omega
  replace hSI := hSI.mo hq
  replace hpb := PB.mo hpb hq
  replace M := M.trans hq
  clear hk hz hq
  refine wl_st1x 26 (.tmp 3) (.tmp 5) k1 0 (.slice p tr.ids.length cap) [.slice none 0 0] [.slice p tr.ids.length cap] Q1 rfl rfl rfl rfl rfl sz26 rfl rfl rfl rfl ?_
  intro w3 hT Qn
  replace Q1 := Qn
  clear Qn
  replace hSI := R.SI.st hSI hT (fun j hj => by have := (hpb j hj).2; have := hks j hj; omega)
  replace hpb := PB.st hpb hT
  replace M := (Mk.refl (fun j => j = k1) _ |>.st hT rfl).mo M (fun _ e => e ▸ N_k1)
  clear hT
  refine w_nil ?_
  refine xn_then ?_
  refine w_seq ?_
  refine w_reg ?_
  refine wl_val (.func (.func 32) #[] #[pt k1 0]) (mf2 32 _ _ _ (by exact rfl) _ _ _ _ _ _) rfl ?_
  refine wl_mv (.tmp 6) (.func (.func 32) #[] #[pt k1 0]) (fun _ => rfl) rfl rfl ?_
  refine w_nil ?_
  refine xn_then ?_
  refine w_ret ?_
  exact w_ret1 _ _ rfl rfl ⟨k1, p, cap, rfl, Q1, hSI, fun k hk => ⟨(hpb k hk).1, (hpb k hk).2⟩, N_k1, M⟩
theorem all_u {v : Value} (h : UT w v) : Calls Try.prog 17 #[v] w fun e w' => ∃ kb, e = .returned (.func (.func 32) #[] #[pt kb 0]) ∧ At w' kb [.slice none 0 0] ∧ Mo w w' := by
  refine w_enter 7 Try.func17 Try.ntmps17 rfl rfl ?_
  have M : Mo w w := Mo.refl _
  refine w_seq ?_
  refine w_reg ?_
  refine wl_mv (.const (Go.Value.nilFunc)) (.nilFunc) (fun _ => rfl) rfl rfl ?_
  refine w_nil ?_
  refine xn_then ?_
  refine w_seq ?_
  refine w_reg ?_
  refine wl_mv (.tmp 0) (v) (fun _ => rfl) rfl rfl ?_
  refine wl_call 31 [(.tmp 4)] _ [v] (.slice none 0 0) rfl rfl (fun _ _ => by kernel_rfl) (ids_u h) rfl ?_
  intro w1 hq
  replace h := h.mo hq
  replace M := M.trans hq
  clear hq
  refine wl_alloc 26 #[.slice none 0 0] rfl (fun _ => by kernel_rfl) rfl ?_
  intro k1 w2 hk hz hq Q1
  have N_k1 : w.heap.size ≤ k1 := by have := M.size; omega
  replace h := h.mo hq
  replace M := M.trans hq
  clear hk hz hq
  refine wl_st1x 26 (.tmp 3) (.tmp 5) k1 0 (.slice none 0 0) [.slice none 0 0] [.slice none 0 0] Q1 rfl rfl rfl rfl rfl sz26 rfl rfl rfl rfl ?_
  intro w3 hT Qn
  replace Q1 := Qn
  clear Qn
  replace M := (Mk.refl (fun j => j = k1) _ |>.st hT rfl).mo M (fun _ e => e ▸ N_k1)
  clear hT
  refine w_nil ?_
  refine xn_then ?_
  refine w_seq ?_
  refine w_reg ?_
  refine wl_val (.func (.func 32) #[] #[pt k1 0]) (mf2 32 _ _ _ (by exact rfl) _ _ _ _ _ _) rfl ?_
  refine wl_mv (.tmp 6) (.func (.func 32) #[] #[pt k1 0]) (fun _ => rfl) rfl rfl ?_
  refine w_nil ?_
  refine xn_then ?_
  refine w_ret ?_
  exact w_ret1 _ _ rfl rfl ⟨k1, rfl, Q1, M⟩
end
end Go.Proofs.Ytbmbldloeblbbaa
