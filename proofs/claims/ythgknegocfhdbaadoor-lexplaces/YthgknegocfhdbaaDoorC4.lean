/-
  A part of the proof.
-/
import Derived.Test.YthgknegocfhdbaaDoorC3
import Derived.Test.YthgknegocfhdbaaDoorC1
import Derived.Laws.StructEq
namespace Go.Proofs.YthgknegocfhdbaaDoor
open Go.RowKit
theorem eqe_run {s : ByteArray} {r : Bool} (h : s.toList.isEmpty = r) (x y : Operand) (w : World) : (do eqGuard .eql 9 x y (.string s) (.string ⟨#[]⟩); binOp .eql 9 (.string s) (.string ⟨#[]⟩)).run Tryd.prog w = .ok (.bool r) w := by
  subst h; simp [go_sem]
theorem idx_s (s : ByteArray) (k : Nat) (h : k < s.size) (w : World) : (Instr.index 9 (.string s) (.int .i64 (k : Int))).run Tryd.prog w = .ok (.int .u8 (s[k].toNat : Int)) w := by
  simp [go_sem, h]
theorem len_run (ρ : Operand → Value) (x : Operand) (s : ByteArray) (hx : ρ x = .string s) (dst : Option Tmp) (type : TypeId) (pos : String) (after : Array Edge) (guard : Option (Nat × Bool)) (w : World) : (execOp ρ { dst, op := .call { callee := .builtin .len, args := #[x], argTypes := #[9] }, type, pos, after, guard }).run Tryd.prog w = .ok (.value (.int .i64 (s.size : Int))) w := by
  simp [go_sem, hx]
theorem ls5 {a b : Int} {r : Bool} (h : decide (a < b) = r) (x y : Operand) (w : World) : (do eqGuard .lss 5 x y (.int .u8 a) (.int .u8 b); binOp .lss 5 (.int .u8 a) (.int .u8 b)).run Tryd.prog w = .ok (.bool r) w := by
  subst h; kernel_rfl
theorem add1_run {k : Nat} (hk : k ≤ 9223372036854775806) (x y : Operand) (w : World) : (do eqGuard .add 3 x y (.int .i64 (k : Int)) (.int .i64 1); binOp .add 3 (.int .i64 (k : Int)) (.int .i64 1)).run Tryd.prog w = .ok (.int .i64 ((k + 1 : Nat) : Int)) w := by
  have e : (do eqGuard .add 3 x y (.int .i64 (k : Int)) (.int .i64 1); binOp .add 3 (.int .i64 (k : Int)) (.int .i64 1)).run Tryd.prog w = .ok (.int .i64 (IntKind.i64.wrap ((k : Int) + 1))) w := by kernel_rfl
  have h : IntKind.i64.wrap ((k : Int) + 1) = ((k + 1 : Nat) : Int) := by rw [IntKind.wrap_i64]; omega
  rw [e, h]
theorem gt5_run {a b : Int} {r : Bool} (h : decide (a > b) = r) (x y : Operand) (w : World) : (do eqGuard .gtr 5 x y (.int .u8 a) (.int .u8 b); binOp .gtr 5 (.int .u8 a) (.int .u8 b)).run Tryd.prog w = .ok (.bool r) w := by
  subst h; kernel_rfl
theorem eq5_run {a b : Int} {r : Bool} (h : (a == b) = r) (x y : Operand) (w : World) : (do eqGuard .eql 5 x y (.int .u8 a) (.int .u8 b); binOp .eql 5 (.int .u8 a) (.int .u8 b)).run Tryd.prog w = .ok (.bool r) w := by
  subst h; kernel_rfl
theorem lt3_run {a b : Int} {r : Bool} (h : decide (a < b) = r) (x y : Operand) (w : World) : (do eqGuard .lss 3 x y (.int .i64 a) (.int .i64 b); binOp .lss 3 (.int .i64 a) (.int .i64 b)).run Tryd.prog w = .ok (.bool r) w := by
  subst h; kernel_rfl
theorem gt3_run {a b : Int} {r : Bool} (h : decide (a > b) = r) (x y : Operand) (w : World) : (do eqGuard .gtr 3 x y (.int .i64 a) (.int .i64 b); binOp .gtr 3 (.int .i64 a) (.int .i64 b)).run Tryd.prog w = .ok (.bool r) w := by
  subst h; kernel_rfl
theorem idx_0 (s : ByteArray) (h : 0 < s.size) (w : World) : (Instr.index 9 (.string s) (.int .i64 0)).run Tryd.prog w = .ok (.int .u8 (s[0].toNat : Int)) w := idx_s s 0 h w
/-- The first k bytes are digits. -/
def dgs (s : ByteArray) (k : Nat) : Prop := ∀ (j : Nat) (h : j < s.size), j < k → 48 ≤ (s[j].toNat : Int) ∧ (s[j].toNat : Int) ≤ 57
/-- A text of digits with no 0 ahead of others. -/
def isT (s : ByteArray) : Prop := ∃ h : 0 < s.size, ¬ (s.size > 1 ∧ (s[0].toNat : Int) = 48) ∧ dgs s s.size
theorem isT_mk {s : ByteArray} {k : Nat} (hp : 0 < s.size) (hl : ¬ (s.size > 1 ∧ (s[0].toNat : Int) = 48)) (hk : k = s.size) (hd : dgs s k) : isT s := ⟨hp, hl, by rw [← hk]; exact hd⟩
theorem emp_iff (s : ByteArray) : s.toList.isEmpty = decide (s.size = 0) := by
  rw [ByteArray.toList_eq]
  have e : s.size = s.data.toList.length := by rw [Array.length_toList]; rfl
  rw [e]
  cases s.data.toList <;> rfl
theorem dgs_succ {s : ByteArray} {k : Nat} (h : k < s.size) (hd : dgs s k) (a : 48 ≤ (s[k].toNat : Int)) (b : (s[k].toNat : Int) ≤ 57) : dgs s (k + 1) := fun j hj hjk => by
  by_cases e : j = k
  · subst e; exact ⟨a, b⟩
  · exact hd j hj (by omega)
theorem isd_emp (s : ByteArray) (w : World) (h0 : s.toList.isEmpty = true) : Calls Tryd.prog 71 #[.string s] w fun e w' => e = .returned (.bool false) ∧ Mo w w' := by
  refine w_enter 32 Tryd.func71 Tryd.ntmps71 rfl rfl ?_
  have M : Mo w w := Mo.refl _
  refine w_seq ?_
  refine w_reg ?_
  refine wl_mv (.const (.bool false)) (.bool false) (fun _ => rfl) rfl rfl ?_
  refine w_nil ?_
  refine xn_then ?_
  refine w_seq ?_
  refine w_seq ?_
  refine w_reg ?_
  refine wl_mv (.tmp 0) (.string s) (fun _ => rfl) rfl rfl ?_
  refine wl_bin (fun x y => do eqGuard .eql 9 (.tmp 4) (.const (.string ⟨#[]⟩)) x y; binOp .eql 9 x y) (.tmp 4) (.const (.string ⟨#[]⟩)) (.string s) (.string ⟨#[]⟩) (.bool true) (fun _ => rfl) rfl rfl (eqe_run h0 _ _ _) rfl ?_
  refine wl_mv (.tmp 5) (.bool true) (fun _ => rfl) rfl rfl ?_
  refine wl_skip rfl ?_
  refine wl_skip rfl ?_
  refine wl_skip rfl ?_
  refine wl_skip rfl ?_
  refine wl_skip rfl ?_
  refine wl_skip rfl ?_
  refine wl_skip rfl ?_
  refine wl_skip rfl ?_
  refine wl_pick (.tmp 6) (.const (.bool true)) (.tmp 14) true (.bool true) (fun _ => rfl) rfl rfl rfl ?_
  refine w_nil ?_
  refine xn_then ?_
  refine w_condT rfl ?_
  refine w_seq ?_
  refine w_reg ?_
  refine wl_mv (.const (.bool false)) (.bool false) (fun _ => rfl) rfl rfl ?_
  refine w_nil ?_
  refine xn_then ?_
  refine w_ret ?_
  refine xr_then ?_
  exact w_ret1 _ (.bool false) rfl rfl ⟨rfl, M⟩
theorem isd_lead (s : ByteArray) (w : World) (h0 : s.toList.isEmpty = false) (hp : 0 < s.size) (h1 : decide ((s.size : Int) > 1) = true) (hz : ((s[0].toNat : Int) == 48) = true) : Calls Tryd.prog 71 #[.string s] w fun e w' => e = .returned (.bool false) ∧ Mo w w' := by
  refine w_enter 32 Tryd.func71 Tryd.ntmps71 rfl rfl ?_
  have M : Mo w w := Mo.refl _
  refine w_seq ?_
  refine w_reg ?_
  refine wl_mv (.const (.bool false)) (.bool false) (fun _ => rfl) rfl rfl ?_
  refine w_nil ?_
  refine xn_then ?_
  refine w_seq ?_
  refine w_seq ?_
  refine w_reg ?_
  refine wl_mv (.tmp 0) (.string s) (fun _ => rfl) rfl rfl ?_
  refine wl_bin (fun x y => do eqGuard .eql 9 (.tmp 4) (.const (.string ⟨#[]⟩)) x y; binOp .eql 9 x y) (.tmp 4) (.const (.string ⟨#[]⟩)) (.string s) (.string ⟨#[]⟩) (.bool false) (fun _ => rfl) rfl rfl (eqe_run h0 _ _ _) rfl ?_
  refine wl_mv (.tmp 5) (.bool false) (fun _ => rfl) rfl rfl ?_
  refine wl_mv (.tmp 0) (.string s) (fun _ => rfl) rfl rfl ?_
  refine wl_val (.int .i64 ((s.size : Int))) (len_run _ _ s rfl _ _ _ _ _ _) rfl ?_
  refine wl_bin (fun x y => do eqGuard .gtr 3 (.tmp 8) (.const (.int .i64 (1))) x y; binOp .gtr 3 x y) (.tmp 8) (.const (.int .i64 (1))) (.int .i64 ((s.size : Int))) (.int .i64 (1)) (.bool true) (fun _ => rfl) rfl rfl (gt3_run h1 _ _ _) rfl ?_
  refine wl_mv (.tmp 9) (.bool true) (fun _ => rfl) rfl rfl ?_
  refine wl_mv (.tmp 0) (.string s) (fun _ => rfl) rfl rfl ?_
  refine wl_bin (fun x y => Instr.index 9 x y) (.tmp 11) (.const (.int .i64 (0))) (.string s) (.int .i64 (0)) (.int .u8 (s[0].toNat : Int)) (fun _ => rfl) rfl rfl (idx_0 s hp _) rfl ?_
  refine wl_bin (fun x y => do eqGuard .eql 5 (.tmp 12) (.const (.int .u8 (48))) x y; binOp .eql 5 x y) (.tmp 12) (.const (.int .u8 (48))) (.int .u8 (s[0].toNat : Int)) (.int .u8 (48)) (.bool true) (fun _ => rfl) rfl rfl (eq5_run hz _ _ _) rfl ?_
  refine wl_pick (.tmp 10) (.tmp 13) (.const (.bool false)) true (.bool true) (fun _ => rfl) rfl rfl rfl ?_
  refine wl_pick (.tmp 6) (.const (.bool true)) (.tmp 14) false (.bool true) (fun _ => rfl) rfl rfl rfl ?_
  refine w_nil ?_
  refine xn_then ?_
  refine w_condT rfl ?_
  refine w_seq ?_
  refine w_reg ?_
  refine wl_mv (.const (.bool false)) (.bool false) (fun _ => rfl) rfl rfl ?_
  refine w_nil ?_
  refine xn_then ?_
  refine w_ret ?_
  refine xr_then ?_
  exact w_ret1 _ (.bool false) rfl rfl ⟨rfl, M⟩
theorem isd_l1 (s : ByteArray) (w : World) [Decidable (isT s)] (hs : s.size ≤ maxLen) (h0 : s.toList.isEmpty = false) (hp : 0 < s.size) (hlead : ¬ (s.size > 1 ∧ (s[0].toNat : Int) = 48)) (h1 : decide ((s.size : Int) > 1) = false) : Calls Tryd.prog 71 #[.string s] w fun e w' => e = .returned (.bool (decide (isT s))) ∧ Mo w w' := by
  refine w_enter 32 Tryd.func71 Tryd.ntmps71 rfl rfl ?_
  have M : Mo w w := Mo.refl _
  refine w_seq ?_
  refine w_reg ?_
  refine wl_mv (.const (.bool false)) (.bool false) (fun _ => rfl) rfl rfl ?_
  refine w_nil ?_
  refine xn_then ?_
  refine w_seq ?_
  refine w_seq ?_
  refine w_reg ?_
  refine wl_mv (.tmp 0) (.string s) (fun _ => rfl) rfl rfl ?_
  refine wl_bin (fun x y => do eqGuard .eql 9 (.tmp 4) (.const (.string ⟨#[]⟩)) x y; binOp .eql 9 x y) (.tmp 4) (.const (.string ⟨#[]⟩)) (.string s) (.string ⟨#[]⟩) (.bool false) (fun _ => rfl) rfl rfl (eqe_run h0 _ _ _) rfl ?_
  refine wl_mv (.tmp 5) (.bool false) (fun _ => rfl) rfl rfl ?_
  refine wl_mv (.tmp 0) (.string s) (fun _ => rfl) rfl rfl ?_
  refine wl_val (.int .i64 ((s.size : Int))) (len_run _ _ s rfl _ _ _ _ _ _) rfl ?_
  refine wl_bin (fun x y => do eqGuard .gtr 3 (.tmp 8) (.const (.int .i64 (1))) x y; binOp .gtr 3 x y) (.tmp 8) (.const (.int .i64 (1))) (.int .i64 ((s.size : Int))) (.int .i64 (1)) (.bool false) (fun _ => rfl) rfl rfl (gt3_run h1 _ _ _) rfl ?_
  refine wl_mv (.tmp 9) (.bool false) (fun _ => rfl) rfl rfl ?_
  refine wl_skip rfl ?_
  refine wl_skip rfl ?_
  refine wl_skip rfl ?_
  refine wl_pick (.tmp 10) (.tmp 13) (.const (.bool false)) false (.bool false) (fun _ => rfl) rfl rfl rfl ?_
  refine wl_pick (.tmp 6) (.const (.bool true)) (.tmp 14) false (.bool false) (fun _ => rfl) rfl rfl rfl ?_
  refine w_nil ?_
  refine xn_then ?_
  refine w_condF rfl ?_
  refine w_skip ?_
  refine xn_then ?_
  refine w_seq ?_
  refine w_seq ?_
  refine w_reg ?_
  refine wl_mv (.tmp 0) (.string s) (fun _ => rfl) rfl rfl ?_
  refine wl_val (.int .i64 ((s.size : Int))) (len_run _ _ s rfl _ _ _ _ _ _) rfl ?_
  refine wl_mv (.const (.int .i64 (0))) (.int .i64 (0)) (fun _ => rfl) rfl rfl ?_
  refine w_nil ?_
  refine xn_then ?_
  refine w_block ?_
  refine w_loop (fun m l w1 => ∃ k : Nat, k + m = s.size ∧ look l 0 = .string s ∧ look l 17 = .int .i64 (s.size : Int) ∧ look l 18 = .int .i64 (k : Int) ∧ dgs s k ∧ Mo w w1) s.size ⟨0, by omega, rfl, rfl, rfl, fun j _ h => absurd h (Nat.not_lt_zero _), M⟩ ?_
  clear M
  rintro m l wl ⟨k, hk, e0, e17, e18, hd, M⟩
  by_cases hlt : k < s.size
  · have hl : decide ((k : Int) < (s.size : Int)) = true := decide_eq_true (by omega)
    cases ha : decide ((s[k].toNat : Int) < 48) with
    | true =>
      refine w_seq ?_
      refine w_reg ?_
      refine wl_bin (fun x y => do eqGuard .lss 3 (.tmp 18) (.tmp 17) x y; binOp .lss 3 x y) (.tmp 18) (.tmp 17) (.int .i64 ((k : Int))) (.int .i64 ((s.size : Int))) (.bool true) (fun _ => rfl) e18 e17 (lt3_run hl _ _ _) rfl ?_
      refine w_nil ?_
      refine xn_then ?_
      refine w_seq ?_
      refine w_condT rfl ?_
      refine w_skip ?_
      refine xn_then ?_
      refine w_seq ?_
      refine w_block ?_
      refine w_seq ?_
      refine w_reg ?_
      refine wl_mv (.tmp 18) (.int .i64 ((k : Int))) (fun _ => rfl) e18 rfl ?_
      refine wl_mv (.tmp 20) (.int .i64 ((k : Int))) (fun _ => rfl) rfl rfl ?_
      refine w_nil ?_
      refine xn_then ?_
      refine w_seq ?_
      refine w_reg ?_
      refine wl_mv (.tmp 0) (.string s) (fun _ => rfl) e0 rfl ?_
      refine wl_mv (.tmp 3) (.int .i64 ((k : Int))) (fun _ => rfl) rfl rfl ?_
      refine wl_bin (fun x y => Instr.index 9 x y) (.tmp 21) (.tmp 22) (.string s) (.int .i64 ((k : Int))) (.int .u8 (s[k].toNat : Int)) (fun _ => rfl) rfl rfl (idx_s s k hlt _) rfl ?_
      refine wl_bin (fun x y => do eqGuard .lss 5 (.tmp 23) (.const (.int .u8 (48))) x y; binOp .lss 5 x y) (.tmp 23) (.const (.int .u8 (48))) (.int .u8 (s[k].toNat : Int)) (.int .u8 (48)) (.bool true) (fun _ => rfl) rfl rfl (ls5 ha _ _ _) rfl ?_
      refine wl_mv (.tmp 24) (.bool true) (fun _ => rfl) rfl rfl ?_
      refine wl_skip rfl ?_
      refine wl_skip rfl ?_
      refine wl_skip rfl ?_
      refine wl_skip rfl ?_
      refine wl_pick (.tmp 25) (.const (.bool true)) (.tmp 29) true (.bool true) (fun _ => rfl) rfl rfl rfl ?_
      refine w_nil ?_
      refine xn_then ?_
      refine w_condT rfl ?_
      refine w_seq ?_
      refine w_reg ?_
      refine wl_mv (.const (.bool false)) (.bool false) (fun _ => rfl) rfl rfl ?_
      refine w_nil ?_
      refine xn_then ?_
      refine w_ret ?_
      refine xr_blk ?_
      refine xr_then ?_
      refine xr_then ?_
      refine xr_blk ?_
      refine xr_then ?_
      exact w_ret1 _ (.bool false) rfl rfl ⟨by rw [decide_eq_false (fun hT : isT s => by obtain ⟨_, _, h3⟩ := hT; have := h3 k hlt hlt; have := of_decide_eq_true ha; omega)], M⟩
    | false =>
      cases hb : decide ((s[k].toNat : Int) > 57) with
      | true =>
        refine w_seq ?_
        refine w_reg ?_
        refine wl_bin (fun x y => do eqGuard .lss 3 (.tmp 18) (.tmp 17) x y; binOp .lss 3 x y) (.tmp 18) (.tmp 17) (.int .i64 ((k : Int))) (.int .i64 ((s.size : Int))) (.bool true) (fun _ => rfl) e18 e17 (lt3_run hl _ _ _) rfl ?_
        refine w_nil ?_
        refine xn_then ?_
        refine w_seq ?_
        refine w_condT rfl ?_
        refine w_skip ?_
        refine xn_then ?_
        refine w_seq ?_
        refine w_block ?_
        refine w_seq ?_
        refine w_reg ?_
        refine wl_mv (.tmp 18) (.int .i64 ((k : Int))) (fun _ => rfl) e18 rfl ?_
        refine wl_mv (.tmp 20) (.int .i64 ((k : Int))) (fun _ => rfl) rfl rfl ?_
        refine w_nil ?_
        refine xn_then ?_
        refine w_seq ?_
        refine w_reg ?_
        refine wl_mv (.tmp 0) (.string s) (fun _ => rfl) e0 rfl ?_
        refine wl_mv (.tmp 3) (.int .i64 ((k : Int))) (fun _ => rfl) rfl rfl ?_
        refine wl_bin (fun x y => Instr.index 9 x y) (.tmp 21) (.tmp 22) (.string s) (.int .i64 ((k : Int))) (.int .u8 (s[k].toNat : Int)) (fun _ => rfl) rfl rfl (idx_s s k hlt _) rfl ?_
        refine wl_bin (fun x y => do eqGuard .lss 5 (.tmp 23) (.const (.int .u8 (48))) x y; binOp .lss 5 x y) (.tmp 23) (.const (.int .u8 (48))) (.int .u8 (s[k].toNat : Int)) (.int .u8 (48)) (.bool false) (fun _ => rfl) rfl rfl (ls5 ha _ _ _) rfl ?_
        refine wl_mv (.tmp 24) (.bool false) (fun _ => rfl) rfl rfl ?_
        refine wl_mv (.tmp 0) (.string s) (fun _ => rfl) e0 rfl ?_
        refine wl_mv (.tmp 3) (.int .i64 ((k : Int))) (fun _ => rfl) rfl rfl ?_
        refine wl_bin (fun x y => Instr.index 9 x y) (.tmp 26) (.tmp 27) (.string s) (.int .i64 ((k : Int))) (.int .u8 (s[k].toNat : Int)) (fun _ => rfl) rfl rfl (idx_s s k hlt _) rfl ?_
        refine wl_bin (fun x y => do eqGuard .gtr 5 (.tmp 28) (.const (.int .u8 (57))) x y; binOp .gtr 5 x y) (.tmp 28) (.const (.int .u8 (57))) (.int .u8 (s[k].toNat : Int)) (.int .u8 (57)) (.bool true) (fun _ => rfl) rfl rfl (gt5_run hb _ _ _) rfl ?_
        refine wl_pick (.tmp 25) (.const (.bool true)) (.tmp 29) false (.bool true) (fun _ => rfl) rfl rfl rfl ?_
        refine w_nil ?_
        refine xn_then ?_
        refine w_condT rfl ?_
        refine w_seq ?_
        refine w_reg ?_
        refine wl_mv (.const (.bool false)) (.bool false) (fun _ => rfl) rfl rfl ?_
        refine w_nil ?_
        refine xn_then ?_
        refine w_ret ?_
        refine xr_blk ?_
        refine xr_then ?_
        refine xr_then ?_
        refine xr_blk ?_
        refine xr_then ?_
        exact w_ret1 _ (.bool false) rfl rfl ⟨by rw [decide_eq_false (fun hT : isT s => by obtain ⟨_, _, h3⟩ := hT; have := h3 k hlt hlt; have := of_decide_eq_true hb; omega)], M⟩
      | false =>
        refine w_seq ?_
        refine w_reg ?_
        refine wl_bin (fun x y => do eqGuard .lss 3 (.tmp 18) (.tmp 17) x y; binOp .lss 3 x y) (.tmp 18) (.tmp 17) (.int .i64 ((k : Int))) (.int .i64 ((s.size : Int))) (.bool true) (fun _ => rfl) e18 e17 (lt3_run hl _ _ _) rfl ?_
        refine w_nil ?_
        refine xn_then ?_
        refine w_seq ?_
        refine w_condT rfl ?_
        refine w_skip ?_
        refine xn_then ?_
        refine w_seq ?_
        refine w_block ?_
        refine w_seq ?_
        refine w_reg ?_
        refine wl_mv (.tmp 18) (.int .i64 ((k : Int))) (fun _ => rfl) e18 rfl ?_
        refine wl_mv (.tmp 20) (.int .i64 ((k : Int))) (fun _ => rfl) rfl rfl ?_
        refine w_nil ?_
        refine xn_then ?_
        refine w_seq ?_
        refine w_reg ?_
        refine wl_mv (.tmp 0) (.string s) (fun _ => rfl) e0 rfl ?_
        refine wl_mv (.tmp 3) (.int .i64 ((k : Int))) (fun _ => rfl) rfl rfl ?_
        refine wl_bin (fun x y => Instr.index 9 x y) (.tmp 21) (.tmp 22) (.string s) (.int .i64 ((k : Int))) (.int .u8 (s[k].toNat : Int)) (fun _ => rfl) rfl rfl (idx_s s k hlt _) rfl ?_
        refine wl_bin (fun x y => do eqGuard .lss 5 (.tmp 23) (.const (.int .u8 (48))) x y; binOp .lss 5 x y) (.tmp 23) (.const (.int .u8 (48))) (.int .u8 (s[k].toNat : Int)) (.int .u8 (48)) (.bool false) (fun _ => rfl) rfl rfl (ls5 ha _ _ _) rfl ?_
        refine wl_mv (.tmp 24) (.bool false) (fun _ => rfl) rfl rfl ?_
        refine wl_mv (.tmp 0) (.string s) (fun _ => rfl) e0 rfl ?_
        refine wl_mv (.tmp 3) (.int .i64 ((k : Int))) (fun _ => rfl) rfl rfl ?_
        refine wl_bin (fun x y => Instr.index 9 x y) (.tmp 26) (.tmp 27) (.string s) (.int .i64 ((k : Int))) (.int .u8 (s[k].toNat : Int)) (fun _ => rfl) rfl rfl (idx_s s k hlt _) rfl ?_
        refine wl_bin (fun x y => do eqGuard .gtr 5 (.tmp 28) (.const (.int .u8 (57))) x y; binOp .gtr 5 x y) (.tmp 28) (.const (.int .u8 (57))) (.int .u8 (s[k].toNat : Int)) (.int .u8 (57)) (.bool false) (fun _ => rfl) rfl rfl (gt5_run hb _ _ _) rfl ?_
        refine wl_pick (.tmp 25) (.const (.bool true)) (.tmp 29) false (.bool false) (fun _ => rfl) rfl rfl rfl ?_
        refine w_nil ?_
        refine xn_then ?_
        refine w_condF rfl ?_
        refine w_skip ?_
        refine xn_blk ?_
        refine xn_then ?_
        refine w_reg ?_
        refine wl_bin (fun x y => do eqGuard .add 3 (.tmp 18) (.const (.int .i64 (1))) x y; binOp .add 3 x y) (.tmp 18) (.const (.int .i64 (1))) (.int .i64 ((k : Int))) (.int .i64 (1)) (.int .i64 (((k + 1 : Nat) : Int))) (fun _ => rfl) e18 rfl (add1_run (by unfold maxLen at hs; omega) _ _ _) rfl ?_
        refine wl_mv (.tmp 31) (.int .i64 (((k + 1 : Nat) : Int))) (fun _ => rfl) rfl rfl ?_
        refine w_nil ?_
        exact xn_loop (s.size - (k + 1)) (by omega) ⟨k + 1, by omega, e0, e17, rfl, dgs_succ hlt hd (by have := of_decide_eq_false ha; omega) (by have := of_decide_eq_false hb; omega), M⟩
  · have hl : decide ((k : Int) < (s.size : Int)) = false := decide_eq_false (by omega)
    refine w_seq ?_
    refine w_reg ?_
    refine wl_bin (fun x y => do eqGuard .lss 3 (.tmp 18) (.tmp 17) x y; binOp .lss 3 x y) (.tmp 18) (.tmp 17) (.int .i64 ((k : Int))) (.int .i64 ((s.size : Int))) (.bool false) (fun _ => rfl) e18 e17 (lt3_run hl _ _ _) rfl ?_
    refine w_nil ?_
    refine xn_then ?_
    refine w_seq ?_
    refine w_condF rfl ?_
    refine w_exit ?_
    refine xx_then ?_
    refine xx_then ?_
    refine xx_blk ?_
    refine xn_then ?_
    refine w_seq ?_
    refine w_reg ?_
    refine wl_mv (.const (.bool true)) (.bool true) (fun _ => rfl) rfl rfl ?_
    refine w_nil ?_
    refine xn_then ?_
    refine w_ret ?_
    exact w_ret1 _ (.bool true) rfl rfl ⟨by rw [decide_eq_true (isT_mk hp hlead (by omega) hd)], M⟩
theorem isd_l2 (s : ByteArray) (w : World) [Decidable (isT s)] (hs : s.size ≤ maxLen) (h0 : s.toList.isEmpty = false) (hp : 0 < s.size) (hlead : ¬ (s.size > 1 ∧ (s[0].toNat : Int) = 48)) (h1 : decide ((s.size : Int) > 1) = true) (hz : ((s[0].toNat : Int) == 48) = false) : Calls Tryd.prog 71 #[.string s] w fun e w' => e = .returned (.bool (decide (isT s))) ∧ Mo w w' := by
  refine w_enter 32 Tryd.func71 Tryd.ntmps71 rfl rfl ?_
  have M : Mo w w := Mo.refl _
  refine w_seq ?_
  refine w_reg ?_
  refine wl_mv (.const (.bool false)) (.bool false) (fun _ => rfl) rfl rfl ?_
  refine w_nil ?_
  refine xn_then ?_
  refine w_seq ?_
  refine w_seq ?_
  refine w_reg ?_
  refine wl_mv (.tmp 0) (.string s) (fun _ => rfl) rfl rfl ?_
  refine wl_bin (fun x y => do eqGuard .eql 9 (.tmp 4) (.const (.string ⟨#[]⟩)) x y; binOp .eql 9 x y) (.tmp 4) (.const (.string ⟨#[]⟩)) (.string s) (.string ⟨#[]⟩) (.bool false) (fun _ => rfl) rfl rfl (eqe_run h0 _ _ _) rfl ?_
  refine wl_mv (.tmp 5) (.bool false) (fun _ => rfl) rfl rfl ?_
  refine wl_mv (.tmp 0) (.string s) (fun _ => rfl) rfl rfl ?_
  refine wl_val (.int .i64 ((s.size : Int))) (len_run _ _ s rfl _ _ _ _ _ _) rfl ?_
  refine wl_bin (fun x y => do eqGuard .gtr 3 (.tmp 8) (.const (.int .i64 (1))) x y; binOp .gtr 3 x y) (.tmp 8) (.const (.int .i64 (1))) (.int .i64 ((s.size : Int))) (.int .i64 (1)) (.bool true) (fun _ => rfl) rfl rfl (gt3_run h1 _ _ _) rfl ?_
  refine wl_mv (.tmp 9) (.bool true) (fun _ => rfl) rfl rfl ?_
  refine wl_mv (.tmp 0) (.string s) (fun _ => rfl) rfl rfl ?_
  refine wl_bin (fun x y => Instr.index 9 x y) (.tmp 11) (.const (.int .i64 (0))) (.string s) (.int .i64 (0)) (.int .u8 (s[0].toNat : Int)) (fun _ => rfl) rfl rfl (idx_0 s hp _) rfl ?_
  refine wl_bin (fun x y => do eqGuard .eql 5 (.tmp 12) (.const (.int .u8 (48))) x y; binOp .eql 5 x y) (.tmp 12) (.const (.int .u8 (48))) (.int .u8 (s[0].toNat : Int)) (.int .u8 (48)) (.bool false) (fun _ => rfl) rfl rfl (eq5_run hz _ _ _) rfl ?_
  refine wl_pick (.tmp 10) (.tmp 13) (.const (.bool false)) true (.bool false) (fun _ => rfl) rfl rfl rfl ?_
  refine wl_pick (.tmp 6) (.const (.bool true)) (.tmp 14) false (.bool false) (fun _ => rfl) rfl rfl rfl ?_
  refine w_nil ?_
  refine xn_then ?_
  refine w_condF rfl ?_
  refine w_skip ?_
  refine xn_then ?_
  refine w_seq ?_
  refine w_seq ?_
  refine w_reg ?_
  refine wl_mv (.tmp 0) (.string s) (fun _ => rfl) rfl rfl ?_
  refine wl_val (.int .i64 ((s.size : Int))) (len_run _ _ s rfl _ _ _ _ _ _) rfl ?_
  refine wl_mv (.const (.int .i64 (0))) (.int .i64 (0)) (fun _ => rfl) rfl rfl ?_
  refine w_nil ?_
  refine xn_then ?_
  refine w_block ?_
  refine w_loop (fun m l w1 => ∃ k : Nat, k + m = s.size ∧ look l 0 = .string s ∧ look l 17 = .int .i64 (s.size : Int) ∧ look l 18 = .int .i64 (k : Int) ∧ dgs s k ∧ Mo w w1) s.size ⟨0, by omega, rfl, rfl, rfl, fun j _ h => absurd h (Nat.not_lt_zero _), M⟩ ?_
  clear M
  rintro m l wl ⟨k, hk, e0, e17, e18, hd, M⟩
  by_cases hlt : k < s.size
  · have hl : decide ((k : Int) < (s.size : Int)) = true := decide_eq_true (by omega)
    cases ha : decide ((s[k].toNat : Int) < 48) with
    | true =>
      refine w_seq ?_
      refine w_reg ?_
      refine wl_bin (fun x y => do eqGuard .lss 3 (.tmp 18) (.tmp 17) x y; binOp .lss 3 x y) (.tmp 18) (.tmp 17) (.int .i64 ((k : Int))) (.int .i64 ((s.size : Int))) (.bool true) (fun _ => rfl) e18 e17 (lt3_run hl _ _ _) rfl ?_
      refine w_nil ?_
      refine xn_then ?_
      refine w_seq ?_
      refine w_condT rfl ?_
      refine w_skip ?_
      refine xn_then ?_
      refine w_seq ?_
      refine w_block ?_
      refine w_seq ?_
      refine w_reg ?_
      refine wl_mv (.tmp 18) (.int .i64 ((k : Int))) (fun _ => rfl) e18 rfl ?_
      refine wl_mv (.tmp 20) (.int .i64 ((k : Int))) (fun _ => rfl) rfl rfl ?_
      refine w_nil ?_
      refine xn_then ?_
      refine w_seq ?_
      refine w_reg ?_
      refine wl_mv (.tmp 0) (.string s) (fun _ => rfl) e0 rfl ?_
      refine wl_mv (.tmp 3) (.int .i64 ((k : Int))) (fun _ => rfl) rfl rfl ?_
      refine wl_bin (fun x y => Instr.index 9 x y) (.tmp 21) (.tmp 22) (.string s) (.int .i64 ((k : Int))) (.int .u8 (s[k].toNat : Int)) (fun _ => rfl) rfl rfl (idx_s s k hlt _) rfl ?_
      refine wl_bin (fun x y => do eqGuard .lss 5 (.tmp 23) (.const (.int .u8 (48))) x y; binOp .lss 5 x y) (.tmp 23) (.const (.int .u8 (48))) (.int .u8 (s[k].toNat : Int)) (.int .u8 (48)) (.bool true) (fun _ => rfl) rfl rfl (ls5 ha _ _ _) rfl ?_
      refine wl_mv (.tmp 24) (.bool true) (fun _ => rfl) rfl rfl ?_
      refine wl_skip rfl ?_
      refine wl_skip rfl ?_
      refine wl_skip rfl ?_
      refine wl_skip rfl ?_
      refine wl_pick (.tmp 25) (.const (.bool true)) (.tmp 29) true (.bool true) (fun _ => rfl) rfl rfl rfl ?_
      refine w_nil ?_
      refine xn_then ?_
      refine w_condT rfl ?_
      refine w_seq ?_
      refine w_reg ?_
      refine wl_mv (.const (.bool false)) (.bool false) (fun _ => rfl) rfl rfl ?_
      refine w_nil ?_
      refine xn_then ?_
      refine w_ret ?_
      refine xr_blk ?_
      refine xr_then ?_
      refine xr_then ?_
      refine xr_blk ?_
      refine xr_then ?_
      exact w_ret1 _ (.bool false) rfl rfl ⟨by rw [decide_eq_false (fun hT : isT s => by obtain ⟨_, _, h3⟩ := hT; have := h3 k hlt hlt; have := of_decide_eq_true ha; omega)], M⟩
    | false =>
      cases hb : decide ((s[k].toNat : Int) > 57) with
      | true =>
        refine w_seq ?_
        refine w_reg ?_
        refine wl_bin (fun x y => do eqGuard .lss 3 (.tmp 18) (.tmp 17) x y; binOp .lss 3 x y) (.tmp 18) (.tmp 17) (.int .i64 ((k : Int))) (.int .i64 ((s.size : Int))) (.bool true) (fun _ => rfl) e18 e17 (lt3_run hl _ _ _) rfl ?_
        refine w_nil ?_
        refine xn_then ?_
        refine w_seq ?_
        refine w_condT rfl ?_
        refine w_skip ?_
        refine xn_then ?_
        refine w_seq ?_
        refine w_block ?_
        refine w_seq ?_
        refine w_reg ?_
        refine wl_mv (.tmp 18) (.int .i64 ((k : Int))) (fun _ => rfl) e18 rfl ?_
        refine wl_mv (.tmp 20) (.int .i64 ((k : Int))) (fun _ => rfl) rfl rfl ?_
        refine w_nil ?_
        refine xn_then ?_
        refine w_seq ?_
        refine w_reg ?_
        refine wl_mv (.tmp 0) (.string s) (fun _ => rfl) e0 rfl ?_
        refine wl_mv (.tmp 3) (.int .i64 ((k : Int))) (fun _ => rfl) rfl rfl ?_
        refine wl_bin (fun x y => Instr.index 9 x y) (.tmp 21) (.tmp 22) (.string s) (.int .i64 ((k : Int))) (.int .u8 (s[k].toNat : Int)) (fun _ => rfl) rfl rfl (idx_s s k hlt _) rfl ?_
        refine wl_bin (fun x y => do eqGuard .lss 5 (.tmp 23) (.const (.int .u8 (48))) x y; binOp .lss 5 x y) (.tmp 23) (.const (.int .u8 (48))) (.int .u8 (s[k].toNat : Int)) (.int .u8 (48)) (.bool false) (fun _ => rfl) rfl rfl (ls5 ha _ _ _) rfl ?_
        refine wl_mv (.tmp 24) (.bool false) (fun _ => rfl) rfl rfl ?_
        refine wl_mv (.tmp 0) (.string s) (fun _ => rfl) e0 rfl ?_
        refine wl_mv (.tmp 3) (.int .i64 ((k : Int))) (fun _ => rfl) rfl rfl ?_
        refine wl_bin (fun x y => Instr.index 9 x y) (.tmp 26) (.tmp 27) (.string s) (.int .i64 ((k : Int))) (.int .u8 (s[k].toNat : Int)) (fun _ => rfl) rfl rfl (idx_s s k hlt _) rfl ?_
        refine wl_bin (fun x y => do eqGuard .gtr 5 (.tmp 28) (.const (.int .u8 (57))) x y; binOp .gtr 5 x y) (.tmp 28) (.const (.int .u8 (57))) (.int .u8 (s[k].toNat : Int)) (.int .u8 (57)) (.bool true) (fun _ => rfl) rfl rfl (gt5_run hb _ _ _) rfl ?_
        refine wl_pick (.tmp 25) (.const (.bool true)) (.tmp 29) false (.bool true) (fun _ => rfl) rfl rfl rfl ?_
        refine w_nil ?_
        refine xn_then ?_
        refine w_condT rfl ?_
        refine w_seq ?_
        refine w_reg ?_
        refine wl_mv (.const (.bool false)) (.bool false) (fun _ => rfl) rfl rfl ?_
        refine w_nil ?_
        refine xn_then ?_
        refine w_ret ?_
        refine xr_blk ?_
        refine xr_then ?_
        refine xr_then ?_
        refine xr_blk ?_
        refine xr_then ?_
        exact w_ret1 _ (.bool false) rfl rfl ⟨by rw [decide_eq_false (fun hT : isT s => by obtain ⟨_, _, h3⟩ := hT; have := h3 k hlt hlt; have := of_decide_eq_true hb; omega)], M⟩
      | false =>
        refine w_seq ?_
        refine w_reg ?_
        refine wl_bin (fun x y => do eqGuard .lss 3 (.tmp 18) (.tmp 17) x y; binOp .lss 3 x y) (.tmp 18) (.tmp 17) (.int .i64 ((k : Int))) (.int .i64 ((s.size : Int))) (.bool true) (fun _ => rfl) e18 e17 (lt3_run hl _ _ _) rfl ?_
        refine w_nil ?_
        refine xn_then ?_
        refine w_seq ?_
        refine w_condT rfl ?_
        refine w_skip ?_
        refine xn_then ?_
        refine w_seq ?_
        refine w_block ?_
        refine w_seq ?_
        refine w_reg ?_
        refine wl_mv (.tmp 18) (.int .i64 ((k : Int))) (fun _ => rfl) e18 rfl ?_
        refine wl_mv (.tmp 20) (.int .i64 ((k : Int))) (fun _ => rfl) rfl rfl ?_
        refine w_nil ?_
        refine xn_then ?_
        refine w_seq ?_
        refine w_reg ?_
        refine wl_mv (.tmp 0) (.string s) (fun _ => rfl) e0 rfl ?_
        refine wl_mv (.tmp 3) (.int .i64 ((k : Int))) (fun _ => rfl) rfl rfl ?_
        refine wl_bin (fun x y => Instr.index 9 x y) (.tmp 21) (.tmp 22) (.string s) (.int .i64 ((k : Int))) (.int .u8 (s[k].toNat : Int)) (fun _ => rfl) rfl rfl (idx_s s k hlt _) rfl ?_
        refine wl_bin (fun x y => do eqGuard .lss 5 (.tmp 23) (.const (.int .u8 (48))) x y; binOp .lss 5 x y) (.tmp 23) (.const (.int .u8 (48))) (.int .u8 (s[k].toNat : Int)) (.int .u8 (48)) (.bool false) (fun _ => rfl) rfl rfl (ls5 ha _ _ _) rfl ?_
        refine wl_mv (.tmp 24) (.bool false) (fun _ => rfl) rfl rfl ?_
        refine wl_mv (.tmp 0) (.string s) (fun _ => rfl) e0 rfl ?_
        refine wl_mv (.tmp 3) (.int .i64 ((k : Int))) (fun _ => rfl) rfl rfl ?_
        refine wl_bin (fun x y => Instr.index 9 x y) (.tmp 26) (.tmp 27) (.string s) (.int .i64 ((k : Int))) (.int .u8 (s[k].toNat : Int)) (fun _ => rfl) rfl rfl (idx_s s k hlt _) rfl ?_
        refine wl_bin (fun x y => do eqGuard .gtr 5 (.tmp 28) (.const (.int .u8 (57))) x y; binOp .gtr 5 x y) (.tmp 28) (.const (.int .u8 (57))) (.int .u8 (s[k].toNat : Int)) (.int .u8 (57)) (.bool false) (fun _ => rfl) rfl rfl (gt5_run hb _ _ _) rfl ?_
        refine wl_pick (.tmp 25) (.const (.bool true)) (.tmp 29) false (.bool false) (fun _ => rfl) rfl rfl rfl ?_
        refine w_nil ?_
        refine xn_then ?_
        refine w_condF rfl ?_
        refine w_skip ?_
        refine xn_blk ?_
        refine xn_then ?_
        refine w_reg ?_
        refine wl_bin (fun x y => do eqGuard .add 3 (.tmp 18) (.const (.int .i64 (1))) x y; binOp .add 3 x y) (.tmp 18) (.const (.int .i64 (1))) (.int .i64 ((k : Int))) (.int .i64 (1)) (.int .i64 (((k + 1 : Nat) : Int))) (fun _ => rfl) e18 rfl (add1_run (by unfold maxLen at hs; omega) _ _ _) rfl ?_
        refine wl_mv (.tmp 31) (.int .i64 (((k + 1 : Nat) : Int))) (fun _ => rfl) rfl rfl ?_
        refine w_nil ?_
        exact xn_loop (s.size - (k + 1)) (by omega) ⟨k + 1, by omega, e0, e17, rfl, dgs_succ hlt hd (by have := of_decide_eq_false ha; omega) (by have := of_decide_eq_false hb; omega), M⟩
  · have hl : decide ((k : Int) < (s.size : Int)) = false := decide_eq_false (by omega)
    refine w_seq ?_
    refine w_reg ?_
    refine wl_bin (fun x y => do eqGuard .lss 3 (.tmp 18) (.tmp 17) x y; binOp .lss 3 x y) (.tmp 18) (.tmp 17) (.int .i64 ((k : Int))) (.int .i64 ((s.size : Int))) (.bool false) (fun _ => rfl) e18 e17 (lt3_run hl _ _ _) rfl ?_
    refine w_nil ?_
    refine xn_then ?_
    refine w_seq ?_
    refine w_condF rfl ?_
    refine w_exit ?_
    refine xx_then ?_
    refine xx_then ?_
    refine xx_blk ?_
    refine xn_then ?_
    refine w_seq ?_
    refine w_reg ?_
    refine wl_mv (.const (.bool true)) (.bool true) (fun _ => rfl) rfl rfl ?_
    refine w_nil ?_
    refine xn_then ?_
    refine w_ret ?_
    exact w_ret1 _ (.bool true) rfl rfl ⟨by rw [decide_eq_true (isT_mk hp hlead (by omega) hd)], M⟩
theorem isd_n (s : ByteArray) (w : World) [Decidable (isT s)] (hs : s.size ≤ maxLen) : Calls Tryd.prog 71 #[.string s] w fun e w' => e = .returned (.bool (decide (isT s))) ∧ Mo w w' := by
  by_cases hp : 0 < s.size
  · have h0 : s.toList.isEmpty = false := by rw [emp_iff]; exact decide_eq_false (by omega)
    cases h1 : decide ((s.size : Int) > 1) with
    | false => exact isd_l1 s w hs h0 hp (fun h => by have := of_decide_eq_false h1; omega) h1
    | true =>
      cases hz : ((s[0].toNat : Int) == 48) with
      | false => exact isd_l2 s w hs h0 hp (fun h => by rw [h.2] at hz; simp at hz) h1 hz
      | true =>
        rw [decide_eq_false (fun hT : isT s => by obtain ⟨_, h, _⟩ := hT; exact h ⟨by have := of_decide_eq_true h1; omega, by simpa using hz⟩)]
        exact isd_lead s w h0 hp h1 hz
  · rw [decide_eq_false (fun hT : isT s => by obtain ⟨h, _⟩ := hT; exact hp h)]
    exact isd_emp s w (by rw [emp_iff]; exact decide_eq_true (by omega))
end Go.Proofs.YthgknegocfhdbaaDoor

namespace Go.Proofs.YthgknegocfhdbaaDoor
open Go.RowKit
theorem radd_m (A B : Int) (w : World) : Calls Tryd.prog 65 #[nv A, nv B] w fun e w' => e = .returned (.tuple #[nv (A % MM + B % MM), .bool (ov (A % MM + B % MM))]) ∧ Mo w w' := by
  have h := radd_any (l0 A) (l1 A) (l2 A) (l3 A) (l0 B) (l1 B) (l2 B) (l3 B) w (u4_lb A) (u4_lb B)
  rw [vl_nv, vl_nv] at h
  exact h
end Go.Proofs.YthgknegocfhdbaaDoor

