/-
  The tree's small functions: size, weight, side, heavy, resize, look, hang.
-/
import Derived.Test.YtbmbldloeblbbaaTr
namespace Go.Proofs.Ytbmbldloeblbbaa
open Go.RowKit
theorem w_cut {P : Program} {n : Nat} {l : List (Nat × Value)} {w : World} {Q : Exit → Act → World → Prop} {x y : Code} (I : List (Nat × Value) → World → Prop) (h2 : ∀ l w, I l w → WC P y Q n l w) (h : WC P x (Exit.then (fun a w' => ∃ l', a = fr n l' ∧ I l' w') Q) n l w) : WC P (Code.seq x y) Q n l w :=
  w_seq ⟨wp_mono h.out fun e a w' hq => by
    cases e with
    | normal => obtain ⟨l', rfl, hI⟩ := hq; exact (h2 l' w' hI).out
    | _ => exact hq⟩
theorem xn_cut {n : Nat} {l : List (Nat × Value)} {w : World} {Q : Exit → Act → World → Prop} {I : List (Nat × Value) → World → Prop} (h : I l w) : WX (Exit.then (fun a w' => ∃ l', a = fr n l' ∧ I l' w') Q) .normal n l w := ⟨⟨l, rfl, h⟩⟩
theorem addI {a b : Int} (h1 : -9223372036854775808 ≤ a + b) (h2 : a + b ≤ 9223372036854775807) (x y : Operand) (w : World) : (do eqGuard .add 3 x y (.int .i64 a) (.int .i64 b); binOp .add 3 (.int .i64 a) (.int .i64 b)).run Try.prog w = .ok (.int .i64 (a + b)) w := by
  have e : (do eqGuard .add 3 x y (.int .i64 a) (.int .i64 b); binOp .add 3 (.int .i64 a) (.int .i64 b)).run Try.prog w = .ok (.int .i64 (IntKind.i64.wrap (a + b))) w := by kernel_rfl
  have h : IntKind.i64.wrap (a + b) = a + b := by rw [IntKind.wrap_i64]; omega
  rw [e, h]
theorem addL {a b : Int} (h1 : -9223372036854775808 ≤ a + b) (h2 : a + b ≤ 9223372036854775807) (x y : Operand) (w : World) : (do eqGuard .add 2 x y (.int .i64 a) (.int .i64 b); binOp .add 2 (.int .i64 a) (.int .i64 b)).run Try.prog w = .ok (.int .i64 (a + b)) w := by
  have e : (do eqGuard .add 2 x y (.int .i64 a) (.int .i64 b); binOp .add 2 (.int .i64 a) (.int .i64 b)).run Try.prog w = .ok (.int .i64 (IntKind.i64.wrap (a + b))) w := by kernel_rfl
  have h : IntKind.i64.wrap (a + b) = a + b := by rw [IntKind.wrap_i64]; omega
  rw [e, h]
theorem subI {a b : Int} (h1 : -9223372036854775808 ≤ a - b) (h2 : a - b ≤ 9223372036854775807) (x y : Operand) (w : World) : (do eqGuard .sub 3 x y (.int .i64 a) (.int .i64 b); binOp .sub 3 (.int .i64 a) (.int .i64 b)).run Try.prog w = .ok (.int .i64 (a - b)) w := by
  have e : (do eqGuard .sub 3 x y (.int .i64 a) (.int .i64 b); binOp .sub 3 (.int .i64 a) (.int .i64 b)).run Try.prog w = .ok (.int .i64 (IntKind.i64.wrap (a - b))) w := by kernel_rfl
  have h : IntKind.i64.wrap (a - b) = a - b := by rw [IntKind.wrap_i64]; omega
  rw [e, h]
theorem mulI {a b : Int} (h1 : -9223372036854775808 ≤ a * b) (h2 : a * b ≤ 9223372036854775807) (x y : Operand) (w : World) : (do eqGuard .mul 3 x y (.int .i64 a) (.int .i64 b); binOp .mul 3 (.int .i64 a) (.int .i64 b)).run Try.prog w = .ok (.int .i64 (a * b)) w := by
  have e : (do eqGuard .mul 3 x y (.int .i64 a) (.int .i64 b); binOp .mul 3 (.int .i64 a) (.int .i64 b)).run Try.prog w = .ok (.int .i64 (IntKind.i64.wrap (a * b))) w := by kernel_rfl
  have h : IntKind.i64.wrap (a * b) = a * b := by rw [IntKind.wrap_i64]; omega
  rw [e, h]
theorem gtI {a b : Int} {r : Bool} (h : decide (b < a) = r) (x y : Operand) (w : World) : (do eqGuard .gtr 3 x y (.int .i64 a) (.int .i64 b); binOp .gtr 3 (.int .i64 a) (.int .i64 b)).run Try.prog w = .ok (.bool r) w := by
  subst h; kernel_rfl
theorem ltI {a b : Int} {r : Bool} (h : decide (a < b) = r) (x y : Operand) (w : World) : (do eqGuard .lss 3 x y (.int .i64 a) (.int .i64 b); binOp .lss 3 (.int .i64 a) (.int .i64 b)).run Try.prog w = .ok (.bool r) w := by
  subst h; kernel_rfl
theorem geI {a b : Int} {r : Bool} (h : decide (b ≤ a) = r) (x y : Operand) (w : World) : (do eqGuard .geq 3 x y (.int .i64 a) (.int .i64 b); binOp .geq 3 (.int .i64 a) (.int .i64 b)).run Try.prog w = .ok (.bool r) w := by
  subst h; kernel_rfl
/-- A size, of a record or of none. -/
def szo (R : Mp) (x : Option Nat) (s : Int) : Prop := match x with
  | none => s = 0
  | some k => ∃ r, R k = some r ∧ r.s = s
section
variable {D : Nat → Prop} {t mb : Nat} {R : Mp} {root : Option Nat} {lk : Int}
theorem size_0 (w : World) : Calls Try.prog 40 #[pp none] w fun e w' => e = .returned (.int .i64 0) ∧ Mo w w' := by
  refine w_enter 10 Try.func40 Try.ntmps40 rfl rfl ?_
  have M : Mo w w := Mo.refl _
  refine w_seq ?_
  refine w_reg ?_
  refine wl_mv (.const (.int .i64 (0))) (.int .i64 (0)) (fun _ => rfl) rfl rfl ?_
  refine w_nil ?_
  refine xn_then ?_
  refine w_seq ?_
  refine w_seq ?_
  refine w_reg ?_
  refine wl_mv (.tmp 0) (pp none) (fun _ => rfl) rfl rfl ?_
  refine wl_bin (fun x y => do eqGuard .eql 56 (.tmp 3) (.const (.pointer none)) x y; binOp .eql 56 x y) (.tmp 3) (.const (.pointer none)) (pp none) (pp none) (.bool true) (fun _ => rfl) rfl rfl (eq56 none _ _ _) rfl ?_
  refine w_nil ?_
  refine xn_then ?_
  refine w_condT rfl ?_
  refine w_seq ?_
  refine w_reg ?_
  refine wl_mv (.const (.int .i64 (0))) (.int .i64 (0)) (fun _ => rfl) rfl rfl ?_
  refine w_nil ?_
  refine xn_then ?_
  refine w_ret ?_
  refine xr_then ?_
  exact w_ret1 _ (.int .i64 (0)) rfl rfl ⟨rfl, M⟩
theorem size_k {w : World} (hS : HS D w t mb R root lk) {k : Nat} {r : Rc} (hk : R k = some r) : Calls Try.prog 40 #[pt k 0] w fun e w' => e = .returned (.int .i64 r.s) ∧ Mo w w' := by
  refine w_enter 10 Try.func40 Try.ntmps40 rfl rfl ?_
  have M : Mo w w := Mo.refl _
  refine w_seq ?_
  refine w_reg ?_
  refine wl_mv (.const (.int .i64 (0))) (.int .i64 (0)) (fun _ => rfl) rfl rfl ?_
  refine w_nil ?_
  refine xn_then ?_
  refine w_seq ?_
  refine w_seq ?_
  refine w_reg ?_
  refine wl_mv (.tmp 0) (pt k 0) (fun _ => rfl) rfl rfl ?_
  refine wl_bin (fun x y => do eqGuard .eql 56 (.tmp 3) (.const (.pointer none)) x y; binOp .eql 56 x y) (.tmp 3) (.const (.pointer none)) (pt k 0) (pp none) (.bool false) (fun _ => rfl) rfl rfl (eq56 (some k) _ _ _) rfl ?_
  refine w_nil ?_
  refine xn_then ?_
  refine w_condF rfl ?_
  refine w_skip ?_
  refine xn_then ?_
  refine w_seq ?_
  refine w_reg ?_
  refine wl_mv (.tmp 0) (pt k 0) (fun _ => rfl) rfl rfl ?_
  refine wl_nc (.tmp 5) k 0 rfl rfl rfl ?_
  refine wl_un (fun v => Instr.fieldAt 66 v 0) (.tmp 6) (pt k 0) (pt k 0) (fun _ => rfl) rfl (by kernel_rfl) rfl ?_
  refine wl_un (fun v => Instr.fieldAt 64 v 2) (.tmp 7) (pt k 0) (pt k 3) (fun _ => rfl) rfl (by kernel_rfl) rfl ?_
  refine wl_load 3 (.tmp 8) (pt k 3) (.int .i64 (r.s)) rfl rfl (run_one (hS.rc k _ hk) 3 3 rfl Try.underlying3 rfl) rfl ?_
  refine wl_mv (.tmp 9) (.int .i64 (r.s)) (fun _ => rfl) rfl rfl ?_
  refine w_nil ?_
  refine xn_then ?_
  refine w_ret ?_
  exact w_ret1 _ (.int .i64 (r.s)) rfl rfl ⟨rfl, M⟩
theorem size_o {w : World} (hS : HS D w t mb R root lk) {x : Option Nat} {s : Int} (hx : szo R x s) : Calls Try.prog 40 #[pp x] w fun e w' => e = .returned (.int .i64 s) ∧ Mo w w' := by
  cases x with
  | none => cases hx; exact size_0 w
  | some k => obtain ⟨r, hr, rfl⟩ := hx; exact size_k hS hr
theorem weight_o {w : World} (hS : HS D w t mb R root lk) {x : Option Nat} {s : Int} (hx : szo R x s) (h0 : 0 ≤ s) (h1 : s ≤ 1000000) : Calls Try.prog 51 #[pp x] w fun e w' => e = .returned (.int .i64 (s + 1)) ∧ Mo w w' := by
  refine w_enter 6 Try.func51 Try.ntmps51 rfl rfl ?_
  have M : Mo w w := Mo.refl _
  refine w_seq ?_
  refine w_reg ?_
  refine wl_mv (.const (.int .i64 (0))) (.int .i64 (0)) (fun _ => rfl) rfl rfl ?_
  refine w_nil ?_
  refine xn_then ?_
  refine w_seq ?_
  refine w_reg ?_
  refine wl_mv (.tmp 0) (pp x) (fun _ => rfl) rfl rfl ?_
  refine wl_call 40 [(.tmp 3)] _ [pp x] (.int .i64 (s)) rfl rfl (fun _ _ => by kernel_rfl) (size_o hS hx) rfl ?_
  intro w1 hq
  replace hS := hS.mo hq
  replace M := M.trans hq
  clear hq
  refine wl_bin (fun x y => do eqGuard .add 3 (.tmp 4) (.const (.int .i64 (1))) x y; binOp .add 3 x y) (.tmp 4) (.const (.int .i64 (1))) (.int .i64 (s)) (.int .i64 (1)) (.int .i64 (s + 1)) (fun _ => rfl) rfl rfl (addI (by omega) (by omega) _ _ _) rfl ?_
  refine wl_mv (.tmp 5) (.int .i64 (s + 1)) (fun _ => rfl) rfl rfl ?_
  refine w_nil ?_
  refine xn_then ?_
  refine w_ret ?_
  exact w_ret1 _ (.int .i64 (s + 1)) rfl rfl ⟨rfl, M⟩
theorem side_0 {w : World} (hS : HS D w t mb R root lk) {k : Nat} {rl rr : Option Nat} {rs ri : Int} (hk : R k = some ⟨none, rl, rr, rs, ri⟩) : Calls Try.prog 41 #[pt k 0] w fun e w' => e = .returned (.int .i64 0) ∧ Mo w w' := by
  refine w_enter 23 Try.func41 Try.ntmps41 rfl rfl ?_
  have M : Mo w w := Mo.refl _
  refine w_seq ?_
  refine w_reg ?_
  refine wl_mv (.const (.int .i64 (0))) (.int .i64 (0)) (fun _ => rfl) rfl rfl ?_
  refine w_nil ?_
  refine xn_then ?_
  refine w_seq ?_
  refine w_seq ?_
  refine w_reg ?_
  refine wl_mv (.tmp 0) (pt k 0) (fun _ => rfl) rfl rfl ?_
  refine wl_nc (.tmp 3) k 0 rfl rfl rfl ?_
  refine wl_un (fun v => Instr.fieldAt 66 v 0) (.tmp 4) (pt k 0) (pt k 0) (fun _ => rfl) rfl (by kernel_rfl) rfl ?_
  refine wl_un (fun v => Instr.fieldAt 64 v 0) (.tmp 5) (pt k 0) (pt k 0) (fun _ => rfl) rfl (by kernel_rfl) rfl ?_
  refine wl_load 56 (.tmp 6) (pt k 0) (pp none) rfl rfl (run_one (hS.rc k _ hk) 56 0 rfl Try.underlying56 rfl) rfl ?_
  refine wl_bin (fun x y => do eqGuard .neq 56 (.tmp 7) (.const (.pointer none)) x y; binOp .neq 56 x y) (.tmp 7) (.const (.pointer none)) (pp none) (pp none) (.bool false) (fun _ => rfl) rfl rfl (ne56 none _ _ _) rfl ?_
  refine wl_mv (.tmp 8) (.bool false) (fun _ => rfl) rfl rfl ?_
  refine wl_skip rfl ?_
  refine wl_skip rfl ?_
  refine wl_skip rfl ?_
  refine wl_skip rfl ?_
  refine wl_skip rfl ?_
  refine wl_skip rfl ?_
  refine wl_skip rfl ?_
  refine wl_skip rfl ?_
  refine wl_skip rfl ?_
  refine wl_skip rfl ?_
  refine wl_skip rfl ?_
  refine wl_skip rfl ?_
  refine wl_pick (.tmp 9) (.tmp 21) (.const (.bool false)) false (.bool false) (fun _ => rfl) rfl rfl rfl ?_
  refine w_nil ?_
  refine xn_then ?_
  refine w_condF rfl ?_
  refine w_skip ?_
  refine xn_then ?_
  refine w_seq ?_
  refine w_reg ?_
  refine wl_mv (.const (.int .i64 (0))) (.int .i64 (0)) (fun _ => rfl) rfl rfl ?_
  refine w_nil ?_
  refine xn_then ?_
  refine w_ret ?_
  exact w_ret1 _ (.int .i64 (0)) rfl rfl ⟨rfl, M⟩
theorem side_k {w : World} (hS : HS D w t mb R root lk) {k a : Nat} {rl rr : Option Nat} {rs ri : Int} {q : Rc} (hk : R k = some ⟨some a, rl, rr, rs, ri⟩) (ha : R a = some q) (hcb : ∀ j, q.r = some j → ∃ z, R j = some z) : Calls Try.prog 41 #[pt k 0] w fun e w' => e = .returned (.int .i64 (if q.r = some k then 1 else 0)) ∧ Mo w w' := by
  refine w_enter 23 Try.func41 Try.ntmps41 rfl rfl ?_
  have M : Mo w w := Mo.refl _
  refine w_seq ?_
  refine w_reg ?_
  refine wl_mv (.const (.int .i64 (0))) (.int .i64 (0)) (fun _ => rfl) rfl rfl ?_
  refine w_nil ?_
  refine xn_then ?_
  refine w_seq ?_
  refine w_seq ?_
  cases hf0 : decide (q.r = some k) with
  | true =>
    have hf0p := of_decide_eq_true hf0
    refine w_reg ?_
    refine wl_mv (.tmp 0) (pt k 0) (fun _ => rfl) rfl rfl ?_
    refine wl_nc (.tmp 3) k 0 rfl rfl rfl ?_
    refine wl_un (fun v => Instr.fieldAt 66 v 0) (.tmp 4) (pt k 0) (pt k 0) (fun _ => rfl) rfl (by kernel_rfl) rfl ?_
    refine wl_un (fun v => Instr.fieldAt 64 v 0) (.tmp 5) (pt k 0) (pt k 0) (fun _ => rfl) rfl (by kernel_rfl) rfl ?_
    refine wl_load 56 (.tmp 6) (pt k 0) (pt a 0) rfl rfl (run_one (hS.rc k _ hk) 56 0 rfl Try.underlying56 rfl) rfl ?_
    refine wl_bin (fun x y => do eqGuard .neq 56 (.tmp 7) (.const (.pointer none)) x y; binOp .neq 56 x y) (.tmp 7) (.const (.pointer none)) (pt a 0) (pp none) (.bool true) (fun _ => rfl) rfl rfl (ne56 (some a) _ _ _) rfl ?_
    refine wl_mv (.tmp 8) (.bool true) (fun _ => rfl) rfl rfl ?_
    refine wl_mv (.tmp 0) (pt k 0) (fun _ => rfl) rfl rfl ?_
    refine wl_nc (.tmp 10) k 0 rfl rfl rfl ?_
    refine wl_un (fun v => Instr.fieldAt 66 v 0) (.tmp 11) (pt k 0) (pt k 0) (fun _ => rfl) rfl (by kernel_rfl) rfl ?_
    refine wl_un (fun v => Instr.fieldAt 64 v 0) (.tmp 12) (pt k 0) (pt k 0) (fun _ => rfl) rfl (by kernel_rfl) rfl ?_
    refine wl_load 56 (.tmp 13) (pt k 0) (pt a 0) rfl rfl (run_one (hS.rc k _ hk) 56 0 rfl Try.underlying56 rfl) rfl ?_
    refine wl_nc (.tmp 14) a 0 rfl rfl rfl ?_
    refine wl_un (fun v => Instr.fieldAt 66 v 0) (.tmp 15) (pt a 0) (pt a 0) (fun _ => rfl) rfl (by kernel_rfl) rfl ?_
    refine wl_un (fun v => Instr.fieldAt 64 v 1) (.tmp 16) (pt a 0) (pt a 1) (fun _ => rfl) rfl (by kernel_rfl) rfl ?_
    refine wl_bin (fun x y => Instr.indexAt 62 x y) (.tmp 17) (.const (.int .i64 (1))) (pt a 1) (.int .i64 (1)) (pt a 2) (fun _ => rfl) rfl rfl (by kernel_rfl) rfl ?_
    refine wl_load 56 (.tmp 18) (pt a 2) (pp q.r) rfl rfl (run_one (hS.rc a _ ha) 56 2 rfl Try.underlying56 rfl) rfl ?_
    refine wl_mv (.tmp 0) (pt k 0) (fun _ => rfl) rfl rfl ?_
    refine wl_bin (fun x y => do eqGuard .eql 56 (.tmp 19) (.tmp 20) x y; binOp .eql 56 x y) (.tmp 19) (.tmp 20) (pp q.r) (pt k 0) (.bool true) (fun _ => rfl) rfl rfl (eq56p hf0 _ (fun j e => by obtain ⟨z, hz⟩ := hcb j e; exact hS.cb j z hz) (fun j e => by cases e; exact hS.cb _ _ hk) _ _) rfl ?_
    refine wl_pick (.tmp 9) (.tmp 21) (.const (.bool false)) true (.bool true) (fun _ => rfl) rfl rfl rfl ?_
    refine w_nil ?_
    refine xn_then ?_
    refine w_condT rfl ?_
    refine w_seq ?_
    refine w_reg ?_
    refine wl_mv (.const (.int .i64 (1))) (.int .i64 (1)) (fun _ => rfl) rfl rfl ?_
    refine w_nil ?_
    refine xn_then ?_
    refine w_ret ?_
    refine xr_then ?_
    exact w_ret1 _ (.int .i64 (1)) rfl rfl ⟨by simp [hf0p], M⟩
  | false =>
    have hf0p := of_decide_eq_false hf0
    refine w_reg ?_
    refine wl_mv (.tmp 0) (pt k 0) (fun _ => rfl) rfl rfl ?_
    refine wl_nc (.tmp 3) k 0 rfl rfl rfl ?_
    refine wl_un (fun v => Instr.fieldAt 66 v 0) (.tmp 4) (pt k 0) (pt k 0) (fun _ => rfl) rfl (by kernel_rfl) rfl ?_
    refine wl_un (fun v => Instr.fieldAt 64 v 0) (.tmp 5) (pt k 0) (pt k 0) (fun _ => rfl) rfl (by kernel_rfl) rfl ?_
    refine wl_load 56 (.tmp 6) (pt k 0) (pt a 0) rfl rfl (run_one (hS.rc k _ hk) 56 0 rfl Try.underlying56 rfl) rfl ?_
    refine wl_bin (fun x y => do eqGuard .neq 56 (.tmp 7) (.const (.pointer none)) x y; binOp .neq 56 x y) (.tmp 7) (.const (.pointer none)) (pt a 0) (pp none) (.bool true) (fun _ => rfl) rfl rfl (ne56 (some a) _ _ _) rfl ?_
    refine wl_mv (.tmp 8) (.bool true) (fun _ => rfl) rfl rfl ?_
    refine wl_mv (.tmp 0) (pt k 0) (fun _ => rfl) rfl rfl ?_
    refine wl_nc (.tmp 10) k 0 rfl rfl rfl ?_
    refine wl_un (fun v => Instr.fieldAt 66 v 0) (.tmp 11) (pt k 0) (pt k 0) (fun _ => rfl) rfl (by kernel_rfl) rfl ?_
    refine wl_un (fun v => Instr.fieldAt 64 v 0) (.tmp 12) (pt k 0) (pt k 0) (fun _ => rfl) rfl (by kernel_rfl) rfl ?_
    refine wl_load 56 (.tmp 13) (pt k 0) (pt a 0) rfl rfl (run_one (hS.rc k _ hk) 56 0 rfl Try.underlying56 rfl) rfl ?_
    refine wl_nc (.tmp 14) a 0 rfl rfl rfl ?_
    refine wl_un (fun v => Instr.fieldAt 66 v 0) (.tmp 15) (pt a 0) (pt a 0) (fun _ => rfl) rfl (by kernel_rfl) rfl ?_
    refine wl_un (fun v => Instr.fieldAt 64 v 1) (.tmp 16) (pt a 0) (pt a 1) (fun _ => rfl) rfl (by kernel_rfl) rfl ?_
    refine wl_bin (fun x y => Instr.indexAt 62 x y) (.tmp 17) (.const (.int .i64 (1))) (pt a 1) (.int .i64 (1)) (pt a 2) (fun _ => rfl) rfl rfl (by kernel_rfl) rfl ?_
    refine wl_load 56 (.tmp 18) (pt a 2) (pp q.r) rfl rfl (run_one (hS.rc a _ ha) 56 2 rfl Try.underlying56 rfl) rfl ?_
    refine wl_mv (.tmp 0) (pt k 0) (fun _ => rfl) rfl rfl ?_
    refine wl_bin (fun x y => do eqGuard .eql 56 (.tmp 19) (.tmp 20) x y; binOp .eql 56 x y) (.tmp 19) (.tmp 20) (pp q.r) (pt k 0) (.bool false) (fun _ => rfl) rfl rfl (eq56p hf0 _ (fun j e => by obtain ⟨z, hz⟩ := hcb j e; exact hS.cb j z hz) (fun j e => by cases e; exact hS.cb _ _ hk) _ _) rfl ?_
    refine wl_pick (.tmp 9) (.tmp 21) (.const (.bool false)) true (.bool false) (fun _ => rfl) rfl rfl rfl ?_
    refine w_nil ?_
    refine xn_then ?_
    refine w_condF rfl ?_
    refine w_skip ?_
    refine xn_then ?_
    refine w_seq ?_
    refine w_reg ?_
    refine wl_mv (.const (.int .i64 (0))) (.int .i64 (0)) (fun _ => rfl) rfl rfl ?_
    refine w_nil ?_
    refine xn_then ?_
    refine w_ret ?_
    exact w_ret1 _ (.int .i64 (0)) rfl rfl ⟨by simp [hf0p], M⟩
/-- The side that weighs too much. -/
def hvy (a b : Int) : Value := .tuple #[.int .i64 (if 3 * (b + 1) < a + 1 then 0 else 1), .bool (decide (3 * (b + 1) < a + 1) || decide (3 * (a + 1) < b + 1))]
theorem heavy_n {w : World} (hS : HS D w t mb R root lk) {k : Nat} {r : Rc} (hk : R k = some r) {a b : Int} (hl : szo R r.l a) (h0 : 0 ≤ a) (h1 : a ≤ 1000000) (hr : szo R r.r b) (h2 : 0 ≤ b) (h3 : b ≤ 1000000) : Calls Try.prog 49 #[pt k 0] w fun e w' => e = .returned (hvy a b) ∧ Mo w w' := by
  refine w_enter 26 Try.func49 Try.ntmps49 rfl rfl ?_
  have M : Mo w w := Mo.refl _
  refine w_seq ?_
  refine w_reg ?_
  refine wl_mv (.const (.int .i64 (0))) (.int .i64 (0)) (fun _ => rfl) rfl rfl ?_
  refine wl_mv (.const (.bool false)) (.bool false) (fun _ => rfl) rfl rfl ?_
  refine w_nil ?_
  refine xn_then ?_
  refine w_seq ?_
  refine w_any 11 [.inl (pt k 0), .inl (pt k 0), .inl (pt k 1), .inl (pt k 1), .inl (pp r.l), .inl (.int .i64 (a + 1)), .inl (pt k 0), .inl (pt k 0), .inl (pt k 1), .inl (pt k 2), .inl (pp r.r)] [] (by kernel_rfl) (by kernel_rfl) (by kernel_rfl) (by kernel_rfl) rfl (by kernel_rfl) (by kernel_rfl) late_nil ?_ ?_ ?_
  · exact Ds.none rfl
  · refine ea_cons ?_ (ea_cons ?_ (ea_cons ?_ (ea_cons ?_ (ea_cons ?_ (ea_cons ?_ (ea_cons ?_ (ea_cons ?_ (ea_cons ?_ (ea_cons ?_ (ea_cons ?_ (ea_nil)))))))))))
    · exact og_eq (pt k 0) rfl (fun f wf hq hd K hK => go_run rfl (wo_mv (.tmp 0) (pt k 0) (fun _ => rfl) rfl (hK _ (Mo.refl _))))
    · exact og_eq (pt k 0) rfl (fun f wf hq hd K hK => go_run rfl (wo_nc (.tmp 6) k 0 rfl (hd 0 rfl) (hK _ (Mo.refl _))))
    · exact og_eq (pt k 1) rfl (fun f wf hq hd K hK => go_run rfl (wo_un (fun v => Instr.fieldAt 64 v 1) (.tmp 7) (pt k 0) (pt k 1) (fun _ => rfl) (hd 1 rfl) (by kernel_rfl) (hK _ (Mo.refl _))))
    · exact og_eq (pt k 1) rfl (fun f wf hq hd K hK => go_run rfl (wo_bin (fun x y => Instr.indexAt 62 x y) (.tmp 8) (.const (.int .i64 (0))) (pt k 1) (.int .i64 (0)) (pt k 1) (fun _ => rfl) (hd 2 rfl) rfl (by kernel_rfl) (hK _ (Mo.refl _))))
    · exact og_eq (pp r.l) rfl (fun f wf hq hd K hK => have hS := hS.mo hq; go_run rfl (wo_load 56 (.tmp 9) (pt k 1) (pp r.l) rfl (hd 3 rfl) (run_one (hS.rc k _ hk) 56 1 rfl Try.underlying56 rfl) (hK _ (Mo.refl _))))
    · exact og_eq (.int .i64 (a + 1)) rfl (fun f wf hq hd K hK => have hS := hS.mo hq; go_run rfl (wo_call 51 [(.tmp 10)] _ [pp r.l] (.int .i64 (a + 1)) rfl (li1 (hd 4 rfl)) (fun _ _ => by kernel_rfl) (weight_o hS hl h0 h1) hK))
    · exact og_eq (pt k 0) rfl (fun f wf hq hd K hK => go_run rfl (wo_mv (.tmp 0) (pt k 0) (fun _ => rfl) rfl (hK _ (Mo.refl _))))
    · exact og_eq (pt k 0) rfl (fun f wf hq hd K hK => go_run rfl (wo_nc (.tmp 12) k 0 rfl (hd 6 rfl) (hK _ (Mo.refl _))))
    · exact og_eq (pt k 1) rfl (fun f wf hq hd K hK => go_run rfl (wo_un (fun v => Instr.fieldAt 64 v 1) (.tmp 13) (pt k 0) (pt k 1) (fun _ => rfl) (hd 7 rfl) (by kernel_rfl) (hK _ (Mo.refl _))))
    · exact og_eq (pt k 2) rfl (fun f wf hq hd K hK => go_run rfl (wo_bin (fun x y => Instr.indexAt 62 x y) (.tmp 14) (.const (.int .i64 (1))) (pt k 1) (.int .i64 (1)) (pt k 2) (fun _ => rfl) (hd 8 rfl) rfl (by kernel_rfl) (hK _ (Mo.refl _))))
    · exact og_eq (pp r.r) rfl (fun f wf hq hd K hK => have hS := hS.mo hq; go_run rfl (wo_load 56 (.tmp 15) (pt k 2) (pp r.r) rfl (hd 9 rfl) (run_one (hS.rc k _ hk) 56 2 rfl Try.underlying56 rfl) (hK _ (Mo.refl _))))
  intro kf1 w1 hq _ _
  replace hS := hS.mo hq
  replace M := M.trans hq
  clear hq
  refine wl_call 51 [(.tmp 16)] _ [pp r.r] (.int .i64 (b + 1)) rfl rfl (fun _ _ => by kernel_rfl) (weight_o hS hr h2 h3) rfl ?_
  intro w2 hq
  replace hS := hS.mo hq
  replace M := M.trans hq
  clear hq
  refine wl_mv (.tmp 11) (.int .i64 (a + 1)) (fun _ => rfl) rfl rfl ?_
  refine wl_mv (.tmp 17) (.int .i64 (b + 1)) (fun _ => rfl) rfl rfl ?_
  refine w_nil ?_
  refine xn_then ?_
  refine w_seq ?_
  refine w_seq ?_
  cases hf0 : decide (3 * (b + 1) < a + 1) with
  | true =>
    have hf0p := of_decide_eq_true hf0
    refine w_reg ?_
    refine wl_mv (.tmp 4) (.int .i64 (a + 1)) (fun _ => rfl) rfl rfl ?_
    refine wl_mv (.tmp 5) (.int .i64 (b + 1)) (fun _ => rfl) rfl rfl ?_
    refine wl_bin (fun x y => do eqGuard .mul 3 (.const (.int .i64 (3))) (.tmp 19) x y; binOp .mul 3 x y) (.const (.int .i64 (3))) (.tmp 19) (.int .i64 (3)) (.int .i64 (b + 1)) (.int .i64 (3 * (b + 1))) (fun _ => rfl) rfl rfl (mulI (by omega) (by omega) _ _ _) rfl ?_
    refine wl_bin (fun x y => do eqGuard .gtr 3 (.tmp 18) (.tmp 20) x y; binOp .gtr 3 x y) (.tmp 18) (.tmp 20) (.int .i64 (a + 1)) (.int .i64 (3 * (b + 1))) (.bool true) (fun _ => rfl) rfl rfl (gtI hf0 _ _ _) rfl ?_
    refine w_nil ?_
    refine xn_then ?_
    refine w_condT rfl ?_
    refine w_seq ?_
    refine w_reg ?_
    refine wl_mv (.const (.int .i64 (0))) (.int .i64 (0)) (fun _ => rfl) rfl rfl ?_
    refine wl_mv (.const (.bool true)) (.bool true) (fun _ => rfl) rfl rfl ?_
    refine w_nil ?_
    refine xn_then ?_
    refine w_ret ?_
    refine xr_then ?_
    exact w_ret2 _ _ (.int .i64 (0)) (.bool true) rfl rfl rfl ⟨by unfold hvy; simp [hf0p], M⟩
  | false =>
    have hf0p := of_decide_eq_false hf0
    refine w_reg ?_
    refine wl_mv (.tmp 4) (.int .i64 (a + 1)) (fun _ => rfl) rfl rfl ?_
    refine wl_mv (.tmp 5) (.int .i64 (b + 1)) (fun _ => rfl) rfl rfl ?_
    refine wl_bin (fun x y => do eqGuard .mul 3 (.const (.int .i64 (3))) (.tmp 19) x y; binOp .mul 3 x y) (.const (.int .i64 (3))) (.tmp 19) (.int .i64 (3)) (.int .i64 (b + 1)) (.int .i64 (3 * (b + 1))) (fun _ => rfl) rfl rfl (mulI (by omega) (by omega) _ _ _) rfl ?_
    refine wl_bin (fun x y => do eqGuard .gtr 3 (.tmp 18) (.tmp 20) x y; binOp .gtr 3 x y) (.tmp 18) (.tmp 20) (.int .i64 (a + 1)) (.int .i64 (3 * (b + 1))) (.bool false) (fun _ => rfl) rfl rfl (gtI hf0 _ _ _) rfl ?_
    refine w_nil ?_
    refine xn_then ?_
    refine w_condF rfl ?_
    refine w_skip ?_
    refine xn_then ?_
    refine w_seq ?_
    cases hf1 : decide (3 * (a + 1) < b + 1) with
    | true =>
      have hf1p := of_decide_eq_true hf1
      refine w_reg ?_
      refine wl_mv (.tmp 5) (.int .i64 (b + 1)) (fun _ => rfl) rfl rfl ?_
      refine wl_mv (.tmp 4) (.int .i64 (a + 1)) (fun _ => rfl) rfl rfl ?_
      refine wl_bin (fun x y => do eqGuard .mul 3 (.const (.int .i64 (3))) (.tmp 23) x y; binOp .mul 3 x y) (.const (.int .i64 (3))) (.tmp 23) (.int .i64 (3)) (.int .i64 (a + 1)) (.int .i64 (3 * (a + 1))) (fun _ => rfl) rfl rfl (mulI (by omega) (by omega) _ _ _) rfl ?_
      refine wl_bin (fun x y => do eqGuard .gtr 3 (.tmp 22) (.tmp 24) x y; binOp .gtr 3 x y) (.tmp 22) (.tmp 24) (.int .i64 (b + 1)) (.int .i64 (3 * (a + 1))) (.bool true) (fun _ => rfl) rfl rfl (gtI hf1 _ _ _) rfl ?_
      refine wl_mv (.const (.int .i64 (1))) (.int .i64 (1)) (fun _ => rfl) rfl rfl ?_
      refine wl_mv (.tmp 25) (.bool true) (fun _ => rfl) rfl rfl ?_
      refine w_nil ?_
      refine xn_then ?_
      refine w_ret ?_
      exact w_ret2 _ _ (.int .i64 (1)) (.bool true) rfl rfl rfl ⟨by unfold hvy; simp [hf0p, hf1p], M⟩
    | false =>
      have hf1p := of_decide_eq_false hf1
      refine w_reg ?_
      refine wl_mv (.tmp 5) (.int .i64 (b + 1)) (fun _ => rfl) rfl rfl ?_
      refine wl_mv (.tmp 4) (.int .i64 (a + 1)) (fun _ => rfl) rfl rfl ?_
      refine wl_bin (fun x y => do eqGuard .mul 3 (.const (.int .i64 (3))) (.tmp 23) x y; binOp .mul 3 x y) (.const (.int .i64 (3))) (.tmp 23) (.int .i64 (3)) (.int .i64 (a + 1)) (.int .i64 (3 * (a + 1))) (fun _ => rfl) rfl rfl (mulI (by omega) (by omega) _ _ _) rfl ?_
      refine wl_bin (fun x y => do eqGuard .gtr 3 (.tmp 22) (.tmp 24) x y; binOp .gtr 3 x y) (.tmp 22) (.tmp 24) (.int .i64 (b + 1)) (.int .i64 (3 * (a + 1))) (.bool false) (fun _ => rfl) rfl rfl (gtI hf1 _ _ _) rfl ?_
      refine wl_mv (.const (.int .i64 (1))) (.int .i64 (1)) (fun _ => rfl) rfl rfl ?_
      refine wl_mv (.tmp 25) (.bool false) (fun _ => rfl) rfl rfl ?_
      refine w_nil ?_
      refine xn_then ?_
      refine w_ret ?_
      exact w_ret2 _ _ (.int .i64 (1)) (.bool false) rfl rfl rfl ⟨by unfold hvy; simp [hf0p, hf1p], M⟩
theorem resize_n {w : World} (hS : HS D w t mb R root lk) {k : Nat} {r : Rc} (hk : R k = some r) {a b : Int} (hl : szo R r.l a) (h0 : 0 ≤ a) (h1 : a ≤ 1000000) (hr : szo R r.r b) (h2 : 0 ≤ b) (h3 : b ≤ 1000000) : Calls Try.prog 48 #[pt k 0] w fun e w' => e = .returned (.tuple #[]) ∧ HS D w' t mb (ud R k ⟨r.u, r.l, r.r, 1 + a + b, r.i⟩) root lk ∧ Mk D w w' := by
  refine w_enter 19 Try.func48 Try.ntmps48 rfl rfl ?_
  have M : Mk D w w := Mk.refl _ _
  refine w_any 17 [.inl (pt k 0), .inl (pt k 0), .inl (pt k 0), .inl (pt k 1), .inl (pt k 1), .inl (pp r.l), .inl (.int .i64 (a)), .inl (.int .i64 (1 + a)), .inl (pt k 0), .inl (pt k 0), .inl (pt k 1), .inl (pt k 2), .inl (pp r.r), .inl (.int .i64 (b)), .inl (.int .i64 (1 + a + b)), .inl (pt k 0), .inl (pt k 3)] [] (by kernel_rfl) (by kernel_rfl) (by kernel_rfl) (by kernel_rfl) rfl (by kernel_rfl) (by kernel_rfl) late_nil ?_ ?_ ?_
  · exact Ds.none rfl
  · refine ea_cons ?_ (ea_cons ?_ (ea_cons ?_ (ea_cons ?_ (ea_cons ?_ (ea_cons ?_ (ea_cons ?_ (ea_cons ?_ (ea_cons ?_ (ea_cons ?_ (ea_cons ?_ (ea_cons ?_ (ea_cons ?_ (ea_cons ?_ (ea_cons ?_ (ea_cons ?_ (ea_cons ?_ (ea_nil)))))))))))))))))
    · exact og_eq (pt k 0) rfl (fun f wf hq hd K hK => go_run rfl (wo_mv (.tmp 0) (pt k 0) (fun _ => rfl) rfl (hK _ (Mo.refl _))))
    · exact og_eq (pt k 0) rfl (fun f wf hq hd K hK => go_run rfl (wo_mv (.tmp 0) (pt k 0) (fun _ => rfl) rfl (hK _ (Mo.refl _))))
    · exact og_eq (pt k 0) rfl (fun f wf hq hd K hK => go_run rfl (wo_nc (.tmp 3) k 0 rfl (hd 1 rfl) (hK _ (Mo.refl _))))
    · exact og_eq (pt k 1) rfl (fun f wf hq hd K hK => go_run rfl (wo_un (fun v => Instr.fieldAt 64 v 1) (.tmp 4) (pt k 0) (pt k 1) (fun _ => rfl) (hd 2 rfl) (by kernel_rfl) (hK _ (Mo.refl _))))
    · exact og_eq (pt k 1) rfl (fun f wf hq hd K hK => go_run rfl (wo_bin (fun x y => Instr.indexAt 62 x y) (.tmp 5) (.const (.int .i64 (0))) (pt k 1) (.int .i64 (0)) (pt k 1) (fun _ => rfl) (hd 3 rfl) rfl (by kernel_rfl) (hK _ (Mo.refl _))))
    · exact og_eq (pp r.l) rfl (fun f wf hq hd K hK => have hS := hS.mo hq; go_run rfl (wo_load 56 (.tmp 6) (pt k 1) (pp r.l) rfl (hd 4 rfl) (run_one (hS.rc k _ hk) 56 1 rfl Try.underlying56 rfl) (hK _ (Mo.refl _))))
    · exact og_eq (.int .i64 (a)) rfl (fun f wf hq hd K hK => have hS := hS.mo hq; go_run rfl (wo_call 40 [(.tmp 7)] _ [pp r.l] (.int .i64 (a)) rfl (li1 (hd 5 rfl)) (fun _ _ => by kernel_rfl) (size_o hS hl) hK))
    · exact og_eq (.int .i64 (1 + a)) rfl (fun f wf hq hd K hK => go_run rfl (wo_bin (fun x y => do eqGuard .add 3 (.const (.int .i64 (1))) (.tmp 8) x y; binOp .add 3 x y) (.const (.int .i64 (1))) (.tmp 8) (.int .i64 (1)) (.int .i64 (a)) (.int .i64 (1 + a)) (fun _ => rfl) rfl (hd 6 rfl) (addI (by omega) (by omega) _ _ _) (hK _ (Mo.refl _))))
    · exact og_eq (pt k 0) rfl (fun f wf hq hd K hK => go_run rfl (wo_mv (.tmp 0) (pt k 0) (fun _ => rfl) rfl (hK _ (Mo.refl _))))
    · exact og_eq (pt k 0) rfl (fun f wf hq hd K hK => go_run rfl (wo_nc (.tmp 10) k 0 rfl (hd 8 rfl) (hK _ (Mo.refl _))))
    · exact og_eq (pt k 1) rfl (fun f wf hq hd K hK => go_run rfl (wo_un (fun v => Instr.fieldAt 64 v 1) (.tmp 11) (pt k 0) (pt k 1) (fun _ => rfl) (hd 9 rfl) (by kernel_rfl) (hK _ (Mo.refl _))))
    · exact og_eq (pt k 2) rfl (fun f wf hq hd K hK => go_run rfl (wo_bin (fun x y => Instr.indexAt 62 x y) (.tmp 12) (.const (.int .i64 (1))) (pt k 1) (.int .i64 (1)) (pt k 2) (fun _ => rfl) (hd 10 rfl) rfl (by kernel_rfl) (hK _ (Mo.refl _))))
    · exact og_eq (pp r.r) rfl (fun f wf hq hd K hK => have hS := hS.mo hq; go_run rfl (wo_load 56 (.tmp 13) (pt k 2) (pp r.r) rfl (hd 11 rfl) (run_one (hS.rc k _ hk) 56 2 rfl Try.underlying56 rfl) (hK _ (Mo.refl _))))
    · exact og_eq (.int .i64 (b)) rfl (fun f wf hq hd K hK => have hS := hS.mo hq; go_run rfl (wo_call 40 [(.tmp 14)] _ [pp r.r] (.int .i64 (b)) rfl (li1 (hd 12 rfl)) (fun _ _ => by kernel_rfl) (size_o hS hr) hK))
    · exact og_eq (.int .i64 (1 + a + b)) rfl (fun f wf hq hd K hK => go_run rfl (wo_bin (fun x y => do eqGuard .add 3 (.tmp 9) (.tmp 15) x y; binOp .add 3 x y) (.tmp 9) (.tmp 15) (.int .i64 (1 + a)) (.int .i64 (b)) (.int .i64 (1 + a + b)) (fun _ => rfl) (hd 7 rfl) (hd 13 rfl) (addI (by omega) (by omega) _ _ _) (hK _ (Mo.refl _))))
    · exact og_eq (pt k 0) rfl (fun f wf hq hd K hK => go_run rfl (wo_nc (.tmp 2) k 0 rfl (hd 0 rfl) (hK _ (Mo.refl _))))
    · exact og_eq (pt k 3) rfl (fun f wf hq hd K hK => go_run rfl (wo_un (fun v => Instr.fieldAt 64 v 2) (.tmp 17) (pt k 0) (pt k 3) (fun _ => rfl) (hd 15 rfl) (by kernel_rfl) (hK _ (Mo.refl _))))
  intro kf1 w1 hq _ _
  replace hS := hS.mo hq
  replace M := M.trans hq
  clear hq
  refine wl_st1x 3 (.tmp 18) (.tmp 16) k 3 (.int .i64 (1 + a + b)) [pp r.u, pp r.l, pp r.r, .int .i64 (r.s), .int .i64 (r.i)] [pp r.u, pp r.l, pp r.r, .int .i64 (1 + a + b), .int .i64 (r.i)] (hS.rc k _ hk) rfl rfl rfl rfl rfl sz3 rfl rfl rfl rfl ?_
  intro w2 hT hA
  replace M := M.st hT (hS.dk hk)
  replace hS := hS.put hk ⟨r.u, r.l, r.r, (1 + a + b), (r.i)⟩ hT hA
  clear hT hA
  obtain ⟨R1, eR1⟩ : ∃ X, X = ud R k ⟨r.u, r.l, r.r, (1 + a + b), (r.i)⟩ := ⟨_, rfl⟩
  rw [← eR1] at hS
  have hk : R1 k = some ⟨r.u, r.l, r.r, (1 + a + b), (r.i)⟩ := by rw [eR1]; exact ud_same _ _ _
  refine w_nil ?_
  exact w_end0 rfl ⟨rfl, by rw [← eR1]; exact hS, M⟩
end
end Go.Proofs.Ytbmbldloeblbbaa
