/-
  Kinds over kinds: what a node comes to.
-/
import Derived.Test.YtepfokoepibkcaaGreatT1
import Derived.Test.YtepfokoepibkcaaGreatDa
namespace Go.Proofs.YtepfokoepibkcaaGreat
open Go.RowKit D
def isp (n : Int) : Bool := decide (1 ≤ n) && decide (n ≤ 5)
def cbr (k : Int) : Bool := decide (k = 1) || decide (k = 2)
/-- An aggregate over items of a kind. -/
def colK (op k : Int) : Int := if op = 12 ∨ op = 14 ∨ op = 15 then (if k = 1 then 1 else 0) else if op = 13 then 1 else 0
/-- A node of one part. -/
def oneK (n a : Int) : Int := if n = 3 ∨ n = 7 ∨ n = 8 then (if a = 1 then 1 else 0) else if n = 4 then (if a = 2 then 2 else 0) else if n = 9 then 2 else 0
/-- An operator. -/
def twoK (op a b : Int) : Int := if ¬ a = b then 0 else if op = 1 ∨ op = 2 ∨ op = 3 then (if a = 1 then 1 else 0) else if op = 4 ∨ op = 5 then 2 else if op = 6 ∨ op = 7 ∨ op = 8 ∨ op = 9 then (if a = 1 then 2 else 0) else if op = 10 ∨ op = 11 then (if a = 2 then 2 else 0) else 0
def sui (k : Int) : Int × Int := if k = 0 then (0, 100) else (k, 0)
def leaK (k e : Int) (n : Nat) : Int × Int := if ¬ e = 0 then (0, e) else if 0 < n then (0, 100) else (k, 0)
def rnE (sc po : Int) : Int := if isc sc then (if isp po then 0 else 22) else 21
abbrev tu2 (p : Int × Int) : Value := .tuple #[.int .i64 p.1, .int .i64 p.2]
theorem len132 (ρ : Operand → Value) (x : Operand) (p : Option Addr) (m c : Nat) (hx : ρ x = .slice p m c) (dst : Option Tmp) (type : TypeId) (pos : String) (after : Array Edge) (guard : Option (Nat × Bool)) (w : World) : (execOp ρ { dst, op := .call { callee := .builtin .len, args := #[x], argTypes := #[132] }, type, pos, after, guard }).run Tryz.prog w = .ok (.value (.int .i64 (m : Int))) w := by
  simp [go_sem, hx]
theorem ix132 {pa : Option Addr} {b off i n c : Nat} (hp : pa = some ⟨b, off, none⟩) (h : i < n) (w : World) : (Instr.indexAt 132 (.slice pa n c) (.int .i64 (i : Int))).run Tryz.prog w = .ok (pt b (off + i * 1)) w := by
  subst hp
  have e : (Instr.indexAt 132 (.slice (some ⟨b, off, none⟩) n c) (.int .i64 (i : Int))).run Tryz.prog w = .ok (.pointer (some ((⟨b, off, none⟩ : Addr).add (i * 1)))) w := by simp [go_sem, h]
  rw [e, Addr.add_mid]
theorem isp_n (n : Int) (w : World) : Calls Tryz.prog 49 #[.int .i64 (n)] w fun e9 w' => e9 = .returned (.bool (isp n)) ∧ Mo w w' := by
  refine w_enter 9 Tryz.func49 Tryz.ntmps49 rfl rfl ?_
  have M : Mo w w := Mo.refl _
  refine w_seq ?_
  refine w_reg ?_
  refine wl_mv (.const (.bool false)) (.bool false) (fun _ => rfl) rfl rfl ?_
  refine w_nil ?_
  refine xn_then ?_
  refine w_seq ?_
  refine w_reg ?_
  refine wl_mv (.tmp 0) (.int .i64 (n)) (fun _ => rfl) rfl rfl ?_
  cases hf0 : decide (1 ≤ n) with
  | true =>
    have hf0p := of_decide_eq_true hf0
    refine wl_bin (fun x y => do eqGuard .geq 3 (.tmp 3) (.const (.int .i64 (1))) x y; binOp .geq 3 x y) (.tmp 3) (.const (.int .i64 (1))) (.int .i64 (n)) (.int .i64 (1)) (.bool true) (fun _ => rfl) rfl rfl (ge3 hf0 _ _ _) rfl ?_
    refine wl_mv (.tmp 4) (.bool true) (fun _ => rfl) rfl rfl ?_
    refine wl_mv (.tmp 0) (.int .i64 (n)) (fun _ => rfl) rfl rfl ?_
    cases hf1 : decide (n ≤ 5) with
    | true =>
      have hf1p := of_decide_eq_true hf1
      refine wl_bin (fun x y => do eqGuard .leq 3 (.tmp 6) (.const (.int .i64 (5))) x y; binOp .leq 3 x y) (.tmp 6) (.const (.int .i64 (5))) (.int .i64 (n)) (.int .i64 (5)) (.bool true) (fun _ => rfl) rfl rfl (le3 hf1 _ _ _) rfl ?_
      refine wl_pick (.tmp 5) (.tmp 7) (.const (.bool false)) true (.bool true) (fun _ => rfl) rfl rfl rfl ?_
      refine wl_mv (.tmp 8) (.bool true) (fun _ => rfl) rfl rfl ?_
      refine w_nil ?_
      refine xn_then ?_
      refine w_ret ?_
      exact w_ret1 _ (.bool true) rfl rfl ⟨by simp [isp, hf0, hf1], M⟩
    | false =>
      have hf1p := of_decide_eq_false hf1
      refine wl_bin (fun x y => do eqGuard .leq 3 (.tmp 6) (.const (.int .i64 (5))) x y; binOp .leq 3 x y) (.tmp 6) (.const (.int .i64 (5))) (.int .i64 (n)) (.int .i64 (5)) (.bool false) (fun _ => rfl) rfl rfl (le3 hf1 _ _ _) rfl ?_
      refine wl_pick (.tmp 5) (.tmp 7) (.const (.bool false)) true (.bool false) (fun _ => rfl) rfl rfl rfl ?_
      refine wl_mv (.tmp 8) (.bool false) (fun _ => rfl) rfl rfl ?_
      refine w_nil ?_
      refine xn_then ?_
      refine w_ret ?_
      exact w_ret1 _ (.bool false) rfl rfl ⟨by simp [isp, hf0, hf1], M⟩
  | false =>
    have hf0p := of_decide_eq_false hf0
    refine wl_bin (fun x y => do eqGuard .geq 3 (.tmp 3) (.const (.int .i64 (1))) x y; binOp .geq 3 x y) (.tmp 3) (.const (.int .i64 (1))) (.int .i64 (n)) (.int .i64 (1)) (.bool false) (fun _ => rfl) rfl rfl (ge3 hf0 _ _ _) rfl ?_
    refine wl_mv (.tmp 4) (.bool false) (fun _ => rfl) rfl rfl ?_
    refine wl_skip rfl ?_
    refine wl_skip rfl ?_
    refine wl_pick (.tmp 5) (.tmp 7) (.const (.bool false)) false (.bool false) (fun _ => rfl) rfl rfl rfl ?_
    refine wl_mv (.tmp 8) (.bool false) (fun _ => rfl) rfl rfl ?_
    refine w_nil ?_
    refine xn_then ?_
    refine w_ret ?_
    exact w_ret1 _ (.bool false) rfl rfl ⟨by simp [isp, hf0], M⟩
theorem cbr_n (k : Int) (w : World) : Calls Tryz.prog 135 #[.int .i64 (k)] w fun e9 w' => e9 = .returned (.bool (cbr k)) ∧ Mo w w' := by
  refine w_enter 9 Tryz.func135 Tryz.ntmps135 rfl rfl ?_
  have M : Mo w w := Mo.refl _
  refine w_seq ?_
  refine w_reg ?_
  refine wl_mv (.const (.bool false)) (.bool false) (fun _ => rfl) rfl rfl ?_
  refine w_nil ?_
  refine xn_then ?_
  refine w_seq ?_
  refine w_reg ?_
  refine wl_mv (.tmp 0) (.int .i64 (k)) (fun _ => rfl) rfl rfl ?_
  cases hf0 : decide (k = 1) with
  | true =>
    have hf0p := of_decide_eq_true hf0
    refine wl_bin (fun x y => do eqGuard .eql 3 (.tmp 3) (.const (.int .i64 (1))) x y; binOp .eql 3 x y) (.tmp 3) (.const (.int .i64 (1))) (.int .i64 (k)) (.int .i64 (1)) (.bool true) (fun _ => rfl) rfl rfl (eq3 hf0 _ _ _) rfl ?_
    refine wl_mv (.tmp 4) (.bool true) (fun _ => rfl) rfl rfl ?_
    refine wl_skip rfl ?_
    refine wl_skip rfl ?_
    refine wl_pick (.tmp 5) (.const (.bool true)) (.tmp 7) true (.bool true) (fun _ => rfl) rfl rfl rfl ?_
    refine wl_mv (.tmp 8) (.bool true) (fun _ => rfl) rfl rfl ?_
    refine w_nil ?_
    refine xn_then ?_
    refine w_ret ?_
    exact w_ret1 _ (.bool true) rfl rfl ⟨by unfold cbr; simp_all, M⟩
  | false =>
    have hf0p := of_decide_eq_false hf0
    refine wl_bin (fun x y => do eqGuard .eql 3 (.tmp 3) (.const (.int .i64 (1))) x y; binOp .eql 3 x y) (.tmp 3) (.const (.int .i64 (1))) (.int .i64 (k)) (.int .i64 (1)) (.bool false) (fun _ => rfl) rfl rfl (eq3 hf0 _ _ _) rfl ?_
    refine wl_mv (.tmp 4) (.bool false) (fun _ => rfl) rfl rfl ?_
    refine wl_mv (.tmp 0) (.int .i64 (k)) (fun _ => rfl) rfl rfl ?_
    cases hf1 : decide (k = 2) with
    | true =>
      have hf1p := of_decide_eq_true hf1
      refine wl_bin (fun x y => do eqGuard .eql 3 (.tmp 6) (.const (.int .i64 (2))) x y; binOp .eql 3 x y) (.tmp 6) (.const (.int .i64 (2))) (.int .i64 (k)) (.int .i64 (2)) (.bool true) (fun _ => rfl) rfl rfl (eq3 hf1 _ _ _) rfl ?_
      refine wl_pick (.tmp 5) (.const (.bool true)) (.tmp 7) false (.bool true) (fun _ => rfl) rfl rfl rfl ?_
      refine wl_mv (.tmp 8) (.bool true) (fun _ => rfl) rfl rfl ?_
      refine w_nil ?_
      refine xn_then ?_
      refine w_ret ?_
      exact w_ret1 _ (.bool true) rfl rfl ⟨by unfold cbr; simp_all, M⟩
    | false =>
      have hf1p := of_decide_eq_false hf1
      refine wl_bin (fun x y => do eqGuard .eql 3 (.tmp 6) (.const (.int .i64 (2))) x y; binOp .eql 3 x y) (.tmp 6) (.const (.int .i64 (2))) (.int .i64 (k)) (.int .i64 (2)) (.bool false) (fun _ => rfl) rfl rfl (eq3 hf1 _ _ _) rfl ?_
      refine wl_pick (.tmp 5) (.const (.bool true)) (.tmp 7) false (.bool false) (fun _ => rfl) rfl rfl rfl ?_
      refine wl_mv (.tmp 8) (.bool false) (fun _ => rfl) rfl rfl ?_
      refine w_nil ?_
      refine xn_then ?_
      refine w_ret ?_
      exact w_ret1 _ (.bool false) rfl rfl ⟨by unfold cbr; simp_all, M⟩
theorem colK_n (op k : Int) (w : World) : Calls Tryz.prog 124 #[.int .i64 (op), .int .i64 (k)] w fun e9 w' => e9 = .returned (.int .i64 (colK op k)) ∧ Mo w w' := by
  refine w_enter 14 Tryz.func124 Tryz.ntmps124 rfl rfl ?_
  have M : Mo w w := Mo.refl _
  refine w_seq ?_
  refine w_reg ?_
  refine wl_mv (.const (.int .i64 (0))) (.int .i64 (0)) (fun _ => rfl) rfl rfl ?_
  refine w_nil ?_
  refine xn_then ?_
  refine w_seq ?_
  refine w_seq ?_
  refine w_reg ?_
  refine wl_mv (.tmp 0) (.int .i64 (op)) (fun _ => rfl) rfl rfl ?_
  refine w_nil ?_
  refine xn_then ?_
  refine w_block ?_
  refine w_seq ?_
  refine w_seq ?_
  refine w_reg ?_
  cases hf0 : decide (op = 12) with
  | true =>
    have hf0p := of_decide_eq_true hf0
    refine wl_bin (fun x y => do eqGuard .eql 3 (.tmp 5) (.const (.int .i64 (12))) x y; binOp .eql 3 x y) (.tmp 5) (.const (.int .i64 (12))) (.int .i64 (op)) (.int .i64 (12)) (.bool true) (fun _ => rfl) rfl rfl (eq3 hf0 _ _ _) rfl ?_
    refine wl_mv (.tmp 7) (.bool true) (fun _ => rfl) rfl rfl ?_
    refine w_nil ?_
    refine xn_then ?_
    refine w_condT rfl ?_
    refine w_skip ?_
    refine xn_then ?_
    refine w_condT rfl ?_
    refine w_seq ?_
    refine w_reg ?_
    refine wl_mv (.tmp 1) (.int .i64 (k)) (fun _ => rfl) rfl rfl ?_
    cases hf1 : decide (k = 1) with
    | true =>
      have hf1p := of_decide_eq_true hf1
      refine wl_bin (fun x y => do eqGuard .eql 3 (.tmp 10) (.const (.int .i64 (1))) x y; binOp .eql 3 x y) (.tmp 10) (.const (.int .i64 (1))) (.int .i64 (k)) (.int .i64 (1)) (.bool true) (fun _ => rfl) rfl rfl (eq3 hf1 _ _ _) rfl ?_
      refine w_nil ?_
      refine xn_then ?_
      refine w_condT rfl ?_
      refine w_seq ?_
      refine w_reg ?_
      refine wl_mv (.const (.int .i64 (1))) (.int .i64 (1)) (fun _ => rfl) rfl rfl ?_
      refine w_nil ?_
      refine xn_then ?_
      refine w_ret ?_
      refine xr_blk ?_
      refine xr_then ?_
      exact w_ret1 _ (.int .i64 (1)) rfl rfl ⟨by unfold colK; simp_all, M⟩
    | false =>
      have hf1p := of_decide_eq_false hf1
      refine wl_bin (fun x y => do eqGuard .eql 3 (.tmp 10) (.const (.int .i64 (1))) x y; binOp .eql 3 x y) (.tmp 10) (.const (.int .i64 (1))) (.int .i64 (k)) (.int .i64 (1)) (.bool false) (fun _ => rfl) rfl rfl (eq3 hf1 _ _ _) rfl ?_
      refine w_nil ?_
      refine xn_then ?_
      refine w_condF rfl ?_
      refine w_skip ?_
      refine xn_blk ?_
      refine xn_then ?_
      refine w_seq ?_
      refine w_reg ?_
      refine wl_mv (.const (.int .i64 (0))) (.int .i64 (0)) (fun _ => rfl) rfl rfl ?_
      refine w_nil ?_
      refine xn_then ?_
      refine w_ret ?_
      exact w_ret1 _ (.int .i64 (0)) rfl rfl ⟨by unfold colK; simp_all, M⟩
  | false =>
    have hf0p := of_decide_eq_false hf0
    refine wl_bin (fun x y => do eqGuard .eql 3 (.tmp 5) (.const (.int .i64 (12))) x y; binOp .eql 3 x y) (.tmp 5) (.const (.int .i64 (12))) (.int .i64 (op)) (.int .i64 (12)) (.bool false) (fun _ => rfl) rfl rfl (eq3 hf0 _ _ _) rfl ?_
    refine wl_mv (.tmp 7) (.bool false) (fun _ => rfl) rfl rfl ?_
    refine w_nil ?_
    refine xn_then ?_
    refine w_condF rfl ?_
    refine w_seq ?_
    refine w_reg ?_
    cases hf1 : decide (op = 14) with
    | true =>
      have hf1p := of_decide_eq_true hf1
      refine wl_bin (fun x y => do eqGuard .eql 3 (.tmp 5) (.const (.int .i64 (14))) x y; binOp .eql 3 x y) (.tmp 5) (.const (.int .i64 (14))) (.int .i64 (op)) (.int .i64 (14)) (.bool true) (fun _ => rfl) rfl rfl (eq3 hf1 _ _ _) rfl ?_
      refine wl_mv (.tmp 8) (.bool true) (fun _ => rfl) rfl rfl ?_
      refine w_nil ?_
      refine xn_then ?_
      refine w_condT rfl ?_
      refine w_skip ?_
      refine xn_then ?_
      refine w_condT rfl ?_
      refine w_seq ?_
      refine w_reg ?_
      refine wl_mv (.tmp 1) (.int .i64 (k)) (fun _ => rfl) rfl rfl ?_
      cases hf2 : decide (k = 1) with
      | true =>
        have hf2p := of_decide_eq_true hf2
        refine wl_bin (fun x y => do eqGuard .eql 3 (.tmp 10) (.const (.int .i64 (1))) x y; binOp .eql 3 x y) (.tmp 10) (.const (.int .i64 (1))) (.int .i64 (k)) (.int .i64 (1)) (.bool true) (fun _ => rfl) rfl rfl (eq3 hf2 _ _ _) rfl ?_
        refine w_nil ?_
        refine xn_then ?_
        refine w_condT rfl ?_
        refine w_seq ?_
        refine w_reg ?_
        refine wl_mv (.const (.int .i64 (1))) (.int .i64 (1)) (fun _ => rfl) rfl rfl ?_
        refine w_nil ?_
        refine xn_then ?_
        refine w_ret ?_
        refine xr_blk ?_
        refine xr_then ?_
        exact w_ret1 _ (.int .i64 (1)) rfl rfl ⟨by unfold colK; simp_all, M⟩
      | false =>
        have hf2p := of_decide_eq_false hf2
        refine wl_bin (fun x y => do eqGuard .eql 3 (.tmp 10) (.const (.int .i64 (1))) x y; binOp .eql 3 x y) (.tmp 10) (.const (.int .i64 (1))) (.int .i64 (k)) (.int .i64 (1)) (.bool false) (fun _ => rfl) rfl rfl (eq3 hf2 _ _ _) rfl ?_
        refine w_nil ?_
        refine xn_then ?_
        refine w_condF rfl ?_
        refine w_skip ?_
        refine xn_blk ?_
        refine xn_then ?_
        refine w_seq ?_
        refine w_reg ?_
        refine wl_mv (.const (.int .i64 (0))) (.int .i64 (0)) (fun _ => rfl) rfl rfl ?_
        refine w_nil ?_
        refine xn_then ?_
        refine w_ret ?_
        exact w_ret1 _ (.int .i64 (0)) rfl rfl ⟨by unfold colK; simp_all, M⟩
    | false =>
      have hf1p := of_decide_eq_false hf1
      refine wl_bin (fun x y => do eqGuard .eql 3 (.tmp 5) (.const (.int .i64 (14))) x y; binOp .eql 3 x y) (.tmp 5) (.const (.int .i64 (14))) (.int .i64 (op)) (.int .i64 (14)) (.bool false) (fun _ => rfl) rfl rfl (eq3 hf1 _ _ _) rfl ?_
      refine wl_mv (.tmp 8) (.bool false) (fun _ => rfl) rfl rfl ?_
      refine w_nil ?_
      refine xn_then ?_
      refine w_condF rfl ?_
      refine w_reg ?_
      cases hf2 : decide (op = 15) with
      | true =>
        have hf2p := of_decide_eq_true hf2
        refine wl_bin (fun x y => do eqGuard .eql 3 (.tmp 5) (.const (.int .i64 (15))) x y; binOp .eql 3 x y) (.tmp 5) (.const (.int .i64 (15))) (.int .i64 (op)) (.int .i64 (15)) (.bool true) (fun _ => rfl) rfl rfl (eq3 hf2 _ _ _) rfl ?_
        refine wl_mv (.tmp 9) (.bool true) (fun _ => rfl) rfl rfl ?_
        refine w_nil ?_
        refine xn_then ?_
        refine w_condT rfl ?_
        refine w_seq ?_
        refine w_reg ?_
        refine wl_mv (.tmp 1) (.int .i64 (k)) (fun _ => rfl) rfl rfl ?_
        cases hf3 : decide (k = 1) with
        | true =>
          have hf3p := of_decide_eq_true hf3
          refine wl_bin (fun x y => do eqGuard .eql 3 (.tmp 10) (.const (.int .i64 (1))) x y; binOp .eql 3 x y) (.tmp 10) (.const (.int .i64 (1))) (.int .i64 (k)) (.int .i64 (1)) (.bool true) (fun _ => rfl) rfl rfl (eq3 hf3 _ _ _) rfl ?_
          refine w_nil ?_
          refine xn_then ?_
          refine w_condT rfl ?_
          refine w_seq ?_
          refine w_reg ?_
          refine wl_mv (.const (.int .i64 (1))) (.int .i64 (1)) (fun _ => rfl) rfl rfl ?_
          refine w_nil ?_
          refine xn_then ?_
          refine w_ret ?_
          refine xr_blk ?_
          refine xr_then ?_
          exact w_ret1 _ (.int .i64 (1)) rfl rfl ⟨by unfold colK; simp_all, M⟩
        | false =>
          have hf3p := of_decide_eq_false hf3
          refine wl_bin (fun x y => do eqGuard .eql 3 (.tmp 10) (.const (.int .i64 (1))) x y; binOp .eql 3 x y) (.tmp 10) (.const (.int .i64 (1))) (.int .i64 (k)) (.int .i64 (1)) (.bool false) (fun _ => rfl) rfl rfl (eq3 hf3 _ _ _) rfl ?_
          refine w_nil ?_
          refine xn_then ?_
          refine w_condF rfl ?_
          refine w_skip ?_
          refine xn_blk ?_
          refine xn_then ?_
          refine w_seq ?_
          refine w_reg ?_
          refine wl_mv (.const (.int .i64 (0))) (.int .i64 (0)) (fun _ => rfl) rfl rfl ?_
          refine w_nil ?_
          refine xn_then ?_
          refine w_ret ?_
          exact w_ret1 _ (.int .i64 (0)) rfl rfl ⟨by unfold colK; simp_all, M⟩
      | false =>
        have hf2p := of_decide_eq_false hf2
        refine wl_bin (fun x y => do eqGuard .eql 3 (.tmp 5) (.const (.int .i64 (15))) x y; binOp .eql 3 x y) (.tmp 5) (.const (.int .i64 (15))) (.int .i64 (op)) (.int .i64 (15)) (.bool false) (fun _ => rfl) rfl rfl (eq3 hf2 _ _ _) rfl ?_
        refine wl_mv (.tmp 9) (.bool false) (fun _ => rfl) rfl rfl ?_
        refine w_nil ?_
        refine xn_then ?_
        refine w_condF rfl ?_
        refine w_seq ?_
        refine w_reg ?_
        cases hf3 : decide (op = 13) with
        | true =>
          have hf3p := of_decide_eq_true hf3
          refine wl_bin (fun x y => do eqGuard .eql 3 (.tmp 5) (.const (.int .i64 (13))) x y; binOp .eql 3 x y) (.tmp 5) (.const (.int .i64 (13))) (.int .i64 (op)) (.int .i64 (13)) (.bool true) (fun _ => rfl) rfl rfl (eq3 hf3 _ _ _) rfl ?_
          refine wl_mv (.tmp 13) (.bool true) (fun _ => rfl) rfl rfl ?_
          refine w_nil ?_
          refine xn_then ?_
          refine w_condT rfl ?_
          refine w_seq ?_
          refine w_reg ?_
          refine wl_mv (.const (.int .i64 (1))) (.int .i64 (1)) (fun _ => rfl) rfl rfl ?_
          refine w_nil ?_
          refine xn_then ?_
          refine w_ret ?_
          refine xr_blk ?_
          refine xr_then ?_
          exact w_ret1 _ (.int .i64 (1)) rfl rfl ⟨by unfold colK; simp_all, M⟩
        | false =>
          have hf3p := of_decide_eq_false hf3
          refine wl_bin (fun x y => do eqGuard .eql 3 (.tmp 5) (.const (.int .i64 (13))) x y; binOp .eql 3 x y) (.tmp 5) (.const (.int .i64 (13))) (.int .i64 (op)) (.int .i64 (13)) (.bool false) (fun _ => rfl) rfl rfl (eq3 hf3 _ _ _) rfl ?_
          refine wl_mv (.tmp 13) (.bool false) (fun _ => rfl) rfl rfl ?_
          refine w_nil ?_
          refine xn_then ?_
          refine w_condF rfl ?_
          refine w_skip ?_
          refine xn_blk ?_
          refine xn_then ?_
          refine w_seq ?_
          refine w_reg ?_
          refine wl_mv (.const (.int .i64 (0))) (.int .i64 (0)) (fun _ => rfl) rfl rfl ?_
          refine w_nil ?_
          refine xn_then ?_
          refine w_ret ?_
          exact w_ret1 _ (.int .i64 (0)) rfl rfl ⟨by unfold colK; simp_all, M⟩
theorem oneK_n (n a : Int) (w : World) : Calls Tryz.prog 125 #[.int .i64 (n), .int .i64 (a)] w fun e9 w' => e9 = .returned (.int .i64 (oneK n a)) ∧ Mo w w' := by
  refine w_enter 18 Tryz.func125 Tryz.ntmps125 rfl rfl ?_
  have M : Mo w w := Mo.refl _
  refine w_seq ?_
  refine w_reg ?_
  refine wl_mv (.const (.int .i64 (0))) (.int .i64 (0)) (fun _ => rfl) rfl rfl ?_
  refine w_nil ?_
  refine xn_then ?_
  refine w_seq ?_
  refine w_seq ?_
  refine w_reg ?_
  refine wl_mv (.tmp 0) (.int .i64 (n)) (fun _ => rfl) rfl rfl ?_
  refine w_nil ?_
  refine xn_then ?_
  refine w_block ?_
  refine w_seq ?_
  refine w_seq ?_
  refine w_reg ?_
  cases hf0 : decide (n = 3) with
  | true =>
    have hf0p := of_decide_eq_true hf0
    refine wl_bin (fun x y => do eqGuard .eql 3 (.tmp 5) (.const (.int .i64 (3))) x y; binOp .eql 3 x y) (.tmp 5) (.const (.int .i64 (3))) (.int .i64 (n)) (.int .i64 (3)) (.bool true) (fun _ => rfl) rfl rfl (eq3 hf0 _ _ _) rfl ?_
    refine wl_mv (.tmp 7) (.bool true) (fun _ => rfl) rfl rfl ?_
    refine w_nil ?_
    refine xn_then ?_
    refine w_condT rfl ?_
    refine w_skip ?_
    refine xn_then ?_
    refine w_condT rfl ?_
    refine w_seq ?_
    refine w_reg ?_
    refine wl_mv (.tmp 1) (.int .i64 (a)) (fun _ => rfl) rfl rfl ?_
    cases hf1 : decide (a = 1) with
    | true =>
      have hf1p := of_decide_eq_true hf1
      refine wl_bin (fun x y => do eqGuard .eql 3 (.tmp 10) (.const (.int .i64 (1))) x y; binOp .eql 3 x y) (.tmp 10) (.const (.int .i64 (1))) (.int .i64 (a)) (.int .i64 (1)) (.bool true) (fun _ => rfl) rfl rfl (eq3 hf1 _ _ _) rfl ?_
      refine w_nil ?_
      refine xn_then ?_
      refine w_condT rfl ?_
      refine w_seq ?_
      refine w_reg ?_
      refine wl_mv (.const (.int .i64 (1))) (.int .i64 (1)) (fun _ => rfl) rfl rfl ?_
      refine w_nil ?_
      refine xn_then ?_
      refine w_ret ?_
      refine xr_blk ?_
      refine xr_then ?_
      exact w_ret1 _ (.int .i64 (1)) rfl rfl ⟨by unfold oneK; simp_all, M⟩
    | false =>
      have hf1p := of_decide_eq_false hf1
      refine wl_bin (fun x y => do eqGuard .eql 3 (.tmp 10) (.const (.int .i64 (1))) x y; binOp .eql 3 x y) (.tmp 10) (.const (.int .i64 (1))) (.int .i64 (a)) (.int .i64 (1)) (.bool false) (fun _ => rfl) rfl rfl (eq3 hf1 _ _ _) rfl ?_
      refine w_nil ?_
      refine xn_then ?_
      refine w_condF rfl ?_
      refine w_skip ?_
      refine xn_blk ?_
      refine xn_then ?_
      refine w_seq ?_
      refine w_reg ?_
      refine wl_mv (.const (.int .i64 (0))) (.int .i64 (0)) (fun _ => rfl) rfl rfl ?_
      refine w_nil ?_
      refine xn_then ?_
      refine w_ret ?_
      exact w_ret1 _ (.int .i64 (0)) rfl rfl ⟨by unfold oneK; simp_all, M⟩
  | false =>
    have hf0p := of_decide_eq_false hf0
    refine wl_bin (fun x y => do eqGuard .eql 3 (.tmp 5) (.const (.int .i64 (3))) x y; binOp .eql 3 x y) (.tmp 5) (.const (.int .i64 (3))) (.int .i64 (n)) (.int .i64 (3)) (.bool false) (fun _ => rfl) rfl rfl (eq3 hf0 _ _ _) rfl ?_
    refine wl_mv (.tmp 7) (.bool false) (fun _ => rfl) rfl rfl ?_
    refine w_nil ?_
    refine xn_then ?_
    refine w_condF rfl ?_
    refine w_seq ?_
    refine w_reg ?_
    cases hf1 : decide (n = 7) with
    | true =>
      have hf1p := of_decide_eq_true hf1
      refine wl_bin (fun x y => do eqGuard .eql 3 (.tmp 5) (.const (.int .i64 (7))) x y; binOp .eql 3 x y) (.tmp 5) (.const (.int .i64 (7))) (.int .i64 (n)) (.int .i64 (7)) (.bool true) (fun _ => rfl) rfl rfl (eq3 hf1 _ _ _) rfl ?_
      refine wl_mv (.tmp 8) (.bool true) (fun _ => rfl) rfl rfl ?_
      refine w_nil ?_
      refine xn_then ?_
      refine w_condT rfl ?_
      refine w_skip ?_
      refine xn_then ?_
      refine w_condT rfl ?_
      refine w_seq ?_
      refine w_reg ?_
      refine wl_mv (.tmp 1) (.int .i64 (a)) (fun _ => rfl) rfl rfl ?_
      cases hf2 : decide (a = 1) with
      | true =>
        have hf2p := of_decide_eq_true hf2
        refine wl_bin (fun x y => do eqGuard .eql 3 (.tmp 10) (.const (.int .i64 (1))) x y; binOp .eql 3 x y) (.tmp 10) (.const (.int .i64 (1))) (.int .i64 (a)) (.int .i64 (1)) (.bool true) (fun _ => rfl) rfl rfl (eq3 hf2 _ _ _) rfl ?_
        refine w_nil ?_
        refine xn_then ?_
        refine w_condT rfl ?_
        refine w_seq ?_
        refine w_reg ?_
        refine wl_mv (.const (.int .i64 (1))) (.int .i64 (1)) (fun _ => rfl) rfl rfl ?_
        refine w_nil ?_
        refine xn_then ?_
        refine w_ret ?_
        refine xr_blk ?_
        refine xr_then ?_
        exact w_ret1 _ (.int .i64 (1)) rfl rfl ⟨by unfold oneK; simp_all, M⟩
      | false =>
        have hf2p := of_decide_eq_false hf2
        refine wl_bin (fun x y => do eqGuard .eql 3 (.tmp 10) (.const (.int .i64 (1))) x y; binOp .eql 3 x y) (.tmp 10) (.const (.int .i64 (1))) (.int .i64 (a)) (.int .i64 (1)) (.bool false) (fun _ => rfl) rfl rfl (eq3 hf2 _ _ _) rfl ?_
        refine w_nil ?_
        refine xn_then ?_
        refine w_condF rfl ?_
        refine w_skip ?_
        refine xn_blk ?_
        refine xn_then ?_
        refine w_seq ?_
        refine w_reg ?_
        refine wl_mv (.const (.int .i64 (0))) (.int .i64 (0)) (fun _ => rfl) rfl rfl ?_
        refine w_nil ?_
        refine xn_then ?_
        refine w_ret ?_
        exact w_ret1 _ (.int .i64 (0)) rfl rfl ⟨by unfold oneK; simp_all, M⟩
    | false =>
      have hf1p := of_decide_eq_false hf1
      refine wl_bin (fun x y => do eqGuard .eql 3 (.tmp 5) (.const (.int .i64 (7))) x y; binOp .eql 3 x y) (.tmp 5) (.const (.int .i64 (7))) (.int .i64 (n)) (.int .i64 (7)) (.bool false) (fun _ => rfl) rfl rfl (eq3 hf1 _ _ _) rfl ?_
      refine wl_mv (.tmp 8) (.bool false) (fun _ => rfl) rfl rfl ?_
      refine w_nil ?_
      refine xn_then ?_
      refine w_condF rfl ?_
      refine w_reg ?_
      cases hf2 : decide (n = 8) with
      | true =>
        have hf2p := of_decide_eq_true hf2
        refine wl_bin (fun x y => do eqGuard .eql 3 (.tmp 5) (.const (.int .i64 (8))) x y; binOp .eql 3 x y) (.tmp 5) (.const (.int .i64 (8))) (.int .i64 (n)) (.int .i64 (8)) (.bool true) (fun _ => rfl) rfl rfl (eq3 hf2 _ _ _) rfl ?_
        refine wl_mv (.tmp 9) (.bool true) (fun _ => rfl) rfl rfl ?_
        refine w_nil ?_
        refine xn_then ?_
        refine w_condT rfl ?_
        refine w_seq ?_
        refine w_reg ?_
        refine wl_mv (.tmp 1) (.int .i64 (a)) (fun _ => rfl) rfl rfl ?_
        cases hf3 : decide (a = 1) with
        | true =>
          have hf3p := of_decide_eq_true hf3
          refine wl_bin (fun x y => do eqGuard .eql 3 (.tmp 10) (.const (.int .i64 (1))) x y; binOp .eql 3 x y) (.tmp 10) (.const (.int .i64 (1))) (.int .i64 (a)) (.int .i64 (1)) (.bool true) (fun _ => rfl) rfl rfl (eq3 hf3 _ _ _) rfl ?_
          refine w_nil ?_
          refine xn_then ?_
          refine w_condT rfl ?_
          refine w_seq ?_
          refine w_reg ?_
          refine wl_mv (.const (.int .i64 (1))) (.int .i64 (1)) (fun _ => rfl) rfl rfl ?_
          refine w_nil ?_
          refine xn_then ?_
          refine w_ret ?_
          refine xr_blk ?_
          refine xr_then ?_
          exact w_ret1 _ (.int .i64 (1)) rfl rfl ⟨by unfold oneK; simp_all, M⟩
        | false =>
          have hf3p := of_decide_eq_false hf3
          refine wl_bin (fun x y => do eqGuard .eql 3 (.tmp 10) (.const (.int .i64 (1))) x y; binOp .eql 3 x y) (.tmp 10) (.const (.int .i64 (1))) (.int .i64 (a)) (.int .i64 (1)) (.bool false) (fun _ => rfl) rfl rfl (eq3 hf3 _ _ _) rfl ?_
          refine w_nil ?_
          refine xn_then ?_
          refine w_condF rfl ?_
          refine w_skip ?_
          refine xn_blk ?_
          refine xn_then ?_
          refine w_seq ?_
          refine w_reg ?_
          refine wl_mv (.const (.int .i64 (0))) (.int .i64 (0)) (fun _ => rfl) rfl rfl ?_
          refine w_nil ?_
          refine xn_then ?_
          refine w_ret ?_
          exact w_ret1 _ (.int .i64 (0)) rfl rfl ⟨by unfold oneK; simp_all, M⟩
      | false =>
        have hf2p := of_decide_eq_false hf2
        refine wl_bin (fun x y => do eqGuard .eql 3 (.tmp 5) (.const (.int .i64 (8))) x y; binOp .eql 3 x y) (.tmp 5) (.const (.int .i64 (8))) (.int .i64 (n)) (.int .i64 (8)) (.bool false) (fun _ => rfl) rfl rfl (eq3 hf2 _ _ _) rfl ?_
        refine wl_mv (.tmp 9) (.bool false) (fun _ => rfl) rfl rfl ?_
        refine w_nil ?_
        refine xn_then ?_
        refine w_condF rfl ?_
        refine w_seq ?_
        refine w_reg ?_
        cases hf3 : decide (n = 4) with
        | true =>
          have hf3p := of_decide_eq_true hf3
          refine wl_bin (fun x y => do eqGuard .eql 3 (.tmp 5) (.const (.int .i64 (4))) x y; binOp .eql 3 x y) (.tmp 5) (.const (.int .i64 (4))) (.int .i64 (n)) (.int .i64 (4)) (.bool true) (fun _ => rfl) rfl rfl (eq3 hf3 _ _ _) rfl ?_
          refine wl_mv (.tmp 13) (.bool true) (fun _ => rfl) rfl rfl ?_
          refine w_nil ?_
          refine xn_then ?_
          refine w_condT rfl ?_
          refine w_seq ?_
          refine w_reg ?_
          refine wl_mv (.tmp 1) (.int .i64 (a)) (fun _ => rfl) rfl rfl ?_
          cases hf4 : decide (a = 2) with
          | true =>
            have hf4p := of_decide_eq_true hf4
            refine wl_bin (fun x y => do eqGuard .eql 3 (.tmp 14) (.const (.int .i64 (2))) x y; binOp .eql 3 x y) (.tmp 14) (.const (.int .i64 (2))) (.int .i64 (a)) (.int .i64 (2)) (.bool true) (fun _ => rfl) rfl rfl (eq3 hf4 _ _ _) rfl ?_
            refine w_nil ?_
            refine xn_then ?_
            refine w_condT rfl ?_
            refine w_seq ?_
            refine w_reg ?_
            refine wl_mv (.const (.int .i64 (2))) (.int .i64 (2)) (fun _ => rfl) rfl rfl ?_
            refine w_nil ?_
            refine xn_then ?_
            refine w_ret ?_
            refine xr_blk ?_
            refine xr_then ?_
            exact w_ret1 _ (.int .i64 (2)) rfl rfl ⟨by unfold oneK; simp_all, M⟩
          | false =>
            have hf4p := of_decide_eq_false hf4
            refine wl_bin (fun x y => do eqGuard .eql 3 (.tmp 14) (.const (.int .i64 (2))) x y; binOp .eql 3 x y) (.tmp 14) (.const (.int .i64 (2))) (.int .i64 (a)) (.int .i64 (2)) (.bool false) (fun _ => rfl) rfl rfl (eq3 hf4 _ _ _) rfl ?_
            refine w_nil ?_
            refine xn_then ?_
            refine w_condF rfl ?_
            refine w_skip ?_
            refine xn_blk ?_
            refine xn_then ?_
            refine w_seq ?_
            refine w_reg ?_
            refine wl_mv (.const (.int .i64 (0))) (.int .i64 (0)) (fun _ => rfl) rfl rfl ?_
            refine w_nil ?_
            refine xn_then ?_
            refine w_ret ?_
            exact w_ret1 _ (.int .i64 (0)) rfl rfl ⟨by unfold oneK; simp_all, M⟩
        | false =>
          have hf3p := of_decide_eq_false hf3
          refine wl_bin (fun x y => do eqGuard .eql 3 (.tmp 5) (.const (.int .i64 (4))) x y; binOp .eql 3 x y) (.tmp 5) (.const (.int .i64 (4))) (.int .i64 (n)) (.int .i64 (4)) (.bool false) (fun _ => rfl) rfl rfl (eq3 hf3 _ _ _) rfl ?_
          refine wl_mv (.tmp 13) (.bool false) (fun _ => rfl) rfl rfl ?_
          refine w_nil ?_
          refine xn_then ?_
          refine w_condF rfl ?_
          refine w_seq ?_
          refine w_reg ?_
          cases hf4 : decide (n = 9) with
          | true =>
            have hf4p := of_decide_eq_true hf4
            refine wl_bin (fun x y => do eqGuard .eql 3 (.tmp 5) (.const (.int .i64 (9))) x y; binOp .eql 3 x y) (.tmp 5) (.const (.int .i64 (9))) (.int .i64 (n)) (.int .i64 (9)) (.bool true) (fun _ => rfl) rfl rfl (eq3 hf4 _ _ _) rfl ?_
            refine wl_mv (.tmp 17) (.bool true) (fun _ => rfl) rfl rfl ?_
            refine w_nil ?_
            refine xn_then ?_
            refine w_condT rfl ?_
            refine w_seq ?_
            refine w_reg ?_
            refine wl_mv (.const (.int .i64 (2))) (.int .i64 (2)) (fun _ => rfl) rfl rfl ?_
            refine w_nil ?_
            refine xn_then ?_
            refine w_ret ?_
            refine xr_blk ?_
            refine xr_then ?_
            exact w_ret1 _ (.int .i64 (2)) rfl rfl ⟨by unfold oneK; simp_all, M⟩
          | false =>
            have hf4p := of_decide_eq_false hf4
            refine wl_bin (fun x y => do eqGuard .eql 3 (.tmp 5) (.const (.int .i64 (9))) x y; binOp .eql 3 x y) (.tmp 5) (.const (.int .i64 (9))) (.int .i64 (n)) (.int .i64 (9)) (.bool false) (fun _ => rfl) rfl rfl (eq3 hf4 _ _ _) rfl ?_
            refine wl_mv (.tmp 17) (.bool false) (fun _ => rfl) rfl rfl ?_
            refine w_nil ?_
            refine xn_then ?_
            refine w_condF rfl ?_
            refine w_skip ?_
            refine xn_blk ?_
            refine xn_then ?_
            refine w_seq ?_
            refine w_reg ?_
            refine wl_mv (.const (.int .i64 (0))) (.int .i64 (0)) (fun _ => rfl) rfl rfl ?_
            refine w_nil ?_
            refine xn_then ?_
            refine w_ret ?_
            exact w_ret1 _ (.int .i64 (0)) rfl rfl ⟨by unfold oneK; simp_all, M⟩
theorem twoK_n (op a b : Int) (w : World) : Calls Tryz.prog 126 #[.int .i64 (op), .int .i64 (a), .int .i64 (b)] w fun e9 w' => e9 = .returned (.int .i64 (twoK op a b)) ∧ Mo w w' := by
  refine w_enter 32 Tryz.func126 Tryz.ntmps126 rfl rfl ?_
  have M : Mo w w := Mo.refl _
  refine w_seq ?_
  refine w_reg ?_
  refine wl_mv (.const (.int .i64 (0))) (.int .i64 (0)) (fun _ => rfl) rfl rfl ?_
  refine w_nil ?_
  refine xn_then ?_
  refine w_seq ?_
  refine w_seq ?_
  refine w_reg ?_
  refine wl_mv (.tmp 1) (.int .i64 (a)) (fun _ => rfl) rfl rfl ?_
  refine wl_mv (.tmp 2) (.int .i64 (b)) (fun _ => rfl) rfl rfl ?_
  cases hf0 : decide (a = b) with
  | true =>
    have hf0p := of_decide_eq_true hf0
    refine wl_bin (fun x y => do eqGuard .neq 3 (.tmp 7) (.tmp 8) x y; binOp .neq 3 x y) (.tmp 7) (.tmp 8) (.int .i64 (a)) (.int .i64 (b)) (.bool false) (fun _ => rfl) rfl rfl (ne3 hf0 _ _ _) rfl ?_
    refine w_nil ?_
    refine xn_then ?_
    refine w_condF rfl ?_
    refine w_skip ?_
    refine xn_then ?_
    refine w_seq ?_
    refine w_seq ?_
    refine w_reg ?_
    refine wl_mv (.tmp 0) (.int .i64 (op)) (fun _ => rfl) rfl rfl ?_
    refine w_nil ?_
    refine xn_then ?_
    refine w_block ?_
    refine w_seq ?_
    refine w_seq ?_
    refine w_reg ?_
    cases hf1 : decide (op = 1) with
    | true =>
      have hf1p := of_decide_eq_true hf1
      refine wl_bin (fun x y => do eqGuard .eql 3 (.tmp 10) (.const (.int .i64 (1))) x y; binOp .eql 3 x y) (.tmp 10) (.const (.int .i64 (1))) (.int .i64 (op)) (.int .i64 (1)) (.bool true) (fun _ => rfl) rfl rfl (eq3 hf1 _ _ _) rfl ?_
      refine wl_mv (.tmp 12) (.bool true) (fun _ => rfl) rfl rfl ?_
      refine w_nil ?_
      refine xn_then ?_
      refine w_condT rfl ?_
      refine w_skip ?_
      refine xn_then ?_
      refine w_condT rfl ?_
      refine w_seq ?_
      refine w_reg ?_
      refine wl_mv (.tmp 1) (.int .i64 (a)) (fun _ => rfl) rfl rfl ?_
      cases hf2 : decide (a = 1) with
      | true =>
        have hf2p := of_decide_eq_true hf2
        refine wl_bin (fun x y => do eqGuard .eql 3 (.tmp 15) (.const (.int .i64 (1))) x y; binOp .eql 3 x y) (.tmp 15) (.const (.int .i64 (1))) (.int .i64 (a)) (.int .i64 (1)) (.bool true) (fun _ => rfl) rfl rfl (eq3 hf2 _ _ _) rfl ?_
        refine w_nil ?_
        refine xn_then ?_
        refine w_condT rfl ?_
        refine w_seq ?_
        refine w_reg ?_
        refine wl_mv (.const (.int .i64 (1))) (.int .i64 (1)) (fun _ => rfl) rfl rfl ?_
        refine w_nil ?_
        refine xn_then ?_
        refine w_ret ?_
        refine xr_blk ?_
        refine xr_then ?_
        exact w_ret1 _ (.int .i64 (1)) rfl rfl ⟨by unfold twoK; simp_all, M⟩
      | false =>
        have hf2p := of_decide_eq_false hf2
        refine wl_bin (fun x y => do eqGuard .eql 3 (.tmp 15) (.const (.int .i64 (1))) x y; binOp .eql 3 x y) (.tmp 15) (.const (.int .i64 (1))) (.int .i64 (a)) (.int .i64 (1)) (.bool false) (fun _ => rfl) rfl rfl (eq3 hf2 _ _ _) rfl ?_
        refine w_nil ?_
        refine xn_then ?_
        refine w_condF rfl ?_
        refine w_skip ?_
        refine xn_blk ?_
        refine xn_then ?_
        refine w_seq ?_
        refine w_reg ?_
        refine wl_mv (.const (.int .i64 (0))) (.int .i64 (0)) (fun _ => rfl) rfl rfl ?_
        refine w_nil ?_
        refine xn_then ?_
        refine w_ret ?_
        exact w_ret1 _ (.int .i64 (0)) rfl rfl ⟨by unfold twoK; simp_all, M⟩
    | false =>
      have hf1p := of_decide_eq_false hf1
      refine wl_bin (fun x y => do eqGuard .eql 3 (.tmp 10) (.const (.int .i64 (1))) x y; binOp .eql 3 x y) (.tmp 10) (.const (.int .i64 (1))) (.int .i64 (op)) (.int .i64 (1)) (.bool false) (fun _ => rfl) rfl rfl (eq3 hf1 _ _ _) rfl ?_
      refine wl_mv (.tmp 12) (.bool false) (fun _ => rfl) rfl rfl ?_
      refine w_nil ?_
      refine xn_then ?_
      refine w_condF rfl ?_
      refine w_seq ?_
      refine w_reg ?_
      cases hf2 : decide (op = 2) with
      | true =>
        have hf2p := of_decide_eq_true hf2
        refine wl_bin (fun x y => do eqGuard .eql 3 (.tmp 10) (.const (.int .i64 (2))) x y; binOp .eql 3 x y) (.tmp 10) (.const (.int .i64 (2))) (.int .i64 (op)) (.int .i64 (2)) (.bool true) (fun _ => rfl) rfl rfl (eq3 hf2 _ _ _) rfl ?_
        refine wl_mv (.tmp 13) (.bool true) (fun _ => rfl) rfl rfl ?_
        refine w_nil ?_
        refine xn_then ?_
        refine w_condT rfl ?_
        refine w_skip ?_
        refine xn_then ?_
        refine w_condT rfl ?_
        refine w_seq ?_
        refine w_reg ?_
        refine wl_mv (.tmp 1) (.int .i64 (a)) (fun _ => rfl) rfl rfl ?_
        cases hf3 : decide (a = 1) with
        | true =>
          have hf3p := of_decide_eq_true hf3
          refine wl_bin (fun x y => do eqGuard .eql 3 (.tmp 15) (.const (.int .i64 (1))) x y; binOp .eql 3 x y) (.tmp 15) (.const (.int .i64 (1))) (.int .i64 (a)) (.int .i64 (1)) (.bool true) (fun _ => rfl) rfl rfl (eq3 hf3 _ _ _) rfl ?_
          refine w_nil ?_
          refine xn_then ?_
          refine w_condT rfl ?_
          refine w_seq ?_
          refine w_reg ?_
          refine wl_mv (.const (.int .i64 (1))) (.int .i64 (1)) (fun _ => rfl) rfl rfl ?_
          refine w_nil ?_
          refine xn_then ?_
          refine w_ret ?_
          refine xr_blk ?_
          refine xr_then ?_
          exact w_ret1 _ (.int .i64 (1)) rfl rfl ⟨by unfold twoK; simp_all, M⟩
        | false =>
          have hf3p := of_decide_eq_false hf3
          refine wl_bin (fun x y => do eqGuard .eql 3 (.tmp 15) (.const (.int .i64 (1))) x y; binOp .eql 3 x y) (.tmp 15) (.const (.int .i64 (1))) (.int .i64 (a)) (.int .i64 (1)) (.bool false) (fun _ => rfl) rfl rfl (eq3 hf3 _ _ _) rfl ?_
          refine w_nil ?_
          refine xn_then ?_
          refine w_condF rfl ?_
          refine w_skip ?_
          refine xn_blk ?_
          refine xn_then ?_
          refine w_seq ?_
          refine w_reg ?_
          refine wl_mv (.const (.int .i64 (0))) (.int .i64 (0)) (fun _ => rfl) rfl rfl ?_
          refine w_nil ?_
          refine xn_then ?_
          refine w_ret ?_
          exact w_ret1 _ (.int .i64 (0)) rfl rfl ⟨by unfold twoK; simp_all, M⟩
      | false =>
        have hf2p := of_decide_eq_false hf2
        refine wl_bin (fun x y => do eqGuard .eql 3 (.tmp 10) (.const (.int .i64 (2))) x y; binOp .eql 3 x y) (.tmp 10) (.const (.int .i64 (2))) (.int .i64 (op)) (.int .i64 (2)) (.bool false) (fun _ => rfl) rfl rfl (eq3 hf2 _ _ _) rfl ?_
        refine wl_mv (.tmp 13) (.bool false) (fun _ => rfl) rfl rfl ?_
        refine w_nil ?_
        refine xn_then ?_
        refine w_condF rfl ?_
        refine w_reg ?_
        cases hf3 : decide (op = 3) with
        | true =>
          have hf3p := of_decide_eq_true hf3
          refine wl_bin (fun x y => do eqGuard .eql 3 (.tmp 10) (.const (.int .i64 (3))) x y; binOp .eql 3 x y) (.tmp 10) (.const (.int .i64 (3))) (.int .i64 (op)) (.int .i64 (3)) (.bool true) (fun _ => rfl) rfl rfl (eq3 hf3 _ _ _) rfl ?_
          refine wl_mv (.tmp 14) (.bool true) (fun _ => rfl) rfl rfl ?_
          refine w_nil ?_
          refine xn_then ?_
          refine w_condT rfl ?_
          refine w_seq ?_
          refine w_reg ?_
          refine wl_mv (.tmp 1) (.int .i64 (a)) (fun _ => rfl) rfl rfl ?_
          cases hf4 : decide (a = 1) with
          | true =>
            have hf4p := of_decide_eq_true hf4
            refine wl_bin (fun x y => do eqGuard .eql 3 (.tmp 15) (.const (.int .i64 (1))) x y; binOp .eql 3 x y) (.tmp 15) (.const (.int .i64 (1))) (.int .i64 (a)) (.int .i64 (1)) (.bool true) (fun _ => rfl) rfl rfl (eq3 hf4 _ _ _) rfl ?_
            refine w_nil ?_
            refine xn_then ?_
            refine w_condT rfl ?_
            refine w_seq ?_
            refine w_reg ?_
            refine wl_mv (.const (.int .i64 (1))) (.int .i64 (1)) (fun _ => rfl) rfl rfl ?_
            refine w_nil ?_
            refine xn_then ?_
            refine w_ret ?_
            refine xr_blk ?_
            refine xr_then ?_
            exact w_ret1 _ (.int .i64 (1)) rfl rfl ⟨by unfold twoK; simp_all, M⟩
          | false =>
            have hf4p := of_decide_eq_false hf4
            refine wl_bin (fun x y => do eqGuard .eql 3 (.tmp 15) (.const (.int .i64 (1))) x y; binOp .eql 3 x y) (.tmp 15) (.const (.int .i64 (1))) (.int .i64 (a)) (.int .i64 (1)) (.bool false) (fun _ => rfl) rfl rfl (eq3 hf4 _ _ _) rfl ?_
            refine w_nil ?_
            refine xn_then ?_
            refine w_condF rfl ?_
            refine w_skip ?_
            refine xn_blk ?_
            refine xn_then ?_
            refine w_seq ?_
            refine w_reg ?_
            refine wl_mv (.const (.int .i64 (0))) (.int .i64 (0)) (fun _ => rfl) rfl rfl ?_
            refine w_nil ?_
            refine xn_then ?_
            refine w_ret ?_
            exact w_ret1 _ (.int .i64 (0)) rfl rfl ⟨by unfold twoK; simp_all, M⟩
        | false =>
          have hf3p := of_decide_eq_false hf3
          refine wl_bin (fun x y => do eqGuard .eql 3 (.tmp 10) (.const (.int .i64 (3))) x y; binOp .eql 3 x y) (.tmp 10) (.const (.int .i64 (3))) (.int .i64 (op)) (.int .i64 (3)) (.bool false) (fun _ => rfl) rfl rfl (eq3 hf3 _ _ _) rfl ?_
          refine wl_mv (.tmp 14) (.bool false) (fun _ => rfl) rfl rfl ?_
          refine w_nil ?_
          refine xn_then ?_
          refine w_condF rfl ?_
          refine w_seq ?_
          refine w_seq ?_
          refine w_reg ?_
          cases hf4 : decide (op = 4) with
          | true =>
            have hf4p := of_decide_eq_true hf4
            refine wl_bin (fun x y => do eqGuard .eql 3 (.tmp 10) (.const (.int .i64 (4))) x y; binOp .eql 3 x y) (.tmp 10) (.const (.int .i64 (4))) (.int .i64 (op)) (.int .i64 (4)) (.bool true) (fun _ => rfl) rfl rfl (eq3 hf4 _ _ _) rfl ?_
            refine wl_mv (.tmp 18) (.bool true) (fun _ => rfl) rfl rfl ?_
            refine w_nil ?_
            refine xn_then ?_
            refine w_condT rfl ?_
            refine w_skip ?_
            refine xn_then ?_
            refine w_condT rfl ?_
            refine w_seq ?_
            refine w_reg ?_
            refine wl_mv (.const (.int .i64 (2))) (.int .i64 (2)) (fun _ => rfl) rfl rfl ?_
            refine w_nil ?_
            refine xn_then ?_
            refine w_ret ?_
            refine xr_blk ?_
            refine xr_then ?_
            exact w_ret1 _ (.int .i64 (2)) rfl rfl ⟨by unfold twoK; simp_all, M⟩
          | false =>
            have hf4p := of_decide_eq_false hf4
            refine wl_bin (fun x y => do eqGuard .eql 3 (.tmp 10) (.const (.int .i64 (4))) x y; binOp .eql 3 x y) (.tmp 10) (.const (.int .i64 (4))) (.int .i64 (op)) (.int .i64 (4)) (.bool false) (fun _ => rfl) rfl rfl (eq3 hf4 _ _ _) rfl ?_
            refine wl_mv (.tmp 18) (.bool false) (fun _ => rfl) rfl rfl ?_
            refine w_nil ?_
            refine xn_then ?_
            refine w_condF rfl ?_
            refine w_reg ?_
            cases hf5 : decide (op = 5) with
            | true =>
              have hf5p := of_decide_eq_true hf5
              refine wl_bin (fun x y => do eqGuard .eql 3 (.tmp 10) (.const (.int .i64 (5))) x y; binOp .eql 3 x y) (.tmp 10) (.const (.int .i64 (5))) (.int .i64 (op)) (.int .i64 (5)) (.bool true) (fun _ => rfl) rfl rfl (eq3 hf5 _ _ _) rfl ?_
              refine wl_mv (.tmp 19) (.bool true) (fun _ => rfl) rfl rfl ?_
              refine w_nil ?_
              refine xn_then ?_
              refine w_condT rfl ?_
              refine w_seq ?_
              refine w_reg ?_
              refine wl_mv (.const (.int .i64 (2))) (.int .i64 (2)) (fun _ => rfl) rfl rfl ?_
              refine w_nil ?_
              refine xn_then ?_
              refine w_ret ?_
              refine xr_blk ?_
              refine xr_then ?_
              exact w_ret1 _ (.int .i64 (2)) rfl rfl ⟨by unfold twoK; simp_all, M⟩
            | false =>
              have hf5p := of_decide_eq_false hf5
              refine wl_bin (fun x y => do eqGuard .eql 3 (.tmp 10) (.const (.int .i64 (5))) x y; binOp .eql 3 x y) (.tmp 10) (.const (.int .i64 (5))) (.int .i64 (op)) (.int .i64 (5)) (.bool false) (fun _ => rfl) rfl rfl (eq3 hf5 _ _ _) rfl ?_
              refine wl_mv (.tmp 19) (.bool false) (fun _ => rfl) rfl rfl ?_
              refine w_nil ?_
              refine xn_then ?_
              refine w_condF rfl ?_
              refine w_seq ?_
              refine w_seq ?_
              refine w_reg ?_
              cases hf6 : decide (op = 6) with
              | true =>
                have hf6p := of_decide_eq_true hf6
                refine wl_bin (fun x y => do eqGuard .eql 3 (.tmp 10) (.const (.int .i64 (6))) x y; binOp .eql 3 x y) (.tmp 10) (.const (.int .i64 (6))) (.int .i64 (op)) (.int .i64 (6)) (.bool true) (fun _ => rfl) rfl rfl (eq3 hf6 _ _ _) rfl ?_
                refine wl_mv (.tmp 21) (.bool true) (fun _ => rfl) rfl rfl ?_
                refine w_nil ?_
                refine xn_then ?_
                refine w_condT rfl ?_
                refine w_skip ?_
                refine xn_then ?_
                refine w_condT rfl ?_
                refine w_seq ?_
                refine w_reg ?_
                refine wl_mv (.tmp 1) (.int .i64 (a)) (fun _ => rfl) rfl rfl ?_
                cases hf7 : decide (a = 1) with
                | true =>
                  have hf7p := of_decide_eq_true hf7
                  refine wl_bin (fun x y => do eqGuard .eql 3 (.tmp 25) (.const (.int .i64 (1))) x y; binOp .eql 3 x y) (.tmp 25) (.const (.int .i64 (1))) (.int .i64 (a)) (.int .i64 (1)) (.bool true) (fun _ => rfl) rfl rfl (eq3 hf7 _ _ _) rfl ?_
                  refine w_nil ?_
                  refine xn_then ?_
                  refine w_condT rfl ?_
                  refine w_seq ?_
                  refine w_reg ?_
                  refine wl_mv (.const (.int .i64 (2))) (.int .i64 (2)) (fun _ => rfl) rfl rfl ?_
                  refine w_nil ?_
                  refine xn_then ?_
                  refine w_ret ?_
                  refine xr_blk ?_
                  refine xr_then ?_
                  exact w_ret1 _ (.int .i64 (2)) rfl rfl ⟨by unfold twoK; simp_all, M⟩
                | false =>
                  have hf7p := of_decide_eq_false hf7
                  refine wl_bin (fun x y => do eqGuard .eql 3 (.tmp 25) (.const (.int .i64 (1))) x y; binOp .eql 3 x y) (.tmp 25) (.const (.int .i64 (1))) (.int .i64 (a)) (.int .i64 (1)) (.bool false) (fun _ => rfl) rfl rfl (eq3 hf7 _ _ _) rfl ?_
                  refine w_nil ?_
                  refine xn_then ?_
                  refine w_condF rfl ?_
                  refine w_skip ?_
                  refine xn_blk ?_
                  refine xn_then ?_
                  refine w_seq ?_
                  refine w_reg ?_
                  refine wl_mv (.const (.int .i64 (0))) (.int .i64 (0)) (fun _ => rfl) rfl rfl ?_
                  refine w_nil ?_
                  refine xn_then ?_
                  refine w_ret ?_
                  exact w_ret1 _ (.int .i64 (0)) rfl rfl ⟨by unfold twoK; simp_all, M⟩
              | false =>
                have hf6p := of_decide_eq_false hf6
                refine wl_bin (fun x y => do eqGuard .eql 3 (.tmp 10) (.const (.int .i64 (6))) x y; binOp .eql 3 x y) (.tmp 10) (.const (.int .i64 (6))) (.int .i64 (op)) (.int .i64 (6)) (.bool false) (fun _ => rfl) rfl rfl (eq3 hf6 _ _ _) rfl ?_
                refine wl_mv (.tmp 21) (.bool false) (fun _ => rfl) rfl rfl ?_
                refine w_nil ?_
                refine xn_then ?_
                refine w_condF rfl ?_
                refine w_seq ?_
                refine w_reg ?_
                cases hf7 : decide (op = 7) with
                | true =>
                  have hf7p := of_decide_eq_true hf7
                  refine wl_bin (fun x y => do eqGuard .eql 3 (.tmp 10) (.const (.int .i64 (7))) x y; binOp .eql 3 x y) (.tmp 10) (.const (.int .i64 (7))) (.int .i64 (op)) (.int .i64 (7)) (.bool true) (fun _ => rfl) rfl rfl (eq3 hf7 _ _ _) rfl ?_
                  refine wl_mv (.tmp 22) (.bool true) (fun _ => rfl) rfl rfl ?_
                  refine w_nil ?_
                  refine xn_then ?_
                  refine w_condT rfl ?_
                  refine w_skip ?_
                  refine xn_then ?_
                  refine w_condT rfl ?_
                  refine w_seq ?_
                  refine w_reg ?_
                  refine wl_mv (.tmp 1) (.int .i64 (a)) (fun _ => rfl) rfl rfl ?_
                  cases hf8 : decide (a = 1) with
                  | true =>
                    have hf8p := of_decide_eq_true hf8
                    refine wl_bin (fun x y => do eqGuard .eql 3 (.tmp 25) (.const (.int .i64 (1))) x y; binOp .eql 3 x y) (.tmp 25) (.const (.int .i64 (1))) (.int .i64 (a)) (.int .i64 (1)) (.bool true) (fun _ => rfl) rfl rfl (eq3 hf8 _ _ _) rfl ?_
                    refine w_nil ?_
                    refine xn_then ?_
                    refine w_condT rfl ?_
                    refine w_seq ?_
                    refine w_reg ?_
                    refine wl_mv (.const (.int .i64 (2))) (.int .i64 (2)) (fun _ => rfl) rfl rfl ?_
                    refine w_nil ?_
                    refine xn_then ?_
                    refine w_ret ?_
                    refine xr_blk ?_
                    refine xr_then ?_
                    exact w_ret1 _ (.int .i64 (2)) rfl rfl ⟨by unfold twoK; simp_all, M⟩
                  | false =>
                    have hf8p := of_decide_eq_false hf8
                    refine wl_bin (fun x y => do eqGuard .eql 3 (.tmp 25) (.const (.int .i64 (1))) x y; binOp .eql 3 x y) (.tmp 25) (.const (.int .i64 (1))) (.int .i64 (a)) (.int .i64 (1)) (.bool false) (fun _ => rfl) rfl rfl (eq3 hf8 _ _ _) rfl ?_
                    refine w_nil ?_
                    refine xn_then ?_
                    refine w_condF rfl ?_
                    refine w_skip ?_
                    refine xn_blk ?_
                    refine xn_then ?_
                    refine w_seq ?_
                    refine w_reg ?_
                    refine wl_mv (.const (.int .i64 (0))) (.int .i64 (0)) (fun _ => rfl) rfl rfl ?_
                    refine w_nil ?_
                    refine xn_then ?_
                    refine w_ret ?_
                    exact w_ret1 _ (.int .i64 (0)) rfl rfl ⟨by unfold twoK; simp_all, M⟩
                | false =>
                  have hf7p := of_decide_eq_false hf7
                  refine wl_bin (fun x y => do eqGuard .eql 3 (.tmp 10) (.const (.int .i64 (7))) x y; binOp .eql 3 x y) (.tmp 10) (.const (.int .i64 (7))) (.int .i64 (op)) (.int .i64 (7)) (.bool false) (fun _ => rfl) rfl rfl (eq3 hf7 _ _ _) rfl ?_
                  refine wl_mv (.tmp 22) (.bool false) (fun _ => rfl) rfl rfl ?_
                  refine w_nil ?_
                  refine xn_then ?_
                  refine w_condF rfl ?_
                  refine w_seq ?_
                  refine w_reg ?_
                  cases hf8 : decide (op = 8) with
                  | true =>
                    have hf8p := of_decide_eq_true hf8
                    refine wl_bin (fun x y => do eqGuard .eql 3 (.tmp 10) (.const (.int .i64 (8))) x y; binOp .eql 3 x y) (.tmp 10) (.const (.int .i64 (8))) (.int .i64 (op)) (.int .i64 (8)) (.bool true) (fun _ => rfl) rfl rfl (eq3 hf8 _ _ _) rfl ?_
                    refine wl_mv (.tmp 23) (.bool true) (fun _ => rfl) rfl rfl ?_
                    refine w_nil ?_
                    refine xn_then ?_
                    refine w_condT rfl ?_
                    refine w_skip ?_
                    refine xn_then ?_
                    refine w_condT rfl ?_
                    refine w_seq ?_
                    refine w_reg ?_
                    refine wl_mv (.tmp 1) (.int .i64 (a)) (fun _ => rfl) rfl rfl ?_
                    cases hf9 : decide (a = 1) with
                    | true =>
                      have hf9p := of_decide_eq_true hf9
                      refine wl_bin (fun x y => do eqGuard .eql 3 (.tmp 25) (.const (.int .i64 (1))) x y; binOp .eql 3 x y) (.tmp 25) (.const (.int .i64 (1))) (.int .i64 (a)) (.int .i64 (1)) (.bool true) (fun _ => rfl) rfl rfl (eq3 hf9 _ _ _) rfl ?_
                      refine w_nil ?_
                      refine xn_then ?_
                      refine w_condT rfl ?_
                      refine w_seq ?_
                      refine w_reg ?_
                      refine wl_mv (.const (.int .i64 (2))) (.int .i64 (2)) (fun _ => rfl) rfl rfl ?_
                      refine w_nil ?_
                      refine xn_then ?_
                      refine w_ret ?_
                      refine xr_blk ?_
                      refine xr_then ?_
                      exact w_ret1 _ (.int .i64 (2)) rfl rfl ⟨by unfold twoK; simp_all, M⟩
                    | false =>
                      have hf9p := of_decide_eq_false hf9
                      refine wl_bin (fun x y => do eqGuard .eql 3 (.tmp 25) (.const (.int .i64 (1))) x y; binOp .eql 3 x y) (.tmp 25) (.const (.int .i64 (1))) (.int .i64 (a)) (.int .i64 (1)) (.bool false) (fun _ => rfl) rfl rfl (eq3 hf9 _ _ _) rfl ?_
                      refine w_nil ?_
                      refine xn_then ?_
                      refine w_condF rfl ?_
                      refine w_skip ?_
                      refine xn_blk ?_
                      refine xn_then ?_
                      refine w_seq ?_
                      refine w_reg ?_
                      refine wl_mv (.const (.int .i64 (0))) (.int .i64 (0)) (fun _ => rfl) rfl rfl ?_
                      refine w_nil ?_
                      refine xn_then ?_
                      refine w_ret ?_
                      exact w_ret1 _ (.int .i64 (0)) rfl rfl ⟨by unfold twoK; simp_all, M⟩
                  | false =>
                    have hf8p := of_decide_eq_false hf8
                    refine wl_bin (fun x y => do eqGuard .eql 3 (.tmp 10) (.const (.int .i64 (8))) x y; binOp .eql 3 x y) (.tmp 10) (.const (.int .i64 (8))) (.int .i64 (op)) (.int .i64 (8)) (.bool false) (fun _ => rfl) rfl rfl (eq3 hf8 _ _ _) rfl ?_
                    refine wl_mv (.tmp 23) (.bool false) (fun _ => rfl) rfl rfl ?_
                    refine w_nil ?_
                    refine xn_then ?_
                    refine w_condF rfl ?_
                    refine w_reg ?_
                    cases hf9 : decide (op = 9) with
                    | true =>
                      have hf9p := of_decide_eq_true hf9
                      refine wl_bin (fun x y => do eqGuard .eql 3 (.tmp 10) (.const (.int .i64 (9))) x y; binOp .eql 3 x y) (.tmp 10) (.const (.int .i64 (9))) (.int .i64 (op)) (.int .i64 (9)) (.bool true) (fun _ => rfl) rfl rfl (eq3 hf9 _ _ _) rfl ?_
                      refine wl_mv (.tmp 24) (.bool true) (fun _ => rfl) rfl rfl ?_
                      refine w_nil ?_
                      refine xn_then ?_
                      refine w_condT rfl ?_
                      refine w_seq ?_
                      refine w_reg ?_
                      refine wl_mv (.tmp 1) (.int .i64 (a)) (fun _ => rfl) rfl rfl ?_
                      cases hf10 : decide (a = 1) with
                      | true =>
                        have hf10p := of_decide_eq_true hf10
                        refine wl_bin (fun x y => do eqGuard .eql 3 (.tmp 25) (.const (.int .i64 (1))) x y; binOp .eql 3 x y) (.tmp 25) (.const (.int .i64 (1))) (.int .i64 (a)) (.int .i64 (1)) (.bool true) (fun _ => rfl) rfl rfl (eq3 hf10 _ _ _) rfl ?_
                        refine w_nil ?_
                        refine xn_then ?_
                        refine w_condT rfl ?_
                        refine w_seq ?_
                        refine w_reg ?_
                        refine wl_mv (.const (.int .i64 (2))) (.int .i64 (2)) (fun _ => rfl) rfl rfl ?_
                        refine w_nil ?_
                        refine xn_then ?_
                        refine w_ret ?_
                        refine xr_blk ?_
                        refine xr_then ?_
                        exact w_ret1 _ (.int .i64 (2)) rfl rfl ⟨by unfold twoK; simp_all, M⟩
                      | false =>
                        have hf10p := of_decide_eq_false hf10
                        refine wl_bin (fun x y => do eqGuard .eql 3 (.tmp 25) (.const (.int .i64 (1))) x y; binOp .eql 3 x y) (.tmp 25) (.const (.int .i64 (1))) (.int .i64 (a)) (.int .i64 (1)) (.bool false) (fun _ => rfl) rfl rfl (eq3 hf10 _ _ _) rfl ?_
                        refine w_nil ?_
                        refine xn_then ?_
                        refine w_condF rfl ?_
                        refine w_skip ?_
                        refine xn_blk ?_
                        refine xn_then ?_
                        refine w_seq ?_
                        refine w_reg ?_
                        refine wl_mv (.const (.int .i64 (0))) (.int .i64 (0)) (fun _ => rfl) rfl rfl ?_
                        refine w_nil ?_
                        refine xn_then ?_
                        refine w_ret ?_
                        exact w_ret1 _ (.int .i64 (0)) rfl rfl ⟨by unfold twoK; simp_all, M⟩
                    | false =>
                      have hf9p := of_decide_eq_false hf9
                      refine wl_bin (fun x y => do eqGuard .eql 3 (.tmp 10) (.const (.int .i64 (9))) x y; binOp .eql 3 x y) (.tmp 10) (.const (.int .i64 (9))) (.int .i64 (op)) (.int .i64 (9)) (.bool false) (fun _ => rfl) rfl rfl (eq3 hf9 _ _ _) rfl ?_
                      refine wl_mv (.tmp 24) (.bool false) (fun _ => rfl) rfl rfl ?_
                      refine w_nil ?_
                      refine xn_then ?_
                      refine w_condF rfl ?_
                      refine w_seq ?_
                      refine w_seq ?_
                      refine w_reg ?_
                      cases hf10 : decide (op = 10) with
                      | true =>
                        have hf10p := of_decide_eq_true hf10
                        refine wl_bin (fun x y => do eqGuard .eql 3 (.tmp 10) (.const (.int .i64 (10))) x y; binOp .eql 3 x y) (.tmp 10) (.const (.int .i64 (10))) (.int .i64 (op)) (.int .i64 (10)) (.bool true) (fun _ => rfl) rfl rfl (eq3 hf10 _ _ _) rfl ?_
                        refine wl_mv (.tmp 28) (.bool true) (fun _ => rfl) rfl rfl ?_
                        refine w_nil ?_
                        refine xn_then ?_
                        refine w_condT rfl ?_
                        refine w_skip ?_
                        refine xn_then ?_
                        refine w_condT rfl ?_
                        refine w_seq ?_
                        refine w_reg ?_
                        refine wl_mv (.tmp 1) (.int .i64 (a)) (fun _ => rfl) rfl rfl ?_
                        cases hf11 : decide (a = 2) with
                        | true =>
                          have hf11p := of_decide_eq_true hf11
                          refine wl_bin (fun x y => do eqGuard .eql 3 (.tmp 30) (.const (.int .i64 (2))) x y; binOp .eql 3 x y) (.tmp 30) (.const (.int .i64 (2))) (.int .i64 (a)) (.int .i64 (2)) (.bool true) (fun _ => rfl) rfl rfl (eq3 hf11 _ _ _) rfl ?_
                          refine w_nil ?_
                          refine xn_then ?_
                          refine w_condT rfl ?_
                          refine w_seq ?_
                          refine w_reg ?_
                          refine wl_mv (.const (.int .i64 (2))) (.int .i64 (2)) (fun _ => rfl) rfl rfl ?_
                          refine w_nil ?_
                          refine xn_then ?_
                          refine w_ret ?_
                          refine xr_blk ?_
                          refine xr_then ?_
                          exact w_ret1 _ (.int .i64 (2)) rfl rfl ⟨by unfold twoK; simp_all, M⟩
                        | false =>
                          have hf11p := of_decide_eq_false hf11
                          refine wl_bin (fun x y => do eqGuard .eql 3 (.tmp 30) (.const (.int .i64 (2))) x y; binOp .eql 3 x y) (.tmp 30) (.const (.int .i64 (2))) (.int .i64 (a)) (.int .i64 (2)) (.bool false) (fun _ => rfl) rfl rfl (eq3 hf11 _ _ _) rfl ?_
                          refine w_nil ?_
                          refine xn_then ?_
                          refine w_condF rfl ?_
                          refine w_skip ?_
                          refine xn_blk ?_
                          refine xn_then ?_
                          refine w_seq ?_
                          refine w_reg ?_
                          refine wl_mv (.const (.int .i64 (0))) (.int .i64 (0)) (fun _ => rfl) rfl rfl ?_
                          refine w_nil ?_
                          refine xn_then ?_
                          refine w_ret ?_
                          exact w_ret1 _ (.int .i64 (0)) rfl rfl ⟨by unfold twoK; simp_all, M⟩
                      | false =>
                        have hf10p := of_decide_eq_false hf10
                        refine wl_bin (fun x y => do eqGuard .eql 3 (.tmp 10) (.const (.int .i64 (10))) x y; binOp .eql 3 x y) (.tmp 10) (.const (.int .i64 (10))) (.int .i64 (op)) (.int .i64 (10)) (.bool false) (fun _ => rfl) rfl rfl (eq3 hf10 _ _ _) rfl ?_
                        refine wl_mv (.tmp 28) (.bool false) (fun _ => rfl) rfl rfl ?_
                        refine w_nil ?_
                        refine xn_then ?_
                        refine w_condF rfl ?_
                        refine w_reg ?_
                        cases hf11 : decide (op = 11) with
                        | true =>
                          have hf11p := of_decide_eq_true hf11
                          refine wl_bin (fun x y => do eqGuard .eql 3 (.tmp 10) (.const (.int .i64 (11))) x y; binOp .eql 3 x y) (.tmp 10) (.const (.int .i64 (11))) (.int .i64 (op)) (.int .i64 (11)) (.bool true) (fun _ => rfl) rfl rfl (eq3 hf11 _ _ _) rfl ?_
                          refine wl_mv (.tmp 29) (.bool true) (fun _ => rfl) rfl rfl ?_
                          refine w_nil ?_
                          refine xn_then ?_
                          refine w_condT rfl ?_
                          refine w_seq ?_
                          refine w_reg ?_
                          refine wl_mv (.tmp 1) (.int .i64 (a)) (fun _ => rfl) rfl rfl ?_
                          cases hf12 : decide (a = 2) with
                          | true =>
                            have hf12p := of_decide_eq_true hf12
                            refine wl_bin (fun x y => do eqGuard .eql 3 (.tmp 30) (.const (.int .i64 (2))) x y; binOp .eql 3 x y) (.tmp 30) (.const (.int .i64 (2))) (.int .i64 (a)) (.int .i64 (2)) (.bool true) (fun _ => rfl) rfl rfl (eq3 hf12 _ _ _) rfl ?_
                            refine w_nil ?_
                            refine xn_then ?_
                            refine w_condT rfl ?_
                            refine w_seq ?_
                            refine w_reg ?_
                            refine wl_mv (.const (.int .i64 (2))) (.int .i64 (2)) (fun _ => rfl) rfl rfl ?_
                            refine w_nil ?_
                            refine xn_then ?_
                            refine w_ret ?_
                            refine xr_blk ?_
                            refine xr_then ?_
                            exact w_ret1 _ (.int .i64 (2)) rfl rfl ⟨by unfold twoK; simp_all, M⟩
                          | false =>
                            have hf12p := of_decide_eq_false hf12
                            refine wl_bin (fun x y => do eqGuard .eql 3 (.tmp 30) (.const (.int .i64 (2))) x y; binOp .eql 3 x y) (.tmp 30) (.const (.int .i64 (2))) (.int .i64 (a)) (.int .i64 (2)) (.bool false) (fun _ => rfl) rfl rfl (eq3 hf12 _ _ _) rfl ?_
                            refine w_nil ?_
                            refine xn_then ?_
                            refine w_condF rfl ?_
                            refine w_skip ?_
                            refine xn_blk ?_
                            refine xn_then ?_
                            refine w_seq ?_
                            refine w_reg ?_
                            refine wl_mv (.const (.int .i64 (0))) (.int .i64 (0)) (fun _ => rfl) rfl rfl ?_
                            refine w_nil ?_
                            refine xn_then ?_
                            refine w_ret ?_
                            exact w_ret1 _ (.int .i64 (0)) rfl rfl ⟨by unfold twoK; simp_all, M⟩
                        | false =>
                          have hf11p := of_decide_eq_false hf11
                          refine wl_bin (fun x y => do eqGuard .eql 3 (.tmp 10) (.const (.int .i64 (11))) x y; binOp .eql 3 x y) (.tmp 10) (.const (.int .i64 (11))) (.int .i64 (op)) (.int .i64 (11)) (.bool false) (fun _ => rfl) rfl rfl (eq3 hf11 _ _ _) rfl ?_
                          refine wl_mv (.tmp 29) (.bool false) (fun _ => rfl) rfl rfl ?_
                          refine w_nil ?_
                          refine xn_then ?_
                          refine w_condF rfl ?_
                          refine w_skip ?_
                          refine xn_blk ?_
                          refine xn_then ?_
                          refine w_seq ?_
                          refine w_reg ?_
                          refine wl_mv (.const (.int .i64 (0))) (.int .i64 (0)) (fun _ => rfl) rfl rfl ?_
                          refine w_nil ?_
                          refine xn_then ?_
                          refine w_ret ?_
                          exact w_ret1 _ (.int .i64 (0)) rfl rfl ⟨by unfold twoK; simp_all, M⟩
  | false =>
    have hf0p := of_decide_eq_false hf0
    refine wl_bin (fun x y => do eqGuard .neq 3 (.tmp 7) (.tmp 8) x y; binOp .neq 3 x y) (.tmp 7) (.tmp 8) (.int .i64 (a)) (.int .i64 (b)) (.bool true) (fun _ => rfl) rfl rfl (ne3 hf0 _ _ _) rfl ?_
    refine w_nil ?_
    refine xn_then ?_
    refine w_condT rfl ?_
    refine w_seq ?_
    refine w_reg ?_
    refine wl_mv (.const (.int .i64 (0))) (.int .i64 (0)) (fun _ => rfl) rfl rfl ?_
    refine w_nil ?_
    refine xn_then ?_
    refine w_ret ?_
    refine xr_then ?_
    exact w_ret1 _ (.int .i64 (0)) rfl rfl ⟨by unfold twoK; simp_all, M⟩
theorem sui_n (k : Int) (w : World) : Calls Tryz.prog 107 #[.int .i64 (k)] w fun e9 w' => e9 = .returned (tu2 (sui k)) ∧ Mo w w' := by
  refine w_enter 7 Tryz.func107 Tryz.ntmps107 rfl rfl ?_
  have M : Mo w w := Mo.refl _
  refine w_seq ?_
  refine w_reg ?_
  refine wl_mv (.const (.int .i64 (0))) (.int .i64 (0)) (fun _ => rfl) rfl rfl ?_
  refine wl_mv (.const (.int .i64 (0))) (.int .i64 (0)) (fun _ => rfl) rfl rfl ?_
  refine w_nil ?_
  refine xn_then ?_
  refine w_seq ?_
  refine w_seq ?_
  refine w_reg ?_
  refine wl_mv (.tmp 0) (.int .i64 (k)) (fun _ => rfl) rfl rfl ?_
  cases hf0 : decide (k = 0) with
  | true =>
    have hf0p := of_decide_eq_true hf0
    refine wl_bin (fun x y => do eqGuard .eql 3 (.tmp 4) (.const (.int .i64 (0))) x y; binOp .eql 3 x y) (.tmp 4) (.const (.int .i64 (0))) (.int .i64 (k)) (.int .i64 (0)) (.bool true) (fun _ => rfl) rfl rfl (eq3 hf0 _ _ _) rfl ?_
    refine w_nil ?_
    refine xn_then ?_
    refine w_condT rfl ?_
    refine w_seq ?_
    refine w_reg ?_
    refine wl_mv (.const (.int .i64 (0))) (.int .i64 (0)) (fun _ => rfl) rfl rfl ?_
    refine wl_mv (.const (.int .i64 (100))) (.int .i64 (100)) (fun _ => rfl) rfl rfl ?_
    refine w_nil ?_
    refine xn_then ?_
    refine w_ret ?_
    refine xr_then ?_
    exact w_ret2 _ _ (.int .i64 (0)) (.int .i64 (100)) rfl rfl rfl ⟨by unfold sui; simp_all, M⟩
  | false =>
    have hf0p := of_decide_eq_false hf0
    refine wl_bin (fun x y => do eqGuard .eql 3 (.tmp 4) (.const (.int .i64 (0))) x y; binOp .eql 3 x y) (.tmp 4) (.const (.int .i64 (0))) (.int .i64 (k)) (.int .i64 (0)) (.bool false) (fun _ => rfl) rfl rfl (eq3 hf0 _ _ _) rfl ?_
    refine w_nil ?_
    refine xn_then ?_
    refine w_condF rfl ?_
    refine w_skip ?_
    refine xn_then ?_
    refine w_seq ?_
    refine w_reg ?_
    refine wl_mv (.tmp 0) (.int .i64 (k)) (fun _ => rfl) rfl rfl ?_
    refine wl_mv (.tmp 6) (.int .i64 (k)) (fun _ => rfl) rfl rfl ?_
    refine wl_mv (.const (.int .i64 (0))) (.int .i64 (0)) (fun _ => rfl) rfl rfl ?_
    refine w_nil ?_
    refine xn_then ?_
    refine w_ret ?_
    exact w_ret2 _ _ (.int .i64 (k)) (.int .i64 (0)) rfl rfl rfl ⟨by unfold sui; simp_all, M⟩
theorem lea_n (k e : Int) (pa : Option Addr) (n c : Nat) (w : World) : Calls Tryz.prog 101 #[.int .i64 (k), .int .i64 (e), .slice pa n c] w fun e9 w' => e9 = .returned (tu2 (leaK k e n)) ∧ Mo w w' := by
  refine w_enter 15 Tryz.func101 Tryz.ntmps101 rfl rfl ?_
  have M : Mo w w := Mo.refl _
  refine w_seq ?_
  refine w_reg ?_
  refine wl_mv (.const (.int .i64 (0))) (.int .i64 (0)) (fun _ => rfl) rfl rfl ?_
  refine wl_mv (.const (.int .i64 (0))) (.int .i64 (0)) (fun _ => rfl) rfl rfl ?_
  refine w_nil ?_
  refine xn_then ?_
  refine w_seq ?_
  refine w_seq ?_
  refine w_reg ?_
  refine wl_mv (.tmp 1) (.int .i64 (e)) (fun _ => rfl) rfl rfl ?_
  cases hf0 : decide (e = 0) with
  | true =>
    have hf0p := of_decide_eq_true hf0
    refine wl_bin (fun x y => do eqGuard .neq 32 (.tmp 8) (.const (.int .i64 (0))) x y; binOp .neq 32 x y) (.tmp 8) (.const (.int .i64 (0))) (.int .i64 (e)) (.int .i64 (0)) (.bool false) (fun _ => rfl) rfl rfl (ne34 hf0 _ _ _) rfl ?_
    refine w_nil ?_
    refine xn_then ?_
    refine w_condF rfl ?_
    refine w_skip ?_
    refine xn_then ?_
    refine w_seq ?_
    refine w_seq ?_
    refine w_reg ?_
    refine wl_mv (.tmp 2) (.slice pa n c) (fun _ => rfl) rfl rfl ?_
    refine wl_val (.int .i64 ((n : Nat) : Int)) (len132 _ _ _ _ _ (by exact rfl) _ _ _ _ _ _) rfl ?_
    cases hf1 : decide (0 < n) with
    | true =>
      have hf1p := of_decide_eq_true hf1
      refine wl_bin (fun x y => do eqGuard .gtr 3 (.tmp 12) (.const (.int .i64 (0))) x y; binOp .gtr 3 x y) (.tmp 12) (.const (.int .i64 (0))) (.int .i64 ((n : Nat) : Int)) (.int .i64 (0)) (.bool true) (fun _ => rfl) rfl rfl (gtN hf1 _ _ _) rfl ?_
      refine w_nil ?_
      refine xn_then ?_
      refine w_condT rfl ?_
      refine w_seq ?_
      refine w_reg ?_
      refine wl_mv (.const (.int .i64 (0))) (.int .i64 (0)) (fun _ => rfl) rfl rfl ?_
      refine wl_mv (.const (.int .i64 (100))) (.int .i64 (100)) (fun _ => rfl) rfl rfl ?_
      refine w_nil ?_
      refine xn_then ?_
      refine w_ret ?_
      refine xr_then ?_
      exact w_ret2 _ _ (.int .i64 (0)) (.int .i64 (100)) rfl rfl rfl ⟨by unfold leaK; simp_all, M⟩
    | false =>
      have hf1p := of_decide_eq_false hf1
      refine wl_bin (fun x y => do eqGuard .gtr 3 (.tmp 12) (.const (.int .i64 (0))) x y; binOp .gtr 3 x y) (.tmp 12) (.const (.int .i64 (0))) (.int .i64 ((n : Nat) : Int)) (.int .i64 (0)) (.bool false) (fun _ => rfl) rfl rfl (gtN hf1 _ _ _) rfl ?_
      refine w_nil ?_
      refine xn_then ?_
      refine w_condF rfl ?_
      refine w_skip ?_
      refine xn_then ?_
      refine w_seq ?_
      refine w_reg ?_
      refine wl_mv (.tmp 0) (.int .i64 (k)) (fun _ => rfl) rfl rfl ?_
      refine wl_mv (.tmp 14) (.int .i64 (k)) (fun _ => rfl) rfl rfl ?_
      refine wl_mv (.const (.int .i64 (0))) (.int .i64 (0)) (fun _ => rfl) rfl rfl ?_
      refine w_nil ?_
      refine xn_then ?_
      refine w_ret ?_
      exact w_ret2 _ _ (.int .i64 (k)) (.int .i64 (0)) rfl rfl rfl ⟨by unfold leaK; simp_all, M⟩
  | false =>
    have hf0p := of_decide_eq_false hf0
    refine wl_bin (fun x y => do eqGuard .neq 32 (.tmp 8) (.const (.int .i64 (0))) x y; binOp .neq 32 x y) (.tmp 8) (.const (.int .i64 (0))) (.int .i64 (e)) (.int .i64 (0)) (.bool true) (fun _ => rfl) rfl rfl (ne34 hf0 _ _ _) rfl ?_
    refine w_nil ?_
    refine xn_then ?_
    refine w_condT rfl ?_
    refine w_seq ?_
    refine w_reg ?_
    refine wl_mv (.tmp 1) (.int .i64 (e)) (fun _ => rfl) rfl rfl ?_
    refine wl_mv (.const (.int .i64 (0))) (.int .i64 (0)) (fun _ => rfl) rfl rfl ?_
    refine wl_mv (.tmp 10) (.int .i64 (e)) (fun _ => rfl) rfl rfl ?_
    refine w_nil ?_
    refine xn_then ?_
    refine w_ret ?_
    refine xr_then ?_
    exact w_ret2 _ _ (.int .i64 (0)) (.int .i64 (e)) rfl rfl rfl ⟨by unfold leaK; simp_all, M⟩
theorem rnE_n (x : Ex) (w : World) : Calls Tryz.prog 105 #[.agg (x.cells).toArray] w fun e9 w' => e9 = .returned (.int .i64 (rnE x.sc x.po)) ∧ Mo w w' := by
  refine w_enter 13 Tryz.func105 Tryz.ntmps105 rfl rfl ?_
  have M : Mo w w := Mo.refl _
  refine w_seq ?_
  refine w_reg ?_
  refine wl_box 52 (.tmp 0) (.agg (x.cells).toArray) (((x.cells).toArray)) rfl rfl (fun _ => by kernel_rfl) rfl ?_
  intro k1 u1 hk hz hq Q1
  have N_k1 : w.heap.size ≤ k1 := by have := M.size; omega
  replace M := M.trans hq
  clear hk hz hq
  refine wl_mv (.const (.int .i64 (0))) (.int .i64 (0)) (fun _ => rfl) rfl rfl ?_
  refine w_nil ?_
  refine xn_then ?_
  refine w_seq ?_
  refine w_block ?_
  refine w_seq ?_
  refine w_reg ?_
  refine wl_un (fun v => Instr.fieldAt 52 v 5) (.tmp 1) (pt k1 0) (pt k1 14) (fun _ => rfl) rfl (by kernel_rfl) rfl ?_
  refine wl_load 3 (.tmp 4) (pt k1 14) (.int .i64 (x.sc)) rfl rfl (run_one Q1 3 14 rfl Tryz.underlying3 rfl) rfl ?_
  cases hf0 : isc x.sc with
  | true =>
    refine wl_call 48 [(.tmp 5)] _ [.int .i64 (x.sc)] (.bool true) rfl rfl (fun _ _ => by kernel_rfl) (cB hf0 (isc_n x.sc _)) rfl ?_
    intro u2 hq
    replace Q1 := Q1.mo hq
    replace M := M.trans hq
    clear hq
    refine wl_un (fun v => Op.unary .not v) (.tmp 6) (.bool true) (.bool false) (fun _ => rfl) rfl (by kernel_rfl) rfl ?_
    refine wl_mv (.tmp 7) (.bool false) (fun _ => rfl) rfl rfl ?_
    refine w_nil ?_
    refine xn_then ?_
    refine w_condF rfl ?_
    refine w_seq ?_
    refine w_reg ?_
    refine wl_un (fun v => Instr.fieldAt 52 v 6) (.tmp 1) (pt k1 0) (pt k1 15) (fun _ => rfl) rfl (by kernel_rfl) rfl ?_
    refine wl_load 3 (.tmp 9) (pt k1 15) (.int .i64 (x.po)) rfl rfl (run_one Q1 3 15 rfl Tryz.underlying3 rfl) rfl ?_
    cases hf1 : isp x.po with
    | true =>
      refine wl_call 49 [(.tmp 10)] _ [.int .i64 (x.po)] (.bool true) rfl rfl (fun _ _ => by kernel_rfl) (cB hf1 (isp_n x.po _)) rfl ?_
      intro u3 hq
      replace Q1 := Q1.mo hq
      replace M := M.trans hq
      clear hq
      refine wl_un (fun v => Op.unary .not v) (.tmp 11) (.bool true) (.bool false) (fun _ => rfl) rfl (by kernel_rfl) rfl ?_
      refine wl_mv (.tmp 12) (.bool false) (fun _ => rfl) rfl rfl ?_
      refine w_nil ?_
      refine xn_then ?_
      refine w_condF rfl ?_
      refine w_skip ?_
      refine xn_blk ?_
      refine xn_then ?_
      refine w_seq ?_
      refine w_reg ?_
      refine wl_mv (.const (.int .i64 (0))) (.int .i64 (0)) (fun _ => rfl) rfl rfl ?_
      refine w_nil ?_
      refine xn_then ?_
      refine w_ret ?_
      exact w_ret1 _ (.int .i64 (0)) rfl rfl ⟨by unfold rnE; simp_all, M⟩
    | false =>
      refine wl_call 49 [(.tmp 10)] _ [.int .i64 (x.po)] (.bool false) rfl rfl (fun _ _ => by kernel_rfl) (cB hf1 (isp_n x.po _)) rfl ?_
      intro u3 hq
      replace Q1 := Q1.mo hq
      replace M := M.trans hq
      clear hq
      refine wl_un (fun v => Op.unary .not v) (.tmp 11) (.bool false) (.bool true) (fun _ => rfl) rfl (by kernel_rfl) rfl ?_
      refine wl_mv (.tmp 12) (.bool true) (fun _ => rfl) rfl rfl ?_
      refine w_nil ?_
      refine xn_then ?_
      refine w_condT rfl ?_
      refine w_seq ?_
      refine w_reg ?_
      refine wl_mv (.const (.int .i64 (22))) (.int .i64 (22)) (fun _ => rfl) rfl rfl ?_
      refine w_nil ?_
      refine xn_then ?_
      refine w_ret ?_
      refine xr_blk ?_
      refine xr_then ?_
      exact w_ret1 _ (.int .i64 (22)) rfl rfl ⟨by unfold rnE; simp_all, M⟩
  | false =>
    refine wl_call 48 [(.tmp 5)] _ [.int .i64 (x.sc)] (.bool false) rfl rfl (fun _ _ => by kernel_rfl) (cB hf0 (isc_n x.sc _)) rfl ?_
    intro u2 hq
    replace Q1 := Q1.mo hq
    replace M := M.trans hq
    clear hq
    refine wl_un (fun v => Op.unary .not v) (.tmp 6) (.bool false) (.bool true) (fun _ => rfl) rfl (by kernel_rfl) rfl ?_
    refine wl_mv (.tmp 7) (.bool true) (fun _ => rfl) rfl rfl ?_
    refine w_nil ?_
    refine xn_then ?_
    refine w_condT rfl ?_
    refine w_seq ?_
    refine w_reg ?_
    refine wl_mv (.const (.int .i64 (21))) (.int .i64 (21)) (fun _ => rfl) rfl rfl ?_
    refine w_nil ?_
    refine xn_then ?_
    refine w_ret ?_
    refine xr_blk ?_
    refine xr_then ?_
    exact w_ret1 _ (.int .i64 (21)) rfl rfl ⟨by unfold rnE; simp_all, M⟩
end Go.Proofs.YtepfokoepibkcaaGreat

