/-
  Kinds over kinds: what a node comes to. Nodes; a table and a kid by name; a node over its parts' kinds. An item by its name, in a section or around it. A node over its parts' kinds; a name's kind; an aggregate's. The kind of a name, of an aggregate, of a node. The kind of a node. The kind of an expression.
-/
import Derived.Test.YtepfokoepibkcaaT1
import Derived.Test.YtepfokoepibkcaaDa
import Derived.Test.YtepfokoepibkcaaRs
import Derived.Laws.MakeOwn
import Derived.Test.YtepfokoepibkcaaT2
namespace Go.Proofs.Ytepfokoepibkcaa
open Go.RowKit D
def isp (n : Int) : Bool := decide (1 ≤ n) && decide (n ≤ 5)
def cbr (k : Int) : Bool := decide (k = 1) || decide (k = 2)
/-- An aggregate over items of a kind. -/
def colK (op k : Int) : Int := if op = 12 ∨ op = 14 ∨ op = 15 then (if k = 1 then 1 else 0) else if op = 13 then 1 else 0
/-- A node of one part. -/
def oneK (n a : Int) : Int := if n = 3 ∨ n = 7 ∨ n = 8 then (if a = 1 then 1 else 0) else if n = 4 then (if a = 2 then 2 else 0) else if n = 9 then 2 else 0
/-- An operator. -/
def twoK (op a b : Int) : Int := if ¬ a = b then 0 else if op = 1 ∨ op = 2 ∨ op = 3 then (if a = 1 then 1 else 0) else if op = 4 ∨ op = 5 then 2 else if op = 6 ∨ op = 7 ∨ op = 8 ∨ op = 9 then (if a = 1 then 2 else 0) else if op = 10 ∨ op = 11 then (if a = 2 then 2 else 0) else 0
def sui (k : Int) : Int × Int := if k = 0 then (0, 100) else (k, 0)
def leaK (k e : Int) (n : Nat) : Int × Int := if ¬ e = 0 then (0, e) else if 0 < n then (0, 100) else (k, 0)
def rnE (sc po : Int) : Int := if isc sc then (if isp po then 0 else 22) else 21
abbrev tu2 (p : Int × Int) : Value := .tuple #[.int .i64 p.1, .int .i64 p.2]
theorem len92 (ρ : Operand → Value) (x : Operand) (p : Option Addr) (m c : Nat) (hx : ρ x = .slice p m c) (dst : Option Tmp) (type : TypeId) (pos : String) (after : Array Edge) (guard : Option (Nat × Bool)) (w : World) : (execOp ρ { dst, op := .call { callee := .builtin .len, args := #[x], argTypes := #[92] }, type, pos, after, guard }).run Try.prog w = .ok (.value (.int .i64 (m : Int))) w := by
  simp [go_sem, hx]
theorem ix92 {pa : Option Addr} {b off i n c : Nat} (hp : pa = some ⟨b, off, none⟩) (h : i < n) (w : World) : (Instr.indexAt 92 (.slice pa n c) (.int .i64 (i : Int))).run Try.prog w = .ok (pt b (off + i * 1)) w := by
  subst hp
  have e : (Instr.indexAt 92 (.slice (some ⟨b, off, none⟩) n c) (.int .i64 (i : Int))).run Try.prog w = .ok (.pointer (some ((⟨b, off, none⟩ : Addr).add (i * 1)))) w := by simp [go_sem, h]
  rw [e, Addr.add_mid]
theorem isp_n (n : Int) (w : World) : Calls Try.prog 101 #[.int .i64 (n)] w fun e9 w' => e9 = .returned (.bool (isp n)) ∧ Mo w w' := by
  refine w_enter 9 Try.func101 Try.ntmps101 rfl rfl ?_
  have M : Mo w w := Mo.refl _
  refine w_seq ?_
  refine w_reg ?_
  refine wl_mv (.const (.bool false)) (.bool false) (fun _ => rfl) rfl rfl ?_
  refine w_nil ?_
  refine xn_then ?_
  refine w_seq ?_
  refine w_reg ?_
  refine wl_mv (.tmp 0) (.int .i64 (n)) (fun _ => rfl) rfl rfl ?_
  cases hf0 : decide (1 ≤ n) with
  | true =>
    have hf0p := of_decide_eq_true hf0
    refine wl_bin (fun x y => do eqGuard .geq 3 (.tmp 3) (.const (.int .i64 (1))) x y; binOp .geq 3 x y) (.tmp 3) (.const (.int .i64 (1))) (.int .i64 (n)) (.int .i64 (1)) (.bool true) (fun _ => rfl) rfl rfl (ge3 hf0 _ _ _) rfl ?_
    refine wl_mv (.tmp 4) (.bool true) (fun _ => rfl) rfl rfl ?_
    refine wl_mv (.tmp 0) (.int .i64 (n)) (fun _ => rfl) rfl rfl ?_
    cases hf1 : decide (n ≤ 5) with
    | true =>
      have hf1p := of_decide_eq_true hf1
      refine wl_bin (fun x y => do eqGuard .leq 3 (.tmp 6) (.const (.int .i64 (5))) x y; binOp .leq 3 x y) (.tmp 6) (.const (.int .i64 (5))) (.int .i64 (n)) (.int .i64 (5)) (.bool true) (fun _ => rfl) rfl rfl (le3 hf1 _ _ _) rfl ?_
      refine wl_pick (.tmp 5) (.tmp 7) (.const (.bool false)) true (.bool true) (fun _ => rfl) rfl rfl rfl ?_
      refine wl_mv (.tmp 8) (.bool true) (fun _ => rfl) rfl rfl ?_
      refine w_nil ?_
      refine xn_then ?_
      refine w_ret ?_
      exact w_ret1 _ (.bool true) rfl rfl ⟨by simp [isp, hf0, hf1], M⟩
    | false =>
      have hf1p := of_decide_eq_false hf1
      refine wl_bin (fun x y => do eqGuard .leq 3 (.tmp 6) (.const (.int .i64 (5))) x y; binOp .leq 3 x y) (.tmp 6) (.const (.int .i64 (5))) (.int .i64 (n)) (.int .i64 (5)) (.bool false) (fun _ => rfl) rfl rfl (le3 hf1 _ _ _) rfl ?_
      refine wl_pick (.tmp 5) (.tmp 7) (.const (.bool false)) true (.bool false) (fun _ => rfl) rfl rfl rfl ?_
      refine wl_mv (.tmp 8) (.bool false) (fun _ => rfl) rfl rfl ?_
      refine w_nil ?_
      refine xn_then ?_
      refine w_ret ?_
      exact w_ret1 _ (.bool false) rfl rfl ⟨by simp [isp, hf0, hf1], M⟩
  | false =>
    have hf0p := of_decide_eq_false hf0
    refine wl_bin (fun x y => do eqGuard .geq 3 (.tmp 3) (.const (.int .i64 (1))) x y; binOp .geq 3 x y) (.tmp 3) (.const (.int .i64 (1))) (.int .i64 (n)) (.int .i64 (1)) (.bool false) (fun _ => rfl) rfl rfl (ge3 hf0 _ _ _) rfl ?_
    refine wl_mv (.tmp 4) (.bool false) (fun _ => rfl) rfl rfl ?_
    refine wl_skip rfl ?_
    refine wl_skip rfl ?_
    refine wl_pick (.tmp 5) (.tmp 7) (.const (.bool false)) false (.bool false) (fun _ => rfl) rfl rfl rfl ?_
    refine wl_mv (.tmp 8) (.bool false) (fun _ => rfl) rfl rfl ?_
    refine w_nil ?_
    refine xn_then ?_
    refine w_ret ?_
    exact w_ret1 _ (.bool false) rfl rfl ⟨by simp [isp, hf0], M⟩
theorem cbr_n (k : Int) (w : World) : Calls Try.prog 107 #[.int .i64 (k)] w fun e9 w' => e9 = .returned (.bool (cbr k)) ∧ Mo w w' := by
  refine w_enter 9 Try.func107 Try.ntmps107 rfl rfl ?_
  have M : Mo w w := Mo.refl _
  refine w_seq ?_
  refine w_reg ?_
  refine wl_mv (.const (.bool false)) (.bool false) (fun _ => rfl) rfl rfl ?_
  refine w_nil ?_
  refine xn_then ?_
  refine w_seq ?_
  refine w_reg ?_
  refine wl_mv (.tmp 0) (.int .i64 (k)) (fun _ => rfl) rfl rfl ?_
  cases hf0 : decide (k = 1) with
  | true =>
    have hf0p := of_decide_eq_true hf0
    refine wl_bin (fun x y => do eqGuard .eql 3 (.tmp 3) (.const (.int .i64 (1))) x y; binOp .eql 3 x y) (.tmp 3) (.const (.int .i64 (1))) (.int .i64 (k)) (.int .i64 (1)) (.bool true) (fun _ => rfl) rfl rfl (eq3 hf0 _ _ _) rfl ?_
    refine wl_mv (.tmp 4) (.bool true) (fun _ => rfl) rfl rfl ?_
    refine wl_skip rfl ?_
    refine wl_skip rfl ?_
    refine wl_pick (.tmp 5) (.const (.bool true)) (.tmp 7) true (.bool true) (fun _ => rfl) rfl rfl rfl ?_
    refine wl_mv (.tmp 8) (.bool true) (fun _ => rfl) rfl rfl ?_
    refine w_nil ?_
    refine xn_then ?_
    refine w_ret ?_
    exact w_ret1 _ (.bool true) rfl rfl ⟨by unfold cbr; simp_all, M⟩
  | false =>
    have hf0p := of_decide_eq_false hf0
    refine wl_bin (fun x y => do eqGuard .eql 3 (.tmp 3) (.const (.int .i64 (1))) x y; binOp .eql 3 x y) (.tmp 3) (.const (.int .i64 (1))) (.int .i64 (k)) (.int .i64 (1)) (.bool false) (fun _ => rfl) rfl rfl (eq3 hf0 _ _ _) rfl ?_
    refine wl_mv (.tmp 4) (.bool false) (fun _ => rfl) rfl rfl ?_
    refine wl_mv (.tmp 0) (.int .i64 (k)) (fun _ => rfl) rfl rfl ?_
    cases hf1 : decide (k = 2) with
    | true =>
      have hf1p := of_decide_eq_true hf1
      refine wl_bin (fun x y => do eqGuard .eql 3 (.tmp 6) (.const (.int .i64 (2))) x y; binOp .eql 3 x y) (.tmp 6) (.const (.int .i64 (2))) (.int .i64 (k)) (.int .i64 (2)) (.bool true) (fun _ => rfl) rfl rfl (eq3 hf1 _ _ _) rfl ?_
      refine wl_pick (.tmp 5) (.const (.bool true)) (.tmp 7) false (.bool true) (fun _ => rfl) rfl rfl rfl ?_
      refine wl_mv (.tmp 8) (.bool true) (fun _ => rfl) rfl rfl ?_
      refine w_nil ?_
      refine xn_then ?_
      refine w_ret ?_
      exact w_ret1 _ (.bool true) rfl rfl ⟨by unfold cbr; simp_all, M⟩
    | false =>
      have hf1p := of_decide_eq_false hf1
      refine wl_bin (fun x y => do eqGuard .eql 3 (.tmp 6) (.const (.int .i64 (2))) x y; binOp .eql 3 x y) (.tmp 6) (.const (.int .i64 (2))) (.int .i64 (k)) (.int .i64 (2)) (.bool false) (fun _ => rfl) rfl rfl (eq3 hf1 _ _ _) rfl ?_
      refine wl_pick (.tmp 5) (.const (.bool true)) (.tmp 7) false (.bool false) (fun _ => rfl) rfl rfl rfl ?_
      refine wl_mv (.tmp 8) (.bool false) (fun _ => rfl) rfl rfl ?_
      refine w_nil ?_
      refine xn_then ?_
      refine w_ret ?_
      exact w_ret1 _ (.bool false) rfl rfl ⟨by unfold cbr; simp_all, M⟩
theorem colK_n (op k : Int) (w : World) : Calls Try.prog 100 #[.int .i64 (op), .int .i64 (k)] w fun e9 w' => e9 = .returned (.int .i64 (colK op k)) ∧ Mo w w' := by
  refine w_enter 14 Try.func100 Try.ntmps100 rfl rfl ?_
  have M : Mo w w := Mo.refl _
  refine w_seq ?_
  refine w_reg ?_
  refine wl_mv (.const (.int .i64 (0))) (.int .i64 (0)) (fun _ => rfl) rfl rfl ?_
  refine w_nil ?_
  refine xn_then ?_
  refine w_seq ?_
  refine w_seq ?_
  refine w_reg ?_
  refine wl_mv (.tmp 0) (.int .i64 (op)) (fun _ => rfl) rfl rfl ?_
  refine w_nil ?_
  refine xn_then ?_
  refine w_block ?_
  refine w_seq ?_
  refine w_seq ?_
  refine w_reg ?_
  cases hf0 : decide (op = 12) with
  | true =>
    have hf0p := of_decide_eq_true hf0
    refine wl_bin (fun x y => do eqGuard .eql 3 (.tmp 5) (.const (.int .i64 (12))) x y; binOp .eql 3 x y) (.tmp 5) (.const (.int .i64 (12))) (.int .i64 (op)) (.int .i64 (12)) (.bool true) (fun _ => rfl) rfl rfl (eq3 hf0 _ _ _) rfl ?_
    refine wl_mv (.tmp 7) (.bool true) (fun _ => rfl) rfl rfl ?_
    refine w_nil ?_
    refine xn_then ?_
    refine w_condT rfl ?_
    refine w_skip ?_
    refine xn_then ?_
    refine w_condT rfl ?_
    refine w_seq ?_
    refine w_reg ?_
    refine wl_mv (.tmp 1) (.int .i64 (k)) (fun _ => rfl) rfl rfl ?_
    cases hf1 : decide (k = 1) with
    | true =>
      have hf1p := of_decide_eq_true hf1
      refine wl_bin (fun x y => do eqGuard .eql 3 (.tmp 10) (.const (.int .i64 (1))) x y; binOp .eql 3 x y) (.tmp 10) (.const (.int .i64 (1))) (.int .i64 (k)) (.int .i64 (1)) (.bool true) (fun _ => rfl) rfl rfl (eq3 hf1 _ _ _) rfl ?_
      refine w_nil ?_
      refine xn_then ?_
      refine w_condT rfl ?_
      refine w_seq ?_
      refine w_reg ?_
      refine wl_mv (.const (.int .i64 (1))) (.int .i64 (1)) (fun _ => rfl) rfl rfl ?_
      refine w_nil ?_
      refine xn_then ?_
      refine w_ret ?_
      refine xr_blk ?_
      refine xr_then ?_
      exact w_ret1 _ (.int .i64 (1)) rfl rfl ⟨by unfold colK; simp_all, M⟩
    | false =>
      have hf1p := of_decide_eq_false hf1
      refine wl_bin (fun x y => do eqGuard .eql 3 (.tmp 10) (.const (.int .i64 (1))) x y; binOp .eql 3 x y) (.tmp 10) (.const (.int .i64 (1))) (.int .i64 (k)) (.int .i64 (1)) (.bool false) (fun _ => rfl) rfl rfl (eq3 hf1 _ _ _) rfl ?_
      refine w_nil ?_
      refine xn_then ?_
      refine w_condF rfl ?_
      refine w_skip ?_
      refine xn_blk ?_
      refine xn_then ?_
      refine w_seq ?_
      refine w_reg ?_
      refine wl_mv (.const (.int .i64 (0))) (.int .i64 (0)) (fun _ => rfl) rfl rfl ?_
      refine w_nil ?_
      refine xn_then ?_
      refine w_ret ?_
      exact w_ret1 _ (.int .i64 (0)) rfl rfl ⟨by unfold colK; simp_all, M⟩
  | false =>
    have hf0p := of_decide_eq_false hf0
    refine wl_bin (fun x y => do eqGuard .eql 3 (.tmp 5) (.const (.int .i64 (12))) x y; binOp .eql 3 x y) (.tmp 5) (.const (.int .i64 (12))) (.int .i64 (op)) (.int .i64 (12)) (.bool false) (fun _ => rfl) rfl rfl (eq3 hf0 _ _ _) rfl ?_
    refine wl_mv (.tmp 7) (.bool false) (fun _ => rfl) rfl rfl ?_
    refine w_nil ?_
    refine xn_then ?_
    refine w_condF rfl ?_
    refine w_seq ?_
    refine w_reg ?_
    cases hf1 : decide (op = 14) with
    | true =>
      have hf1p := of_decide_eq_true hf1
      refine wl_bin (fun x y => do eqGuard .eql 3 (.tmp 5) (.const (.int .i64 (14))) x y; binOp .eql 3 x y) (.tmp 5) (.const (.int .i64 (14))) (.int .i64 (op)) (.int .i64 (14)) (.bool true) (fun _ => rfl) rfl rfl (eq3 hf1 _ _ _) rfl ?_
      refine wl_mv (.tmp 8) (.bool true) (fun _ => rfl) rfl rfl ?_
      refine w_nil ?_
      refine xn_then ?_
      refine w_condT rfl ?_
      refine w_skip ?_
      refine xn_then ?_
      refine w_condT rfl ?_
      refine w_seq ?_
      refine w_reg ?_
      refine wl_mv (.tmp 1) (.int .i64 (k)) (fun _ => rfl) rfl rfl ?_
      cases hf2 : decide (k = 1) with
      | true =>
        have hf2p := of_decide_eq_true hf2
        refine wl_bin (fun x y => do eqGuard .eql 3 (.tmp 10) (.const (.int .i64 (1))) x y; binOp .eql 3 x y) (.tmp 10) (.const (.int .i64 (1))) (.int .i64 (k)) (.int .i64 (1)) (.bool true) (fun _ => rfl) rfl rfl (eq3 hf2 _ _ _) rfl ?_
        refine w_nil ?_
        refine xn_then ?_
        refine w_condT rfl ?_
        refine w_seq ?_
        refine w_reg ?_
        refine wl_mv (.const (.int .i64 (1))) (.int .i64 (1)) (fun _ => rfl) rfl rfl ?_
        refine w_nil ?_
        refine xn_then ?_
        refine w_ret ?_
        refine xr_blk ?_
        refine xr_then ?_
        exact w_ret1 _ (.int .i64 (1)) rfl rfl ⟨by unfold colK; simp_all, M⟩
      | false =>
        have hf2p := of_decide_eq_false hf2
        refine wl_bin (fun x y => do eqGuard .eql 3 (.tmp 10) (.const (.int .i64 (1))) x y; binOp .eql 3 x y) (.tmp 10) (.const (.int .i64 (1))) (.int .i64 (k)) (.int .i64 (1)) (.bool false) (fun _ => rfl) rfl rfl (eq3 hf2 _ _ _) rfl ?_
        refine w_nil ?_
        refine xn_then ?_
        refine w_condF rfl ?_
        refine w_skip ?_
        refine xn_blk ?_
        refine xn_then ?_
        refine w_seq ?_
        refine w_reg ?_
        refine wl_mv (.const (.int .i64 (0))) (.int .i64 (0)) (fun _ => rfl) rfl rfl ?_
        refine w_nil ?_
        refine xn_then ?_
        refine w_ret ?_
        exact w_ret1 _ (.int .i64 (0)) rfl rfl ⟨by unfold colK; simp_all, M⟩
    | false =>
      have hf1p := of_decide_eq_false hf1
      refine wl_bin (fun x y => do eqGuard .eql 3 (.tmp 5) (.const (.int .i64 (14))) x y; binOp .eql 3 x y) (.tmp 5) (.const (.int .i64 (14))) (.int .i64 (op)) (.int .i64 (14)) (.bool false) (fun _ => rfl) rfl rfl (eq3 hf1 _ _ _) rfl ?_
      refine wl_mv (.tmp 8) (.bool false) (fun _ => rfl) rfl rfl ?_
      refine w_nil ?_
      refine xn_then ?_
      refine w_condF rfl ?_
      refine w_reg ?_
      cases hf2 : decide (op = 15) with
      | true =>
        have hf2p := of_decide_eq_true hf2
        refine wl_bin (fun x y => do eqGuard .eql 3 (.tmp 5) (.const (.int .i64 (15))) x y; binOp .eql 3 x y) (.tmp 5) (.const (.int .i64 (15))) (.int .i64 (op)) (.int .i64 (15)) (.bool true) (fun _ => rfl) rfl rfl (eq3 hf2 _ _ _) rfl ?_
        refine wl_mv (.tmp 9) (.bool true) (fun _ => rfl) rfl rfl ?_
        refine w_nil ?_
        refine xn_then ?_
        refine w_condT rfl ?_
        refine w_seq ?_
        refine w_reg ?_
        refine wl_mv (.tmp 1) (.int .i64 (k)) (fun _ => rfl) rfl rfl ?_
        cases hf3 : decide (k = 1) with
        | true =>
          have hf3p := of_decide_eq_true hf3
          refine wl_bin (fun x y => do eqGuard .eql 3 (.tmp 10) (.const (.int .i64 (1))) x y; binOp .eql 3 x y) (.tmp 10) (.const (.int .i64 (1))) (.int .i64 (k)) (.int .i64 (1)) (.bool true) (fun _ => rfl) rfl rfl (eq3 hf3 _ _ _) rfl ?_
          refine w_nil ?_
          refine xn_then ?_
          refine w_condT rfl ?_
          refine w_seq ?_
          refine w_reg ?_
          refine wl_mv (.const (.int .i64 (1))) (.int .i64 (1)) (fun _ => rfl) rfl rfl ?_
          refine w_nil ?_
          refine xn_then ?_
          refine w_ret ?_
          refine xr_blk ?_
          refine xr_then ?_
          exact w_ret1 _ (.int .i64 (1)) rfl rfl ⟨by unfold colK; simp_all, M⟩
        | false =>
          have hf3p := of_decide_eq_false hf3
          refine wl_bin (fun x y => do eqGuard .eql 3 (.tmp 10) (.const (.int .i64 (1))) x y; binOp .eql 3 x y) (.tmp 10) (.const (.int .i64 (1))) (.int .i64 (k)) (.int .i64 (1)) (.bool false) (fun _ => rfl) rfl rfl (eq3 hf3 _ _ _) rfl ?_
          refine w_nil ?_
          refine xn_then ?_
          refine w_condF rfl ?_
          refine w_skip ?_
          refine xn_blk ?_
          refine xn_then ?_
          refine w_seq ?_
          refine w_reg ?_
          refine wl_mv (.const (.int .i64 (0))) (.int .i64 (0)) (fun _ => rfl) rfl rfl ?_
          refine w_nil ?_
          refine xn_then ?_
          refine w_ret ?_
          exact w_ret1 _ (.int .i64 (0)) rfl rfl ⟨by unfold colK; simp_all, M⟩
      | false =>
        have hf2p := of_decide_eq_false hf2
        refine wl_bin (fun x y => do eqGuard .eql 3 (.tmp 5) (.const (.int .i64 (15))) x y; binOp .eql 3 x y) (.tmp 5) (.const (.int .i64 (15))) (.int .i64 (op)) (.int .i64 (15)) (.bool false) (fun _ => rfl) rfl rfl (eq3 hf2 _ _ _) rfl ?_
        refine wl_mv (.tmp 9) (.bool false) (fun _ => rfl) rfl rfl ?_
        refine w_nil ?_
        refine xn_then ?_
        refine w_condF rfl ?_
        refine w_seq ?_
        refine w_reg ?_
        cases hf3 : decide (op = 13) with
        | true =>
          have hf3p := of_decide_eq_true hf3
          refine wl_bin (fun x y => do eqGuard .eql 3 (.tmp 5) (.const (.int .i64 (13))) x y; binOp .eql 3 x y) (.tmp 5) (.const (.int .i64 (13))) (.int .i64 (op)) (.int .i64 (13)) (.bool true) (fun _ => rfl) rfl rfl (eq3 hf3 _ _ _) rfl ?_
          refine wl_mv (.tmp 13) (.bool true) (fun _ => rfl) rfl rfl ?_
          refine w_nil ?_
          refine xn_then ?_
          refine w_condT rfl ?_
          refine w_seq ?_
          refine w_reg ?_
          refine wl_mv (.const (.int .i64 (1))) (.int .i64 (1)) (fun _ => rfl) rfl rfl ?_
          refine w_nil ?_
          refine xn_then ?_
          refine w_ret ?_
          refine xr_blk ?_
          refine xr_then ?_
          exact w_ret1 _ (.int .i64 (1)) rfl rfl ⟨by unfold colK; simp_all, M⟩
        | false =>
          have hf3p := of_decide_eq_false hf3
          refine wl_bin (fun x y => do eqGuard .eql 3 (.tmp 5) (.const (.int .i64 (13))) x y; binOp .eql 3 x y) (.tmp 5) (.const (.int .i64 (13))) (.int .i64 (op)) (.int .i64 (13)) (.bool false) (fun _ => rfl) rfl rfl (eq3 hf3 _ _ _) rfl ?_
          refine wl_mv (.tmp 13) (.bool false) (fun _ => rfl) rfl rfl ?_
          refine w_nil ?_
          refine xn_then ?_
          refine w_condF rfl ?_
          refine w_skip ?_
          refine xn_blk ?_
          refine xn_then ?_
          refine w_seq ?_
          refine w_reg ?_
          refine wl_mv (.const (.int .i64 (0))) (.int .i64 (0)) (fun _ => rfl) rfl rfl ?_
          refine w_nil ?_
          refine xn_then ?_
          refine w_ret ?_
          exact w_ret1 _ (.int .i64 (0)) rfl rfl ⟨by unfold colK; simp_all, M⟩
theorem oneK_n (n a : Int) (w : World) : Calls Try.prog 102 #[.int .i64 (n), .int .i64 (a)] w fun e9 w' => e9 = .returned (.int .i64 (oneK n a)) ∧ Mo w w' := by
  refine w_enter 18 Try.func102 Try.ntmps102 rfl rfl ?_
  have M : Mo w w := Mo.refl _
  refine w_seq ?_
  refine w_reg ?_
  refine wl_mv (.const (.int .i64 (0))) (.int .i64 (0)) (fun _ => rfl) rfl rfl ?_
  refine w_nil ?_
  refine xn_then ?_
  refine w_seq ?_
  refine w_seq ?_
  refine w_reg ?_
  refine wl_mv (.tmp 0) (.int .i64 (n)) (fun _ => rfl) rfl rfl ?_
  refine w_nil ?_
  refine xn_then ?_
  refine w_block ?_
  refine w_seq ?_
  refine w_seq ?_
  refine w_reg ?_
  cases hf0 : decide (n = 3) with
  | true =>
    have hf0p := of_decide_eq_true hf0
    refine wl_bin (fun x y => do eqGuard .eql 3 (.tmp 5) (.const (.int .i64 (3))) x y; binOp .eql 3 x y) (.tmp 5) (.const (.int .i64 (3))) (.int .i64 (n)) (.int .i64 (3)) (.bool true) (fun _ => rfl) rfl rfl (eq3 hf0 _ _ _) rfl ?_
    refine wl_mv (.tmp 7) (.bool true) (fun _ => rfl) rfl rfl ?_
    refine w_nil ?_
    refine xn_then ?_
    refine w_condT rfl ?_
    refine w_skip ?_
    refine xn_then ?_
    refine w_condT rfl ?_
    refine w_seq ?_
    refine w_reg ?_
    refine wl_mv (.tmp 1) (.int .i64 (a)) (fun _ => rfl) rfl rfl ?_
    cases hf1 : decide (a = 1) with
    | true =>
      have hf1p := of_decide_eq_true hf1
      refine wl_bin (fun x y => do eqGuard .eql 3 (.tmp 10) (.const (.int .i64 (1))) x y; binOp .eql 3 x y) (.tmp 10) (.const (.int .i64 (1))) (.int .i64 (a)) (.int .i64 (1)) (.bool true) (fun _ => rfl) rfl rfl (eq3 hf1 _ _ _) rfl ?_
      refine w_nil ?_
      refine xn_then ?_
      refine w_condT rfl ?_
      refine w_seq ?_
      refine w_reg ?_
      refine wl_mv (.const (.int .i64 (1))) (.int .i64 (1)) (fun _ => rfl) rfl rfl ?_
      refine w_nil ?_
      refine xn_then ?_
      refine w_ret ?_
      refine xr_blk ?_
      refine xr_then ?_
      exact w_ret1 _ (.int .i64 (1)) rfl rfl ⟨by unfold oneK; simp_all, M⟩
    | false =>
      have hf1p := of_decide_eq_false hf1
      refine wl_bin (fun x y => do eqGuard .eql 3 (.tmp 10) (.const (.int .i64 (1))) x y; binOp .eql 3 x y) (.tmp 10) (.const (.int .i64 (1))) (.int .i64 (a)) (.int .i64 (1)) (.bool false) (fun _ => rfl) rfl rfl (eq3 hf1 _ _ _) rfl ?_
      refine w_nil ?_
      refine xn_then ?_
      refine w_condF rfl ?_
      refine w_skip ?_
      refine xn_blk ?_
      refine xn_then ?_
      refine w_seq ?_
      refine w_reg ?_
      refine wl_mv (.const (.int .i64 (0))) (.int .i64 (0)) (fun _ => rfl) rfl rfl ?_
      refine w_nil ?_
      refine xn_then ?_
      refine w_ret ?_
      exact w_ret1 _ (.int .i64 (0)) rfl rfl ⟨by unfold oneK; simp_all, M⟩
  | false =>
    have hf0p := of_decide_eq_false hf0
    refine wl_bin (fun x y => do eqGuard .eql 3 (.tmp 5) (.const (.int .i64 (3))) x y; binOp .eql 3 x y) (.tmp 5) (.const (.int .i64 (3))) (.int .i64 (n)) (.int .i64 (3)) (.bool false) (fun _ => rfl) rfl rfl (eq3 hf0 _ _ _) rfl ?_
    refine wl_mv (.tmp 7) (.bool false) (fun _ => rfl) rfl rfl ?_
    refine w_nil ?_
    refine xn_then ?_
    refine w_condF rfl ?_
    refine w_seq ?_
    refine w_reg ?_
    cases hf1 : decide (n = 7) with
    | true =>
      have hf1p := of_decide_eq_true hf1
      refine wl_bin (fun x y => do eqGuard .eql 3 (.tmp 5) (.const (.int .i64 (7))) x y; binOp .eql 3 x y) (.tmp 5) (.const (.int .i64 (7))) (.int .i64 (n)) (.int .i64 (7)) (.bool true) (fun _ => rfl) rfl rfl (eq3 hf1 _ _ _) rfl ?_
      refine wl_mv (.tmp 8) (.bool true) (fun _ => rfl) rfl rfl ?_
      refine w_nil ?_
      refine xn_then ?_
      refine w_condT rfl ?_
      refine w_skip ?_
      refine xn_then ?_
      refine w_condT rfl ?_
      refine w_seq ?_
      refine w_reg ?_
      refine wl_mv (.tmp 1) (.int .i64 (a)) (fun _ => rfl) rfl rfl ?_
      cases hf2 : decide (a = 1) with
      | true =>
        have hf2p := of_decide_eq_true hf2
        refine wl_bin (fun x y => do eqGuard .eql 3 (.tmp 10) (.const (.int .i64 (1))) x y; binOp .eql 3 x y) (.tmp 10) (.const (.int .i64 (1))) (.int .i64 (a)) (.int .i64 (1)) (.bool true) (fun _ => rfl) rfl rfl (eq3 hf2 _ _ _) rfl ?_
        refine w_nil ?_
        refine xn_then ?_
        refine w_condT rfl ?_
        refine w_seq ?_
        refine w_reg ?_
        refine wl_mv (.const (.int .i64 (1))) (.int .i64 (1)) (fun _ => rfl) rfl rfl ?_
        refine w_nil ?_
        refine xn_then ?_
        refine w_ret ?_
        refine xr_blk ?_
        refine xr_then ?_
        exact w_ret1 _ (.int .i64 (1)) rfl rfl ⟨by unfold oneK; simp_all, M⟩
      | false =>
        have hf2p := of_decide_eq_false hf2
        refine wl_bin (fun x y => do eqGuard .eql 3 (.tmp 10) (.const (.int .i64 (1))) x y; binOp .eql 3 x y) (.tmp 10) (.const (.int .i64 (1))) (.int .i64 (a)) (.int .i64 (1)) (.bool false) (fun _ => rfl) rfl rfl (eq3 hf2 _ _ _) rfl ?_
        refine w_nil ?_
        refine xn_then ?_
        refine w_condF rfl ?_
        refine w_skip ?_
        refine xn_blk ?_
        refine xn_then ?_
        refine w_seq ?_
        refine w_reg ?_
        refine wl_mv (.const (.int .i64 (0))) (.int .i64 (0)) (fun _ => rfl) rfl rfl ?_
        refine w_nil ?_
        refine xn_then ?_
        refine w_ret ?_
        exact w_ret1 _ (.int .i64 (0)) rfl rfl ⟨by unfold oneK; simp_all, M⟩
    | false =>
      have hf1p := of_decide_eq_false hf1
      refine wl_bin (fun x y => do eqGuard .eql 3 (.tmp 5) (.const (.int .i64 (7))) x y; binOp .eql 3 x y) (.tmp 5) (.const (.int .i64 (7))) (.int .i64 (n)) (.int .i64 (7)) (.bool false) (fun _ => rfl) rfl rfl (eq3 hf1 _ _ _) rfl ?_
      refine wl_mv (.tmp 8) (.bool false) (fun _ => rfl) rfl rfl ?_
      refine w_nil ?_
      refine xn_then ?_
      refine w_condF rfl ?_
      refine w_reg ?_
      cases hf2 : decide (n = 8) with
      | true =>
        have hf2p := of_decide_eq_true hf2
        refine wl_bin (fun x y => do eqGuard .eql 3 (.tmp 5) (.const (.int .i64 (8))) x y; binOp .eql 3 x y) (.tmp 5) (.const (.int .i64 (8))) (.int .i64 (n)) (.int .i64 (8)) (.bool true) (fun _ => rfl) rfl rfl (eq3 hf2 _ _ _) rfl ?_
        refine wl_mv (.tmp 9) (.bool true) (fun _ => rfl) rfl rfl ?_
        refine w_nil ?_
        refine xn_then ?_
        refine w_condT rfl ?_
        refine w_seq ?_
        refine w_reg ?_
        refine wl_mv (.tmp 1) (.int .i64 (a)) (fun _ => rfl) rfl rfl ?_
        cases hf3 : decide (a = 1) with
        | true =>
          have hf3p := of_decide_eq_true hf3
          refine wl_bin (fun x y => do eqGuard .eql 3 (.tmp 10) (.const (.int .i64 (1))) x y; binOp .eql 3 x y) (.tmp 10) (.const (.int .i64 (1))) (.int .i64 (a)) (.int .i64 (1)) (.bool true) (fun _ => rfl) rfl rfl (eq3 hf3 _ _ _) rfl ?_
          refine w_nil ?_
          refine xn_then ?_
          refine w_condT rfl ?_
          refine w_seq ?_
          refine w_reg ?_
          refine wl_mv (.const (.int .i64 (1))) (.int .i64 (1)) (fun _ => rfl) rfl rfl ?_
          refine w_nil ?_
          refine xn_then ?_
          refine w_ret ?_
          refine xr_blk ?_
          refine xr_then ?_
          exact w_ret1 _ (.int .i64 (1)) rfl rfl ⟨by unfold oneK; simp_all, M⟩
        | false =>
          have hf3p := of_decide_eq_false hf3
          refine wl_bin (fun x y => do eqGuard .eql 3 (.tmp 10) (.const (.int .i64 (1))) x y; binOp .eql 3 x y) (.tmp 10) (.const (.int .i64 (1))) (.int .i64 (a)) (.int .i64 (1)) (.bool false) (fun _ => rfl) rfl rfl (eq3 hf3 _ _ _) rfl ?_
          refine w_nil ?_
          refine xn_then ?_
          refine w_condF rfl ?_
          refine w_skip ?_
          refine xn_blk ?_
          refine xn_then ?_
          refine w_seq ?_
          refine w_reg ?_
          refine wl_mv (.const (.int .i64 (0))) (.int .i64 (0)) (fun _ => rfl) rfl rfl ?_
          refine w_nil ?_
          refine xn_then ?_
          refine w_ret ?_
          exact w_ret1 _ (.int .i64 (0)) rfl rfl ⟨by unfold oneK; simp_all, M⟩
      | false =>
        have hf2p := of_decide_eq_false hf2
        refine wl_bin (fun x y => do eqGuard .eql 3 (.tmp 5) (.const (.int .i64 (8))) x y; binOp .eql 3 x y) (.tmp 5) (.const (.int .i64 (8))) (.int .i64 (n)) (.int .i64 (8)) (.bool false) (fun _ => rfl) rfl rfl (eq3 hf2 _ _ _) rfl ?_
        refine wl_mv (.tmp 9) (.bool false) (fun _ => rfl) rfl rfl ?_
        refine w_nil ?_
        refine xn_then ?_
        refine w_condF rfl ?_
        refine w_seq ?_
        refine w_reg ?_
        cases hf3 : decide (n = 4) with
        | true =>
          have hf3p := of_decide_eq_true hf3
          refine wl_bin (fun x y => do eqGuard .eql 3 (.tmp 5) (.const (.int .i64 (4))) x y; binOp .eql 3 x y) (.tmp 5) (.const (.int .i64 (4))) (.int .i64 (n)) (.int .i64 (4)) (.bool true) (fun _ => rfl) rfl rfl (eq3 hf3 _ _ _) rfl ?_
          refine wl_mv (.tmp 13) (.bool true) (fun _ => rfl) rfl rfl ?_
          refine w_nil ?_
          refine xn_then ?_
          refine w_condT rfl ?_
          refine w_seq ?_
          refine w_reg ?_
          refine wl_mv (.tmp 1) (.int .i64 (a)) (fun _ => rfl) rfl rfl ?_
          cases hf4 : decide (a = 2) with
          | true =>
            have hf4p := of_decide_eq_true hf4
            refine wl_bin (fun x y => do eqGuard .eql 3 (.tmp 14) (.const (.int .i64 (2))) x y; binOp .eql 3 x y) (.tmp 14) (.const (.int .i64 (2))) (.int .i64 (a)) (.int .i64 (2)) (.bool true) (fun _ => rfl) rfl rfl (eq3 hf4 _ _ _) rfl ?_
            refine w_nil ?_
            refine xn_then ?_
            refine w_condT rfl ?_
            refine w_seq ?_
            refine w_reg ?_
            refine wl_mv (.const (.int .i64 (2))) (.int .i64 (2)) (fun _ => rfl) rfl rfl ?_
            refine w_nil ?_
            refine xn_then ?_
            refine w_ret ?_
            refine xr_blk ?_
            refine xr_then ?_
            exact w_ret1 _ (.int .i64 (2)) rfl rfl ⟨by unfold oneK; simp_all, M⟩
          | false =>
            have hf4p := of_decide_eq_false hf4
            refine wl_bin (fun x y => do eqGuard .eql 3 (.tmp 14) (.const (.int .i64 (2))) x y; binOp .eql 3 x y) (.tmp 14) (.const (.int .i64 (2))) (.int .i64 (a)) (.int .i64 (2)) (.bool false) (fun _ => rfl) rfl rfl (eq3 hf4 _ _ _) rfl ?_
            refine w_nil ?_
            refine xn_then ?_
            refine w_condF rfl ?_
            refine w_skip ?_
            refine xn_blk ?_
            refine xn_then ?_
            refine w_seq ?_
            refine w_reg ?_
            refine wl_mv (.const (.int .i64 (0))) (.int .i64 (0)) (fun _ => rfl) rfl rfl ?_
            refine w_nil ?_
            refine xn_then ?_
            refine w_ret ?_
            exact w_ret1 _ (.int .i64 (0)) rfl rfl ⟨by unfold oneK; simp_all, M⟩
        | false =>
          have hf3p := of_decide_eq_false hf3
          refine wl_bin (fun x y => do eqGuard .eql 3 (.tmp 5) (.const (.int .i64 (4))) x y; binOp .eql 3 x y) (.tmp 5) (.const (.int .i64 (4))) (.int .i64 (n)) (.int .i64 (4)) (.bool false) (fun _ => rfl) rfl rfl (eq3 hf3 _ _ _) rfl ?_
          refine wl_mv (.tmp 13) (.bool false) (fun _ => rfl) rfl rfl ?_
          refine w_nil ?_
          refine xn_then ?_
          refine w_condF rfl ?_
          refine w_seq ?_
          refine w_reg ?_
          cases hf4 : decide (n = 9) with
          | true =>
            have hf4p := of_decide_eq_true hf4
            refine wl_bin (fun x y => do eqGuard .eql 3 (.tmp 5) (.const (.int .i64 (9))) x y; binOp .eql 3 x y) (.tmp 5) (.const (.int .i64 (9))) (.int .i64 (n)) (.int .i64 (9)) (.bool true) (fun _ => rfl) rfl rfl (eq3 hf4 _ _ _) rfl ?_
            refine wl_mv (.tmp 17) (.bool true) (fun _ => rfl) rfl rfl ?_
            refine w_nil ?_
            refine xn_then ?_
            refine w_condT rfl ?_
            refine w_seq ?_
            refine w_reg ?_
            refine wl_mv (.const (.int .i64 (2))) (.int .i64 (2)) (fun _ => rfl) rfl rfl ?_
            refine w_nil ?_
            refine xn_then ?_
            refine w_ret ?_
            refine xr_blk ?_
            refine xr_then ?_
            exact w_ret1 _ (.int .i64 (2)) rfl rfl ⟨by unfold oneK; simp_all, M⟩
          | false =>
            have hf4p := of_decide_eq_false hf4
            refine wl_bin (fun x y => do eqGuard .eql 3 (.tmp 5) (.const (.int .i64 (9))) x y; binOp .eql 3 x y) (.tmp 5) (.const (.int .i64 (9))) (.int .i64 (n)) (.int .i64 (9)) (.bool false) (fun _ => rfl) rfl rfl (eq3 hf4 _ _ _) rfl ?_
            refine wl_mv (.tmp 17) (.bool false) (fun _ => rfl) rfl rfl ?_
            refine w_nil ?_
            refine xn_then ?_
            refine w_condF rfl ?_
            refine w_skip ?_
            refine xn_blk ?_
            refine xn_then ?_
            refine w_seq ?_
            refine w_reg ?_
            refine wl_mv (.const (.int .i64 (0))) (.int .i64 (0)) (fun _ => rfl) rfl rfl ?_
            refine w_nil ?_
            refine xn_then ?_
            refine w_ret ?_
            exact w_ret1 _ (.int .i64 (0)) rfl rfl ⟨by unfold oneK; simp_all, M⟩
theorem twoK_n (op a b : Int) (w : World) : Calls Try.prog 103 #[.int .i64 (op), .int .i64 (a), .int .i64 (b)] w fun e9 w' => e9 = .returned (.int .i64 (twoK op a b)) ∧ Mo w w' := by
  refine w_enter 32 Try.func103 Try.ntmps103 rfl rfl ?_
  have M : Mo w w := Mo.refl _
  refine w_seq ?_
  refine w_reg ?_
  refine wl_mv (.const (.int .i64 (0))) (.int .i64 (0)) (fun _ => rfl) rfl rfl ?_
  refine w_nil ?_
  refine xn_then ?_
  refine w_seq ?_
  refine w_seq ?_
  refine w_reg ?_
  refine wl_mv (.tmp 1) (.int .i64 (a)) (fun _ => rfl) rfl rfl ?_
  refine wl_mv (.tmp 2) (.int .i64 (b)) (fun _ => rfl) rfl rfl ?_
  cases hf0 : decide (a = b) with
  | true =>
    have hf0p := of_decide_eq_true hf0
    refine wl_bin (fun x y => do eqGuard .neq 3 (.tmp 7) (.tmp 8) x y; binOp .neq 3 x y) (.tmp 7) (.tmp 8) (.int .i64 (a)) (.int .i64 (b)) (.bool false) (fun _ => rfl) rfl rfl (ne3 hf0 _ _ _) rfl ?_
    refine w_nil ?_
    refine xn_then ?_
    refine w_condF rfl ?_
    refine w_skip ?_
    refine xn_then ?_
    refine w_seq ?_
    refine w_seq ?_
    refine w_reg ?_
    refine wl_mv (.tmp 0) (.int .i64 (op)) (fun _ => rfl) rfl rfl ?_
    refine w_nil ?_
    refine xn_then ?_
    refine w_block ?_
    refine w_seq ?_
    refine w_seq ?_
    refine w_reg ?_
    cases hf1 : decide (op = 1) with
    | true =>
      have hf1p := of_decide_eq_true hf1
      refine wl_bin (fun x y => do eqGuard .eql 3 (.tmp 10) (.const (.int .i64 (1))) x y; binOp .eql 3 x y) (.tmp 10) (.const (.int .i64 (1))) (.int .i64 (op)) (.int .i64 (1)) (.bool true) (fun _ => rfl) rfl rfl (eq3 hf1 _ _ _) rfl ?_
      refine wl_mv (.tmp 12) (.bool true) (fun _ => rfl) rfl rfl ?_
      refine w_nil ?_
      refine xn_then ?_
      refine w_condT rfl ?_
      refine w_skip ?_
      refine xn_then ?_
      refine w_condT rfl ?_
      refine w_seq ?_
      refine w_reg ?_
      refine wl_mv (.tmp 1) (.int .i64 (a)) (fun _ => rfl) rfl rfl ?_
      cases hf2 : decide (a = 1) with
      | true =>
        have hf2p := of_decide_eq_true hf2
        refine wl_bin (fun x y => do eqGuard .eql 3 (.tmp 15) (.const (.int .i64 (1))) x y; binOp .eql 3 x y) (.tmp 15) (.const (.int .i64 (1))) (.int .i64 (a)) (.int .i64 (1)) (.bool true) (fun _ => rfl) rfl rfl (eq3 hf2 _ _ _) rfl ?_
        refine w_nil ?_
        refine xn_then ?_
        refine w_condT rfl ?_
        refine w_seq ?_
        refine w_reg ?_
        refine wl_mv (.const (.int .i64 (1))) (.int .i64 (1)) (fun _ => rfl) rfl rfl ?_
        refine w_nil ?_
        refine xn_then ?_
        refine w_ret ?_
        refine xr_blk ?_
        refine xr_then ?_
        exact w_ret1 _ (.int .i64 (1)) rfl rfl ⟨by unfold twoK; simp_all, M⟩
      | false =>
        have hf2p := of_decide_eq_false hf2
        refine wl_bin (fun x y => do eqGuard .eql 3 (.tmp 15) (.const (.int .i64 (1))) x y; binOp .eql 3 x y) (.tmp 15) (.const (.int .i64 (1))) (.int .i64 (a)) (.int .i64 (1)) (.bool false) (fun _ => rfl) rfl rfl (eq3 hf2 _ _ _) rfl ?_
        refine w_nil ?_
        refine xn_then ?_
        refine w_condF rfl ?_
        refine w_skip ?_
        refine xn_blk ?_
        refine xn_then ?_
        refine w_seq ?_
        refine w_reg ?_
        refine wl_mv (.const (.int .i64 (0))) (.int .i64 (0)) (fun _ => rfl) rfl rfl ?_
        refine w_nil ?_
        refine xn_then ?_
        refine w_ret ?_
        exact w_ret1 _ (.int .i64 (0)) rfl rfl ⟨by unfold twoK; simp_all, M⟩
    | false =>
      have hf1p := of_decide_eq_false hf1
      refine wl_bin (fun x y => do eqGuard .eql 3 (.tmp 10) (.const (.int .i64 (1))) x y; binOp .eql 3 x y) (.tmp 10) (.const (.int .i64 (1))) (.int .i64 (op)) (.int .i64 (1)) (.bool false) (fun _ => rfl) rfl rfl (eq3 hf1 _ _ _) rfl ?_
      refine wl_mv (.tmp 12) (.bool false) (fun _ => rfl) rfl rfl ?_
      refine w_nil ?_
      refine xn_then ?_
      refine w_condF rfl ?_
      refine w_seq ?_
      refine w_reg ?_
      cases hf2 : decide (op = 2) with
      | true =>
        have hf2p := of_decide_eq_true hf2
        refine wl_bin (fun x y => do eqGuard .eql 3 (.tmp 10) (.const (.int .i64 (2))) x y; binOp .eql 3 x y) (.tmp 10) (.const (.int .i64 (2))) (.int .i64 (op)) (.int .i64 (2)) (.bool true) (fun _ => rfl) rfl rfl (eq3 hf2 _ _ _) rfl ?_
        refine wl_mv (.tmp 13) (.bool true) (fun _ => rfl) rfl rfl ?_
        refine w_nil ?_
        refine xn_then ?_
        refine w_condT rfl ?_
        refine w_skip ?_
        refine xn_then ?_
        refine w_condT rfl ?_
        refine w_seq ?_
        refine w_reg ?_
        refine wl_mv (.tmp 1) (.int .i64 (a)) (fun _ => rfl) rfl rfl ?_
        cases hf3 : decide (a = 1) with
        | true =>
          have hf3p := of_decide_eq_true hf3
          refine wl_bin (fun x y => do eqGuard .eql 3 (.tmp 15) (.const (.int .i64 (1))) x y; binOp .eql 3 x y) (.tmp 15) (.const (.int .i64 (1))) (.int .i64 (a)) (.int .i64 (1)) (.bool true) (fun _ => rfl) rfl rfl (eq3 hf3 _ _ _) rfl ?_
          refine w_nil ?_
          refine xn_then ?_
          refine w_condT rfl ?_
          refine w_seq ?_
          refine w_reg ?_
          refine wl_mv (.const (.int .i64 (1))) (.int .i64 (1)) (fun _ => rfl) rfl rfl ?_
          refine w_nil ?_
          refine xn_then ?_
          refine w_ret ?_
          refine xr_blk ?_
          refine xr_then ?_
          exact w_ret1 _ (.int .i64 (1)) rfl rfl ⟨by unfold twoK; simp_all, M⟩
        | false =>
          have hf3p := of_decide_eq_false hf3
          refine wl_bin (fun x y => do eqGuard .eql 3 (.tmp 15) (.const (.int .i64 (1))) x y; binOp .eql 3 x y) (.tmp 15) (.const (.int .i64 (1))) (.int .i64 (a)) (.int .i64 (1)) (.bool false) (fun _ => rfl) rfl rfl (eq3 hf3 _ _ _) rfl ?_
          refine w_nil ?_
          refine xn_then ?_
          refine w_condF rfl ?_
          refine w_skip ?_
          refine xn_blk ?_
          refine xn_then ?_
          refine w_seq ?_
          refine w_reg ?_
          refine wl_mv (.const (.int .i64 (0))) (.int .i64 (0)) (fun _ => rfl) rfl rfl ?_
          refine w_nil ?_
          refine xn_then ?_
          refine w_ret ?_
          exact w_ret1 _ (.int .i64 (0)) rfl rfl ⟨by unfold twoK; simp_all, M⟩
      | false =>
        have hf2p := of_decide_eq_false hf2
        refine wl_bin (fun x y => do eqGuard .eql 3 (.tmp 10) (.const (.int .i64 (2))) x y; binOp .eql 3 x y) (.tmp 10) (.const (.int .i64 (2))) (.int .i64 (op)) (.int .i64 (2)) (.bool false) (fun _ => rfl) rfl rfl (eq3 hf2 _ _ _) rfl ?_
        refine wl_mv (.tmp 13) (.bool false) (fun _ => rfl) rfl rfl ?_
        refine w_nil ?_
        refine xn_then ?_
        refine w_condF rfl ?_
        refine w_reg ?_
        cases hf3 : decide (op = 3) with
        | true =>
          have hf3p := of_decide_eq_true hf3
          refine wl_bin (fun x y => do eqGuard .eql 3 (.tmp 10) (.const (.int .i64 (3))) x y; binOp .eql 3 x y) (.tmp 10) (.const (.int .i64 (3))) (.int .i64 (op)) (.int .i64 (3)) (.bool true) (fun _ => rfl) rfl rfl (eq3 hf3 _ _ _) rfl ?_
          refine wl_mv (.tmp 14) (.bool true) (fun _ => rfl) rfl rfl ?_
          refine w_nil ?_
          refine xn_then ?_
          refine w_condT rfl ?_
          refine w_seq ?_
          refine w_reg ?_
          refine wl_mv (.tmp 1) (.int .i64 (a)) (fun _ => rfl) rfl rfl ?_
          cases hf4 : decide (a = 1) with
          | true =>
            have hf4p := of_decide_eq_true hf4
            refine wl_bin (fun x y => do eqGuard .eql 3 (.tmp 15) (.const (.int .i64 (1))) x y; binOp .eql 3 x y) (.tmp 15) (.const (.int .i64 (1))) (.int .i64 (a)) (.int .i64 (1)) (.bool true) (fun _ => rfl) rfl rfl (eq3 hf4 _ _ _) rfl ?_
            refine w_nil ?_
            refine xn_then ?_
            refine w_condT rfl ?_
            refine w_seq ?_
            refine w_reg ?_
            refine wl_mv (.const (.int .i64 (1))) (.int .i64 (1)) (fun _ => rfl) rfl rfl ?_
            refine w_nil ?_
            refine xn_then ?_
            refine w_ret ?_
            refine xr_blk ?_
            refine xr_then ?_
            exact w_ret1 _ (.int .i64 (1)) rfl rfl ⟨by unfold twoK; simp_all, M⟩
          | false =>
            have hf4p := of_decide_eq_false hf4
            refine wl_bin (fun x y => do eqGuard .eql 3 (.tmp 15) (.const (.int .i64 (1))) x y; binOp .eql 3 x y) (.tmp 15) (.const (.int .i64 (1))) (.int .i64 (a)) (.int .i64 (1)) (.bool false) (fun _ => rfl) rfl rfl (eq3 hf4 _ _ _) rfl ?_
            refine w_nil ?_
            refine xn_then ?_
            refine w_condF rfl ?_
            refine w_skip ?_
            refine xn_blk ?_
            refine xn_then ?_
            refine w_seq ?_
            refine w_reg ?_
            refine wl_mv (.const (.int .i64 (0))) (.int .i64 (0)) (fun _ => rfl) rfl rfl ?_
            refine w_nil ?_
            refine xn_then ?_
            refine w_ret ?_
            exact w_ret1 _ (.int .i64 (0)) rfl rfl ⟨by unfold twoK; simp_all, M⟩
        | false =>
          have hf3p := of_decide_eq_false hf3
          refine wl_bin (fun x y => do eqGuard .eql 3 (.tmp 10) (.const (.int .i64 (3))) x y; binOp .eql 3 x y) (.tmp 10) (.const (.int .i64 (3))) (.int .i64 (op)) (.int .i64 (3)) (.bool false) (fun _ => rfl) rfl rfl (eq3 hf3 _ _ _) rfl ?_
          refine wl_mv (.tmp 14) (.bool false) (fun _ => rfl) rfl rfl ?_
          refine w_nil ?_
          refine xn_then ?_
          refine w_condF rfl ?_
          refine w_seq ?_
          refine w_seq ?_
          refine w_reg ?_
          cases hf4 : decide (op = 4) with
          | true =>
            have hf4p := of_decide_eq_true hf4
            refine wl_bin (fun x y => do eqGuard .eql 3 (.tmp 10) (.const (.int .i64 (4))) x y; binOp .eql 3 x y) (.tmp 10) (.const (.int .i64 (4))) (.int .i64 (op)) (.int .i64 (4)) (.bool true) (fun _ => rfl) rfl rfl (eq3 hf4 _ _ _) rfl ?_
            refine wl_mv (.tmp 18) (.bool true) (fun _ => rfl) rfl rfl ?_
            refine w_nil ?_
            refine xn_then ?_
            refine w_condT rfl ?_
            refine w_skip ?_
            refine xn_then ?_
            refine w_condT rfl ?_
            refine w_seq ?_
            refine w_reg ?_
            refine wl_mv (.const (.int .i64 (2))) (.int .i64 (2)) (fun _ => rfl) rfl rfl ?_
            refine w_nil ?_
            refine xn_then ?_
            refine w_ret ?_
            refine xr_blk ?_
            refine xr_then ?_
            exact w_ret1 _ (.int .i64 (2)) rfl rfl ⟨by unfold twoK; simp_all, M⟩
          | false =>
            have hf4p := of_decide_eq_false hf4
            refine wl_bin (fun x y => do eqGuard .eql 3 (.tmp 10) (.const (.int .i64 (4))) x y; binOp .eql 3 x y) (.tmp 10) (.const (.int .i64 (4))) (.int .i64 (op)) (.int .i64 (4)) (.bool false) (fun _ => rfl) rfl rfl (eq3 hf4 _ _ _) rfl ?_
            refine wl_mv (.tmp 18) (.bool false) (fun _ => rfl) rfl rfl ?_
            refine w_nil ?_
            refine xn_then ?_
            refine w_condF rfl ?_
            refine w_reg ?_
            cases hf5 : decide (op = 5) with
            | true =>
              have hf5p := of_decide_eq_true hf5
              refine wl_bin (fun x y => do eqGuard .eql 3 (.tmp 10) (.const (.int .i64 (5))) x y; binOp .eql 3 x y) (.tmp 10) (.const (.int .i64 (5))) (.int .i64 (op)) (.int .i64 (5)) (.bool true) (fun _ => rfl) rfl rfl (eq3 hf5 _ _ _) rfl ?_
              refine wl_mv (.tmp 19) (.bool true) (fun _ => rfl) rfl rfl ?_
              refine w_nil ?_
              refine xn_then ?_
              refine w_condT rfl ?_
              refine w_seq ?_
              refine w_reg ?_
              refine wl_mv (.const (.int .i64 (2))) (.int .i64 (2)) (fun _ => rfl) rfl rfl ?_
              refine w_nil ?_
              refine xn_then ?_
              refine w_ret ?_
              refine xr_blk ?_
              refine xr_then ?_
              exact w_ret1 _ (.int .i64 (2)) rfl rfl ⟨by unfold twoK; simp_all, M⟩
            | false =>
              have hf5p := of_decide_eq_false hf5
              refine wl_bin (fun x y => do eqGuard .eql 3 (.tmp 10) (.const (.int .i64 (5))) x y; binOp .eql 3 x y) (.tmp 10) (.const (.int .i64 (5))) (.int .i64 (op)) (.int .i64 (5)) (.bool false) (fun _ => rfl) rfl rfl (eq3 hf5 _ _ _) rfl ?_
              refine wl_mv (.tmp 19) (.bool false) (fun _ => rfl) rfl rfl ?_
              refine w_nil ?_
              refine xn_then ?_
              refine w_condF rfl ?_
              refine w_seq ?_
              refine w_seq ?_
              refine w_reg ?_
              cases hf6 : decide (op = 6) with
              | true =>
                have hf6p := of_decide_eq_true hf6
                refine wl_bin (fun x y => do eqGuard .eql 3 (.tmp 10) (.const (.int .i64 (6))) x y; binOp .eql 3 x y) (.tmp 10) (.const (.int .i64 (6))) (.int .i64 (op)) (.int .i64 (6)) (.bool true) (fun _ => rfl) rfl rfl (eq3 hf6 _ _ _) rfl ?_
                refine wl_mv (.tmp 21) (.bool true) (fun _ => rfl) rfl rfl ?_
                refine w_nil ?_
                refine xn_then ?_
                refine w_condT rfl ?_
                refine w_skip ?_
                refine xn_then ?_
                refine w_condT rfl ?_
                refine w_seq ?_
                refine w_reg ?_
                refine wl_mv (.tmp 1) (.int .i64 (a)) (fun _ => rfl) rfl rfl ?_
                cases hf7 : decide (a = 1) with
                | true =>
                  have hf7p := of_decide_eq_true hf7
                  refine wl_bin (fun x y => do eqGuard .eql 3 (.tmp 25) (.const (.int .i64 (1))) x y; binOp .eql 3 x y) (.tmp 25) (.const (.int .i64 (1))) (.int .i64 (a)) (.int .i64 (1)) (.bool true) (fun _ => rfl) rfl rfl (eq3 hf7 _ _ _) rfl ?_
                  refine w_nil ?_
                  refine xn_then ?_
                  refine w_condT rfl ?_
                  refine w_seq ?_
                  refine w_reg ?_
                  refine wl_mv (.const (.int .i64 (2))) (.int .i64 (2)) (fun _ => rfl) rfl rfl ?_
                  refine w_nil ?_
                  refine xn_then ?_
                  refine w_ret ?_
                  refine xr_blk ?_
                  refine xr_then ?_
                  exact w_ret1 _ (.int .i64 (2)) rfl rfl ⟨by unfold twoK; simp_all, M⟩
                | false =>
                  have hf7p := of_decide_eq_false hf7
                  refine wl_bin (fun x y => do eqGuard .eql 3 (.tmp 25) (.const (.int .i64 (1))) x y; binOp .eql 3 x y) (.tmp 25) (.const (.int .i64 (1))) (.int .i64 (a)) (.int .i64 (1)) (.bool false) (fun _ => rfl) rfl rfl (eq3 hf7 _ _ _) rfl ?_
                  refine w_nil ?_
                  refine xn_then ?_
                  refine w_condF rfl ?_
                  refine w_skip ?_
                  refine xn_blk ?_
                  refine xn_then ?_
                  refine w_seq ?_
                  refine w_reg ?_
                  refine wl_mv (.const (.int .i64 (0))) (.int .i64 (0)) (fun _ => rfl) rfl rfl ?_
                  refine w_nil ?_
                  refine xn_then ?_
                  refine w_ret ?_
                  exact w_ret1 _ (.int .i64 (0)) rfl rfl ⟨by unfold twoK; simp_all, M⟩
              | false =>
                have hf6p := of_decide_eq_false hf6
                refine wl_bin (fun x y => do eqGuard .eql 3 (.tmp 10) (.const (.int .i64 (6))) x y; binOp .eql 3 x y) (.tmp 10) (.const (.int .i64 (6))) (.int .i64 (op)) (.int .i64 (6)) (.bool false) (fun _ => rfl) rfl rfl (eq3 hf6 _ _ _) rfl ?_
                refine wl_mv (.tmp 21) (.bool false) (fun _ => rfl) rfl rfl ?_
                refine w_nil ?_
                refine xn_then ?_
                refine w_condF rfl ?_
                refine w_seq ?_
                refine w_reg ?_
                cases hf7 : decide (op = 7) with
                | true =>
                  have hf7p := of_decide_eq_true hf7
                  refine wl_bin (fun x y => do eqGuard .eql 3 (.tmp 10) (.const (.int .i64 (7))) x y; binOp .eql 3 x y) (.tmp 10) (.const (.int .i64 (7))) (.int .i64 (op)) (.int .i64 (7)) (.bool true) (fun _ => rfl) rfl rfl (eq3 hf7 _ _ _) rfl ?_
                  refine wl_mv (.tmp 22) (.bool true) (fun _ => rfl) rfl rfl ?_
                  refine w_nil ?_
                  refine xn_then ?_
                  refine w_condT rfl ?_
                  refine w_skip ?_
                  refine xn_then ?_
                  refine w_condT rfl ?_
                  refine w_seq ?_
                  refine w_reg ?_
                  refine wl_mv (.tmp 1) (.int .i64 (a)) (fun _ => rfl) rfl rfl ?_
                  cases hf8 : decide (a = 1) with
                  | true =>
                    have hf8p := of_decide_eq_true hf8
                    refine wl_bin (fun x y => do eqGuard .eql 3 (.tmp 25) (.const (.int .i64 (1))) x y; binOp .eql 3 x y) (.tmp 25) (.const (.int .i64 (1))) (.int .i64 (a)) (.int .i64 (1)) (.bool true) (fun _ => rfl) rfl rfl (eq3 hf8 _ _ _) rfl ?_
                    refine w_nil ?_
                    refine xn_then ?_
                    refine w_condT rfl ?_
                    refine w_seq ?_
                    refine w_reg ?_
                    refine wl_mv (.const (.int .i64 (2))) (.int .i64 (2)) (fun _ => rfl) rfl rfl ?_
                    refine w_nil ?_
                    refine xn_then ?_
                    refine w_ret ?_
                    refine xr_blk ?_
                    refine xr_then ?_
                    exact w_ret1 _ (.int .i64 (2)) rfl rfl ⟨by unfold twoK; simp_all, M⟩
                  | false =>
                    have hf8p := of_decide_eq_false hf8
                    refine wl_bin (fun x y => do eqGuard .eql 3 (.tmp 25) (.const (.int .i64 (1))) x y; binOp .eql 3 x y) (.tmp 25) (.const (.int .i64 (1))) (.int .i64 (a)) (.int .i64 (1)) (.bool false) (fun _ => rfl) rfl rfl (eq3 hf8 _ _ _) rfl ?_
                    refine w_nil ?_
                    refine xn_then ?_
                    refine w_condF rfl ?_
                    refine w_skip ?_
                    refine xn_blk ?_
                    refine xn_then ?_
                    refine w_seq ?_
                    refine w_reg ?_
                    refine wl_mv (.const (.int .i64 (0))) (.int .i64 (0)) (fun _ => rfl) rfl rfl ?_
                    refine w_nil ?_
                    refine xn_then ?_
                    refine w_ret ?_
                    exact w_ret1 _ (.int .i64 (0)) rfl rfl ⟨by unfold twoK; simp_all, M⟩
                | false =>
                  have hf7p := of_decide_eq_false hf7
                  refine wl_bin (fun x y => do eqGuard .eql 3 (.tmp 10) (.const (.int .i64 (7))) x y; binOp .eql 3 x y) (.tmp 10) (.const (.int .i64 (7))) (.int .i64 (op)) (.int .i64 (7)) (.bool false) (fun _ => rfl) rfl rfl (eq3 hf7 _ _ _) rfl ?_
                  refine wl_mv (.tmp 22) (.bool false) (fun _ => rfl) rfl rfl ?_
                  refine w_nil ?_
                  refine xn_then ?_
                  refine w_condF rfl ?_
                  refine w_seq ?_
                  refine w_reg ?_
                  cases hf8 : decide (op = 8) with
                  | true =>
                    have hf8p := of_decide_eq_true hf8
                    refine wl_bin (fun x y => do eqGuard .eql 3 (.tmp 10) (.const (.int .i64 (8))) x y; binOp .eql 3 x y) (.tmp 10) (.const (.int .i64 (8))) (.int .i64 (op)) (.int .i64 (8)) (.bool true) (fun _ => rfl) rfl rfl (eq3 hf8 _ _ _) rfl ?_
                    refine wl_mv (.tmp 23) (.bool true) (fun _ => rfl) rfl rfl ?_
                    refine w_nil ?_
                    refine xn_then ?_
                    refine w_condT rfl ?_
                    refine w_skip ?_
                    refine xn_then ?_
                    refine w_condT rfl ?_
                    refine w_seq ?_
                    refine w_reg ?_
                    refine wl_mv (.tmp 1) (.int .i64 (a)) (fun _ => rfl) rfl rfl ?_
                    cases hf9 : decide (a = 1) with
                    | true =>
                      have hf9p := of_decide_eq_true hf9
                      refine wl_bin (fun x y => do eqGuard .eql 3 (.tmp 25) (.const (.int .i64 (1))) x y; binOp .eql 3 x y) (.tmp 25) (.const (.int .i64 (1))) (.int .i64 (a)) (.int .i64 (1)) (.bool true) (fun _ => rfl) rfl rfl (eq3 hf9 _ _ _) rfl ?_
                      refine w_nil ?_
                      refine xn_then ?_
                      refine w_condT rfl ?_
                      refine w_seq ?_
                      refine w_reg ?_
                      refine wl_mv (.const (.int .i64 (2))) (.int .i64 (2)) (fun _ => rfl) rfl rfl ?_
                      refine w_nil ?_
                      refine xn_then ?_
                      refine w_ret ?_
                      refine xr_blk ?_
                      refine xr_then ?_
                      exact w_ret1 _ (.int .i64 (2)) rfl rfl ⟨by unfold twoK; simp_all, M⟩
                    | false =>
                      have hf9p := of_decide_eq_false hf9
                      refine wl_bin (fun x y => do eqGuard .eql 3 (.tmp 25) (.const (.int .i64 (1))) x y; binOp .eql 3 x y) (.tmp 25) (.const (.int .i64 (1))) (.int .i64 (a)) (.int .i64 (1)) (.bool false) (fun _ => rfl) rfl rfl (eq3 hf9 _ _ _) rfl ?_
                      refine w_nil ?_
                      refine xn_then ?_
                      refine w_condF rfl ?_
                      refine w_skip ?_
                      refine xn_blk ?_
                      refine xn_then ?_
                      refine w_seq ?_
                      refine w_reg ?_
                      refine wl_mv (.const (.int .i64 (0))) (.int .i64 (0)) (fun _ => rfl) rfl rfl ?_
                      refine w_nil ?_
                      refine xn_then ?_
                      refine w_ret ?_
                      exact w_ret1 _ (.int .i64 (0)) rfl rfl ⟨by unfold twoK; simp_all, M⟩
                  | false =>
                    have hf8p := of_decide_eq_false hf8
                    refine wl_bin (fun x y => do eqGuard .eql 3 (.tmp 10) (.const (.int .i64 (8))) x y; binOp .eql 3 x y) (.tmp 10) (.const (.int .i64 (8))) (.int .i64 (op)) (.int .i64 (8)) (.bool false) (fun _ => rfl) rfl rfl (eq3 hf8 _ _ _) rfl ?_
                    refine wl_mv (.tmp 23) (.bool false) (fun _ => rfl) rfl rfl ?_
                    refine w_nil ?_
                    refine xn_then ?_
                    refine w_condF rfl ?_
                    refine w_reg ?_
                    cases hf9 : decide (op = 9) with
                    | true =>
                      have hf9p := of_decide_eq_true hf9
                      refine wl_bin (fun x y => do eqGuard .eql 3 (.tmp 10) (.const (.int .i64 (9))) x y; binOp .eql 3 x y) (.tmp 10) (.const (.int .i64 (9))) (.int .i64 (op)) (.int .i64 (9)) (.bool true) (fun _ => rfl) rfl rfl (eq3 hf9 _ _ _) rfl ?_
                      refine wl_mv (.tmp 24) (.bool true) (fun _ => rfl) rfl rfl ?_
                      refine w_nil ?_
                      refine xn_then ?_
                      refine w_condT rfl ?_
                      refine w_seq ?_
                      refine w_reg ?_
                      refine wl_mv (.tmp 1) (.int .i64 (a)) (fun _ => rfl) rfl rfl ?_
                      cases hf10 : decide (a = 1) with
                      | true =>
                        have hf10p := of_decide_eq_true hf10
                        refine wl_bin (fun x y => do eqGuard .eql 3 (.tmp 25) (.const (.int .i64 (1))) x y; binOp .eql 3 x y) (.tmp 25) (.const (.int .i64 (1))) (.int .i64 (a)) (.int .i64 (1)) (.bool true) (fun _ => rfl) rfl rfl (eq3 hf10 _ _ _) rfl ?_
                        refine w_nil ?_
                        refine xn_then ?_
                        refine w_condT rfl ?_
                        refine w_seq ?_
                        refine w_reg ?_
                        refine wl_mv (.const (.int .i64 (2))) (.int .i64 (2)) (fun _ => rfl) rfl rfl ?_
                        refine w_nil ?_
                        refine xn_then ?_
                        refine w_ret ?_
                        refine xr_blk ?_
                        refine xr_then ?_
                        exact w_ret1 _ (.int .i64 (2)) rfl rfl ⟨by unfold twoK; simp_all, M⟩
                      | false =>
                        have hf10p := of_decide_eq_false hf10
                        refine wl_bin (fun x y => do eqGuard .eql 3 (.tmp 25) (.const (.int .i64 (1))) x y; binOp .eql 3 x y) (.tmp 25) (.const (.int .i64 (1))) (.int .i64 (a)) (.int .i64 (1)) (.bool false) (fun _ => rfl) rfl rfl (eq3 hf10 _ _ _) rfl ?_
                        refine w_nil ?_
                        refine xn_then ?_
                        refine w_condF rfl ?_
                        refine w_skip ?_
                        refine xn_blk ?_
                        refine xn_then ?_
                        refine w_seq ?_
                        refine w_reg ?_
                        refine wl_mv (.const (.int .i64 (0))) (.int .i64 (0)) (fun _ => rfl) rfl rfl ?_
                        refine w_nil ?_
                        refine xn_then ?_
                        refine w_ret ?_
                        exact w_ret1 _ (.int .i64 (0)) rfl rfl ⟨by unfold twoK; simp_all, M⟩
                    | false =>
                      have hf9p := of_decide_eq_false hf9
                      refine wl_bin (fun x y => do eqGuard .eql 3 (.tmp 10) (.const (.int .i64 (9))) x y; binOp .eql 3 x y) (.tmp 10) (.const (.int .i64 (9))) (.int .i64 (op)) (.int .i64 (9)) (.bool false) (fun _ => rfl) rfl rfl (eq3 hf9 _ _ _) rfl ?_
                      refine wl_mv (.tmp 24) (.bool false) (fun _ => rfl) rfl rfl ?_
                      refine w_nil ?_
                      refine xn_then ?_
                      refine w_condF rfl ?_
                      refine w_seq ?_
                      refine w_seq ?_
                      refine w_reg ?_
                      cases hf10 : decide (op = 10) with
                      | true =>
                        have hf10p := of_decide_eq_true hf10
                        refine wl_bin (fun x y => do eqGuard .eql 3 (.tmp 10) (.const (.int .i64 (10))) x y; binOp .eql 3 x y) (.tmp 10) (.const (.int .i64 (10))) (.int .i64 (op)) (.int .i64 (10)) (.bool true) (fun _ => rfl) rfl rfl (eq3 hf10 _ _ _) rfl ?_
                        refine wl_mv (.tmp 28) (.bool true) (fun _ => rfl) rfl rfl ?_
                        refine w_nil ?_
                        refine xn_then ?_
                        refine w_condT rfl ?_
                        refine w_skip ?_
                        refine xn_then ?_
                        refine w_condT rfl ?_
                        refine w_seq ?_
                        refine w_reg ?_
                        refine wl_mv (.tmp 1) (.int .i64 (a)) (fun _ => rfl) rfl rfl ?_
                        cases hf11 : decide (a = 2) with
                        | true =>
                          have hf11p := of_decide_eq_true hf11
                          refine wl_bin (fun x y => do eqGuard .eql 3 (.tmp 30) (.const (.int .i64 (2))) x y; binOp .eql 3 x y) (.tmp 30) (.const (.int .i64 (2))) (.int .i64 (a)) (.int .i64 (2)) (.bool true) (fun _ => rfl) rfl rfl (eq3 hf11 _ _ _) rfl ?_
                          refine w_nil ?_
                          refine xn_then ?_
                          refine w_condT rfl ?_
                          refine w_seq ?_
                          refine w_reg ?_
                          refine wl_mv (.const (.int .i64 (2))) (.int .i64 (2)) (fun _ => rfl) rfl rfl ?_
                          refine w_nil ?_
                          refine xn_then ?_
                          refine w_ret ?_
                          refine xr_blk ?_
                          refine xr_then ?_
                          exact w_ret1 _ (.int .i64 (2)) rfl rfl ⟨by unfold twoK; simp_all, M⟩
                        | false =>
                          have hf11p := of_decide_eq_false hf11
                          refine wl_bin (fun x y => do eqGuard .eql 3 (.tmp 30) (.const (.int .i64 (2))) x y; binOp .eql 3 x y) (.tmp 30) (.const (.int .i64 (2))) (.int .i64 (a)) (.int .i64 (2)) (.bool false) (fun _ => rfl) rfl rfl (eq3 hf11 _ _ _) rfl ?_
                          refine w_nil ?_
                          refine xn_then ?_
                          refine w_condF rfl ?_
                          refine w_skip ?_
                          refine xn_blk ?_
                          refine xn_then ?_
                          refine w_seq ?_
                          refine w_reg ?_
                          refine wl_mv (.const (.int .i64 (0))) (.int .i64 (0)) (fun _ => rfl) rfl rfl ?_
                          refine w_nil ?_
                          refine xn_then ?_
                          refine w_ret ?_
                          exact w_ret1 _ (.int .i64 (0)) rfl rfl ⟨by unfold twoK; simp_all, M⟩
                      | false =>
                        have hf10p := of_decide_eq_false hf10
                        refine wl_bin (fun x y => do eqGuard .eql 3 (.tmp 10) (.const (.int .i64 (10))) x y; binOp .eql 3 x y) (.tmp 10) (.const (.int .i64 (10))) (.int .i64 (op)) (.int .i64 (10)) (.bool false) (fun _ => rfl) rfl rfl (eq3 hf10 _ _ _) rfl ?_
                        refine wl_mv (.tmp 28) (.bool false) (fun _ => rfl) rfl rfl ?_
                        refine w_nil ?_
                        refine xn_then ?_
                        refine w_condF rfl ?_
                        refine w_reg ?_
                        cases hf11 : decide (op = 11) with
                        | true =>
                          have hf11p := of_decide_eq_true hf11
                          refine wl_bin (fun x y => do eqGuard .eql 3 (.tmp 10) (.const (.int .i64 (11))) x y; binOp .eql 3 x y) (.tmp 10) (.const (.int .i64 (11))) (.int .i64 (op)) (.int .i64 (11)) (.bool true) (fun _ => rfl) rfl rfl (eq3 hf11 _ _ _) rfl ?_
                          refine wl_mv (.tmp 29) (.bool true) (fun _ => rfl) rfl rfl ?_
                          refine w_nil ?_
                          refine xn_then ?_
                          refine w_condT rfl ?_
                          refine w_seq ?_
                          refine w_reg ?_
                          refine wl_mv (.tmp 1) (.int .i64 (a)) (fun _ => rfl) rfl rfl ?_
                          cases hf12 : decide (a = 2) with
                          | true =>
                            have hf12p := of_decide_eq_true hf12
                            refine wl_bin (fun x y => do eqGuard .eql 3 (.tmp 30) (.const (.int .i64 (2))) x y; binOp .eql 3 x y) (.tmp 30) (.const (.int .i64 (2))) (.int .i64 (a)) (.int .i64 (2)) (.bool true) (fun _ => rfl) rfl rfl (eq3 hf12 _ _ _) rfl ?_
                            refine w_nil ?_
                            refine xn_then ?_
                            refine w_condT rfl ?_
                            refine w_seq ?_
                            refine w_reg ?_
                            refine wl_mv (.const (.int .i64 (2))) (.int .i64 (2)) (fun _ => rfl) rfl rfl ?_
                            refine w_nil ?_
                            refine xn_then ?_
                            refine w_ret ?_
                            refine xr_blk ?_
                            refine xr_then ?_
                            exact w_ret1 _ (.int .i64 (2)) rfl rfl ⟨by unfold twoK; simp_all, M⟩
                          | false =>
                            have hf12p := of_decide_eq_false hf12
                            refine wl_bin (fun x y => do eqGuard .eql 3 (.tmp 30) (.const (.int .i64 (2))) x y; binOp .eql 3 x y) (.tmp 30) (.const (.int .i64 (2))) (.int .i64 (a)) (.int .i64 (2)) (.bool false) (fun _ => rfl) rfl rfl (eq3 hf12 _ _ _) rfl ?_
                            refine w_nil ?_
                            refine xn_then ?_
                            refine w_condF rfl ?_
                            refine w_skip ?_
                            refine xn_blk ?_
                            refine xn_then ?_
                            refine w_seq ?_
                            refine w_reg ?_
                            refine wl_mv (.const (.int .i64 (0))) (.int .i64 (0)) (fun _ => rfl) rfl rfl ?_
                            refine w_nil ?_
                            refine xn_then ?_
                            refine w_ret ?_
                            exact w_ret1 _ (.int .i64 (0)) rfl rfl ⟨by unfold twoK; simp_all, M⟩
                        | false =>
                          have hf11p := of_decide_eq_false hf11
                          refine wl_bin (fun x y => do eqGuard .eql 3 (.tmp 10) (.const (.int .i64 (11))) x y; binOp .eql 3 x y) (.tmp 10) (.const (.int .i64 (11))) (.int .i64 (op)) (.int .i64 (11)) (.bool false) (fun _ => rfl) rfl rfl (eq3 hf11 _ _ _) rfl ?_
                          refine wl_mv (.tmp 29) (.bool false) (fun _ => rfl) rfl rfl ?_
                          refine w_nil ?_
                          refine xn_then ?_
                          refine w_condF rfl ?_
                          refine w_skip ?_
                          refine xn_blk ?_
                          refine xn_then ?_
                          refine w_seq ?_
                          refine w_reg ?_
                          refine wl_mv (.const (.int .i64 (0))) (.int .i64 (0)) (fun _ => rfl) rfl rfl ?_
                          refine w_nil ?_
                          refine xn_then ?_
                          refine w_ret ?_
                          exact w_ret1 _ (.int .i64 (0)) rfl rfl ⟨by unfold twoK; simp_all, M⟩
  | false =>
    have hf0p := of_decide_eq_false hf0
    refine wl_bin (fun x y => do eqGuard .neq 3 (.tmp 7) (.tmp 8) x y; binOp .neq 3 x y) (.tmp 7) (.tmp 8) (.int .i64 (a)) (.int .i64 (b)) (.bool true) (fun _ => rfl) rfl rfl (ne3 hf0 _ _ _) rfl ?_
    refine w_nil ?_
    refine xn_then ?_
    refine w_condT rfl ?_
    refine w_seq ?_
    refine w_reg ?_
    refine wl_mv (.const (.int .i64 (0))) (.int .i64 (0)) (fun _ => rfl) rfl rfl ?_
    refine w_nil ?_
    refine xn_then ?_
    refine w_ret ?_
    refine xr_then ?_
    exact w_ret1 _ (.int .i64 (0)) rfl rfl ⟨by unfold twoK; simp_all, M⟩
theorem sui_n (k : Int) (w : World) : Calls Try.prog 90 #[.int .i64 (k)] w fun e9 w' => e9 = .returned (tu2 (sui k)) ∧ Mo w w' := by
  refine w_enter 7 Try.func90 Try.ntmps90 rfl rfl ?_
  have M : Mo w w := Mo.refl _
  refine w_seq ?_
  refine w_reg ?_
  refine wl_mv (.const (.int .i64 (0))) (.int .i64 (0)) (fun _ => rfl) rfl rfl ?_
  refine wl_mv (.const (.int .i64 (0))) (.int .i64 (0)) (fun _ => rfl) rfl rfl ?_
  refine w_nil ?_
  refine xn_then ?_
  refine w_seq ?_
  refine w_seq ?_
  refine w_reg ?_
  refine wl_mv (.tmp 0) (.int .i64 (k)) (fun _ => rfl) rfl rfl ?_
  cases hf0 : decide (k = 0) with
  | true =>
    have hf0p := of_decide_eq_true hf0
    refine wl_bin (fun x y => do eqGuard .eql 3 (.tmp 4) (.const (.int .i64 (0))) x y; binOp .eql 3 x y) (.tmp 4) (.const (.int .i64 (0))) (.int .i64 (k)) (.int .i64 (0)) (.bool true) (fun _ => rfl) rfl rfl (eq3 hf0 _ _ _) rfl ?_
    refine w_nil ?_
    refine xn_then ?_
    refine w_condT rfl ?_
    refine w_seq ?_
    refine w_reg ?_
    refine wl_mv (.const (.int .i64 (0))) (.int .i64 (0)) (fun _ => rfl) rfl rfl ?_
    refine wl_mv (.const (.int .i64 (100))) (.int .i64 (100)) (fun _ => rfl) rfl rfl ?_
    refine w_nil ?_
    refine xn_then ?_
    refine w_ret ?_
    refine xr_then ?_
    exact w_ret2 _ _ (.int .i64 (0)) (.int .i64 (100)) rfl rfl rfl ⟨by unfold sui; simp_all, M⟩
  | false =>
    have hf0p := of_decide_eq_false hf0
    refine wl_bin (fun x y => do eqGuard .eql 3 (.tmp 4) (.const (.int .i64 (0))) x y; binOp .eql 3 x y) (.tmp 4) (.const (.int .i64 (0))) (.int .i64 (k)) (.int .i64 (0)) (.bool false) (fun _ => rfl) rfl rfl (eq3 hf0 _ _ _) rfl ?_
    refine w_nil ?_
    refine xn_then ?_
    refine w_condF rfl ?_
    refine w_skip ?_
    refine xn_then ?_
    refine w_seq ?_
    refine w_reg ?_
    refine wl_mv (.tmp 0) (.int .i64 (k)) (fun _ => rfl) rfl rfl ?_
    refine wl_mv (.tmp 6) (.int .i64 (k)) (fun _ => rfl) rfl rfl ?_
    refine wl_mv (.const (.int .i64 (0))) (.int .i64 (0)) (fun _ => rfl) rfl rfl ?_
    refine w_nil ?_
    refine xn_then ?_
    refine w_ret ?_
    exact w_ret2 _ _ (.int .i64 (k)) (.int .i64 (0)) rfl rfl rfl ⟨by unfold sui; simp_all, M⟩
theorem lea_n (k e : Int) (pa : Option Addr) (n c : Nat) (w : World) : Calls Try.prog 85 #[.int .i64 (k), .int .i64 (e), .slice pa n c] w fun e9 w' => e9 = .returned (tu2 (leaK k e n)) ∧ Mo w w' := by
  refine w_enter 15 Try.func85 Try.ntmps85 rfl rfl ?_
  have M : Mo w w := Mo.refl _
  refine w_seq ?_
  refine w_reg ?_
  refine wl_mv (.const (.int .i64 (0))) (.int .i64 (0)) (fun _ => rfl) rfl rfl ?_
  refine wl_mv (.const (.int .i64 (0))) (.int .i64 (0)) (fun _ => rfl) rfl rfl ?_
  refine w_nil ?_
  refine xn_then ?_
  refine w_seq ?_
  refine w_seq ?_
  refine w_reg ?_
  refine wl_mv (.tmp 1) (.int .i64 (e)) (fun _ => rfl) rfl rfl ?_
  cases hf0 : decide (e = 0) with
  | true =>
    have hf0p := of_decide_eq_true hf0
    refine wl_bin (fun x y => do eqGuard .neq 32 (.tmp 8) (.const (.int .i64 (0))) x y; binOp .neq 32 x y) (.tmp 8) (.const (.int .i64 (0))) (.int .i64 (e)) (.int .i64 (0)) (.bool false) (fun _ => rfl) rfl rfl (ne34 hf0 _ _ _) rfl ?_
    refine w_nil ?_
    refine xn_then ?_
    refine w_condF rfl ?_
    refine w_skip ?_
    refine xn_then ?_
    refine w_seq ?_
    refine w_seq ?_
    refine w_reg ?_
    refine wl_mv (.tmp 2) (.slice pa n c) (fun _ => rfl) rfl rfl ?_
    refine wl_val (.int .i64 ((n : Nat) : Int)) (len92 _ _ _ _ _ (by exact rfl) _ _ _ _ _ _) rfl ?_
    cases hf1 : decide (0 < n) with
    | true =>
      have hf1p := of_decide_eq_true hf1
      refine wl_bin (fun x y => do eqGuard .gtr 3 (.tmp 12) (.const (.int .i64 (0))) x y; binOp .gtr 3 x y) (.tmp 12) (.const (.int .i64 (0))) (.int .i64 ((n : Nat) : Int)) (.int .i64 (0)) (.bool true) (fun _ => rfl) rfl rfl (gtN hf1 _ _ _) rfl ?_
      refine w_nil ?_
      refine xn_then ?_
      refine w_condT rfl ?_
      refine w_seq ?_
      refine w_reg ?_
      refine wl_mv (.const (.int .i64 (0))) (.int .i64 (0)) (fun _ => rfl) rfl rfl ?_
      refine wl_mv (.const (.int .i64 (100))) (.int .i64 (100)) (fun _ => rfl) rfl rfl ?_
      refine w_nil ?_
      refine xn_then ?_
      refine w_ret ?_
      refine xr_then ?_
      exact w_ret2 _ _ (.int .i64 (0)) (.int .i64 (100)) rfl rfl rfl ⟨by unfold leaK; simp_all, M⟩
    | false =>
      have hf1p := of_decide_eq_false hf1
      refine wl_bin (fun x y => do eqGuard .gtr 3 (.tmp 12) (.const (.int .i64 (0))) x y; binOp .gtr 3 x y) (.tmp 12) (.const (.int .i64 (0))) (.int .i64 ((n : Nat) : Int)) (.int .i64 (0)) (.bool false) (fun _ => rfl) rfl rfl (gtN hf1 _ _ _) rfl ?_
      refine w_nil ?_
      refine xn_then ?_
      refine w_condF rfl ?_
      refine w_skip ?_
      refine xn_then ?_
      refine w_seq ?_
      refine w_reg ?_
      refine wl_mv (.tmp 0) (.int .i64 (k)) (fun _ => rfl) rfl rfl ?_
      refine wl_mv (.tmp 14) (.int .i64 (k)) (fun _ => rfl) rfl rfl ?_
      refine wl_mv (.const (.int .i64 (0))) (.int .i64 (0)) (fun _ => rfl) rfl rfl ?_
      refine w_nil ?_
      refine xn_then ?_
      refine w_ret ?_
      exact w_ret2 _ _ (.int .i64 (k)) (.int .i64 (0)) rfl rfl rfl ⟨by unfold leaK; simp_all, M⟩
  | false =>
    have hf0p := of_decide_eq_false hf0
    refine wl_bin (fun x y => do eqGuard .neq 32 (.tmp 8) (.const (.int .i64 (0))) x y; binOp .neq 32 x y) (.tmp 8) (.const (.int .i64 (0))) (.int .i64 (e)) (.int .i64 (0)) (.bool true) (fun _ => rfl) rfl rfl (ne34 hf0 _ _ _) rfl ?_
    refine w_nil ?_
    refine xn_then ?_
    refine w_condT rfl ?_
    refine w_seq ?_
    refine w_reg ?_
    refine wl_mv (.tmp 1) (.int .i64 (e)) (fun _ => rfl) rfl rfl ?_
    refine wl_mv (.const (.int .i64 (0))) (.int .i64 (0)) (fun _ => rfl) rfl rfl ?_
    refine wl_mv (.tmp 10) (.int .i64 (e)) (fun _ => rfl) rfl rfl ?_
    refine w_nil ?_
    refine xn_then ?_
    refine w_ret ?_
    refine xr_then ?_
    exact w_ret2 _ _ (.int .i64 (0)) (.int .i64 (e)) rfl rfl rfl ⟨by unfold leaK; simp_all, M⟩
theorem rnE_n (x : Ex) (w : World) : Calls Try.prog 88 #[.agg (x.cells).toArray] w fun e9 w' => e9 = .returned (.int .i64 (rnE x.sc x.po)) ∧ Mo w w' := by
  refine w_enter 13 Try.func88 Try.ntmps88 rfl rfl ?_
  have M : Mo w w := Mo.refl _
  refine w_seq ?_
  refine w_reg ?_
  refine wl_box 38 (.tmp 0) (.agg (x.cells).toArray) (((x.cells).toArray)) rfl rfl (fun _ => by kernel_rfl) rfl ?_
  intro k1 u1 hk hz hq Q1
  have N_k1 : w.heap.size ≤ k1 := by have := M.size; omega
  replace M := M.trans hq
  clear hk hz hq
  refine wl_mv (.const (.int .i64 (0))) (.int .i64 (0)) (fun _ => rfl) rfl rfl ?_
  refine w_nil ?_
  refine xn_then ?_
  refine w_seq ?_
  refine w_block ?_
  refine w_seq ?_
  refine w_reg ?_
  refine wl_un (fun v => Instr.fieldAt 38 v 5) (.tmp 1) (pt k1 0) (pt k1 14) (fun _ => rfl) rfl (by kernel_rfl) rfl ?_
  refine wl_load 3 (.tmp 4) (pt k1 14) (.int .i64 (x.sc)) rfl rfl (run_one Q1 3 14 rfl Try.underlying3 rfl) rfl ?_
  cases hf0 : isc x.sc with
  | true =>
    refine wl_call 30 [(.tmp 5)] _ [.int .i64 (x.sc)] (.bool true) rfl rfl (fun _ _ => by kernel_rfl) (cB hf0 (isc_n x.sc _)) rfl ?_
    intro u2 hq
    replace Q1 := Q1.mo hq
    replace M := M.trans hq
    clear hq
    refine wl_un (fun v => Op.unary .not v) (.tmp 6) (.bool true) (.bool false) (fun _ => rfl) rfl (by kernel_rfl) rfl ?_
    refine wl_mv (.tmp 7) (.bool false) (fun _ => rfl) rfl rfl ?_
    refine w_nil ?_
    refine xn_then ?_
    refine w_condF rfl ?_
    refine w_seq ?_
    refine w_reg ?_
    refine wl_un (fun v => Instr.fieldAt 38 v 6) (.tmp 1) (pt k1 0) (pt k1 15) (fun _ => rfl) rfl (by kernel_rfl) rfl ?_
    refine wl_load 3 (.tmp 9) (pt k1 15) (.int .i64 (x.po)) rfl rfl (run_one Q1 3 15 rfl Try.underlying3 rfl) rfl ?_
    cases hf1 : isp x.po with
    | true =>
      refine wl_call 101 [(.tmp 10)] _ [.int .i64 (x.po)] (.bool true) rfl rfl (fun _ _ => by kernel_rfl) (cB hf1 (isp_n x.po _)) rfl ?_
      intro u3 hq
      replace Q1 := Q1.mo hq
      replace M := M.trans hq
      clear hq
      refine wl_un (fun v => Op.unary .not v) (.tmp 11) (.bool true) (.bool false) (fun _ => rfl) rfl (by kernel_rfl) rfl ?_
      refine wl_mv (.tmp 12) (.bool false) (fun _ => rfl) rfl rfl ?_
      refine w_nil ?_
      refine xn_then ?_
      refine w_condF rfl ?_
      refine w_skip ?_
      refine xn_blk ?_
      refine xn_then ?_
      refine w_seq ?_
      refine w_reg ?_
      refine wl_mv (.const (.int .i64 (0))) (.int .i64 (0)) (fun _ => rfl) rfl rfl ?_
      refine w_nil ?_
      refine xn_then ?_
      refine w_ret ?_
      exact w_ret1 _ (.int .i64 (0)) rfl rfl ⟨by unfold rnE; simp_all, M⟩
    | false =>
      refine wl_call 101 [(.tmp 10)] _ [.int .i64 (x.po)] (.bool false) rfl rfl (fun _ _ => by kernel_rfl) (cB hf1 (isp_n x.po _)) rfl ?_
      intro u3 hq
      replace Q1 := Q1.mo hq
      replace M := M.trans hq
      clear hq
      refine wl_un (fun v => Op.unary .not v) (.tmp 11) (.bool false) (.bool true) (fun _ => rfl) rfl (by kernel_rfl) rfl ?_
      refine wl_mv (.tmp 12) (.bool true) (fun _ => rfl) rfl rfl ?_
      refine w_nil ?_
      refine xn_then ?_
      refine w_condT rfl ?_
      refine w_seq ?_
      refine w_reg ?_
      refine wl_mv (.const (.int .i64 (22))) (.int .i64 (22)) (fun _ => rfl) rfl rfl ?_
      refine w_nil ?_
      refine xn_then ?_
      refine w_ret ?_
      refine xr_blk ?_
      refine xr_then ?_
      exact w_ret1 _ (.int .i64 (22)) rfl rfl ⟨by unfold rnE; simp_all, M⟩
  | false =>
    refine wl_call 30 [(.tmp 5)] _ [.int .i64 (x.sc)] (.bool false) rfl rfl (fun _ _ => by kernel_rfl) (cB hf0 (isc_n x.sc _)) rfl ?_
    intro u2 hq
    replace Q1 := Q1.mo hq
    replace M := M.trans hq
    clear hq
    refine wl_un (fun v => Op.unary .not v) (.tmp 6) (.bool false) (.bool true) (fun _ => rfl) rfl (by kernel_rfl) rfl ?_
    refine wl_mv (.tmp 7) (.bool true) (fun _ => rfl) rfl rfl ?_
    refine w_nil ?_
    refine xn_then ?_
    refine w_condT rfl ?_
    refine w_seq ?_
    refine w_reg ?_
    refine wl_mv (.const (.int .i64 (21))) (.int .i64 (21)) (fun _ => rfl) rfl rfl ?_
    refine w_nil ?_
    refine xn_then ?_
    refine w_ret ?_
    refine xr_blk ?_
    refine xr_then ?_
    exact w_ret1 _ (.int .i64 (21)) rfl rfl ⟨by unfold rnE; simp_all, M⟩
end Go.Proofs.Ytepfokoepibkcaa
namespace Go.Proofs.Ytepfokoepibkcaa
open Go.RowKit D
theorem addNN {a b : Nat} (h : a + b ≤ 4000000) (x y : Operand) (w : World) : (do eqGuard .add 3 x y (.int .i64 ((a : Nat) : Int)) (.int .i64 ((b : Nat) : Int)); binOp .add 3 (.int .i64 ((a : Nat) : Int)) (.int .i64 ((b : Nat) : Int))).run Try.prog w = .ok (.int .i64 ((a + b : Nat) : Int)) w := by
  have e : (do eqGuard .add 3 x y (.int .i64 ((a : Nat) : Int)) (.int .i64 ((b : Nat) : Int)); binOp .add 3 (.int .i64 ((a : Nat) : Int)) (.int .i64 ((b : Nat) : Int))).run Try.prog w = .ok (.int .i64 (IntKind.i64.wrap ((a : Int) + (b : Int)))) w := by kernel_rfl
  have h2 : IntKind.i64.wrap ((a : Int) + (b : Int)) = ((a + b : Nat) : Int) := by rw [IntKind.wrap_i64]; omega
  rw [e, h2]
theorem sum_le {x a : Ex} {i : Nat} (ha : x.args[i]? = some a) : (x.args.take i).foldl (fun n a => n + nd a) 1 + nd a ≤ nd x := by
  have h := sum_take x.args i a 1 ha
  rw [← nd_eq] at h
  exact h
/-- The first place at which something holds. -/
theorem fi_step {α : Type} {p : α → Bool} {L : List α} {i : Nat} {x : α} (h : (L.take i).findIdx? p = none) (hx : L[i]? = some x) (hp : p x = false) : (L.take (i + 1)).findIdx? p = none := by
  rw [List.take_add_one, hx, List.findIdx?_append, h]
  simp [hp]
theorem fi_hit {α : Type} {p : α → Bool} {L : List α} {i : Nat} {x : α} (h : (L.take i).findIdx? p = none) (hx : L[i]? = some x) (hp : p x = true) : L.findIdx? p = some i := by
  have hl : i < L.length := lt_of_get hx
  have e : L = L.take i ++ x :: L.drop (i + 1) := by
    conv => lhs; rw [← List.take_append_drop i L]
    rw [List.drop_eq_getElem_cons hl]
    congr 2
    exact (List.getElem?_eq_some_iff.1 hx).2
  rw [e, List.findIdx?_append, h, List.findIdx?_cons, hp]
  simp; omega
theorem fi_end {α : Type} {p : α → Bool} {L : List α} {i : Nat} (h : (L.take i).findIdx? p = none) (hi : i = L.length) : L.findIdx? p = none := by rw [hi, List.take_length] at h; exact h
/-- What comes of a search. -/
abbrev fiv (r : Option Nat) : Value := .tuple #[.int .i64 (((r.getD 0 : Nat)) : Int), .bool r.isSome]
theorem sz52 : (Try.prog.info? 52).map (·.size) = some 7 := by kernel_rfl
theorem sz71 : (Try.prog.info? 71).map (·.size) = some 2 := by kernel_rfl
theorem ix49 {pa : Option Addr} {b off i n c : Nat} (hp : pa = some ⟨b, off, none⟩) (h : i < n) (w : World) : (Instr.indexAt 49 (.slice pa n c) (.int .i64 (i : Int))).run Try.prog w = .ok (pt b (off + i * 2)) w := by
  subst hp
  have e : (Instr.indexAt 49 (.slice (some ⟨b, off, none⟩) n c) (.int .i64 (i : Int))).run Try.prog w = .ok (.pointer (some ((⟨b, off, none⟩ : Addr).add (i * 2)))) w := by simp [go_sem, h]
  rw [e, Addr.add_mid]
theorem len49 (ρ : Operand → Value) (x : Operand) (p : Option Addr) (m c : Nat) (hx : ρ x = .slice p m c) (dst : Option Tmp) (type : TypeId) (pos : String) (after : Array Edge) (guard : Option (Nat × Bool)) (w : World) : (execOp ρ { dst, op := .call { callee := .builtin .len, args := #[x], argTypes := #[49] }, type, pos, after, guard }).run Try.prog w = .ok (.value (.int .i64 (m : Int))) w := by
  simp [go_sem, hx]
theorem ix55 {pa : Option Addr} {b off i n c : Nat} (hp : pa = some ⟨b, off, none⟩) (h : i < n) (w : World) : (Instr.indexAt 55 (.slice pa n c) (.int .i64 (i : Int))).run Try.prog w = .ok (pt b (off + i * 5)) w := by
  subst hp
  have e : (Instr.indexAt 55 (.slice (some ⟨b, off, none⟩) n c) (.int .i64 (i : Int))).run Try.prog w = .ok (.pointer (some ((⟨b, off, none⟩ : Addr).add (i * 5)))) w := by simp [go_sem, h]
  rw [e, Addr.add_mid]
theorem len55 (ρ : Operand → Value) (x : Operand) (p : Option Addr) (m c : Nat) (hx : ρ x = .slice p m c) (dst : Option Tmp) (type : TypeId) (pos : String) (after : Array Edge) (guard : Option (Nat × Bool)) (w : World) : (execOp ρ { dst, op := .call { callee := .builtin .len, args := #[x], argTypes := #[55] }, type, pos, after, guard }).run Try.prog w = .ok (.value (.int .i64 (m : Int))) w := by
  simp [go_sem, hx]
theorem ix45 {pa : Option Addr} {b off i n c : Nat} (hp : pa = some ⟨b, off, none⟩) (h : i < n) (w : World) : (Instr.indexAt 45 (.slice pa n c) (.int .i64 (i : Int))).run Try.prog w = .ok (pt b (off + i * 23)) w := by
  subst hp
  have e : (Instr.indexAt 45 (.slice (some ⟨b, off, none⟩) n c) (.int .i64 (i : Int))).run Try.prog w = .ok (.pointer (some ((⟨b, off, none⟩ : Addr).add (i * 23)))) w := by simp [go_sem, h]
  rw [e, Addr.add_mid]
theorem len45 (ρ : Operand → Value) (x : Operand) (p : Option Addr) (m c : Nat) (hx : ρ x = .slice p m c) (dst : Option Tmp) (type : TypeId) (pos : String) (after : Array Edge) (guard : Option (Nat × Bool)) (w : World) : (execOp ρ { dst, op := .call { callee := .builtin .len, args := #[x], argTypes := #[45] }, type, pos, after, guard }).run Try.prog w = .ok (.value (.int .i64 (m : Int))) w := by
  simp [go_sem, hx]
theorem nodes_n : ∀ (x : Ex) {w : World}, LEx w x → nd x ≤ 4000000 → Calls Try.prog 29 #[.agg (x.cells).toArray] w fun e w' => e = .returned (.int .i64 ((nd x : Nat) : Int)) ∧ Mo w w' := by
  refine Ex.ind2 ?_
  intro x ih w hL hz
  refine w_enter 19 Try.func29 Try.ntmps29 rfl rfl ?_
  have M : Mo w w := Mo.refl _
  refine w_seq ?_
  refine w_reg ?_
  refine wl_box 38 (.tmp 0) (.agg (x.cells).toArray) (((x.cells).toArray)) rfl rfl (fun _ => by kernel_rfl) rfl ?_
  intro k1 u1 hk hz hq Q1
  have N_k1 : w.heap.size ≤ k1 := by have := M.size; omega
  replace M := M.trans hq
  clear hk hz hq
  refine wl_mv (.const (.int .i64 (0))) (.int .i64 (0)) (fun _ => rfl) rfl rfl ?_
  refine w_nil ?_
  refine xn_then ?_
  refine w_seq ?_
  refine w_reg ?_
  refine wl_mv (.const (.int .i64 (1))) (.int .i64 (1)) (fun _ => rfl) rfl rfl ?_
  refine w_nil ?_
  refine xn_then ?_
  refine w_seq ?_
  refine w_seq ?_
  refine w_reg ?_
  refine wl_un (fun v => Instr.fieldAt 38 v 7) (.tmp 1) (pt k1 0) (pt k1 16) (fun _ => rfl) rfl (by kernel_rfl) rfl ?_
  refine wl_load 36 (.tmp 6) (pt k1 16) (.slice x.pa x.args.length x.cap) rfl rfl (run_one Q1 36 16 rfl Try.underlying36 rfl) rfl ?_
  refine wl_val (.int .i64 ((x.args.length : Nat) : Int)) (len36 _ _ _ _ _ (by exact rfl) _ _ _ _ _ _) rfl ?_
  refine wl_mv (.const (.int .i64 (0))) (.int .i64 (0)) (fun _ => rfl) rfl rfl ?_
  refine w_nil ?_
  refine xn_then ?_
  refine w_block ?_
  have hz9 := hL.sl.1
  unfold maxLen at hz9
  refine w_loop (fun m l w1 => ∃ i : Nat, m = x.args.length - i ∧ i ≤ x.args.length ∧ look l 7 = .slice x.pa x.args.length x.cap ∧ look l 8 = .int .i64 ((x.args.length : Nat) : Int) ∧ look l 9 = .int .i64 ((i : Nat) : Int) ∧ (look l 3 = .int .i64 (((x.args.take i).foldl (fun n a => n + nd a) 1 : Nat) : Int)) ∧ Mo w w1) _ ⟨0, rfl, Nat.zero_le _, rfl, rfl, rfl, rfl, M⟩ ?_
  clear Q1 M
  rintro m l40 wl40 ⟨i, rfl, hi, e40_7, e40_8, e40_i, e3x, M⟩
  by_cases hil : i < x.args.length
  · skip
    have hid : decide (i < x.args.length) = true := decide_eq_true hil
    obtain ⟨a, ha⟩ := get_of_lt hil
    have hma := List.mem_of_getElem? ha
    obtain ⟨bp, op, hpp, hRp⟩ := D.SL.rw hL.sl ha
    refine w_seq ?_
    refine w_reg ?_
    refine wl_bin (fun x y => do eqGuard .lss 3 (.tmp 9) (.tmp 8) x y; binOp .lss 3 x y) (.tmp 9) (.tmp 8) (.int .i64 ((i : Nat) : Int)) (.int .i64 ((x.args.length : Nat) : Int)) (.bool true) (fun _ => rfl) e40_i e40_8 (ltN hid _ _ _) rfl ?_
    refine w_nil ?_
    refine xn_then ?_
    refine w_seq ?_
    refine w_condT rfl ?_
    refine w_skip ?_
    refine xn_then ?_
    refine w_seq ?_
    refine w_block ?_
    refine w_seq ?_
    refine w_reg ?_
    refine wl_bin (fun x y => Instr.indexAt 36 x y) (.tmp 7) (.tmp 9) (.slice x.pa x.args.length x.cap) (.int .i64 ((i : Nat) : Int)) (pt bp (op + i * 17)) (fun _ => rfl) e40_7 e40_i (ix36 (i := i) hpp hil _) rfl ?_
    refine wl_load 38 (.tmp 11) (pt bp (op + i * 17)) (.agg (a.cells).toArray) rfl rfl (D.run_partR (hRp.mo M).at' 38 0 17 (a.cells) rfl Try.underlying38 rfl sz38) rfl ?_
    refine wl_alloc 38 #[.int .i64 0, .int .i64 0, .string ⟨#[]⟩, .string ⟨#[]⟩, .int .i64 0, .bool false, .int .u64 0, .int .u64 0, .int .u64 0, .int .u64 0, .int .i64 0, .bool false, .string ⟨#[]⟩, .int .i64 0, .int .i64 0, .int .i64 0, .slice none 0 0] rfl (fun _ => by kernel_rfl) rfl ?_
    intro k2 u41 hk hz hq Q2
    have N_k2 : w.heap.size ≤ k2 := by have := M.size; omega
    replace M := M.trans hq
    clear hk hz hq
    refine wl_st 38 (.tmp 5) (.tmp 12) k2 0 ((a.cells).toArray) [.int .i64 0, .int .i64 0, .string ⟨#[]⟩, .string ⟨#[]⟩, .int .i64 0, .bool false, .int .u64 0, .int .u64 0, .int .u64 0, .int .u64 0, .int .i64 0, .bool false, .string ⟨#[]⟩, .int .i64 0, .int .i64 0, .int .i64 0, .slice none 0 0] (a.cells) Q2 rfl rfl rfl rfl rfl sz38 rfl rfl rfl ?_
    intro u42 hS Qn
    replace Q2 := Qn
    clear Qn
    replace M := hS.mo _ N_k2 M
    clear hS
    refine w_nil ?_
    refine xn_then ?_
    refine w_reg ?_
    refine wl_mv (.tmp 3) (.int .i64 (((x.args.take i).foldl (fun n a => n + nd a) 1 : Nat) : Int)) (fun _ => rfl) e3x rfl ?_
    refine wl_load 38 (.tmp 5) (pt k2 0) (.agg (a.cells).toArray) rfl rfl (run_row Q2 38 0 17 (a.cells) rfl Try.underlying38 rfl sz38) rfl ?_
    refine wl_call 29 [(.tmp 14)] _ [.agg (a.cells).toArray] (.int .i64 ((nd a : Nat) : Int)) rfl rfl (fun _ _ => by kernel_rfl) (ih a hma ((hL.ar a hma).kp M.kp) (by have := nd_arg ha; omega)) rfl ?_
    intro u43 hq
    replace Q2 := Q2.mo hq
    replace M := M.trans hq
    clear hq
    refine wl_bin (fun x y => do eqGuard .add 3 (.tmp 13) (.tmp 15) x y; binOp .add 3 x y) (.tmp 13) (.tmp 15) (.int .i64 (((x.args.take i).foldl (fun n a => n + nd a) 1 : Nat) : Int)) (.int .i64 ((nd a : Nat) : Int)) (.int .i64 (((x.args.take i).foldl (fun n a => n + nd a) 1 + nd a : Nat) : Int)) (fun _ => rfl) rfl rfl (addNN (by have := sum_le ha; omega) _ _ _) rfl ?_
    refine wl_mv (.tmp 16) (.int .i64 (((x.args.take i).foldl (fun n a => n + nd a) 1 + nd a : Nat) : Int)) (fun _ => rfl) rfl rfl ?_
    refine w_nil ?_
    refine xn_blk ?_
    refine xn_then ?_
    refine w_reg ?_
    refine wl_bin (fun x y => do eqGuard .add 3 (.tmp 9) (.const (.int .i64 (1))) x y; binOp .add 3 x y) (.tmp 9) (.const (.int .i64 (1))) (.int .i64 ((i : Nat) : Int)) (.int .i64 (1)) (.int .i64 ((i + 1 : Nat) : Int)) (fun _ => rfl) e40_i rfl (add1r (k := i) (by omega) _ _ _) rfl ?_
    refine wl_mv (.tmp 17) (.int .i64 ((i + 1 : Nat) : Int)) (fun _ => rfl) rfl rfl ?_
    refine w_nil ?_
    exact xn_loop (x.args.length - (i + 1)) (by omega) ⟨i + 1, rfl, by omega, e40_7, e40_8, rfl, by rw [foldl_s ha]; rfl, M⟩
  · skip
    have hid : decide (i < x.args.length) = false := decide_eq_false hil
    have hie : i = x.args.length := by omega
    refine w_seq ?_
    refine w_reg ?_
    refine wl_bin (fun x y => do eqGuard .lss 3 (.tmp 9) (.tmp 8) x y; binOp .lss 3 x y) (.tmp 9) (.tmp 8) (.int .i64 ((i : Nat) : Int)) (.int .i64 ((x.args.length : Nat) : Int)) (.bool false) (fun _ => rfl) e40_i e40_8 (ltN hid _ _ _) rfl ?_
    refine w_nil ?_
    refine xn_then ?_
    refine w_seq ?_
    refine w_condF rfl ?_
    refine w_exit ?_
    refine xx_then ?_
    refine xx_then ?_
    refine xx_blk ?_
    refine xn_then ?_
    refine w_seq ?_
    refine w_reg ?_
    refine wl_mv (.tmp 3) (.int .i64 (((x.args.take i).foldl (fun n a => n + nd a) 1 : Nat) : Int)) (fun _ => rfl) e3x rfl ?_
    refine wl_mv (.tmp 18) (.int .i64 (((x.args.take i).foldl (fun n a => n + nd a) 1 : Nat) : Int)) (fun _ => rfl) rfl rfl ?_
    refine w_nil ?_
    refine xn_then ?_
    refine w_ret ?_
    exact w_ret1 _ (.int .i64 (((x.args.take i).foldl (fun n a => n + nd a) 1 : Nat) : Int)) rfl rfl ⟨by rw [nd_eq, hie, List.take_length], M⟩
theorem table_n {d : Df} {w : World} (hD : LDf w d) (nm : ByteArray) : Calls Try.prog 89 #[.agg (d.cells).toArray, .string nm] w fun e w' => e = .returned (fiv (d.tb.findIdx? (fun t : Tb => decide (t.nm = nm)))) ∧ Mo w w' := by
  refine w_enter 23 Try.func89 Try.ntmps89 rfl rfl ?_
  have M : Mo w w := Mo.refl _
  refine w_seq ?_
  refine w_reg ?_
  refine wl_box 52 (.tmp 0) (.agg (d.cells).toArray) (((d.cells).toArray)) rfl rfl (fun _ => by kernel_rfl) rfl ?_
  intro k1 u1 hk hz hq Q1
  have N_k1 : w.heap.size ≤ k1 := by have := M.size; omega
  replace M := M.trans hq
  clear hk hz hq
  refine wl_mv (.const (.int .i64 (0))) (.int .i64 (0)) (fun _ => rfl) rfl rfl ?_
  refine wl_mv (.const (.bool false)) (.bool false) (fun _ => rfl) rfl rfl ?_
  refine w_nil ?_
  refine xn_then ?_
  refine w_seq ?_
  refine w_seq ?_
  refine w_reg ?_
  refine wl_un (fun v => Instr.fieldAt 52 v 2) (.tmp 2) (pt k1 0) (pt k1 5) (fun _ => rfl) rfl (by kernel_rfl) rfl ?_
  refine wl_load 49 (.tmp 7) (pt k1 5) (.slice d.pt d.tb.length d.ct) rfl rfl (run_one Q1 49 5 rfl Try.underlying49 rfl) rfl ?_
  refine wl_val (.int .i64 ((d.tb.length : Nat) : Int)) (len49 _ _ _ _ _ (by exact rfl) _ _ _ _ _ _) rfl ?_
  refine wl_mv (.const (.int .i64 (0))) (.int .i64 (0)) (fun _ => rfl) rfl rfl ?_
  refine w_nil ?_
  refine xn_then ?_
  refine w_block ?_
  have hz9 := hD.tb.1
  unfold maxLen at hz9
  refine w_loop (fun m l w1 => ∃ i : Nat, m = d.tb.length - i ∧ i ≤ d.tb.length ∧ look l 1 = .string nm ∧ look l 2 = pt k1 0 ∧ look l 8 = .slice d.pt d.tb.length d.ct ∧ look l 9 = .int .i64 ((d.tb.length : Nat) : Int) ∧ look l 10 = .int .i64 ((i : Nat) : Int) ∧ At w1 k1 (d.cells) ∧ ((d.tb.take i).findIdx? (fun t : Tb => decide (t.nm = nm)) = none) ∧ Mo w w1) _ ⟨0, rfl, Nat.zero_le _, rfl, rfl, rfl, rfl, rfl, Q1, rfl, M⟩ ?_
  clear Q1 M
  rintro m l40 wl40 ⟨i, rfl, hi, e40_1, e40_2, e40_8, e40_9, e40_i, Q1, hT, M⟩
  by_cases hil : i < d.tb.length
  · skip
    have hid : decide (i < d.tb.length) = true := decide_eq_true hil
    obtain ⟨y, hy⟩ := get_of_lt hil
    obtain ⟨bp, op, hpp, hRp⟩ := D.SL.rw hD.tb hy
    refine w_seq ?_
    refine w_reg ?_
    refine wl_bin (fun x y => do eqGuard .lss 3 (.tmp 10) (.tmp 9) x y; binOp .lss 3 x y) (.tmp 10) (.tmp 9) (.int .i64 ((i : Nat) : Int)) (.int .i64 ((d.tb.length : Nat) : Int)) (.bool true) (fun _ => rfl) e40_i e40_9 (ltN hid _ _ _) rfl ?_
    refine w_nil ?_
    refine xn_then ?_
    refine w_seq ?_
    refine w_condT rfl ?_
    refine w_skip ?_
    refine xn_then ?_
    refine w_seq ?_
    refine w_block ?_
    refine w_seq ?_
    refine w_reg ?_
    refine wl_mv (.tmp 10) (.int .i64 ((i : Nat) : Int)) (fun _ => rfl) e40_i rfl ?_
    refine wl_mv (.tmp 12) (.int .i64 ((i : Nat) : Int)) (fun _ => rfl) rfl rfl ?_
    refine w_nil ?_
    refine xn_then ?_
    refine w_seq ?_
    refine w_reg ?_
    refine wl_un (fun v => Instr.fieldAt 52 v 2) (.tmp 2) (pt k1 0) (pt k1 5) (fun _ => rfl) e40_2 (by kernel_rfl) rfl ?_
    refine wl_load 49 (.tmp 13) (pt k1 5) (.slice d.pt d.tb.length d.ct) rfl rfl (run_one Q1 49 5 rfl Try.underlying49 rfl) rfl ?_
    refine wl_mv (.tmp 6) (.int .i64 ((i : Nat) : Int)) (fun _ => rfl) rfl rfl ?_
    refine wl_bin (fun x y => Instr.indexAt 49 x y) (.tmp 14) (.tmp 15) (.slice d.pt d.tb.length d.ct) (.int .i64 ((i : Nat) : Int)) (pt bp (op + i * 2)) (fun _ => rfl) rfl rfl (ix49 (i := i) hpp hil _) rfl ?_
    refine wl_un (fun v => Instr.fieldAt 71 v 0) (.tmp 16) (pt bp (op + i * 2)) (pt bp (op + i * 2)) (fun _ => rfl) rfl (by kernel_rfl) rfl ?_
    refine wl_load 9 (.tmp 17) (pt bp (op + i * 2)) (.string y.nm) rfl rfl (D.run_oneR (hRp.mo M).at' 9 0 rfl Try.underlying9 rfl) rfl ?_
    refine wl_mv (.tmp 1) (.string nm) (fun _ => rfl) e40_1 rfl ?_
    cases hf30 : decide (y.nm = nm) with
    | true =>
      have hf30p := of_decide_eq_true hf30
      refine wl_bin (fun x y => do eqGuard .eql 9 (.tmp 18) (.tmp 19) x y; binOp .eql 9 x y) (.tmp 18) (.tmp 19) (.string y.nm) (.string nm) (.bool true) (fun _ => rfl) rfl rfl (s9 hf30 _ _ _) rfl ?_
      refine w_nil ?_
      refine xn_then ?_
      refine w_condT rfl ?_
      refine w_seq ?_
      refine w_reg ?_
      refine wl_mv (.tmp 6) (.int .i64 ((i : Nat) : Int)) (fun _ => rfl) rfl rfl ?_
      refine wl_mv (.tmp 21) (.int .i64 ((i : Nat) : Int)) (fun _ => rfl) rfl rfl ?_
      refine wl_mv (.const (.bool true)) (.bool true) (fun _ => rfl) rfl rfl ?_
      refine w_nil ?_
      refine xn_then ?_
      refine w_ret ?_
      refine xr_blk ?_
      refine xr_then ?_
      refine xr_then ?_
      refine xr_blk ?_
      refine xr_then ?_
      exact w_ret2 _ _ (.int .i64 ((i : Nat) : Int)) (.bool true) rfl rfl rfl ⟨by rw [fi_hit (p := (fun t : Tb => decide (t.nm = nm))) hT hy hf30]; rfl, M⟩
    | false =>
      have hf30p := of_decide_eq_false hf30
      refine wl_bin (fun x y => do eqGuard .eql 9 (.tmp 18) (.tmp 19) x y; binOp .eql 9 x y) (.tmp 18) (.tmp 19) (.string y.nm) (.string nm) (.bool false) (fun _ => rfl) rfl rfl (s9 hf30 _ _ _) rfl ?_
      refine w_nil ?_
      refine xn_then ?_
      refine w_condF rfl ?_
      refine w_skip ?_
      refine xn_blk ?_
      refine xn_then ?_
      refine w_reg ?_
      refine wl_bin (fun x y => do eqGuard .add 3 (.tmp 10) (.const (.int .i64 (1))) x y; binOp .add 3 x y) (.tmp 10) (.const (.int .i64 (1))) (.int .i64 ((i : Nat) : Int)) (.int .i64 (1)) (.int .i64 ((i + 1 : Nat) : Int)) (fun _ => rfl) e40_i rfl (add1r (k := i) (by omega) _ _ _) rfl ?_
      refine wl_mv (.tmp 22) (.int .i64 ((i + 1 : Nat) : Int)) (fun _ => rfl) rfl rfl ?_
      refine w_nil ?_
      exact xn_loop (d.tb.length - (i + 1)) (by omega) ⟨i + 1, rfl, by omega, e40_1, e40_2, e40_8, e40_9, rfl, Q1, fi_step (p := (fun t : Tb => decide (t.nm = nm))) hT hy hf30, M⟩
  · skip
    have hid : decide (i < d.tb.length) = false := decide_eq_false hil
    have hie : i = d.tb.length := by omega
    refine w_seq ?_
    refine w_reg ?_
    refine wl_bin (fun x y => do eqGuard .lss 3 (.tmp 10) (.tmp 9) x y; binOp .lss 3 x y) (.tmp 10) (.tmp 9) (.int .i64 ((i : Nat) : Int)) (.int .i64 ((d.tb.length : Nat) : Int)) (.bool false) (fun _ => rfl) e40_i e40_9 (ltN hid _ _ _) rfl ?_
    refine w_nil ?_
    refine xn_then ?_
    refine w_seq ?_
    refine w_condF rfl ?_
    refine w_exit ?_
    refine xx_then ?_
    refine xx_then ?_
    refine xx_blk ?_
    refine xn_then ?_
    refine w_seq ?_
    refine w_reg ?_
    refine wl_mv (.const (.int .i64 (0))) (.int .i64 (0)) (fun _ => rfl) rfl rfl ?_
    refine wl_mv (.const (.bool false)) (.bool false) (fun _ => rfl) rfl rfl ?_
    refine w_nil ?_
    refine xn_then ?_
    refine w_ret ?_
    exact w_ret2 _ _ (.int .i64 (0)) (.bool false) rfl rfl rfl ⟨by rw [fi_end hT hie]; rfl, M⟩
theorem kid_n {pa : Option Addr} {c : Nat} {L : List S5} {w : World} (hS : SL w 5 S5.cells pa L) (s : Int) (nm : ByteArray) : Calls Try.prog 99 #[.slice pa L.length c, .int .i64 s, .string nm] w fun e w' => e = .returned (fiv (L.findIdx? (fun y : S5 => decide (y.pr = s) && decide (y.nm = nm)))) ∧ Mo w w' := by
  refine w_enter 32 Try.func99 Try.ntmps99 rfl rfl ?_
  have M : Mo w w := Mo.refl _
  refine w_seq ?_
  refine w_reg ?_
  refine wl_mv (.const (.int .i64 (0))) (.int .i64 (0)) (fun _ => rfl) rfl rfl ?_
  refine wl_mv (.const (.bool false)) (.bool false) (fun _ => rfl) rfl rfl ?_
  refine w_nil ?_
  refine xn_then ?_
  refine w_seq ?_
  refine w_seq ?_
  refine w_reg ?_
  refine wl_mv (.tmp 0) (.slice pa L.length c) (fun _ => rfl) rfl rfl ?_
  refine wl_val (.int .i64 ((L.length : Nat) : Int)) (len55 _ _ _ _ _ (by exact rfl) _ _ _ _ _ _) rfl ?_
  refine wl_mv (.const (.int .i64 (0))) (.int .i64 (0)) (fun _ => rfl) rfl rfl ?_
  refine w_nil ?_
  refine xn_then ?_
  refine w_block ?_
  have hz9 := hS.1
  unfold maxLen at hz9
  refine w_loop (fun m l w1 => ∃ i : Nat, m = L.length - i ∧ i ≤ L.length ∧ look l 0 = .slice pa L.length c ∧ look l 1 = .int .i64 (s) ∧ look l 2 = .string nm ∧ look l 10 = .int .i64 ((L.length : Nat) : Int) ∧ look l 11 = .int .i64 ((i : Nat) : Int) ∧ ((L.take i).findIdx? (fun y : S5 => decide (y.pr = s) && decide (y.nm = nm)) = none) ∧ Mo w w1) _ ⟨0, rfl, Nat.zero_le _, rfl, rfl, rfl, rfl, rfl, rfl, M⟩ ?_
  clear M
  rintro m l40 wl40 ⟨i, rfl, hi, e40_0, e40_1, e40_2, e40_10, e40_i, hT, M⟩
  by_cases hil : i < L.length
  · skip
    have hid : decide (i < L.length) = true := decide_eq_true hil
    obtain ⟨y, hy⟩ := get_of_lt hil
    obtain ⟨bp, op, hpp, hRp⟩ := D.SL.rw hS hy
    refine w_seq ?_
    refine w_reg ?_
    refine wl_bin (fun x y => do eqGuard .lss 3 (.tmp 11) (.tmp 10) x y; binOp .lss 3 x y) (.tmp 11) (.tmp 10) (.int .i64 ((i : Nat) : Int)) (.int .i64 ((L.length : Nat) : Int)) (.bool true) (fun _ => rfl) e40_i e40_10 (ltN hid _ _ _) rfl ?_
    refine w_nil ?_
    refine xn_then ?_
    refine w_seq ?_
    refine w_condT rfl ?_
    refine w_skip ?_
    refine xn_then ?_
    refine w_seq ?_
    refine w_block ?_
    refine w_seq ?_
    refine w_reg ?_
    refine wl_mv (.tmp 11) (.int .i64 ((i : Nat) : Int)) (fun _ => rfl) e40_i rfl ?_
    refine wl_mv (.tmp 13) (.int .i64 ((i : Nat) : Int)) (fun _ => rfl) rfl rfl ?_
    refine w_nil ?_
    refine xn_then ?_
    refine w_seq ?_
    refine w_reg ?_
    refine wl_mv (.tmp 0) (.slice pa L.length c) (fun _ => rfl) e40_0 rfl ?_
    refine wl_mv (.tmp 8) (.int .i64 ((i : Nat) : Int)) (fun _ => rfl) rfl rfl ?_
    refine wl_bin (fun x y => Instr.indexAt 55 x y) (.tmp 14) (.tmp 15) (.slice pa L.length c) (.int .i64 ((i : Nat) : Int)) (pt bp (op + i * 5)) (fun _ => rfl) rfl rfl (ix55 (i := i) hpp hil _) rfl ?_
    refine wl_un (fun v => Instr.fieldAt 62 v 0) (.tmp 16) (pt bp (op + i * 5)) (pt bp (op + i * 5)) (fun _ => rfl) rfl (by kernel_rfl) rfl ?_
    refine wl_load 3 (.tmp 17) (pt bp (op + i * 5)) (.int .i64 (y.pr)) rfl rfl (D.run_oneR (hRp.mo M).at' 3 0 rfl Try.underlying3 rfl) rfl ?_
    refine wl_mv (.tmp 1) (.int .i64 (s)) (fun _ => rfl) e40_1 rfl ?_
    cases hf30 : decide (y.pr = s) with
    | true =>
      have hf30p := of_decide_eq_true hf30
      refine wl_bin (fun x y => do eqGuard .eql 3 (.tmp 18) (.tmp 19) x y; binOp .eql 3 x y) (.tmp 18) (.tmp 19) (.int .i64 (y.pr)) (.int .i64 (s)) (.bool true) (fun _ => rfl) rfl rfl (eq3 hf30 _ _ _) rfl ?_
      refine wl_mv (.tmp 20) (.bool true) (fun _ => rfl) rfl rfl ?_
      refine wl_mv (.tmp 0) (.slice pa L.length c) (fun _ => rfl) e40_0 rfl ?_
      refine wl_mv (.tmp 8) (.int .i64 ((i : Nat) : Int)) (fun _ => rfl) rfl rfl ?_
      refine wl_bin (fun x y => Instr.indexAt 55 x y) (.tmp 22) (.tmp 23) (.slice pa L.length c) (.int .i64 ((i : Nat) : Int)) (pt bp (op + i * 5)) (fun _ => rfl) rfl rfl (ix55 (i := i) hpp hil _) rfl ?_
      refine wl_un (fun v => Instr.fieldAt 62 v 2) (.tmp 24) (pt bp (op + i * 5)) (pt bp (op + i * 5 + 2)) (fun _ => rfl) rfl (by kernel_rfl) rfl ?_
      refine wl_load 9 (.tmp 25) (pt bp (op + i * 5 + 2)) (.string y.nm) rfl rfl (D.run_oneR (hRp.mo M).at' 9 2 rfl Try.underlying9 rfl) rfl ?_
      refine wl_mv (.tmp 2) (.string nm) (fun _ => rfl) e40_2 rfl ?_
      cases hf31 : decide (y.nm = nm) with
      | true =>
        have hf31p := of_decide_eq_true hf31
        refine wl_bin (fun x y => do eqGuard .eql 9 (.tmp 26) (.tmp 27) x y; binOp .eql 9 x y) (.tmp 26) (.tmp 27) (.string y.nm) (.string nm) (.bool true) (fun _ => rfl) rfl rfl (s9 hf31 _ _ _) rfl ?_
        refine wl_pick (.tmp 21) (.tmp 28) (.const (.bool false)) true (.bool true) (fun _ => rfl) rfl rfl rfl ?_
        refine w_nil ?_
        refine xn_then ?_
        refine w_condT rfl ?_
        refine w_seq ?_
        refine w_reg ?_
        refine wl_mv (.tmp 8) (.int .i64 ((i : Nat) : Int)) (fun _ => rfl) rfl rfl ?_
        refine wl_mv (.tmp 30) (.int .i64 ((i : Nat) : Int)) (fun _ => rfl) rfl rfl ?_
        refine wl_mv (.const (.bool true)) (.bool true) (fun _ => rfl) rfl rfl ?_
        refine w_nil ?_
        refine xn_then ?_
        refine w_ret ?_
        refine xr_blk ?_
        refine xr_then ?_
        refine xr_then ?_
        refine xr_blk ?_
        refine xr_then ?_
        exact w_ret2 _ _ (.int .i64 ((i : Nat) : Int)) (.bool true) rfl rfl rfl ⟨by rw [fi_hit (p := (fun y : S5 => decide (y.pr = s) && decide (y.nm = nm))) hT hy (by show (decide (y.pr = s) && decide (y.nm = nm)) = true; rw [hf30, hf31]; rfl)]; rfl, M⟩
      | false =>
        have hf31p := of_decide_eq_false hf31
        refine wl_bin (fun x y => do eqGuard .eql 9 (.tmp 26) (.tmp 27) x y; binOp .eql 9 x y) (.tmp 26) (.tmp 27) (.string y.nm) (.string nm) (.bool false) (fun _ => rfl) rfl rfl (s9 hf31 _ _ _) rfl ?_
        refine wl_pick (.tmp 21) (.tmp 28) (.const (.bool false)) true (.bool false) (fun _ => rfl) rfl rfl rfl ?_
        refine w_nil ?_
        refine xn_then ?_
        refine w_condF rfl ?_
        refine w_skip ?_
        refine xn_blk ?_
        refine xn_then ?_
        refine w_reg ?_
        refine wl_bin (fun x y => do eqGuard .add 3 (.tmp 11) (.const (.int .i64 (1))) x y; binOp .add 3 x y) (.tmp 11) (.const (.int .i64 (1))) (.int .i64 ((i : Nat) : Int)) (.int .i64 (1)) (.int .i64 ((i + 1 : Nat) : Int)) (fun _ => rfl) e40_i rfl (add1r (k := i) (by omega) _ _ _) rfl ?_
        refine wl_mv (.tmp 31) (.int .i64 ((i + 1 : Nat) : Int)) (fun _ => rfl) rfl rfl ?_
        refine w_nil ?_
        exact xn_loop (L.length - (i + 1)) (by omega) ⟨i + 1, rfl, by omega, e40_0, e40_1, e40_2, e40_10, rfl, fi_step (p := (fun y : S5 => decide (y.pr = s) && decide (y.nm = nm))) hT hy (by show (decide (y.pr = s) && decide (y.nm = nm)) = false; rw [hf30, hf31]; rfl), M⟩
    | false =>
      have hf30p := of_decide_eq_false hf30
      refine wl_bin (fun x y => do eqGuard .eql 3 (.tmp 18) (.tmp 19) x y; binOp .eql 3 x y) (.tmp 18) (.tmp 19) (.int .i64 (y.pr)) (.int .i64 (s)) (.bool false) (fun _ => rfl) rfl rfl (eq3 hf30 _ _ _) rfl ?_
      refine wl_mv (.tmp 20) (.bool false) (fun _ => rfl) rfl rfl ?_
      refine wl_skip rfl ?_
      refine wl_skip rfl ?_
      refine wl_skip rfl ?_
      refine wl_skip rfl ?_
      refine wl_skip rfl ?_
      refine wl_skip rfl ?_
      refine wl_skip rfl ?_
      refine wl_pick (.tmp 21) (.tmp 28) (.const (.bool false)) false (.bool false) (fun _ => rfl) rfl rfl rfl ?_
      refine w_nil ?_
      refine xn_then ?_
      refine w_condF rfl ?_
      refine w_skip ?_
      refine xn_blk ?_
      refine xn_then ?_
      refine w_reg ?_
      refine wl_bin (fun x y => do eqGuard .add 3 (.tmp 11) (.const (.int .i64 (1))) x y; binOp .add 3 x y) (.tmp 11) (.const (.int .i64 (1))) (.int .i64 ((i : Nat) : Int)) (.int .i64 (1)) (.int .i64 ((i + 1 : Nat) : Int)) (fun _ => rfl) e40_i rfl (add1r (k := i) (by omega) _ _ _) rfl ?_
      refine wl_mv (.tmp 31) (.int .i64 ((i + 1 : Nat) : Int)) (fun _ => rfl) rfl rfl ?_
      refine w_nil ?_
      exact xn_loop (L.length - (i + 1)) (by omega) ⟨i + 1, rfl, by omega, e40_0, e40_1, e40_2, e40_10, rfl, fi_step (p := (fun y : S5 => decide (y.pr = s) && decide (y.nm = nm))) hT hy (by show (decide (y.pr = s) && decide (y.nm = nm)) = false; rw [hf30]; rfl), M⟩
  · skip
    have hid : decide (i < L.length) = false := decide_eq_false hil
    have hie : i = L.length := by omega
    refine w_seq ?_
    refine w_reg ?_
    refine wl_bin (fun x y => do eqGuard .lss 3 (.tmp 11) (.tmp 10) x y; binOp .lss 3 x y) (.tmp 11) (.tmp 10) (.int .i64 ((i : Nat) : Int)) (.int .i64 ((L.length : Nat) : Int)) (.bool false) (fun _ => rfl) e40_i e40_10 (ltN hid _ _ _) rfl ?_
    refine w_nil ?_
    refine xn_then ?_
    refine w_seq ?_
    refine w_condF rfl ?_
    refine w_exit ?_
    refine xx_then ?_
    refine xx_then ?_
    refine xx_blk ?_
    refine xn_then ?_
    refine w_seq ?_
    refine w_reg ?_
    refine wl_mv (.const (.int .i64 (0))) (.int .i64 (0)) (fun _ => rfl) rfl rfl ?_
    refine wl_mv (.const (.bool false)) (.bool false) (fun _ => rfl) rfl rfl ?_
    refine w_nil ?_
    refine xn_then ?_
    refine w_ret ?_
    exact w_ret2 _ _ (.int .i64 (0)) (.bool false) rfl rfl rfl ⟨by rw [fi_end hT hie]; rfl, M⟩
end Go.Proofs.Ytepfokoepibkcaa
namespace Go.Proofs.Ytepfokoepibkcaa
open Go.RowKit D
/-- Each section's parent comes ahead of it. -/
def Wf (L : List S5) : Prop := ∀ (i : Nat) (x : S5), L[i]? = some x → x.pr < i ∧ -1 ≤ x.pr
def pIt (nm : ByteArray) (y : It) : Bool := decide (y.nm = nm) && cbr y.k
/-- Find, from the section below a number. -/
def fnF (L : List S5) (nm : ByteArray) : Nat → Option (Nat × Nat)
  | 0 => none
  | n + 1 => match L[n]? with
    | none => none
    | some x => match x.items.findIdx? (pIt nm) with
      | some i => some (n, i)
      | none => fnF L nm (min n (x.pr + 1).toNat)
theorem fnF_hit {L : List S5} {nm : ByteArray} {k i : Nat} {x : S5} (hx : L[k]? = some x) (hi : x.items.findIdx? (pIt nm) = some i) : fnF L nm (k + 1) = some (k, i) := by rw [fnF]; simp only [hx, hi]
theorem fnF_up {L : List S5} {nm : ByteArray} {k : Nat} {x : S5} (hW : Wf L) (hx : L[k]? = some x) (hi : x.items.findIdx? (pIt nm) = none) : fnF L nm (k + 1) = fnF L nm (x.pr + 1).toNat := by
  have h := hW k x hx
  rw [fnF]; simp only [hx, hi]
  rw [Nat.min_eq_right (by omega)]
abbrev fnv (r : Option (Nat × Nat)) : Value := .tuple #[.int .i64 (((r.getD (0, 0)).1 : Nat) : Int), .int .i64 (((r.getD (0, 0)).2 : Nat) : Int), .bool r.isSome]
theorem inf4 : ∃ i, Try.prog.info? 4 = some i ∧ i.zero = some (.bool false) ∧ i.size = 1 ∧ i.bytes = 1 := by
  have h : (Try.prog.info? 4).map (fun i => (i.zero, i.size, i.bytes)) = some (some (.bool false), 1, 1) := by kernel_rfl
  cases hi : Try.prog.info? 4 with
  | none => rw [hi] at h; cases h
  | some i =>
    rw [hi] at h
    simp at h
    exact ⟨i, rfl, h.1, h.2.1, h.2.2⟩
theorem ix165 {pa : Option Addr} {b off i n c : Nat} (hp : pa = some ⟨b, off, none⟩) (h : i < n) (w : World) : (Instr.indexAt 165 (.slice pa n c) (.int .i64 (i : Int))).run Try.prog w = .ok (pt b (off + i * 1)) w := by
  subst hp
  have e : (Instr.indexAt 165 (.slice (some ⟨b, off, none⟩) n c) (.int .i64 (i : Int))).run Try.prog w = .ok (.pointer (some ((⟨b, off, none⟩ : Addr).add (i * 1)))) w := by simp [go_sem, h]
  rw [e, Addr.add_mid]
section
variable {o : Oper} {n : Nat} {l : List (Nat × Value)} {w : World} {ops : Array Oper} {rest : List Oper} {Q : Exit → Act → World → Prop}
theorem wl_mkb (x : Operand) (q : Nat) (hq : q ≤ 4000000) (ho : o.op = .makeSlice 165 x x) (hx : evl n l x = .int .i64 (q : Int)) (hg : wnt n l ops o = true)
    (hk : ∀ k w' vs, w.heap.size = k → Mo w w' → At w' k vs → vs.length = q → (∀ j, j < q → vs[j]? = some (.bool false)) → WL Try.prog ops Q rest n (ext l o.dst (.slice (some ⟨k, 0, none⟩) q q)) w') : WL Try.prog ops Q (o :: rest) n l w := by
  obtain ⟨i, hi, hz, hs, hb⟩ := inf4
  have hr := run_make (P := Try.prog) w 165 4 i _ Try.underlying165 hi hz .i64 .i64 q q (by omega) (by omega) (by rw [hb]; omega) (by omega)
  simp only [Int.toNat_natCast, hs, Nat.mul_one] at hr
  refine ⟨l_step hg (o_val (.slice (some ⟨w.heap.size, 0, none⟩) q q) (w' := w.alloc (.cells (madeCells (Value.cells (.bool false)) q) 4)) (by simp [execOp, ho, hx, hr]) (hk _ _ (madeCells (Value.cells (.bool false)) q).toList rfl ((Mo.refl _).alloc _ _) (At.new w _ 4) (by simp [size_madeCells]) (fun j hj => ?_)).out)⟩
  have e : (madeCells (Value.cells (.bool false)) q).toList[j]? = some ((Value.cells (.bool false))[j % 1]!) := by simp [madeCells, hj]; rfl
  rw [e, Nat.mod_one]; rfl
end
section
variable {P : Program} {n : Nat} {l : List (Nat × Value)} {w : World}
theorem w_ret3 {fn : Func} {R : Ending → World → Prop} (x y z : ResultVar) (v u s : Value) (hf : fn.results = #[x, y, z]) (h : resv n l P w v x) (g : resv n l P w u y) (k : resv n l P w s z) (hR : R (.returned (.tuple #[v, u, s])) w) : WX (bodyPost P fn R) .ret n l w := by
  refine ⟨bodyPost_ret (v := .tuple #[v, u, s]) ?_ rfl hR⟩
  cases x with
  | cell a t => cases y <;> cases z <;> first | (obtain ⟨_, h1, h2⟩ := resv_cell h; first | (have g1 := resv_tmp g; first | (have k1 := resv_tmp k; simp [results, hf, h1, h2, g1, k1, asAddr]) | (obtain ⟨_, k1, k2⟩ := resv_cell k; simp [results, hf, h1, h2, g1, k1, k2, asAddr])) | (obtain ⟨_, g1, g2⟩ := resv_cell g; first | (have k1 := resv_tmp k; simp [results, hf, h1, h2, g1, g2, k1, asAddr]) | (obtain ⟨_, k1, k2⟩ := resv_cell k; simp [results, hf, h1, h2, g1, g2, k1, k2, asAddr])))
  | tmp t => cases y <;> cases z <;> first | (have h1 := resv_tmp h; first | (have g1 := resv_tmp g; first | (have k1 := resv_tmp k; simp [results, hf, h1, g1, k1]) | (obtain ⟨_, k1, k2⟩ := resv_cell k; simp [results, hf, h1, g1, k1, k2, asAddr])) | (obtain ⟨_, g1, g2⟩ := resv_cell g; first | (have k1 := resv_tmp k; simp [results, hf, h1, g1, g2, k1, asAddr]) | (obtain ⟨_, k1, k2⟩ := resv_cell k; simp [results, hf, h1, g1, g2, k1, k2, asAddr])))
end
theorem sn_set {w : World} {kS k q : Nat} {vs : List Value} (h : At w kS (vs.take (0 + k * 1) ++ [.bool true] ++ vs.drop (0 + k * 1 + 1))) (hl : vs.length = q) (hk : k < q) (hf : ∀ j, j < k + 1 → vs[j]? = some (.bool false)) : ∃ vs2, At w kS vs2 ∧ vs2.length = q ∧ ∀ j, j < k → vs2[j]? = some (.bool false) := by
  refine ⟨_, h, by simp; omega, fun j hj => ?_⟩
  rw [List.append_assoc, List.getElem?_append_left (by simp; omega), List.getElem?_take, if_pos (by omega)]
  exact hf j (by omega)
theorem find_s {pa : Option Addr} {c : Nat} {L : List S5} {w : World} (hS : SL w 5 S5.cells pa L) (hI : ∀ x ∈ L, SL w 23 It.cells x.pi x.items) (hW : Wf L) (hn : L.length ≤ 4000000) (s : Nat) (hs : s < L.length) (nm : ByteArray) : Calls Try.prog 98 #[.slice pa L.length c, .int .i64 ((s : Nat) : Int), .string nm] w fun e w' => e = .returned (fnv (fnF L nm (s + 1))) ∧ Mo w w' := by
  refine w_enter 66 Try.func98 Try.ntmps98 rfl rfl ?_
  have M : Mo w w := Mo.refl _
  refine w_seq ?_
  refine w_reg ?_
  refine wl_mv (.const (.int .i64 (0))) (.int .i64 (0)) (fun _ => rfl) rfl rfl ?_
  refine wl_mv (.const (.int .i64 (0))) (.int .i64 (0)) (fun _ => rfl) rfl rfl ?_
  refine wl_mv (.const (.bool false)) (.bool false) (fun _ => rfl) rfl rfl ?_
  refine w_nil ?_
  refine xn_then ?_
  refine w_seq ?_
  refine w_reg ?_
  refine wl_mv (.tmp 0) (.slice pa L.length c) (fun _ => rfl) rfl rfl ?_
  refine wl_val (.int .i64 ((L.length : Nat) : Int)) (len55 _ _ _ _ _ (by exact rfl) _ _ _ _ _ _) rfl ?_
  refine wl_mkb (.tmp 13) L.length hn rfl rfl rfl ?_
  intro kS u1 vs hk hq aS hvl hvf
  have N_kS : w.heap.size ≤ kS := by have := M.size; omega
  replace M := M.trans hq
  clear hk hq
  refine wl_mv (.tmp 14) (.slice (some ⟨kS, 0, none⟩) L.length L.length) (fun _ => rfl) rfl rfl ?_
  refine w_nil ?_
  refine xn_then ?_
  refine w_seq ?_
  refine w_block ?_
  refine w_loop (fun m l w1 => ∃ (a : Int) (vs : List Value), m = (a + 1).toNat ∧ -1 ≤ a ∧ a < L.length ∧ look l 0 = .slice pa L.length c ∧ look l 1 = .int .i64 a ∧ look l 2 = .string nm ∧ look l 9 = .slice (some ⟨kS, 0, none⟩) L.length L.length ∧ At w1 kS vs ∧ vs.length = L.length ∧ (∀ j : Nat, j < (a + 1).toNat → vs[j]? = some (.bool false)) ∧ fnF L nm (s + 1) = fnF L nm (a + 1).toNat ∧ Mo w w1) _ ⟨(s : Int), vs, rfl, by omega, by omega, rfl, rfl, rfl, rfl, aS, hvl, fun j hj => hvf j (by omega), rfl, M⟩ ?_
  clear aS M hvl hvf vs
  rintro m l wl ⟨a, vs, rfl, ha0, ha1, e0, e1, e2, e9, aS, hvl, hvf, hT, M⟩
  rcases Int.lt_or_le a 0 with h0 | h0
  · skip
    have h0d : decide (0 ≤ a) = false := decide_eq_false (by omega)
    refine w_seq ?_
    refine w_seq ?_
    refine w_reg ?_
    refine wl_mv (.tmp 1) (.int .i64 (a)) (fun _ => rfl) e1 rfl ?_
    refine wl_bin (fun x y => do eqGuard .geq 3 (.tmp 15) (.const (.int .i64 (0))) x y; binOp .geq 3 x y) (.tmp 15) (.const (.int .i64 (0))) (.int .i64 (a)) (.int .i64 (0)) (.bool false) (fun _ => rfl) rfl rfl (ge3 h0d _ _ _) rfl ?_
    refine wl_mv (.tmp 16) (.bool false) (fun _ => rfl) rfl rfl ?_
    refine wl_skip rfl ?_
    refine wl_skip rfl ?_
    refine wl_skip rfl ?_
    refine wl_skip rfl ?_
    refine wl_pick (.tmp 17) (.tmp 21) (.const (.bool false)) false (.bool false) (fun _ => rfl) rfl rfl rfl ?_
    refine wl_mv (.tmp 22) (.bool false) (fun _ => rfl) rfl rfl ?_
    refine wl_skip rfl ?_
    refine wl_skip rfl ?_
    refine wl_skip rfl ?_
    refine wl_skip rfl ?_
    refine wl_skip rfl ?_
    refine wl_pick (.tmp 23) (.tmp 28) (.const (.bool false)) false (.bool false) (fun _ => rfl) rfl rfl rfl ?_
    refine w_nil ?_
    refine xn_then ?_
    refine w_condF rfl ?_
    refine w_exit ?_
    refine xx_then ?_
    refine xx_then ?_
    refine xx_blk ?_
    refine xn_then ?_
    refine w_seq ?_
    refine w_reg ?_
    refine wl_mv (.const (.int .i64 (0))) (.int .i64 (0)) (fun _ => rfl) rfl rfl ?_
    refine wl_mv (.const (.int .i64 (0))) (.int .i64 (0)) (fun _ => rfl) rfl rfl ?_
    refine wl_mv (.const (.bool false)) (.bool false) (fun _ => rfl) rfl rfl ?_
    refine w_nil ?_
    refine xn_then ?_
    refine w_ret ?_
    exact w_ret3 _ _ _ (.int .i64 (0)) (.int .i64 (0)) (.bool false) rfl rfl rfl rfl ⟨by rw [hT, show (a + 1).toNat = 0 by omega, fnF]; rfl, M⟩
  · skip
    obtain ⟨k, rfl⟩ : ∃ k : Nat, a = k := ⟨a.toNat, by omega⟩
    have hk : k < L.length := by omega
    rw [show (((k : Nat) : Int) + 1).toNat = k + 1 by omega] at hvf hT
    have hd0 : decide (0 ≤ ((k : Nat) : Int)) = true := decide_eq_true (by omega)
    have hd1 : decide (k < L.length) = true := decide_eq_true hk
    obtain ⟨x, hx⟩ := get_of_lt hk
    have hmx := List.mem_of_getElem? hx
    have hRS : D.Rw wl kS (0 + k * 1) [.bool false] := ⟨aS.2.2, fun j v hv => by cases j with | zero => (simp at hv; subst hv; have := aS.1 k _ (hvf k (by omega)); simpa using this) | succ j => simp at hv⟩
    obtain ⟨b1, o1, hp1, hR1⟩ := D.SL.rw hS hx
    refine w_seq ?_
    refine w_seq ?_
    refine w_reg ?_
    refine wl_mv (.tmp 1) (.int .i64 ((k : Nat) : Int)) (fun _ => rfl) e1 rfl ?_
    refine wl_bin (fun x y => do eqGuard .geq 3 (.tmp 15) (.const (.int .i64 (0))) x y; binOp .geq 3 x y) (.tmp 15) (.const (.int .i64 (0))) (.int .i64 ((k : Nat) : Int)) (.int .i64 (0)) (.bool true) (fun _ => rfl) rfl rfl (ge3 hd0 _ _ _) rfl ?_
    refine wl_mv (.tmp 16) (.bool true) (fun _ => rfl) rfl rfl ?_
    refine wl_mv (.tmp 1) (.int .i64 ((k : Nat) : Int)) (fun _ => rfl) e1 rfl ?_
    refine wl_mv (.tmp 0) (.slice pa L.length c) (fun _ => rfl) e0 rfl ?_
    refine wl_val (.int .i64 ((L.length : Nat) : Int)) (len55 _ _ _ _ _ (by exact rfl) _ _ _ _ _ _) rfl ?_
    refine wl_bin (fun x y => do eqGuard .lss 3 (.tmp 18) (.tmp 20) x y; binOp .lss 3 x y) (.tmp 18) (.tmp 20) (.int .i64 ((k : Nat) : Int)) (.int .i64 ((L.length : Nat) : Int)) (.bool true) (fun _ => rfl) rfl rfl (ltN hd1 _ _ _) rfl ?_
    refine wl_pick (.tmp 17) (.tmp 21) (.const (.bool false)) true (.bool true) (fun _ => rfl) rfl rfl rfl ?_
    refine wl_mv (.tmp 22) (.bool true) (fun _ => rfl) rfl rfl ?_
    refine wl_mv (.tmp 9) (.slice (some ⟨kS, 0, none⟩) L.length L.length) (fun _ => rfl) e9 rfl ?_
    refine wl_mv (.tmp 1) (.int .i64 ((k : Nat) : Int)) (fun _ => rfl) e1 rfl ?_
    refine wl_bin (fun x y => Instr.indexAt 165 x y) (.tmp 24) (.tmp 25) (.slice (some ⟨kS, 0, none⟩) L.length L.length) (.int .i64 ((k : Nat) : Int)) (pt kS (0 + k * 1)) (fun _ => rfl) rfl rfl (ix165 (i := k) rfl hk _) rfl ?_
    refine wl_load 4 (.tmp 26) (pt kS (0 + k * 1)) (.bool false) rfl rfl (D.run_oneR hRS.at' 4 0 rfl Try.underlying4 rfl) rfl ?_
    refine wl_un (fun v => Op.unary .not v) (.tmp 27) (.bool false) (.bool true) (fun _ => rfl) rfl (by kernel_rfl) rfl ?_
    refine wl_pick (.tmp 23) (.tmp 28) (.const (.bool false)) true (.bool true) (fun _ => rfl) rfl rfl rfl ?_
    refine w_nil ?_
    refine xn_then ?_
    refine w_condT rfl ?_
    refine w_skip ?_
    refine xn_then ?_
    refine w_block ?_
    refine w_seq ?_
    refine w_reg ?_
    refine wl_mv (.tmp 9) (.slice (some ⟨kS, 0, none⟩) L.length L.length) (fun _ => rfl) e9 rfl ?_
    refine wl_mv (.tmp 1) (.int .i64 ((k : Nat) : Int)) (fun _ => rfl) e1 rfl ?_
    refine wl_bin (fun x y => Instr.indexAt 165 x y) (.tmp 30) (.tmp 31) (.slice (some ⟨kS, 0, none⟩) L.length L.length) (.int .i64 ((k : Nat) : Int)) (pt kS (0 + k * 1)) (fun _ => rfl) rfl rfl (ix165 (i := k) rfl hk _) rfl ?_
    refine wl_stm1 4 (.tmp 32) (.const (.bool true)) kS (0 + k * 1) (.bool true) vs _ aS rfl rfl rfl rfl (by rw [Nat.blt_eq]; omega) sz4 rfl rfl rfl rfl ?_
    intro u21 hS9 _ aS2
    replace M := hS9.mo _ N_kS M
    clear hS9
    obtain ⟨vs2, aS3, hv2, hvf2⟩ := sn_set aS2 hvl hk hvf
    refine w_nil ?_
    refine xn_then ?_
    refine w_seq ?_
    refine w_reg ?_
    refine wl_mv (.tmp 0) (.slice pa L.length c) (fun _ => rfl) e0 rfl ?_
    refine wl_mv (.tmp 1) (.int .i64 ((k : Nat) : Int)) (fun _ => rfl) e1 rfl ?_
    refine wl_bin (fun x y => Instr.indexAt 55 x y) (.tmp 33) (.tmp 34) (.slice pa L.length c) (.int .i64 ((k : Nat) : Int)) (pt b1 (o1 + k * 5)) (fun _ => rfl) rfl rfl (ix55 (i := k) hp1 hk _) rfl ?_
    refine wl_un (fun v => Instr.fieldAt 62 v 4) (.tmp 35) (pt b1 (o1 + k * 5)) (pt b1 (o1 + k * 5 + 4)) (fun _ => rfl) rfl (by kernel_rfl) rfl ?_
    refine wl_load 45 (.tmp 36) (pt b1 (o1 + k * 5 + 4)) (.slice x.pi x.items.length x.ci) rfl rfl (D.run_oneR (hR1.mo M).at' 45 4 rfl Try.underlying45 rfl) rfl ?_
    refine wl_mv (.tmp 37) (.slice x.pi x.items.length x.ci) (fun _ => rfl) rfl rfl ?_
    refine w_nil ?_
    refine xn_then ?_
    refine w_seq ?_
    refine w_seq ?_
    refine w_reg ?_
    refine wl_mv (.tmp 10) (.slice x.pi x.items.length x.ci) (fun _ => rfl) rfl rfl ?_
    refine wl_val (.int .i64 ((x.items.length : Nat) : Int)) (len45 _ _ _ _ _ (by exact rfl) _ _ _ _ _ _) rfl ?_
    refine wl_mv (.const (.int .i64 (0))) (.int .i64 (0)) (fun _ => rfl) rfl rfl ?_
    refine w_nil ?_
    refine xn_then ?_
    refine w_block ?_
    have hzi := (hI x hmx).1
    unfold maxLen at hzi
    refine w_loop (fun m l w1 => ∃ i : Nat, m = x.items.length - i ∧ i ≤ x.items.length ∧ look l 0 = .slice pa L.length c ∧ look l 1 = .int .i64 ((k : Nat) : Int) ∧ look l 2 = .string nm ∧ look l 9 = .slice (some ⟨kS, 0, none⟩) L.length L.length ∧ look l 10 = .slice x.pi x.items.length x.ci ∧ look l 39 = .int .i64 ((x.items.length : Nat) : Int) ∧ look l 40 = .int .i64 ((i : Nat) : Int) ∧ At w1 kS vs2 ∧ ((x.items.take i).findIdx? (pIt nm) = none) ∧ Mo w w1) _ ⟨0, rfl, Nat.zero_le _, e0, e1, e2, e9, rfl, rfl, rfl, aS3, rfl, M⟩ ?_
    clear aS3 M
    rintro m l40 wl40 ⟨i, rfl, hi, e40_0, e40_1, e40_2, e40_9, e40_10, e40_39, e40_i, aS3, hTi, M⟩
    by_cases hil : i < x.items.length
    · skip
      have hid : decide (i < x.items.length) = true := decide_eq_true hil
      obtain ⟨y, hy⟩ := get_of_lt hil
      obtain ⟨b2, o2, hp2, hR2⟩ := D.SL.rw (hI x hmx) hy
      refine w_seq ?_
      refine w_reg ?_
      refine wl_bin (fun x y => do eqGuard .lss 3 (.tmp 40) (.tmp 39) x y; binOp .lss 3 x y) (.tmp 40) (.tmp 39) (.int .i64 ((i : Nat) : Int)) (.int .i64 ((x.items.length : Nat) : Int)) (.bool true) (fun _ => rfl) e40_i e40_39 (ltN hid _ _ _) rfl ?_
      refine w_nil ?_
      refine xn_then ?_
      refine w_seq ?_
      refine w_condT rfl ?_
      refine w_skip ?_
      refine xn_then ?_
      refine w_seq ?_
      refine w_block ?_
      refine w_seq ?_
      refine w_reg ?_
      refine wl_mv (.tmp 40) (.int .i64 ((i : Nat) : Int)) (fun _ => rfl) e40_i rfl ?_
      refine wl_mv (.tmp 42) (.int .i64 ((i : Nat) : Int)) (fun _ => rfl) rfl rfl ?_
      refine w_nil ?_
      refine xn_then ?_
      refine w_seq ?_
      refine w_reg ?_
      refine wl_mv (.tmp 10) (.slice x.pi x.items.length x.ci) (fun _ => rfl) e40_10 rfl ?_
      refine wl_mv (.tmp 11) (.int .i64 ((i : Nat) : Int)) (fun _ => rfl) rfl rfl ?_
      refine wl_bin (fun x y => Instr.indexAt 45 x y) (.tmp 43) (.tmp 44) (.slice x.pi x.items.length x.ci) (.int .i64 ((i : Nat) : Int)) (pt b2 (o2 + i * 23)) (fun _ => rfl) rfl rfl (ix45 (i := i) hp2 hil _) rfl ?_
      refine wl_un (fun v => Instr.fieldAt 67 v 0) (.tmp 45) (pt b2 (o2 + i * 23)) (pt b2 (o2 + i * 23)) (fun _ => rfl) rfl (by kernel_rfl) rfl ?_
      refine wl_load 9 (.tmp 46) (pt b2 (o2 + i * 23)) (.string y.nm) rfl rfl (D.run_oneR (hR2.mo M).at' 9 0 rfl Try.underlying9 rfl) rfl ?_
      refine wl_mv (.tmp 2) (.string nm) (fun _ => rfl) e40_2 rfl ?_
      cases hf50 : decide (y.nm = nm) with
      | true =>
        have hf50p := of_decide_eq_true hf50
        refine wl_bin (fun x y => do eqGuard .eql 9 (.tmp 47) (.tmp 48) x y; binOp .eql 9 x y) (.tmp 47) (.tmp 48) (.string y.nm) (.string nm) (.bool true) (fun _ => rfl) rfl rfl (s9 hf50 _ _ _) rfl ?_
        refine wl_mv (.tmp 49) (.bool true) (fun _ => rfl) rfl rfl ?_
        refine wl_mv (.tmp 10) (.slice x.pi x.items.length x.ci) (fun _ => rfl) e40_10 rfl ?_
        refine wl_mv (.tmp 11) (.int .i64 ((i : Nat) : Int)) (fun _ => rfl) rfl rfl ?_
        refine wl_bin (fun x y => Instr.indexAt 45 x y) (.tmp 51) (.tmp 52) (.slice x.pi x.items.length x.ci) (.int .i64 ((i : Nat) : Int)) (pt b2 (o2 + i * 23)) (fun _ => rfl) rfl rfl (ix45 (i := i) hp2 hil _) rfl ?_
        refine wl_un (fun v => Instr.fieldAt 67 v 1) (.tmp 53) (pt b2 (o2 + i * 23)) (pt b2 (o2 + i * 23 + 1)) (fun _ => rfl) rfl (by kernel_rfl) rfl ?_
        refine wl_load 3 (.tmp 54) (pt b2 (o2 + i * 23 + 1)) (.int .i64 (y.k)) rfl rfl (D.run_oneR (hR2.mo M).at' 3 1 rfl Try.underlying3 rfl) rfl ?_
        cases hf51 : cbr y.k with
        | true =>
          refine wl_call 107 [(.tmp 55)] _ [.int .i64 (y.k)] (.bool true) rfl rfl (fun _ _ => by kernel_rfl) (cB hf51 (cbr_n y.k _)) rfl ?_
          intro u41 hq
          replace aS3 := aS3.mo hq
          replace M := M.trans hq
          clear hq
          refine wl_pick (.tmp 50) (.tmp 56) (.const (.bool false)) true (.bool true) (fun _ => rfl) rfl rfl rfl ?_
          refine w_nil ?_
          refine xn_then ?_
          refine w_condT rfl ?_
          refine w_seq ?_
          refine w_reg ?_
          refine wl_mv (.tmp 1) (.int .i64 ((k : Nat) : Int)) (fun _ => rfl) e40_1 rfl ?_
          refine wl_mv (.tmp 11) (.int .i64 ((i : Nat) : Int)) (fun _ => rfl) rfl rfl ?_
          refine wl_mv (.tmp 58) (.int .i64 ((k : Nat) : Int)) (fun _ => rfl) rfl rfl ?_
          refine wl_mv (.tmp 59) (.int .i64 ((i : Nat) : Int)) (fun _ => rfl) rfl rfl ?_
          refine wl_mv (.const (.bool true)) (.bool true) (fun _ => rfl) rfl rfl ?_
          refine w_nil ?_
          refine xn_then ?_
          refine w_ret ?_
          refine xr_blk ?_
          refine xr_then ?_
          refine xr_then ?_
          refine xr_blk ?_
          refine xr_then ?_
          refine xr_blk ?_
          refine xr_then ?_
          refine xr_blk ?_
          refine xr_then ?_
          exact w_ret3 _ _ _ (.int .i64 ((k : Nat) : Int)) (.int .i64 ((i : Nat) : Int)) (.bool true) rfl rfl rfl rfl ⟨by rw [hT, fnF_hit hx (fi_hit (p := (pIt nm)) hTi hy (by unfold pIt; rw [hf50, hf51]; rfl))]; rfl, M⟩
        | false =>
          refine wl_call 107 [(.tmp 55)] _ [.int .i64 (y.k)] (.bool false) rfl rfl (fun _ _ => by kernel_rfl) (cB hf51 (cbr_n y.k _)) rfl ?_
          intro u41 hq
          replace aS3 := aS3.mo hq
          replace M := M.trans hq
          clear hq
          refine wl_pick (.tmp 50) (.tmp 56) (.const (.bool false)) true (.bool false) (fun _ => rfl) rfl rfl rfl ?_
          refine w_nil ?_
          refine xn_then ?_
          refine w_condF rfl ?_
          refine w_skip ?_
          refine xn_blk ?_
          refine xn_then ?_
          refine w_reg ?_
          refine wl_bin (fun x y => do eqGuard .add 3 (.tmp 40) (.const (.int .i64 (1))) x y; binOp .add 3 x y) (.tmp 40) (.const (.int .i64 (1))) (.int .i64 ((i : Nat) : Int)) (.int .i64 (1)) (.int .i64 ((i + 1 : Nat) : Int)) (fun _ => rfl) e40_i rfl (add1r (k := i) (by omega) _ _ _) rfl ?_
          refine wl_mv (.tmp 60) (.int .i64 ((i + 1 : Nat) : Int)) (fun _ => rfl) rfl rfl ?_
          refine w_nil ?_
          exact xn_loop (x.items.length - (i + 1)) (by omega) ⟨i + 1, rfl, by omega, e40_0, e40_1, e40_2, e40_9, e40_10, e40_39, rfl, aS3, fi_step (p := (pIt nm)) hTi hy (by unfold pIt; rw [hf50, hf51]; rfl), M⟩
      | false =>
        have hf50p := of_decide_eq_false hf50
        refine wl_bin (fun x y => do eqGuard .eql 9 (.tmp 47) (.tmp 48) x y; binOp .eql 9 x y) (.tmp 47) (.tmp 48) (.string y.nm) (.string nm) (.bool false) (fun _ => rfl) rfl rfl (s9 hf50 _ _ _) rfl ?_
        refine wl_mv (.tmp 49) (.bool false) (fun _ => rfl) rfl rfl ?_
        refine wl_skip rfl ?_
        refine wl_skip rfl ?_
        refine wl_skip rfl ?_
        refine wl_skip rfl ?_
        refine wl_skip rfl ?_
        refine wl_skip rfl ?_
        refine wl_pick (.tmp 50) (.tmp 56) (.const (.bool false)) false (.bool false) (fun _ => rfl) rfl rfl rfl ?_
        refine w_nil ?_
        refine xn_then ?_
        refine w_condF rfl ?_
        refine w_skip ?_
        refine xn_blk ?_
        refine xn_then ?_
        refine w_reg ?_
        refine wl_bin (fun x y => do eqGuard .add 3 (.tmp 40) (.const (.int .i64 (1))) x y; binOp .add 3 x y) (.tmp 40) (.const (.int .i64 (1))) (.int .i64 ((i : Nat) : Int)) (.int .i64 (1)) (.int .i64 ((i + 1 : Nat) : Int)) (fun _ => rfl) e40_i rfl (add1r (k := i) (by omega) _ _ _) rfl ?_
        refine wl_mv (.tmp 60) (.int .i64 ((i + 1 : Nat) : Int)) (fun _ => rfl) rfl rfl ?_
        refine w_nil ?_
        exact xn_loop (x.items.length - (i + 1)) (by omega) ⟨i + 1, rfl, by omega, e40_0, e40_1, e40_2, e40_9, e40_10, e40_39, rfl, aS3, fi_step (p := (pIt nm)) hTi hy (by unfold pIt; rw [hf50]; rfl), M⟩
    · skip
      have hid : decide (i < x.items.length) = false := decide_eq_false hil
      have hie : i = x.items.length := by omega
      refine w_seq ?_
      refine w_reg ?_
      refine wl_bin (fun x y => do eqGuard .lss 3 (.tmp 40) (.tmp 39) x y; binOp .lss 3 x y) (.tmp 40) (.tmp 39) (.int .i64 ((i : Nat) : Int)) (.int .i64 ((x.items.length : Nat) : Int)) (.bool false) (fun _ => rfl) e40_i e40_39 (ltN hid _ _ _) rfl ?_
      refine w_nil ?_
      refine xn_then ?_
      refine w_seq ?_
      refine w_condF rfl ?_
      refine w_exit ?_
      refine xx_then ?_
      refine xx_then ?_
      refine xx_blk ?_
      refine xn_then ?_
      refine w_reg ?_
      refine wl_mv (.tmp 0) (.slice pa L.length c) (fun _ => rfl) e40_0 rfl ?_
      refine wl_mv (.tmp 1) (.int .i64 ((k : Nat) : Int)) (fun _ => rfl) e40_1 rfl ?_
      refine wl_bin (fun x y => Instr.indexAt 55 x y) (.tmp 61) (.tmp 62) (.slice pa L.length c) (.int .i64 ((k : Nat) : Int)) (pt b1 (o1 + k * 5)) (fun _ => rfl) rfl rfl (ix55 (i := k) hp1 hk _) rfl ?_
      refine wl_un (fun v => Instr.fieldAt 62 v 0) (.tmp 63) (pt b1 (o1 + k * 5)) (pt b1 (o1 + k * 5)) (fun _ => rfl) rfl (by kernel_rfl) rfl ?_
      refine wl_load 3 (.tmp 64) (pt b1 (o1 + k * 5)) (.int .i64 (x.pr)) rfl rfl (D.run_oneR (hR1.mo M).at' 3 0 rfl Try.underlying3 rfl) rfl ?_
      refine wl_mv (.tmp 65) (.int .i64 (x.pr)) (fun _ => rfl) rfl rfl ?_
      refine w_nil ?_
      refine xn_blk ?_
      exact xn_loop _ (by have := hW k x hx; omega) ⟨x.pr, vs2, rfl, (hW k x hx).2, by have := hW k x hx; omega, e40_0, rfl, e40_2, e40_9, aS3, hv2, fun j hj => hvf2 j (by have := hW k x hx; omega), by rw [hT, fnF_up hW hx (fi_end hTi hie)], M⟩
end Go.Proofs.Ytepfokoepibkcaa
namespace Go.Proofs.Ytepfokoepibkcaa
open Go.RowKit D
abbrev kc (k : Int) : List Value := [.int .i64 k]
/-- A node over its parts' kinds. -/
def ovK (n op : Int) : List Int → Int
  | [a] => oneK n a
  | [a, b] => if n = 5 then twoK op a b else 0
  | [a, b, d] => if n = 6 ∧ a = 2 ∧ b = d then b else 0
  | _ => 0
theorem ov_big (n op : Int) {A : List Int} (h1 : A.length ≠ 1) (h2 : A.length ≠ 2) (h3 : A.length ≠ 3) : ovK n op A = 0 := by
  match A, h1, h2, h3 with
  | [], _, _, _ => rfl
  | [_], h, _, _ => simp at h
  | [_, _], _, h, _ => simp at h
  | [_, _, _], _, _, h => simp at h
  | _ :: _ :: _ :: _ :: _, _, _, _ => rfl
/-- A reader: a definition, its sections, a section's number. -/
def rdr (d : Df) (sp : Option Addr) (L : List S5) (sc s : Nat) : List Value := [.string d.nm, .string d.rt.nm, .int .i64 d.rt.mx, .slice d.rt.pi d.rt.items.length d.rt.ci, .slice d.rt.pk d.rt.kids.length d.rt.ck, .slice d.pt d.tb.length d.ct, .slice d.pp d.pg.length d.cp, .slice sp L.length sc, .int .i64 ((s : Nat) : Int)]
theorem sz88 : (Try.prog.info? 88).map (·.size) = some 9 := by kernel_rfl
/-- What a reader knows lies there. -/
structure RD (w : World) (d : Df) (sp : Option Addr) (L : List S5) (s : Nat) : Prop where
  df : LDf w d
  ls : SL w 5 S5.cells sp L
  it : ∀ x ∈ L, SL w 23 It.cells x.pi x.items
  wf : Wf L
  ln : L.length ≤ 4000000
  lt : s < L.length
theorem RD.kp {w w' : World} {d : Df} {sp : Option Addr} {L : List S5} {s : Nat} (h : RD w d sp L s) (m : Kp w w') : RD w' d sp L s := ⟨h.df.kp m, h.ls.kp m, fun x hx => (h.it x hx).kp m, h.wf, h.ln, h.lt⟩
theorem fnF_some {L : List S5} {nm : ByteArray} : ∀ (n : Nat) {k i : Nat}, fnF L nm n = some (k, i) → ∃ x y, L[k]? = some x ∧ x.items[i]? = some y := by
  intro n
  induction n using Nat.strongRecOn with
  | ind n ih =>
    intro k i h
    cases n with
    | zero => rw [fnF] at h; cases h
    | succ n =>
      rw [fnF] at h
      cases hx : L[n]? with
      | none => simp only [hx] at h; cases h
      | some x =>
        simp only [hx] at h
        cases hi : x.items.findIdx? (pIt nm) with
        | none => simp only [hi] at h; exact ih _ (by omega) h
        | some j =>
          simp only [hi] at h
          cases h
          have hj := List.findIdx?_eq_some_iff_getElem.1 hi
          obtain ⟨hj, _⟩ := hj
          exact ⟨x, _, hx, List.getElem?_eq_getElem hj⟩
/-- The item at two numbers. -/
def itA (L : List S5) (k i : Nat) : Option It := (L[k]?).bind (fun x => x.items[i]?)
theorem itA_of {L : List S5} {k i : Nat} {x : S5} {y : It} (hx : L[k]? = some x) (hy : x.items[i]? = some y) : itA L k i = some y := by unfold itA; rw [hx]; exact hy
def nmK (L : List S5) (s : Nat) (nm : ByteArray) : Int × Int := match fnF L nm (s + 1) with
  | none => (0, 91)
  | some (k, i) => match itA L k i with
    | none => (0, 0)
    | some y => (y.tk, tyc y.tk y.ts)
theorem nmK_no {L : List S5} {s : Nat} {nm : ByteArray} (h : fnF L nm (s + 1) = none) : nmK L s nm = (0, 91) := by unfold nmK; rw [h]
theorem nmK_of {L : List S5} {s k i : Nat} {nm : ByteArray} {y : It} (h : fnF L nm (s + 1) = some (k, i)) (hy : itA L k i = some y) : nmK L s nm = (y.tk, tyc y.tk y.ts) := by unfold nmK; rw [h]; simp only [hy]
abbrev pKd (s : Int) (nm : ByteArray) : S5 → Bool := fun y => decide (y.pr = s) && decide (y.nm = nm)
/-- An aggregate's kind. -/
def agK (L : List S5) (s : Nat) (x : Ex) : Int × Int := match L.findIdx? (pKd s x.se) with
  | none => (0, 91)
  | some k => if x.op = 16 then (if x.nm = ⟨#[]⟩ then (1, 0) else (0, 100)) else match fnF L x.nm (k + 1) with
    | none => (0, 91)
    | some (j, i) => if j = k then (match itA L j i with
      | none => (0, 0)
      | some y => sui (colK x.op y.tk)) else (0, 91)
theorem ov_1 (x : Ex) {pa : Option Addr} (cp : Nat) {w : World} (a : Int) (hS : SL w 1 kc pa [a]) : Calls Try.prog 91 #[.agg (x.cells).toArray, .slice pa 1 cp] w fun e w' => e = .returned (.int .i64 (ovK x.k x.op [a])) ∧ Mo w w' := by
  obtain ⟨ba, oa, hpa, hRa⟩ := D.SL.rw hS (show [a][0]? = some a from rfl)
  refine w_enter 58 Try.func91 Try.ntmps91 rfl rfl ?_
  have M : Mo w w := Mo.refl _
  refine w_seq ?_
  refine w_reg ?_
  refine wl_box 38 (.tmp 0) (.agg (x.cells).toArray) (((x.cells).toArray)) rfl rfl (fun _ => by kernel_rfl) rfl ?_
  intro k1 u1 hk hz hq Q1
  have N_k1 : w.heap.size ≤ k1 := by have := M.size; omega
  replace M := M.trans hq
  clear hk hz hq
  refine wl_mv (.const (.int .i64 (0))) (.int .i64 (0)) (fun _ => rfl) rfl rfl ?_
  refine w_nil ?_
  refine xn_then ?_
  refine w_seq ?_
  refine w_block ?_
  refine w_seq ?_
  refine w_reg ?_
  refine wl_mv (.tmp 1) (.slice pa 1 cp) (fun _ => rfl) rfl rfl ?_
  refine wl_val (.int .i64 (1)) (len92 _ _ _ 1 _ (by exact rfl) _ _ _ _ _ _) rfl ?_
  refine wl_bin (fun x y => do eqGuard .eql 3 (.tmp 7) (.const (.int .i64 (1))) x y; binOp .eql 3 x y) (.tmp 7) (.const (.int .i64 (1))) (.int .i64 (1)) (.int .i64 (1)) (.bool true) (fun _ => rfl) rfl rfl (eq3 (r := true) rfl _ _ _) rfl ?_
  refine wl_mv (.tmp 8) (.bool true) (fun _ => rfl) rfl rfl ?_
  refine w_nil ?_
  refine xn_then ?_
  refine w_condT rfl ?_
  refine w_seq ?_
  refine w_any 5 [.inl (pt k1 0), .inl (.int .i64 (x.k)), .inl (.slice pa 1 cp), .inl (pt ba (oa + 0 * 1)), .inl (.int .i64 (a))] [] (by kernel_rfl) (by kernel_rfl) (by kernel_rfl) (by kernel_rfl) rfl (by kernel_rfl) (by kernel_rfl) late_nil ?_ ?_ ?_
  · exact Ds.none rfl
  · refine ea_cons ?_ (ea_cons ?_ (ea_cons ?_ (ea_cons ?_ (ea_cons ?_ (ea_nil)))))
    · exact og_eq (pt k1 0) rfl (fun f wf hq hd K hK => go_run rfl (wo_un (fun v => Instr.fieldAt 38 v 0) (.tmp 2) (pt k1 0) (pt k1 0) (fun _ => rfl) rfl (by kernel_rfl) (hK _ (Mo.refl _))))
    · exact og_eq (.int .i64 (x.k)) rfl (fun f wf hq hd K hK => have Q1 := Q1.mo hq; go_run rfl (wo_load 3 (.tmp 9) (pt k1 0) (.int .i64 (x.k)) rfl (hd 0 rfl) (run_one Q1 3 0 rfl Try.underlying3 rfl) (hK _ (Mo.refl _))))
    · exact og_eq (.slice pa 1 cp) rfl (fun f wf hq hd K hK => go_run rfl (wo_mv (.tmp 1) (.slice pa 1 cp) (fun _ => rfl) rfl (hK _ (Mo.refl _))))
    · exact og_eq (pt ba (oa + 0 * 1)) rfl (fun f wf hq hd K hK => go_run rfl (wo_bin (fun x y => Instr.indexAt 92 x y) (.tmp 11) (.const (.int .i64 (0))) (.slice pa 1 cp) (.int .i64 (0)) (pt ba (oa + 0 * 1)) (fun _ => rfl) (hd 2 rfl) rfl (ix92 (i := 0) hpa (by decide) _) (hK _ (Mo.refl _))))
    · exact og_eq (.int .i64 (a)) rfl (fun f wf hq hd K hK => go_run rfl (wo_load 3 (.tmp 12) (pt ba (oa + 0 * 1)) (.int .i64 (a)) rfl (hd 3 rfl) (D.run_oneR (hRa.mo (M.trans hq)).at' 3 0 rfl Try.underlying3 rfl) (hK _ (Mo.refl _))))
  intro kf2 u2 hq hR hne
  replace Q1 := Q1.mo hq
  replace M := M.trans hq
  clear hq hR hne
  refine wl_call 102 [(.tmp 10), (.tmp 13)] _ [.int .i64 (x.k), .int .i64 (a)] (.int .i64 (oneK x.k a)) rfl rfl (fun _ _ => by kernel_rfl) (oneK_n x.k a _) rfl ?_
  intro u3 hq
  replace Q1 := Q1.mo hq
  replace M := M.trans hq
  clear hq
  refine wl_mv (.tmp 14) (.int .i64 (oneK x.k a)) (fun _ => rfl) rfl rfl ?_
  refine w_nil ?_
  refine xn_then ?_
  refine w_ret ?_
  refine xr_blk ?_
  refine xr_then ?_
  exact w_ret1 _ (.int .i64 (oneK x.k a)) rfl rfl ⟨rfl, M⟩
theorem ov_2 (x : Ex) {pa : Option Addr} (cp : Nat) {w : World} (a b : Int) (hS : SL w 1 kc pa [a, b]) : Calls Try.prog 91 #[.agg (x.cells).toArray, .slice pa 2 cp] w fun e w' => e = .returned (.int .i64 (ovK x.k x.op [a, b])) ∧ Mo w w' := by
  obtain ⟨ba, oa, hpa, hRa⟩ := D.SL.rw hS (show [a, b][0]? = some a from rfl)
  obtain ⟨bb, ob, hpb, hRb⟩ := D.SL.rw hS (show [a, b][1]? = some b from rfl)
  refine w_enter 58 Try.func91 Try.ntmps91 rfl rfl ?_
  have M : Mo w w := Mo.refl _
  refine w_seq ?_
  refine w_reg ?_
  refine wl_box 38 (.tmp 0) (.agg (x.cells).toArray) (((x.cells).toArray)) rfl rfl (fun _ => by kernel_rfl) rfl ?_
  intro k1 u1 hk hz hq Q1
  have N_k1 : w.heap.size ≤ k1 := by have := M.size; omega
  replace M := M.trans hq
  clear hk hz hq
  refine wl_mv (.const (.int .i64 (0))) (.int .i64 (0)) (fun _ => rfl) rfl rfl ?_
  refine w_nil ?_
  refine xn_then ?_
  refine w_seq ?_
  refine w_block ?_
  refine w_seq ?_
  refine w_reg ?_
  refine wl_mv (.tmp 1) (.slice pa 2 cp) (fun _ => rfl) rfl rfl ?_
  refine wl_val (.int .i64 (2)) (len92 _ _ _ 2 _ (by exact rfl) _ _ _ _ _ _) rfl ?_
  refine wl_bin (fun x y => do eqGuard .eql 3 (.tmp 7) (.const (.int .i64 (1))) x y; binOp .eql 3 x y) (.tmp 7) (.const (.int .i64 (1))) (.int .i64 (2)) (.int .i64 (1)) (.bool false) (fun _ => rfl) rfl rfl (eq3 (r := false) rfl _ _ _) rfl ?_
  refine wl_mv (.tmp 8) (.bool false) (fun _ => rfl) rfl rfl ?_
  refine w_nil ?_
  refine xn_then ?_
  refine w_condF rfl ?_
  refine w_seq ?_
  refine w_reg ?_
  refine wl_mv (.tmp 1) (.slice pa 2 cp) (fun _ => rfl) rfl rfl ?_
  refine wl_val (.int .i64 (2)) (len92 _ _ _ 2 _ (by exact rfl) _ _ _ _ _ _) rfl ?_
  refine wl_bin (fun x y => do eqGuard .eql 3 (.tmp 17) (.const (.int .i64 (2))) x y; binOp .eql 3 x y) (.tmp 17) (.const (.int .i64 (2))) (.int .i64 (2)) (.int .i64 (2)) (.bool true) (fun _ => rfl) rfl rfl (eq3 (r := true) rfl _ _ _) rfl ?_
  refine wl_mv (.tmp 18) (.bool true) (fun _ => rfl) rfl rfl ?_
  refine wl_un (fun v => Instr.fieldAt 38 v 0) (.tmp 2) (pt k1 0) (pt k1 0) (fun _ => rfl) rfl (by kernel_rfl) rfl ?_
  refine wl_load 3 (.tmp 20) (pt k1 0) (.int .i64 (x.k)) rfl rfl (run_one Q1 3 0 rfl Try.underlying3 rfl) rfl ?_
  cases hf0 : decide (x.k = 5) with
  | true =>
    have hf0p := of_decide_eq_true hf0
    refine wl_bin (fun x y => do eqGuard .eql 3 (.tmp 21) (.const (.int .i64 (5))) x y; binOp .eql 3 x y) (.tmp 21) (.const (.int .i64 (5))) (.int .i64 (x.k)) (.int .i64 (5)) (.bool true) (fun _ => rfl) rfl rfl (eq3 hf0 _ _ _) rfl ?_
    refine wl_pick (.tmp 19) (.tmp 22) (.const (.bool false)) true (.bool true) (fun _ => rfl) rfl rfl rfl ?_
    refine wl_mv (.tmp 23) (.bool true) (fun _ => rfl) rfl rfl ?_
    refine w_nil ?_
    refine xn_then ?_
    refine w_condT rfl ?_
    refine w_seq ?_
    refine w_any 8 [.inl (pt k1 1), .inl (.int .i64 (x.op)), .inl (.slice pa 2 cp), .inl (pt ba (oa + 0 * 1)), .inl (.int .i64 (a)), .inl (.slice pa 2 cp), .inl (pt bb (ob + 1 * 1)), .inl (.int .i64 (b))] [] (by kernel_rfl) (by kernel_rfl) (by kernel_rfl) (by kernel_rfl) rfl (by kernel_rfl) (by kernel_rfl) late_nil ?_ ?_ ?_
    · exact Ds.none rfl
    · refine ea_cons ?_ (ea_cons ?_ (ea_cons ?_ (ea_cons ?_ (ea_cons ?_ (ea_cons ?_ (ea_cons ?_ (ea_cons ?_ (ea_nil))))))))
      · exact og_eq (pt k1 1) rfl (fun f wf hq hd K hK => go_run rfl (wo_un (fun v => Instr.fieldAt 38 v 1) (.tmp 2) (pt k1 0) (pt k1 1) (fun _ => rfl) rfl (by kernel_rfl) (hK _ (Mo.refl _))))
      · exact og_eq (.int .i64 (x.op)) rfl (fun f wf hq hd K hK => have Q1 := Q1.mo hq; go_run rfl (wo_load 3 (.tmp 24) (pt k1 1) (.int .i64 (x.op)) rfl (hd 0 rfl) (run_one Q1 3 1 rfl Try.underlying3 rfl) (hK _ (Mo.refl _))))
      · exact og_eq (.slice pa 2 cp) rfl (fun f wf hq hd K hK => go_run rfl (wo_mv (.tmp 1) (.slice pa 2 cp) (fun _ => rfl) rfl (hK _ (Mo.refl _))))
      · exact og_eq (pt ba (oa + 0 * 1)) rfl (fun f wf hq hd K hK => go_run rfl (wo_bin (fun x y => Instr.indexAt 92 x y) (.tmp 26) (.const (.int .i64 (0))) (.slice pa 2 cp) (.int .i64 (0)) (pt ba (oa + 0 * 1)) (fun _ => rfl) (hd 2 rfl) rfl (ix92 (i := 0) hpa (by decide) _) (hK _ (Mo.refl _))))
      · exact og_eq (.int .i64 (a)) rfl (fun f wf hq hd K hK => go_run rfl (wo_load 3 (.tmp 27) (pt ba (oa + 0 * 1)) (.int .i64 (a)) rfl (hd 3 rfl) (D.run_oneR (hRa.mo (M.trans hq)).at' 3 0 rfl Try.underlying3 rfl) (hK _ (Mo.refl _))))
      · exact og_eq (.slice pa 2 cp) rfl (fun f wf hq hd K hK => go_run rfl (wo_mv (.tmp 1) (.slice pa 2 cp) (fun _ => rfl) rfl (hK _ (Mo.refl _))))
      · exact og_eq (pt bb (ob + 1 * 1)) rfl (fun f wf hq hd K hK => go_run rfl (wo_bin (fun x y => Instr.indexAt 92 x y) (.tmp 29) (.const (.int .i64 (1))) (.slice pa 2 cp) (.int .i64 (1)) (pt bb (ob + 1 * 1)) (fun _ => rfl) (hd 5 rfl) rfl (ix92 (i := 1) hpb (by decide) _) (hK _ (Mo.refl _))))
      · exact og_eq (.int .i64 (b)) rfl (fun f wf hq hd K hK => go_run rfl (wo_load 3 (.tmp 30) (pt bb (ob + 1 * 1)) (.int .i64 (b)) rfl (hd 6 rfl) (D.run_oneR (hRb.mo (M.trans hq)).at' 3 0 rfl Try.underlying3 rfl) (hK _ (Mo.refl _))))
    intro kf2 u2 hq hR hne
    replace Q1 := Q1.mo hq
    replace M := M.trans hq
    clear hq hR hne
    refine wl_call 103 [(.tmp 25), (.tmp 28), (.tmp 31)] _ [.int .i64 (x.op), .int .i64 (a), .int .i64 (b)] (.int .i64 (twoK x.op a b)) rfl rfl (fun _ _ => by kernel_rfl) (twoK_n x.op a b _) rfl ?_
    intro u3 hq
    replace Q1 := Q1.mo hq
    replace M := M.trans hq
    clear hq
    refine wl_mv (.tmp 32) (.int .i64 (twoK x.op a b)) (fun _ => rfl) rfl rfl ?_
    refine w_nil ?_
    refine xn_then ?_
    refine w_ret ?_
    refine xr_blk ?_
    refine xr_then ?_
    exact w_ret1 _ (.int .i64 (twoK x.op a b)) rfl rfl ⟨by unfold ovK; simp_all, M⟩
  | false =>
    have hf0p := of_decide_eq_false hf0
    refine wl_bin (fun x y => do eqGuard .eql 3 (.tmp 21) (.const (.int .i64 (5))) x y; binOp .eql 3 x y) (.tmp 21) (.const (.int .i64 (5))) (.int .i64 (x.k)) (.int .i64 (5)) (.bool false) (fun _ => rfl) rfl rfl (eq3 hf0 _ _ _) rfl ?_
    refine wl_pick (.tmp 19) (.tmp 22) (.const (.bool false)) true (.bool false) (fun _ => rfl) rfl rfl rfl ?_
    refine wl_mv (.tmp 23) (.bool false) (fun _ => rfl) rfl rfl ?_
    refine w_nil ?_
    refine xn_then ?_
    refine w_condF rfl ?_
    refine w_seq ?_
    refine w_reg ?_
    refine wl_mv (.tmp 1) (.slice pa 2 cp) (fun _ => rfl) rfl rfl ?_
    refine wl_val (.int .i64 (2)) (len92 _ _ _ 2 _ (by exact rfl) _ _ _ _ _ _) rfl ?_
    refine wl_bin (fun x y => do eqGuard .eql 3 (.tmp 35) (.const (.int .i64 (3))) x y; binOp .eql 3 x y) (.tmp 35) (.const (.int .i64 (3))) (.int .i64 (2)) (.int .i64 (3)) (.bool false) (fun _ => rfl) rfl rfl (eq3 (r := false) rfl _ _ _) rfl ?_
    refine wl_mv (.tmp 36) (.bool false) (fun _ => rfl) rfl rfl ?_
    refine wl_skip rfl ?_
    refine wl_skip rfl ?_
    refine wl_skip rfl ?_
    refine wl_pick (.tmp 37) (.tmp 40) (.const (.bool false)) false (.bool false) (fun _ => rfl) rfl rfl rfl ?_
    refine wl_mv (.tmp 41) (.bool false) (fun _ => rfl) rfl rfl ?_
    refine w_nil ?_
    refine xn_then ?_
    refine w_condF rfl ?_
    refine w_skip ?_
    refine xn_blk ?_
    refine xn_then ?_
    refine w_seq ?_
    refine w_reg ?_
    refine wl_mv (.const (.int .i64 (0))) (.int .i64 (0)) (fun _ => rfl) rfl rfl ?_
    refine w_nil ?_
    refine xn_then ?_
    refine w_ret ?_
    exact w_ret1 _ (.int .i64 (0)) rfl rfl ⟨by unfold ovK; simp_all, M⟩
theorem ov_3 (x : Ex) {pa : Option Addr} (cp : Nat) {w : World} (a b d : Int) (hS : SL w 1 kc pa [a, b, d]) : Calls Try.prog 91 #[.agg (x.cells).toArray, .slice pa 3 cp] w fun e w' => e = .returned (.int .i64 (ovK x.k x.op [a, b, d])) ∧ Mo w w' := by
  obtain ⟨ba, oa, hpa, hRa⟩ := D.SL.rw hS (show [a, b, d][0]? = some a from rfl)
  obtain ⟨bb, ob, hpb, hRb⟩ := D.SL.rw hS (show [a, b, d][1]? = some b from rfl)
  obtain ⟨bd, od, hpd, hRd⟩ := D.SL.rw hS (show [a, b, d][2]? = some d from rfl)
  refine w_enter 58 Try.func91 Try.ntmps91 rfl rfl ?_
  have M : Mo w w := Mo.refl _
  refine w_seq ?_
  refine w_reg ?_
  refine wl_box 38 (.tmp 0) (.agg (x.cells).toArray) (((x.cells).toArray)) rfl rfl (fun _ => by kernel_rfl) rfl ?_
  intro k1 u1 hk hz hq Q1
  have N_k1 : w.heap.size ≤ k1 := by have := M.size; omega
  replace M := M.trans hq
  clear hk hz hq
  refine wl_mv (.const (.int .i64 (0))) (.int .i64 (0)) (fun _ => rfl) rfl rfl ?_
  refine w_nil ?_
  refine xn_then ?_
  refine w_seq ?_
  refine w_block ?_
  refine w_seq ?_
  refine w_reg ?_
  refine wl_mv (.tmp 1) (.slice pa 3 cp) (fun _ => rfl) rfl rfl ?_
  refine wl_val (.int .i64 (3)) (len92 _ _ _ 3 _ (by exact rfl) _ _ _ _ _ _) rfl ?_
  refine wl_bin (fun x y => do eqGuard .eql 3 (.tmp 7) (.const (.int .i64 (1))) x y; binOp .eql 3 x y) (.tmp 7) (.const (.int .i64 (1))) (.int .i64 (3)) (.int .i64 (1)) (.bool false) (fun _ => rfl) rfl rfl (eq3 (r := false) rfl _ _ _) rfl ?_
  refine wl_mv (.tmp 8) (.bool false) (fun _ => rfl) rfl rfl ?_
  refine w_nil ?_
  refine xn_then ?_
  refine w_condF rfl ?_
  refine w_seq ?_
  refine w_reg ?_
  refine wl_mv (.tmp 1) (.slice pa 3 cp) (fun _ => rfl) rfl rfl ?_
  refine wl_val (.int .i64 (3)) (len92 _ _ _ 3 _ (by exact rfl) _ _ _ _ _ _) rfl ?_
  refine wl_bin (fun x y => do eqGuard .eql 3 (.tmp 17) (.const (.int .i64 (2))) x y; binOp .eql 3 x y) (.tmp 17) (.const (.int .i64 (2))) (.int .i64 (3)) (.int .i64 (2)) (.bool false) (fun _ => rfl) rfl rfl (eq3 (r := false) rfl _ _ _) rfl ?_
  refine wl_mv (.tmp 18) (.bool false) (fun _ => rfl) rfl rfl ?_
  refine wl_skip rfl ?_
  refine wl_skip rfl ?_
  refine wl_skip rfl ?_
  refine wl_pick (.tmp 19) (.tmp 22) (.const (.bool false)) false (.bool false) (fun _ => rfl) rfl rfl rfl ?_
  refine wl_mv (.tmp 23) (.bool false) (fun _ => rfl) rfl rfl ?_
  refine w_nil ?_
  refine xn_then ?_
  refine w_condF rfl ?_
  refine w_seq ?_
  refine w_reg ?_
  refine wl_mv (.tmp 1) (.slice pa 3 cp) (fun _ => rfl) rfl rfl ?_
  refine wl_val (.int .i64 (3)) (len92 _ _ _ 3 _ (by exact rfl) _ _ _ _ _ _) rfl ?_
  refine wl_bin (fun x y => do eqGuard .eql 3 (.tmp 35) (.const (.int .i64 (3))) x y; binOp .eql 3 x y) (.tmp 35) (.const (.int .i64 (3))) (.int .i64 (3)) (.int .i64 (3)) (.bool true) (fun _ => rfl) rfl rfl (eq3 (r := true) rfl _ _ _) rfl ?_
  refine wl_mv (.tmp 36) (.bool true) (fun _ => rfl) rfl rfl ?_
  refine wl_un (fun v => Instr.fieldAt 38 v 0) (.tmp 2) (pt k1 0) (pt k1 0) (fun _ => rfl) rfl (by kernel_rfl) rfl ?_
  refine wl_load 3 (.tmp 38) (pt k1 0) (.int .i64 (x.k)) rfl rfl (run_one Q1 3 0 rfl Try.underlying3 rfl) rfl ?_
  cases hf0 : decide (x.k = 6) with
  | true =>
    have hf0p := of_decide_eq_true hf0
    refine wl_bin (fun x y => do eqGuard .eql 3 (.tmp 39) (.const (.int .i64 (6))) x y; binOp .eql 3 x y) (.tmp 39) (.const (.int .i64 (6))) (.int .i64 (x.k)) (.int .i64 (6)) (.bool true) (fun _ => rfl) rfl rfl (eq3 hf0 _ _ _) rfl ?_
    refine wl_pick (.tmp 37) (.tmp 40) (.const (.bool false)) true (.bool true) (fun _ => rfl) rfl rfl rfl ?_
    refine wl_mv (.tmp 41) (.bool true) (fun _ => rfl) rfl rfl ?_
    refine w_nil ?_
    refine xn_then ?_
    refine w_condT rfl ?_
    refine w_seq ?_
    cases hf1 : decide (a = 2) with
    | true =>
      have hf1p := of_decide_eq_true hf1
      cases hf2 : decide (b = d) with
      | true =>
        have hf2p := of_decide_eq_true hf2
        refine w_any 11 [.inl (.slice pa 3 cp), .inl (pt ba (oa + 0 * 1)), .inl (.int .i64 (a)), .inl (.bool true), .inl (.bool true), .inl (.slice pa 3 cp), .inl (pt bb (ob + 1 * 1)), .inl (.int .i64 (b)), .inl (.slice pa 3 cp), .inl (pt bd (od + 2 * 1)), .inl (.int .i64 (d))] [] (by kernel_rfl) (by kernel_rfl) (by kernel_rfl) (by kernel_rfl) rfl (by kernel_rfl) (by kernel_rfl) late_nil ?_ ?_ ?_
        · exact Ds.none rfl
        · refine ea_cons ?_ (ea_cons ?_ (ea_cons ?_ (ea_cons ?_ (ea_cons ?_ (ea_cons ?_ (ea_cons ?_ (ea_cons ?_ (ea_cons ?_ (ea_cons ?_ (ea_cons ?_ (ea_nil)))))))))))
          · exact og_eq (.slice pa 3 cp) rfl (fun f wf hq hd K hK => go_run rfl (wo_mv (.tmp 1) (.slice pa 3 cp) (fun _ => rfl) rfl (hK _ (Mo.refl _))))
          · exact og_eq (pt ba (oa + 0 * 1)) rfl (fun f wf hq hd K hK => go_run rfl (wo_bin (fun x y => Instr.indexAt 92 x y) (.tmp 42) (.const (.int .i64 (0))) (.slice pa 3 cp) (.int .i64 (0)) (pt ba (oa + 0 * 1)) (fun _ => rfl) (hd 0 rfl) rfl (ix92 (i := 0) hpa (by decide) _) (hK _ (Mo.refl _))))
          · exact og_eq (.int .i64 (a)) rfl (fun f wf hq hd K hK => go_run rfl (wo_load 3 (.tmp 43) (pt ba (oa + 0 * 1)) (.int .i64 (a)) rfl (hd 1 rfl) (D.run_oneR (hRa.mo (M.trans hq)).at' 3 0 rfl Try.underlying3 rfl) (hK _ (Mo.refl _))))
          · exact og_eq (.bool true) rfl (fun f wf hq hd K hK => go_run rfl (wo_bin (fun x y => do eqGuard .eql 3 (.tmp 44) (.const (.int .i64 (2))) x y; binOp .eql 3 x y) (.tmp 44) (.const (.int .i64 (2))) (.int .i64 (a)) (.int .i64 (2)) (.bool true) (fun _ => rfl) (hd 2 rfl) rfl (eq3 hf1 _ _ _) (hK _ (Mo.refl _))))
          · exact og_eq (.bool true) rfl (fun f wf hq hd K hK => go_run rfl (wo_mv (.tmp 45) (.bool true) (fun _ => rfl) (hd 3 rfl) (hK _ (Mo.refl _))))
          · exact og_eq (.slice pa 3 cp) rfl (fun f wf hq hd K hK => go_run (wnt_g rfl rfl rfl (hd 4 rfl) rfl) (wo_mv (.tmp 1) (.slice pa 3 cp) (fun _ => rfl) rfl (hK _ (Mo.refl _))))
          · exact og_eq (pt bb (ob + 1 * 1)) rfl (fun f wf hq hd K hK => go_run (wnt_g rfl rfl rfl (hd 4 rfl) rfl) (wo_bin (fun x y => Instr.indexAt 92 x y) (.tmp 47) (.const (.int .i64 (1))) (.slice pa 3 cp) (.int .i64 (1)) (pt bb (ob + 1 * 1)) (fun _ => rfl) (hd 5 rfl) rfl (ix92 (i := 1) hpb (by decide) _) (hK _ (Mo.refl _))))
          · exact og_eq (.int .i64 (b)) rfl (fun f wf hq hd K hK => go_run (wnt_g rfl rfl rfl (hd 4 rfl) rfl) (wo_load 3 (.tmp 48) (pt bb (ob + 1 * 1)) (.int .i64 (b)) rfl (hd 6 rfl) (D.run_oneR (hRb.mo (M.trans hq)).at' 3 0 rfl Try.underlying3 rfl) (hK _ (Mo.refl _))))
          · exact og_eq (.slice pa 3 cp) rfl (fun f wf hq hd K hK => go_run (wnt_g rfl rfl rfl (hd 4 rfl) rfl) (wo_mv (.tmp 1) (.slice pa 3 cp) (fun _ => rfl) rfl (hK _ (Mo.refl _))))
          · exact og_eq (pt bd (od + 2 * 1)) rfl (fun f wf hq hd K hK => go_run (wnt_g rfl rfl rfl (hd 4 rfl) rfl) (wo_bin (fun x y => Instr.indexAt 92 x y) (.tmp 50) (.const (.int .i64 (2))) (.slice pa 3 cp) (.int .i64 (2)) (pt bd (od + 2 * 1)) (fun _ => rfl) (hd 8 rfl) rfl (ix92 (i := 2) hpd (by decide) _) (hK _ (Mo.refl _))))
          · exact og_eq (.int .i64 (d)) rfl (fun f wf hq hd K hK => go_run (wnt_g rfl rfl rfl (hd 4 rfl) rfl) (wo_load 3 (.tmp 51) (pt bd (od + 2 * 1)) (.int .i64 (d)) rfl (hd 9 rfl) (D.run_oneR (hRd.mo (M.trans hq)).at' 3 0 rfl Try.underlying3 rfl) (hK _ (Mo.refl _))))
        intro kf2 u2 hq hR hne
        replace Q1 := Q1.mo hq
        replace M := M.trans hq
        clear hq hR hne
        refine wl_bin (fun x y => do eqGuard .eql 3 (.tmp 49) (.tmp 52) x y; binOp .eql 3 x y) (.tmp 49) (.tmp 52) (.int .i64 (b)) (.int .i64 (d)) (.bool true) (fun _ => rfl) rfl rfl (eq3 hf2 _ _ _) rfl ?_
        refine wl_pick (.tmp 46) (.tmp 53) (.const (.bool false)) true (.bool true) (fun _ => rfl) rfl rfl rfl ?_
        refine w_nil ?_
        refine xn_then ?_
        refine w_condT rfl ?_
        refine w_seq ?_
        refine w_reg ?_
        refine wl_mv (.tmp 1) (.slice pa 3 cp) (fun _ => rfl) rfl rfl ?_
        refine wl_bin (fun x y => Instr.indexAt 92 x y) (.tmp 55) (.const (.int .i64 (1))) (.slice pa 3 cp) (.int .i64 (1)) (pt bb (ob + 1 * 1)) (fun _ => rfl) rfl rfl (ix92 (i := 1) hpb (by decide) _) rfl ?_
        refine wl_load 3 (.tmp 56) (pt bb (ob + 1 * 1)) (.int .i64 (b)) rfl rfl (D.run_oneR (hRb.mo M).at' 3 0 rfl Try.underlying3 rfl) rfl ?_
        refine wl_mv (.tmp 57) (.int .i64 (b)) (fun _ => rfl) rfl rfl ?_
        refine w_nil ?_
        refine xn_then ?_
        refine w_ret ?_
        refine xr_blk ?_
        refine xr_then ?_
        exact w_ret1 _ (.int .i64 (b)) rfl rfl ⟨by unfold ovK; simp_all, M⟩
      | false =>
        have hf2p := of_decide_eq_false hf2
        refine w_any 11 [.inl (.slice pa 3 cp), .inl (pt ba (oa + 0 * 1)), .inl (.int .i64 (a)), .inl (.bool true), .inl (.bool true), .inl (.slice pa 3 cp), .inl (pt bb (ob + 1 * 1)), .inl (.int .i64 (b)), .inl (.slice pa 3 cp), .inl (pt bd (od + 2 * 1)), .inl (.int .i64 (d))] [] (by kernel_rfl) (by kernel_rfl) (by kernel_rfl) (by kernel_rfl) rfl (by kernel_rfl) (by kernel_rfl) late_nil ?_ ?_ ?_
        · exact Ds.none rfl
        · refine ea_cons ?_ (ea_cons ?_ (ea_cons ?_ (ea_cons ?_ (ea_cons ?_ (ea_cons ?_ (ea_cons ?_ (ea_cons ?_ (ea_cons ?_ (ea_cons ?_ (ea_cons ?_ (ea_nil)))))))))))
          · exact og_eq (.slice pa 3 cp) rfl (fun f wf hq hd K hK => go_run rfl (wo_mv (.tmp 1) (.slice pa 3 cp) (fun _ => rfl) rfl (hK _ (Mo.refl _))))
          · exact og_eq (pt ba (oa + 0 * 1)) rfl (fun f wf hq hd K hK => go_run rfl (wo_bin (fun x y => Instr.indexAt 92 x y) (.tmp 42) (.const (.int .i64 (0))) (.slice pa 3 cp) (.int .i64 (0)) (pt ba (oa + 0 * 1)) (fun _ => rfl) (hd 0 rfl) rfl (ix92 (i := 0) hpa (by decide) _) (hK _ (Mo.refl _))))
          · exact og_eq (.int .i64 (a)) rfl (fun f wf hq hd K hK => go_run rfl (wo_load 3 (.tmp 43) (pt ba (oa + 0 * 1)) (.int .i64 (a)) rfl (hd 1 rfl) (D.run_oneR (hRa.mo (M.trans hq)).at' 3 0 rfl Try.underlying3 rfl) (hK _ (Mo.refl _))))
          · exact og_eq (.bool true) rfl (fun f wf hq hd K hK => go_run rfl (wo_bin (fun x y => do eqGuard .eql 3 (.tmp 44) (.const (.int .i64 (2))) x y; binOp .eql 3 x y) (.tmp 44) (.const (.int .i64 (2))) (.int .i64 (a)) (.int .i64 (2)) (.bool true) (fun _ => rfl) (hd 2 rfl) rfl (eq3 hf1 _ _ _) (hK _ (Mo.refl _))))
          · exact og_eq (.bool true) rfl (fun f wf hq hd K hK => go_run rfl (wo_mv (.tmp 45) (.bool true) (fun _ => rfl) (hd 3 rfl) (hK _ (Mo.refl _))))
          · exact og_eq (.slice pa 3 cp) rfl (fun f wf hq hd K hK => go_run (wnt_g rfl rfl rfl (hd 4 rfl) rfl) (wo_mv (.tmp 1) (.slice pa 3 cp) (fun _ => rfl) rfl (hK _ (Mo.refl _))))
          · exact og_eq (pt bb (ob + 1 * 1)) rfl (fun f wf hq hd K hK => go_run (wnt_g rfl rfl rfl (hd 4 rfl) rfl) (wo_bin (fun x y => Instr.indexAt 92 x y) (.tmp 47) (.const (.int .i64 (1))) (.slice pa 3 cp) (.int .i64 (1)) (pt bb (ob + 1 * 1)) (fun _ => rfl) (hd 5 rfl) rfl (ix92 (i := 1) hpb (by decide) _) (hK _ (Mo.refl _))))
          · exact og_eq (.int .i64 (b)) rfl (fun f wf hq hd K hK => go_run (wnt_g rfl rfl rfl (hd 4 rfl) rfl) (wo_load 3 (.tmp 48) (pt bb (ob + 1 * 1)) (.int .i64 (b)) rfl (hd 6 rfl) (D.run_oneR (hRb.mo (M.trans hq)).at' 3 0 rfl Try.underlying3 rfl) (hK _ (Mo.refl _))))
          · exact og_eq (.slice pa 3 cp) rfl (fun f wf hq hd K hK => go_run (wnt_g rfl rfl rfl (hd 4 rfl) rfl) (wo_mv (.tmp 1) (.slice pa 3 cp) (fun _ => rfl) rfl (hK _ (Mo.refl _))))
          · exact og_eq (pt bd (od + 2 * 1)) rfl (fun f wf hq hd K hK => go_run (wnt_g rfl rfl rfl (hd 4 rfl) rfl) (wo_bin (fun x y => Instr.indexAt 92 x y) (.tmp 50) (.const (.int .i64 (2))) (.slice pa 3 cp) (.int .i64 (2)) (pt bd (od + 2 * 1)) (fun _ => rfl) (hd 8 rfl) rfl (ix92 (i := 2) hpd (by decide) _) (hK _ (Mo.refl _))))
          · exact og_eq (.int .i64 (d)) rfl (fun f wf hq hd K hK => go_run (wnt_g rfl rfl rfl (hd 4 rfl) rfl) (wo_load 3 (.tmp 51) (pt bd (od + 2 * 1)) (.int .i64 (d)) rfl (hd 9 rfl) (D.run_oneR (hRd.mo (M.trans hq)).at' 3 0 rfl Try.underlying3 rfl) (hK _ (Mo.refl _))))
        intro kf2 u2 hq hR hne
        replace Q1 := Q1.mo hq
        replace M := M.trans hq
        clear hq hR hne
        refine wl_bin (fun x y => do eqGuard .eql 3 (.tmp 49) (.tmp 52) x y; binOp .eql 3 x y) (.tmp 49) (.tmp 52) (.int .i64 (b)) (.int .i64 (d)) (.bool false) (fun _ => rfl) rfl rfl (eq3 hf2 _ _ _) rfl ?_
        refine wl_pick (.tmp 46) (.tmp 53) (.const (.bool false)) true (.bool false) (fun _ => rfl) rfl rfl rfl ?_
        refine w_nil ?_
        refine xn_then ?_
        refine w_condF rfl ?_
        refine w_skip ?_
        refine xn_blk ?_
        refine xn_then ?_
        refine w_seq ?_
        refine w_reg ?_
        refine wl_mv (.const (.int .i64 (0))) (.int .i64 (0)) (fun _ => rfl) rfl rfl ?_
        refine w_nil ?_
        refine xn_then ?_
        refine w_ret ?_
        exact w_ret1 _ (.int .i64 (0)) rfl rfl ⟨by unfold ovK; simp_all, M⟩
    | false =>
      have hf1p := of_decide_eq_false hf1
      refine w_any 11 [.inl (.slice pa 3 cp), .inl (pt ba (oa + 0 * 1)), .inl (.int .i64 (a)), .inl (.bool false), .inl (.bool false), .inl undef, .inl undef, .inl undef, .inl undef, .inl undef, .inl undef] [] (by kernel_rfl) (by kernel_rfl) (by kernel_rfl) (by kernel_rfl) rfl (by kernel_rfl) (by kernel_rfl) late_nil ?_ ?_ ?_
      · exact Ds.none rfl
      · refine ea_cons ?_ (ea_cons ?_ (ea_cons ?_ (ea_cons ?_ (ea_cons ?_ (ea_cons ?_ (ea_cons ?_ (ea_cons ?_ (ea_cons ?_ (ea_cons ?_ (ea_cons ?_ (ea_nil)))))))))))
        · exact og_eq (.slice pa 3 cp) rfl (fun f wf hq hd K hK => go_run rfl (wo_mv (.tmp 1) (.slice pa 3 cp) (fun _ => rfl) rfl (hK _ (Mo.refl _))))
        · exact og_eq (pt ba (oa + 0 * 1)) rfl (fun f wf hq hd K hK => go_run rfl (wo_bin (fun x y => Instr.indexAt 92 x y) (.tmp 42) (.const (.int .i64 (0))) (.slice pa 3 cp) (.int .i64 (0)) (pt ba (oa + 0 * 1)) (fun _ => rfl) (hd 0 rfl) rfl (ix92 (i := 0) hpa (by decide) _) (hK _ (Mo.refl _))))
        · exact og_eq (.int .i64 (a)) rfl (fun f wf hq hd K hK => go_run rfl (wo_load 3 (.tmp 43) (pt ba (oa + 0 * 1)) (.int .i64 (a)) rfl (hd 1 rfl) (D.run_oneR (hRa.mo (M.trans hq)).at' 3 0 rfl Try.underlying3 rfl) (hK _ (Mo.refl _))))
        · exact og_eq (.bool false) rfl (fun f wf hq hd K hK => go_run rfl (wo_bin (fun x y => do eqGuard .eql 3 (.tmp 44) (.const (.int .i64 (2))) x y; binOp .eql 3 x y) (.tmp 44) (.const (.int .i64 (2))) (.int .i64 (a)) (.int .i64 (2)) (.bool false) (fun _ => rfl) (hd 2 rfl) rfl (eq3 hf1 _ _ _) (hK _ (Mo.refl _))))
        · exact og_eq (.bool false) rfl (fun f wf hq hd K hK => go_run rfl (wo_mv (.tmp 45) (.bool false) (fun _ => rfl) (hd 3 rfl) (hK _ (Mo.refl _))))
        · exact og_eq undef rfl (fun f wf hq hd K hK => go_pass (wnt_g rfl rfl rfl (hd 4 rfl) rfl) (hK _ (Mo.refl _)))
        · exact og_eq undef rfl (fun f wf hq hd K hK => go_pass (wnt_g rfl rfl rfl (hd 4 rfl) rfl) (hK _ (Mo.refl _)))
        · exact og_eq undef rfl (fun f wf hq hd K hK => go_pass (wnt_g rfl rfl rfl (hd 4 rfl) rfl) (hK _ (Mo.refl _)))
        · exact og_eq undef rfl (fun f wf hq hd K hK => go_pass (wnt_g rfl rfl rfl (hd 4 rfl) rfl) (hK _ (Mo.refl _)))
        · exact og_eq undef rfl (fun f wf hq hd K hK => go_pass (wnt_g rfl rfl rfl (hd 4 rfl) rfl) (hK _ (Mo.refl _)))
        · exact og_eq undef rfl (fun f wf hq hd K hK => go_pass (wnt_g rfl rfl rfl (hd 4 rfl) rfl) (hK _ (Mo.refl _)))
      intro kf2 u2 hq hR hne
      replace Q1 := Q1.mo hq
      replace M := M.trans hq
      clear hq hR hne
      refine wl_skip rfl ?_
      refine wl_pick (.tmp 46) (.tmp 53) (.const (.bool false)) false (.bool false) (fun _ => rfl) rfl rfl rfl ?_
      refine w_nil ?_
      refine xn_then ?_
      refine w_condF rfl ?_
      refine w_skip ?_
      refine xn_blk ?_
      refine xn_then ?_
      refine w_seq ?_
      refine w_reg ?_
      refine wl_mv (.const (.int .i64 (0))) (.int .i64 (0)) (fun _ => rfl) rfl rfl ?_
      refine w_nil ?_
      refine xn_then ?_
      refine w_ret ?_
      exact w_ret1 _ (.int .i64 (0)) rfl rfl ⟨by unfold ovK; simp_all, M⟩
  | false =>
    have hf0p := of_decide_eq_false hf0
    refine wl_bin (fun x y => do eqGuard .eql 3 (.tmp 39) (.const (.int .i64 (6))) x y; binOp .eql 3 x y) (.tmp 39) (.const (.int .i64 (6))) (.int .i64 (x.k)) (.int .i64 (6)) (.bool false) (fun _ => rfl) rfl rfl (eq3 hf0 _ _ _) rfl ?_
    refine wl_pick (.tmp 37) (.tmp 40) (.const (.bool false)) true (.bool false) (fun _ => rfl) rfl rfl rfl ?_
    refine wl_mv (.tmp 41) (.bool false) (fun _ => rfl) rfl rfl ?_
    refine w_nil ?_
    refine xn_then ?_
    refine w_condF rfl ?_
    refine w_skip ?_
    refine xn_blk ?_
    refine xn_then ?_
    refine w_seq ?_
    refine w_reg ?_
    refine wl_mv (.const (.int .i64 (0))) (.int .i64 (0)) (fun _ => rfl) rfl rfl ?_
    refine w_nil ?_
    refine xn_then ?_
    refine w_ret ?_
    exact w_ret1 _ (.int .i64 (0)) rfl rfl ⟨by unfold ovK; simp_all, M⟩
theorem ov_0 (x : Ex) {pa : Option Addr} (cp : Nat) {w : World} (A : List Int) (h1 : A.length ≠ 1) (h2 : A.length ≠ 2) (h3 : A.length ≠ 3) : Calls Try.prog 91 #[.agg (x.cells).toArray, .slice pa A.length cp] w fun e w' => e = .returned (.int .i64 (ovK x.k x.op A)) ∧ Mo w w' := by
  refine w_enter 58 Try.func91 Try.ntmps91 rfl rfl ?_
  have M : Mo w w := Mo.refl _
  refine w_seq ?_
  refine w_reg ?_
  refine wl_box 38 (.tmp 0) (.agg (x.cells).toArray) (((x.cells).toArray)) rfl rfl (fun _ => by kernel_rfl) rfl ?_
  intro k1 u1 hk hz hq Q1
  have N_k1 : w.heap.size ≤ k1 := by have := M.size; omega
  replace M := M.trans hq
  clear hk hz hq
  refine wl_mv (.const (.int .i64 (0))) (.int .i64 (0)) (fun _ => rfl) rfl rfl ?_
  refine w_nil ?_
  refine xn_then ?_
  refine w_seq ?_
  refine w_block ?_
  refine w_seq ?_
  refine w_reg ?_
  refine wl_mv (.tmp 1) (.slice pa A.length cp) (fun _ => rfl) rfl rfl ?_
  refine wl_val (.int .i64 ((A.length : Nat) : Int)) (len92 _ _ _ _ _ (by exact rfl) _ _ _ _ _ _) rfl ?_
  refine wl_bin (fun x y => do eqGuard .eql 3 (.tmp 7) (.const (.int .i64 (1))) x y; binOp .eql 3 x y) (.tmp 7) (.const (.int .i64 (1))) (.int .i64 ((A.length : Nat) : Int)) (.int .i64 (1)) (.bool false) (fun _ => rfl) rfl rfl (eq3 (decide_eq_false (by omega)) _ _ _) rfl ?_
  refine wl_mv (.tmp 8) (.bool false) (fun _ => rfl) rfl rfl ?_
  refine w_nil ?_
  refine xn_then ?_
  refine w_condF rfl ?_
  refine w_seq ?_
  refine w_reg ?_
  refine wl_mv (.tmp 1) (.slice pa A.length cp) (fun _ => rfl) rfl rfl ?_
  refine wl_val (.int .i64 ((A.length : Nat) : Int)) (len92 _ _ _ _ _ (by exact rfl) _ _ _ _ _ _) rfl ?_
  refine wl_bin (fun x y => do eqGuard .eql 3 (.tmp 17) (.const (.int .i64 (2))) x y; binOp .eql 3 x y) (.tmp 17) (.const (.int .i64 (2))) (.int .i64 ((A.length : Nat) : Int)) (.int .i64 (2)) (.bool false) (fun _ => rfl) rfl rfl (eq3 (decide_eq_false (by omega)) _ _ _) rfl ?_
  refine wl_mv (.tmp 18) (.bool false) (fun _ => rfl) rfl rfl ?_
  refine wl_skip rfl ?_
  refine wl_skip rfl ?_
  refine wl_skip rfl ?_
  refine wl_pick (.tmp 19) (.tmp 22) (.const (.bool false)) false (.bool false) (fun _ => rfl) rfl rfl rfl ?_
  refine wl_mv (.tmp 23) (.bool false) (fun _ => rfl) rfl rfl ?_
  refine w_nil ?_
  refine xn_then ?_
  refine w_condF rfl ?_
  refine w_seq ?_
  refine w_reg ?_
  refine wl_mv (.tmp 1) (.slice pa A.length cp) (fun _ => rfl) rfl rfl ?_
  refine wl_val (.int .i64 ((A.length : Nat) : Int)) (len92 _ _ _ _ _ (by exact rfl) _ _ _ _ _ _) rfl ?_
  refine wl_bin (fun x y => do eqGuard .eql 3 (.tmp 35) (.const (.int .i64 (3))) x y; binOp .eql 3 x y) (.tmp 35) (.const (.int .i64 (3))) (.int .i64 ((A.length : Nat) : Int)) (.int .i64 (3)) (.bool false) (fun _ => rfl) rfl rfl (eq3 (decide_eq_false (by omega)) _ _ _) rfl ?_
  refine wl_mv (.tmp 36) (.bool false) (fun _ => rfl) rfl rfl ?_
  refine wl_skip rfl ?_
  refine wl_skip rfl ?_
  refine wl_skip rfl ?_
  refine wl_pick (.tmp 37) (.tmp 40) (.const (.bool false)) false (.bool false) (fun _ => rfl) rfl rfl rfl ?_
  refine wl_mv (.tmp 41) (.bool false) (fun _ => rfl) rfl rfl ?_
  refine w_nil ?_
  refine xn_then ?_
  refine w_condF rfl ?_
  refine w_skip ?_
  refine xn_blk ?_
  refine xn_then ?_
  refine w_seq ?_
  refine w_reg ?_
  refine wl_mv (.const (.int .i64 (0))) (.int .i64 (0)) (fun _ => rfl) rfl rfl ?_
  refine w_nil ?_
  refine xn_then ?_
  refine w_ret ?_
  exact w_ret1 _ (.int .i64 (0)) rfl rfl ⟨by rw [ov_big x.k x.op h1 h2 h3], M⟩
theorem ov_n (x : Ex) {pa : Option Addr} (cp : Nat) {w : World} (A : List Int) (hS : SL w 1 kc pa A) : Calls Try.prog 91 #[.agg (x.cells).toArray, .slice pa A.length cp] w fun e w' => e = .returned (.int .i64 (ovK x.k x.op A)) ∧ Mo w w' := by
  match A, hS with
  | [], _ => exact ov_0 x cp [] (by decide) (by decide) (by decide)
  | [a], hS => exact ov_1 x cp a hS
  | [a, b], hS => exact ov_2 x cp a b hS
  | [a, b, d], hS => exact ov_3 x cp a b d hS
  | a :: b :: d :: f :: A, _ => exact ov_0 x cp (a :: b :: d :: f :: A) (by simp) (by simp) (by simp)
end Go.Proofs.Ytepfokoepibkcaa
namespace Go.Proofs.Ytepfokoepibkcaa
open Go.RowKit D
theorem agK_of {L : List S5} {s kk kz iz : Nat} {x : Ex} {y : It} (h1 : L.findIdx? (pKd s x.se) = some kk) (h2 : ¬ x.op = 16) (h3 : fnF L x.nm (kk + 1) = some (kz, iz)) (h4 : kz = kk) (h5 : itA L kz iz = some y) : agK L s x = sui (colK x.op y.tk) := by
  subst h4
  unfold agK
  rw [h1]
  simp only [h2, h3, h5, if_false, if_true]
theorem nmK_n {w : World} {d : Df} {sp : Option Addr} {L : List S5} {s : Nat} (hR : RD w d sp L s) (sc : Nat) (nm : ByteArray) : Calls Try.prog 86 #[.agg (rdr d sp L sc s).toArray, .string nm] w fun e w' => e = .returned (tu2 (nmK L s nm)) ∧ Mo w w' := by
  refine w_enter 36 Try.func86 Try.ntmps86 rfl rfl ?_
  have M : Mo w w := Mo.refl _
  refine w_seq ?_
  refine w_reg ?_
  refine wl_box 88 (.tmp 0) (.agg (rdr d sp L sc s).toArray) (((rdr d sp L sc s).toArray)) rfl rfl (fun _ => by kernel_rfl) rfl ?_
  intro k1 u1 hk hz hq Q1
  have N_k1 : w.heap.size ≤ k1 := by have := M.size; omega
  replace M := M.trans hq
  clear hk hz hq
  refine wl_mv (.const (.int .i64 (0))) (.int .i64 (0)) (fun _ => rfl) rfl rfl ?_
  refine wl_mv (.const (.int .i64 (0))) (.int .i64 (0)) (fun _ => rfl) rfl rfl ?_
  refine w_nil ?_
  refine xn_then ?_
  refine w_seq ?_
  refine w_reg ?_
  refine wl_un (fun v => Instr.fieldAt 88 v 1) (.tmp 2) (pt k1 0) (pt k1 7) (fun _ => rfl) rfl (by kernel_rfl) rfl ?_
  refine wl_load 55 (.tmp 11) (pt k1 7) (.slice sp L.length sc) rfl rfl (run_one Q1 55 7 rfl Try.underlying55 rfl) rfl ?_
  refine wl_un (fun v => Instr.fieldAt 88 v 2) (.tmp 2) (pt k1 0) (pt k1 8) (fun _ => rfl) rfl (by kernel_rfl) rfl ?_
  refine wl_load 3 (.tmp 13) (pt k1 8) (.int .i64 ((s : Nat) : Int)) rfl rfl (run_one Q1 3 8 rfl Try.underlying3 rfl) rfl ?_
  refine wl_mv (.tmp 1) (.string nm) (fun _ => rfl) rfl rfl ?_
  cases hf0 : (fnF L nm (s + 1)).isSome with
  | true =>
    obtain ⟨⟨kz, iz⟩, hrz⟩ := Option.isSome_iff_exists.1 hf0
    obtain ⟨xz, yz, hxz, hyz⟩ := fnF_some _ hrz
    have hmxz := List.mem_of_getElem? hxz
    have hcz := find_s (hR.ls.kp M.kp) (fun x hx => (hR.it x hx).kp M.kp) hR.wf hR.ln s hR.lt nm (c := sc)
    rw [hrz] at hcz
    refine wl_call 98 [(.tmp 12), (.tmp 14), (.tmp 15)] _ [.slice sp L.length sc, .int .i64 ((s : Nat) : Int), .string nm] (.tuple #[.int .i64 ((kz : Nat) : Int), .int .i64 ((iz : Nat) : Int), .bool true]) rfl rfl (fun _ _ => by kernel_rfl) (hcz) rfl ?_
    intro u2 hq
    replace Q1 := Q1.mo hq
    replace M := M.trans hq
    clear hq
    refine wl_mv (.tmp 16) (.tuple #[.int .i64 ((kz : Nat) : Int), .int .i64 ((iz : Nat) : Int), .bool true]) (fun _ => rfl) rfl rfl ?_
    refine wl_un (fun v => Instr.extract v 0) (.tmp 10) (.tuple #[.int .i64 ((kz : Nat) : Int), .int .i64 ((iz : Nat) : Int), .bool true]) (.int .i64 ((kz : Nat) : Int)) (fun _ => rfl) rfl (by kernel_rfl) rfl ?_
    refine wl_un (fun v => Instr.extract v 1) (.tmp 10) (.tuple #[.int .i64 ((kz : Nat) : Int), .int .i64 ((iz : Nat) : Int), .bool true]) (.int .i64 ((iz : Nat) : Int)) (fun _ => rfl) rfl (by kernel_rfl) rfl ?_
    refine wl_un (fun v => Instr.extract v 2) (.tmp 10) (.tuple #[.int .i64 ((kz : Nat) : Int), .int .i64 ((iz : Nat) : Int), .bool true]) (.bool true) (fun _ => rfl) rfl (by kernel_rfl) rfl ?_
    refine wl_mv (.tmp 17) (.int .i64 ((kz : Nat) : Int)) (fun _ => rfl) rfl rfl ?_
    refine wl_mv (.tmp 18) (.int .i64 ((iz : Nat) : Int)) (fun _ => rfl) rfl rfl ?_
    refine wl_mv (.tmp 19) (.bool true) (fun _ => rfl) rfl rfl ?_
    refine w_nil ?_
    refine xn_then ?_
    refine w_seq ?_
    refine w_seq ?_
    refine w_reg ?_
    refine wl_mv (.tmp 8) (.bool true) (fun _ => rfl) rfl rfl ?_
    refine wl_un (fun v => Op.unary .not v) (.tmp 20) (.bool true) (.bool false) (fun _ => rfl) rfl (by kernel_rfl) rfl ?_
    refine w_nil ?_
    refine xn_then ?_
    refine w_condF rfl ?_
    refine w_skip ?_
    refine xn_then ?_
    refine w_seq ?_
    refine w_reg ?_
    refine wl_un (fun v => Instr.fieldAt 88 v 1) (.tmp 2) (pt k1 0) (pt k1 7) (fun _ => rfl) rfl (by kernel_rfl) rfl ?_
    refine wl_load 55 (.tmp 22) (pt k1 7) (.slice sp L.length sc) rfl rfl (run_one Q1 55 7 rfl Try.underlying55 rfl) rfl ?_
    refine wl_mv (.tmp 6) (.int .i64 ((kz : Nat) : Int)) (fun _ => rfl) rfl rfl ?_
    obtain ⟨buz, ouz, hpuz, hRuz⟩ := D.SL.rw hR.ls hxz
    refine wl_bin (fun x y => Instr.indexAt 55 x y) (.tmp 23) (.tmp 24) (.slice sp L.length sc) (.int .i64 ((kz : Nat) : Int)) (pt buz (ouz + kz * 5)) (fun _ => rfl) rfl rfl (ix55 (i := kz) hpuz (lt_of_get hxz) _) rfl ?_
    refine wl_un (fun v => Instr.fieldAt 62 v 4) (.tmp 25) (pt buz (ouz + kz * 5)) (pt buz (ouz + kz * 5 + 4)) (fun _ => rfl) rfl (by kernel_rfl) rfl ?_
    refine wl_load 45 (.tmp 26) (pt buz (ouz + kz * 5 + 4)) (.slice xz.pi xz.items.length xz.ci) rfl rfl (D.run_oneR (hRuz.mo M).at' 45 4 rfl Try.underlying45 rfl) rfl ?_
    refine wl_mv (.tmp 7) (.int .i64 ((iz : Nat) : Int)) (fun _ => rfl) rfl rfl ?_
    obtain ⟨bvz, ovz, hpvz, hRvz⟩ := D.SL.rw (hR.it xz hmxz) hyz
    refine wl_bin (fun x y => Instr.indexAt 45 x y) (.tmp 27) (.tmp 28) (.slice xz.pi xz.items.length xz.ci) (.int .i64 ((iz : Nat) : Int)) (pt bvz (ovz + iz * 23)) (fun _ => rfl) rfl rfl (ix45 (i := iz) hpvz (lt_of_get hyz) _) rfl ?_
    refine wl_un (fun v => Instr.fieldAt 67 v 2) (.tmp 29) (pt bvz (ovz + iz * 23)) (pt bvz (ovz + iz * 23 + 2)) (fun _ => rfl) rfl (by kernel_rfl) rfl ?_
    refine wl_load 30 (.tmp 30) (pt bvz (ovz + iz * 23 + 2)) (.agg #[.int .i64 yz.tk, .int .i64 yz.ts]) rfl rfl (D.run_partR (hRvz.mo M).at' 30 2 2 [.int .i64 yz.tk, .int .i64 yz.ts] rfl Try.underlying30 rfl sz30) rfl ?_
    refine wl_alloc 30 #[.int .i64 0, .int .i64 0] rfl (fun _ => by kernel_rfl) rfl ?_
    intro k2 u3 hk hz hq Q2
    have ne_k1_k2 : k1 ≠ k2 := by have := Q1.lt; omega
    have N_k2 : w.heap.size ≤ k2 := by have := M.size; omega
    replace Q1 := Q1.mo hq
    replace M := M.trans hq
    clear hk hz hq
    refine wl_st 30 (.tmp 9) (.tmp 31) k2 0 #[.int .i64 yz.tk, .int .i64 yz.ts] [.int .i64 0, .int .i64 0] [.int .i64 yz.tk, .int .i64 yz.ts] Q2 rfl rfl rfl rfl rfl sz30 rfl rfl rfl ?_
    intro u4 hS Qn
    replace Q2 := Qn
    clear Qn
    replace Q1 := hS.other _ _ ne_k1_k2 Q1
    replace M := hS.mo _ N_k2 M
    clear hS
    refine w_nil ?_
    refine xn_then ?_
    refine w_seq ?_
    refine w_any 4 [.inl (pt k2 0), .inl (.int .i64 (yz.tk)), .inl (.agg #[.int .i64 yz.tk, .int .i64 yz.ts]), .inl (.int .i64 (tyc yz.tk yz.ts))] [] (by kernel_rfl) (by kernel_rfl) (by kernel_rfl) (by kernel_rfl) rfl (by kernel_rfl) (by kernel_rfl) late_nil ?_ ?_ ?_
    · exact Ds.none rfl
    · refine ea_cons ?_ (ea_cons ?_ (ea_cons ?_ (ea_cons ?_ (ea_nil))))
      · exact og_eq (pt k2 0) rfl (fun f wf hq hd K hK => go_run rfl (wo_un (fun v => Instr.fieldAt 30 v 0) (.tmp 9) (pt k2 0) (pt k2 0) (fun _ => rfl) rfl (by kernel_rfl) (hK _ (Mo.refl _))))
      · exact og_eq (.int .i64 (yz.tk)) rfl (fun f wf hq hd K hK => have Q2 := Q2.mo hq; go_run rfl (wo_load 3 (.tmp 32) (pt k2 0) (.int .i64 (yz.tk)) rfl (hd 0 rfl) (run_one Q2 3 0 rfl Try.underlying3 rfl) (hK _ (Mo.refl _))))
      · exact og_eq (.agg #[.int .i64 yz.tk, .int .i64 yz.ts]) rfl (fun f wf hq hd K hK => have Q2 := Q2.mo hq; go_run rfl (wo_load 30 (.tmp 9) (pt k2 0) (.agg #[.int .i64 yz.tk, .int .i64 yz.ts]) rfl rfl (run_row Q2 30 0 2 [.int .i64 yz.tk, .int .i64 yz.ts] rfl Try.underlying30 rfl sz30) (hK _ (Mo.refl _))))
      · exact og_eq (.int .i64 (tyc yz.tk yz.ts)) rfl (fun f wf hq hd K hK => go_run rfl (wo_call 8 [(.tmp 34)] _ [.agg #[.int .i64 yz.tk, .int .i64 yz.ts]] (.int .i64 (tyc yz.tk yz.ts)) rfl (li1 (hd 2 rfl)) (fun _ _ => by kernel_rfl) (typ_n yz.tk yz.ts _) hK))
    intro kf5 u5 hq hR hne
    replace Q1 := Q1.mo hq
    replace Q2 := Q2.mo hq
    replace M := M.trans hq
    clear hq hR hne
    refine wl_mv (.tmp 33) (.int .i64 (yz.tk)) (fun _ => rfl) rfl rfl ?_
    refine wl_mv (.tmp 35) (.int .i64 (tyc yz.tk yz.ts)) (fun _ => rfl) rfl rfl ?_
    refine w_nil ?_
    refine xn_then ?_
    refine w_ret ?_
    exact w_ret2 _ _ (.int .i64 (yz.tk)) (.int .i64 (tyc yz.tk yz.ts)) rfl rfl rfl ⟨by rw [nmK_of hrz (itA_of hxz hyz)], M⟩
  | false =>
    have hrz : fnF L nm (s + 1) = none := by simpa using hf0
    have hcz := find_s (hR.ls.kp M.kp) (fun x hx => (hR.it x hx).kp M.kp) hR.wf hR.ln s hR.lt nm (c := sc)
    rw [hrz] at hcz
    refine wl_call 98 [(.tmp 12), (.tmp 14), (.tmp 15)] _ [.slice sp L.length sc, .int .i64 ((s : Nat) : Int), .string nm] (.tuple #[.int .i64 (0), .int .i64 (0), .bool false]) rfl rfl (fun _ _ => by kernel_rfl) (hcz) rfl ?_
    intro u2 hq
    replace Q1 := Q1.mo hq
    replace M := M.trans hq
    clear hq
    refine wl_mv (.tmp 16) (.tuple #[.int .i64 (0), .int .i64 (0), .bool false]) (fun _ => rfl) rfl rfl ?_
    refine wl_un (fun v => Instr.extract v 0) (.tmp 10) (.tuple #[.int .i64 (0), .int .i64 (0), .bool false]) (.int .i64 (0)) (fun _ => rfl) rfl (by kernel_rfl) rfl ?_
    refine wl_un (fun v => Instr.extract v 1) (.tmp 10) (.tuple #[.int .i64 (0), .int .i64 (0), .bool false]) (.int .i64 (0)) (fun _ => rfl) rfl (by kernel_rfl) rfl ?_
    refine wl_un (fun v => Instr.extract v 2) (.tmp 10) (.tuple #[.int .i64 (0), .int .i64 (0), .bool false]) (.bool false) (fun _ => rfl) rfl (by kernel_rfl) rfl ?_
    refine wl_mv (.tmp 17) (.int .i64 (0)) (fun _ => rfl) rfl rfl ?_
    refine wl_mv (.tmp 18) (.int .i64 (0)) (fun _ => rfl) rfl rfl ?_
    refine wl_mv (.tmp 19) (.bool false) (fun _ => rfl) rfl rfl ?_
    refine w_nil ?_
    refine xn_then ?_
    refine w_seq ?_
    refine w_seq ?_
    refine w_reg ?_
    refine wl_mv (.tmp 8) (.bool false) (fun _ => rfl) rfl rfl ?_
    refine wl_un (fun v => Op.unary .not v) (.tmp 20) (.bool false) (.bool true) (fun _ => rfl) rfl (by kernel_rfl) rfl ?_
    refine w_nil ?_
    refine xn_then ?_
    refine w_condT rfl ?_
    refine w_seq ?_
    refine w_reg ?_
    refine wl_mv (.const (.int .i64 (0))) (.int .i64 (0)) (fun _ => rfl) rfl rfl ?_
    refine wl_mv (.const (.int .i64 (91))) (.int .i64 (91)) (fun _ => rfl) rfl rfl ?_
    refine w_nil ?_
    refine xn_then ?_
    refine w_ret ?_
    refine xr_then ?_
    exact w_ret2 _ _ (.int .i64 (0)) (.int .i64 (91)) rfl rfl rfl ⟨by rw [nmK_no hrz], M⟩
theorem agK_n {w : World} {d : Df} {sp : Option Addr} {L : List S5} {s : Nat} (hR : RD w d sp L s) (sc : Nat) (x : Ex) : Calls Try.prog 87 #[.agg (rdr d sp L sc s).toArray, .agg (x.cells).toArray] w fun e w' => e = .returned (tu2 (agK L s x)) ∧ Mo w w' := by
  refine w_enter 62 Try.func87 Try.ntmps87 rfl rfl ?_
  have M : Mo w w := Mo.refl _
  refine w_seq ?_
  refine w_reg ?_
  refine wl_box 88 (.tmp 0) (.agg (rdr d sp L sc s).toArray) (((rdr d sp L sc s).toArray)) rfl rfl (fun _ => by kernel_rfl) rfl ?_
  intro k1 u1 hk hz hq Q1
  have N_k1 : w.heap.size ≤ k1 := by have := M.size; omega
  replace M := M.trans hq
  clear hk hz hq
  refine wl_box 38 (.tmp 1) (.agg (x.cells).toArray) (((x.cells).toArray)) rfl rfl (fun _ => by kernel_rfl) rfl ?_
  intro k2 u2 hk hz hq Q2
  have ne_k1_k2 : k1 ≠ k2 := by have := Q1.lt; omega
  have N_k2 : w.heap.size ≤ k2 := by have := M.size; omega
  replace Q1 := Q1.mo hq
  replace M := M.trans hq
  clear hk hz hq
  refine wl_mv (.const (.int .i64 (0))) (.int .i64 (0)) (fun _ => rfl) rfl rfl ?_
  refine wl_mv (.const (.int .i64 (0))) (.int .i64 (0)) (fun _ => rfl) rfl rfl ?_
  refine w_nil ?_
  refine xn_then ?_
  refine w_seq ?_
  refine w_reg ?_
  refine wl_un (fun v => Instr.fieldAt 88 v 1) (.tmp 2) (pt k1 0) (pt k1 7) (fun _ => rfl) rfl (by kernel_rfl) rfl ?_
  refine wl_load 55 (.tmp 11) (pt k1 7) (.slice sp L.length sc) rfl rfl (run_one Q1 55 7 rfl Try.underlying55 rfl) rfl ?_
  refine wl_un (fun v => Instr.fieldAt 88 v 2) (.tmp 2) (pt k1 0) (pt k1 8) (fun _ => rfl) rfl (by kernel_rfl) rfl ?_
  refine wl_load 3 (.tmp 13) (pt k1 8) (.int .i64 ((s : Nat) : Int)) rfl rfl (run_one Q1 3 8 rfl Try.underlying3 rfl) rfl ?_
  refine wl_un (fun v => Instr.fieldAt 38 v 3) (.tmp 3) (pt k2 0) (pt k2 3) (fun _ => rfl) rfl (by kernel_rfl) rfl ?_
  refine wl_load 9 (.tmp 15) (pt k2 3) (.string x.se) rfl rfl (run_one Q2 9 3 rfl Try.underlying9 rfl) rfl ?_
  cases hf0 : (L.findIdx? (pKd s x.se)).isSome with
  | true =>
    have hck := kid_n (hR.ls.kp M.kp) (c := sc) ((s : Nat) : Int) x.se
    obtain ⟨kk, hkk⟩ := Option.isSome_iff_exists.1 hf0
    have hkl : kk < L.length := by obtain ⟨h9, _⟩ := List.findIdx?_eq_some_iff_getElem.1 hkk; exact h9
    rw [show L.findIdx? (fun y : S5 => decide (y.pr = ((s : Nat) : Int)) && decide (y.nm = x.se)) = some kk from hkk] at hck
    refine wl_call 99 [(.tmp 12), (.tmp 14), (.tmp 16)] _ [.slice sp L.length sc, .int .i64 ((s : Nat) : Int), .string x.se] (.tuple #[.int .i64 ((kk : Nat) : Int), .bool true]) rfl rfl (fun _ _ => by kernel_rfl) (hck) rfl ?_
    intro u3 hq
    replace Q1 := Q1.mo hq
    replace Q2 := Q2.mo hq
    replace M := M.trans hq
    clear hq
    refine wl_mv (.tmp 17) (.tuple #[.int .i64 ((kk : Nat) : Int), .bool true]) (fun _ => rfl) rfl rfl ?_
    refine wl_un (fun v => Instr.extract v 0) (.tmp 10) (.tuple #[.int .i64 ((kk : Nat) : Int), .bool true]) (.int .i64 ((kk : Nat) : Int)) (fun _ => rfl) rfl (by kernel_rfl) rfl ?_
    refine wl_un (fun v => Instr.extract v 1) (.tmp 10) (.tuple #[.int .i64 ((kk : Nat) : Int), .bool true]) (.bool true) (fun _ => rfl) rfl (by kernel_rfl) rfl ?_
    refine wl_mv (.tmp 18) (.int .i64 ((kk : Nat) : Int)) (fun _ => rfl) rfl rfl ?_
    refine wl_mv (.tmp 19) (.bool true) (fun _ => rfl) rfl rfl ?_
    refine w_nil ?_
    refine xn_then ?_
    refine w_seq ?_
    refine w_seq ?_
    refine w_reg ?_
    refine wl_mv (.tmp 7) (.bool true) (fun _ => rfl) rfl rfl ?_
    refine wl_un (fun v => Op.unary .not v) (.tmp 20) (.bool true) (.bool false) (fun _ => rfl) rfl (by kernel_rfl) rfl ?_
    refine w_nil ?_
    refine xn_then ?_
    refine w_condF rfl ?_
    refine w_skip ?_
    refine xn_then ?_
    refine w_seq ?_
    refine w_seq ?_
    refine w_reg ?_
    refine wl_un (fun v => Instr.fieldAt 38 v 1) (.tmp 3) (pt k2 0) (pt k2 1) (fun _ => rfl) rfl (by kernel_rfl) rfl ?_
    refine wl_load 3 (.tmp 22) (pt k2 1) (.int .i64 (x.op)) rfl rfl (run_one Q2 3 1 rfl Try.underlying3 rfl) rfl ?_
    cases hf1 : decide (x.op = 16) with
    | true =>
      have hf1p := of_decide_eq_true hf1
      refine wl_bin (fun x y => do eqGuard .eql 3 (.tmp 23) (.const (.int .i64 (16))) x y; binOp .eql 3 x y) (.tmp 23) (.const (.int .i64 (16))) (.int .i64 (x.op)) (.int .i64 (16)) (.bool true) (fun _ => rfl) rfl rfl (eq3 hf1 _ _ _) rfl ?_
      refine w_nil ?_
      refine xn_then ?_
      refine w_condT rfl ?_
      refine w_seq ?_
      refine w_seq ?_
      refine w_reg ?_
      refine wl_un (fun v => Instr.fieldAt 38 v 2) (.tmp 3) (pt k2 0) (pt k2 2) (fun _ => rfl) rfl (by kernel_rfl) rfl ?_
      refine wl_load 9 (.tmp 25) (pt k2 2) (.string x.nm) rfl rfl (run_one Q2 9 2 rfl Try.underlying9 rfl) rfl ?_
      cases hf2 : decide (x.nm = ⟨#[]⟩) with
      | true =>
        have hf2p := of_decide_eq_true hf2
        refine wl_bin (fun x y => do eqGuard .neq 9 (.tmp 26) (.const (.string ⟨#[]⟩)) x y; binOp .neq 9 x y) (.tmp 26) (.const (.string ⟨#[]⟩)) (.string x.nm) (.string ⟨#[]⟩) (.bool false) (fun _ => rfl) rfl rfl (sn9 hf2 _ _ _) rfl ?_
        refine w_nil ?_
        refine xn_then ?_
        refine w_condF rfl ?_
        refine w_skip ?_
        refine xn_then ?_
        refine w_seq ?_
        refine w_reg ?_
        refine wl_mv (.const (.int .i64 (1))) (.int .i64 (1)) (fun _ => rfl) rfl rfl ?_
        refine wl_mv (.const (.int .i64 (0))) (.int .i64 (0)) (fun _ => rfl) rfl rfl ?_
        refine w_nil ?_
        refine xn_then ?_
        refine w_ret ?_
        refine xr_then ?_
        exact w_ret2 _ _ (.int .i64 (1)) (.int .i64 (0)) rfl rfl rfl ⟨by unfold agK; rw [hkk]; simp only [hf1p, hf2p]; rfl, M⟩
      | false =>
        have hf2p := of_decide_eq_false hf2
        refine wl_bin (fun x y => do eqGuard .neq 9 (.tmp 26) (.const (.string ⟨#[]⟩)) x y; binOp .neq 9 x y) (.tmp 26) (.const (.string ⟨#[]⟩)) (.string x.nm) (.string ⟨#[]⟩) (.bool true) (fun _ => rfl) rfl rfl (sn9 hf2 _ _ _) rfl ?_
        refine w_nil ?_
        refine xn_then ?_
        refine w_condT rfl ?_
        refine w_seq ?_
        refine w_reg ?_
        refine wl_mv (.const (.int .i64 (0))) (.int .i64 (0)) (fun _ => rfl) rfl rfl ?_
        refine wl_mv (.const (.int .i64 (100))) (.int .i64 (100)) (fun _ => rfl) rfl rfl ?_
        refine w_nil ?_
        refine xn_then ?_
        refine w_ret ?_
        refine xr_then ?_
        refine xr_then ?_
        exact w_ret2 _ _ (.int .i64 (0)) (.int .i64 (100)) rfl rfl rfl ⟨by unfold agK; rw [hkk]; simp only [hf1p, hf2p]; rfl, M⟩
    | false =>
      have hf1p := of_decide_eq_false hf1
      refine wl_bin (fun x y => do eqGuard .eql 3 (.tmp 23) (.const (.int .i64 (16))) x y; binOp .eql 3 x y) (.tmp 23) (.const (.int .i64 (16))) (.int .i64 (x.op)) (.int .i64 (16)) (.bool false) (fun _ => rfl) rfl rfl (eq3 hf1 _ _ _) rfl ?_
      refine w_nil ?_
      refine xn_then ?_
      refine w_condF rfl ?_
      refine w_skip ?_
      refine xn_then ?_
      refine w_seq ?_
      refine w_reg ?_
      refine wl_un (fun v => Instr.fieldAt 88 v 1) (.tmp 2) (pt k1 0) (pt k1 7) (fun _ => rfl) rfl (by kernel_rfl) rfl ?_
      refine wl_load 55 (.tmp 29) (pt k1 7) (.slice sp L.length sc) rfl rfl (run_one Q1 55 7 rfl Try.underlying55 rfl) rfl ?_
      refine wl_mv (.tmp 6) (.int .i64 ((kk : Nat) : Int)) (fun _ => rfl) rfl rfl ?_
      refine wl_un (fun v => Instr.fieldAt 38 v 2) (.tmp 3) (pt k2 0) (pt k2 2) (fun _ => rfl) rfl (by kernel_rfl) rfl ?_
      refine wl_load 9 (.tmp 32) (pt k2 2) (.string x.nm) rfl rfl (run_one Q2 9 2 rfl Try.underlying9 rfl) rfl ?_
      cases hf2 : (fnF L x.nm (kk + 1)).isSome with
      | true =>
        obtain ⟨⟨kz, iz⟩, hrz⟩ := Option.isSome_iff_exists.1 hf2
        obtain ⟨xz, yz, hxz, hyz⟩ := fnF_some _ hrz
        have hmxz := List.mem_of_getElem? hxz
        have hcz := find_s (hR.ls.kp M.kp) (fun x hx => (hR.it x hx).kp M.kp) hR.wf hR.ln kk hkl x.nm (c := sc)
        rw [hrz] at hcz
        refine wl_call 98 [(.tmp 30), (.tmp 31), (.tmp 33)] _ [.slice sp L.length sc, .int .i64 ((kk : Nat) : Int), .string x.nm] (.tuple #[.int .i64 ((kz : Nat) : Int), .int .i64 ((iz : Nat) : Int), .bool true]) rfl rfl (fun _ _ => by kernel_rfl) (hcz) rfl ?_
        intro u4 hq
        replace Q1 := Q1.mo hq
        replace Q2 := Q2.mo hq
        replace M := M.trans hq
        clear hq
        refine wl_mv (.tmp 34) (.tuple #[.int .i64 ((kz : Nat) : Int), .int .i64 ((iz : Nat) : Int), .bool true]) (fun _ => rfl) rfl rfl ?_
        refine wl_un (fun v => Instr.extract v 0) (.tmp 28) (.tuple #[.int .i64 ((kz : Nat) : Int), .int .i64 ((iz : Nat) : Int), .bool true]) (.int .i64 ((kz : Nat) : Int)) (fun _ => rfl) rfl (by kernel_rfl) rfl ?_
        refine wl_un (fun v => Instr.extract v 1) (.tmp 28) (.tuple #[.int .i64 ((kz : Nat) : Int), .int .i64 ((iz : Nat) : Int), .bool true]) (.int .i64 ((iz : Nat) : Int)) (fun _ => rfl) rfl (by kernel_rfl) rfl ?_
        refine wl_un (fun v => Instr.extract v 2) (.tmp 28) (.tuple #[.int .i64 ((kz : Nat) : Int), .int .i64 ((iz : Nat) : Int), .bool true]) (.bool true) (fun _ => rfl) rfl (by kernel_rfl) rfl ?_
        refine wl_mv (.tmp 35) (.int .i64 ((kz : Nat) : Int)) (fun _ => rfl) rfl rfl ?_
        refine wl_mv (.tmp 36) (.int .i64 ((iz : Nat) : Int)) (fun _ => rfl) rfl rfl ?_
        refine wl_mv (.tmp 37) (.bool true) (fun _ => rfl) rfl rfl ?_
        refine w_nil ?_
        refine xn_then ?_
        refine w_seq ?_
        refine w_seq ?_
        refine w_reg ?_
        refine wl_mv (.tmp 7) (.bool true) (fun _ => rfl) rfl rfl ?_
        refine wl_un (fun v => Op.unary .not v) (.tmp 38) (.bool true) (.bool false) (fun _ => rfl) rfl (by kernel_rfl) rfl ?_
        refine wl_mv (.tmp 39) (.bool false) (fun _ => rfl) rfl rfl ?_
        refine wl_mv (.tmp 8) (.int .i64 ((kz : Nat) : Int)) (fun _ => rfl) rfl rfl ?_
        refine wl_mv (.tmp 6) (.int .i64 ((kk : Nat) : Int)) (fun _ => rfl) rfl rfl ?_
        cases hf3 : decide (((kz : Nat) : Int) = ((kk : Nat) : Int)) with
        | true =>
          have hf3p := of_decide_eq_true hf3
          refine wl_bin (fun x y => do eqGuard .neq 3 (.tmp 41) (.tmp 42) x y; binOp .neq 3 x y) (.tmp 41) (.tmp 42) (.int .i64 ((kz : Nat) : Int)) (.int .i64 ((kk : Nat) : Int)) (.bool false) (fun _ => rfl) rfl rfl (ne3 hf3 _ _ _) rfl ?_
          refine wl_pick (.tmp 40) (.const (.bool true)) (.tmp 43) false (.bool false) (fun _ => rfl) rfl rfl rfl ?_
          refine w_nil ?_
          refine xn_then ?_
          refine w_condF rfl ?_
          refine w_skip ?_
          refine xn_then ?_
          refine w_seq ?_
          have hxk : L[kk]? = some xz := by rw [show kk = kz by omega]; exact hxz
          obtain ⟨buk, ouk, hpuk, hRuk⟩ := D.SL.rw hR.ls hxk
          obtain ⟨bvz, ovz, hpvz, hRvz⟩ := D.SL.rw (hR.it xz hmxz) hyz
          refine w_any 17 [.inl (pt k2 1), .inl (.int .i64 (x.op)), .inl (pt k1 7), .inl (.slice sp L.length sc), .inl (.int .i64 ((kk : Nat) : Int)), .inl (pt buk (ouk + kk * 5)), .inl (pt buk (ouk + kk * 5 + 4)), .inl (.slice xz.pi xz.items.length xz.ci), .inl (.int .i64 ((iz : Nat) : Int)), .inl (pt bvz (ovz + iz * 23)), .inl (pt bvz (ovz + iz * 23 + 2)), .inl (pt bvz (ovz + iz * 23 + 2)), .inl (.int .i64 (yz.tk)), .inl (.int .i64 (colK x.op yz.tk)), .inl (.tuple #[.int .i64 ((sui (colK x.op yz.tk)).1), .int .i64 ((sui (colK x.op yz.tk)).2)]), .inl (.int .i64 ((sui (colK x.op yz.tk)).1)), .inl (.int .i64 ((sui (colK x.op yz.tk)).2))] [] (by kernel_rfl) (by kernel_rfl) (by kernel_rfl) (by kernel_rfl) rfl (by kernel_rfl) (by kernel_rfl) late_nil ?_ ?_ ?_
          · exact Ds.none rfl
          · refine ea_cons ?_ (ea_cons ?_ (ea_cons ?_ (ea_cons ?_ (ea_cons ?_ (ea_cons ?_ (ea_cons ?_ (ea_cons ?_ (ea_cons ?_ (ea_cons ?_ (ea_cons ?_ (ea_cons ?_ (ea_cons ?_ (ea_cons ?_ (ea_cons ?_ (ea_cons ?_ (ea_cons ?_ (ea_nil)))))))))))))))))
            · exact og_eq (pt k2 1) rfl (fun f wf hq hd K hK => go_run rfl (wo_un (fun v => Instr.fieldAt 38 v 1) (.tmp 3) (pt k2 0) (pt k2 1) (fun _ => rfl) rfl (by kernel_rfl) (hK _ (Mo.refl _))))
            · exact og_eq (.int .i64 (x.op)) rfl (fun f wf hq hd K hK => have Q2 := Q2.mo hq; go_run rfl (wo_load 3 (.tmp 45) (pt k2 1) (.int .i64 (x.op)) rfl (hd 0 rfl) (run_one Q2 3 1 rfl Try.underlying3 rfl) (hK _ (Mo.refl _))))
            · exact og_eq (pt k1 7) rfl (fun f wf hq hd K hK => go_run rfl (wo_un (fun v => Instr.fieldAt 88 v 1) (.tmp 2) (pt k1 0) (pt k1 7) (fun _ => rfl) rfl (by kernel_rfl) (hK _ (Mo.refl _))))
            · exact og_eq (.slice sp L.length sc) rfl (fun f wf hq hd K hK => have Q1 := Q1.mo hq; go_run rfl (wo_load 55 (.tmp 47) (pt k1 7) (.slice sp L.length sc) rfl (hd 2 rfl) (run_one Q1 55 7 rfl Try.underlying55 rfl) (hK _ (Mo.refl _))))
            · exact og_eq (.int .i64 ((kk : Nat) : Int)) rfl (fun f wf hq hd K hK => go_run rfl (wo_mv (.tmp 6) (.int .i64 ((kk : Nat) : Int)) (fun _ => rfl) rfl (hK _ (Mo.refl _))))
            · exact og_eq (pt buk (ouk + kk * 5)) rfl (fun f wf hq hd K hK => go_run rfl (wo_bin (fun x y => Instr.indexAt 55 x y) (.tmp 48) (.tmp 49) (.slice sp L.length sc) (.int .i64 ((kk : Nat) : Int)) (pt buk (ouk + kk * 5)) (fun _ => rfl) (hd 3 rfl) (hd 4 rfl) (ix55 (i := kk) hpuk hkl _) (hK _ (Mo.refl _))))
            · exact og_eq (pt buk (ouk + kk * 5 + 4)) rfl (fun f wf hq hd K hK => go_run rfl (wo_un (fun v => Instr.fieldAt 62 v 4) (.tmp 50) (pt buk (ouk + kk * 5)) (pt buk (ouk + kk * 5 + 4)) (fun _ => rfl) (hd 5 rfl) (by kernel_rfl) (hK _ (Mo.refl _))))
            · exact og_eq (.slice xz.pi xz.items.length xz.ci) rfl (fun f wf hq hd K hK => go_run rfl (wo_load 45 (.tmp 51) (pt buk (ouk + kk * 5 + 4)) (.slice xz.pi xz.items.length xz.ci) rfl (hd 6 rfl) (D.run_oneR (hRuk.mo (M.trans hq)).at' 45 4 rfl Try.underlying45 rfl) (hK _ (Mo.refl _))))
            · exact og_eq (.int .i64 ((iz : Nat) : Int)) rfl (fun f wf hq hd K hK => go_run rfl (wo_mv (.tmp 9) (.int .i64 ((iz : Nat) : Int)) (fun _ => rfl) rfl (hK _ (Mo.refl _))))
            · exact og_eq (pt bvz (ovz + iz * 23)) rfl (fun f wf hq hd K hK => go_run rfl (wo_bin (fun x y => Instr.indexAt 45 x y) (.tmp 52) (.tmp 53) (.slice xz.pi xz.items.length xz.ci) (.int .i64 ((iz : Nat) : Int)) (pt bvz (ovz + iz * 23)) (fun _ => rfl) (hd 7 rfl) (hd 8 rfl) (ix45 (i := iz) hpvz (lt_of_get hyz) _) (hK _ (Mo.refl _))))
            · exact og_eq (pt bvz (ovz + iz * 23 + 2)) rfl (fun f wf hq hd K hK => go_run rfl (wo_un (fun v => Instr.fieldAt 67 v 2) (.tmp 54) (pt bvz (ovz + iz * 23)) (pt bvz (ovz + iz * 23 + 2)) (fun _ => rfl) (hd 9 rfl) (by kernel_rfl) (hK _ (Mo.refl _))))
            · exact og_eq (pt bvz (ovz + iz * 23 + 2)) rfl (fun f wf hq hd K hK => go_run rfl (wo_un (fun v => Instr.fieldAt 30 v 0) (.tmp 55) (pt bvz (ovz + iz * 23 + 2)) (pt bvz (ovz + iz * 23 + 2)) (fun _ => rfl) (hd 10 rfl) (by kernel_rfl) (hK _ (Mo.refl _))))
            · exact og_eq (.int .i64 (yz.tk)) rfl (fun f wf hq hd K hK => go_run rfl (wo_load 3 (.tmp 56) (pt bvz (ovz + iz * 23 + 2)) (.int .i64 (yz.tk)) rfl (hd 11 rfl) (D.run_oneR (hRvz.mo (M.trans hq)).at' 3 2 rfl Try.underlying3 rfl) (hK _ (Mo.refl _))))
            · exact og_eq (.int .i64 (colK x.op yz.tk)) rfl (fun f wf hq hd K hK => go_run rfl (wo_call 100 [(.tmp 46), (.tmp 57)] _ [.int .i64 (x.op), .int .i64 (yz.tk)] (.int .i64 (colK x.op yz.tk)) rfl (li2 (hd 1 rfl) (hd 12 rfl)) (fun _ _ => by kernel_rfl) (colK_n x.op yz.tk _) hK))
            · exact og_eq (.tuple #[.int .i64 ((sui (colK x.op yz.tk)).1), .int .i64 ((sui (colK x.op yz.tk)).2)]) rfl (fun f wf hq hd K hK => go_run rfl (wo_call 90 [(.tmp 58)] _ [.int .i64 (colK x.op yz.tk)] (.tuple #[.int .i64 ((sui (colK x.op yz.tk)).1), .int .i64 ((sui (colK x.op yz.tk)).2)]) rfl (li1 (hd 13 rfl)) (fun _ _ => by kernel_rfl) (sui_n (colK x.op yz.tk) _) hK))
            · exact og_eq (.int .i64 ((sui (colK x.op yz.tk)).1)) rfl (fun f wf hq hd K hK => go_run rfl (wo_un (fun v => Instr.extract v 0) (.tmp 59) (.tuple #[.int .i64 ((sui (colK x.op yz.tk)).1), .int .i64 ((sui (colK x.op yz.tk)).2)]) (.int .i64 ((sui (colK x.op yz.tk)).1)) (fun _ => rfl) (hd 14 rfl) (by kernel_rfl) (hK _ (Mo.refl _))))
            · exact og_eq (.int .i64 ((sui (colK x.op yz.tk)).2)) rfl (fun f wf hq hd K hK => go_run rfl (wo_un (fun v => Instr.extract v 1) (.tmp 59) (.tuple #[.int .i64 ((sui (colK x.op yz.tk)).1), .int .i64 ((sui (colK x.op yz.tk)).2)]) (.int .i64 ((sui (colK x.op yz.tk)).2)) (fun _ => rfl) (hd 14 rfl) (by kernel_rfl) (hK _ (Mo.refl _))))
          intro kf5 u5 hq hR hne
          replace Q1 := Q1.mo hq
          replace Q2 := Q2.mo hq
          replace M := M.trans hq
          clear hq hR hne
          refine wl_mv (.tmp 60) (.int .i64 ((sui (colK x.op yz.tk)).1)) (fun _ => rfl) rfl rfl ?_
          refine wl_mv (.tmp 61) (.int .i64 ((sui (colK x.op yz.tk)).2)) (fun _ => rfl) rfl rfl ?_
          refine w_nil ?_
          refine xn_then ?_
          refine w_ret ?_
          exact w_ret2 _ _ (.int .i64 ((sui (colK x.op yz.tk)).1)) (.int .i64 ((sui (colK x.op yz.tk)).2)) rfl rfl rfl ⟨by rw [agK_of hkk hf1p hrz (by omega) (itA_of hxz hyz)], M⟩
        | false =>
          have hf3p := of_decide_eq_false hf3
          refine wl_bin (fun x y => do eqGuard .neq 3 (.tmp 41) (.tmp 42) x y; binOp .neq 3 x y) (.tmp 41) (.tmp 42) (.int .i64 ((kz : Nat) : Int)) (.int .i64 ((kk : Nat) : Int)) (.bool true) (fun _ => rfl) rfl rfl (ne3 hf3 _ _ _) rfl ?_
          refine wl_pick (.tmp 40) (.const (.bool true)) (.tmp 43) false (.bool true) (fun _ => rfl) rfl rfl rfl ?_
          refine w_nil ?_
          refine xn_then ?_
          refine w_condT rfl ?_
          refine w_seq ?_
          refine w_reg ?_
          refine wl_mv (.const (.int .i64 (0))) (.int .i64 (0)) (fun _ => rfl) rfl rfl ?_
          refine wl_mv (.const (.int .i64 (91))) (.int .i64 (91)) (fun _ => rfl) rfl rfl ?_
          refine w_nil ?_
          refine xn_then ?_
          refine w_ret ?_
          refine xr_then ?_
          exact w_ret2 _ _ (.int .i64 (0)) (.int .i64 (91)) rfl rfl rfl ⟨by unfold agK; rw [hkk]; simp only [hf1p, hrz]; rw [if_neg (show ¬ kz = kk by omega)]; simp only [if_false], M⟩
      | false =>
        have hrz : fnF L x.nm (kk + 1) = none := by simpa using hf2
        have hcz := find_s (hR.ls.kp M.kp) (fun x hx => (hR.it x hx).kp M.kp) hR.wf hR.ln kk hkl x.nm (c := sc)
        rw [hrz] at hcz
        refine wl_call 98 [(.tmp 30), (.tmp 31), (.tmp 33)] _ [.slice sp L.length sc, .int .i64 ((kk : Nat) : Int), .string x.nm] (.tuple #[.int .i64 (0), .int .i64 (0), .bool false]) rfl rfl (fun _ _ => by kernel_rfl) (hcz) rfl ?_
        intro u4 hq
        replace Q1 := Q1.mo hq
        replace Q2 := Q2.mo hq
        replace M := M.trans hq
        clear hq
        refine wl_mv (.tmp 34) (.tuple #[.int .i64 (0), .int .i64 (0), .bool false]) (fun _ => rfl) rfl rfl ?_
        refine wl_un (fun v => Instr.extract v 0) (.tmp 28) (.tuple #[.int .i64 (0), .int .i64 (0), .bool false]) (.int .i64 (0)) (fun _ => rfl) rfl (by kernel_rfl) rfl ?_
        refine wl_un (fun v => Instr.extract v 1) (.tmp 28) (.tuple #[.int .i64 (0), .int .i64 (0), .bool false]) (.int .i64 (0)) (fun _ => rfl) rfl (by kernel_rfl) rfl ?_
        refine wl_un (fun v => Instr.extract v 2) (.tmp 28) (.tuple #[.int .i64 (0), .int .i64 (0), .bool false]) (.bool false) (fun _ => rfl) rfl (by kernel_rfl) rfl ?_
        refine wl_mv (.tmp 35) (.int .i64 (0)) (fun _ => rfl) rfl rfl ?_
        refine wl_mv (.tmp 36) (.int .i64 (0)) (fun _ => rfl) rfl rfl ?_
        refine wl_mv (.tmp 37) (.bool false) (fun _ => rfl) rfl rfl ?_
        refine w_nil ?_
        refine xn_then ?_
        refine w_seq ?_
        refine w_seq ?_
        refine w_reg ?_
        refine wl_mv (.tmp 7) (.bool false) (fun _ => rfl) rfl rfl ?_
        refine wl_un (fun v => Op.unary .not v) (.tmp 38) (.bool false) (.bool true) (fun _ => rfl) rfl (by kernel_rfl) rfl ?_
        refine wl_mv (.tmp 39) (.bool true) (fun _ => rfl) rfl rfl ?_
        refine wl_skip rfl ?_
        refine wl_skip rfl ?_
        refine wl_skip rfl ?_
        refine wl_pick (.tmp 40) (.const (.bool true)) (.tmp 43) true (.bool true) (fun _ => rfl) rfl rfl rfl ?_
        refine w_nil ?_
        refine xn_then ?_
        refine w_condT rfl ?_
        refine w_seq ?_
        refine w_reg ?_
        refine wl_mv (.const (.int .i64 (0))) (.int .i64 (0)) (fun _ => rfl) rfl rfl ?_
        refine wl_mv (.const (.int .i64 (91))) (.int .i64 (91)) (fun _ => rfl) rfl rfl ?_
        refine w_nil ?_
        refine xn_then ?_
        refine w_ret ?_
        refine xr_then ?_
        exact w_ret2 _ _ (.int .i64 (0)) (.int .i64 (91)) rfl rfl rfl ⟨by unfold agK; rw [hkk]; simp only [hf1p, hrz]; rfl, M⟩
  | false =>
    have hck := kid_n (hR.ls.kp M.kp) (c := sc) ((s : Nat) : Int) x.se
    have hkk : L.findIdx? (pKd s x.se) = none := by simpa using hf0
    rw [show L.findIdx? (fun y : S5 => decide (y.pr = ((s : Nat) : Int)) && decide (y.nm = x.se)) = none from hkk] at hck
    refine wl_call 99 [(.tmp 12), (.tmp 14), (.tmp 16)] _ [.slice sp L.length sc, .int .i64 ((s : Nat) : Int), .string x.se] (.tuple #[.int .i64 (0), .bool false]) rfl rfl (fun _ _ => by kernel_rfl) (hck) rfl ?_
    intro u3 hq
    replace Q1 := Q1.mo hq
    replace Q2 := Q2.mo hq
    replace M := M.trans hq
    clear hq
    refine wl_mv (.tmp 17) (.tuple #[.int .i64 (0), .bool false]) (fun _ => rfl) rfl rfl ?_
    refine wl_un (fun v => Instr.extract v 0) (.tmp 10) (.tuple #[.int .i64 (0), .bool false]) (.int .i64 (0)) (fun _ => rfl) rfl (by kernel_rfl) rfl ?_
    refine wl_un (fun v => Instr.extract v 1) (.tmp 10) (.tuple #[.int .i64 (0), .bool false]) (.bool false) (fun _ => rfl) rfl (by kernel_rfl) rfl ?_
    refine wl_mv (.tmp 18) (.int .i64 (0)) (fun _ => rfl) rfl rfl ?_
    refine wl_mv (.tmp 19) (.bool false) (fun _ => rfl) rfl rfl ?_
    refine w_nil ?_
    refine xn_then ?_
    refine w_seq ?_
    refine w_seq ?_
    refine w_reg ?_
    refine wl_mv (.tmp 7) (.bool false) (fun _ => rfl) rfl rfl ?_
    refine wl_un (fun v => Op.unary .not v) (.tmp 20) (.bool false) (.bool true) (fun _ => rfl) rfl (by kernel_rfl) rfl ?_
    refine w_nil ?_
    refine xn_then ?_
    refine w_condT rfl ?_
    refine w_seq ?_
    refine w_reg ?_
    refine wl_mv (.const (.int .i64 (0))) (.int .i64 (0)) (fun _ => rfl) rfl rfl ?_
    refine wl_mv (.const (.int .i64 (91))) (.int .i64 (91)) (fun _ => rfl) rfl rfl ?_
    refine w_nil ?_
    refine xn_then ?_
    refine w_ret ?_
    refine xr_then ?_
    exact w_ret2 _ _ (.int .i64 (0)) (.int .i64 (91)) rfl rfl rfl ⟨by unfold agK; rw [hkk], M⟩
end Go.Proofs.Ytepfokoepibkcaa
namespace Go.Proofs.Ytepfokoepibkcaa
open Go.RowKit D
def vlc (v : Vl) : Int := ctc v.k v.d.b v.d.n0 v.d.n1 v.d.n2 v.d.n3 v.d.s v.f v.t v.e
theorem cst_v (v : Vl) (w : World) : Calls Try.prog 10 #[.agg #[.int .i64 v.k, .bool v.d.b, .int .u64 v.d.n0, .int .u64 v.d.n1, .int .u64 v.d.n2, .int .u64 v.d.n3, .int .i64 v.d.s, .bool v.f, .string v.t, .int .i64 v.e]] w fun e9 w' => e9 = .returned (.int .i64 (vlc v)) ∧ Mo w w' := cst_n v.k v.d.b v.d.n0 v.d.n1 v.d.n2 v.d.n3 v.d.s v.f v.t v.e w
def tbF (d : Df) (nm : ByteArray) : Option Nat := d.tb.findIdx? (fun t : Tb => decide (t.nm = nm))
/-- The kind of a node whose parts have kinds. -/
def ndK (d : Df) (L : List S5) (s : Nat) (x : Ex) (A : List Int) : Int × Int :=
  if x.k = 1 then leaK x.v.k (vlc x.v) A.length
  else if x.k = 2 then leaK (nmK L s x.nm).1 (nmK L s x.nm).2 A.length
  else if x.k = 10 then leaK (agK L s x).1 (agK L s x).2 A.length
  else if x.k = 7 then (if rnE x.sc x.po = 0 then sui (ovK x.k x.op A) else (0, rnE x.sc x.po))
  else if x.k = 8 then (if (tbF d x.nm).isSome = true then sui (ovK x.k x.op A) else (0, 91))
  else sui (ovK x.k x.op A)
theorem ndK_n {w : World} {d : Df} {sp : Option Addr} {L : List S5} {s : Nat} (hR : RD w d sp L s) (sc : Nat) (x : Ex) {pa : Option Addr} (cp : Nat) (A : List Int) (hA : SL w 1 kc pa A) : Calls Try.prog 72 #[.agg (rdr d sp L sc s).toArray, .agg (x.cells).toArray, .slice pa A.length cp] w fun e w' => e = .returned (tu2 (ndK d L s x A)) ∧ Mo w w' := by
  refine w_enter 83 Try.func72 Try.ntmps72 rfl rfl ?_
  have M : Mo w w := Mo.refl _
  refine w_seq ?_
  refine w_reg ?_
  refine wl_box 88 (.tmp 0) (.agg (rdr d sp L sc s).toArray) (((rdr d sp L sc s).toArray)) rfl rfl (fun _ => by kernel_rfl) rfl ?_
  intro k1 u1 hk hz hq Q1
  have N_k1 : w.heap.size ≤ k1 := by have := M.size; omega
  replace M := M.trans hq
  clear hk hz hq
  refine wl_box 38 (.tmp 1) (.agg (x.cells).toArray) (((x.cells).toArray)) rfl rfl (fun _ => by kernel_rfl) rfl ?_
  intro k2 u2 hk hz hq Q2
  have ne_k1_k2 : k1 ≠ k2 := by have := Q1.lt; omega
  have N_k2 : w.heap.size ≤ k2 := by have := M.size; omega
  replace Q1 := Q1.mo hq
  replace M := M.trans hq
  clear hk hz hq
  refine wl_mv (.const (.int .i64 (0))) (.int .i64 (0)) (fun _ => rfl) rfl rfl ?_
  refine wl_mv (.const (.int .i64 (0))) (.int .i64 (0)) (fun _ => rfl) rfl rfl ?_
  refine w_nil ?_
  refine xn_then ?_
  refine w_seq ?_
  refine w_seq ?_
  refine w_reg ?_
  refine wl_un (fun v => Instr.fieldAt 38 v 0) (.tmp 4) (pt k2 0) (pt k2 0) (fun _ => rfl) rfl (by kernel_rfl) rfl ?_
  refine wl_load 3 (.tmp 15) (pt k2 0) (.int .i64 (x.k)) rfl rfl (run_one Q2 3 0 rfl Try.underlying3 rfl) rfl ?_
  refine w_nil ?_
  refine xn_then ?_
  refine w_block ?_
  refine w_seq ?_
  refine w_reg ?_
  cases hf0 : decide (x.k = 1) with
  | true =>
    have hf0p := of_decide_eq_true hf0
    refine wl_bin (fun x y => do eqGuard .eql 3 (.tmp 16) (.const (.int .i64 (1))) x y; binOp .eql 3 x y) (.tmp 16) (.const (.int .i64 (1))) (.int .i64 (x.k)) (.int .i64 (1)) (.bool true) (fun _ => rfl) rfl rfl (eq3 hf0 _ _ _) rfl ?_
    refine wl_mv (.tmp 18) (.bool true) (fun _ => rfl) rfl rfl ?_
    refine w_nil ?_
    refine xn_then ?_
    refine w_condT rfl ?_
    refine w_seq ?_
    refine w_any 10 [.inl (pt k2 4), .inl (pt k2 4), .inl (.int .i64 (x.v.k)), .inl (pt k2 4), .inl (.agg #[.int .i64 x.v.k, .bool x.v.d.b, .int .u64 x.v.d.n0, .int .u64 x.v.d.n1, .int .u64 x.v.d.n2, .int .u64 x.v.d.n3, .int .i64 x.v.d.s, .bool x.v.f, .string x.v.t, .int .i64 x.v.e]), .inl (.int .i64 (vlc x.v)), .inl (.slice pa A.length cp), .inl (.tuple #[.int .i64 ((leaK (x.v.k) (vlc x.v) A.length).1), .int .i64 ((leaK (x.v.k) (vlc x.v) A.length).2)]), .inl (.int .i64 ((leaK (x.v.k) (vlc x.v) A.length).1)), .inl (.int .i64 ((leaK (x.v.k) (vlc x.v) A.length).2))] [] (by kernel_rfl) (by kernel_rfl) (by kernel_rfl) (by kernel_rfl) rfl (by kernel_rfl) (by kernel_rfl) late_nil ?_ ?_ ?_
    · exact Ds.none rfl
    · refine ea_cons ?_ (ea_cons ?_ (ea_cons ?_ (ea_cons ?_ (ea_cons ?_ (ea_cons ?_ (ea_cons ?_ (ea_cons ?_ (ea_cons ?_ (ea_cons ?_ (ea_nil))))))))))
      · exact og_eq (pt k2 4) rfl (fun f wf hq hd K hK => go_run rfl (wo_un (fun v => Instr.fieldAt 38 v 4) (.tmp 4) (pt k2 0) (pt k2 4) (fun _ => rfl) rfl (by kernel_rfl) (hK _ (Mo.refl _))))
      · exact og_eq (pt k2 4) rfl (fun f wf hq hd K hK => go_run rfl (wo_un (fun v => Instr.fieldAt 28 v 0) (.tmp 19) (pt k2 4) (pt k2 4) (fun _ => rfl) (hd 0 rfl) (by kernel_rfl) (hK _ (Mo.refl _))))
      · exact og_eq (.int .i64 (x.v.k)) rfl (fun f wf hq hd K hK => have Q2 := Q2.mo hq; go_run rfl (wo_load 3 (.tmp 20) (pt k2 4) (.int .i64 (x.v.k)) rfl (hd 1 rfl) (run_one Q2 3 4 rfl Try.underlying3 rfl) (hK _ (Mo.refl _))))
      · exact og_eq (pt k2 4) rfl (fun f wf hq hd K hK => go_run rfl (wo_un (fun v => Instr.fieldAt 38 v 4) (.tmp 4) (pt k2 0) (pt k2 4) (fun _ => rfl) rfl (by kernel_rfl) (hK _ (Mo.refl _))))
      · exact og_eq (.agg #[.int .i64 x.v.k, .bool x.v.d.b, .int .u64 x.v.d.n0, .int .u64 x.v.d.n1, .int .u64 x.v.d.n2, .int .u64 x.v.d.n3, .int .i64 x.v.d.s, .bool x.v.f, .string x.v.t, .int .i64 x.v.e]) rfl (fun f wf hq hd K hK => have Q2 := Q2.mo hq; go_run rfl (wo_load 28 (.tmp 22) (pt k2 4) (.agg #[.int .i64 x.v.k, .bool x.v.d.b, .int .u64 x.v.d.n0, .int .u64 x.v.d.n1, .int .u64 x.v.d.n2, .int .u64 x.v.d.n3, .int .i64 x.v.d.s, .bool x.v.f, .string x.v.t, .int .i64 x.v.e]) rfl (hd 3 rfl) (run_row Q2 28 4 10 [.int .i64 x.v.k, .bool x.v.d.b, .int .u64 x.v.d.n0, .int .u64 x.v.d.n1, .int .u64 x.v.d.n2, .int .u64 x.v.d.n3, .int .i64 x.v.d.s, .bool x.v.f, .string x.v.t, .int .i64 x.v.e] rfl Try.underlying28 rfl sz28) (hK _ (Mo.refl _))))
      · exact og_eq (.int .i64 (vlc x.v)) rfl (fun f wf hq hd K hK => go_run rfl (wo_call 10 [(.tmp 23)] _ [.agg #[.int .i64 x.v.k, .bool x.v.d.b, .int .u64 x.v.d.n0, .int .u64 x.v.d.n1, .int .u64 x.v.d.n2, .int .u64 x.v.d.n3, .int .i64 x.v.d.s, .bool x.v.f, .string x.v.t, .int .i64 x.v.e]] (.int .i64 (vlc x.v)) rfl (li1 (hd 4 rfl)) (fun _ _ => by kernel_rfl) (cst_v x.v _) hK))
      · exact og_eq (.slice pa A.length cp) rfl (fun f wf hq hd K hK => go_run rfl (wo_mv (.tmp 2) (.slice pa A.length cp) (fun _ => rfl) rfl (hK _ (Mo.refl _))))
      · exact og_eq (.tuple #[.int .i64 ((leaK (x.v.k) (vlc x.v) A.length).1), .int .i64 ((leaK (x.v.k) (vlc x.v) A.length).2)]) rfl (fun f wf hq hd K hK => go_run rfl (wo_call 85 [(.tmp 21), (.tmp 24), (.tmp 25)] _ [.int .i64 (x.v.k), .int .i64 (vlc x.v), .slice pa A.length cp] (.tuple #[.int .i64 ((leaK (x.v.k) (vlc x.v) A.length).1), .int .i64 ((leaK (x.v.k) (vlc x.v) A.length).2)]) rfl (li3 (hd 2 rfl) (hd 5 rfl) (hd 6 rfl)) (fun _ _ => by kernel_rfl) (lea_n (x.v.k) (vlc x.v) pa A.length cp _) hK))
      · exact og_eq (.int .i64 ((leaK (x.v.k) (vlc x.v) A.length).1)) rfl (fun f wf hq hd K hK => go_run rfl (wo_un (fun v => Instr.extract v 0) (.tmp 26) (.tuple #[.int .i64 ((leaK (x.v.k) (vlc x.v) A.length).1), .int .i64 ((leaK (x.v.k) (vlc x.v) A.length).2)]) (.int .i64 ((leaK (x.v.k) (vlc x.v) A.length).1)) (fun _ => rfl) (hd 7 rfl) (by kernel_rfl) (hK _ (Mo.refl _))))
      · exact og_eq (.int .i64 ((leaK (x.v.k) (vlc x.v) A.length).2)) rfl (fun f wf hq hd K hK => go_run rfl (wo_un (fun v => Instr.extract v 1) (.tmp 26) (.tuple #[.int .i64 ((leaK (x.v.k) (vlc x.v) A.length).1), .int .i64 ((leaK (x.v.k) (vlc x.v) A.length).2)]) (.int .i64 ((leaK (x.v.k) (vlc x.v) A.length).2)) (fun _ => rfl) (hd 7 rfl) (by kernel_rfl) (hK _ (Mo.refl _))))
    intro kf3 u3 hq hR hne
    replace Q1 := Q1.mo hq
    replace Q2 := Q2.mo hq
    replace M := M.trans hq
    clear hq hR hne
    refine wl_mv (.tmp 27) (.int .i64 ((leaK (x.v.k) (vlc x.v) A.length).1)) (fun _ => rfl) rfl rfl ?_
    refine wl_mv (.tmp 28) (.int .i64 ((leaK (x.v.k) (vlc x.v) A.length).2)) (fun _ => rfl) rfl rfl ?_
    refine w_nil ?_
    refine xn_then ?_
    refine w_ret ?_
    refine xr_blk ?_
    refine xr_then ?_
    exact w_ret2 _ _ (.int .i64 ((leaK (x.v.k) (vlc x.v) A.length).1)) (.int .i64 ((leaK (x.v.k) (vlc x.v) A.length).2)) rfl rfl rfl ⟨by unfold ndK; rw [if_pos hf0p], M⟩
  | false =>
    have hf0p := of_decide_eq_false hf0
    refine wl_bin (fun x y => do eqGuard .eql 3 (.tmp 16) (.const (.int .i64 (1))) x y; binOp .eql 3 x y) (.tmp 16) (.const (.int .i64 (1))) (.int .i64 (x.k)) (.int .i64 (1)) (.bool false) (fun _ => rfl) rfl rfl (eq3 hf0 _ _ _) rfl ?_
    refine wl_mv (.tmp 18) (.bool false) (fun _ => rfl) rfl rfl ?_
    refine w_nil ?_
    refine xn_then ?_
    refine w_condF rfl ?_
    refine w_seq ?_
    refine w_reg ?_
    cases hf1 : decide (x.k = 2) with
    | true =>
      have hf1p := of_decide_eq_true hf1
      refine wl_bin (fun x y => do eqGuard .eql 3 (.tmp 16) (.const (.int .i64 (2))) x y; binOp .eql 3 x y) (.tmp 16) (.const (.int .i64 (2))) (.int .i64 (x.k)) (.int .i64 (2)) (.bool true) (fun _ => rfl) rfl rfl (eq3 hf1 _ _ _) rfl ?_
      refine wl_mv (.tmp 30) (.bool true) (fun _ => rfl) rfl rfl ?_
      refine w_nil ?_
      refine xn_then ?_
      refine w_condT rfl ?_
      refine w_seq ?_
      refine w_reg ?_
      refine wl_load 88 (.tmp 3) (pt k1 0) (.agg (rdr d sp L sc s).toArray) rfl rfl (run_row Q1 88 0 9 (rdr d sp L sc s) rfl Try.underlying88 rfl sz88) rfl ?_
      refine wl_un (fun v => Instr.fieldAt 38 v 2) (.tmp 4) (pt k2 0) (pt k2 2) (fun _ => rfl) rfl (by kernel_rfl) rfl ?_
      refine wl_load 9 (.tmp 33) (pt k2 2) (.string x.nm) rfl rfl (run_one Q2 9 2 rfl Try.underlying9 rfl) rfl ?_
      refine wl_call 86 [(.tmp 32), (.tmp 34)] _ [.agg (rdr d sp L sc s).toArray, .string x.nm] (.tuple #[.int .i64 ((nmK L s x.nm).1), .int .i64 ((nmK L s x.nm).2)]) rfl rfl (fun _ _ => by kernel_rfl) (nmK_n (hR.kp M.kp) sc x.nm) rfl ?_
      intro u3 hq
      replace Q1 := Q1.mo hq
      replace Q2 := Q2.mo hq
      replace M := M.trans hq
      clear hq
      refine wl_mv (.tmp 35) (.tuple #[.int .i64 ((nmK L s x.nm).1), .int .i64 ((nmK L s x.nm).2)]) (fun _ => rfl) rfl rfl ?_
      refine wl_un (fun v => Instr.extract v 0) (.tmp 31) (.tuple #[.int .i64 ((nmK L s x.nm).1), .int .i64 ((nmK L s x.nm).2)]) (.int .i64 ((nmK L s x.nm).1)) (fun _ => rfl) rfl (by kernel_rfl) rfl ?_
      refine wl_un (fun v => Instr.extract v 1) (.tmp 31) (.tuple #[.int .i64 ((nmK L s x.nm).1), .int .i64 ((nmK L s x.nm).2)]) (.int .i64 ((nmK L s x.nm).2)) (fun _ => rfl) rfl (by kernel_rfl) rfl ?_
      refine wl_mv (.tmp 36) (.int .i64 ((nmK L s x.nm).1)) (fun _ => rfl) rfl rfl ?_
      refine wl_mv (.tmp 37) (.int .i64 ((nmK L s x.nm).2)) (fun _ => rfl) rfl rfl ?_
      refine w_nil ?_
      refine xn_then ?_
      refine w_seq ?_
      refine w_reg ?_
      refine wl_mv (.tmp 8) (.int .i64 ((nmK L s x.nm).1)) (fun _ => rfl) rfl rfl ?_
      refine wl_mv (.tmp 9) (.int .i64 ((nmK L s x.nm).2)) (fun _ => rfl) rfl rfl ?_
      refine wl_mv (.tmp 2) (.slice pa A.length cp) (fun _ => rfl) rfl rfl ?_
      refine wl_call 85 [(.tmp 38), (.tmp 39), (.tmp 40)] _ [.int .i64 ((nmK L s x.nm).1), .int .i64 ((nmK L s x.nm).2), .slice pa A.length cp] (.tuple #[.int .i64 ((leaK ((nmK L s x.nm).1) ((nmK L s x.nm).2) A.length).1), .int .i64 ((leaK ((nmK L s x.nm).1) ((nmK L s x.nm).2) A.length).2)]) rfl rfl (fun _ _ => by kernel_rfl) (lea_n ((nmK L s x.nm).1) ((nmK L s x.nm).2) pa A.length cp _) rfl ?_
      intro u4 hq
      replace Q1 := Q1.mo hq
      replace Q2 := Q2.mo hq
      replace M := M.trans hq
      clear hq
      refine wl_un (fun v => Instr.extract v 0) (.tmp 41) (.tuple #[.int .i64 ((leaK ((nmK L s x.nm).1) ((nmK L s x.nm).2) A.length).1), .int .i64 ((leaK ((nmK L s x.nm).1) ((nmK L s x.nm).2) A.length).2)]) (.int .i64 ((leaK ((nmK L s x.nm).1) ((nmK L s x.nm).2) A.length).1)) (fun _ => rfl) rfl (by kernel_rfl) rfl ?_
      refine wl_un (fun v => Instr.extract v 1) (.tmp 41) (.tuple #[.int .i64 ((leaK ((nmK L s x.nm).1) ((nmK L s x.nm).2) A.length).1), .int .i64 ((leaK ((nmK L s x.nm).1) ((nmK L s x.nm).2) A.length).2)]) (.int .i64 ((leaK ((nmK L s x.nm).1) ((nmK L s x.nm).2) A.length).2)) (fun _ => rfl) rfl (by kernel_rfl) rfl ?_
      refine wl_mv (.tmp 42) (.int .i64 ((leaK ((nmK L s x.nm).1) ((nmK L s x.nm).2) A.length).1)) (fun _ => rfl) rfl rfl ?_
      refine wl_mv (.tmp 43) (.int .i64 ((leaK ((nmK L s x.nm).1) ((nmK L s x.nm).2) A.length).2)) (fun _ => rfl) rfl rfl ?_
      refine w_nil ?_
      refine xn_then ?_
      refine w_ret ?_
      refine xr_blk ?_
      refine xr_then ?_
      exact w_ret2 _ _ (.int .i64 ((leaK ((nmK L s x.nm).1) ((nmK L s x.nm).2) A.length).1)) (.int .i64 ((leaK ((nmK L s x.nm).1) ((nmK L s x.nm).2) A.length).2)) rfl rfl rfl ⟨by unfold ndK; rw [if_neg hf0p, if_pos hf1p], M⟩
    | false =>
      have hf1p := of_decide_eq_false hf1
      refine wl_bin (fun x y => do eqGuard .eql 3 (.tmp 16) (.const (.int .i64 (2))) x y; binOp .eql 3 x y) (.tmp 16) (.const (.int .i64 (2))) (.int .i64 (x.k)) (.int .i64 (2)) (.bool false) (fun _ => rfl) rfl rfl (eq3 hf1 _ _ _) rfl ?_
      refine wl_mv (.tmp 30) (.bool false) (fun _ => rfl) rfl rfl ?_
      refine w_nil ?_
      refine xn_then ?_
      refine w_condF rfl ?_
      refine w_seq ?_
      refine w_reg ?_
      cases hf2 : decide (x.k = 10) with
      | true =>
        have hf2p := of_decide_eq_true hf2
        refine wl_bin (fun x y => do eqGuard .eql 3 (.tmp 16) (.const (.int .i64 (10))) x y; binOp .eql 3 x y) (.tmp 16) (.const (.int .i64 (10))) (.int .i64 (x.k)) (.int .i64 (10)) (.bool true) (fun _ => rfl) rfl rfl (eq3 hf2 _ _ _) rfl ?_
        refine wl_mv (.tmp 45) (.bool true) (fun _ => rfl) rfl rfl ?_
        refine w_nil ?_
        refine xn_then ?_
        refine w_condT rfl ?_
        refine w_seq ?_
        refine w_reg ?_
        refine wl_load 88 (.tmp 3) (pt k1 0) (.agg (rdr d sp L sc s).toArray) rfl rfl (run_row Q1 88 0 9 (rdr d sp L sc s) rfl Try.underlying88 rfl sz88) rfl ?_
        refine wl_load 38 (.tmp 4) (pt k2 0) (.agg (x.cells).toArray) rfl rfl (run_row Q2 38 0 17 (x.cells) rfl Try.underlying38 rfl sz38) rfl ?_
        refine wl_call 87 [(.tmp 47), (.tmp 48)] _ [.agg (rdr d sp L sc s).toArray, .agg (x.cells).toArray] (.tuple #[.int .i64 ((agK L s x).1), .int .i64 ((agK L s x).2)]) rfl rfl (fun _ _ => by kernel_rfl) (agK_n (hR.kp M.kp) sc x) rfl ?_
        intro u3 hq
        replace Q1 := Q1.mo hq
        replace Q2 := Q2.mo hq
        replace M := M.trans hq
        clear hq
        refine wl_mv (.tmp 49) (.tuple #[.int .i64 ((agK L s x).1), .int .i64 ((agK L s x).2)]) (fun _ => rfl) rfl rfl ?_
        refine wl_un (fun v => Instr.extract v 0) (.tmp 46) (.tuple #[.int .i64 ((agK L s x).1), .int .i64 ((agK L s x).2)]) (.int .i64 ((agK L s x).1)) (fun _ => rfl) rfl (by kernel_rfl) rfl ?_
        refine wl_un (fun v => Instr.extract v 1) (.tmp 46) (.tuple #[.int .i64 ((agK L s x).1), .int .i64 ((agK L s x).2)]) (.int .i64 ((agK L s x).2)) (fun _ => rfl) rfl (by kernel_rfl) rfl ?_
        refine wl_mv (.tmp 50) (.int .i64 ((agK L s x).1)) (fun _ => rfl) rfl rfl ?_
        refine wl_mv (.tmp 51) (.int .i64 ((agK L s x).2)) (fun _ => rfl) rfl rfl ?_
        refine w_nil ?_
        refine xn_then ?_
        refine w_seq ?_
        refine w_reg ?_
        refine wl_mv (.tmp 10) (.int .i64 ((agK L s x).1)) (fun _ => rfl) rfl rfl ?_
        refine wl_mv (.tmp 11) (.int .i64 ((agK L s x).2)) (fun _ => rfl) rfl rfl ?_
        refine wl_mv (.tmp 2) (.slice pa A.length cp) (fun _ => rfl) rfl rfl ?_
        refine wl_call 85 [(.tmp 52), (.tmp 53), (.tmp 54)] _ [.int .i64 ((agK L s x).1), .int .i64 ((agK L s x).2), .slice pa A.length cp] (.tuple #[.int .i64 ((leaK ((agK L s x).1) ((agK L s x).2) A.length).1), .int .i64 ((leaK ((agK L s x).1) ((agK L s x).2) A.length).2)]) rfl rfl (fun _ _ => by kernel_rfl) (lea_n ((agK L s x).1) ((agK L s x).2) pa A.length cp _) rfl ?_
        intro u4 hq
        replace Q1 := Q1.mo hq
        replace Q2 := Q2.mo hq
        replace M := M.trans hq
        clear hq
        refine wl_un (fun v => Instr.extract v 0) (.tmp 55) (.tuple #[.int .i64 ((leaK ((agK L s x).1) ((agK L s x).2) A.length).1), .int .i64 ((leaK ((agK L s x).1) ((agK L s x).2) A.length).2)]) (.int .i64 ((leaK ((agK L s x).1) ((agK L s x).2) A.length).1)) (fun _ => rfl) rfl (by kernel_rfl) rfl ?_
        refine wl_un (fun v => Instr.extract v 1) (.tmp 55) (.tuple #[.int .i64 ((leaK ((agK L s x).1) ((agK L s x).2) A.length).1), .int .i64 ((leaK ((agK L s x).1) ((agK L s x).2) A.length).2)]) (.int .i64 ((leaK ((agK L s x).1) ((agK L s x).2) A.length).2)) (fun _ => rfl) rfl (by kernel_rfl) rfl ?_
        refine wl_mv (.tmp 56) (.int .i64 ((leaK ((agK L s x).1) ((agK L s x).2) A.length).1)) (fun _ => rfl) rfl rfl ?_
        refine wl_mv (.tmp 57) (.int .i64 ((leaK ((agK L s x).1) ((agK L s x).2) A.length).2)) (fun _ => rfl) rfl rfl ?_
        refine w_nil ?_
        refine xn_then ?_
        refine w_ret ?_
        refine xr_blk ?_
        refine xr_then ?_
        exact w_ret2 _ _ (.int .i64 ((leaK ((agK L s x).1) ((agK L s x).2) A.length).1)) (.int .i64 ((leaK ((agK L s x).1) ((agK L s x).2) A.length).2)) rfl rfl rfl ⟨by unfold ndK; rw [if_neg hf0p, if_neg hf1p, if_pos hf2p], M⟩
      | false =>
        have hf2p := of_decide_eq_false hf2
        refine wl_bin (fun x y => do eqGuard .eql 3 (.tmp 16) (.const (.int .i64 (10))) x y; binOp .eql 3 x y) (.tmp 16) (.const (.int .i64 (10))) (.int .i64 (x.k)) (.int .i64 (10)) (.bool false) (fun _ => rfl) rfl rfl (eq3 hf2 _ _ _) rfl ?_
        refine wl_mv (.tmp 45) (.bool false) (fun _ => rfl) rfl rfl ?_
        refine w_nil ?_
        refine xn_then ?_
        refine w_condF rfl ?_
        refine w_seq ?_
        refine w_reg ?_
        cases hf3 : decide (x.k = 7) with
        | true =>
          have hf3p := of_decide_eq_true hf3
          refine wl_bin (fun x y => do eqGuard .eql 3 (.tmp 16) (.const (.int .i64 (7))) x y; binOp .eql 3 x y) (.tmp 16) (.const (.int .i64 (7))) (.int .i64 (x.k)) (.int .i64 (7)) (.bool true) (fun _ => rfl) rfl rfl (eq3 hf3 _ _ _) rfl ?_
          refine wl_mv (.tmp 59) (.bool true) (fun _ => rfl) rfl rfl ?_
          refine w_nil ?_
          refine xn_then ?_
          refine w_condT rfl ?_
          refine w_seq ?_
          refine w_reg ?_
          refine wl_load 38 (.tmp 4) (pt k2 0) (.agg (x.cells).toArray) rfl rfl (run_row Q2 38 0 17 (x.cells) rfl Try.underlying38 rfl sz38) rfl ?_
          refine wl_call 88 [(.tmp 60)] _ [.agg (x.cells).toArray] (.int .i64 (rnE x.sc x.po)) rfl rfl (fun _ _ => by kernel_rfl) (rnE_n x _) rfl ?_
          intro u3 hq
          replace Q1 := Q1.mo hq
          replace Q2 := Q2.mo hq
          replace M := M.trans hq
          clear hq
          refine wl_mv (.tmp 61) (.int .i64 (rnE x.sc x.po)) (fun _ => rfl) rfl rfl ?_
          refine w_nil ?_
          refine xn_then ?_
          refine w_seq ?_
          refine w_reg ?_
          refine wl_mv (.tmp 12) (.int .i64 (rnE x.sc x.po)) (fun _ => rfl) rfl rfl ?_
          cases hf4 : decide (rnE x.sc x.po = 0) with
          | true =>
            have hf4p := of_decide_eq_true hf4
            refine wl_bin (fun x y => do eqGuard .neq 32 (.tmp 62) (.const (.int .i64 (0))) x y; binOp .neq 32 x y) (.tmp 62) (.const (.int .i64 (0))) (.int .i64 (rnE x.sc x.po)) (.int .i64 (0)) (.bool false) (fun _ => rfl) rfl rfl (ne34 hf4 _ _ _) rfl ?_
            refine w_nil ?_
            refine xn_then ?_
            refine w_condF rfl ?_
            refine w_skip ?_
            refine xn_blk ?_
            refine xn_then ?_
            refine w_seq ?_
            refine w_reg ?_
            refine wl_load 38 (.tmp 4) (pt k2 0) (.agg (x.cells).toArray) rfl rfl (run_row Q2 38 0 17 (x.cells) rfl Try.underlying38 rfl sz38) rfl ?_
            refine wl_mv (.tmp 2) (.slice pa A.length cp) (fun _ => rfl) rfl rfl ?_
            refine wl_call 91 [(.tmp 77), (.tmp 78)] _ [.agg (x.cells).toArray, .slice pa A.length cp] (.int .i64 (ovK x.k x.op A)) rfl rfl (fun _ _ => by kernel_rfl) (ov_n x cp A (hA.kp M.kp)) rfl ?_
            intro u4 hq
            replace Q1 := Q1.mo hq
            replace Q2 := Q2.mo hq
            replace M := M.trans hq
            clear hq
            refine wl_call 90 [(.tmp 79)] _ [.int .i64 (ovK x.k x.op A)] (.tuple #[.int .i64 ((sui (ovK x.k x.op A)).1), .int .i64 ((sui (ovK x.k x.op A)).2)]) rfl rfl (fun _ _ => by kernel_rfl) (sui_n (ovK x.k x.op A) _) rfl ?_
            intro u5 hq
            replace Q1 := Q1.mo hq
            replace Q2 := Q2.mo hq
            replace M := M.trans hq
            clear hq
            refine wl_un (fun v => Instr.extract v 0) (.tmp 80) (.tuple #[.int .i64 ((sui (ovK x.k x.op A)).1), .int .i64 ((sui (ovK x.k x.op A)).2)]) (.int .i64 ((sui (ovK x.k x.op A)).1)) (fun _ => rfl) rfl (by kernel_rfl) rfl ?_
            refine wl_un (fun v => Instr.extract v 1) (.tmp 80) (.tuple #[.int .i64 ((sui (ovK x.k x.op A)).1), .int .i64 ((sui (ovK x.k x.op A)).2)]) (.int .i64 ((sui (ovK x.k x.op A)).2)) (fun _ => rfl) rfl (by kernel_rfl) rfl ?_
            refine wl_mv (.tmp 81) (.int .i64 ((sui (ovK x.k x.op A)).1)) (fun _ => rfl) rfl rfl ?_
            refine wl_mv (.tmp 82) (.int .i64 ((sui (ovK x.k x.op A)).2)) (fun _ => rfl) rfl rfl ?_
            refine w_nil ?_
            refine xn_then ?_
            refine w_ret ?_
            exact w_ret2 _ _ (.int .i64 ((sui (ovK x.k x.op A)).1)) (.int .i64 ((sui (ovK x.k x.op A)).2)) rfl rfl rfl ⟨by unfold ndK; rw [if_neg hf0p, if_neg hf1p, if_neg hf2p, if_pos hf3p, if_pos hf4p], M⟩
          | false =>
            have hf4p := of_decide_eq_false hf4
            refine wl_bin (fun x y => do eqGuard .neq 32 (.tmp 62) (.const (.int .i64 (0))) x y; binOp .neq 32 x y) (.tmp 62) (.const (.int .i64 (0))) (.int .i64 (rnE x.sc x.po)) (.int .i64 (0)) (.bool true) (fun _ => rfl) rfl rfl (ne34 hf4 _ _ _) rfl ?_
            refine w_nil ?_
            refine xn_then ?_
            refine w_condT rfl ?_
            refine w_seq ?_
            refine w_reg ?_
            refine wl_mv (.tmp 12) (.int .i64 (rnE x.sc x.po)) (fun _ => rfl) rfl rfl ?_
            refine wl_mv (.const (.int .i64 (0))) (.int .i64 (0)) (fun _ => rfl) rfl rfl ?_
            refine wl_mv (.tmp 64) (.int .i64 (rnE x.sc x.po)) (fun _ => rfl) rfl rfl ?_
            refine w_nil ?_
            refine xn_then ?_
            refine w_ret ?_
            refine xr_blk ?_
            refine xr_then ?_
            exact w_ret2 _ _ (.int .i64 (0)) (.int .i64 (rnE x.sc x.po)) rfl rfl rfl ⟨by unfold ndK; rw [if_neg hf0p, if_neg hf1p, if_neg hf2p, if_pos hf3p, if_neg hf4p], M⟩
        | false =>
          have hf3p := of_decide_eq_false hf3
          refine wl_bin (fun x y => do eqGuard .eql 3 (.tmp 16) (.const (.int .i64 (7))) x y; binOp .eql 3 x y) (.tmp 16) (.const (.int .i64 (7))) (.int .i64 (x.k)) (.int .i64 (7)) (.bool false) (fun _ => rfl) rfl rfl (eq3 hf3 _ _ _) rfl ?_
          refine wl_mv (.tmp 59) (.bool false) (fun _ => rfl) rfl rfl ?_
          refine w_nil ?_
          refine xn_then ?_
          refine w_condF rfl ?_
          refine w_seq ?_
          refine w_reg ?_
          cases hf4 : decide (x.k = 8) with
          | true =>
            have hf4p := of_decide_eq_true hf4
            refine wl_bin (fun x y => do eqGuard .eql 3 (.tmp 16) (.const (.int .i64 (8))) x y; binOp .eql 3 x y) (.tmp 16) (.const (.int .i64 (8))) (.int .i64 (x.k)) (.int .i64 (8)) (.bool true) (fun _ => rfl) rfl rfl (eq3 hf4 _ _ _) rfl ?_
            refine wl_mv (.tmp 66) (.bool true) (fun _ => rfl) rfl rfl ?_
            refine w_nil ?_
            refine xn_then ?_
            refine w_condT rfl ?_
            refine w_seq ?_
            refine w_reg ?_
            refine wl_un (fun v => Instr.fieldAt 88 v 0) (.tmp 3) (pt k1 0) (pt k1 0) (fun _ => rfl) rfl (by kernel_rfl) rfl ?_
            refine wl_load 52 (.tmp 68) (pt k1 0) (.agg (d.cells).toArray) rfl rfl (run_row Q1 52 0 7 (d.cells) rfl Try.underlying52 rfl sz52) rfl ?_
            refine wl_un (fun v => Instr.fieldAt 38 v 2) (.tmp 4) (pt k2 0) (pt k2 2) (fun _ => rfl) rfl (by kernel_rfl) rfl ?_
            refine wl_load 9 (.tmp 70) (pt k2 2) (.string x.nm) rfl rfl (run_one Q2 9 2 rfl Try.underlying9 rfl) rfl ?_
            cases hf5 : (tbF d x.nm).isSome with
            | true =>
              have hct := table_n (hR.df.kp M.kp) x.nm
              obtain ⟨kt, hkt⟩ := Option.isSome_iff_exists.1 hf5
              rw [show d.tb.findIdx? (fun t : Tb => decide (t.nm = x.nm)) = some kt from hkt] at hct
              refine wl_call 89 [(.tmp 69), (.tmp 71)] _ [.agg (d.cells).toArray, .string x.nm] (.tuple #[.int .i64 ((kt : Nat) : Int), .bool true]) rfl rfl (fun _ _ => by kernel_rfl) (hct) rfl ?_
              intro u3 hq
              replace Q1 := Q1.mo hq
              replace Q2 := Q2.mo hq
              replace M := M.trans hq
              clear hq
              refine wl_mv (.tmp 72) (.tuple #[.int .i64 ((kt : Nat) : Int), .bool true]) (fun _ => rfl) rfl rfl ?_
              refine wl_un (fun v => Instr.extract v 0) (.tmp 67) (.tuple #[.int .i64 ((kt : Nat) : Int), .bool true]) (.int .i64 ((kt : Nat) : Int)) (fun _ => rfl) rfl (by kernel_rfl) rfl ?_
              refine wl_un (fun v => Instr.extract v 1) (.tmp 67) (.tuple #[.int .i64 ((kt : Nat) : Int), .bool true]) (.bool true) (fun _ => rfl) rfl (by kernel_rfl) rfl ?_
              refine wl_mv (.tmp 73) (.int .i64 ((kt : Nat) : Int)) (fun _ => rfl) rfl rfl ?_
              refine wl_mv (.tmp 74) (.bool true) (fun _ => rfl) rfl rfl ?_
              refine w_nil ?_
              refine xn_then ?_
              refine w_seq ?_
              refine w_reg ?_
              refine wl_mv (.tmp 14) (.bool true) (fun _ => rfl) rfl rfl ?_
              refine wl_un (fun v => Op.unary .not v) (.tmp 75) (.bool true) (.bool false) (fun _ => rfl) rfl (by kernel_rfl) rfl ?_
              refine w_nil ?_
              refine xn_then ?_
              refine w_condF rfl ?_
              refine w_skip ?_
              refine xn_blk ?_
              refine xn_then ?_
              refine w_seq ?_
              refine w_reg ?_
              refine wl_load 38 (.tmp 4) (pt k2 0) (.agg (x.cells).toArray) rfl rfl (run_row Q2 38 0 17 (x.cells) rfl Try.underlying38 rfl sz38) rfl ?_
              refine wl_mv (.tmp 2) (.slice pa A.length cp) (fun _ => rfl) rfl rfl ?_
              refine wl_call 91 [(.tmp 77), (.tmp 78)] _ [.agg (x.cells).toArray, .slice pa A.length cp] (.int .i64 (ovK x.k x.op A)) rfl rfl (fun _ _ => by kernel_rfl) (ov_n x cp A (hA.kp M.kp)) rfl ?_
              intro u4 hq
              replace Q1 := Q1.mo hq
              replace Q2 := Q2.mo hq
              replace M := M.trans hq
              clear hq
              refine wl_call 90 [(.tmp 79)] _ [.int .i64 (ovK x.k x.op A)] (.tuple #[.int .i64 ((sui (ovK x.k x.op A)).1), .int .i64 ((sui (ovK x.k x.op A)).2)]) rfl rfl (fun _ _ => by kernel_rfl) (sui_n (ovK x.k x.op A) _) rfl ?_
              intro u5 hq
              replace Q1 := Q1.mo hq
              replace Q2 := Q2.mo hq
              replace M := M.trans hq
              clear hq
              refine wl_un (fun v => Instr.extract v 0) (.tmp 80) (.tuple #[.int .i64 ((sui (ovK x.k x.op A)).1), .int .i64 ((sui (ovK x.k x.op A)).2)]) (.int .i64 ((sui (ovK x.k x.op A)).1)) (fun _ => rfl) rfl (by kernel_rfl) rfl ?_
              refine wl_un (fun v => Instr.extract v 1) (.tmp 80) (.tuple #[.int .i64 ((sui (ovK x.k x.op A)).1), .int .i64 ((sui (ovK x.k x.op A)).2)]) (.int .i64 ((sui (ovK x.k x.op A)).2)) (fun _ => rfl) rfl (by kernel_rfl) rfl ?_
              refine wl_mv (.tmp 81) (.int .i64 ((sui (ovK x.k x.op A)).1)) (fun _ => rfl) rfl rfl ?_
              refine wl_mv (.tmp 82) (.int .i64 ((sui (ovK x.k x.op A)).2)) (fun _ => rfl) rfl rfl ?_
              refine w_nil ?_
              refine xn_then ?_
              refine w_ret ?_
              exact w_ret2 _ _ (.int .i64 ((sui (ovK x.k x.op A)).1)) (.int .i64 ((sui (ovK x.k x.op A)).2)) rfl rfl rfl ⟨by unfold ndK; rw [if_neg hf0p, if_neg hf1p, if_neg hf2p, if_neg hf3p, if_pos hf4p, if_pos hf5], M⟩
            | false =>
              have hct := table_n (hR.df.kp M.kp) x.nm
              have hkt : tbF d x.nm = none := by simpa using hf5
              rw [show d.tb.findIdx? (fun t : Tb => decide (t.nm = x.nm)) = none from hkt] at hct
              refine wl_call 89 [(.tmp 69), (.tmp 71)] _ [.agg (d.cells).toArray, .string x.nm] (.tuple #[.int .i64 (0), .bool false]) rfl rfl (fun _ _ => by kernel_rfl) (hct) rfl ?_
              intro u3 hq
              replace Q1 := Q1.mo hq
              replace Q2 := Q2.mo hq
              replace M := M.trans hq
              clear hq
              refine wl_mv (.tmp 72) (.tuple #[.int .i64 (0), .bool false]) (fun _ => rfl) rfl rfl ?_
              refine wl_un (fun v => Instr.extract v 0) (.tmp 67) (.tuple #[.int .i64 (0), .bool false]) (.int .i64 (0)) (fun _ => rfl) rfl (by kernel_rfl) rfl ?_
              refine wl_un (fun v => Instr.extract v 1) (.tmp 67) (.tuple #[.int .i64 (0), .bool false]) (.bool false) (fun _ => rfl) rfl (by kernel_rfl) rfl ?_
              refine wl_mv (.tmp 73) (.int .i64 (0)) (fun _ => rfl) rfl rfl ?_
              refine wl_mv (.tmp 74) (.bool false) (fun _ => rfl) rfl rfl ?_
              refine w_nil ?_
              refine xn_then ?_
              refine w_seq ?_
              refine w_reg ?_
              refine wl_mv (.tmp 14) (.bool false) (fun _ => rfl) rfl rfl ?_
              refine wl_un (fun v => Op.unary .not v) (.tmp 75) (.bool false) (.bool true) (fun _ => rfl) rfl (by kernel_rfl) rfl ?_
              refine w_nil ?_
              refine xn_then ?_
              refine w_condT rfl ?_
              refine w_seq ?_
              refine w_reg ?_
              refine wl_mv (.const (.int .i64 (0))) (.int .i64 (0)) (fun _ => rfl) rfl rfl ?_
              refine wl_mv (.const (.int .i64 (91))) (.int .i64 (91)) (fun _ => rfl) rfl rfl ?_
              refine w_nil ?_
              refine xn_then ?_
              refine w_ret ?_
              refine xr_blk ?_
              refine xr_then ?_
              exact w_ret2 _ _ (.int .i64 (0)) (.int .i64 (91)) rfl rfl rfl ⟨by unfold ndK; rw [if_neg hf0p, if_neg hf1p, if_neg hf2p, if_neg hf3p, if_pos hf4p, if_neg (by rw [hf5]; decide)], M⟩
          | false =>
            have hf4p := of_decide_eq_false hf4
            refine wl_bin (fun x y => do eqGuard .eql 3 (.tmp 16) (.const (.int .i64 (8))) x y; binOp .eql 3 x y) (.tmp 16) (.const (.int .i64 (8))) (.int .i64 (x.k)) (.int .i64 (8)) (.bool false) (fun _ => rfl) rfl rfl (eq3 hf4 _ _ _) rfl ?_
            refine wl_mv (.tmp 66) (.bool false) (fun _ => rfl) rfl rfl ?_
            refine w_nil ?_
            refine xn_then ?_
            refine w_condF rfl ?_
            refine w_skip ?_
            refine xn_blk ?_
            refine xn_then ?_
            refine w_seq ?_
            refine w_reg ?_
            refine wl_load 38 (.tmp 4) (pt k2 0) (.agg (x.cells).toArray) rfl rfl (run_row Q2 38 0 17 (x.cells) rfl Try.underlying38 rfl sz38) rfl ?_
            refine wl_mv (.tmp 2) (.slice pa A.length cp) (fun _ => rfl) rfl rfl ?_
            refine wl_call 91 [(.tmp 77), (.tmp 78)] _ [.agg (x.cells).toArray, .slice pa A.length cp] (.int .i64 (ovK x.k x.op A)) rfl rfl (fun _ _ => by kernel_rfl) (ov_n x cp A (hA.kp M.kp)) rfl ?_
            intro u3 hq
            replace Q1 := Q1.mo hq
            replace Q2 := Q2.mo hq
            replace M := M.trans hq
            clear hq
            refine wl_call 90 [(.tmp 79)] _ [.int .i64 (ovK x.k x.op A)] (.tuple #[.int .i64 ((sui (ovK x.k x.op A)).1), .int .i64 ((sui (ovK x.k x.op A)).2)]) rfl rfl (fun _ _ => by kernel_rfl) (sui_n (ovK x.k x.op A) _) rfl ?_
            intro u4 hq
            replace Q1 := Q1.mo hq
            replace Q2 := Q2.mo hq
            replace M := M.trans hq
            clear hq
            refine wl_un (fun v => Instr.extract v 0) (.tmp 80) (.tuple #[.int .i64 ((sui (ovK x.k x.op A)).1), .int .i64 ((sui (ovK x.k x.op A)).2)]) (.int .i64 ((sui (ovK x.k x.op A)).1)) (fun _ => rfl) rfl (by kernel_rfl) rfl ?_
            refine wl_un (fun v => Instr.extract v 1) (.tmp 80) (.tuple #[.int .i64 ((sui (ovK x.k x.op A)).1), .int .i64 ((sui (ovK x.k x.op A)).2)]) (.int .i64 ((sui (ovK x.k x.op A)).2)) (fun _ => rfl) rfl (by kernel_rfl) rfl ?_
            refine wl_mv (.tmp 81) (.int .i64 ((sui (ovK x.k x.op A)).1)) (fun _ => rfl) rfl rfl ?_
            refine wl_mv (.tmp 82) (.int .i64 ((sui (ovK x.k x.op A)).2)) (fun _ => rfl) rfl rfl ?_
            refine w_nil ?_
            refine xn_then ?_
            refine w_ret ?_
            exact w_ret2 _ _ (.int .i64 ((sui (ovK x.k x.op A)).1)) (.int .i64 ((sui (ovK x.k x.op A)).2)) rfl rfl rfl ⟨by unfold ndK; rw [if_neg hf0p, if_neg hf1p, if_neg hf2p, if_neg hf3p, if_neg hf4p], M⟩
end Go.Proofs.Ytepfokoepibkcaa
namespace Go.Proofs.Ytepfokoepibkcaa
open Go.RowKit D
def acK (acc : Except Int (List Int)) (r : Int × Int) : Except Int (List Int) := match acc with
  | .error e => .error e
  | .ok A => if r.2 = 0 then .ok (A ++ [r.1]) else .error r.2
def endK (d : Df) (L : List S5) (s : Nat) (x : Ex) (r : Except Int (List Int)) : Int × Int := match r with
  | .error e => (0, e)
  | .ok A => ndK d L s x A
/-- The kind of an expression, or its first error. -/
def whK (d : Df) (L : List S5) (s : Nat) : Ex → Int × Int
  | .mk k op nm se v sc po pa cap args => endK d L s (.mk k op nm se v sc po pa cap args) (args.foldl (fun acc a => acK acc (whK d L s a)) (.ok []))
theorem whK_eq (d : Df) (L : List S5) (s : Nat) : ∀ x : Ex, whK d L s x = endK d L s x (x.args.foldl (fun acc a => acK acc (whK d L s a)) (.ok []))
  | .mk k op nm se v sc po pa cap args => by
    rw [whK]
theorem ac_err {f : Ex → Int × Int} (e : Int) : ∀ l : List Ex, l.foldl (fun acc a => acK acc (f a)) (.error e) = .error e
  | [] => rfl
  | _ :: l => ac_err e l
theorem ac_ok {f : Ex → Int × Int} {l : List Ex} {i : Nat} {a : Ex} {A : List Int} (h : (l.take i).foldl (fun acc a => acK acc (f a)) (.ok []) = .ok A) (ha : l[i]? = some a) (he : (f a).2 = 0) : (l.take (i + 1)).foldl (fun acc a => acK acc (f a)) (.ok []) = .ok (A ++ [(f a).1]) := by
  rw [foldl_s ha, h]; show (if (f a).2 = 0 then _ else _) = _; rw [if_pos he]
theorem ac_no {f : Ex → Int × Int} {l : List Ex} {i : Nat} {a : Ex} {A : List Int} (h : (l.take i).foldl (fun acc a => acK acc (f a)) (.ok []) = .ok A) (ha : l[i]? = some a) (he : ¬ (f a).2 = 0) : l.foldl (fun acc a => acK acc (f a)) (.ok []) = .error (f a).2 := by
  have h1 : (l.take (i + 1)).foldl (fun acc a => acK acc (f a)) (.ok []) = .error (f a).2 := by
    rw [foldl_s ha, h]; show (if (f a).2 = 0 then _ else _) = _; rw [if_neg he]
  have e : l = l.take (i + 1) ++ l.drop (i + 1) := (List.take_append_drop _ _).symm
  rw [e, List.foldl_append, h1, ac_err]
theorem nd_len (x : Ex) : x.args.length < nd x := by
  rw [nd_eq]
  have : ∀ (l : List Ex) (b : Nat), b + l.length ≤ l.foldl (fun n a => n + nd a) b := by
    intro l
    induction l with
    | nil => intro b; exact Nat.le_refl _
    | cons a l ih => intro b; have := ih (b + nd a); have := nd_pos a; simp only [List.foldl_cons, List.length_cons]; omega
  have := this x.args 1
  omega
/-- Kinds in a slice of one's own, apart from two blocks. -/
structure KO (w : World) (N k1 k2 : Nat) (pv : Option Addr) (cv : Nat) (A : List Int) : Prop where
  own : w.ownsRow N 3 1 (.slice pv A.length cv) A.length (A.flatMap kc)
  nk : ∀ k, Value.ownBlock (.slice pv A.length cv) = some k → k ≠ k1 ∧ k ≠ k2
theorem KO.mo {w w' : World} {N k1 k2 : Nat} {pv : Option Addr} {cv : Nat} {A : List Int} (h : KO w N k1 k2 pv cv A) (m : Mo w w') : KO w' N k1 k2 pv cv A := ⟨own_mo h.own m, h.nk⟩
theorem KO.nil (w : World) (N k1 k2 : Nat) : KO w N k1 k2 none 0 [] := ⟨⟨rfl, Or.inl ⟨rfl, rfl⟩⟩, fun k e => by cases e⟩
theorem inf3 : ∃ i, Try.prog.info? 3 = some i ∧ i.zero = some (.int .i64 0) ∧ i.size = 1 ∧ i.bytes = 8 := by
  have h : (Try.prog.info? 3).map (fun i => (i.zero, i.size, i.bytes)) = some (some (.int .i64 0), 1, 8) := by kernel_rfl
  cases hi : Try.prog.info? 3 with
  | none => rw [hi] at h; cases h
  | some i =>
    rw [hi] at h
    simp at h
    exact ⟨i, rfl, h.1, h.2.1, h.2.2⟩
section
variable {o : Oper} {n : Nat} {l : List (Nat × Value)} {w : World} {ops : Array Oper} {rest : List Oper} {Q : Exit → Act → World → Prop}
theorem wl_apK (s x : Operand) {N k1 k2 : Nat} {pv : Option Addr} {cv : Nat} {A : List Int} {r : Int} (kb : Nat) (ho : o.op = .call { callee := .builtin .append, args := #[s, x], argTypes := #[92, 92] }) (hs : evl n l s = .slice pv A.length cv) (hx : evl n l x = .slice (some ⟨kb, 0, none⟩) 1 1)
    (h : KO w N k1 k2 pv cv A) (hA : At w kb (kc r)) (hz : A.length < 4000000) (hN : N ≤ w.heap.size) (hk1 : k1 < w.heap.size) (hk2 : k2 < w.heap.size) (hg : wnt n l ops o = true)
    (hk : ∀ pv2 cv2 w', KO w' N k1 k2 pv2 cv2 (A ++ [r]) → (∀ a : World, a.heap.size = N → Mo a w → Mo a w') → Mk (fun j => Value.ownBlock (.slice pv A.length cv) = some j) w w' → WL Try.prog ops Q rest n (ext l o.dst (.slice pv2 (A ++ [r]).length cv2)) w') : WL Try.prog ops Q (o :: rest) n l w := by
  refine wl_app Try.underlying92 inf3 rfl (by decide) s x N (.slice pv A.length cv) A.length (A.flatMap kc) kb 1 1 (kc r) ho hs hx h.own rfl hA (by simp [Value.oneCell']) (by decide) (by unfold maxLen; omega) (by omega) hN hg ?_
  intro v2 w' hw m hv
  have e : (A ++ [r]).length = A.length + 1 := by simp
  have e2 : (A ++ [r]).flatMap kc = A.flatMap kc ++ kc r := by simp
  obtain ⟨pv2, cv2, rfl, _⟩ := own_form hw
  rw [← e] at hv hw ⊢
  rw [← e2] at hw
  refine hk pv2 cv2 w' ⟨hw, fun k e3 => ?_⟩ (fun a ha q => m.mo q (fun k e3 => by have := (own_lt h.own e3).2; omega)) m
  rcases hv with q | q
  · exact h.nk k (q ▸ e3)
  · rw [q] at e3; cases e3; omega
end
theorem whK_n {d : Df} {sp : Option Addr} {L : List S5} {s : Nat} (sc : Nat) : ∀ (x : Ex) {w : World}, LEx w x → RD w d sp L s → nd x ≤ 4000000 → Calls Try.prog 53 #[.agg (rdr d sp L sc s).toArray, .agg (x.cells).toArray] w fun e w' => e = .returned (tu2 (whK d L s x)) ∧ Mo w w' := by
  refine Ex.ind2 ?_
  intro x ih w hL hR hz
  refine w_enter 38 Try.func53 Try.ntmps53 rfl rfl ?_
  have M : Mo w w := Mo.refl _
  refine w_seq ?_
  refine w_reg ?_
  refine wl_box 88 (.tmp 0) (.agg (rdr d sp L sc s).toArray) (((rdr d sp L sc s).toArray)) rfl rfl (fun _ => by kernel_rfl) rfl ?_
  intro k1 u1 hk hz hq Q1
  have N_k1 : w.heap.size ≤ k1 := by have := M.size; omega
  replace M := M.trans hq
  clear hk hz hq
  refine wl_box 38 (.tmp 1) (.agg (x.cells).toArray) (((x.cells).toArray)) rfl rfl (fun _ => by kernel_rfl) rfl ?_
  intro k2 u2 hk hz hq Q2
  have ne_k1_k2 : k1 ≠ k2 := by have := Q1.lt; omega
  have N_k2 : w.heap.size ≤ k2 := by have := M.size; omega
  replace Q1 := Q1.mo hq
  replace M := M.trans hq
  clear hk hz hq
  refine wl_mv (.const (.int .i64 (0))) (.int .i64 (0)) (fun _ => rfl) rfl rfl ?_
  refine wl_mv (.const (.int .i64 (0))) (.int .i64 (0)) (fun _ => rfl) rfl rfl ?_
  refine w_nil ?_
  refine xn_then ?_
  refine w_seq ?_
  refine w_reg ?_
  refine wl_mv (.const (.slice none 0 0)) (.slice none 0 0) (fun _ => rfl) rfl rfl ?_
  refine w_nil ?_
  refine xn_then ?_
  refine w_seq ?_
  refine w_seq ?_
  refine w_reg ?_
  refine wl_un (fun v => Instr.fieldAt 38 v 7) (.tmp 3) (pt k2 0) (pt k2 16) (fun _ => rfl) rfl (by kernel_rfl) rfl ?_
  refine wl_load 36 (.tmp 11) (pt k2 16) (.slice x.pa x.args.length x.cap) rfl rfl (run_one Q2 36 16 rfl Try.underlying36 rfl) rfl ?_
  refine wl_val (.int .i64 ((x.args.length : Nat) : Int)) (len36 _ _ _ _ _ (by exact rfl) _ _ _ _ _ _) rfl ?_
  refine wl_mv (.const (.int .i64 (0))) (.int .i64 (0)) (fun _ => rfl) rfl rfl ?_
  refine w_nil ?_
  refine xn_then ?_
  refine w_block ?_
  have hz9 := hL.sl.1
  unfold maxLen at hz9
  refine w_loop (fun m l w1 => ∃ i : Nat, m = x.args.length - i ∧ i ≤ x.args.length ∧ look l 2 = pt k1 0 ∧ look l 3 = pt k2 0 ∧ look l 12 = .slice x.pa x.args.length x.cap ∧ look l 13 = .int .i64 ((x.args.length : Nat) : Int) ∧ look l 14 = .int .i64 ((i : Nat) : Int) ∧ At w1 k1 (rdr d sp L sc s) ∧ At w1 k2 (x.cells) ∧ (∃ A pv cv, (x.args.take i).foldl (fun acc a => acK acc (whK d L s a)) (.ok []) = .ok A ∧ A.length = i ∧ look l 6 = .slice pv A.length cv ∧ KO w1 w.heap.size k1 k2 pv cv A) ∧ Mo w w1) _ ⟨0, rfl, Nat.zero_le _, rfl, rfl, rfl, rfl, rfl, Q1, Q2, ⟨[], none, 0, rfl, rfl, rfl, KO.nil _ _ _ _⟩, M⟩ ?_
  clear Q1 Q2 M
  rintro m l40 wl40 ⟨i, rfl, hi, e40_2, e40_3, e40_12, e40_13, e40_i, Q1, Q2, hE, M⟩
  by_cases hil : i < x.args.length
  · skip
    have hid : decide (i < x.args.length) = true := decide_eq_true hil
    obtain ⟨A, pv, cv, hF, hAl, e6, hKO⟩ := hE
    have Mw := M
    clear M
    have M : Mo wl40 wl40 := Mo.refl _
    obtain ⟨a, ha⟩ := get_of_lt hil
    have hma := List.mem_of_getElem? ha
    have hS1 := hL.sl.kp Mw.kp
    obtain ⟨bp, op, hpp, hRp⟩ := D.SL.rw hS1 ha
    refine w_seq ?_
    refine w_reg ?_
    refine wl_bin (fun x y => do eqGuard .lss 3 (.tmp 14) (.tmp 13) x y; binOp .lss 3 x y) (.tmp 14) (.tmp 13) (.int .i64 ((i : Nat) : Int)) (.int .i64 ((x.args.length : Nat) : Int)) (.bool true) (fun _ => rfl) e40_i e40_13 (ltN hid _ _ _) rfl ?_
    refine w_nil ?_
    refine xn_then ?_
    refine w_seq ?_
    refine w_condT rfl ?_
    refine w_skip ?_
    refine xn_then ?_
    refine w_seq ?_
    refine w_block ?_
    refine w_seq ?_
    refine w_reg ?_
    refine wl_bin (fun x y => Instr.indexAt 36 x y) (.tmp 12) (.tmp 14) (.slice x.pa x.args.length x.cap) (.int .i64 ((i : Nat) : Int)) (pt bp (op + i * 17)) (fun _ => rfl) e40_12 e40_i (ix36 (i := i) hpp hil _) rfl ?_
    refine wl_load 38 (.tmp 16) (pt bp (op + i * 17)) (.agg (a.cells).toArray) rfl rfl (D.run_partR (hRp.mo M).at' 38 0 17 (a.cells) rfl Try.underlying38 rfl sz38) rfl ?_
    refine wl_alloc 38 #[.int .i64 0, .int .i64 0, .string ⟨#[]⟩, .string ⟨#[]⟩, .int .i64 0, .bool false, .int .u64 0, .int .u64 0, .int .u64 0, .int .u64 0, .int .i64 0, .bool false, .string ⟨#[]⟩, .int .i64 0, .int .i64 0, .int .i64 0, .slice none 0 0] rfl (fun _ => by kernel_rfl) rfl ?_
    intro k3 u41 hk hz hq Q3
    have ne_k1_k3 : k1 ≠ k3 := by have := Q1.lt; omega
    have ne_k2_k3 : k2 ≠ k3 := by have := Q2.lt; omega
    have N_k3 : wl40.heap.size ≤ k3 := by have := M.size; omega
    replace Q1 := Q1.mo hq
    replace Q2 := Q2.mo hq
    replace M := M.trans hq
    clear hk hz hq
    refine wl_st 38 (.tmp 8) (.tmp 17) k3 0 ((a.cells).toArray) [.int .i64 0, .int .i64 0, .string ⟨#[]⟩, .string ⟨#[]⟩, .int .i64 0, .bool false, .int .u64 0, .int .u64 0, .int .u64 0, .int .u64 0, .int .i64 0, .bool false, .string ⟨#[]⟩, .int .i64 0, .int .i64 0, .int .i64 0, .slice none 0 0] (a.cells) Q3 rfl rfl rfl rfl rfl sz38 rfl rfl rfl ?_
    intro u42 hS Qn
    replace Q3 := Qn
    clear Qn
    replace Q1 := hS.other _ _ ne_k1_k3 Q1
    replace Q2 := hS.other _ _ ne_k2_k3 Q2
    replace M := hS.mo _ N_k3 M
    clear hS
    refine w_nil ?_
    refine xn_then ?_
    refine w_seq ?_
    refine w_reg ?_
    refine wl_load 88 (.tmp 2) (pt k1 0) (.agg (rdr d sp L sc s).toArray) rfl e40_2 (run_row Q1 88 0 9 (rdr d sp L sc s) rfl Try.underlying88 rfl sz88) rfl ?_
    refine wl_load 38 (.tmp 8) (pt k3 0) (.agg (a.cells).toArray) rfl rfl (run_row Q3 38 0 17 (a.cells) rfl Try.underlying38 rfl sz38) rfl ?_
    refine wl_call 53 [(.tmp 19), (.tmp 20)] _ [.agg (rdr d sp L sc s).toArray, .agg (a.cells).toArray] (.tuple #[.int .i64 ((whK d L s a).1), .int .i64 ((whK d L s a).2)]) rfl rfl (fun _ _ => by kernel_rfl) (ih a hma ((hL.ar a hma).kp (Mw.trans M).kp) (hR.kp (Mw.trans M).kp) (by have := nd_arg ha; omega)) rfl ?_
    intro u43 hq
    replace Q1 := Q1.mo hq
    replace Q2 := Q2.mo hq
    replace Q3 := Q3.mo hq
    replace M := M.trans hq
    clear hq
    refine wl_mv (.tmp 21) (.tuple #[.int .i64 ((whK d L s a).1), .int .i64 ((whK d L s a).2)]) (fun _ => rfl) rfl rfl ?_
    refine wl_un (fun v => Instr.extract v 0) (.tmp 18) (.tuple #[.int .i64 ((whK d L s a).1), .int .i64 ((whK d L s a).2)]) (.int .i64 ((whK d L s a).1)) (fun _ => rfl) rfl (by kernel_rfl) rfl ?_
    refine wl_un (fun v => Instr.extract v 1) (.tmp 18) (.tuple #[.int .i64 ((whK d L s a).1), .int .i64 ((whK d L s a).2)]) (.int .i64 ((whK d L s a).2)) (fun _ => rfl) rfl (by kernel_rfl) rfl ?_
    refine wl_mv (.tmp 22) (.int .i64 ((whK d L s a).1)) (fun _ => rfl) rfl rfl ?_
    refine wl_mv (.tmp 23) (.int .i64 ((whK d L s a).2)) (fun _ => rfl) rfl rfl ?_
    refine w_nil ?_
    refine xn_then ?_
    refine w_seq ?_
    refine w_seq ?_
    refine w_reg ?_
    refine wl_mv (.tmp 10) (.int .i64 ((whK d L s a).2)) (fun _ => rfl) rfl rfl ?_
    cases hf30 : decide ((whK d L s a).2 = 0) with
    | true =>
      have hf30p := of_decide_eq_true hf30
      refine wl_bin (fun x y => do eqGuard .neq 32 (.tmp 24) (.const (.int .i64 (0))) x y; binOp .neq 32 x y) (.tmp 24) (.const (.int .i64 (0))) (.int .i64 ((whK d L s a).2)) (.int .i64 (0)) (.bool false) (fun _ => rfl) rfl rfl (ne34 hf30 _ _ _) rfl ?_
      refine w_nil ?_
      refine xn_then ?_
      refine w_condF rfl ?_
      refine w_skip ?_
      refine xn_then ?_
      refine w_reg ?_
      refine wl_mv (.tmp 6) (.slice pv A.length cv) (fun _ => rfl) e6 rfl ?_
      refine wl_mv (.tmp 9) (.int .i64 ((whK d L s a).1)) (fun _ => rfl) rfl rfl ?_
      refine wl_bs 92 1 [(0, (.tmp 28))] [(0, .int .i64 ((whK d L s a).1))] #[.int .i64 ((whK d L s a).1)] 3 rfl rfl (fun _ => by kernel_rfl) rfl ?_
      intro k4 u44 hk hz hq Q4
      have ne_k1_k4 : k1 ≠ k4 := by have := Q1.lt; omega
      have ne_k2_k4 : k2 ≠ k4 := by have := Q2.lt; omega
      have ne_k3_k4 : k3 ≠ k4 := by have := Q3.lt; omega
      have N_k4 : wl40.heap.size ≤ k4 := by have := M.size; omega
      replace Q1 := Q1.mo hq
      replace Q2 := Q2.mo hq
      replace Q3 := Q3.mo hq
      replace M := M.trans hq
      clear hk hz hq
      have hKO3 := hKO.mo M
      replace M := Mw.trans M
      refine wl_apK (.tmp 27) (.tmp 29) (N := w.heap.size) (k1 := k1) (k2 := k2) (r := (whK d L s a).1) k4 rfl rfl rfl hKO3 Q4 (by have := nd_len x; omega) M.size Q1.2.2 Q2.2.2 rfl ?_
      intro pv2 cv2 u45 hKO2 hMo9 m4
      replace M := hMo9 w rfl M
      replace Q1 := m4.at Q1 (fun e => (hKO3.nk _ e).1 rfl)
      replace Q2 := m4.at Q2 (fun e => (hKO3.nk _ e).2 rfl)
      refine wl_mv (.tmp 30) (.slice pv2 (A ++ [(whK d L s a).1]).length cv2) (fun _ => rfl) rfl rfl ?_
      refine w_nil ?_
      refine xn_blk ?_
      refine xn_then ?_
      refine w_reg ?_
      refine wl_bin (fun x y => do eqGuard .add 3 (.tmp 14) (.const (.int .i64 (1))) x y; binOp .add 3 x y) (.tmp 14) (.const (.int .i64 (1))) (.int .i64 ((i : Nat) : Int)) (.int .i64 (1)) (.int .i64 ((i + 1 : Nat) : Int)) (fun _ => rfl) e40_i rfl (add1r (k := i) (by omega) _ _ _) rfl ?_
      refine wl_mv (.tmp 31) (.int .i64 ((i + 1 : Nat) : Int)) (fun _ => rfl) rfl rfl ?_
      refine w_nil ?_
      exact xn_loop (x.args.length - (i + 1)) (by omega) ⟨i + 1, rfl, by omega, e40_2, e40_3, e40_12, e40_13, rfl, Q1, Q2, ⟨_, pv2, cv2, ac_ok hF ha hf30p, by simp; omega, rfl, hKO2⟩, M⟩
    | false =>
      have hf30p := of_decide_eq_false hf30
      refine wl_bin (fun x y => do eqGuard .neq 32 (.tmp 24) (.const (.int .i64 (0))) x y; binOp .neq 32 x y) (.tmp 24) (.const (.int .i64 (0))) (.int .i64 ((whK d L s a).2)) (.int .i64 (0)) (.bool true) (fun _ => rfl) rfl rfl (ne34 hf30 _ _ _) rfl ?_
      refine w_nil ?_
      refine xn_then ?_
      refine w_condT rfl ?_
      refine w_seq ?_
      refine w_reg ?_
      refine wl_mv (.tmp 10) (.int .i64 ((whK d L s a).2)) (fun _ => rfl) rfl rfl ?_
      refine wl_mv (.const (.int .i64 (0))) (.int .i64 (0)) (fun _ => rfl) rfl rfl ?_
      refine wl_mv (.tmp 26) (.int .i64 ((whK d L s a).2)) (fun _ => rfl) rfl rfl ?_
      refine w_nil ?_
      refine xn_then ?_
      refine w_ret ?_
      refine xr_then ?_
      refine xr_blk ?_
      refine xr_then ?_
      refine xr_then ?_
      refine xr_blk ?_
      refine xr_then ?_
      exact w_ret2 _ _ (.int .i64 (0)) (.int .i64 ((whK d L s a).2)) rfl rfl rfl ⟨by rw [whK_eq d L s x, ac_no hF ha hf30p]; rfl, Mw.trans M⟩
  · skip
    have hid : decide (i < x.args.length) = false := decide_eq_false hil
    have hie : i = x.args.length := by omega
    obtain ⟨A, pv, cv, hF, hAl, e6, hKO⟩ := hE
    have hSA := own_sl (cells := kc) (fun _ => rfl) (by have := nd_len x; unfold maxLen; omega) hKO.own
    rw [hie, List.take_length] at hF
    refine w_seq ?_
    refine w_reg ?_
    refine wl_bin (fun x y => do eqGuard .lss 3 (.tmp 14) (.tmp 13) x y; binOp .lss 3 x y) (.tmp 14) (.tmp 13) (.int .i64 ((i : Nat) : Int)) (.int .i64 ((x.args.length : Nat) : Int)) (.bool false) (fun _ => rfl) e40_i e40_13 (ltN hid _ _ _) rfl ?_
    refine w_nil ?_
    refine xn_then ?_
    refine w_seq ?_
    refine w_condF rfl ?_
    refine w_exit ?_
    refine xx_then ?_
    refine xx_then ?_
    refine xx_blk ?_
    refine xn_then ?_
    refine w_seq ?_
    refine w_reg ?_
    refine wl_load 88 (.tmp 2) (pt k1 0) (.agg (rdr d sp L sc s).toArray) rfl e40_2 (run_row Q1 88 0 9 (rdr d sp L sc s) rfl Try.underlying88 rfl sz88) rfl ?_
    refine wl_load 38 (.tmp 3) (pt k2 0) (.agg (x.cells).toArray) rfl e40_3 (run_row Q2 38 0 17 (x.cells) rfl Try.underlying38 rfl sz38) rfl ?_
    refine wl_mv (.tmp 6) (.slice pv A.length cv) (fun _ => rfl) e6 rfl ?_
    refine wl_call 72 [(.tmp 32), (.tmp 33), (.tmp 34)] _ [.agg (rdr d sp L sc s).toArray, .agg (x.cells).toArray, .slice pv A.length cv] (.tuple #[.int .i64 ((ndK d L s x A).1), .int .i64 ((ndK d L s x A).2)]) rfl rfl (fun _ _ => by kernel_rfl) (ndK_n (hR.kp M.kp) sc x cv A hSA) rfl ?_
    intro u41 hq
    replace Q1 := Q1.mo hq
    replace Q2 := Q2.mo hq
    replace M := M.trans hq
    clear hq
    refine wl_un (fun v => Instr.extract v 0) (.tmp 35) (.tuple #[.int .i64 ((ndK d L s x A).1), .int .i64 ((ndK d L s x A).2)]) (.int .i64 ((ndK d L s x A).1)) (fun _ => rfl) rfl (by kernel_rfl) rfl ?_
    refine wl_un (fun v => Instr.extract v 1) (.tmp 35) (.tuple #[.int .i64 ((ndK d L s x A).1), .int .i64 ((ndK d L s x A).2)]) (.int .i64 ((ndK d L s x A).2)) (fun _ => rfl) rfl (by kernel_rfl) rfl ?_
    refine wl_mv (.tmp 36) (.int .i64 ((ndK d L s x A).1)) (fun _ => rfl) rfl rfl ?_
    refine wl_mv (.tmp 37) (.int .i64 ((ndK d L s x A).2)) (fun _ => rfl) rfl rfl ?_
    refine w_nil ?_
    refine xn_then ?_
    refine w_ret ?_
    exact w_ret2 _ _ (.int .i64 ((ndK d L s x A).1)) (.int .i64 ((ndK d L s x A).2)) rfl rfl rfl ⟨by rw [whK_eq d L s x, hF]; rfl, M⟩
def kdK (d : Df) (L : List S5) (s : Nat) (x : Ex) : Int × Int := if 64 < nd x then (0, 101) else whK d L s x
theorem kdK_n {d : Df} {sp : Option Addr} {L : List S5} {s : Nat} (sc : Nat) (x : Ex) {w : World} (hL : LEx w x) (hR : RD w d sp L s) (hz : nd x ≤ 4000000) : Calls Try.prog 36 #[.agg (rdr d sp L sc s).toArray, .agg (x.cells).toArray] w fun e w' => e = .returned (tu2 (kdK d L s x)) ∧ Mo w w' := by
  refine w_enter 14 Try.func36 Try.ntmps36 rfl rfl ?_
  have M : Mo w w := Mo.refl _
  refine w_seq ?_
  refine w_reg ?_
  refine wl_box 88 (.tmp 0) (.agg (rdr d sp L sc s).toArray) (((rdr d sp L sc s).toArray)) rfl rfl (fun _ => by kernel_rfl) rfl ?_
  intro k1 u1 hk hz hq Q1
  have N_k1 : w.heap.size ≤ k1 := by have := M.size; omega
  replace M := M.trans hq
  clear hk hz hq
  refine wl_box 38 (.tmp 1) (.agg (x.cells).toArray) (((x.cells).toArray)) rfl rfl (fun _ => by kernel_rfl) rfl ?_
  intro k2 u2 hk hz hq Q2
  have ne_k1_k2 : k1 ≠ k2 := by have := Q1.lt; omega
  have N_k2 : w.heap.size ≤ k2 := by have := M.size; omega
  replace Q1 := Q1.mo hq
  replace M := M.trans hq
  clear hk hz hq
  refine wl_mv (.const (.int .i64 (0))) (.int .i64 (0)) (fun _ => rfl) rfl rfl ?_
  refine wl_mv (.const (.int .i64 (0))) (.int .i64 (0)) (fun _ => rfl) rfl rfl ?_
  refine w_nil ?_
  refine xn_then ?_
  refine w_seq ?_
  refine w_seq ?_
  refine w_reg ?_
  refine wl_load 38 (.tmp 3) (pt k2 0) (.agg (x.cells).toArray) rfl rfl (run_row Q2 38 0 17 (x.cells) rfl Try.underlying38 rfl sz38) rfl ?_
  refine wl_call 29 [(.tmp 6)] _ [.agg (x.cells).toArray] (.int .i64 ((nd x : Nat) : Int)) rfl rfl (fun _ _ => by kernel_rfl) (nodes_n x (hL.kp M.kp) hz) rfl ?_
  intro u3 hq
  replace Q1 := Q1.mo hq
  replace Q2 := Q2.mo hq
  replace M := M.trans hq
  clear hq
  cases hf0 : decide (64 < nd x) with
  | true =>
    have hf0p := of_decide_eq_true hf0
    refine wl_bin (fun x y => do eqGuard .gtr 3 (.tmp 7) (.const (.int .i64 (64))) x y; binOp .gtr 3 x y) (.tmp 7) (.const (.int .i64 (64))) (.int .i64 ((nd x : Nat) : Int)) (.int .i64 (64)) (.bool true) (fun _ => rfl) rfl rfl (gtN hf0 _ _ _) rfl ?_
    refine w_nil ?_
    refine xn_then ?_
    refine w_condT rfl ?_
    refine w_seq ?_
    refine w_reg ?_
    refine wl_mv (.const (.int .i64 (0))) (.int .i64 (0)) (fun _ => rfl) rfl rfl ?_
    refine wl_mv (.const (.int .i64 (101))) (.int .i64 (101)) (fun _ => rfl) rfl rfl ?_
    refine w_nil ?_
    refine xn_then ?_
    refine w_ret ?_
    refine xr_then ?_
    exact w_ret2 _ _ (.int .i64 (0)) (.int .i64 (101)) rfl rfl rfl ⟨by unfold kdK; rw [if_pos hf0p], M⟩
  | false =>
    have hf0p := of_decide_eq_false hf0
    refine wl_bin (fun x y => do eqGuard .gtr 3 (.tmp 7) (.const (.int .i64 (64))) x y; binOp .gtr 3 x y) (.tmp 7) (.const (.int .i64 (64))) (.int .i64 ((nd x : Nat) : Int)) (.int .i64 (64)) (.bool false) (fun _ => rfl) rfl rfl (gtN hf0 _ _ _) rfl ?_
    refine w_nil ?_
    refine xn_then ?_
    refine w_condF rfl ?_
    refine w_skip ?_
    refine xn_then ?_
    refine w_seq ?_
    refine w_reg ?_
    refine wl_load 88 (.tmp 2) (pt k1 0) (.agg (rdr d sp L sc s).toArray) rfl rfl (run_row Q1 88 0 9 (rdr d sp L sc s) rfl Try.underlying88 rfl sz88) rfl ?_
    refine wl_load 38 (.tmp 3) (pt k2 0) (.agg (x.cells).toArray) rfl rfl (run_row Q2 38 0 17 (x.cells) rfl Try.underlying38 rfl sz38) rfl ?_
    refine wl_call 53 [(.tmp 9), (.tmp 10)] _ [.agg (rdr d sp L sc s).toArray, .agg (x.cells).toArray] (.tuple #[.int .i64 ((whK d L s x).1), .int .i64 ((whK d L s x).2)]) rfl rfl (fun _ _ => by kernel_rfl) (whK_n sc x (hL.kp M.kp) (hR.kp M.kp) hz) rfl ?_
    intro u4 hq
    replace Q1 := Q1.mo hq
    replace Q2 := Q2.mo hq
    replace M := M.trans hq
    clear hq
    refine wl_un (fun v => Instr.extract v 0) (.tmp 11) (.tuple #[.int .i64 ((whK d L s x).1), .int .i64 ((whK d L s x).2)]) (.int .i64 ((whK d L s x).1)) (fun _ => rfl) rfl (by kernel_rfl) rfl ?_
    refine wl_un (fun v => Instr.extract v 1) (.tmp 11) (.tuple #[.int .i64 ((whK d L s x).1), .int .i64 ((whK d L s x).2)]) (.int .i64 ((whK d L s x).2)) (fun _ => rfl) rfl (by kernel_rfl) rfl ?_
    refine wl_mv (.tmp 12) (.int .i64 ((whK d L s x).1)) (fun _ => rfl) rfl rfl ?_
    refine wl_mv (.tmp 13) (.int .i64 ((whK d L s x).2)) (fun _ => rfl) rfl rfl ?_
    refine w_nil ?_
    refine xn_then ?_
    refine w_ret ?_
    exact w_ret2 _ _ (.int .i64 ((whK d L s x).1)) (.int .i64 ((whK d L s x).2)) rfl rfl rfl ⟨by unfold kdK; rw [if_neg hf0p], M⟩
end Go.Proofs.Ytepfokoepibkcaa
