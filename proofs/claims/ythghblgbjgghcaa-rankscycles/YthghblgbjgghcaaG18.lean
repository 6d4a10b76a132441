/-
  How much there is: some number; whether it is little: yes or no.
-/
import Derived.Test.YthghblgbjgghcaaG15
namespace Go.Proofs.Ythghblgbjgghcaa
open Go.RowKit D
theorem addW {a b : Int} (x y : Operand) (w : World) : (do eqGuard .add 3 x y (.int .i64 a) (.int .i64 b); binOp .add 3 (.int .i64 a) (.int .i64 b)).run Try.prog w = .ok (.int .i64 (IntKind.i64.wrap (a + b))) w := by kernel_rfl
theorem minI (ρ : Operand → Value) (x y : Operand) (a b : Nat) (hx : ρ x = .int .i64 ((a : Nat) : Int)) (hy : ρ y = .int .i64 ((b : Nat) : Int)) (dst : Option Tmp) (type : TypeId) (pos : String) (after : Array Edge) (guard : Option (Nat × Bool)) (w : World) : (execOp ρ { dst, op := .call { callee := .builtin .min, args := #[x, y], argTypes := #[3, 3] }, type, pos, after, guard }).run Try.prog w = .ok (.value (.int .i64 ((min a b : Nat) : Int))) w := by
  rw [show ((min a b : Nat) : Int) = min (a : Int) (b : Int) by omega]
  simp [go_sem, hx, hy]
theorem slh22 (ρ : Operand → Value) (x y : Operand) (p : Option Addr) (n c k : Nat) (hx : ρ x = .slice p n c) (hy : ρ y = .int .i64 (k : Int)) (hk : k ≤ c) (dst : Option Tmp) (type : TypeId) (pos : String) (after : Array Edge) (guard : Option (Nat × Bool)) (w : World) : (execOp ρ { dst, op := .slice 22 x none (some y) none, type, pos, after, guard }).run Try.prog w = .ok (.value (.slice p k c)) w := by
  simp [go_sem, hx, hy, hk]
theorem slh39 (ρ : Operand → Value) (x y : Operand) (p : Option Addr) (n c k : Nat) (hx : ρ x = .slice p n c) (hy : ρ y = .int .i64 (k : Int)) (hk : k ≤ c) (dst : Option Tmp) (type : TypeId) (pos : String) (after : Array Edge) (guard : Option (Nat × Bool)) (w : World) : (execOp ρ { dst, op := .slice 39 x none (some y) none, type, pos, after, guard }).run Try.prog w = .ok (.value (.slice p k c)) w := by
  simp [go_sem, hx, hy, hk]
theorem size_n {w0 : World} : ∀ (d : Nat), d ≤ 60 → ∀ (x : Ex), LEx w0 x → ∀ {w : World}, Kp w0 w → Calls Try.prog 31 #[.agg #[.int .i64 x.k, .int .i64 x.op, .string x.nm, .string x.se, .int .i64 x.v.k, .bool x.v.d.b, .int .u64 x.v.d.n0, .int .u64 x.v.d.n1, .int .u64 x.v.d.n2, .int .u64 x.v.d.n3, .int .i64 x.v.d.s, .bool x.v.f, .string x.v.t, .int .i64 x.v.e, .int .i64 x.sc, .int .i64 x.po, .slice x.pa x.args.length x.cap], .int .i64 ((d : Nat) : Int)] w fun e w' => ∃ z : Int, e = .returned (.int .i64 z) ∧ Mo w w' := by
  intro d
  induction d with
  | zero =>
    intro _ x hL w hK
    refine w_enter 25 Try.func31 Try.ntmps31 rfl rfl ?_
    have M : Mo w w := Mo.refl _
    refine w_seq ?_
    refine w_reg ?_
    refine wl_box 67 (.tmp 0) (.agg #[.int .i64 x.k, .int .i64 x.op, .string x.nm, .string x.se, .int .i64 x.v.k, .bool x.v.d.b, .int .u64 x.v.d.n0, .int .u64 x.v.d.n1, .int .u64 x.v.d.n2, .int .u64 x.v.d.n3, .int .i64 x.v.d.s, .bool x.v.f, .string x.v.t, .int .i64 x.v.e, .int .i64 x.sc, .int .i64 x.po, .slice x.pa x.args.length x.cap]) (#[.int .i64 x.k, .int .i64 x.op, .string x.nm, .string x.se, .int .i64 x.v.k, .bool x.v.d.b, .int .u64 x.v.d.n0, .int .u64 x.v.d.n1, .int .u64 x.v.d.n2, .int .u64 x.v.d.n3, .int .i64 x.v.d.s, .bool x.v.f, .string x.v.t, .int .i64 x.v.e, .int .i64 x.sc, .int .i64 x.po, .slice x.pa x.args.length x.cap]) rfl rfl (fun _ => by kernel_rfl) rfl ?_
    intro k1 u1 hk hz hq Q1
    have N_k1 : w.heap.size ≤ k1 := by have := M.size; omega
    replace M := M.trans hq
    clear hk hz hq
    refine wl_mv (.const (.int .i64 (0))) (.int .i64 (0)) (fun _ => rfl) rfl rfl ?_
    refine w_nil ?_
    refine xn_then ?_
    refine w_seq ?_
    refine w_seq ?_
    refine w_reg ?_
    refine wl_mv (.tmp 1) (.int .i64 (0)) (fun _ => rfl) rfl rfl ?_
    refine wl_bin (fun x y => do eqGuard .eql 3 (.tmp 8) (.const (.int .i64 (0))) x y; binOp .eql 3 x y) (.tmp 8) (.const (.int .i64 (0))) (.int .i64 (0)) (.int .i64 (0)) (.bool true) (fun _ => rfl) rfl rfl (eq3 (r := true) rfl _ _ _) rfl ?_
    refine w_nil ?_
    refine xn_then ?_
    refine w_condT rfl ?_
    refine w_seq ?_
    refine w_reg ?_
    refine wl_mv (.const (.int .i64 (1000))) (.int .i64 (1000)) (fun _ => rfl) rfl rfl ?_
    refine w_nil ?_
    refine xn_then ?_
    refine w_ret ?_
    refine xr_then ?_
    exact w_ret1 _ (.int .i64 (1000)) rfl rfl ⟨_, rfl, M⟩
  | succ d ih =>
    intro hd x hL w hK
    have hz9 := hL.sl.1
    unfold maxLen at hz9
    have hdn : decide (((d + 1 : Nat) : Int) = 0) = false := decide_eq_false (by omega)
    refine w_enter 25 Try.func31 Try.ntmps31 rfl rfl ?_
    have M : Mo w w := Mo.refl _
    refine w_seq ?_
    refine w_reg ?_
    refine wl_box 67 (.tmp 0) (.agg #[.int .i64 x.k, .int .i64 x.op, .string x.nm, .string x.se, .int .i64 x.v.k, .bool x.v.d.b, .int .u64 x.v.d.n0, .int .u64 x.v.d.n1, .int .u64 x.v.d.n2, .int .u64 x.v.d.n3, .int .i64 x.v.d.s, .bool x.v.f, .string x.v.t, .int .i64 x.v.e, .int .i64 x.sc, .int .i64 x.po, .slice x.pa x.args.length x.cap]) (#[.int .i64 x.k, .int .i64 x.op, .string x.nm, .string x.se, .int .i64 x.v.k, .bool x.v.d.b, .int .u64 x.v.d.n0, .int .u64 x.v.d.n1, .int .u64 x.v.d.n2, .int .u64 x.v.d.n3, .int .i64 x.v.d.s, .bool x.v.f, .string x.v.t, .int .i64 x.v.e, .int .i64 x.sc, .int .i64 x.po, .slice x.pa x.args.length x.cap]) rfl rfl (fun _ => by kernel_rfl) rfl ?_
    intro k1 u1 hk hz hq Q1
    have N_k1 : w.heap.size ≤ k1 := by have := M.size; omega
    replace M := M.trans hq
    clear hk hz hq
    refine wl_mv (.const (.int .i64 (0))) (.int .i64 (0)) (fun _ => rfl) rfl rfl ?_
    refine w_nil ?_
    refine xn_then ?_
    refine w_seq ?_
    refine w_seq ?_
    refine w_reg ?_
    refine wl_mv (.tmp 1) (.int .i64 ((d + 1 : Nat) : Int)) (fun _ => rfl) rfl rfl ?_
    refine wl_bin (fun x y => do eqGuard .eql 3 (.tmp 8) (.const (.int .i64 (0))) x y; binOp .eql 3 x y) (.tmp 8) (.const (.int .i64 (0))) (.int .i64 ((d + 1 : Nat) : Int)) (.int .i64 (0)) (.bool false) (fun _ => rfl) rfl rfl (eq3 hdn _ _ _) rfl ?_
    refine w_nil ?_
    refine xn_then ?_
    refine w_condF rfl ?_
    refine w_skip ?_
    refine xn_then ?_
    refine w_seq ?_
    refine w_reg ?_
    refine wl_mv (.const (.int .i64 (1))) (.int .i64 (1)) (fun _ => rfl) rfl rfl ?_
    refine w_nil ?_
    refine xn_then ?_
    refine w_seq ?_
    refine w_seq ?_
    refine w_reg ?_
    refine wl_un (fun v => Instr.fieldAt 67 v 7) (.tmp 2) (pt k1 0) (pt k1 16) (fun _ => rfl) rfl (by kernel_rfl) rfl ?_
    refine wl_load 65 (.tmp 10) (pt k1 16) (.slice x.pa x.args.length x.cap) rfl rfl (run_one Q1 65 16 rfl Try.underlying65 rfl) rfl ?_
    refine wl_val (.int .i64 ((x.args.length : Nat) : Int)) (len65 _ _ _ _ _ (by exact rfl) _ _ _ _ _ _) rfl ?_
    refine wl_mv (.const (.int .i64 (0))) (.int .i64 (0)) (fun _ => rfl) rfl rfl ?_
    refine w_nil ?_
    refine xn_then ?_
    refine w_block ?_
    refine w_loop (fun m lf w1 => ∃ i : Nat, ∃ z : Int, m = x.args.length - i ∧ look lf 1 = .int .i64 ((d + 1 : Nat) : Int) ∧ look lf 5 = .int .i64 (z) ∧ look lf 11 = .slice x.pa x.args.length x.cap ∧ look lf 12 = .int .i64 ((x.args.length : Nat) : Int) ∧ look lf 13 = .int .i64 ((i : Nat) : Int) ∧ (i ≤ x.args.length) ∧ (Mo w w1)) _ ⟨0, 1, rfl, rfl, rfl, rfl, rfl, rfl, Nat.zero_le _, M⟩ ?_
    clear M
    rintro m lf40 wl40 ⟨i, z, rfl, e40_1, e40_5, e40_11, e40_12, e40_13, hi, M⟩
    cases hd2 : decide (i < x.args.length) with
    | true =>
      have hil := of_decide_eq_true hd2
      obtain ⟨a, ha⟩ := get_of_lt hil
      have hma := List.mem_of_getElem? ha
      obtain ⟨ba, oa, hpa, hRa⟩ := D.SL.rw hL.sl ha
      have hRaw := hRa.kp hK
      refine w_seq ?_
      refine w_reg ?_
      refine wl_bin (fun x y => do eqGuard .lss 3 (.tmp 13) (.tmp 12) x y; binOp .lss 3 x y) (.tmp 13) (.tmp 12) (.int .i64 ((i : Nat) : Int)) (.int .i64 ((x.args.length : Nat) : Int)) (.bool true) (fun _ => rfl) e40_13 e40_12 (ltN hd2 _ _ _) rfl ?_
      refine w_nil ?_
      refine xn_then ?_
      refine w_seq ?_
      refine w_condT rfl ?_
      refine w_skip ?_
      refine xn_then ?_
      refine w_seq ?_
      refine w_block ?_
      refine w_seq ?_
      refine w_reg ?_
      refine wl_bin (fun x y => Instr.indexAt 65 x y) (.tmp 11) (.tmp 13) (.slice x.pa x.args.length x.cap) (.int .i64 ((i : Nat) : Int)) (pt ba (oa + i * 17)) (fun _ => rfl) e40_11 e40_13 (ix65 (i := i) hpa hil _) rfl ?_
      refine wl_load 67 (.tmp 15) (pt ba (oa + i * 17)) (.agg (a.cells).toArray) rfl rfl (D.run_partR (hRaw.mo M).at' 67 0 17 (a.cells) rfl Try.underlying67 rfl sz67) rfl ?_
      refine wl_alloc 67 #[.int .i64 0, .int .i64 0, .string ⟨#[]⟩, .string ⟨#[]⟩, .int .i64 0, .bool false, .int .u64 0, .int .u64 0, .int .u64 0, .int .u64 0, .int .i64 0, .bool false, .string ⟨#[]⟩, .int .i64 0, .int .i64 0, .int .i64 0, .slice none 0 0] rfl (fun _ => by kernel_rfl) rfl ?_
      intro k2 u41 hk hz hq Q2
      have N_k2 : w.heap.size ≤ k2 := by have := M.size; omega
      replace M := M.trans hq
      clear hk hz hq
      refine wl_st 67 (.tmp 7) (.tmp 16) k2 0 ((a.cells).toArray) [.int .i64 0, .int .i64 0, .string ⟨#[]⟩, .string ⟨#[]⟩, .int .i64 0, .bool false, .int .u64 0, .int .u64 0, .int .u64 0, .int .u64 0, .int .i64 0, .bool false, .string ⟨#[]⟩, .int .i64 0, .int .i64 0, .int .i64 0, .slice none 0 0] (a.cells) Q2 rfl rfl rfl rfl rfl sz67 rfl rfl rfl ?_
      intro u42 hS Qn
      replace Q2 := Qn
      clear Qn
      replace M := hS.mo _ N_k2 M
      clear hS
      refine w_nil ?_
      refine xn_then ?_
      refine w_reg ?_
      refine wl_mv (.tmp 5) (.int .i64 (z)) (fun _ => rfl) e40_5 rfl ?_
      refine wl_load 67 (.tmp 7) (pt k2 0) (.agg (a.cells).toArray) rfl rfl (run_row Q2 67 0 17 (a.cells) rfl Try.underlying67 rfl sz67) rfl ?_
      refine wl_mv (.tmp 1) (.int .i64 ((d + 1 : Nat) : Int)) (fun _ => rfl) e40_1 rfl ?_
      refine wl_bin (fun x y => do eqGuard .sub 3 (.tmp 19) (.const (.int .i64 (1))) x y; binOp .sub 3 x y) (.tmp 19) (.const (.int .i64 (1))) (.int .i64 ((d + 1 : Nat) : Int)) (.int .i64 (1)) (.int .i64 (((d + 1 : Nat) : Int) - 1)) (fun _ => rfl) rfl rfl (subZ (a := ((d + 1 : Nat) : Int)) (b := 1) (by omega) (by omega) _ _ _) rfl ?_
      refine wl_callx 31 [(.tmp 18), (.tmp 20)] _ [.agg (a.cells).toArray, .int .i64 (((d + 1 : Nat) : Int) - 1)] rfl rfl (fun _ _ => by kernel_rfl) ((by have h := ih (by omega) a (hL.ar a hma) (hK.trans M.kp); rw [show ((d : Nat) : Int) = ((d + 1 : Nat) : Int) - 1 by omega] at h; exact h)) rfl ?_
      rintro e9 u43 ⟨zr, rfl, hq⟩
      refine ⟨_, rfl, ?_⟩
      replace Q2 := Q2.mo hq
      replace M := M.trans hq
      clear hq
      refine wl_bin (fun x y => do eqGuard .add 3 (.tmp 17) (.tmp 21) x y; binOp .add 3 x y) (.tmp 17) (.tmp 21) (.int .i64 (z)) (.int .i64 (zr)) (.int .i64 (IntKind.i64.wrap (z + zr))) (fun _ => rfl) rfl rfl (addW (a := z) (b := zr) _ _ _) rfl ?_
      refine wl_mv (.tmp 22) (.int .i64 (IntKind.i64.wrap (z + zr))) (fun _ => rfl) rfl rfl ?_
      refine w_nil ?_
      refine xn_blk ?_
      refine xn_then ?_
      refine w_reg ?_
      refine wl_bin (fun x y => do eqGuard .add 3 (.tmp 13) (.const (.int .i64 (1))) x y; binOp .add 3 x y) (.tmp 13) (.const (.int .i64 (1))) (.int .i64 ((i : Nat) : Int)) (.int .i64 (1)) (.int .i64 ((i + 1 : Nat) : Int)) (fun _ => rfl) e40_13 rfl (add1r (k := i) (by omega) _ _ _) rfl ?_
      refine wl_mv (.tmp 23) (.int .i64 ((i + 1 : Nat) : Int)) (fun _ => rfl) rfl rfl ?_
      refine w_nil ?_
      exact xn_loop (x.args.length - (i + 1)) (by omega) ⟨i + 1, _, rfl, e40_1, rfl, e40_11, e40_12, rfl, by omega, M⟩
    | false =>
      refine w_seq ?_
      refine w_reg ?_
      refine wl_bin (fun x y => do eqGuard .lss 3 (.tmp 13) (.tmp 12) x y; binOp .lss 3 x y) (.tmp 13) (.tmp 12) (.int .i64 ((i : Nat) : Int)) (.int .i64 ((x.args.length : Nat) : Int)) (.bool false) (fun _ => rfl) e40_13 e40_12 (ltN hd2 _ _ _) rfl ?_
      refine w_nil ?_
      refine xn_then ?_
      refine w_seq ?_
      refine w_condF rfl ?_
      refine w_exit ?_
      refine xx_then ?_
      refine xx_then ?_
      refine xx_blk ?_
      refine xn_then ?_
      refine w_seq ?_
      refine w_reg ?_
      refine wl_mv (.tmp 5) (.int .i64 (z)) (fun _ => rfl) e40_5 rfl ?_
      refine wl_mv (.tmp 24) (.int .i64 (z)) (fun _ => rfl) rfl rfl ?_
      refine w_nil ?_
      refine xn_then ?_
      refine w_ret ?_
      exact w_ret1 _ (.int .i64 (z)) rfl rfl ⟨_, rfl, M⟩
end Go.Proofs.Ythghblgbjgghcaa
