/-
  How much there is: some number; whether it is little: yes or no. Whether it is little: yes or no.
-/
import Derived.Test.YthghblgbjgghcaaGna
namespace Go.Proofs.Ythghblgbjgghcaa
open Go.RowKit D
theorem addW {a b : Int} (x y : Operand) (w : World) : (do eqGuard .add 3 x y (.int .i64 a) (.int .i64 b); binOp .add 3 (.int .i64 a) (.int .i64 b)).run Try.prog w = .ok (.int .i64 (IntKind.i64.wrap (a + b))) w := by kernel_rfl
theorem minI (ρ : Operand → Value) (x y : Operand) (a b : Nat) (hx : ρ x = .int .i64 ((a : Nat) : Int)) (hy : ρ y = .int .i64 ((b : Nat) : Int)) (dst : Option Tmp) (type : TypeId) (pos : String) (after : Array Edge) (guard : Option (Nat × Bool)) (w : World) : (execOp ρ { dst, op := .call { callee := .builtin .min, args := #[x, y], argTypes := #[3, 3] }, type, pos, after, guard }).run Try.prog w = .ok (.value (.int .i64 ((min a b : Nat) : Int))) w := by
  rw [show ((min a b : Nat) : Int) = min (a : Int) (b : Int) by omega]
  simp [go_sem, hx, hy]
theorem slh22 (ρ : Operand → Value) (x y : Operand) (p : Option Addr) (n c k : Nat) (hx : ρ x = .slice p n c) (hy : ρ y = .int .i64 (k : Int)) (hk : k ≤ c) (dst : Option Tmp) (type : TypeId) (pos : String) (after : Array Edge) (guard : Option (Nat × Bool)) (w : World) : (execOp ρ { dst, op := .slice 22 x none (some y) none, type, pos, after, guard }).run Try.prog w = .ok (.value (.slice p k c)) w := by
  simp [go_sem, hx, hy, hk]
theorem slh39 (ρ : Operand → Value) (x y : Operand) (p : Option Addr) (n c k : Nat) (hx : ρ x = .slice p n c) (hy : ρ y = .int .i64 (k : Int)) (hk : k ≤ c) (dst : Option Tmp) (type : TypeId) (pos : String) (after : Array Edge) (guard : Option (Nat × Bool)) (w : World) : (execOp ρ { dst, op := .slice 39 x none (some y) none, type, pos, after, guard }).run Try.prog w = .ok (.value (.slice p k c)) w := by
  simp [go_sem, hx, hy, hk]
theorem size_n {w0 : World} : ∀ (d : Nat), d ≤ 60 → ∀ (x : Ex), LEx w0 x → ∀ {w : World}, Kp w0 w → Calls Try.prog 31 #[.agg #[.int .i64 x.k, .int .i64 x.op, .string x.nm, .string x.se, .int .i64 x.v.k, .bool x.v.d.b, .int .u64 x.v.d.n0, .int .u64 x.v.d.n1, .int .u64 x.v.d.n2, .int .u64 x.v.d.n3, .int .i64 x.v.d.s, .bool x.v.f, .string x.v.t, .int .i64 x.v.e, .int .i64 x.sc, .int .i64 x.po, .slice x.pa x.args.length x.cap], .int .i64 ((d : Nat) : Int)] w fun e w' => ∃ z : Int, e = .returned (.int .i64 z) ∧ Mo w w' := by
  intro d
  induction d with
  | zero =>
    intro _ x hL w hK
    refine w_enter 25 Try.func31 Try.ntmps31 rfl rfl ?_
    have M : Mo w w := Mo.refl _
    refine w_seq ?_
    refine w_reg ?_
    refine wl_box 67 (.tmp 0) (.agg #[.int .i64 x.k, .int .i64 x.op, .string x.nm, .string x.se, .int .i64 x.v.k, .bool x.v.d.b, .int .u64 x.v.d.n0, .int .u64 x.v.d.n1, .int .u64 x.v.d.n2, .int .u64 x.v.d.n3, .int .i64 x.v.d.s, .bool x.v.f, .string x.v.t, .int .i64 x.v.e, .int .i64 x.sc, .int .i64 x.po, .slice x.pa x.args.length x.cap]) (#[.int .i64 x.k, .int .i64 x.op, .string x.nm, .string x.se, .int .i64 x.v.k, .bool x.v.d.b, .int .u64 x.v.d.n0, .int .u64 x.v.d.n1, .int .u64 x.v.d.n2, .int .u64 x.v.d.n3, .int .i64 x.v.d.s, .bool x.v.f, .string x.v.t, .int .i64 x.v.e, .int .i64 x.sc, .int .i64 x.po, .slice x.pa x.args.length x.cap]) rfl rfl (fun _ => by kernel_rfl) rfl ?_
    intro k1 u1 hk hz hq Q1
    have N_k1 : w.heap.size ≤ k1 := by have := M.size; omega
    replace M := M.trans hq
    clear hk hz hq
    refine wl_mv (.const (.int .i64 (0))) (.int .i64 (0)) (fun _ => rfl) rfl rfl ?_
    refine w_nil ?_
    refine xn_then ?_
    refine w_seq ?_
    refine w_seq ?_
    refine w_reg ?_
    refine wl_mv (.tmp 1) (.int .i64 (0)) (fun _ => rfl) rfl rfl ?_
    refine wl_bin (fun x y => do eqGuard .eql 3 (.tmp 8) (.const (.int .i64 (0))) x y; binOp .eql 3 x y) (.tmp 8) (.const (.int .i64 (0))) (.int .i64 (0)) (.int .i64 (0)) (.bool true) (fun _ => rfl) rfl rfl (eq3 (r := true) rfl _ _ _) rfl ?_
    refine w_nil ?_
    refine xn_then ?_
    refine w_condT rfl ?_
    refine w_seq ?_
    refine w_reg ?_
    refine wl_mv (.const (.int .i64 (1000))) (.int .i64 (1000)) (fun _ => rfl) rfl rfl ?_
    refine w_nil ?_
    refine xn_then ?_
    refine w_ret ?_
    refine xr_then ?_
    exact w_ret1 _ (.int .i64 (1000)) rfl rfl ⟨_, rfl, M⟩
  | succ d ih =>
    intro hd x hL w hK
    have hz9 := hL.sl.1
    unfold maxLen at hz9
    have hdn : decide (((d + 1 : Nat) : Int) = 0) = false := decide_eq_false (by omega)
    refine w_enter 25 Try.func31 Try.ntmps31 rfl rfl ?_
    have M : Mo w w := Mo.refl _
    refine w_seq ?_
    refine w_reg ?_
    refine wl_box 67 (.tmp 0) (.agg #[.int .i64 x.k, .int .i64 x.op, .string x.nm, .string x.se, .int .i64 x.v.k, .bool x.v.d.b, .int .u64 x.v.d.n0, .int .u64 x.v.d.n1, .int .u64 x.v.d.n2, .int .u64 x.v.d.n3, .int .i64 x.v.d.s, .bool x.v.f, .string x.v.t, .int .i64 x.v.e, .int .i64 x.sc, .int .i64 x.po, .slice x.pa x.args.length x.cap]) (#[.int .i64 x.k, .int .i64 x.op, .string x.nm, .string x.se, .int .i64 x.v.k, .bool x.v.d.b, .int .u64 x.v.d.n0, .int .u64 x.v.d.n1, .int .u64 x.v.d.n2, .int .u64 x.v.d.n3, .int .i64 x.v.d.s, .bool x.v.f, .string x.v.t, .int .i64 x.v.e, .int .i64 x.sc, .int .i64 x.po, .slice x.pa x.args.length x.cap]) rfl rfl (fun _ => by kernel_rfl) rfl ?_
    intro k1 u1 hk hz hq Q1
    have N_k1 : w.heap.size ≤ k1 := by have := M.size; omega
    replace M := M.trans hq
    clear hk hz hq
    refine wl_mv (.const (.int .i64 (0))) (.int .i64 (0)) (fun _ => rfl) rfl rfl ?_
    refine w_nil ?_
    refine xn_then ?_
    refine w_seq ?_
    refine w_seq ?_
    refine w_reg ?_
    refine wl_mv (.tmp 1) (.int .i64 ((d + 1 : Nat) : Int)) (fun _ => rfl) rfl rfl ?_
    refine wl_bin (fun x y => do eqGuard .eql 3 (.tmp 8) (.const (.int .i64 (0))) x y; binOp .eql 3 x y) (.tmp 8) (.const (.int .i64 (0))) (.int .i64 ((d + 1 : Nat) : Int)) (.int .i64 (0)) (.bool false) (fun _ => rfl) rfl rfl (eq3 hdn _ _ _) rfl ?_
    refine w_nil ?_
    refine xn_then ?_
    refine w_condF rfl ?_
    refine w_skip ?_
    refine xn_then ?_
    refine w_seq ?_
    refine w_reg ?_
    refine wl_mv (.const (.int .i64 (1))) (.int .i64 (1)) (fun _ => rfl) rfl rfl ?_
    refine w_nil ?_
    refine xn_then ?_
    refine w_seq ?_
    refine w_seq ?_
    refine w_reg ?_
    refine wl_un (fun v => Instr.fieldAt 67 v 7) (.tmp 2) (pt k1 0) (pt k1 16) (fun _ => rfl) rfl (by kernel_rfl) rfl ?_
    refine wl_load 65 (.tmp 10) (pt k1 16) (.slice x.pa x.args.length x.cap) rfl rfl (run_one Q1 65 16 rfl Try.underlying65 rfl) rfl ?_
    refine wl_val (.int .i64 ((x.args.length : Nat) : Int)) (len65 _ _ _ _ _ (by exact rfl) _ _ _ _ _ _) rfl ?_
    refine wl_mv (.const (.int .i64 (0))) (.int .i64 (0)) (fun _ => rfl) rfl rfl ?_
    refine w_nil ?_
    refine xn_then ?_
    refine w_block ?_
    refine w_loop (fun m lf w1 => ∃ i : Nat, ∃ z : Int, m = x.args.length - i ∧ look lf 1 = .int .i64 ((d + 1 : Nat) : Int) ∧ look lf 5 = .int .i64 (z) ∧ look lf 11 = .slice x.pa x.args.length x.cap ∧ look lf 12 = .int .i64 ((x.args.length : Nat) : Int) ∧ look lf 13 = .int .i64 ((i : Nat) : Int) ∧ (i ≤ x.args.length) ∧ (Mo w w1)) _ ⟨0, 1, rfl, rfl, rfl, rfl, rfl, rfl, Nat.zero_le _, M⟩ ?_
    clear M
    rintro m lf40 wl40 ⟨i, z, rfl, e40_1, e40_5, e40_11, e40_12, e40_13, hi, M⟩
    cases hd2 : decide (i < x.args.length) with
    | true =>
      have hil := of_decide_eq_true hd2
      obtain ⟨a, ha⟩ := get_of_lt hil
      have hma := List.mem_of_getElem? ha
      obtain ⟨ba, oa, hpa, hRa⟩ := D.SL.rw hL.sl ha
      have hRaw := hRa.kp hK
      refine w_seq ?_
      refine w_reg ?_
      refine wl_bin (fun x y => do eqGuard .lss 3 (.tmp 13) (.tmp 12) x y; binOp .lss 3 x y) (.tmp 13) (.tmp 12) (.int .i64 ((i : Nat) : Int)) (.int .i64 ((x.args.length : Nat) : Int)) (.bool true) (fun _ => rfl) e40_13 e40_12 (ltN hd2 _ _ _) rfl ?_
      refine w_nil ?_
      refine xn_then ?_
      refine w_seq ?_
      refine w_condT rfl ?_
      refine w_skip ?_
      refine xn_then ?_
      refine w_seq ?_
      refine w_block ?_
      refine w_seq ?_
      refine w_reg ?_
      refine wl_bin (fun x y => Instr.indexAt 65 x y) (.tmp 11) (.tmp 13) (.slice x.pa x.args.length x.cap) (.int .i64 ((i : Nat) : Int)) (pt ba (oa + i * 17)) (fun _ => rfl) e40_11 e40_13 (ix65 (i := i) hpa hil _) rfl ?_
      refine wl_load 67 (.tmp 15) (pt ba (oa + i * 17)) (.agg (a.cells).toArray) rfl rfl (D.run_partR (hRaw.mo M).at' 67 0 17 (a.cells) rfl Try.underlying67 rfl sz67) rfl ?_
      refine wl_alloc 67 #[.int .i64 0, .int .i64 0, .string ⟨#[]⟩, .string ⟨#[]⟩, .int .i64 0, .bool false, .int .u64 0, .int .u64 0, .int .u64 0, .int .u64 0, .int .i64 0, .bool false, .string ⟨#[]⟩, .int .i64 0, .int .i64 0, .int .i64 0, .slice none 0 0] rfl (fun _ => by kernel_rfl) rfl ?_
      intro k2 u41 hk hz hq Q2
      have N_k2 : w.heap.size ≤ k2 := by have := M.size; omega
      replace M := M.trans hq
      clear hk hz hq
      refine wl_st 67 (.tmp 7) (.tmp 16) k2 0 ((a.cells).toArray) [.int .i64 0, .int .i64 0, .string ⟨#[]⟩, .string ⟨#[]⟩, .int .i64 0, .bool false, .int .u64 0, .int .u64 0, .int .u64 0, .int .u64 0, .int .i64 0, .bool false, .string ⟨#[]⟩, .int .i64 0, .int .i64 0, .int .i64 0, .slice none 0 0] (a.cells) Q2 rfl rfl rfl rfl rfl sz67 rfl rfl rfl ?_
      intro u42 hS Qn
      replace Q2 := Qn
      clear Qn
      replace M := hS.mo _ N_k2 M
      clear hS
      refine w_nil ?_
      refine xn_then ?_
      refine w_reg ?_
      refine wl_mv (.tmp 5) (.int .i64 (z)) (fun _ => rfl) e40_5 rfl ?_
      refine wl_load 67 (.tmp 7) (pt k2 0) (.agg (a.cells).toArray) rfl rfl (run_row Q2 67 0 17 (a.cells) rfl Try.underlying67 rfl sz67) rfl ?_
      refine wl_mv (.tmp 1) (.int .i64 ((d + 1 : Nat) : Int)) (fun _ => rfl) e40_1 rfl ?_
      refine wl_bin (fun x y => do eqGuard .sub 3 (.tmp 19) (.const (.int .i64 (1))) x y; binOp .sub 3 x y) (.tmp 19) (.const (.int .i64 (1))) (.int .i64 ((d + 1 : Nat) : Int)) (.int .i64 (1)) (.int .i64 (((d + 1 : Nat) : Int) - 1)) (fun _ => rfl) rfl rfl (subZ (a := ((d + 1 : Nat) : Int)) (b := 1) (by omega) (by omega) _ _ _) rfl ?_
      refine wl_callx 31 [(.tmp 18), (.tmp 20)] _ [.agg (a.cells).toArray, .int .i64 (((d + 1 : Nat) : Int) - 1)] rfl rfl (fun _ _ => by kernel_rfl) ((by have h := ih (by omega) a (hL.ar a hma) (hK.trans M.kp); rw [show ((d : Nat) : Int) = ((d + 1 : Nat) : Int) - 1 by omega] at h; exact h)) rfl ?_
      rintro e9 u43 ⟨zr, rfl, hq⟩
      refine ⟨_, rfl, ?_⟩
      replace Q2 := Q2.mo hq
      replace M := M.trans hq
      clear hq
      refine wl_bin (fun x y => do eqGuard .add 3 (.tmp 17) (.tmp 21) x y; binOp .add 3 x y) (.tmp 17) (.tmp 21) (.int .i64 (z)) (.int .i64 (zr)) (.int .i64 (IntKind.i64.wrap (z + zr))) (fun _ => rfl) rfl rfl (addW (a := z) (b := zr) _ _ _) rfl ?_
      refine wl_mv (.tmp 22) (.int .i64 (IntKind.i64.wrap (z + zr))) (fun _ => rfl) rfl rfl ?_
      refine w_nil ?_
      refine xn_blk ?_
      refine xn_then ?_
      refine w_reg ?_
      refine wl_bin (fun x y => do eqGuard .add 3 (.tmp 13) (.const (.int .i64 (1))) x y; binOp .add 3 x y) (.tmp 13) (.const (.int .i64 (1))) (.int .i64 ((i : Nat) : Int)) (.int .i64 (1)) (.int .i64 ((i + 1 : Nat) : Int)) (fun _ => rfl) e40_13 rfl (add1r (k := i) (by omega) _ _ _) rfl ?_
      refine wl_mv (.tmp 23) (.int .i64 ((i + 1 : Nat) : Int)) (fun _ => rfl) rfl rfl ?_
      refine w_nil ?_
      exact xn_loop (x.args.length - (i + 1)) (by omega) ⟨i + 1, _, rfl, e40_1, rfl, e40_11, e40_12, rfl, by omega, M⟩
    | false =>
      refine w_seq ?_
      refine w_reg ?_
      refine wl_bin (fun x y => do eqGuard .lss 3 (.tmp 13) (.tmp 12) x y; binOp .lss 3 x y) (.tmp 13) (.tmp 12) (.int .i64 ((i : Nat) : Int)) (.int .i64 ((x.args.length : Nat) : Int)) (.bool false) (fun _ => rfl) e40_13 e40_12 (ltN hd2 _ _ _) rfl ?_
      refine w_nil ?_
      refine xn_then ?_
      refine w_seq ?_
      refine w_condF rfl ?_
      refine w_exit ?_
      refine xx_then ?_
      refine xx_then ?_
      refine xx_blk ?_
      refine xn_then ?_
      refine w_seq ?_
      refine w_reg ?_
      refine wl_mv (.tmp 5) (.int .i64 (z)) (fun _ => rfl) e40_5 rfl ?_
      refine wl_mv (.tmp 24) (.int .i64 (z)) (fun _ => rfl) rfl rfl ?_
      refine w_nil ?_
      refine xn_then ?_
      refine w_ret ?_
      exact w_ret1 _ (.int .i64 (z)) rfl rfl ⟨_, rfl, M⟩
end Go.Proofs.Ythghblgbjgghcaa
namespace Go.Proofs.Ythghblgbjgghcaa
open Go.RowKit D
theorem small_n {w : World} {l : List S5} {pl : Option Addr} {cl : Nat} (hL : SL w 5 S5.cells pl l) (hLx : ∀ x ∈ l, LS5 w x) (hcl : l.length ≤ cl) (hci : ∀ x ∈ l, x.items.length ≤ x.ci) : Calls Try.prog 8 #[.slice pl l.length cl] w fun e w' => ∃ b : Bool, e = .returned (.bool b) ∧ Mo w w' := by
  refine w_enter 49 Try.func8 Try.ntmps8 rfl rfl ?_
  have M : Mo w w := Mo.refl _
  refine w_seq ?_
  refine w_reg ?_
  refine wl_mv (.const (.bool false)) (.bool false) (fun _ => rfl) rfl rfl ?_
  refine w_nil ?_
  refine xn_then ?_
  refine w_seq ?_
  refine w_reg ?_
  refine wl_mv (.const (.int .i64 (0))) (.int .i64 (0)) (fun _ => rfl) rfl rfl ?_
  refine w_nil ?_
  refine xn_then ?_
  refine w_seq ?_
  refine w_seq ?_
  refine w_reg ?_
  refine wl_mv (.tmp 0) (.slice pl l.length cl) (fun _ => rfl) rfl rfl ?_
  refine wl_mv (.tmp 0) (.slice pl l.length cl) (fun _ => rfl) rfl rfl ?_
  refine wl_val (.int .i64 ((l.length : Nat) : Int)) (len22 _ _ _ _ _ (by exact rfl) _ _ _ _ _ _) rfl ?_
  refine wl_val (.int .i64 ((min (l.length) (70) : Nat) : Int)) (minI _ _ _ (l.length) (70) (by exact rfl) (by exact rfl) _ _ _ _ _ _) rfl ?_
  refine wl_val (.slice pl (min (l.length) (70)) cl) (slh22 _ _ _ pl l.length cl (min (l.length) (70)) (by exact rfl) (by exact rfl) (by omega) _ _ _ _ _ _) rfl ?_
  refine wl_val (.int .i64 (((min (l.length) (70)) : Nat) : Int)) (len22 _ _ _ _ _ (by exact rfl) _ _ _ _ _ _) rfl ?_
  refine wl_mv (.const (.int .i64 (0))) (.int .i64 (0)) (fun _ => rfl) rfl rfl ?_
  refine w_nil ?_
  refine xn_then ?_
  refine w_block ?_
  refine w_loop (fun m lf w1 => ∃ i : Nat, ∃ z : Int, m = min (l.length) (70) - i ∧ look lf 0 = .slice pl l.length cl ∧ look lf 3 = .int .i64 (z) ∧ look lf 12 = .slice pl (min (l.length) (70)) cl ∧ look lf 13 = .int .i64 (((min (l.length) (70)) : Nat) : Int) ∧ look lf 14 = .int .i64 ((i : Nat) : Int) ∧ (i ≤ min (l.length) (70)) ∧ (Mo w w1)) _ ⟨0, 0, rfl, rfl, rfl, rfl, rfl, rfl, Nat.zero_le _, M⟩ ?_
  clear M
  rintro m lf40 wl40 ⟨i, z, rfl, e40_0, e40_3, e40_12, e40_13, e40_14, hi, M⟩
  cases hd : decide (i < (min (l.length) (70))) with
  | true =>
    have hil := of_decide_eq_true hd
    obtain ⟨x, hx⟩ := get_of_lt (show i < l.length by omega)
    have hxm := List.mem_of_getElem? hx
    have hcx := hci x hxm
    have hLi := (hLx x hxm).it
    obtain ⟨bp, op, hpp, hRp⟩ := D.SL.rw hL hx
    refine w_seq ?_
    refine w_reg ?_
    refine wl_bin (fun x y => do eqGuard .lss 3 (.tmp 14) (.tmp 13) x y; binOp .lss 3 x y) (.tmp 14) (.tmp 13) (.int .i64 ((i : Nat) : Int)) (.int .i64 (((min (l.length) (70)) : Nat) : Int)) (.bool true) (fun _ => rfl) e40_14 e40_13 (ltN hd _ _ _) rfl ?_
    refine w_nil ?_
    refine xn_then ?_
    refine w_seq ?_
    refine w_condT rfl ?_
    refine w_skip ?_
    refine xn_then ?_
    refine w_seq ?_
    refine w_block ?_
    refine w_seq ?_
    refine w_reg ?_
    refine wl_bin (fun x y => Instr.indexAt 22 x y) (.tmp 12) (.tmp 14) (.slice pl (min (l.length) (70)) cl) (.int .i64 ((i : Nat) : Int)) (pt bp (op + i * 5)) (fun _ => rfl) e40_12 e40_14 (ix22 (i := i) hpp hil _) rfl ?_
    refine wl_load 55 (.tmp 16) (pt bp (op + i * 5)) (.agg (x.cells).toArray) rfl rfl (D.run_partR (hRp.mo M).at' 55 0 5 (x.cells) rfl Try.underlying55 rfl sz55) rfl ?_
    refine wl_alloc 55 #[.int .i64 0, .int .i64 0, .string ⟨#[]⟩, .int .i64 0, .slice none 0 0] rfl (fun _ => by kernel_rfl) rfl ?_
    intro k1 u41 hk hz hq Q1
    have N_k1 : w.heap.size ≤ k1 := by have := M.size; omega
    replace M := M.trans hq
    clear hk hz hq
    refine wl_st 55 (.tmp 5) (.tmp 17) k1 0 ((x.cells).toArray) [.int .i64 0, .int .i64 0, .string ⟨#[]⟩, .int .i64 0, .slice none 0 0] (x.cells) Q1 rfl rfl rfl rfl rfl sz55 rfl rfl rfl ?_
    intro u42 hS Qn
    replace Q1 := Qn
    clear Qn
    replace M := hS.mo _ N_k1 M
    clear hS
    refine w_nil ?_
    refine xn_then ?_
    refine w_seq ?_
    refine w_reg ?_
    refine wl_mv (.tmp 3) (.int .i64 (z)) (fun _ => rfl) e40_3 rfl ?_
    refine wl_un (fun v => Instr.fieldAt 55 v 4) (.tmp 5) (pt k1 0) (pt k1 4) (fun _ => rfl) rfl (by kernel_rfl) rfl ?_
    refine wl_load 39 (.tmp 19) (pt k1 4) (.slice x.pi x.items.length x.ci) rfl rfl (run_one Q1 39 4 rfl Try.underlying39 rfl) rfl ?_
    refine wl_val (.int .i64 ((x.items.length : Nat) : Int)) (len39 _ _ _ _ _ (by exact rfl) _ _ _ _ _ _) rfl ?_
    refine wl_bin (fun x y => do eqGuard .add 3 (.tmp 18) (.tmp 21) x y; binOp .add 3 x y) (.tmp 18) (.tmp 21) (.int .i64 (z)) (.int .i64 ((x.items.length : Nat) : Int)) (.int .i64 (IntKind.i64.wrap (z + ((x.items.length : Nat) : Int)))) (fun _ => rfl) rfl rfl (addW (a := z) (b := ((x.items.length : Nat) : Int)) _ _ _) rfl ?_
    refine wl_mv (.tmp 22) (.int .i64 (IntKind.i64.wrap (z + ((x.items.length : Nat) : Int)))) (fun _ => rfl) rfl rfl ?_
    refine w_nil ?_
    refine xn_then ?_
    refine w_seq ?_
    refine w_reg ?_
    refine wl_un (fun v => Instr.fieldAt 55 v 4) (.tmp 5) (pt k1 0) (pt k1 4) (fun _ => rfl) rfl (by kernel_rfl) rfl ?_
    refine wl_load 39 (.tmp 23) (pt k1 4) (.slice x.pi x.items.length x.ci) rfl rfl (run_one Q1 39 4 rfl Try.underlying39 rfl) rfl ?_
    refine wl_un (fun v => Instr.fieldAt 55 v 4) (.tmp 5) (pt k1 0) (pt k1 4) (fun _ => rfl) rfl (by kernel_rfl) rfl ?_
    refine wl_load 39 (.tmp 25) (pt k1 4) (.slice x.pi x.items.length x.ci) rfl rfl (run_one Q1 39 4 rfl Try.underlying39 rfl) rfl ?_
    refine wl_val (.int .i64 ((x.items.length : Nat) : Int)) (len39 _ _ _ _ _ (by exact rfl) _ _ _ _ _ _) rfl ?_
    refine wl_val (.int .i64 ((min (x.items.length) (400) : Nat) : Int)) (minI _ _ _ (x.items.length) (400) (by exact rfl) (by exact rfl) _ _ _ _ _ _) rfl ?_
    refine wl_val (.slice x.pi (min (x.items.length) (400)) x.ci) (slh39 _ _ _ x.pi x.items.length x.ci (min (x.items.length) (400)) (by exact rfl) (by exact rfl) (by omega) _ _ _ _ _ _) rfl ?_
    refine wl_val (.int .i64 (((min (x.items.length) (400)) : Nat) : Int)) (len39 _ _ _ _ _ (by exact rfl) _ _ _ _ _ _) rfl ?_
    refine wl_mv (.const (.int .i64 (0))) (.int .i64 (0)) (fun _ => rfl) rfl rfl ?_
    refine w_nil ?_
    refine xn_then ?_
    refine w_block ?_
    refine w_loop (fun m lf w1 => ∃ j : Nat, ∃ z2 : Int, m = min (x.items.length) (400) - j ∧ look lf 0 = .slice pl l.length cl ∧ look lf 3 = .int .i64 (z2) ∧ look lf 12 = .slice pl (min (l.length) (70)) cl ∧ look lf 13 = .int .i64 (((min (l.length) (70)) : Nat) : Int) ∧ look lf 14 = .int .i64 ((i : Nat) : Int) ∧ look lf 29 = .slice x.pi (min (x.items.length) (400)) x.ci ∧ look lf 30 = .int .i64 (((min (x.items.length) (400)) : Nat) : Int) ∧ look lf 31 = .int .i64 ((j : Nat) : Int) ∧ (j ≤ min (x.items.length) (400)) ∧ (Mo w w1)) _ ⟨0, _, rfl, e40_0, rfl, e40_12, e40_13, e40_14, rfl, rfl, rfl, Nat.zero_le _, M⟩ ?_
    clear M
    rintro m lf70 wl70 ⟨j, z2, rfl, e70_0, e70_3, e70_12, e70_13, e70_14, e70_29, e70_30, e70_31, hj, M⟩
    cases hd2 : decide (j < (min (x.items.length) (400))) with
    | true =>
      have hjl := of_decide_eq_true hd2
      obtain ⟨y, hy⟩ := get_of_lt (show j < x.items.length by omega)
      have hLe := (hLx x hxm).ex y (List.mem_of_getElem? hy)
      obtain ⟨bq, oq, hpq, hRq⟩ := D.SL.rw hLi hy
      refine w_seq ?_
      refine w_reg ?_
      refine wl_bin (fun x y => do eqGuard .lss 3 (.tmp 31) (.tmp 30) x y; binOp .lss 3 x y) (.tmp 31) (.tmp 30) (.int .i64 ((j : Nat) : Int)) (.int .i64 (((min (x.items.length) (400)) : Nat) : Int)) (.bool true) (fun _ => rfl) e70_31 e70_30 (ltN hd2 _ _ _) rfl ?_
      refine w_nil ?_
      refine xn_then ?_
      refine w_seq ?_
      refine w_condT rfl ?_
      refine w_skip ?_
      refine xn_then ?_
      refine w_seq ?_
      refine w_block ?_
      refine w_seq ?_
      refine w_reg ?_
      refine wl_bin (fun x y => Instr.indexAt 39 x y) (.tmp 29) (.tmp 31) (.slice x.pi (min (x.items.length) (400)) x.ci) (.int .i64 ((j : Nat) : Int)) (pt bq (oq + j * 23)) (fun _ => rfl) e70_29 e70_31 (ix39 (i := j) hpq hjl _) rfl ?_
      refine wl_load 69 (.tmp 33) (pt bq (oq + j * 23)) (.agg (y.cells).toArray) rfl rfl (D.run_partR (hRq.mo M).at' 69 0 23 (y.cells) rfl Try.underlying69 rfl sz69) rfl ?_
      refine wl_alloc 69 #[.string ⟨#[]⟩, .int .i64 0, .int .i64 0, .int .i64 0, .bool false, .int .i64 0, .int .i64 0, .int .i64 0, .string ⟨#[]⟩, .string ⟨#[]⟩, .int .i64 0, .bool false, .int .u64 0, .int .u64 0, .int .u64 0, .int .u64 0, .int .i64 0, .bool false, .string ⟨#[]⟩, .int .i64 0, .int .i64 0, .int .i64 0, .slice none 0 0] rfl (fun _ => by kernel_rfl) rfl ?_
      intro k2 u71 hk hz hq Q2
      have N_k2 : w.heap.size ≤ k2 := by have := M.size; omega
      replace M := M.trans hq
      clear hk hz hq
      refine wl_st 69 (.tmp 7) (.tmp 34) k2 0 ((y.cells).toArray) [.string ⟨#[]⟩, .int .i64 0, .int .i64 0, .int .i64 0, .bool false, .int .i64 0, .int .i64 0, .int .i64 0, .string ⟨#[]⟩, .string ⟨#[]⟩, .int .i64 0, .bool false, .int .u64 0, .int .u64 0, .int .u64 0, .int .u64 0, .int .i64 0, .bool false, .string ⟨#[]⟩, .int .i64 0, .int .i64 0, .int .i64 0, .slice none 0 0] (y.cells) Q2 rfl rfl rfl rfl rfl sz69 rfl rfl rfl ?_
      intro u72 hS Qn
      replace Q2 := Qn
      clear Qn
      replace M := hS.mo _ N_k2 M
      clear hS
      refine w_nil ?_
      refine xn_then ?_
      refine w_reg ?_
      refine wl_mv (.tmp 3) (.int .i64 (z2)) (fun _ => rfl) e70_3 rfl ?_
      refine wl_un (fun v => Instr.fieldAt 69 v 5) (.tmp 7) (pt k2 0) (pt k2 6) (fun _ => rfl) rfl (by kernel_rfl) rfl ?_
      refine wl_load 67 (.tmp 36) (pt k2 6) (.agg #[.int .i64 y.ex.k, .int .i64 y.ex.op, .string y.ex.nm, .string y.ex.se, .int .i64 y.ex.v.k, .bool y.ex.v.d.b, .int .u64 y.ex.v.d.n0, .int .u64 y.ex.v.d.n1, .int .u64 y.ex.v.d.n2, .int .u64 y.ex.v.d.n3, .int .i64 y.ex.v.d.s, .bool y.ex.v.f, .string y.ex.v.t, .int .i64 y.ex.v.e, .int .i64 y.ex.sc, .int .i64 y.ex.po, .slice y.ex.pa y.ex.args.length y.ex.cap]) rfl rfl (run_row Q2 67 6 17 [.int .i64 y.ex.k, .int .i64 y.ex.op, .string y.ex.nm, .string y.ex.se, .int .i64 y.ex.v.k, .bool y.ex.v.d.b, .int .u64 y.ex.v.d.n0, .int .u64 y.ex.v.d.n1, .int .u64 y.ex.v.d.n2, .int .u64 y.ex.v.d.n3, .int .i64 y.ex.v.d.s, .bool y.ex.v.f, .string y.ex.v.t, .int .i64 y.ex.v.e, .int .i64 y.ex.sc, .int .i64 y.ex.po, .slice y.ex.pa y.ex.args.length y.ex.cap] rfl Try.underlying67 rfl sz67) rfl ?_
      refine wl_callx 31 [(.tmp 37), (.const (.int .i64 (60)))] _ [.agg #[.int .i64 y.ex.k, .int .i64 y.ex.op, .string y.ex.nm, .string y.ex.se, .int .i64 y.ex.v.k, .bool y.ex.v.d.b, .int .u64 y.ex.v.d.n0, .int .u64 y.ex.v.d.n1, .int .u64 y.ex.v.d.n2, .int .u64 y.ex.v.d.n3, .int .i64 y.ex.v.d.s, .bool y.ex.v.f, .string y.ex.v.t, .int .i64 y.ex.v.e, .int .i64 y.ex.sc, .int .i64 y.ex.po, .slice y.ex.pa y.ex.args.length y.ex.cap], .int .i64 (60)] rfl rfl (fun _ _ => by kernel_rfl) (size_n 60 (Nat.le_refl _) y.ex hLe M.kp) rfl ?_
      rintro e9 u73 ⟨zr, rfl, hq⟩
      refine ⟨_, rfl, ?_⟩
      replace Q2 := Q2.mo hq
      replace M := M.trans hq
      clear hq
      refine wl_bin (fun x y => do eqGuard .add 3 (.tmp 35) (.tmp 38) x y; binOp .add 3 x y) (.tmp 35) (.tmp 38) (.int .i64 (z2)) (.int .i64 (zr)) (.int .i64 (IntKind.i64.wrap (z2 + zr))) (fun _ => rfl) rfl rfl (addW (a := z2) (b := zr) _ _ _) rfl ?_
      refine wl_mv (.tmp 39) (.int .i64 (IntKind.i64.wrap (z2 + zr))) (fun _ => rfl) rfl rfl ?_
      refine w_nil ?_
      refine xn_blk ?_
      refine xn_then ?_
      refine w_reg ?_
      refine wl_bin (fun x y => do eqGuard .add 3 (.tmp 31) (.const (.int .i64 (1))) x y; binOp .add 3 x y) (.tmp 31) (.const (.int .i64 (1))) (.int .i64 ((j : Nat) : Int)) (.int .i64 (1)) (.int .i64 ((j + 1 : Nat) : Int)) (fun _ => rfl) e70_31 rfl (add1r (k := j) (by omega) _ _ _) rfl ?_
      refine wl_mv (.tmp 40) (.int .i64 ((j + 1 : Nat) : Int)) (fun _ => rfl) rfl rfl ?_
      refine w_nil ?_
      exact xn_loop (min (x.items.length) (400) - (j + 1)) (by omega) ⟨j + 1, _, rfl, e70_0, rfl, e70_12, e70_13, e70_14, e70_29, e70_30, rfl, by omega, M⟩
    | false =>
      refine w_seq ?_
      refine w_reg ?_
      refine wl_bin (fun x y => do eqGuard .lss 3 (.tmp 31) (.tmp 30) x y; binOp .lss 3 x y) (.tmp 31) (.tmp 30) (.int .i64 ((j : Nat) : Int)) (.int .i64 (((min (x.items.length) (400)) : Nat) : Int)) (.bool false) (fun _ => rfl) e70_31 e70_30 (ltN hd2 _ _ _) rfl ?_
      refine w_nil ?_
      refine xn_then ?_
      refine w_seq ?_
      refine w_condF rfl ?_
      refine w_exit ?_
      refine xx_then ?_
      refine xx_then ?_
      refine xx_blk ?_
      refine xn_blk ?_
      refine xn_then ?_
      refine w_reg ?_
      refine wl_bin (fun x y => do eqGuard .add 3 (.tmp 14) (.const (.int .i64 (1))) x y; binOp .add 3 x y) (.tmp 14) (.const (.int .i64 (1))) (.int .i64 ((i : Nat) : Int)) (.int .i64 (1)) (.int .i64 ((i + 1 : Nat) : Int)) (fun _ => rfl) e70_14 rfl (add1r (k := i) (by omega) _ _ _) rfl ?_
      refine wl_mv (.tmp 41) (.int .i64 ((i + 1 : Nat) : Int)) (fun _ => rfl) rfl rfl ?_
      refine w_nil ?_
      exact xn_loop (min (l.length) (70) - (i + 1)) (by omega) ⟨i + 1, _, rfl, e70_0, e70_3, e70_12, e70_13, rfl, by omega, M⟩
  | false =>
    refine w_seq ?_
    refine w_reg ?_
    refine wl_bin (fun x y => do eqGuard .lss 3 (.tmp 14) (.tmp 13) x y; binOp .lss 3 x y) (.tmp 14) (.tmp 13) (.int .i64 ((i : Nat) : Int)) (.int .i64 (((min (l.length) (70)) : Nat) : Int)) (.bool false) (fun _ => rfl) e40_14 e40_13 (ltN hd _ _ _) rfl ?_
    refine w_nil ?_
    refine xn_then ?_
    refine w_seq ?_
    refine w_condF rfl ?_
    refine w_exit ?_
    refine xx_then ?_
    refine xx_then ?_
    refine xx_blk ?_
    refine xn_then ?_
    refine w_seq ?_
    refine w_reg ?_
    refine wl_mv (.tmp 0) (.slice pl l.length cl) (fun _ => rfl) e40_0 rfl ?_
    refine wl_val (.int .i64 ((l.length : Nat) : Int)) (len22 _ _ _ _ _ (by exact rfl) _ _ _ _ _ _) rfl ?_
    cases hf30 : decide (((l.length : Nat) : Int) ≤ 64) with
    | true =>
      have hf30p := of_decide_eq_true hf30
      refine wl_bin (fun x y => do eqGuard .leq 3 (.tmp 43) (.const (.int .i64 (64))) x y; binOp .leq 3 x y) (.tmp 43) (.const (.int .i64 (64))) (.int .i64 ((l.length : Nat) : Int)) (.int .i64 (64)) (.bool true) (fun _ => rfl) rfl rfl (le3 hf30 _ _ _) rfl ?_
      refine wl_mv (.tmp 44) (.bool true) (fun _ => rfl) rfl rfl ?_
      refine wl_mv (.tmp 3) (.int .i64 (z)) (fun _ => rfl) e40_3 rfl ?_
      cases hf31 : decide (z ≤ 600) with
      | true =>
        have hf31p := of_decide_eq_true hf31
        refine wl_bin (fun x y => do eqGuard .leq 3 (.tmp 46) (.const (.int .i64 (600))) x y; binOp .leq 3 x y) (.tmp 46) (.const (.int .i64 (600))) (.int .i64 (z)) (.int .i64 (600)) (.bool true) (fun _ => rfl) rfl rfl (le3 hf31 _ _ _) rfl ?_
        refine wl_pick (.tmp 45) (.tmp 47) (.const (.bool false)) true (.bool true) (fun _ => rfl) rfl rfl rfl ?_
        refine wl_mv (.tmp 48) (.bool true) (fun _ => rfl) rfl rfl ?_
        refine w_nil ?_
        refine xn_then ?_
        refine w_ret ?_
        exact w_ret1 _ (.bool true) rfl rfl ⟨_, rfl, M⟩
      | false =>
        have hf31p := of_decide_eq_false hf31
        refine wl_bin (fun x y => do eqGuard .leq 3 (.tmp 46) (.const (.int .i64 (600))) x y; binOp .leq 3 x y) (.tmp 46) (.const (.int .i64 (600))) (.int .i64 (z)) (.int .i64 (600)) (.bool false) (fun _ => rfl) rfl rfl (le3 hf31 _ _ _) rfl ?_
        refine wl_pick (.tmp 45) (.tmp 47) (.const (.bool false)) true (.bool false) (fun _ => rfl) rfl rfl rfl ?_
        refine wl_mv (.tmp 48) (.bool false) (fun _ => rfl) rfl rfl ?_
        refine w_nil ?_
        refine xn_then ?_
        refine w_ret ?_
        exact w_ret1 _ (.bool false) rfl rfl ⟨_, rfl, M⟩
    | false =>
      have hf30p := of_decide_eq_false hf30
      refine wl_bin (fun x y => do eqGuard .leq 3 (.tmp 43) (.const (.int .i64 (64))) x y; binOp .leq 3 x y) (.tmp 43) (.const (.int .i64 (64))) (.int .i64 ((l.length : Nat) : Int)) (.int .i64 (64)) (.bool false) (fun _ => rfl) rfl rfl (le3 hf30 _ _ _) rfl ?_
      refine wl_mv (.tmp 44) (.bool false) (fun _ => rfl) rfl rfl ?_
      refine wl_skip rfl ?_
      refine wl_skip rfl ?_
      refine wl_pick (.tmp 45) (.tmp 47) (.const (.bool false)) false (.bool false) (fun _ => rfl) rfl rfl rfl ?_
      refine wl_mv (.tmp 48) (.bool false) (fun _ => rfl) rfl rfl ?_
      refine w_nil ?_
      refine xn_then ?_
      refine w_ret ?_
      exact w_ret1 _ (.bool false) rfl rfl ⟨_, rfl, M⟩
end Go.Proofs.Ythghblgbjgghcaa
