/-
  ScopeChecks.
-/
import Derived.Test.YtbanldffohopiaaR9
import Derived.Laws.StructEq
namespace Go.Proofs.Ytbanldffohopiaa
open Go.RowKit D
/-- How many nodes an expression has, as the law counts them. -/
def szE : Ex → Int
  | .mk _ _ _ _ _ _ _ _ _ args => args.foldl (fun n a => IntKind.i64.wrap (n + szE a)) 1
theorem szE_eq : ∀ x : Ex, szE x = x.args.foldl (fun n a => IntKind.i64.wrap (n + szE a)) 1
  | .mk k op nm se v sc po pa cap args => by
    rw [szE]
theorem fold_s {α : Type} {f : Int → α → Int} {b : Int} {l : List α} {i : Nat} {x : α} (h : l[i]? = some x) : (l.take (i + 1)).foldl f b = f ((l.take i).foldl f b) x := by rw [List.take_add_one, h, List.foldl_append]; rfl
theorem max_i (ρ : Operand → Value) (x y : Operand) (a b : Int) (hx : ρ x = .int .i64 a) (hy : ρ y = .int .i64 b) (dst : Option Tmp) (type : TypeId) (pos : String) (after : Array Edge) (guard : Option (Nat × Bool)) (w : World) : (execOp ρ { dst, op := .call { callee := .builtin .max, args := #[x, y], argTypes := #[3, 3] }, type, pos, after, guard }).run Try.prog w = .ok (.value (.int .i64 (max a b))) w := by
  simp [go_sem, hx, hy, Builtin.max_, Builtin.max2]
  split <;> omega
theorem addw (a b : Int) (x y : Operand) (w : World) : (do eqGuard .add 3 x y (.int .i64 a) (.int .i64 b); binOp .add 3 (.int .i64 a) (.int .i64 b)).run Try.prog w = .ok (.int .i64 (IntKind.i64.wrap (a + b))) w := by kernel_rfl
theorem size_n : ∀ (x : Ex) {w : World}, LEx w x → Calls Try.prog 47 #[.agg (x.cells).toArray] w fun e w' => e = .returned (.int .i64 (szE x)) ∧ Mo w w' := by
  refine Ex.ind2 ?_
  intro x ih w hL
  refine w_enter 19 Try.func47 Try.ntmps47 rfl rfl ?_
  have M : Mo w w := Mo.refl _
  refine w_seq ?_
  refine w_reg ?_
  refine wl_box 64 (.tmp 0) (.agg (x.cells).toArray) (((x.cells).toArray)) rfl rfl (fun _ => by kernel_rfl) rfl ?_
  intro k1 u1 hk hz hq Q1
  have N_k1 : w.heap.size ≤ k1 := by have := M.size; omega
  replace M := M.trans hq
  clear hk hz hq
  refine wl_mv (.const (.int .i64 (0))) (.int .i64 (0)) (fun _ => rfl) rfl rfl ?_
  refine w_nil ?_
  refine xn_then ?_
  refine w_seq ?_
  refine w_reg ?_
  refine wl_mv (.const (.int .i64 (1))) (.int .i64 (1)) (fun _ => rfl) rfl rfl ?_
  refine w_nil ?_
  refine xn_then ?_
  refine w_seq ?_
  refine w_seq ?_
  refine w_reg ?_
  refine wl_un (fun v => Instr.fieldAt 64 v 7) (.tmp 1) (pt k1 0) (pt k1 16) (fun _ => rfl) rfl (by kernel_rfl) rfl ?_
  refine wl_load 62 (.tmp 6) (pt k1 16) (.slice x.pa x.args.length x.cap) rfl rfl (run_one Q1 62 16 rfl Try.underlying62 rfl) rfl ?_
  refine wl_val (.int .i64 ((x.args.length : Nat) : Int)) (len62 _ _ _ _ _ (by exact rfl) _ _ _ _ _ _) rfl ?_
  refine wl_mv (.const (.int .i64 (0))) (.int .i64 (0)) (fun _ => rfl) rfl rfl ?_
  refine w_nil ?_
  refine xn_then ?_
  refine w_block ?_
  have hz := hL.sl.1
  unfold maxLen at hz
  refine w_loop (fun m l w1 => ∃ i : Nat, m = x.args.length - i ∧ i ≤ x.args.length ∧ look l 7 = .slice x.pa x.args.length x.cap ∧ look l 8 = .int .i64 ((x.args.length : Nat) : Int) ∧ look l 9 = .int .i64 ((i : Nat) : Int) ∧ (look l 3 = .int .i64 ((x.args.take i).foldl (fun n a => IntKind.i64.wrap (n + szE a)) 1)) ∧ Mo w w1) _ ⟨0, rfl, Nat.zero_le _, rfl, rfl, rfl, rfl, M⟩ ?_
  clear Q1 M
  rintro m l40 wl40 ⟨i, rfl, hi, e40_7, e40_8, e40_i, e3x, M⟩
  by_cases hil : i < x.args.length
  · skip
    have hid : decide (i < x.args.length) = true := decide_eq_true hil
    obtain ⟨a, hx⟩ := get_of_lt hil
    have hma := List.mem_of_getElem? hx
    obtain ⟨bp, op, hpp, hRp⟩ := D.SL.rw hL.sl hx
    refine w_seq ?_
    refine w_reg ?_
    refine wl_bin (fun x y => do eqGuard .lss 3 (.tmp 9) (.tmp 8) x y; binOp .lss 3 x y) (.tmp 9) (.tmp 8) (.int .i64 ((i : Nat) : Int)) (.int .i64 ((x.args.length : Nat) : Int)) (.bool true) (fun _ => rfl) e40_i e40_8 (ltN hid _ _ _) rfl ?_
    refine w_nil ?_
    refine xn_then ?_
    refine w_seq ?_
    refine w_condT rfl ?_
    refine w_skip ?_
    refine xn_then ?_
    refine w_seq ?_
    refine w_block ?_
    refine w_seq ?_
    refine w_reg ?_
    refine wl_bin (fun x y => Instr.indexAt 62 x y) (.tmp 7) (.tmp 9) (.slice x.pa x.args.length x.cap) (.int .i64 ((i : Nat) : Int)) (pt bp (op + i * 17)) (fun _ => rfl) e40_7 e40_i (ix62 (i := i) hpp hil _) rfl ?_
    refine wl_load 64 (.tmp 11) (pt bp (op + i * 17)) (.agg (a.cells).toArray) rfl rfl (D.run_partR (hRp.mo M).at' 64 0 17 (a.cells) rfl Try.underlying64 rfl sz64) rfl ?_
    refine wl_alloc 64 #[.int .i64 0, .int .i64 0, .string ⟨#[]⟩, .string ⟨#[]⟩, .int .i64 0, .bool false, .int .u64 0, .int .u64 0, .int .u64 0, .int .u64 0, .int .i64 0, .bool false, .string ⟨#[]⟩, .int .i64 0, .int .i64 0, .int .i64 0, .slice none 0 0] rfl (fun _ => by kernel_rfl) rfl ?_
    intro k2 u41 hk hz hq Q2
    have N_k2 : w.heap.size ≤ k2 := by have := M.size; omega
    replace M := M.trans hq
    clear hk hz hq
    refine wl_st 64 (.tmp 5) (.tmp 12) k2 0 ((a.cells).toArray) [.int .i64 0, .int .i64 0, .string ⟨#[]⟩, .string ⟨#[]⟩, .int .i64 0, .bool false, .int .u64 0, .int .u64 0, .int .u64 0, .int .u64 0, .int .i64 0, .bool false, .string ⟨#[]⟩, .int .i64 0, .int .i64 0, .int .i64 0, .slice none 0 0] (a.cells) Q2 rfl rfl rfl rfl rfl sz64 rfl rfl rfl ?_
    intro u42 hS Qn
    replace Q2 := Qn
    clear Qn
    replace M := hS.mo _ N_k2 M
    clear hS
    refine w_nil ?_
    refine xn_then ?_
    refine w_reg ?_
    refine wl_mv (.tmp 3) (.int .i64 ((x.args.take i).foldl (fun n a => IntKind.i64.wrap (n + szE a)) 1)) (fun _ => rfl) e3x rfl ?_
    refine wl_load 64 (.tmp 5) (pt k2 0) (.agg (a.cells).toArray) rfl rfl (run_row Q2 64 0 17 (a.cells) rfl Try.underlying64 rfl sz64) rfl ?_
    refine wl_call 47 [(.tmp 14)] _ [.agg (a.cells).toArray] (.int .i64 (szE a)) rfl rfl (fun _ _ => by kernel_rfl) (ih a hma ((hL.ar a hma).kp M.kp)) rfl ?_
    intro u43 hq
    replace Q2 := Q2.mo hq
    replace M := M.trans hq
    clear hq
    refine wl_bin (fun x y => do eqGuard .add 3 (.tmp 13) (.tmp 15) x y; binOp .add 3 x y) (.tmp 13) (.tmp 15) (.int .i64 ((x.args.take i).foldl (fun n a => IntKind.i64.wrap (n + szE a)) 1)) (.int .i64 (szE a)) (.int .i64 (IntKind.i64.wrap ((x.args.take i).foldl (fun n a => IntKind.i64.wrap (n + szE a)) 1 + szE a))) (fun _ => rfl) rfl rfl (addw _ _ _ _ _) rfl ?_
    refine wl_mv (.tmp 16) (.int .i64 (IntKind.i64.wrap ((x.args.take i).foldl (fun n a => IntKind.i64.wrap (n + szE a)) 1 + szE a))) (fun _ => rfl) rfl rfl ?_
    refine w_nil ?_
    refine xn_blk ?_
    refine xn_then ?_
    refine w_reg ?_
    refine wl_bin (fun x y => do eqGuard .add 3 (.tmp 9) (.const (.int .i64 (1))) x y; binOp .add 3 x y) (.tmp 9) (.const (.int .i64 (1))) (.int .i64 ((i : Nat) : Int)) (.int .i64 (1)) (.int .i64 ((i + 1 : Nat) : Int)) (fun _ => rfl) e40_i rfl (add1r (k := i) (by omega) _ _ _) rfl ?_
    refine wl_mv (.tmp 17) (.int .i64 ((i + 1 : Nat) : Int)) (fun _ => rfl) rfl rfl ?_
    refine w_nil ?_
    exact xn_loop (x.args.length - (i + 1)) (by omega) ⟨i + 1, rfl, by omega, e40_7, e40_8, rfl, by rw [fold_s hx]; rfl, M⟩
  · skip
    have hid : decide (i < x.args.length) = false := decide_eq_false hil
    have hie : i = x.args.length := by omega
    refine w_seq ?_
    refine w_reg ?_
    refine wl_bin (fun x y => do eqGuard .lss 3 (.tmp 9) (.tmp 8) x y; binOp .lss 3 x y) (.tmp 9) (.tmp 8) (.int .i64 ((i : Nat) : Int)) (.int .i64 ((x.args.length : Nat) : Int)) (.bool false) (fun _ => rfl) e40_i e40_8 (ltN hid _ _ _) rfl ?_
    refine w_nil ?_
    refine xn_then ?_
    refine w_seq ?_
    refine w_condF rfl ?_
    refine w_exit ?_
    refine xx_then ?_
    refine xx_then ?_
    refine xx_blk ?_
    refine xn_then ?_
    refine w_seq ?_
    refine w_reg ?_
    refine wl_mv (.tmp 3) (.int .i64 ((x.args.take i).foldl (fun n a => IntKind.i64.wrap (n + szE a)) 1)) (fun _ => rfl) e3x rfl ?_
    refine wl_mv (.tmp 18) (.int .i64 ((x.args.take i).foldl (fun n a => IntKind.i64.wrap (n + szE a)) 1)) (fun _ => rfl) rfl rfl ?_
    refine w_nil ?_
    refine xn_then ?_
    refine w_ret ?_
    exact w_ret1 _ (.int .i64 ((x.args.take i).foldl (fun n a => IntKind.i64.wrap (n + szE a)) 1)) rfl rfl ⟨by rw [szE_eq, hie, List.take_length], M⟩
theorem deep_n : ∀ (s : Se) {w : World}, LSe w s → Calls Try.prog 26 #[.agg (s.cells).toArray] w fun e w' => ∃ r : Int, e = .returned (.int .i64 r) ∧ Mo w w' := by
  refine Se.ind2 ?_
  intro s ih w hL
  refine w_enter 20 Try.func26 Try.ntmps26 rfl rfl ?_
  have M : Mo w w := Mo.refl _
  refine w_seq ?_
  refine w_reg ?_
  refine wl_box 25 (.tmp 0) (.agg (s.cells).toArray) (((s.cells).toArray)) rfl rfl (fun _ => by kernel_rfl) rfl ?_
  intro k1 u1 hk hz hq Q1
  have N_k1 : w.heap.size ≤ k1 := by have := M.size; omega
  replace M := M.trans hq
  clear hk hz hq
  refine wl_mv (.const (.int .i64 (0))) (.int .i64 (0)) (fun _ => rfl) rfl rfl ?_
  refine w_nil ?_
  refine xn_then ?_
  refine w_seq ?_
  refine w_reg ?_
  refine wl_mv (.const (.int .i64 (0))) (.int .i64 (0)) (fun _ => rfl) rfl rfl ?_
  refine w_nil ?_
  refine xn_then ?_
  refine w_seq ?_
  refine w_seq ?_
  refine w_reg ?_
  refine wl_un (fun v => Instr.fieldAt 25 v 3) (.tmp 1) (pt k1 0) (pt k1 3) (fun _ => rfl) rfl (by kernel_rfl) rfl ?_
  refine wl_load 23 (.tmp 6) (pt k1 3) (.slice s.pk s.kids.length s.ck) rfl rfl (run_one Q1 23 3 rfl Try.underlying23 rfl) rfl ?_
  refine wl_val (.int .i64 ((s.kids.length : Nat) : Int)) (len23 _ _ _ _ _ (by exact rfl) _ _ _ _ _ _) rfl ?_
  refine wl_mv (.const (.int .i64 (0))) (.int .i64 (0)) (fun _ => rfl) rfl rfl ?_
  refine w_nil ?_
  refine xn_then ?_
  refine w_block ?_
  have hz := hL.kd.1
  unfold maxLen at hz
  refine w_loop (fun m l w1 => ∃ i : Nat, m = s.kids.length - i ∧ i ≤ s.kids.length ∧ look l 7 = .slice s.pk s.kids.length s.ck ∧ look l 8 = .int .i64 ((s.kids.length : Nat) : Int) ∧ look l 9 = .int .i64 ((i : Nat) : Int) ∧ (∃ n3 : Int, look l 3 = .int .i64 n3) ∧ Mo w w1) _ ⟨0, rfl, Nat.zero_le _, rfl, rfl, rfl, ⟨0, rfl⟩, M⟩ ?_
  clear Q1 M
  rintro m l40 wl40 ⟨i, rfl, hi, e40_7, e40_8, e40_i, e3x, M⟩
  by_cases hil : i < s.kids.length
  · skip
    have hid : decide (i < s.kids.length) = true := decide_eq_true hil
    obtain ⟨n3, e3⟩ := e3x
    obtain ⟨k, hk⟩ := get_of_lt hil
    have hmk := List.mem_of_getElem? hk
    obtain ⟨bp, op, hpp, hRp⟩ := D.SL.rw hL.kd hk
    refine w_seq ?_
    refine w_reg ?_
    refine wl_bin (fun x y => do eqGuard .lss 3 (.tmp 9) (.tmp 8) x y; binOp .lss 3 x y) (.tmp 9) (.tmp 8) (.int .i64 ((i : Nat) : Int)) (.int .i64 ((s.kids.length : Nat) : Int)) (.bool true) (fun _ => rfl) e40_i e40_8 (ltN hid _ _ _) rfl ?_
    refine w_nil ?_
    refine xn_then ?_
    refine w_seq ?_
    refine w_condT rfl ?_
    refine w_skip ?_
    refine xn_then ?_
    refine w_seq ?_
    refine w_block ?_
    refine w_seq ?_
    refine w_reg ?_
    refine wl_bin (fun x y => Instr.indexAt 23 x y) (.tmp 7) (.tmp 9) (.slice s.pk s.kids.length s.ck) (.int .i64 ((i : Nat) : Int)) (pt bp (op + i * 4)) (fun _ => rfl) e40_7 e40_i (ix23 (i := i) hpp hil _) rfl ?_
    refine wl_load 25 (.tmp 11) (pt bp (op + i * 4)) (.agg (k.cells).toArray) rfl rfl (D.run_partR (hRp.mo M).at' 25 0 4 (k.cells) rfl Try.underlying25 rfl sz25) rfl ?_
    refine wl_alloc 25 #[.string ⟨#[]⟩, .int .i64 0, .slice none 0 0, .slice none 0 0] rfl (fun _ => by kernel_rfl) rfl ?_
    intro k2 u41 hk hz hq Q2
    have N_k2 : w.heap.size ≤ k2 := by have := M.size; omega
    replace M := M.trans hq
    clear hk hz hq
    refine wl_st 25 (.tmp 5) (.tmp 12) k2 0 ((k.cells).toArray) [.string ⟨#[]⟩, .int .i64 0, .slice none 0 0, .slice none 0 0] (k.cells) Q2 rfl rfl rfl rfl rfl sz25 rfl rfl rfl ?_
    intro u42 hS Qn
    replace Q2 := Qn
    clear Qn
    replace M := hS.mo _ N_k2 M
    clear hS
    refine w_nil ?_
    refine xn_then ?_
    refine w_reg ?_
    refine wl_mv (.tmp 3) (.int .i64 (n3)) (fun _ => rfl) e3 rfl ?_
    refine wl_load 25 (.tmp 5) (pt k2 0) (.agg (k.cells).toArray) rfl rfl (run_row Q2 25 0 4 (k.cells) rfl Try.underlying25 rfl sz25) rfl ?_
    refine wl_callx 26 [(.tmp 14)] _ [.agg (k.cells).toArray] rfl rfl (fun _ _ => by kernel_rfl) (ih k hmk ((hL.kr k hmk).kp M.kp)) rfl ?_
    rintro e9 u43 ⟨r9, rfl, hq⟩
    refine ⟨_, rfl, ?_⟩
    replace Q2 := Q2.mo hq
    replace M := M.trans hq
    clear hq
    refine wl_val (.int .i64 (max (n3) (r9))) (max_i _ _ _ _ _ (by exact rfl) (by exact rfl) _ _ _ _ _ _) rfl ?_
    refine wl_mv (.tmp 16) (.int .i64 (max (n3) (r9))) (fun _ => rfl) rfl rfl ?_
    refine w_nil ?_
    refine xn_blk ?_
    refine xn_then ?_
    refine w_reg ?_
    refine wl_bin (fun x y => do eqGuard .add 3 (.tmp 9) (.const (.int .i64 (1))) x y; binOp .add 3 x y) (.tmp 9) (.const (.int .i64 (1))) (.int .i64 ((i : Nat) : Int)) (.int .i64 (1)) (.int .i64 ((i + 1 : Nat) : Int)) (fun _ => rfl) e40_i rfl (add1r (k := i) (by omega) _ _ _) rfl ?_
    refine wl_mv (.tmp 17) (.int .i64 ((i + 1 : Nat) : Int)) (fun _ => rfl) rfl rfl ?_
    refine w_nil ?_
    exact xn_loop (s.kids.length - (i + 1)) (by omega) ⟨i + 1, rfl, by omega, e40_7, e40_8, rfl, ⟨_, rfl⟩, M⟩
  · skip
    have hid : decide (i < s.kids.length) = false := decide_eq_false hil
    have hie : i = s.kids.length := by omega
    obtain ⟨n3, e3⟩ := e3x
    refine w_seq ?_
    refine w_reg ?_
    refine wl_bin (fun x y => do eqGuard .lss 3 (.tmp 9) (.tmp 8) x y; binOp .lss 3 x y) (.tmp 9) (.tmp 8) (.int .i64 ((i : Nat) : Int)) (.int .i64 ((s.kids.length : Nat) : Int)) (.bool false) (fun _ => rfl) e40_i e40_8 (ltN hid _ _ _) rfl ?_
    refine w_nil ?_
    refine xn_then ?_
    refine w_seq ?_
    refine w_condF rfl ?_
    refine w_exit ?_
    refine xx_then ?_
    refine xx_then ?_
    refine xx_blk ?_
    refine xn_then ?_
    refine w_seq ?_
    refine w_reg ?_
    refine wl_mv (.tmp 3) (.int .i64 (n3)) (fun _ => rfl) e3 rfl ?_
    refine wl_bin (fun x y => do eqGuard .add 3 (.tmp 18) (.const (.int .i64 (1))) x y; binOp .add 3 x y) (.tmp 18) (.const (.int .i64 (1))) (.int .i64 (n3)) (.int .i64 (1)) (.int .i64 (IntKind.i64.wrap (n3 + 1))) (fun _ => rfl) rfl rfl (addw _ _ _ _ _) rfl ?_
    refine wl_mv (.tmp 19) (.int .i64 (IntKind.i64.wrap (n3 + 1))) (fun _ => rfl) rfl rfl ?_
    refine w_nil ?_
    refine xn_then ?_
    refine w_ret ?_
    exact w_ret1 _ (.int .i64 (IntKind.i64.wrap (n3 + 1))) rfl rfl ⟨_, rfl, M⟩
theorem nodes_n : ∀ (s : Se) {w : World}, LSe w s → Calls Try.prog 27 #[.agg (s.cells).toArray] w fun e w' => ∃ r : Int, e = .returned (.int .i64 r) ∧ Mo w w' := by
  refine Se.ind2 ?_
  intro s ih w hL
  refine w_enter 34 Try.func27 Try.ntmps27 rfl rfl ?_
  have M : Mo w w := Mo.refl _
  refine w_seq ?_
  refine w_reg ?_
  refine wl_box 25 (.tmp 0) (.agg (s.cells).toArray) (((s.cells).toArray)) rfl rfl (fun _ => by kernel_rfl) rfl ?_
  intro k1 u1 hk hz hq Q1
  have N_k1 : w.heap.size ≤ k1 := by have := M.size; omega
  replace M := M.trans hq
  clear hk hz hq
  refine wl_mv (.const (.int .i64 (0))) (.int .i64 (0)) (fun _ => rfl) rfl rfl ?_
  refine w_nil ?_
  refine xn_then ?_
  refine w_seq ?_
  refine w_reg ?_
  refine wl_mv (.const (.int .i64 (1))) (.int .i64 (1)) (fun _ => rfl) rfl rfl ?_
  refine w_nil ?_
  refine xn_then ?_
  refine w_seq ?_
  refine w_seq ?_
  refine w_reg ?_
  refine wl_un (fun v => Instr.fieldAt 25 v 2) (.tmp 1) (pt k1 0) (pt k1 2) (fun _ => rfl) rfl (by kernel_rfl) rfl ?_
  refine wl_load 22 (.tmp 8) (pt k1 2) (.slice s.pi s.items.length s.ci) rfl rfl (run_one Q1 22 2 rfl Try.underlying22 rfl) rfl ?_
  refine wl_val (.int .i64 ((s.items.length : Nat) : Int)) (len22 _ _ _ _ _ (by exact rfl) _ _ _ _ _ _) rfl ?_
  refine wl_mv (.const (.int .i64 (0))) (.int .i64 (0)) (fun _ => rfl) rfl rfl ?_
  refine w_nil ?_
  refine xn_then ?_
  refine w_block ?_
  have hz := hL.it.1
  unfold maxLen at hz
  refine w_loop (fun m l w1 => ∃ i : Nat, m = s.items.length - i ∧ i ≤ s.items.length ∧ look l 1 = pt k1 0 ∧ look l 9 = .slice s.pi s.items.length s.ci ∧ look l 10 = .int .i64 ((s.items.length : Nat) : Int) ∧ look l 11 = .int .i64 ((i : Nat) : Int) ∧ At w1 k1 (s.cells) ∧ (∃ n3 : Int, look l 3 = .int .i64 n3) ∧ Mo w w1) _ ⟨0, rfl, Nat.zero_le _, rfl, rfl, rfl, rfl, Q1, ⟨1, rfl⟩, M⟩ ?_
  clear Q1 M
  rintro m l40 wl40 ⟨i, rfl, hi, e40_1, e40_9, e40_10, e40_i, Q1, e3x, M⟩
  by_cases hil : i < s.items.length
  · skip
    have hid : decide (i < s.items.length) = true := decide_eq_true hil
    obtain ⟨n3, e3⟩ := e3x
    obtain ⟨y, hy⟩ := get_of_lt hil
    obtain ⟨bp, op, hpp, hRp⟩ := D.SL.rw hL.it hy
    refine w_seq ?_
    refine w_reg ?_
    refine wl_bin (fun x y => do eqGuard .lss 3 (.tmp 11) (.tmp 10) x y; binOp .lss 3 x y) (.tmp 11) (.tmp 10) (.int .i64 ((i : Nat) : Int)) (.int .i64 ((s.items.length : Nat) : Int)) (.bool true) (fun _ => rfl) e40_i e40_10 (ltN hid _ _ _) rfl ?_
    refine w_nil ?_
    refine xn_then ?_
    refine w_seq ?_
    refine w_condT rfl ?_
    refine w_skip ?_
    refine xn_then ?_
    refine w_seq ?_
    refine w_block ?_
    refine w_seq ?_
    refine w_reg ?_
    refine wl_bin (fun x y => Instr.indexAt 22 x y) (.tmp 9) (.tmp 11) (.slice s.pi s.items.length s.ci) (.int .i64 ((i : Nat) : Int)) (pt bp (op + i * 23)) (fun _ => rfl) e40_9 e40_i (ix22 (i := i) hpp hil _) rfl ?_
    refine wl_load 66 (.tmp 13) (pt bp (op + i * 23)) (.agg (y.cells).toArray) rfl rfl (D.run_partR (hRp.mo M).at' 66 0 23 (y.cells) rfl Try.underlying66 rfl sz66) rfl ?_
    refine wl_alloc 66 #[.string ⟨#[]⟩, .int .i64 0, .int .i64 0, .int .i64 0, .bool false, .int .i64 0, .int .i64 0, .int .i64 0, .string ⟨#[]⟩, .string ⟨#[]⟩, .int .i64 0, .bool false, .int .u64 0, .int .u64 0, .int .u64 0, .int .u64 0, .int .i64 0, .bool false, .string ⟨#[]⟩, .int .i64 0, .int .i64 0, .int .i64 0, .slice none 0 0] rfl (fun _ => by kernel_rfl) rfl ?_
    intro k2 u41 hk hz hq Q2
    have ne_k1_k2 : k1 ≠ k2 := by have := Q1.lt; omega
    have N_k2 : w.heap.size ≤ k2 := by have := M.size; omega
    replace Q1 := Q1.mo hq
    replace M := M.trans hq
    clear hk hz hq
    refine wl_st 66 (.tmp 5) (.tmp 14) k2 0 ((y.cells).toArray) [.string ⟨#[]⟩, .int .i64 0, .int .i64 0, .int .i64 0, .bool false, .int .i64 0, .int .i64 0, .int .i64 0, .string ⟨#[]⟩, .string ⟨#[]⟩, .int .i64 0, .bool false, .int .u64 0, .int .u64 0, .int .u64 0, .int .u64 0, .int .i64 0, .bool false, .string ⟨#[]⟩, .int .i64 0, .int .i64 0, .int .i64 0, .slice none 0 0] (y.cells) Q2 rfl rfl rfl rfl rfl sz66 rfl rfl rfl ?_
    intro u42 hS Qn
    replace Q2 := Qn
    clear Qn
    replace Q1 := hS.other _ _ ne_k1_k2 Q1
    replace M := hS.mo _ N_k2 M
    clear hS
    refine w_nil ?_
    refine xn_then ?_
    refine w_reg ?_
    refine wl_mv (.tmp 3) (.int .i64 (n3)) (fun _ => rfl) e3 rfl ?_
    refine wl_un (fun v => Instr.fieldAt 66 v 5) (.tmp 5) (pt k2 0) (pt k2 6) (fun _ => rfl) rfl (by kernel_rfl) rfl ?_
    refine wl_load 64 (.tmp 16) (pt k2 6) (.agg #[.int .i64 y.ex.k, .int .i64 y.ex.op, .string y.ex.nm, .string y.ex.se, .int .i64 y.ex.v.k, .bool y.ex.v.d.b, .int .u64 y.ex.v.d.n0, .int .u64 y.ex.v.d.n1, .int .u64 y.ex.v.d.n2, .int .u64 y.ex.v.d.n3, .int .i64 y.ex.v.d.s, .bool y.ex.v.f, .string y.ex.v.t, .int .i64 y.ex.v.e, .int .i64 y.ex.sc, .int .i64 y.ex.po, .slice y.ex.pa y.ex.args.length y.ex.cap]) rfl rfl (run_row Q2 64 6 17 [.int .i64 y.ex.k, .int .i64 y.ex.op, .string y.ex.nm, .string y.ex.se, .int .i64 y.ex.v.k, .bool y.ex.v.d.b, .int .u64 y.ex.v.d.n0, .int .u64 y.ex.v.d.n1, .int .u64 y.ex.v.d.n2, .int .u64 y.ex.v.d.n3, .int .i64 y.ex.v.d.s, .bool y.ex.v.f, .string y.ex.v.t, .int .i64 y.ex.v.e, .int .i64 y.ex.sc, .int .i64 y.ex.po, .slice y.ex.pa y.ex.args.length y.ex.cap] rfl Try.underlying64 rfl sz64) rfl ?_
    refine wl_call 47 [(.tmp 17)] _ [.agg #[.int .i64 y.ex.k, .int .i64 y.ex.op, .string y.ex.nm, .string y.ex.se, .int .i64 y.ex.v.k, .bool y.ex.v.d.b, .int .u64 y.ex.v.d.n0, .int .u64 y.ex.v.d.n1, .int .u64 y.ex.v.d.n2, .int .u64 y.ex.v.d.n3, .int .i64 y.ex.v.d.s, .bool y.ex.v.f, .string y.ex.v.t, .int .i64 y.ex.v.e, .int .i64 y.ex.sc, .int .i64 y.ex.po, .slice y.ex.pa y.ex.args.length y.ex.cap]] (.int .i64 (szE y.ex)) rfl rfl (fun _ _ => by kernel_rfl) (size_n y.ex ((hL.ex y (List.mem_of_getElem? hy)).kp M.kp)) rfl ?_
    intro u43 hq
    replace Q1 := Q1.mo hq
    replace Q2 := Q2.mo hq
    replace M := M.trans hq
    clear hq
    refine wl_bin (fun x y => do eqGuard .add 3 (.tmp 15) (.tmp 18) x y; binOp .add 3 x y) (.tmp 15) (.tmp 18) (.int .i64 (n3)) (.int .i64 (szE y.ex)) (.int .i64 (IntKind.i64.wrap (n3 + szE y.ex))) (fun _ => rfl) rfl rfl (addw _ _ _ _ _) rfl ?_
    refine wl_mv (.tmp 19) (.int .i64 (IntKind.i64.wrap (n3 + szE y.ex))) (fun _ => rfl) rfl rfl ?_
    refine w_nil ?_
    refine xn_blk ?_
    refine xn_then ?_
    refine w_reg ?_
    refine wl_bin (fun x y => do eqGuard .add 3 (.tmp 11) (.const (.int .i64 (1))) x y; binOp .add 3 x y) (.tmp 11) (.const (.int .i64 (1))) (.int .i64 ((i : Nat) : Int)) (.int .i64 (1)) (.int .i64 ((i + 1 : Nat) : Int)) (fun _ => rfl) e40_i rfl (add1r (k := i) (by omega) _ _ _) rfl ?_
    refine wl_mv (.tmp 20) (.int .i64 ((i + 1 : Nat) : Int)) (fun _ => rfl) rfl rfl ?_
    refine w_nil ?_
    exact xn_loop (s.items.length - (i + 1)) (by omega) ⟨i + 1, rfl, by omega, e40_1, e40_9, e40_10, rfl, Q1, ⟨_, rfl⟩, M⟩
  · skip
    have hid : decide (i < s.items.length) = false := decide_eq_false hil
    have hie : i = s.items.length := by omega
    obtain ⟨n3, e3⟩ := e3x
    refine w_seq ?_
    refine w_reg ?_
    refine wl_bin (fun x y => do eqGuard .lss 3 (.tmp 11) (.tmp 10) x y; binOp .lss 3 x y) (.tmp 11) (.tmp 10) (.int .i64 ((i : Nat) : Int)) (.int .i64 ((s.items.length : Nat) : Int)) (.bool false) (fun _ => rfl) e40_i e40_10 (ltN hid _ _ _) rfl ?_
    refine w_nil ?_
    refine xn_then ?_
    refine w_seq ?_
    refine w_condF rfl ?_
    refine w_exit ?_
    refine xx_then ?_
    refine xx_then ?_
    refine xx_blk ?_
    refine xn_then ?_
    refine w_seq ?_
    refine w_seq ?_
    refine w_reg ?_
    refine wl_un (fun v => Instr.fieldAt 25 v 3) (.tmp 1) (pt k1 0) (pt k1 3) (fun _ => rfl) e40_1 (by kernel_rfl) rfl ?_
    refine wl_load 23 (.tmp 21) (pt k1 3) (.slice s.pk s.kids.length s.ck) rfl rfl (run_one Q1 23 3 rfl Try.underlying23 rfl) rfl ?_
    refine wl_val (.int .i64 ((s.kids.length : Nat) : Int)) (len23 _ _ _ _ _ (by exact rfl) _ _ _ _ _ _) rfl ?_
    refine wl_mv (.const (.int .i64 (0))) (.int .i64 (0)) (fun _ => rfl) rfl rfl ?_
    refine w_nil ?_
    refine xn_then ?_
    refine w_block ?_
    have hz2 := hL.kd.1
    unfold maxLen at hz2
    refine w_loop (fun m l w1 => ∃ i : Nat, m = s.kids.length - i ∧ i ≤ s.kids.length ∧ look l 22 = .slice s.pk s.kids.length s.ck ∧ look l 23 = .int .i64 ((s.kids.length : Nat) : Int) ∧ look l 24 = .int .i64 ((i : Nat) : Int) ∧ (∃ n3 : Int, look l 3 = .int .i64 n3) ∧ Mo w w1) _ ⟨0, rfl, Nat.zero_le _, rfl, rfl, rfl, ⟨_, e3⟩, M⟩ ?_
    clear Q1 M
    rintro m l100 wl100 ⟨i, rfl, hi, e100_22, e100_23, e100_i, e3x, M⟩
    by_cases hil : i < s.kids.length
    · skip
      have hid : decide (i < s.kids.length) = true := decide_eq_true hil
      obtain ⟨n3, e3⟩ := e3x
      obtain ⟨k, hk⟩ := get_of_lt hil
      have hmk := List.mem_of_getElem? hk
      obtain ⟨bq, oq, hpq, hRq⟩ := D.SL.rw hL.kd hk
      refine w_seq ?_
      refine w_reg ?_
      refine wl_bin (fun x y => do eqGuard .lss 3 (.tmp 24) (.tmp 23) x y; binOp .lss 3 x y) (.tmp 24) (.tmp 23) (.int .i64 ((i : Nat) : Int)) (.int .i64 ((s.kids.length : Nat) : Int)) (.bool true) (fun _ => rfl) e100_i e100_23 (ltN hid _ _ _) rfl ?_
      refine w_nil ?_
      refine xn_then ?_
      refine w_seq ?_
      refine w_condT rfl ?_
      refine w_skip ?_
      refine xn_then ?_
      refine w_seq ?_
      refine w_block ?_
      refine w_seq ?_
      refine w_reg ?_
      refine wl_bin (fun x y => Instr.indexAt 23 x y) (.tmp 22) (.tmp 24) (.slice s.pk s.kids.length s.ck) (.int .i64 ((i : Nat) : Int)) (pt bq (oq + i * 4)) (fun _ => rfl) e100_22 e100_i (ix23 (i := i) hpq hil _) rfl ?_
      refine wl_load 25 (.tmp 26) (pt bq (oq + i * 4)) (.agg (k.cells).toArray) rfl rfl (D.run_partR (hRq.mo M).at' 25 0 4 (k.cells) rfl Try.underlying25 rfl sz25) rfl ?_
      refine wl_alloc 25 #[.string ⟨#[]⟩, .int .i64 0, .slice none 0 0, .slice none 0 0] rfl (fun _ => by kernel_rfl) rfl ?_
      intro k2 u101 hk hz hq Q2
      have N_k2 : w.heap.size ≤ k2 := by have := M.size; omega
      replace M := M.trans hq
      clear hk hz hq
      refine wl_st 25 (.tmp 7) (.tmp 27) k2 0 ((k.cells).toArray) [.string ⟨#[]⟩, .int .i64 0, .slice none 0 0, .slice none 0 0] (k.cells) Q2 rfl rfl rfl rfl rfl sz25 rfl rfl rfl ?_
      intro u102 hS Qn
      replace Q2 := Qn
      clear Qn
      replace M := hS.mo _ N_k2 M
      clear hS
      refine w_nil ?_
      refine xn_then ?_
      refine w_reg ?_
      refine wl_mv (.tmp 3) (.int .i64 (n3)) (fun _ => rfl) e3 rfl ?_
      refine wl_load 25 (.tmp 7) (pt k2 0) (.agg (k.cells).toArray) rfl rfl (run_row Q2 25 0 4 (k.cells) rfl Try.underlying25 rfl sz25) rfl ?_
      refine wl_callx 27 [(.tmp 29)] _ [.agg (k.cells).toArray] rfl rfl (fun _ _ => by kernel_rfl) (ih k hmk ((hL.kr k hmk).kp M.kp)) rfl ?_
      rintro e9 u103 ⟨r9, rfl, hq⟩
      refine ⟨_, rfl, ?_⟩
      replace Q2 := Q2.mo hq
      replace M := M.trans hq
      clear hq
      refine wl_bin (fun x y => do eqGuard .add 3 (.tmp 28) (.tmp 30) x y; binOp .add 3 x y) (.tmp 28) (.tmp 30) (.int .i64 (n3)) (.int .i64 (r9)) (.int .i64 (IntKind.i64.wrap (n3 + r9))) (fun _ => rfl) rfl rfl (addw _ _ _ _ _) rfl ?_
      refine wl_mv (.tmp 31) (.int .i64 (IntKind.i64.wrap (n3 + r9))) (fun _ => rfl) rfl rfl ?_
      refine w_nil ?_
      refine xn_blk ?_
      refine xn_then ?_
      refine w_reg ?_
      refine wl_bin (fun x y => do eqGuard .add 3 (.tmp 24) (.const (.int .i64 (1))) x y; binOp .add 3 x y) (.tmp 24) (.const (.int .i64 (1))) (.int .i64 ((i : Nat) : Int)) (.int .i64 (1)) (.int .i64 ((i + 1 : Nat) : Int)) (fun _ => rfl) e100_i rfl (add1r (k := i) (by omega) _ _ _) rfl ?_
      refine wl_mv (.tmp 32) (.int .i64 ((i + 1 : Nat) : Int)) (fun _ => rfl) rfl rfl ?_
      refine w_nil ?_
      exact xn_loop (s.kids.length - (i + 1)) (by omega) ⟨i + 1, rfl, by omega, e100_22, e100_23, rfl, ⟨_, rfl⟩, M⟩
    · skip
      have hid : decide (i < s.kids.length) = false := decide_eq_false hil
      have hie : i = s.kids.length := by omega
      obtain ⟨n3, e3⟩ := e3x
      refine w_seq ?_
      refine w_reg ?_
      refine wl_bin (fun x y => do eqGuard .lss 3 (.tmp 24) (.tmp 23) x y; binOp .lss 3 x y) (.tmp 24) (.tmp 23) (.int .i64 ((i : Nat) : Int)) (.int .i64 ((s.kids.length : Nat) : Int)) (.bool false) (fun _ => rfl) e100_i e100_23 (ltN hid _ _ _) rfl ?_
      refine w_nil ?_
      refine xn_then ?_
      refine w_seq ?_
      refine w_condF rfl ?_
      refine w_exit ?_
      refine xx_then ?_
      refine xx_then ?_
      refine xx_blk ?_
      refine xn_then ?_
      refine w_seq ?_
      refine w_reg ?_
      refine wl_mv (.tmp 3) (.int .i64 (n3)) (fun _ => rfl) e3 rfl ?_
      refine wl_mv (.tmp 33) (.int .i64 (n3)) (fun _ => rfl) rfl rfl ?_
      refine w_nil ?_
      refine xn_then ?_
      refine w_ret ?_
      exact w_ret1 _ (.int .i64 (n3)) rfl rfl ⟨_, rfl, M⟩
theorem pages_c (d : Df) {w : World} (hD : LDf w d) : Calls Try.prog 28 #[.agg (d.cells).toArray] w fun e w' => ∃ r : Int, e = .returned (.int .i64 r) ∧ Mo w w' := by
  refine w_enter 25 Try.func28 Try.ntmps28 rfl rfl ?_
  have M : Mo w w := Mo.refl _
  refine w_seq ?_
  refine w_reg ?_
  refine wl_box 29 (.tmp 0) (.agg (d.cells).toArray) (((d.cells).toArray)) rfl rfl (fun _ => by kernel_rfl) rfl ?_
  intro k1 u1 hk hz hq Q1
  have N_k1 : w.heap.size ≤ k1 := by have := M.size; omega
  replace M := M.trans hq
  clear hk hz hq
  refine wl_mv (.const (.int .i64 (0))) (.int .i64 (0)) (fun _ => rfl) rfl rfl ?_
  refine w_nil ?_
  refine xn_then ?_
  refine w_seq ?_
  refine w_reg ?_
  refine wl_mv (.const (.int .i64 (0))) (.int .i64 (0)) (fun _ => rfl) rfl rfl ?_
  refine w_nil ?_
  refine xn_then ?_
  refine w_seq ?_
  refine w_seq ?_
  refine w_reg ?_
  refine wl_un (fun v => Instr.fieldAt 29 v 3) (.tmp 1) (pt k1 0) (pt k1 6) (fun _ => rfl) rfl (by kernel_rfl) rfl ?_
  refine wl_load 27 (.tmp 6) (pt k1 6) (.slice d.pp d.pg.length d.cp) rfl rfl (run_one Q1 27 6 rfl Try.underlying27 rfl) rfl ?_
  refine wl_val (.int .i64 ((d.pg.length : Nat) : Int)) (len27 _ _ _ _ _ (by exact rfl) _ _ _ _ _ _) rfl ?_
  refine wl_mv (.const (.int .i64 (0))) (.int .i64 (0)) (fun _ => rfl) rfl rfl ?_
  refine w_nil ?_
  refine xn_then ?_
  refine w_block ?_
  have hz := hD.pg.1
  unfold maxLen at hz
  refine w_loop (fun m l w1 => ∃ i : Nat, m = d.pg.length - i ∧ i ≤ d.pg.length ∧ look l 7 = .slice d.pp d.pg.length d.cp ∧ look l 8 = .int .i64 ((d.pg.length : Nat) : Int) ∧ look l 9 = .int .i64 ((i : Nat) : Int) ∧ (∃ n3 : Int, look l 3 = .int .i64 n3) ∧ Mo w w1) _ ⟨0, rfl, Nat.zero_le _, rfl, rfl, rfl, ⟨0, rfl⟩, M⟩ ?_
  clear Q1 M
  rintro m l40 wl40 ⟨i, rfl, hi, e40_7, e40_8, e40_i, e3x, M⟩
  by_cases hil : i < d.pg.length
  · skip
    have hid : decide (i < d.pg.length) = true := decide_eq_true hil
    obtain ⟨n3, e3⟩ := e3x
    obtain ⟨x, hx⟩ := get_of_lt hil
    obtain ⟨bp, op, hpp, hRp⟩ := D.SL.rw hD.pg hx
    refine w_seq ?_
    refine w_reg ?_
    refine wl_bin (fun x y => do eqGuard .lss 3 (.tmp 9) (.tmp 8) x y; binOp .lss 3 x y) (.tmp 9) (.tmp 8) (.int .i64 ((i : Nat) : Int)) (.int .i64 ((d.pg.length : Nat) : Int)) (.bool true) (fun _ => rfl) e40_i e40_8 (ltN hid _ _ _) rfl ?_
    refine w_nil ?_
    refine xn_then ?_
    refine w_seq ?_
    refine w_condT rfl ?_
    refine w_skip ?_
    refine xn_then ?_
    refine w_seq ?_
    refine w_block ?_
    refine w_seq ?_
    refine w_reg ?_
    refine wl_bin (fun x y => Instr.indexAt 27 x y) (.tmp 7) (.tmp 9) (.slice d.pp d.pg.length d.cp) (.int .i64 ((i : Nat) : Int)) (pt bp (op + i * 19)) (fun _ => rfl) e40_7 e40_i (ix27 (i := i) hpp hil _) rfl ?_
    refine wl_load 90 (.tmp 11) (pt bp (op + i * 19)) (.agg (x.cells).toArray) rfl rfl (D.run_partR (hRp.mo M).at' 90 0 19 (x.cells) rfl Try.underlying90 rfl sz90) rfl ?_
    refine wl_alloc 90 #[.string ⟨#[]⟩, .int .i64 0, .int .i64 0, .string ⟨#[]⟩, .string ⟨#[]⟩, .int .i64 0, .bool false, .int .u64 0, .int .u64 0, .int .u64 0, .int .u64 0, .int .i64 0, .bool false, .string ⟨#[]⟩, .int .i64 0, .int .i64 0, .int .i64 0, .slice none 0 0, .slice none 0 0] rfl (fun _ => by kernel_rfl) rfl ?_
    intro k2 u41 hk hz hq Q2
    have N_k2 : w.heap.size ≤ k2 := by have := M.size; omega
    replace M := M.trans hq
    clear hk hz hq
    refine wl_st 90 (.tmp 5) (.tmp 12) k2 0 ((x.cells).toArray) [.string ⟨#[]⟩, .int .i64 0, .int .i64 0, .string ⟨#[]⟩, .string ⟨#[]⟩, .int .i64 0, .bool false, .int .u64 0, .int .u64 0, .int .u64 0, .int .u64 0, .int .i64 0, .bool false, .string ⟨#[]⟩, .int .i64 0, .int .i64 0, .int .i64 0, .slice none 0 0, .slice none 0 0] (x.cells) Q2 rfl rfl rfl rfl rfl sz90 rfl rfl rfl ?_
    intro u42 hS Qn
    replace Q2 := Qn
    clear Qn
    replace M := hS.mo _ N_k2 M
    clear hS
    refine w_nil ?_
    refine xn_then ?_
    refine w_any 9 [.inl (.int .i64 (n3)), .inl (pt k2 1), .inl (.agg #[.int .i64 x.wh.k, .int .i64 x.wh.op, .string x.wh.nm, .string x.wh.se, .int .i64 x.wh.v.k, .bool x.wh.v.d.b, .int .u64 x.wh.v.d.n0, .int .u64 x.wh.v.d.n1, .int .u64 x.wh.v.d.n2, .int .u64 x.wh.v.d.n3, .int .i64 x.wh.v.d.s, .bool x.wh.v.f, .string x.wh.v.t, .int .i64 x.wh.v.e, .int .i64 x.wh.sc, .int .i64 x.wh.po, .slice x.wh.pa x.wh.args.length x.wh.cap]), .inl (.int .i64 (szE x.wh)), .inl (.int .i64 (IntKind.i64.wrap (1 + szE x.wh))), .inl (pt k2 18), .inl (.slice x.pa x.its.length x.cap), .inl (.int .i64 ((x.its.length : Nat) : Int)), .inl (.int .i64 (IntKind.i64.wrap (IntKind.i64.wrap (1 + szE x.wh) + ((x.its.length : Nat) : Int))))] [] (by kernel_rfl) (by kernel_rfl) (by kernel_rfl) (by kernel_rfl) rfl (by kernel_rfl) (by kernel_rfl) late_nil ?_ ?_ ?_
    · exact Ds.none rfl
    · refine ea_cons ?_ (ea_cons ?_ (ea_cons ?_ (ea_cons ?_ (ea_cons ?_ (ea_cons ?_ (ea_cons ?_ (ea_cons ?_ (ea_cons ?_ (ea_nil)))))))))
      · exact og_eq (.int .i64 (n3)) rfl (fun f wf hq hd K hK => go_run rfl (wo_mv (.tmp 3) (.int .i64 (n3)) (fun _ => rfl) e3 (hK _ (Mo.refl _))))
      · exact og_eq (pt k2 1) rfl (fun f wf hq hd K hK => go_run rfl (wo_un (fun v => Instr.fieldAt 90 v 1) (.tmp 5) (pt k2 0) (pt k2 1) (fun _ => rfl) rfl (by kernel_rfl) (hK _ (Mo.refl _))))
      · exact og_eq (.agg #[.int .i64 x.wh.k, .int .i64 x.wh.op, .string x.wh.nm, .string x.wh.se, .int .i64 x.wh.v.k, .bool x.wh.v.d.b, .int .u64 x.wh.v.d.n0, .int .u64 x.wh.v.d.n1, .int .u64 x.wh.v.d.n2, .int .u64 x.wh.v.d.n3, .int .i64 x.wh.v.d.s, .bool x.wh.v.f, .string x.wh.v.t, .int .i64 x.wh.v.e, .int .i64 x.wh.sc, .int .i64 x.wh.po, .slice x.wh.pa x.wh.args.length x.wh.cap]) rfl (fun f wf hq hd K hK => have Q2 := Q2.mo hq; go_run rfl (wo_load 64 (.tmp 14) (pt k2 1) (.agg #[.int .i64 x.wh.k, .int .i64 x.wh.op, .string x.wh.nm, .string x.wh.se, .int .i64 x.wh.v.k, .bool x.wh.v.d.b, .int .u64 x.wh.v.d.n0, .int .u64 x.wh.v.d.n1, .int .u64 x.wh.v.d.n2, .int .u64 x.wh.v.d.n3, .int .i64 x.wh.v.d.s, .bool x.wh.v.f, .string x.wh.v.t, .int .i64 x.wh.v.e, .int .i64 x.wh.sc, .int .i64 x.wh.po, .slice x.wh.pa x.wh.args.length x.wh.cap]) rfl (hd 1 rfl) (run_row Q2 64 1 17 [.int .i64 x.wh.k, .int .i64 x.wh.op, .string x.wh.nm, .string x.wh.se, .int .i64 x.wh.v.k, .bool x.wh.v.d.b, .int .u64 x.wh.v.d.n0, .int .u64 x.wh.v.d.n1, .int .u64 x.wh.v.d.n2, .int .u64 x.wh.v.d.n3, .int .i64 x.wh.v.d.s, .bool x.wh.v.f, .string x.wh.v.t, .int .i64 x.wh.v.e, .int .i64 x.wh.sc, .int .i64 x.wh.po, .slice x.wh.pa x.wh.args.length x.wh.cap] rfl Try.underlying64 rfl sz64) (hK _ (Mo.refl _))))
      · exact og_eq (.int .i64 (szE x.wh)) rfl (fun f wf hq hd K hK => go_run rfl (wo_call 47 [(.tmp 15)] _ [.agg #[.int .i64 x.wh.k, .int .i64 x.wh.op, .string x.wh.nm, .string x.wh.se, .int .i64 x.wh.v.k, .bool x.wh.v.d.b, .int .u64 x.wh.v.d.n0, .int .u64 x.wh.v.d.n1, .int .u64 x.wh.v.d.n2, .int .u64 x.wh.v.d.n3, .int .i64 x.wh.v.d.s, .bool x.wh.v.f, .string x.wh.v.t, .int .i64 x.wh.v.e, .int .i64 x.wh.sc, .int .i64 x.wh.po, .slice x.wh.pa x.wh.args.length x.wh.cap]] (.int .i64 (szE x.wh)) rfl (li1 (hd 2 rfl)) (fun _ _ => by kernel_rfl) (size_n x.wh ((hD.wh x (List.mem_of_getElem? hx)).kp (M.trans hq).kp)) hK))
      · exact og_eq (.int .i64 (IntKind.i64.wrap (1 + szE x.wh))) rfl (fun f wf hq hd K hK => go_run rfl (wo_bin (fun x y => do eqGuard .add 3 (.const (.int .i64 (1))) (.tmp 16) x y; binOp .add 3 x y) (.const (.int .i64 (1))) (.tmp 16) (.int .i64 (1)) (.int .i64 (szE x.wh)) (.int .i64 (IntKind.i64.wrap (1 + szE x.wh))) (fun _ => rfl) rfl (hd 3 rfl) (addw _ _ _ _ _) (hK _ (Mo.refl _))))
      · exact og_eq (pt k2 18) rfl (fun f wf hq hd K hK => go_run rfl (wo_un (fun v => Instr.fieldAt 90 v 2) (.tmp 5) (pt k2 0) (pt k2 18) (fun _ => rfl) rfl (by kernel_rfl) (hK _ (Mo.refl _))))
      · exact og_eq (.slice x.pa x.its.length x.cap) rfl (fun f wf hq hd K hK => have Q2 := Q2.mo hq; go_run rfl (wo_load 45 (.tmp 18) (pt k2 18) (.slice x.pa x.its.length x.cap) rfl (hd 5 rfl) (run_one Q2 45 18 rfl Try.underlying45 rfl) (hK _ (Mo.refl _))))
      · exact og_eq (.int .i64 ((x.its.length : Nat) : Int)) rfl (fun f wf hq hd K hK => go_run rfl (wo_val (.int .i64 ((x.its.length : Nat) : Int)) (len45 _ _ _ _ _ (by exact (hd 6 rfl)) _ _ _ _ _ _) (hK _ (Mo.refl _))))
      · exact og_eq (.int .i64 (IntKind.i64.wrap (IntKind.i64.wrap (1 + szE x.wh) + ((x.its.length : Nat) : Int)))) rfl (fun f wf hq hd K hK => go_run rfl (wo_bin (fun x y => do eqGuard .add 3 (.tmp 17) (.tmp 20) x y; binOp .add 3 x y) (.tmp 17) (.tmp 20) (.int .i64 (IntKind.i64.wrap (1 + szE x.wh))) (.int .i64 ((x.its.length : Nat) : Int)) (.int .i64 (IntKind.i64.wrap (IntKind.i64.wrap (1 + szE x.wh) + ((x.its.length : Nat) : Int)))) (fun _ => rfl) (hd 4 rfl) (hd 7 rfl) (addw _ _ _ _ _) (hK _ (Mo.refl _))))
    intro kf43 u43 hq hR hne
    replace Q2 := Q2.mo hq
    replace M := M.trans hq
    clear hq hR hne
    refine wl_bin (fun x y => do eqGuard .add 3 (.tmp 13) (.tmp 21) x y; binOp .add 3 x y) (.tmp 13) (.tmp 21) (.int .i64 (n3)) (.int .i64 (IntKind.i64.wrap (IntKind.i64.wrap (1 + szE x.wh) + ((x.its.length : Nat) : Int)))) (.int .i64 (IntKind.i64.wrap (n3 + IntKind.i64.wrap (IntKind.i64.wrap (1 + szE x.wh) + ((x.its.length : Nat) : Int))))) (fun _ => rfl) rfl rfl (addw _ _ _ _ _) rfl ?_
    refine wl_mv (.tmp 22) (.int .i64 (IntKind.i64.wrap (n3 + IntKind.i64.wrap (IntKind.i64.wrap (1 + szE x.wh) + ((x.its.length : Nat) : Int))))) (fun _ => rfl) rfl rfl ?_
    refine w_nil ?_
    refine xn_blk ?_
    refine xn_then ?_
    refine w_reg ?_
    refine wl_bin (fun x y => do eqGuard .add 3 (.tmp 9) (.const (.int .i64 (1))) x y; binOp .add 3 x y) (.tmp 9) (.const (.int .i64 (1))) (.int .i64 ((i : Nat) : Int)) (.int .i64 (1)) (.int .i64 ((i + 1 : Nat) : Int)) (fun _ => rfl) e40_i rfl (add1r (k := i) (by omega) _ _ _) rfl ?_
    refine wl_mv (.tmp 23) (.int .i64 ((i + 1 : Nat) : Int)) (fun _ => rfl) rfl rfl ?_
    refine w_nil ?_
    exact xn_loop (d.pg.length - (i + 1)) (by omega) ⟨i + 1, rfl, by omega, e40_7, e40_8, rfl, ⟨_, rfl⟩, M⟩
  · skip
    have hid : decide (i < d.pg.length) = false := decide_eq_false hil
    have hie : i = d.pg.length := by omega
    obtain ⟨n3, e3⟩ := e3x
    refine w_seq ?_
    refine w_reg ?_
    refine wl_bin (fun x y => do eqGuard .lss 3 (.tmp 9) (.tmp 8) x y; binOp .lss 3 x y) (.tmp 9) (.tmp 8) (.int .i64 ((i : Nat) : Int)) (.int .i64 ((d.pg.length : Nat) : Int)) (.bool false) (fun _ => rfl) e40_i e40_8 (ltN hid _ _ _) rfl ?_
    refine w_nil ?_
    refine xn_then ?_
    refine w_seq ?_
    refine w_condF rfl ?_
    refine w_exit ?_
    refine xx_then ?_
    refine xx_then ?_
    refine xx_blk ?_
    refine xn_then ?_
    refine w_seq ?_
    refine w_reg ?_
    refine wl_mv (.tmp 3) (.int .i64 (n3)) (fun _ => rfl) e3 rfl ?_
    refine wl_mv (.tmp 24) (.int .i64 (n3)) (fun _ => rfl) rfl rfl ?_
    refine w_nil ?_
    refine xn_then ?_
    refine w_ret ?_
    exact w_ret1 _ (.int .i64 (n3)) rfl rfl ⟨_, rfl, M⟩
theorem fits_n (d : Df) {w : World} (hD : LDf w d) : Calls Try.prog 8 #[.agg (d.cells).toArray] w fun e w' => ∃ b : Bool, e = .returned (.bool b) ∧ Mo w w' := by
  refine w_enter 18 Try.func8 Try.ntmps8 rfl rfl ?_
  have M : Mo w w := Mo.refl _
  refine w_seq ?_
  refine w_reg ?_
  refine wl_box 29 (.tmp 0) (.agg (d.cells).toArray) (((d.cells).toArray)) rfl rfl (fun _ => by kernel_rfl) rfl ?_
  intro k1 u1 hk hz hq Q1
  have N_k1 : w.heap.size ≤ k1 := by have := M.size; omega
  replace M := M.trans hq
  clear hk hz hq
  refine wl_mv (.const (.bool false)) (.bool false) (fun _ => rfl) rfl rfl ?_
  refine w_nil ?_
  refine xn_then ?_
  refine w_seq ?_
  refine w_reg ?_
  refine wl_un (fun v => Instr.fieldAt 29 v 1) (.tmp 1) (pt k1 0) (pt k1 1) (fun _ => rfl) rfl (by kernel_rfl) rfl ?_
  refine wl_load 25 (.tmp 3) (pt k1 1) (.agg (d.rt.cells).toArray) rfl rfl (run_row Q1 25 1 4 (d.rt.cells) rfl Try.underlying25 rfl sz25) rfl ?_
  refine wl_callx 26 [(.tmp 4)] _ [.agg (d.rt.cells).toArray] rfl rfl (fun _ _ => by kernel_rfl) (deep_n d.rt (hD.rt.kp M.kp)) rfl ?_
  rintro e9 u2 ⟨r1, rfl, hq⟩
  refine ⟨_, rfl, ?_⟩
  replace Q1 := Q1.mo hq
  replace M := M.trans hq
  clear hq
  cases hf0 : decide (r1 ≤ 40) with
  | true =>
    have hf0p := of_decide_eq_true hf0
    refine wl_bin (fun x y => do eqGuard .leq 3 (.tmp 5) (.const (.int .i64 (40))) x y; binOp .leq 3 x y) (.tmp 5) (.const (.int .i64 (40))) (.int .i64 (r1)) (.int .i64 (40)) (.bool true) (fun _ => rfl) rfl rfl (le3 hf0 _ _ _) rfl ?_
    refine wl_mv (.tmp 6) (.bool true) (fun _ => rfl) rfl rfl ?_
    refine wl_un (fun v => Instr.fieldAt 29 v 1) (.tmp 1) (pt k1 0) (pt k1 1) (fun _ => rfl) rfl (by kernel_rfl) rfl ?_
    refine wl_load 25 (.tmp 8) (pt k1 1) (.agg (d.rt.cells).toArray) rfl rfl (run_row Q1 25 1 4 (d.rt.cells) rfl Try.underlying25 rfl sz25) rfl ?_
    refine wl_callx 27 [(.tmp 9)] _ [.agg (d.rt.cells).toArray] rfl rfl (fun _ _ => by kernel_rfl) (nodes_n d.rt (hD.rt.kp M.kp)) rfl ?_
    rintro e9 u3 ⟨r2, rfl, hq⟩
    refine ⟨_, rfl, ?_⟩
    replace Q1 := Q1.mo hq
    replace M := M.trans hq
    clear hq
    cases hf1 : decide (r2 ≤ 2000) with
    | true =>
      have hf1p := of_decide_eq_true hf1
      refine wl_bin (fun x y => do eqGuard .leq 3 (.tmp 10) (.const (.int .i64 (2000))) x y; binOp .leq 3 x y) (.tmp 10) (.const (.int .i64 (2000))) (.int .i64 (r2)) (.int .i64 (2000)) (.bool true) (fun _ => rfl) rfl rfl (le3 hf1 _ _ _) rfl ?_
      refine wl_pick (.tmp 7) (.tmp 11) (.const (.bool false)) true (.bool true) (fun _ => rfl) rfl rfl rfl ?_
      refine wl_mv (.tmp 12) (.bool true) (fun _ => rfl) rfl rfl ?_
      refine wl_load 29 (.tmp 1) (pt k1 0) (.agg (d.cells).toArray) rfl rfl (run_row Q1 29 0 7 (d.cells) rfl Try.underlying29 rfl sz29) rfl ?_
      refine wl_callx 28 [(.tmp 14)] _ [.agg (d.cells).toArray] rfl rfl (fun _ _ => by kernel_rfl) (pages_c d (hD.kp M.kp)) rfl ?_
      rintro e9 u4 ⟨r3, rfl, hq⟩
      refine ⟨_, rfl, ?_⟩
      replace Q1 := Q1.mo hq
      replace M := M.trans hq
      clear hq
      cases hf2 : decide (r3 ≤ 2000) with
      | true =>
        have hf2p := of_decide_eq_true hf2
        refine wl_bin (fun x y => do eqGuard .leq 3 (.tmp 15) (.const (.int .i64 (2000))) x y; binOp .leq 3 x y) (.tmp 15) (.const (.int .i64 (2000))) (.int .i64 (r3)) (.int .i64 (2000)) (.bool true) (fun _ => rfl) rfl rfl (le3 hf2 _ _ _) rfl ?_
        refine wl_pick (.tmp 13) (.tmp 16) (.const (.bool false)) true (.bool true) (fun _ => rfl) rfl rfl rfl ?_
        refine wl_mv (.tmp 17) (.bool true) (fun _ => rfl) rfl rfl ?_
        refine w_nil ?_
        refine xn_then ?_
        refine w_ret ?_
        exact w_ret1 _ (.bool true) rfl rfl ⟨_, rfl, M⟩
      | false =>
        have hf2p := of_decide_eq_false hf2
        refine wl_bin (fun x y => do eqGuard .leq 3 (.tmp 15) (.const (.int .i64 (2000))) x y; binOp .leq 3 x y) (.tmp 15) (.const (.int .i64 (2000))) (.int .i64 (r3)) (.int .i64 (2000)) (.bool false) (fun _ => rfl) rfl rfl (le3 hf2 _ _ _) rfl ?_
        refine wl_pick (.tmp 13) (.tmp 16) (.const (.bool false)) true (.bool false) (fun _ => rfl) rfl rfl rfl ?_
        refine wl_mv (.tmp 17) (.bool false) (fun _ => rfl) rfl rfl ?_
        refine w_nil ?_
        refine xn_then ?_
        refine w_ret ?_
        exact w_ret1 _ (.bool false) rfl rfl ⟨_, rfl, M⟩
    | false =>
      have hf1p := of_decide_eq_false hf1
      refine wl_bin (fun x y => do eqGuard .leq 3 (.tmp 10) (.const (.int .i64 (2000))) x y; binOp .leq 3 x y) (.tmp 10) (.const (.int .i64 (2000))) (.int .i64 (r2)) (.int .i64 (2000)) (.bool false) (fun _ => rfl) rfl rfl (le3 hf1 _ _ _) rfl ?_
      refine wl_pick (.tmp 7) (.tmp 11) (.const (.bool false)) true (.bool false) (fun _ => rfl) rfl rfl rfl ?_
      refine wl_mv (.tmp 12) (.bool false) (fun _ => rfl) rfl rfl ?_
      refine wl_skip rfl ?_
      refine wl_skip rfl ?_
      refine wl_skip rfl ?_
      refine wl_pick (.tmp 13) (.tmp 16) (.const (.bool false)) false (.bool false) (fun _ => rfl) rfl rfl rfl ?_
      refine wl_mv (.tmp 17) (.bool false) (fun _ => rfl) rfl rfl ?_
      refine w_nil ?_
      refine xn_then ?_
      refine w_ret ?_
      exact w_ret1 _ (.bool false) rfl rfl ⟨_, rfl, M⟩
  | false =>
    have hf0p := of_decide_eq_false hf0
    refine wl_bin (fun x y => do eqGuard .leq 3 (.tmp 5) (.const (.int .i64 (40))) x y; binOp .leq 3 x y) (.tmp 5) (.const (.int .i64 (40))) (.int .i64 (r1)) (.int .i64 (40)) (.bool false) (fun _ => rfl) rfl rfl (le3 hf0 _ _ _) rfl ?_
    refine wl_mv (.tmp 6) (.bool false) (fun _ => rfl) rfl rfl ?_
    refine wl_skip rfl ?_
    refine wl_skip rfl ?_
    refine wl_skip rfl ?_
    refine wl_skip rfl ?_
    refine wl_pick (.tmp 7) (.tmp 11) (.const (.bool false)) false (.bool false) (fun _ => rfl) rfl rfl rfl ?_
    refine wl_mv (.tmp 12) (.bool false) (fun _ => rfl) rfl rfl ?_
    refine wl_skip rfl ?_
    refine wl_skip rfl ?_
    refine wl_skip rfl ?_
    refine wl_pick (.tmp 13) (.tmp 16) (.const (.bool false)) false (.bool false) (fun _ => rfl) rfl rfl rfl ?_
    refine wl_mv (.tmp 17) (.bool false) (fun _ => rfl) rfl rfl ?_
    refine w_nil ?_
    refine xn_then ?_
    refine w_ret ?_
    exact w_ret1 _ (.bool false) rfl rfl ⟨_, rfl, M⟩
theorem guard_run {op : BinOp} {ty : TypeId} {a b : Array Value} {w : World} (x y : Operand) (hg : Try.prog.eqGuardType Try.prog.depth ty = false) : (eqGuard op ty x y (.agg a) (.agg b)).run Try.prog w = .ok () w := by
  unfold eqGuard
  cases op <;> simp [hg]
theorem ht33 : Try.prog.underlying 33 = some (.struct (Try.prog.fieldsOf 33)) := by kernel_rfl
theorem hp33 : Try.prog.stoodInHeld 33 = false := by kernel_rfl
theorem fo33 : (Try.prog.fieldsOf 33).toList.map (fun f => (f.name, f.type, f.offset)) = [("Kind", 3, 0), ("Section", 3, 1), ("Item", 3, 2), ("Table", 3, 3), ("Page", 3, 4)] := by kernel_rfl
theorem p33_0 (x0 x1 x2 x3 x4 : Value) (w : World) : (part 3 #[x0, x1, x2, x3, x4] 0).run Try.prog w = .ok x0 w := by kernel_rfl
theorem p33_1 (x0 x1 x2 x3 x4 : Value) (w : World) : (part 3 #[x0, x1, x2, x3, x4] 1).run Try.prog w = .ok x1 w := by kernel_rfl
theorem p33_2 (x0 x1 x2 x3 x4 : Value) (w : World) : (part 3 #[x0, x1, x2, x3, x4] 2).run Try.prog w = .ok x2 w := by kernel_rfl
theorem p33_3 (x0 x1 x2 x3 x4 : Value) (w : World) : (part 3 #[x0, x1, x2, x3, x4] 3).run Try.prog w = .ok x3 w := by kernel_rfl
theorem p33_4 (x0 x1 x2 x3 x4 : Value) (w : World) : (part 3 #[x0, x1, x2, x3, x4] 4).run Try.prog w = .ok x4 w := by kernel_rfl
theorem eq33n (k s i t p : Int) (w : World) : (Op.equalIn 10000 33 (plc k s i t p) (plc k s i t p)).run Try.prog w = .ok true w := by
  rw [show (10000 : Nat) = 9999 + 1 from rfl, run_equalIn_struct w 9999 33 _ _ ht33 hp33]
  have h := fo33
  generalize (Try.prog.fieldsOf 33).toList = L at h
  have hl : L.length = 5 := by have := congrArg List.length h; simpa using this
  match L, hl with
  | [f0, f1, f2, f3, f4], _ =>
    simp at h
    obtain ⟨⟨a0, a1, a2⟩, ⟨b0, b1, b2⟩, ⟨c0, c1, c2⟩, ⟨d0, d1, d2⟩, ⟨e0, e1, e2⟩⟩ := h
    have q : ∀ x : Int, (Op.equalIn 9999 3 (.int .i64 x) (.int .i64 x)).run Try.prog w = .ok true w := fun x => by rw [run_equalIn_int w 9998 3 .i64 .i64 x x Try.underlying3]; simp
    simp [Op.eqFields, a0, a1, a2, b0, b1, b2, c0, c1, c2, d0, d1, d2, e0, e1, e2, Sem.run_bind, p33_0, p33_1, p33_2, p33_3, p33_4, Result.andThen_ok, q, Sem.run_pure]
theorem gt33 : Try.prog.eqGuardType Try.prog.depth 33 = false := by kernel_rfl
theorem eq33 (k s i t p : Int) (x y : Operand) (w : World) : (do eqGuard .eql 33 x y (plc k s i t p) (plc k s i t p); binOp .eql 33 (plc k s i t p) (plc k s i t p)).run Try.prog w = .ok (.bool true) w := by
  have e : binOp .eql 33 (plc k s i t p) (plc k s i t p) = (do pure (.bool (← Op.equalIn 10000 33 (plc k s i t p) (plc k s i t p)))) := rfl
  rw [Sem.run_bind, guard_run x y gt33, e, Result.andThen_ok, Sem.run_bind, eq33n]; rfl
theorem schecks_n (d : Df) {w : World} (hD : LDf w d) : Calls Try.prog 3 #[.agg (d.cells).toArray] w fun e w' => e = .returned (.bool true) ∧ Mo w w' := by
  refine w_enter 33 Try.func3 Try.ntmps3 rfl rfl ?_
  have M : Mo w w := Mo.refl _
  refine w_seq ?_
  refine w_reg ?_
  refine wl_box 29 (.tmp 0) (.agg (d.cells).toArray) (((d.cells).toArray)) rfl rfl (fun _ => by kernel_rfl) rfl ?_
  intro k1 u1 hk hz hq Q1
  have N_k1 : w.heap.size ≤ k1 := by have := M.size; omega
  replace M := M.trans hq
  clear hk hz hq
  refine wl_mv (.const (.bool false)) (.bool false) (fun _ => rfl) rfl rfl ?_
  refine w_nil ?_
  refine xn_then ?_
  refine w_seq ?_
  refine w_seq ?_
  refine w_reg ?_
  refine wl_load 29 (.tmp 1) (pt k1 0) (.agg (d.cells).toArray) rfl rfl (run_row Q1 29 0 7 (d.cells) rfl Try.underlying29 rfl sz29) rfl ?_
  refine wl_callx 8 [(.tmp 7)] _ [.agg (d.cells).toArray] rfl rfl (fun _ _ => by kernel_rfl) (fits_n d (hD.kp M.kp)) rfl ?_
  rintro e9 u2 ⟨b9, rfl, hq⟩
  refine ⟨_, rfl, ?_⟩
  replace Q1 := Q1.mo hq
  replace M := M.trans hq
  clear hq
  cases b9 with
  | true =>
    refine wl_un (fun v => Op.unary .not v) (.tmp 8) (.bool true) (.bool false) (fun _ => rfl) rfl (by kernel_rfl) rfl ?_
    refine wl_mv (.tmp 9) (.bool false) (fun _ => rfl) rfl rfl ?_
    refine wl_call 9 [] _ [] (.bool true) rfl rfl (fun _ _ => by kernel_rfl) (live_n _) rfl ?_
    intro u3 hq
    replace Q1 := Q1.mo hq
    replace M := M.trans hq
    clear hq
    refine wl_un (fun v => Op.unary .not v) (.tmp 11) (.bool true) (.bool false) (fun _ => rfl) rfl (by kernel_rfl) rfl ?_
    refine wl_pick (.tmp 10) (.const (.bool true)) (.tmp 12) false (.bool false) (fun _ => rfl) rfl rfl rfl ?_
    refine w_nil ?_
    refine xn_then ?_
    refine w_condF rfl ?_
    refine w_skip ?_
    refine xn_then ?_
    refine w_seq ?_
    refine w_reg ?_
    refine wl_load 29 (.tmp 1) (pt k1 0) (.agg (d.cells).toArray) rfl rfl (run_row Q1 29 0 7 (d.cells) rfl Try.underlying29 rfl sz29) rfl ?_
    cases hf0 : (chk d).isNone with
    | true =>
      have hck := isnn hf0
      refine wl_call 10 [(.tmp 16)] _ [.agg (d.cells).toArray] (.tuple #[.agg #[.int .i64 0, .int .i64 0, .int .i64 0, .int .i64 0, .int .i64 0], .int .i64 (0)]) rfl rfl (fun _ _ => by kernel_rfl) (by have h := check_n d (hD.kp M.kp); rw [hck] at h; exact h) rfl ?_
      intro u4 hq
      replace Q1 := Q1.mo hq
      replace M := M.trans hq
      clear hq
      refine wl_mv (.tmp 17) (.tuple #[.agg #[.int .i64 0, .int .i64 0, .int .i64 0, .int .i64 0, .int .i64 0], .int .i64 (0)]) (fun _ => rfl) rfl rfl ?_
      refine wl_un (fun v => Instr.extract v 0) (.tmp 15) (.tuple #[.agg #[.int .i64 0, .int .i64 0, .int .i64 0, .int .i64 0, .int .i64 0], .int .i64 (0)]) (.agg #[.int .i64 0, .int .i64 0, .int .i64 0, .int .i64 0, .int .i64 0]) (fun _ => rfl) rfl (by kernel_rfl) rfl ?_
      refine wl_un (fun v => Instr.extract v 1) (.tmp 15) (.tuple #[.agg #[.int .i64 0, .int .i64 0, .int .i64 0, .int .i64 0, .int .i64 0], .int .i64 (0)]) (.int .i64 (0)) (fun _ => rfl) rfl (by kernel_rfl) rfl ?_
      refine wl_alloc 33 #[.int .i64 0, .int .i64 0, .int .i64 0, .int .i64 0, .int .i64 0] rfl (fun _ => by kernel_rfl) rfl ?_
      intro k2 u5 hk hz hq Q2
      have ne_k1_k2 : k1 ≠ k2 := by have := Q1.lt; omega
      have N_k2 : w.heap.size ≤ k2 := by have := M.size; omega
      replace Q1 := Q1.mo hq
      replace M := M.trans hq
      clear hk hz hq
      refine wl_st 33 (.tmp 3) (.tmp 18) k2 0 #[.int .i64 0, .int .i64 0, .int .i64 0, .int .i64 0, .int .i64 0] [.int .i64 0, .int .i64 0, .int .i64 0, .int .i64 0, .int .i64 0] [.int .i64 0, .int .i64 0, .int .i64 0, .int .i64 0, .int .i64 0] Q2 rfl rfl rfl rfl rfl sz33 rfl rfl rfl ?_
      intro u6 hS Qn
      replace Q2 := Qn
      clear Qn
      replace Q1 := hS.other _ _ ne_k1_k2 Q1
      replace M := hS.mo _ N_k2 M
      clear hS
      refine wl_mv (.tmp 19) (.int .i64 (0)) (fun _ => rfl) rfl rfl ?_
      refine w_nil ?_
      refine xn_then ?_
      refine w_seq ?_
      refine w_reg ?_
      refine wl_load 29 (.tmp 1) (pt k1 0) (.agg (d.cells).toArray) rfl rfl (run_row Q1 29 0 7 (d.cells) rfl Try.underlying29 rfl sz29) rfl ?_
      refine wl_call 11 [(.tmp 21)] _ [.agg (d.cells).toArray] (.tuple #[.agg #[.int .i64 0, .int .i64 0, .int .i64 0, .int .i64 0, .int .i64 0], .int .i64 (0)]) rfl rfl (fun _ _ => by kernel_rfl) (by have h := rcheck_n d (hD.kp M.kp); rw [hck] at h; exact h) rfl ?_
      intro u7 hq
      replace Q1 := Q1.mo hq
      replace Q2 := Q2.mo hq
      replace M := M.trans hq
      clear hq
      refine wl_mv (.tmp 22) (.tuple #[.agg #[.int .i64 0, .int .i64 0, .int .i64 0, .int .i64 0, .int .i64 0], .int .i64 (0)]) (fun _ => rfl) rfl rfl ?_
      refine wl_un (fun v => Instr.extract v 0) (.tmp 20) (.tuple #[.agg #[.int .i64 0, .int .i64 0, .int .i64 0, .int .i64 0, .int .i64 0], .int .i64 (0)]) (.agg #[.int .i64 0, .int .i64 0, .int .i64 0, .int .i64 0, .int .i64 0]) (fun _ => rfl) rfl (by kernel_rfl) rfl ?_
      refine wl_un (fun v => Instr.extract v 1) (.tmp 20) (.tuple #[.agg #[.int .i64 0, .int .i64 0, .int .i64 0, .int .i64 0, .int .i64 0], .int .i64 (0)]) (.int .i64 (0)) (fun _ => rfl) rfl (by kernel_rfl) rfl ?_
      refine wl_alloc 33 #[.int .i64 0, .int .i64 0, .int .i64 0, .int .i64 0, .int .i64 0] rfl (fun _ => by kernel_rfl) rfl ?_
      intro k3 u8 hk hz hq Q3
      have ne_k1_k3 : k1 ≠ k3 := by have := Q1.lt; omega
      have ne_k2_k3 : k2 ≠ k3 := by have := Q2.lt; omega
      have N_k3 : w.heap.size ≤ k3 := by have := M.size; omega
      replace Q1 := Q1.mo hq
      replace Q2 := Q2.mo hq
      replace M := M.trans hq
      clear hk hz hq
      refine wl_st 33 (.tmp 5) (.tmp 23) k3 0 #[.int .i64 0, .int .i64 0, .int .i64 0, .int .i64 0, .int .i64 0] [.int .i64 0, .int .i64 0, .int .i64 0, .int .i64 0, .int .i64 0] [.int .i64 0, .int .i64 0, .int .i64 0, .int .i64 0, .int .i64 0] Q3 rfl rfl rfl rfl rfl sz33 rfl rfl rfl ?_
      intro u9 hS Qn
      replace Q3 := Qn
      clear Qn
      replace Q1 := hS.other _ _ ne_k1_k3 Q1
      replace Q2 := hS.other _ _ ne_k2_k3 Q2
      replace M := hS.mo _ N_k3 M
      clear hS
      refine wl_mv (.tmp 24) (.int .i64 (0)) (fun _ => rfl) rfl rfl ?_
      refine w_nil ?_
      refine xn_then ?_
      refine w_seq ?_
      refine w_reg ?_
      refine wl_load 33 (.tmp 3) (pt k2 0) (.agg #[.int .i64 0, .int .i64 0, .int .i64 0, .int .i64 0, .int .i64 0]) rfl rfl (run_row Q2 33 0 5 [.int .i64 0, .int .i64 0, .int .i64 0, .int .i64 0, .int .i64 0] rfl Try.underlying33 rfl sz33) rfl ?_
      refine wl_load 33 (.tmp 5) (pt k3 0) (.agg #[.int .i64 0, .int .i64 0, .int .i64 0, .int .i64 0, .int .i64 0]) rfl rfl (run_row Q3 33 0 5 [.int .i64 0, .int .i64 0, .int .i64 0, .int .i64 0, .int .i64 0] rfl Try.underlying33 rfl sz33) rfl ?_
      refine wl_bin (fun x y => do eqGuard .eql 33 (.tmp 25) (.tmp 26) x y; binOp .eql 33 x y) (.tmp 25) (.tmp 26) (.agg #[.int .i64 0, .int .i64 0, .int .i64 0, .int .i64 0, .int .i64 0]) (.agg #[.int .i64 0, .int .i64 0, .int .i64 0, .int .i64 0, .int .i64 0]) (.bool true) (fun _ => rfl) rfl rfl (eq33 _ _ _ _ _ _ _ _) rfl ?_
      refine wl_mv (.tmp 27) (.bool true) (fun _ => rfl) rfl rfl ?_
      refine wl_mv (.tmp 4) (.int .i64 (0)) (fun _ => rfl) rfl rfl ?_
      refine wl_mv (.tmp 6) (.int .i64 (0)) (fun _ => rfl) rfl rfl ?_
      refine wl_bin (fun x y => do eqGuard .eql 34 (.tmp 29) (.tmp 30) x y; binOp .eql 34 x y) (.tmp 29) (.tmp 30) (.int .i64 (0)) (.int .i64 (0)) (.bool true) (fun _ => rfl) rfl rfl (eq34 (r := true) (decide_eq_true rfl) _ _ _) rfl ?_
      refine wl_pick (.tmp 28) (.tmp 31) (.const (.bool false)) true (.bool true) (fun _ => rfl) rfl rfl rfl ?_
      refine wl_mv (.tmp 32) (.bool true) (fun _ => rfl) rfl rfl ?_
      refine w_nil ?_
      refine xn_then ?_
      refine w_ret ?_
      exact w_ret1 _ (.bool true) rfl rfl ⟨rfl, M⟩
    | false =>
      obtain ⟨k9, s9, i9, t9, p9, e9, hck, _⟩ := Pk.some (pk_chk d) hf0
      refine wl_call 10 [(.tmp 16)] _ [.agg (d.cells).toArray] (.tuple #[.agg #[.int .i64 k9, .int .i64 s9, .int .i64 i9, .int .i64 t9, .int .i64 p9], .int .i64 (e9)]) rfl rfl (fun _ _ => by kernel_rfl) (by have h := check_n d (hD.kp M.kp); rw [hck] at h; exact h) rfl ?_
      intro u4 hq
      replace Q1 := Q1.mo hq
      replace M := M.trans hq
      clear hq
      refine wl_mv (.tmp 17) (.tuple #[.agg #[.int .i64 k9, .int .i64 s9, .int .i64 i9, .int .i64 t9, .int .i64 p9], .int .i64 (e9)]) (fun _ => rfl) rfl rfl ?_
      refine wl_un (fun v => Instr.extract v 0) (.tmp 15) (.tuple #[.agg #[.int .i64 k9, .int .i64 s9, .int .i64 i9, .int .i64 t9, .int .i64 p9], .int .i64 (e9)]) (.agg #[.int .i64 k9, .int .i64 s9, .int .i64 i9, .int .i64 t9, .int .i64 p9]) (fun _ => rfl) rfl (by kernel_rfl) rfl ?_
      refine wl_un (fun v => Instr.extract v 1) (.tmp 15) (.tuple #[.agg #[.int .i64 k9, .int .i64 s9, .int .i64 i9, .int .i64 t9, .int .i64 p9], .int .i64 (e9)]) (.int .i64 (e9)) (fun _ => rfl) rfl (by kernel_rfl) rfl ?_
      refine wl_alloc 33 #[.int .i64 0, .int .i64 0, .int .i64 0, .int .i64 0, .int .i64 0] rfl (fun _ => by kernel_rfl) rfl ?_
      intro k2 u5 hk hz hq Q2
      have ne_k1_k2 : k1 ≠ k2 := by have := Q1.lt; omega
      have N_k2 : w.heap.size ≤ k2 := by have := M.size; omega
      replace Q1 := Q1.mo hq
      replace M := M.trans hq
      clear hk hz hq
      refine wl_st 33 (.tmp 3) (.tmp 18) k2 0 #[.int .i64 k9, .int .i64 s9, .int .i64 i9, .int .i64 t9, .int .i64 p9] [.int .i64 0, .int .i64 0, .int .i64 0, .int .i64 0, .int .i64 0] [.int .i64 k9, .int .i64 s9, .int .i64 i9, .int .i64 t9, .int .i64 p9] Q2 rfl rfl rfl rfl rfl sz33 rfl rfl rfl ?_
      intro u6 hS Qn
      replace Q2 := Qn
      clear Qn
      replace Q1 := hS.other _ _ ne_k1_k2 Q1
      replace M := hS.mo _ N_k2 M
      clear hS
      refine wl_mv (.tmp 19) (.int .i64 (e9)) (fun _ => rfl) rfl rfl ?_
      refine w_nil ?_
      refine xn_then ?_
      refine w_seq ?_
      refine w_reg ?_
      refine wl_load 29 (.tmp 1) (pt k1 0) (.agg (d.cells).toArray) rfl rfl (run_row Q1 29 0 7 (d.cells) rfl Try.underlying29 rfl sz29) rfl ?_
      refine wl_call 11 [(.tmp 21)] _ [.agg (d.cells).toArray] (.tuple #[.agg #[.int .i64 k9, .int .i64 s9, .int .i64 i9, .int .i64 t9, .int .i64 p9], .int .i64 (e9)]) rfl rfl (fun _ _ => by kernel_rfl) (by have h := rcheck_n d (hD.kp M.kp); rw [hck] at h; exact h) rfl ?_
      intro u7 hq
      replace Q1 := Q1.mo hq
      replace Q2 := Q2.mo hq
      replace M := M.trans hq
      clear hq
      refine wl_mv (.tmp 22) (.tuple #[.agg #[.int .i64 k9, .int .i64 s9, .int .i64 i9, .int .i64 t9, .int .i64 p9], .int .i64 (e9)]) (fun _ => rfl) rfl rfl ?_
      refine wl_un (fun v => Instr.extract v 0) (.tmp 20) (.tuple #[.agg #[.int .i64 k9, .int .i64 s9, .int .i64 i9, .int .i64 t9, .int .i64 p9], .int .i64 (e9)]) (.agg #[.int .i64 k9, .int .i64 s9, .int .i64 i9, .int .i64 t9, .int .i64 p9]) (fun _ => rfl) rfl (by kernel_rfl) rfl ?_
      refine wl_un (fun v => Instr.extract v 1) (.tmp 20) (.tuple #[.agg #[.int .i64 k9, .int .i64 s9, .int .i64 i9, .int .i64 t9, .int .i64 p9], .int .i64 (e9)]) (.int .i64 (e9)) (fun _ => rfl) rfl (by kernel_rfl) rfl ?_
      refine wl_alloc 33 #[.int .i64 0, .int .i64 0, .int .i64 0, .int .i64 0, .int .i64 0] rfl (fun _ => by kernel_rfl) rfl ?_
      intro k3 u8 hk hz hq Q3
      have ne_k1_k3 : k1 ≠ k3 := by have := Q1.lt; omega
      have ne_k2_k3 : k2 ≠ k3 := by have := Q2.lt; omega
      have N_k3 : w.heap.size ≤ k3 := by have := M.size; omega
      replace Q1 := Q1.mo hq
      replace Q2 := Q2.mo hq
      replace M := M.trans hq
      clear hk hz hq
      refine wl_st 33 (.tmp 5) (.tmp 23) k3 0 #[.int .i64 k9, .int .i64 s9, .int .i64 i9, .int .i64 t9, .int .i64 p9] [.int .i64 0, .int .i64 0, .int .i64 0, .int .i64 0, .int .i64 0] [.int .i64 k9, .int .i64 s9, .int .i64 i9, .int .i64 t9, .int .i64 p9] Q3 rfl rfl rfl rfl rfl sz33 rfl rfl rfl ?_
      intro u9 hS Qn
      replace Q3 := Qn
      clear Qn
      replace Q1 := hS.other _ _ ne_k1_k3 Q1
      replace Q2 := hS.other _ _ ne_k2_k3 Q2
      replace M := hS.mo _ N_k3 M
      clear hS
      refine wl_mv (.tmp 24) (.int .i64 (e9)) (fun _ => rfl) rfl rfl ?_
      refine w_nil ?_
      refine xn_then ?_
      refine w_seq ?_
      refine w_reg ?_
      refine wl_load 33 (.tmp 3) (pt k2 0) (.agg #[.int .i64 k9, .int .i64 s9, .int .i64 i9, .int .i64 t9, .int .i64 p9]) rfl rfl (run_row Q2 33 0 5 [.int .i64 k9, .int .i64 s9, .int .i64 i9, .int .i64 t9, .int .i64 p9] rfl Try.underlying33 rfl sz33) rfl ?_
      refine wl_load 33 (.tmp 5) (pt k3 0) (.agg #[.int .i64 k9, .int .i64 s9, .int .i64 i9, .int .i64 t9, .int .i64 p9]) rfl rfl (run_row Q3 33 0 5 [.int .i64 k9, .int .i64 s9, .int .i64 i9, .int .i64 t9, .int .i64 p9] rfl Try.underlying33 rfl sz33) rfl ?_
      refine wl_bin (fun x y => do eqGuard .eql 33 (.tmp 25) (.tmp 26) x y; binOp .eql 33 x y) (.tmp 25) (.tmp 26) (.agg #[.int .i64 k9, .int .i64 s9, .int .i64 i9, .int .i64 t9, .int .i64 p9]) (.agg #[.int .i64 k9, .int .i64 s9, .int .i64 i9, .int .i64 t9, .int .i64 p9]) (.bool true) (fun _ => rfl) rfl rfl (eq33 _ _ _ _ _ _ _ _) rfl ?_
      refine wl_mv (.tmp 27) (.bool true) (fun _ => rfl) rfl rfl ?_
      refine wl_mv (.tmp 4) (.int .i64 (e9)) (fun _ => rfl) rfl rfl ?_
      refine wl_mv (.tmp 6) (.int .i64 (e9)) (fun _ => rfl) rfl rfl ?_
      refine wl_bin (fun x y => do eqGuard .eql 34 (.tmp 29) (.tmp 30) x y; binOp .eql 34 x y) (.tmp 29) (.tmp 30) (.int .i64 (e9)) (.int .i64 (e9)) (.bool true) (fun _ => rfl) rfl rfl (eq34 (r := true) (decide_eq_true rfl) _ _ _) rfl ?_
      refine wl_pick (.tmp 28) (.tmp 31) (.const (.bool false)) true (.bool true) (fun _ => rfl) rfl rfl rfl ?_
      refine wl_mv (.tmp 32) (.bool true) (fun _ => rfl) rfl rfl ?_
      refine w_nil ?_
      refine xn_then ?_
      refine w_ret ?_
      exact w_ret1 _ (.bool true) rfl rfl ⟨rfl, M⟩
  | false =>
    refine wl_un (fun v => Op.unary .not v) (.tmp 8) (.bool false) (.bool true) (fun _ => rfl) rfl (by kernel_rfl) rfl ?_
    refine wl_mv (.tmp 9) (.bool true) (fun _ => rfl) rfl rfl ?_
    refine wl_skip rfl ?_
    refine wl_skip rfl ?_
    refine wl_pick (.tmp 10) (.const (.bool true)) (.tmp 12) true (.bool true) (fun _ => rfl) rfl rfl rfl ?_
    refine w_nil ?_
    refine xn_then ?_
    refine w_condT rfl ?_
    refine w_seq ?_
    refine w_reg ?_
    refine wl_call 9 [] _ [] (.bool true) rfl rfl (fun _ _ => by kernel_rfl) (live_n _) rfl ?_
    intro u3 hq
    replace Q1 := Q1.mo hq
    replace M := M.trans hq
    clear hq
    refine wl_mv (.tmp 14) (.bool true) (fun _ => rfl) rfl rfl ?_
    refine w_nil ?_
    refine xn_then ?_
    refine w_ret ?_
    refine xr_then ?_
    exact w_ret1 _ (.bool true) rfl rfl ⟨rfl, M⟩
end Go.Proofs.Ytbanldffohopiaa
