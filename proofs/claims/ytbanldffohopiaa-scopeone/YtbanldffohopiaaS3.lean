/-
  lacks; too many sections; the whole.
-/
import Derived.Test.YtbanldffohopiaaS2
namespace Go.Proofs.Ytbanldffohopiaa
open Go.RowKit D
theorem D.Ex.ind2 {M : Ex → Prop} (h : ∀ x : Ex, (∀ o ∈ x.args, M o) → M x) : ∀ e, M e := Ex.ind (fun k op nm se v sc po pa cap args ih => h (.mk k op nm se v sc po pa cap args) ih)
abbrev plc (k s i t p : Int) : Value := .agg #[.int .i64 k, .int .i64 s, .int .i64 i, .int .i64 t, .int .i64 p]
theorem lacks_n {z : Zc} {A : Al} (s : Nat) (hs : s < z.L.length) : ∀ (x : Ex) {w : World}, CK w z A → LEx w x → Calls Try.prog 53 #[pt z.cb 0, .int .i64 ((s : Nat) : Int), .agg (x.cells).toArray] w fun e w' => e = .returned (.bool (lck (kno z.L A s) x)) ∧ Mo w w' := by
  refine Ex.ind2 ?_
  intro x ih w hC hL
  refine w_enter 26 Try.func53 Try.ntmps53 rfl rfl ?_
  have M : Mo w w := Mo.refl _
  refine w_seq ?_
  refine w_reg ?_
  refine wl_box 64 (.tmp 2) (.agg (x.cells).toArray) (((x.cells).toArray)) rfl rfl (fun _ => by kernel_rfl) rfl ?_
  intro k1 w1 hk hz hq Q1
  have N_k1 : w.heap.size ≤ k1 := by have := M.size; omega
  replace M := M.trans hq
  clear hk hz hq
  refine wl_mv (.const (.bool false)) (.bool false) (fun _ => rfl) rfl rfl ?_
  refine w_nil ?_
  refine xn_then ?_
  refine w_seq ?_
  refine w_seq ?_
  refine w_reg ?_
  refine wl_mv (.tmp 0) (pt z.cb 0) (fun _ => rfl) rfl rfl ?_
  refine wl_mv (.tmp 1) (.int .i64 ((s : Nat) : Int)) (fun _ => rfl) rfl rfl ?_
  refine wl_load 64 (.tmp 5) (pt k1 0) (.agg (x.cells).toArray) rfl rfl (run_row Q1 64 0 17 (x.cells) rfl Try.underlying64 rfl sz64) rfl ?_
  cases hf0 : kno z.L A s x with
  | true =>
    refine wl_call 69 [(.tmp 9), (.tmp 10), (.tmp 11)] _ [pt z.cb 0, .int .i64 ((s : Nat) : Int), .agg (x.cells).toArray] (.bool true) rfl rfl (fun _ _ => by kernel_rfl) (cB hf0 (knows_n (hC.mo M) s hs x (hL.kp M.kp))) rfl ?_
    intro w2 hq
    replace Q1 := Q1.mo hq
    replace M := M.trans hq
    clear hq
    refine wl_un (fun v => Op.unary .not v) (.tmp 12) (.bool true) (.bool false) (fun _ => rfl) rfl (by kernel_rfl) rfl ?_
    refine w_nil ?_
    refine xn_then ?_
    refine w_condF rfl ?_
    refine w_skip ?_
    refine xn_then ?_
    refine w_seq ?_
    refine w_seq ?_
    refine w_reg ?_
    refine wl_un (fun v => Instr.fieldAt 64 v 7) (.tmp 5) (pt k1 0) (pt k1 16) (fun _ => rfl) rfl (by kernel_rfl) rfl ?_
    refine wl_load 62 (.tmp 14) (pt k1 16) (.slice x.pa x.args.length x.cap) rfl rfl (run_one Q1 62 16 rfl Try.underlying62 rfl) rfl ?_
    refine wl_val (.int .i64 ((x.args.length : Nat) : Int)) (len62 _ _ _ _ _ (by exact rfl) _ _ _ _ _ _) rfl ?_
    refine wl_mv (.const (.int .i64 (0))) (.int .i64 (0)) (fun _ => rfl) rfl rfl ?_
    refine w_nil ?_
    refine xn_then ?_
    refine w_block ?_
    have hz := hL.sl.1
    unfold maxLen at hz
    refine w_loop (fun m l w1 => ∃ i : Nat, m = x.args.length - i ∧ i ≤ x.args.length ∧ look l 0 = pt z.cb 0 ∧ look l 1 = .int .i64 ((s : Nat) : Int) ∧ look l 15 = .slice x.pa x.args.length x.cap ∧ look l 16 = .int .i64 ((x.args.length : Nat) : Int) ∧ look l 17 = .int .i64 ((i : Nat) : Int) ∧ (x.args.take i).any (lck (kno z.L A s)) = false ∧ Mo w w1) _ ⟨0, rfl, Nat.zero_le _, rfl, rfl, rfl, rfl, rfl, rfl, M⟩ ?_
    clear Q1 M
    rintro m l40 wl40 ⟨i, rfl, hi, e40_0, e40_1, e40_15, e40_16, e40_i, hT, M⟩
    by_cases hil : i < x.args.length
    · skip
      have hid : decide (i < x.args.length) = true := decide_eq_true hil
      obtain ⟨a, hx⟩ := get_of_lt hil
      obtain ⟨b1, o1, hp1, hR1⟩ := D.SL.rw hL.sl hx
      refine w_seq ?_
      refine w_reg ?_
      refine wl_bin (fun x y => do eqGuard .lss 3 (.tmp 17) (.tmp 16) x y; binOp .lss 3 x y) (.tmp 17) (.tmp 16) (.int .i64 ((i : Nat) : Int)) (.int .i64 ((x.args.length : Nat) : Int)) (.bool true) (fun _ => rfl) e40_i e40_16 (ltN hid _ _ _) rfl ?_
      refine w_nil ?_
      refine xn_then ?_
      refine w_seq ?_
      refine w_condT rfl ?_
      refine w_skip ?_
      refine xn_then ?_
      refine w_seq ?_
      refine w_block ?_
      refine w_seq ?_
      refine w_reg ?_
      refine wl_bin (fun x y => Instr.indexAt 62 x y) (.tmp 15) (.tmp 17) (.slice x.pa x.args.length x.cap) (.int .i64 ((i : Nat) : Int)) (pt b1 (o1 + i * 17)) (fun _ => rfl) e40_15 e40_i (ix62 (i := i) hp1 hil _) rfl ?_
      refine wl_load 64 (.tmp 19) (pt b1 (o1 + i * 17)) (.agg (a.cells).toArray) rfl rfl (D.run_partR (hR1.mo M).at' 64 0 17 (a.cells) rfl Try.underlying64 rfl sz64) rfl ?_
      refine wl_alloc 64 #[.int .i64 0, .int .i64 0, .string ⟨#[]⟩, .string ⟨#[]⟩, .int .i64 0, .bool false, .int .u64 0, .int .u64 0, .int .u64 0, .int .u64 0, .int .i64 0, .bool false, .string ⟨#[]⟩, .int .i64 0, .int .i64 0, .int .i64 0, .slice none 0 0] rfl (fun _ => by kernel_rfl) rfl ?_
      intro k2 w41 hk hz hq Q2
      have N_k2 : w.heap.size ≤ k2 := by have := M.size; omega
      replace M := M.trans hq
      clear hk hz hq
      refine wl_st 64 (.tmp 8) (.tmp 20) k2 0 ((a.cells).toArray) [.int .i64 0, .int .i64 0, .string ⟨#[]⟩, .string ⟨#[]⟩, .int .i64 0, .bool false, .int .u64 0, .int .u64 0, .int .u64 0, .int .u64 0, .int .i64 0, .bool false, .string ⟨#[]⟩, .int .i64 0, .int .i64 0, .int .i64 0, .slice none 0 0] (a.cells) Q2 rfl rfl rfl rfl rfl sz64 rfl rfl rfl ?_
      intro w42 hS Qn
      replace Q2 := Qn
      clear Qn
      replace M := hS.mo _ N_k2 M
      clear hS
      refine w_nil ?_
      refine xn_then ?_
      refine w_seq ?_
      refine w_reg ?_
      refine wl_mv (.tmp 0) (pt z.cb 0) (fun _ => rfl) e40_0 rfl ?_
      refine wl_mv (.tmp 1) (.int .i64 ((s : Nat) : Int)) (fun _ => rfl) e40_1 rfl ?_
      refine wl_load 64 (.tmp 8) (pt k2 0) (.agg (a.cells).toArray) rfl rfl (run_row Q2 64 0 17 (a.cells) rfl Try.underlying64 rfl sz64) rfl ?_
      cases hf30 : lck (kno z.L A s) a with
      | true =>
        refine wl_call 53 [(.tmp 21), (.tmp 22), (.tmp 23)] _ [pt z.cb 0, .int .i64 ((s : Nat) : Int), .agg (a.cells).toArray] (.bool true) rfl rfl (fun _ _ => by kernel_rfl) (cB hf30 (ih a (List.mem_of_getElem? hx) (hC.mo M) ((hL.ar a (List.mem_of_getElem? hx)).kp M.kp))) rfl ?_
        intro w43 hq
        replace Q2 := Q2.mo hq
        replace M := M.trans hq
        clear hq
        refine w_nil ?_
        refine xn_then ?_
        refine w_condT rfl ?_
        refine w_seq ?_
        refine w_reg ?_
        refine wl_mv (.const (.bool true)) (.bool true) (fun _ => rfl) rfl rfl ?_
        refine w_nil ?_
        refine xn_then ?_
        refine w_ret ?_
        refine xr_blk ?_
        refine xr_then ?_
        refine xr_then ?_
        refine xr_blk ?_
        refine xr_then ?_
        exact w_ret1 _ (.bool true) rfl rfl ⟨by rw [lck_eq, hf0, any_hit hx hf30]; rfl, M⟩
      | false =>
        refine wl_call 53 [(.tmp 21), (.tmp 22), (.tmp 23)] _ [pt z.cb 0, .int .i64 ((s : Nat) : Int), .agg (a.cells).toArray] (.bool false) rfl rfl (fun _ _ => by kernel_rfl) (cB hf30 (ih a (List.mem_of_getElem? hx) (hC.mo M) ((hL.ar a (List.mem_of_getElem? hx)).kp M.kp))) rfl ?_
        intro w43 hq
        replace Q2 := Q2.mo hq
        replace M := M.trans hq
        clear hq
        refine w_nil ?_
        refine xn_then ?_
        refine w_condF rfl ?_
        refine w_skip ?_
        refine xn_blk ?_
        refine xn_then ?_
        refine w_reg ?_
        refine wl_bin (fun x y => do eqGuard .add 3 (.tmp 17) (.const (.int .i64 (1))) x y; binOp .add 3 x y) (.tmp 17) (.const (.int .i64 (1))) (.int .i64 ((i : Nat) : Int)) (.int .i64 (1)) (.int .i64 ((i + 1 : Nat) : Int)) (fun _ => rfl) e40_i rfl (add1r (k := i) (by omega) _ _ _) rfl ?_
        refine wl_mv (.tmp 25) (.int .i64 ((i + 1 : Nat) : Int)) (fun _ => rfl) rfl rfl ?_
        refine w_nil ?_
        exact xn_loop (x.args.length - (i + 1)) (by omega) ⟨i + 1, rfl, by omega, e40_0, e40_1, e40_15, e40_16, rfl, any_take hT hx hf30, M⟩
    · skip
      have hid : decide (i < x.args.length) = false := decide_eq_false hil
      have hie : i = x.args.length := by omega
      refine w_seq ?_
      refine w_reg ?_
      refine wl_bin (fun x y => do eqGuard .lss 3 (.tmp 17) (.tmp 16) x y; binOp .lss 3 x y) (.tmp 17) (.tmp 16) (.int .i64 ((i : Nat) : Int)) (.int .i64 ((x.args.length : Nat) : Int)) (.bool false) (fun _ => rfl) e40_i e40_16 (ltN hid _ _ _) rfl ?_
      refine w_nil ?_
      refine xn_then ?_
      refine w_seq ?_
      refine w_condF rfl ?_
      refine w_exit ?_
      refine xx_then ?_
      refine xx_then ?_
      refine xx_blk ?_
      refine xn_then ?_
      refine w_seq ?_
      refine w_reg ?_
      refine wl_mv (.const (.bool false)) (.bool false) (fun _ => rfl) rfl rfl ?_
      refine w_nil ?_
      refine xn_then ?_
      refine w_ret ?_
      exact w_ret1 _ (.bool false) rfl rfl ⟨by rw [lck_eq, hf0, any_all hT hie]; rfl, M⟩
  | false =>
    refine wl_call 69 [(.tmp 9), (.tmp 10), (.tmp 11)] _ [pt z.cb 0, .int .i64 ((s : Nat) : Int), .agg (x.cells).toArray] (.bool false) rfl rfl (fun _ _ => by kernel_rfl) (cB hf0 (knows_n (hC.mo M) s hs x (hL.kp M.kp))) rfl ?_
    intro w2 hq
    replace Q1 := Q1.mo hq
    replace M := M.trans hq
    clear hq
    refine wl_un (fun v => Op.unary .not v) (.tmp 12) (.bool false) (.bool true) (fun _ => rfl) rfl (by kernel_rfl) rfl ?_
    refine w_nil ?_
    refine xn_then ?_
    refine w_condT rfl ?_
    refine w_seq ?_
    refine w_reg ?_
    refine wl_mv (.const (.bool true)) (.bool true) (fun _ => rfl) rfl rfl ?_
    refine w_nil ?_
    refine xn_then ?_
    refine w_ret ?_
    refine xr_then ?_
    exact w_ret1 _ (.bool true) rfl rfl ⟨by rw [lck_eq, hf0]; rfl, M⟩
/-- Are there too many sections, or is one too deep? -/
def tms (L : List S5) : Bool := L.any (fun x => decide (4 < x.dp)) || decide (16 < L.length)
theorem tms_n {w : World} {z : Zc} {A : Al} (hC : CK w z A) : Calls Try.prog 49 #[pt z.cb 0] w fun e w' => e = .returned (.bool (tms z.L)) ∧ Mo w w' := by
  refine w_enter 24 Try.func49 Try.ntmps49 rfl rfl ?_
  have M : Mo w w := Mo.refl _
  refine w_seq ?_
  refine w_reg ?_
  refine wl_mv (.const (.bool false)) (.bool false) (fun _ => rfl) rfl rfl ?_
  refine w_nil ?_
  refine xn_then ?_
  refine w_seq ?_
  refine w_seq ?_
  refine w_reg ?_
  refine wl_mv (.tmp 0) (pt z.cb 0) (fun _ => rfl) rfl rfl ?_
  refine wl_nc (.tmp 5) z.cb 0 rfl rfl rfl ?_
  refine wl_un (fun v => Instr.fieldAt 94 v 1) (.tmp 6) (pt z.cb 0) (pt z.cb 7) (fun _ => rfl) rfl (by kernel_rfl) rfl ?_
  refine wl_load 37 (.tmp 7) (pt z.cb 7) (.slice z.sp z.L.length z.sc) rfl rfl (D.run_oneR (hC.rw.mo M).at' 37 7 rfl Try.underlying37 rfl) rfl ?_
  refine wl_val (.int .i64 ((z.L.length : Nat) : Int)) (len37 _ _ _ _ _ (by exact rfl) _ _ _ _ _ _) rfl ?_
  refine wl_mv (.const (.int .i64 (0))) (.int .i64 (0)) (fun _ => rfl) rfl rfl ?_
  refine w_nil ?_
  refine xn_then ?_
  refine w_block ?_
  have hz := hC.ls.1
  unfold maxLen at hz
  refine w_loop (fun m l w1 => ∃ i : Nat, m = z.L.length - i ∧ i ≤ z.L.length ∧ look l 0 = pt z.cb 0 ∧ look l 8 = .slice z.sp z.L.length z.sc ∧ look l 9 = .int .i64 ((z.L.length : Nat) : Int) ∧ look l 10 = .int .i64 ((i : Nat) : Int) ∧ (z.L.take i).any (fun x => decide (4 < x.dp)) = false ∧ Mo w w1) _ ⟨0, rfl, Nat.zero_le _, rfl, rfl, rfl, rfl, rfl, M⟩ ?_
  clear M
  rintro m l40 wl40 ⟨i, rfl, hi, e40_0, e40_8, e40_9, e40_i, hT, M⟩
  by_cases hil : i < z.L.length
  · skip
    have hid : decide (i < z.L.length) = true := decide_eq_true hil
    obtain ⟨x, hx⟩ := get_of_lt hil
    obtain ⟨b1, o1, hp1, hR1⟩ := D.SL.rw hC.ls hx
    refine w_seq ?_
    refine w_reg ?_
    refine wl_bin (fun x y => do eqGuard .lss 3 (.tmp 10) (.tmp 9) x y; binOp .lss 3 x y) (.tmp 10) (.tmp 9) (.int .i64 ((i : Nat) : Int)) (.int .i64 ((z.L.length : Nat) : Int)) (.bool true) (fun _ => rfl) e40_i e40_9 (ltN hid _ _ _) rfl ?_
    refine w_nil ?_
    refine xn_then ?_
    refine w_seq ?_
    refine w_condT rfl ?_
    refine w_skip ?_
    refine xn_then ?_
    refine w_seq ?_
    refine w_block ?_
    refine w_seq ?_
    refine w_reg ?_
    refine wl_bin (fun x y => Instr.indexAt 37 x y) (.tmp 8) (.tmp 10) (.slice z.sp z.L.length z.sc) (.int .i64 ((i : Nat) : Int)) (pt b1 (o1 + i * 5)) (fun _ => rfl) e40_8 e40_i (ix37 (i := i) hp1 hil _) rfl ?_
    refine wl_load 52 (.tmp 12) (pt b1 (o1 + i * 5)) (.agg (x.cells).toArray) rfl rfl (D.run_partR (hR1.mo M).at' 52 0 5 (x.cells) rfl Try.underlying52 rfl sz52) rfl ?_
    refine wl_alloc 52 #[.int .i64 0, .int .i64 0, .string ⟨#[]⟩, .int .i64 0, .slice none 0 0] rfl (fun _ => by kernel_rfl) rfl ?_
    intro k1 w41 hk hz hq Q1
    have N_k1 : w.heap.size ≤ k1 := by have := M.size; omega
    replace M := M.trans hq
    clear hk hz hq
    refine wl_st 52 (.tmp 4) (.tmp 13) k1 0 ((x.cells).toArray) [.int .i64 0, .int .i64 0, .string ⟨#[]⟩, .int .i64 0, .slice none 0 0] (x.cells) Q1 rfl rfl rfl rfl rfl sz52 rfl rfl rfl ?_
    intro w42 hS Qn
    replace Q1 := Qn
    clear Qn
    replace M := hS.mo _ N_k1 M
    clear hS
    refine w_nil ?_
    refine xn_then ?_
    refine w_seq ?_
    refine w_reg ?_
    refine wl_un (fun v => Instr.fieldAt 52 v 1) (.tmp 4) (pt k1 0) (pt k1 1) (fun _ => rfl) rfl (by kernel_rfl) rfl ?_
    refine wl_load 3 (.tmp 14) (pt k1 1) (.int .i64 (x.dp)) rfl rfl (run_one Q1 3 1 rfl Try.underlying3 rfl) rfl ?_
    cases hf30 : decide (4 < x.dp) with
    | true =>
      have hf30p := of_decide_eq_true hf30
      refine wl_bin (fun x y => do eqGuard .gtr 3 (.tmp 15) (.const (.int .i64 (4))) x y; binOp .gtr 3 x y) (.tmp 15) (.const (.int .i64 (4))) (.int .i64 (x.dp)) (.int .i64 (4)) (.bool true) (fun _ => rfl) rfl rfl (gt3 hf30 _ _ _) rfl ?_
      refine w_nil ?_
      refine xn_then ?_
      refine w_condT rfl ?_
      refine w_seq ?_
      refine w_reg ?_
      refine wl_mv (.const (.bool true)) (.bool true) (fun _ => rfl) rfl rfl ?_
      refine w_nil ?_
      refine xn_then ?_
      refine w_ret ?_
      refine xr_blk ?_
      refine xr_then ?_
      refine xr_then ?_
      refine xr_blk ?_
      refine xr_then ?_
      exact w_ret1 _ (.bool true) rfl rfl ⟨by unfold tms; rw [any_hit (f := fun x => decide (4 < x.dp)) hx hf30]; rfl, M⟩
    | false =>
      have hf30p := of_decide_eq_false hf30
      refine wl_bin (fun x y => do eqGuard .gtr 3 (.tmp 15) (.const (.int .i64 (4))) x y; binOp .gtr 3 x y) (.tmp 15) (.const (.int .i64 (4))) (.int .i64 (x.dp)) (.int .i64 (4)) (.bool false) (fun _ => rfl) rfl rfl (gt3 hf30 _ _ _) rfl ?_
      refine w_nil ?_
      refine xn_then ?_
      refine w_condF rfl ?_
      refine w_skip ?_
      refine xn_blk ?_
      refine xn_then ?_
      refine w_reg ?_
      refine wl_bin (fun x y => do eqGuard .add 3 (.tmp 10) (.const (.int .i64 (1))) x y; binOp .add 3 x y) (.tmp 10) (.const (.int .i64 (1))) (.int .i64 ((i : Nat) : Int)) (.int .i64 (1)) (.int .i64 ((i + 1 : Nat) : Int)) (fun _ => rfl) e40_i rfl (add1r (k := i) (by omega) _ _ _) rfl ?_
      refine wl_mv (.tmp 17) (.int .i64 ((i + 1 : Nat) : Int)) (fun _ => rfl) rfl rfl ?_
      refine w_nil ?_
      exact xn_loop (z.L.length - (i + 1)) (by omega) ⟨i + 1, rfl, by omega, e40_0, e40_8, e40_9, rfl, any_take hT hx hf30, M⟩
  · skip
    have hid : decide (i < z.L.length) = false := decide_eq_false hil
    have hie : i = z.L.length := by omega
    refine w_seq ?_
    refine w_reg ?_
    refine wl_bin (fun x y => do eqGuard .lss 3 (.tmp 10) (.tmp 9) x y; binOp .lss 3 x y) (.tmp 10) (.tmp 9) (.int .i64 ((i : Nat) : Int)) (.int .i64 ((z.L.length : Nat) : Int)) (.bool false) (fun _ => rfl) e40_i e40_9 (ltN hid _ _ _) rfl ?_
    refine w_nil ?_
    refine xn_then ?_
    refine w_seq ?_
    refine w_condF rfl ?_
    refine w_exit ?_
    refine xx_then ?_
    refine xx_then ?_
    refine xx_blk ?_
    refine xn_then ?_
    refine w_seq ?_
    refine w_reg ?_
    refine wl_mv (.tmp 0) (pt z.cb 0) (fun _ => rfl) e40_0 rfl ?_
    refine wl_nc (.tmp 18) z.cb 0 rfl rfl rfl ?_
    refine wl_un (fun v => Instr.fieldAt 94 v 1) (.tmp 19) (pt z.cb 0) (pt z.cb 7) (fun _ => rfl) rfl (by kernel_rfl) rfl ?_
    refine wl_load 37 (.tmp 20) (pt z.cb 7) (.slice z.sp z.L.length z.sc) rfl rfl (D.run_oneR (hC.rw.mo M).at' 37 7 rfl Try.underlying37 rfl) rfl ?_
    refine wl_val (.int .i64 ((z.L.length : Nat) : Int)) (len37 _ _ _ _ _ (by exact rfl) _ _ _ _ _ _) rfl ?_
    cases hf30 : decide (16 < z.L.length) with
    | true =>
      have hf30p := of_decide_eq_true hf30
      refine wl_bin (fun x y => do eqGuard .gtr 3 (.tmp 22) (.const (.int .i64 (16))) x y; binOp .gtr 3 x y) (.tmp 22) (.const (.int .i64 (16))) (.int .i64 ((z.L.length : Nat) : Int)) (.int .i64 (16)) (.bool true) (fun _ => rfl) rfl rfl (gtN hf30 _ _ _) rfl ?_
      refine wl_mv (.tmp 23) (.bool true) (fun _ => rfl) rfl rfl ?_
      refine w_nil ?_
      refine xn_then ?_
      refine w_ret ?_
      exact w_ret1 _ (.bool true) rfl rfl ⟨by unfold tms; rw [any_all hT hie, hf30]; rfl, M⟩
    | false =>
      have hf30p := of_decide_eq_false hf30
      refine wl_bin (fun x y => do eqGuard .gtr 3 (.tmp 22) (.const (.int .i64 (16))) x y; binOp .gtr 3 x y) (.tmp 22) (.const (.int .i64 (16))) (.int .i64 ((z.L.length : Nat) : Int)) (.int .i64 (16)) (.bool false) (fun _ => rfl) rfl rfl (gtN hf30 _ _ _) rfl ?_
      refine wl_mv (.tmp 23) (.bool false) (fun _ => rfl) rfl rfl ?_
      refine w_nil ?_
      refine xn_then ?_
      refine w_ret ?_
      exact w_ret1 _ (.bool false) rfl rfl ⟨by unfold tms; rw [any_all hT hie, hf30]; rfl, M⟩
/-- What is wrong with the whole. -/
def whE (d : Df) (L : List S5) : Int := if may d.nm then (if decide (8 < d.tb.length) || decide (16 < d.pg.length) || tms L then 92 else 0) else 90
theorem whole_n {w : World} {z : Zc} {A : Al} (hC : CK w z A) : Calls Try.prog 30 #[pt z.cb 0] w fun e w' => e = .returned (.tuple #[plc 0 0 0 0 0, .int .i64 (whE z.d z.L)]) ∧ Mo w w' := by
  refine w_enter 38 Try.func30 Try.ntmps30 rfl rfl ?_
  have M : Mo w w := Mo.refl _
  refine w_seq ?_
  refine w_reg ?_
  refine wl_alloc 33 #[.int .i64 0, .int .i64 0, .int .i64 0, .int .i64 0, .int .i64 0] rfl (fun _ => by kernel_rfl) rfl ?_
  intro k1 w1 hk hz hq Q1
  have N_k1 : w.heap.size ≤ k1 := by have := M.size; omega
  replace M := M.trans hq
  clear hk hz hq
  refine wl_mv (.const (.int .i64 (0))) (.int .i64 (0)) (fun _ => rfl) rfl rfl ?_
  refine w_nil ?_
  refine xn_then ?_
  refine w_seq ?_
  refine w_reg ?_
  refine wl_build 33 [(0, (.const (.int .i64 (0))))] [(0, .int .i64 (0))] (.agg #[.int .i64 (0), .int .i64 0, .int .i64 0, .int .i64 0, .int .i64 0]) rfl rfl (by kernel_rfl) rfl ?_
  refine wl_alloc 33 #[.int .i64 0, .int .i64 0, .int .i64 0, .int .i64 0, .int .i64 0] rfl (fun _ => by kernel_rfl) rfl ?_
  intro k2 w2 hk hz hq Q2
  have ne_k1_k2 : k1 ≠ k2 := by have := Q1.lt; omega
  have N_k2 : w.heap.size ≤ k2 := by have := M.size; omega
  replace Q1 := Q1.mo hq
  replace M := M.trans hq
  clear hk hz hq
  refine wl_st 33 (.tmp 4) (.tmp 5) k2 0 #[.int .i64 (0), .int .i64 0, .int .i64 0, .int .i64 0, .int .i64 0] [.int .i64 0, .int .i64 0, .int .i64 0, .int .i64 0, .int .i64 0] [.int .i64 (0), .int .i64 0, .int .i64 0, .int .i64 0, .int .i64 0] Q2 rfl rfl rfl rfl rfl sz33 rfl rfl rfl ?_
  intro w3 hS Qn
  replace Q2 := Qn
  clear Qn
  replace Q1 := hS.other _ _ ne_k1_k2 Q1
  replace M := hS.mo _ N_k2 M
  clear hS
  refine w_nil ?_
  refine xn_then ?_
  refine w_seq ?_
  refine w_block ?_
  refine w_seq ?_
  refine w_reg ?_
  refine wl_mv (.tmp 0) (pt z.cb 0) (fun _ => rfl) rfl rfl ?_
  refine wl_nc (.tmp 7) z.cb 0 rfl rfl rfl ?_
  refine wl_un (fun v => Instr.fieldAt 94 v 0) (.tmp 8) (pt z.cb 0) (pt z.cb 0) (fun _ => rfl) rfl (by kernel_rfl) rfl ?_
  refine wl_un (fun v => Instr.fieldAt 29 v 0) (.tmp 9) (pt z.cb 0) (pt z.cb 0) (fun _ => rfl) rfl (by kernel_rfl) rfl ?_
  refine wl_load 9 (.tmp 10) (pt z.cb 0) (.string z.d.nm) rfl rfl (D.run_oneR (hC.rw.mo M).at' 9 0 rfl Try.underlying9 rfl) rfl ?_
  cases hf0 : may z.d.nm with
  | true =>
    refine wl_call 48 [(.tmp 11)] _ [.string z.d.nm] (.bool true) rfl rfl (fun _ _ => by kernel_rfl) (cB hf0 (may_n z.d.nm _)) rfl ?_
    intro w4 hq
    replace Q1 := Q1.mo hq
    replace Q2 := Q2.mo hq
    replace M := M.trans hq
    clear hq
    refine wl_un (fun v => Op.unary .not v) (.tmp 12) (.bool true) (.bool false) (fun _ => rfl) rfl (by kernel_rfl) rfl ?_
    refine wl_mv (.tmp 13) (.bool false) (fun _ => rfl) rfl rfl ?_
    refine w_nil ?_
    refine xn_then ?_
    refine w_condF rfl ?_
    refine w_seq ?_
    refine w_reg ?_
    refine wl_mv (.tmp 0) (pt z.cb 0) (fun _ => rfl) rfl rfl ?_
    refine wl_nc (.tmp 16) z.cb 0 rfl rfl rfl ?_
    refine wl_un (fun v => Instr.fieldAt 94 v 0) (.tmp 17) (pt z.cb 0) (pt z.cb 0) (fun _ => rfl) rfl (by kernel_rfl) rfl ?_
    refine wl_un (fun v => Instr.fieldAt 29 v 2) (.tmp 18) (pt z.cb 0) (pt z.cb 5) (fun _ => rfl) rfl (by kernel_rfl) rfl ?_
    refine wl_load 26 (.tmp 19) (pt z.cb 5) (.slice z.d.pt z.d.tb.length z.d.ct) rfl rfl (D.run_oneR (hC.rw.mo M).at' 26 5 rfl Try.underlying26 rfl) rfl ?_
    refine wl_val (.int .i64 ((z.d.tb.length : Nat) : Int)) (len26 _ _ _ _ _ (by exact rfl) _ _ _ _ _ _) rfl ?_
    cases hf1 : decide (8 < z.d.tb.length) with
    | true =>
      have hf1p := of_decide_eq_true hf1
      refine wl_bin (fun x y => do eqGuard .gtr 3 (.tmp 21) (.const (.int .i64 (8))) x y; binOp .gtr 3 x y) (.tmp 21) (.const (.int .i64 (8))) (.int .i64 ((z.d.tb.length : Nat) : Int)) (.int .i64 (8)) (.bool true) (fun _ => rfl) rfl rfl (gtN hf1 _ _ _) rfl ?_
      refine wl_mv (.tmp 22) (.bool true) (fun _ => rfl) rfl rfl ?_
      refine wl_skip rfl ?_
      refine wl_skip rfl ?_
      refine wl_skip rfl ?_
      refine wl_skip rfl ?_
      refine wl_skip rfl ?_
      refine wl_skip rfl ?_
      refine wl_skip rfl ?_
      refine wl_pick (.tmp 23) (.const (.bool true)) (.tmp 30) true (.bool true) (fun _ => rfl) rfl rfl rfl ?_
      refine wl_mv (.tmp 31) (.bool true) (fun _ => rfl) rfl rfl ?_
      refine wl_skip rfl ?_
      refine wl_skip rfl ?_
      refine wl_pick (.tmp 32) (.const (.bool true)) (.tmp 34) true (.bool true) (fun _ => rfl) rfl rfl rfl ?_
      refine wl_mv (.tmp 35) (.bool true) (fun _ => rfl) rfl rfl ?_
      refine w_nil ?_
      refine xn_then ?_
      refine w_condT rfl ?_
      refine w_seq ?_
      refine w_reg ?_
      refine wl_load 33 (.tmp 4) (pt k2 0) (.agg #[.int .i64 (0), .int .i64 0, .int .i64 0, .int .i64 0, .int .i64 0]) rfl rfl (run_row Q2 33 0 5 [.int .i64 (0), .int .i64 0, .int .i64 0, .int .i64 0, .int .i64 0] rfl Try.underlying33 rfl sz33) rfl ?_
      refine wl_st 33 (.tmp 2) (.tmp 36) k1 0 #[.int .i64 (0), .int .i64 0, .int .i64 0, .int .i64 0, .int .i64 0] [.int .i64 0, .int .i64 0, .int .i64 0, .int .i64 0, .int .i64 0] [.int .i64 (0), .int .i64 0, .int .i64 0, .int .i64 0, .int .i64 0] Q1 rfl rfl rfl rfl rfl sz33 rfl rfl rfl ?_
      intro w5 hS Qn
      replace Q1 := Qn
      clear Qn
      replace Q2 := hS.other _ _ ne_k1_k2.symm Q2
      replace M := hS.mo _ N_k1 M
      clear hS
      refine wl_mv (.const (.int .i64 (92))) (.int .i64 (92)) (fun _ => rfl) rfl rfl ?_
      refine w_nil ?_
      refine xn_then ?_
      refine w_ret ?_
      refine xr_blk ?_
      refine xr_then ?_
      exact w_ret2 _ _ (.agg #[.int .i64 (0), .int .i64 0, .int .i64 0, .int .i64 0, .int .i64 0]) (.int .i64 (92)) rfl ⟨k1, rfl, (run_row Q1 33 0 5 [.int .i64 (0), .int .i64 0, .int .i64 0, .int .i64 0, .int .i64 0] rfl Try.underlying33 rfl sz33)⟩ rfl ⟨by unfold whE; rw [hf0, hf1]; rfl, M⟩
    | false =>
      have hf1p := of_decide_eq_false hf1
      refine wl_bin (fun x y => do eqGuard .gtr 3 (.tmp 21) (.const (.int .i64 (8))) x y; binOp .gtr 3 x y) (.tmp 21) (.const (.int .i64 (8))) (.int .i64 ((z.d.tb.length : Nat) : Int)) (.int .i64 (8)) (.bool false) (fun _ => rfl) rfl rfl (gtN hf1 _ _ _) rfl ?_
      refine wl_mv (.tmp 22) (.bool false) (fun _ => rfl) rfl rfl ?_
      refine wl_mv (.tmp 0) (pt z.cb 0) (fun _ => rfl) rfl rfl ?_
      refine wl_nc (.tmp 24) z.cb 0 rfl rfl rfl ?_
      refine wl_un (fun v => Instr.fieldAt 94 v 0) (.tmp 25) (pt z.cb 0) (pt z.cb 0) (fun _ => rfl) rfl (by kernel_rfl) rfl ?_
      refine wl_un (fun v => Instr.fieldAt 29 v 3) (.tmp 26) (pt z.cb 0) (pt z.cb 6) (fun _ => rfl) rfl (by kernel_rfl) rfl ?_
      refine wl_load 27 (.tmp 27) (pt z.cb 6) (.slice z.d.pp z.d.pg.length z.d.cp) rfl rfl (D.run_oneR (hC.rw.mo M).at' 27 6 rfl Try.underlying27 rfl) rfl ?_
      refine wl_val (.int .i64 ((z.d.pg.length : Nat) : Int)) (len27 _ _ _ _ _ (by exact rfl) _ _ _ _ _ _) rfl ?_
      cases hf2 : decide (16 < z.d.pg.length) with
      | true =>
        have hf2p := of_decide_eq_true hf2
        refine wl_bin (fun x y => do eqGuard .gtr 3 (.tmp 29) (.const (.int .i64 (16))) x y; binOp .gtr 3 x y) (.tmp 29) (.const (.int .i64 (16))) (.int .i64 ((z.d.pg.length : Nat) : Int)) (.int .i64 (16)) (.bool true) (fun _ => rfl) rfl rfl (gtN hf2 _ _ _) rfl ?_
        refine wl_pick (.tmp 23) (.const (.bool true)) (.tmp 30) false (.bool true) (fun _ => rfl) rfl rfl rfl ?_
        refine wl_mv (.tmp 31) (.bool true) (fun _ => rfl) rfl rfl ?_
        refine wl_skip rfl ?_
        refine wl_skip rfl ?_
        refine wl_pick (.tmp 32) (.const (.bool true)) (.tmp 34) true (.bool true) (fun _ => rfl) rfl rfl rfl ?_
        refine wl_mv (.tmp 35) (.bool true) (fun _ => rfl) rfl rfl ?_
        refine w_nil ?_
        refine xn_then ?_
        refine w_condT rfl ?_
        refine w_seq ?_
        refine w_reg ?_
        refine wl_load 33 (.tmp 4) (pt k2 0) (.agg #[.int .i64 (0), .int .i64 0, .int .i64 0, .int .i64 0, .int .i64 0]) rfl rfl (run_row Q2 33 0 5 [.int .i64 (0), .int .i64 0, .int .i64 0, .int .i64 0, .int .i64 0] rfl Try.underlying33 rfl sz33) rfl ?_
        refine wl_st 33 (.tmp 2) (.tmp 36) k1 0 #[.int .i64 (0), .int .i64 0, .int .i64 0, .int .i64 0, .int .i64 0] [.int .i64 0, .int .i64 0, .int .i64 0, .int .i64 0, .int .i64 0] [.int .i64 (0), .int .i64 0, .int .i64 0, .int .i64 0, .int .i64 0] Q1 rfl rfl rfl rfl rfl sz33 rfl rfl rfl ?_
        intro w5 hS Qn
        replace Q1 := Qn
        clear Qn
        replace Q2 := hS.other _ _ ne_k1_k2.symm Q2
        replace M := hS.mo _ N_k1 M
        clear hS
        refine wl_mv (.const (.int .i64 (92))) (.int .i64 (92)) (fun _ => rfl) rfl rfl ?_
        refine w_nil ?_
        refine xn_then ?_
        refine w_ret ?_
        refine xr_blk ?_
        refine xr_then ?_
        exact w_ret2 _ _ (.agg #[.int .i64 (0), .int .i64 0, .int .i64 0, .int .i64 0, .int .i64 0]) (.int .i64 (92)) rfl ⟨k1, rfl, (run_row Q1 33 0 5 [.int .i64 (0), .int .i64 0, .int .i64 0, .int .i64 0, .int .i64 0] rfl Try.underlying33 rfl sz33)⟩ rfl ⟨by unfold whE; rw [hf0, hf1, hf2]; rfl, M⟩
      | false =>
        have hf2p := of_decide_eq_false hf2
        refine wl_bin (fun x y => do eqGuard .gtr 3 (.tmp 29) (.const (.int .i64 (16))) x y; binOp .gtr 3 x y) (.tmp 29) (.const (.int .i64 (16))) (.int .i64 ((z.d.pg.length : Nat) : Int)) (.int .i64 (16)) (.bool false) (fun _ => rfl) rfl rfl (gtN hf2 _ _ _) rfl ?_
        refine wl_pick (.tmp 23) (.const (.bool true)) (.tmp 30) false (.bool false) (fun _ => rfl) rfl rfl rfl ?_
        refine wl_mv (.tmp 31) (.bool false) (fun _ => rfl) rfl rfl ?_
        refine wl_mv (.tmp 0) (pt z.cb 0) (fun _ => rfl) rfl rfl ?_
        cases hf3 : tms z.L with
        | true =>
          refine wl_call 49 [(.tmp 33)] _ [pt z.cb 0] (.bool true) rfl rfl (fun _ _ => by kernel_rfl) (cB hf3 (tms_n (hC.mo M))) rfl ?_
          intro w5 hq
          replace Q1 := Q1.mo hq
          replace Q2 := Q2.mo hq
          replace M := M.trans hq
          clear hq
          refine wl_pick (.tmp 32) (.const (.bool true)) (.tmp 34) false (.bool true) (fun _ => rfl) rfl rfl rfl ?_
          refine wl_mv (.tmp 35) (.bool true) (fun _ => rfl) rfl rfl ?_
          refine w_nil ?_
          refine xn_then ?_
          refine w_condT rfl ?_
          refine w_seq ?_
          refine w_reg ?_
          refine wl_load 33 (.tmp 4) (pt k2 0) (.agg #[.int .i64 (0), .int .i64 0, .int .i64 0, .int .i64 0, .int .i64 0]) rfl rfl (run_row Q2 33 0 5 [.int .i64 (0), .int .i64 0, .int .i64 0, .int .i64 0, .int .i64 0] rfl Try.underlying33 rfl sz33) rfl ?_
          refine wl_st 33 (.tmp 2) (.tmp 36) k1 0 #[.int .i64 (0), .int .i64 0, .int .i64 0, .int .i64 0, .int .i64 0] [.int .i64 0, .int .i64 0, .int .i64 0, .int .i64 0, .int .i64 0] [.int .i64 (0), .int .i64 0, .int .i64 0, .int .i64 0, .int .i64 0] Q1 rfl rfl rfl rfl rfl sz33 rfl rfl rfl ?_
          intro w6 hS Qn
          replace Q1 := Qn
          clear Qn
          replace Q2 := hS.other _ _ ne_k1_k2.symm Q2
          replace M := hS.mo _ N_k1 M
          clear hS
          refine wl_mv (.const (.int .i64 (92))) (.int .i64 (92)) (fun _ => rfl) rfl rfl ?_
          refine w_nil ?_
          refine xn_then ?_
          refine w_ret ?_
          refine xr_blk ?_
          refine xr_then ?_
          exact w_ret2 _ _ (.agg #[.int .i64 (0), .int .i64 0, .int .i64 0, .int .i64 0, .int .i64 0]) (.int .i64 (92)) rfl ⟨k1, rfl, (run_row Q1 33 0 5 [.int .i64 (0), .int .i64 0, .int .i64 0, .int .i64 0, .int .i64 0] rfl Try.underlying33 rfl sz33)⟩ rfl ⟨by unfold whE; rw [hf0, hf1, hf2, hf3]; rfl, M⟩
        | false =>
          refine wl_call 49 [(.tmp 33)] _ [pt z.cb 0] (.bool false) rfl rfl (fun _ _ => by kernel_rfl) (cB hf3 (tms_n (hC.mo M))) rfl ?_
          intro w5 hq
          replace Q1 := Q1.mo hq
          replace Q2 := Q2.mo hq
          replace M := M.trans hq
          clear hq
          refine wl_pick (.tmp 32) (.const (.bool true)) (.tmp 34) false (.bool false) (fun _ => rfl) rfl rfl rfl ?_
          refine wl_mv (.tmp 35) (.bool false) (fun _ => rfl) rfl rfl ?_
          refine w_nil ?_
          refine xn_then ?_
          refine w_condF rfl ?_
          refine w_skip ?_
          refine xn_blk ?_
          refine xn_then ?_
          refine w_seq ?_
          refine w_reg ?_
          refine wl_load 33 (.tmp 4) (pt k2 0) (.agg #[.int .i64 (0), .int .i64 0, .int .i64 0, .int .i64 0, .int .i64 0]) rfl rfl (run_row Q2 33 0 5 [.int .i64 (0), .int .i64 0, .int .i64 0, .int .i64 0, .int .i64 0] rfl Try.underlying33 rfl sz33) rfl ?_
          refine wl_st 33 (.tmp 2) (.tmp 37) k1 0 #[.int .i64 (0), .int .i64 0, .int .i64 0, .int .i64 0, .int .i64 0] [.int .i64 0, .int .i64 0, .int .i64 0, .int .i64 0, .int .i64 0] [.int .i64 (0), .int .i64 0, .int .i64 0, .int .i64 0, .int .i64 0] Q1 rfl rfl rfl rfl rfl sz33 rfl rfl rfl ?_
          intro w6 hS Qn
          replace Q1 := Qn
          clear Qn
          replace Q2 := hS.other _ _ ne_k1_k2.symm Q2
          replace M := hS.mo _ N_k1 M
          clear hS
          refine wl_mv (.const (.int .i64 (0))) (.int .i64 (0)) (fun _ => rfl) rfl rfl ?_
          refine w_nil ?_
          refine xn_then ?_
          refine w_ret ?_
          exact w_ret2 _ _ (.agg #[.int .i64 (0), .int .i64 0, .int .i64 0, .int .i64 0, .int .i64 0]) (.int .i64 (0)) rfl ⟨k1, rfl, (run_row Q1 33 0 5 [.int .i64 (0), .int .i64 0, .int .i64 0, .int .i64 0, .int .i64 0] rfl Try.underlying33 rfl sz33)⟩ rfl ⟨by unfold whE; rw [hf0, hf1, hf2, hf3]; rfl, M⟩
  | false =>
    refine wl_call 48 [(.tmp 11)] _ [.string z.d.nm] (.bool false) rfl rfl (fun _ _ => by kernel_rfl) (cB hf0 (may_n z.d.nm _)) rfl ?_
    intro w4 hq
    replace Q1 := Q1.mo hq
    replace Q2 := Q2.mo hq
    replace M := M.trans hq
    clear hq
    refine wl_un (fun v => Op.unary .not v) (.tmp 12) (.bool false) (.bool true) (fun _ => rfl) rfl (by kernel_rfl) rfl ?_
    refine wl_mv (.tmp 13) (.bool true) (fun _ => rfl) rfl rfl ?_
    refine w_nil ?_
    refine xn_then ?_
    refine w_condT rfl ?_
    refine w_seq ?_
    refine w_reg ?_
    refine wl_load 33 (.tmp 4) (pt k2 0) (.agg #[.int .i64 (0), .int .i64 0, .int .i64 0, .int .i64 0, .int .i64 0]) rfl rfl (run_row Q2 33 0 5 [.int .i64 (0), .int .i64 0, .int .i64 0, .int .i64 0, .int .i64 0] rfl Try.underlying33 rfl sz33) rfl ?_
    refine wl_st 33 (.tmp 2) (.tmp 14) k1 0 #[.int .i64 (0), .int .i64 0, .int .i64 0, .int .i64 0, .int .i64 0] [.int .i64 0, .int .i64 0, .int .i64 0, .int .i64 0, .int .i64 0] [.int .i64 (0), .int .i64 0, .int .i64 0, .int .i64 0, .int .i64 0] Q1 rfl rfl rfl rfl rfl sz33 rfl rfl rfl ?_
    intro w5 hS Qn
    replace Q1 := Qn
    clear Qn
    replace Q2 := hS.other _ _ ne_k1_k2.symm Q2
    replace M := hS.mo _ N_k1 M
    clear hS
    refine wl_mv (.const (.int .i64 (90))) (.int .i64 (90)) (fun _ => rfl) rfl rfl ?_
    refine w_nil ?_
    refine xn_then ?_
    refine w_ret ?_
    refine xr_blk ?_
    refine xr_then ?_
    exact w_ret2 _ _ (.agg #[.int .i64 (0), .int .i64 0, .int .i64 0, .int .i64 0, .int .i64 0]) (.int .i64 (90)) rfl ⟨k1, rfl, (run_row Q1 33 0 5 [.int .i64 (0), .int .i64 0, .int .i64 0, .int .i64 0, .int .i64 0] rfl Try.underlying33 rfl sz33)⟩ rfl ⟨by unfold whE; rw [hf0]; rfl, M⟩
end Go.Proofs.Ytbanldffohopiaa
