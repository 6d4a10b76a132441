/-
  The document's side: names, what is around, kids.
-/
import Derived.Test.YtbanldffohopiaaR1
namespace Go.Proofs.Ytbanldffohopiaa
open Go.RowKit D
theorem rmay_n (s : ByteArray) (w : World) : Calls Try.prog 36 #[.string s] w fun e w' => e = .returned (.bool (may s)) ∧ Mo w w' := by
  refine w_enter 10 Try.func36 Try.ntmps36 rfl rfl ?_
  have M : Mo w w := Mo.refl _
  refine w_seq ?_
  refine w_reg ?_
  refine wl_mv (.const (.bool false)) (.bool false) (fun _ => rfl) rfl rfl ?_
  refine w_nil ?_
  refine xn_then ?_
  refine w_seq ?_
  refine w_reg ?_
  refine wl_mv (.tmp 0) (.string s) (fun _ => rfl) rfl rfl ?_
  cases hf0 : nam s with
  | true =>
    refine wl_call 57 [(.tmp 3)] _ [.string s] (.bool true) rfl rfl (fun _ _ => by kernel_rfl) (cB hf0 (rname_n s _)) rfl ?_
    intro u1 hq
    replace M := M.trans hq
    clear hq
    refine wl_mv (.tmp 4) (.bool true) (fun _ => rfl) rfl rfl ?_
    refine wl_mv (.tmp 0) (.string s) (fun _ => rfl) rfl rfl ?_
    cases hf1 : rsv s with
    | true =>
      refine wl_call 22 [(.tmp 6)] _ [.string s] (.bool true) rfl rfl (fun _ _ => by kernel_rfl) (cB hf1 (rreserved_n s _)) rfl ?_
      intro u2 hq
      replace M := M.trans hq
      clear hq
      refine wl_un (fun v => Op.unary .not v) (.tmp 7) (.bool true) (.bool false) (fun _ => rfl) rfl (by kernel_rfl) rfl ?_
      refine wl_pick (.tmp 5) (.tmp 8) (.const (.bool false)) true (.bool false) (fun _ => rfl) rfl rfl rfl ?_
      refine wl_mv (.tmp 9) (.bool false) (fun _ => rfl) rfl rfl ?_
      refine w_nil ?_
      refine xn_then ?_
      refine w_ret ?_
      exact w_ret1 _ (.bool false) rfl rfl ⟨by unfold may; rw [hf0, hf1]; rfl, M⟩
    | false =>
      refine wl_call 22 [(.tmp 6)] _ [.string s] (.bool false) rfl rfl (fun _ _ => by kernel_rfl) (cB hf1 (rreserved_n s _)) rfl ?_
      intro u2 hq
      replace M := M.trans hq
      clear hq
      refine wl_un (fun v => Op.unary .not v) (.tmp 7) (.bool false) (.bool true) (fun _ => rfl) rfl (by kernel_rfl) rfl ?_
      refine wl_pick (.tmp 5) (.tmp 8) (.const (.bool false)) true (.bool true) (fun _ => rfl) rfl rfl rfl ?_
      refine wl_mv (.tmp 9) (.bool true) (fun _ => rfl) rfl rfl ?_
      refine w_nil ?_
      refine xn_then ?_
      refine w_ret ?_
      exact w_ret1 _ (.bool true) rfl rfl ⟨by unfold may; rw [hf0, hf1]; rfl, M⟩
  | false =>
    refine wl_call 57 [(.tmp 3)] _ [.string s] (.bool false) rfl rfl (fun _ _ => by kernel_rfl) (cB hf0 (rname_n s _)) rfl ?_
    intro u1 hq
    replace M := M.trans hq
    clear hq
    refine wl_mv (.tmp 4) (.bool false) (fun _ => rfl) rfl rfl ?_
    refine wl_skip rfl ?_
    refine wl_skip rfl ?_
    refine wl_skip rfl ?_
    refine wl_pick (.tmp 5) (.tmp 8) (.const (.bool false)) false (.bool false) (fun _ => rfl) rfl rfl rfl ?_
    refine wl_mv (.tmp 9) (.bool false) (fun _ => rfl) rfl rfl ?_
    refine w_nil ?_
    refine xn_then ?_
    refine w_ret ?_
    exact w_ret1 _ (.bool false) rfl rfl ⟨by unfold may; rw [hf0]; rfl, M⟩
theorem rhas_n {w : World} {pa : Option Addr} {c : Nat} {L : List It} (hS : SL w 23 It.cells pa L) (n : Nat) (hn : n ≤ L.length) (s : ByteArray) : Calls Try.prog 73 #[.slice pa L.length c, .int .i64 ((n : Nat) : Int), .string s] w fun e w' => e = .returned (.bool ((L.take n).any (fun y => decide (y.nm = s)))) ∧ Mo w w' := by
  refine w_enter 20 Try.func73 Try.ntmps73 rfl rfl ?_
  have M : Mo w w := Mo.refl _
  refine w_seq ?_
  refine w_reg ?_
  refine wl_mv (.const (.bool false)) (.bool false) (fun _ => rfl) rfl rfl ?_
  refine w_nil ?_
  refine xn_then ?_
  refine w_seq ?_
  refine w_seq ?_
  refine w_reg ?_
  refine wl_mv (.const (.int .i64 (0))) (.int .i64 (0)) (fun _ => rfl) rfl rfl ?_
  refine w_nil ?_
  refine xn_then ?_
  refine w_block ?_
  have hz := hS.1
  unfold maxLen at hz
  refine w_loop (fun m l w1 => ∃ i : Nat, m = n - i ∧ i ≤ n ∧ look l 0 = .slice pa L.length c ∧ look l 1 = .int .i64 ((n : Nat) : Int) ∧ look l 2 = .string s ∧ look l 7 = .int .i64 ((i : Nat) : Int) ∧ ((L.take i).any (fun y => decide (y.nm = s)) = false) ∧ Mo w w1) _ ⟨0, rfl, Nat.zero_le _, rfl, rfl, rfl, rfl, rfl, M⟩ ?_
  clear M
  rintro m l40 wl40 ⟨i, rfl, hi, e40_0, e40_1, e40_2, e40_i, hT, M⟩
  by_cases hil : i < n
  · skip
    have hid : decide (i < n) = true := decide_eq_true hil
    have hiL : i < L.length := by omega
    obtain ⟨y, hy⟩ := get_of_lt hiL
    obtain ⟨b1, o1, hp1, hR1⟩ := D.SL.rw hS hy
    refine w_seq ?_
    refine w_seq ?_
    refine w_reg ?_
    refine wl_mv (.tmp 7) (.int .i64 ((i : Nat) : Int)) (fun _ => rfl) e40_i rfl ?_
    refine wl_mv (.tmp 1) (.int .i64 ((n : Nat) : Int)) (fun _ => rfl) e40_1 rfl ?_
    refine wl_bin (fun x y => do eqGuard .lss 3 (.tmp 8) (.tmp 9) x y; binOp .lss 3 x y) (.tmp 8) (.tmp 9) (.int .i64 ((i : Nat) : Int)) (.int .i64 ((n : Nat) : Int)) (.bool true) (fun _ => rfl) rfl rfl (ltN hid _ _ _) rfl ?_
    refine w_nil ?_
    refine xn_then ?_
    refine w_condT rfl ?_
    refine w_skip ?_
    refine xn_then ?_
    refine w_seq ?_
    refine w_block ?_
    refine w_seq ?_
    refine w_reg ?_
    refine wl_mv (.tmp 0) (.slice pa L.length c) (fun _ => rfl) e40_0 rfl ?_
    refine wl_mv (.tmp 7) (.int .i64 ((i : Nat) : Int)) (fun _ => rfl) e40_i rfl ?_
    refine wl_bin (fun x y => Instr.indexAt 22 x y) (.tmp 13) (.tmp 14) (.slice pa L.length c) (.int .i64 ((i : Nat) : Int)) (pt b1 (o1 + i * 23)) (fun _ => rfl) rfl rfl (ix22 (i := i) hp1 hiL _) rfl ?_
    refine wl_un (fun v => Instr.fieldAt 66 v 0) (.tmp 15) (pt b1 (o1 + i * 23)) (pt b1 (o1 + i * 23)) (fun _ => rfl) rfl (by kernel_rfl) rfl ?_
    refine wl_load 9 (.tmp 16) (pt b1 (o1 + i * 23)) (.string y.nm) rfl rfl (D.run_oneR (hR1.mo M).at' 9 0 rfl Try.underlying9 rfl) rfl ?_
    refine wl_mv (.tmp 2) (.string s) (fun _ => rfl) e40_2 rfl ?_
    cases hf30 : decide (y.nm = s) with
    | true =>
      have hf30p := of_decide_eq_true hf30
      refine wl_bin (fun x y => do eqGuard .eql 9 (.tmp 17) (.tmp 18) x y; binOp .eql 9 x y) (.tmp 17) (.tmp 18) (.string y.nm) (.string s) (.bool true) (fun _ => rfl) rfl rfl (s9 hf30 _ _ _) rfl ?_
      refine w_nil ?_
      refine xn_then ?_
      refine w_condT rfl ?_
      refine w_seq ?_
      refine w_reg ?_
      refine wl_mv (.const (.bool true)) (.bool true) (fun _ => rfl) rfl rfl ?_
      refine w_nil ?_
      refine xn_then ?_
      refine w_ret ?_
      refine xr_blk ?_
      refine xr_then ?_
      refine xr_then ?_
      refine xr_blk ?_
      refine xr_then ?_
      exact w_ret1 _ (.bool true) rfl rfl ⟨by rw [take_any.2 ⟨i, y, hil, hy, hf30⟩], M⟩
    | false =>
      have hf30p := of_decide_eq_false hf30
      refine wl_bin (fun x y => do eqGuard .eql 9 (.tmp 17) (.tmp 18) x y; binOp .eql 9 x y) (.tmp 17) (.tmp 18) (.string y.nm) (.string s) (.bool false) (fun _ => rfl) rfl rfl (s9 hf30 _ _ _) rfl ?_
      refine w_nil ?_
      refine xn_then ?_
      refine w_condF rfl ?_
      refine w_skip ?_
      refine xn_blk ?_
      refine xn_then ?_
      refine w_reg ?_
      refine wl_mv (.tmp 7) (.int .i64 ((i : Nat) : Int)) (fun _ => rfl) e40_i rfl ?_
      refine wl_bin (fun x y => do eqGuard .add 3 (.tmp 11) (.const (.int .i64 (1))) x y; binOp .add 3 x y) (.tmp 11) (.const (.int .i64 (1))) (.int .i64 ((i : Nat) : Int)) (.int .i64 (1)) (.int .i64 ((i + 1 : Nat) : Int)) (fun _ => rfl) rfl rfl (add1r (k := i) (by omega) _ _ _) rfl ?_
      refine wl_mv (.tmp 12) (.int .i64 ((i + 1 : Nat) : Int)) (fun _ => rfl) rfl rfl ?_
      refine w_nil ?_
      exact xn_loop (n - (i + 1)) (by omega) ⟨i + 1, rfl, by omega, e40_0, e40_1, e40_2, rfl, any_take hT hy hf30, M⟩
  · skip
    have hid : decide (i < n) = false := decide_eq_false hil
    have hie : i = n := by omega
    refine w_seq ?_
    refine w_seq ?_
    refine w_reg ?_
    refine wl_mv (.tmp 7) (.int .i64 ((i : Nat) : Int)) (fun _ => rfl) e40_i rfl ?_
    refine wl_mv (.tmp 1) (.int .i64 ((n : Nat) : Int)) (fun _ => rfl) e40_1 rfl ?_
    refine wl_bin (fun x y => do eqGuard .lss 3 (.tmp 8) (.tmp 9) x y; binOp .lss 3 x y) (.tmp 8) (.tmp 9) (.int .i64 ((i : Nat) : Int)) (.int .i64 ((n : Nat) : Int)) (.bool false) (fun _ => rfl) rfl rfl (ltN hid _ _ _) rfl ?_
    refine w_nil ?_
    refine xn_then ?_
    refine w_condF rfl ?_
    refine w_exit ?_
    refine xx_then ?_
    refine xx_then ?_
    refine xx_blk ?_
    refine xn_then ?_
    refine w_seq ?_
    refine w_reg ?_
    refine wl_mv (.const (.bool false)) (.bool false) (fun _ => rfl) rfl rfl ?_
    refine w_nil ?_
    refine xn_then ?_
    refine w_ret ?_
    exact w_ret1 _ (.bool false) rfl rfl ⟨by rw [hie] at hT; rw [hT], M⟩
theorem rread_n {w : World} {pa : Option Addr} {c : Nat} {L : List It} (hS : SL w 23 It.cells pa L) (s : ByteArray) : Calls Try.prog 42 #[.slice pa L.length c, .string s] w fun e w' => e = .returned (.tuple #[.int .i64 (((ffi (rdP s) L).getD 0 : Nat) : Int), .bool (ffi (rdP s) L).isSome]) ∧ Mo w w' := by
  refine w_enter 37 Try.func42 Try.ntmps42 rfl rfl ?_
  have M : Mo w w := Mo.refl _
  refine w_seq ?_
  refine w_reg ?_
  refine wl_mv (.const (.int .i64 (0))) (.int .i64 (0)) (fun _ => rfl) rfl rfl ?_
  refine wl_mv (.const (.bool false)) (.bool false) (fun _ => rfl) rfl rfl ?_
  refine w_nil ?_
  refine xn_then ?_
  refine w_seq ?_
  refine w_seq ?_
  refine w_reg ?_
  refine wl_mv (.const (.int .i64 (0))) (.int .i64 (0)) (fun _ => rfl) rfl rfl ?_
  refine w_nil ?_
  refine xn_then ?_
  refine w_block ?_
  have hz := hS.1
  unfold maxLen at hz
  refine w_loop (fun m l w1 => ∃ i : Nat, m = L.length - i ∧ i ≤ L.length ∧ look l 0 = .slice pa L.length c ∧ look l 1 = .string s ∧ look l 6 = .int .i64 ((i : Nat) : Int) ∧ (∀ j, j < i → fiG (rdP s) L j = none) ∧ Mo w w1) _ ⟨0, rfl, Nat.zero_le _, rfl, rfl, rfl, (fun j hj => by omega), M⟩ ?_
  clear M
  rintro m l40 wl40 ⟨i, rfl, hi, e40_0, e40_1, e40_i, hG, M⟩
  by_cases hil : i < L.length
  · skip
    have hid : decide (i < L.length) = true := decide_eq_true hil
    obtain ⟨y, hy⟩ := get_of_lt hil
    obtain ⟨b1, o1, hp1, hR1⟩ := D.SL.rw hS hy
    refine w_seq ?_
    refine w_seq ?_
    refine w_reg ?_
    refine wl_mv (.tmp 6) (.int .i64 ((i : Nat) : Int)) (fun _ => rfl) e40_i rfl ?_
    refine wl_mv (.tmp 0) (.slice pa L.length c) (fun _ => rfl) e40_0 rfl ?_
    refine wl_val (.int .i64 ((L.length : Nat) : Int)) (len22 _ _ _ _ _ (by exact rfl) _ _ _ _ _ _) rfl ?_
    refine wl_bin (fun x y => do eqGuard .lss 3 (.tmp 7) (.tmp 9) x y; binOp .lss 3 x y) (.tmp 7) (.tmp 9) (.int .i64 ((i : Nat) : Int)) (.int .i64 ((L.length : Nat) : Int)) (.bool true) (fun _ => rfl) rfl rfl (ltN hid _ _ _) rfl ?_
    refine w_nil ?_
    refine xn_then ?_
    refine w_condT rfl ?_
    refine w_skip ?_
    refine xn_then ?_
    refine w_seq ?_
    refine w_block ?_
    refine w_seq ?_
    refine w_reg ?_
    refine wl_mv (.tmp 0) (.slice pa L.length c) (fun _ => rfl) e40_0 rfl ?_
    refine wl_mv (.tmp 6) (.int .i64 ((i : Nat) : Int)) (fun _ => rfl) e40_i rfl ?_
    refine wl_bin (fun x y => Instr.indexAt 22 x y) (.tmp 13) (.tmp 14) (.slice pa L.length c) (.int .i64 ((i : Nat) : Int)) (pt b1 (o1 + i * 23)) (fun _ => rfl) rfl rfl (ix22 (i := i) hp1 hil _) rfl ?_
    refine wl_un (fun v => Instr.fieldAt 66 v 0) (.tmp 15) (pt b1 (o1 + i * 23)) (pt b1 (o1 + i * 23)) (fun _ => rfl) rfl (by kernel_rfl) rfl ?_
    refine wl_load 9 (.tmp 16) (pt b1 (o1 + i * 23)) (.string y.nm) rfl rfl (D.run_oneR (hR1.mo M).at' 9 0 rfl Try.underlying9 rfl) rfl ?_
    refine wl_mv (.tmp 1) (.string s) (fun _ => rfl) e40_1 rfl ?_
    cases hf30 : decide (y.nm = s) with
    | true =>
      have hf30p := of_decide_eq_true hf30
      refine wl_bin (fun x y => do eqGuard .eql 9 (.tmp 17) (.tmp 18) x y; binOp .eql 9 x y) (.tmp 17) (.tmp 18) (.string y.nm) (.string s) (.bool true) (fun _ => rfl) rfl rfl (s9 hf30 _ _ _) rfl ?_
      refine wl_mv (.tmp 19) (.bool true) (fun _ => rfl) rfl rfl ?_
      refine wl_mv (.tmp 0) (.slice pa L.length c) (fun _ => rfl) e40_0 rfl ?_
      refine wl_mv (.tmp 6) (.int .i64 ((i : Nat) : Int)) (fun _ => rfl) e40_i rfl ?_
      refine wl_bin (fun x y => Instr.indexAt 22 x y) (.tmp 21) (.tmp 22) (.slice pa L.length c) (.int .i64 ((i : Nat) : Int)) (pt b1 (o1 + i * 23)) (fun _ => rfl) rfl rfl (ix22 (i := i) hp1 hil _) rfl ?_
      refine wl_un (fun v => Instr.fieldAt 66 v 1) (.tmp 23) (pt b1 (o1 + i * 23)) (pt b1 (o1 + i * 23 + 1)) (fun _ => rfl) rfl (by kernel_rfl) rfl ?_
      refine wl_load 3 (.tmp 24) (pt b1 (o1 + i * 23 + 1)) (.int .i64 (y.k)) rfl rfl (D.run_oneR (hR1.mo M).at' 3 1 rfl Try.underlying3 rfl) rfl ?_
      cases hf31 : decide (y.k = 1) with
      | true =>
        have hf31p := of_decide_eq_true hf31
        refine wl_bin (fun x y => do eqGuard .eql 3 (.tmp 25) (.const (.int .i64 (1))) x y; binOp .eql 3 x y) (.tmp 25) (.const (.int .i64 (1))) (.int .i64 (y.k)) (.int .i64 (1)) (.bool true) (fun _ => rfl) rfl rfl (eq3 hf31 _ _ _) rfl ?_
        refine wl_mv (.tmp 26) (.bool true) (fun _ => rfl) rfl rfl ?_
        refine wl_skip rfl ?_
        refine wl_skip rfl ?_
        refine wl_skip rfl ?_
        refine wl_skip rfl ?_
        refine wl_skip rfl ?_
        refine wl_skip rfl ?_
        refine wl_pick (.tmp 27) (.const (.bool true)) (.tmp 33) true (.bool true) (fun _ => rfl) rfl rfl rfl ?_
        refine wl_pick (.tmp 20) (.tmp 34) (.const (.bool false)) true (.bool true) (fun _ => rfl) rfl rfl rfl ?_
        refine w_nil ?_
        refine xn_then ?_
        refine w_condT rfl ?_
        refine w_seq ?_
        refine w_reg ?_
        refine wl_mv (.tmp 6) (.int .i64 ((i : Nat) : Int)) (fun _ => rfl) e40_i rfl ?_
        refine wl_mv (.tmp 36) (.int .i64 ((i : Nat) : Int)) (fun _ => rfl) rfl rfl ?_
        refine wl_mv (.const (.bool true)) (.bool true) (fun _ => rfl) rfl rfl ?_
        refine w_nil ?_
        refine xn_then ?_
        refine w_ret ?_
        refine xr_blk ?_
        refine xr_then ?_
        refine xr_then ?_
        refine xr_blk ?_
        refine xr_then ?_
        exact w_ret2 _ _ (.int .i64 ((i : Nat) : Int)) (.bool true) rfl rfl rfl ⟨by unfold ffi; rw [fs_hit hG (fiG_1 hy (by unfold rdP cbr; rw [hf30, hf31]; rfl)) hil]; rfl, M⟩
      | false =>
        have hf31p := of_decide_eq_false hf31
        refine wl_bin (fun x y => do eqGuard .eql 3 (.tmp 25) (.const (.int .i64 (1))) x y; binOp .eql 3 x y) (.tmp 25) (.const (.int .i64 (1))) (.int .i64 (y.k)) (.int .i64 (1)) (.bool false) (fun _ => rfl) rfl rfl (eq3 hf31 _ _ _) rfl ?_
        refine wl_mv (.tmp 26) (.bool false) (fun _ => rfl) rfl rfl ?_
        refine wl_mv (.tmp 0) (.slice pa L.length c) (fun _ => rfl) e40_0 rfl ?_
        refine wl_mv (.tmp 6) (.int .i64 ((i : Nat) : Int)) (fun _ => rfl) e40_i rfl ?_
        refine wl_bin (fun x y => Instr.indexAt 22 x y) (.tmp 28) (.tmp 29) (.slice pa L.length c) (.int .i64 ((i : Nat) : Int)) (pt b1 (o1 + i * 23)) (fun _ => rfl) rfl rfl (ix22 (i := i) hp1 hil _) rfl ?_
        refine wl_un (fun v => Instr.fieldAt 66 v 1) (.tmp 30) (pt b1 (o1 + i * 23)) (pt b1 (o1 + i * 23 + 1)) (fun _ => rfl) rfl (by kernel_rfl) rfl ?_
        refine wl_load 3 (.tmp 31) (pt b1 (o1 + i * 23 + 1)) (.int .i64 (y.k)) rfl rfl (D.run_oneR (hR1.mo M).at' 3 1 rfl Try.underlying3 rfl) rfl ?_
        cases hf32 : decide (y.k = 2) with
        | true =>
          have hf32p := of_decide_eq_true hf32
          refine wl_bin (fun x y => do eqGuard .eql 3 (.tmp 32) (.const (.int .i64 (2))) x y; binOp .eql 3 x y) (.tmp 32) (.const (.int .i64 (2))) (.int .i64 (y.k)) (.int .i64 (2)) (.bool true) (fun _ => rfl) rfl rfl (eq3 hf32 _ _ _) rfl ?_
          refine wl_pick (.tmp 27) (.const (.bool true)) (.tmp 33) false (.bool true) (fun _ => rfl) rfl rfl rfl ?_
          refine wl_pick (.tmp 20) (.tmp 34) (.const (.bool false)) true (.bool true) (fun _ => rfl) rfl rfl rfl ?_
          refine w_nil ?_
          refine xn_then ?_
          refine w_condT rfl ?_
          refine w_seq ?_
          refine w_reg ?_
          refine wl_mv (.tmp 6) (.int .i64 ((i : Nat) : Int)) (fun _ => rfl) e40_i rfl ?_
          refine wl_mv (.tmp 36) (.int .i64 ((i : Nat) : Int)) (fun _ => rfl) rfl rfl ?_
          refine wl_mv (.const (.bool true)) (.bool true) (fun _ => rfl) rfl rfl ?_
          refine w_nil ?_
          refine xn_then ?_
          refine w_ret ?_
          refine xr_blk ?_
          refine xr_then ?_
          refine xr_then ?_
          refine xr_blk ?_
          refine xr_then ?_
          exact w_ret2 _ _ (.int .i64 ((i : Nat) : Int)) (.bool true) rfl rfl rfl ⟨by unfold ffi; rw [fs_hit hG (fiG_1 hy (by unfold rdP cbr; rw [hf30, hf31, hf32]; rfl)) hil]; rfl, M⟩
        | false =>
          have hf32p := of_decide_eq_false hf32
          refine wl_bin (fun x y => do eqGuard .eql 3 (.tmp 32) (.const (.int .i64 (2))) x y; binOp .eql 3 x y) (.tmp 32) (.const (.int .i64 (2))) (.int .i64 (y.k)) (.int .i64 (2)) (.bool false) (fun _ => rfl) rfl rfl (eq3 hf32 _ _ _) rfl ?_
          refine wl_pick (.tmp 27) (.const (.bool true)) (.tmp 33) false (.bool false) (fun _ => rfl) rfl rfl rfl ?_
          refine wl_pick (.tmp 20) (.tmp 34) (.const (.bool false)) true (.bool false) (fun _ => rfl) rfl rfl rfl ?_
          refine w_nil ?_
          refine xn_then ?_
          refine w_condF rfl ?_
          refine w_skip ?_
          refine xn_blk ?_
          refine xn_then ?_
          refine w_reg ?_
          refine wl_mv (.tmp 6) (.int .i64 ((i : Nat) : Int)) (fun _ => rfl) e40_i rfl ?_
          refine wl_bin (fun x y => do eqGuard .add 3 (.tmp 11) (.const (.int .i64 (1))) x y; binOp .add 3 x y) (.tmp 11) (.const (.int .i64 (1))) (.int .i64 ((i : Nat) : Int)) (.int .i64 (1)) (.int .i64 ((i + 1 : Nat) : Int)) (fun _ => rfl) rfl rfl (add1r (k := i) (by omega) _ _ _) rfl ?_
          refine wl_mv (.tmp 12) (.int .i64 ((i + 1 : Nat) : Int)) (fun _ => rfl) rfl rfl ?_
          refine w_nil ?_
          exact xn_loop (L.length - (i + 1)) (by omega) ⟨i + 1, rfl, by omega, e40_0, e40_1, rfl, fs_step hG (fiG_0 hy (by unfold rdP cbr; rw [hf30, hf31, hf32]; rfl)), M⟩
    | false =>
      have hf30p := of_decide_eq_false hf30
      refine wl_bin (fun x y => do eqGuard .eql 9 (.tmp 17) (.tmp 18) x y; binOp .eql 9 x y) (.tmp 17) (.tmp 18) (.string y.nm) (.string s) (.bool false) (fun _ => rfl) rfl rfl (s9 hf30 _ _ _) rfl ?_
      refine wl_mv (.tmp 19) (.bool false) (fun _ => rfl) rfl rfl ?_
      refine wl_skip rfl ?_
      refine wl_skip rfl ?_
      refine wl_skip rfl ?_
      refine wl_skip rfl ?_
      refine wl_skip rfl ?_
      refine wl_skip rfl ?_
      refine wl_skip rfl ?_
      refine wl_skip rfl ?_
      refine wl_skip rfl ?_
      refine wl_skip rfl ?_
      refine wl_skip rfl ?_
      refine wl_skip rfl ?_
      refine wl_skip rfl ?_
      refine wl_skip rfl ?_
      refine wl_pick (.tmp 20) (.tmp 34) (.const (.bool false)) false (.bool false) (fun _ => rfl) rfl rfl rfl ?_
      refine w_nil ?_
      refine xn_then ?_
      refine w_condF rfl ?_
      refine w_skip ?_
      refine xn_blk ?_
      refine xn_then ?_
      refine w_reg ?_
      refine wl_mv (.tmp 6) (.int .i64 ((i : Nat) : Int)) (fun _ => rfl) e40_i rfl ?_
      refine wl_bin (fun x y => do eqGuard .add 3 (.tmp 11) (.const (.int .i64 (1))) x y; binOp .add 3 x y) (.tmp 11) (.const (.int .i64 (1))) (.int .i64 ((i : Nat) : Int)) (.int .i64 (1)) (.int .i64 ((i + 1 : Nat) : Int)) (fun _ => rfl) rfl rfl (add1r (k := i) (by omega) _ _ _) rfl ?_
      refine wl_mv (.tmp 12) (.int .i64 ((i + 1 : Nat) : Int)) (fun _ => rfl) rfl rfl ?_
      refine w_nil ?_
      exact xn_loop (L.length - (i + 1)) (by omega) ⟨i + 1, rfl, by omega, e40_0, e40_1, rfl, fs_step hG (fiG_0 hy (by unfold rdP; rw [hf30]; rfl)), M⟩
  · skip
    have hid : decide (i < L.length) = false := decide_eq_false hil
    have hie : i = L.length := by omega
    refine w_seq ?_
    refine w_seq ?_
    refine w_reg ?_
    refine wl_mv (.tmp 6) (.int .i64 ((i : Nat) : Int)) (fun _ => rfl) e40_i rfl ?_
    refine wl_mv (.tmp 0) (.slice pa L.length c) (fun _ => rfl) e40_0 rfl ?_
    refine wl_val (.int .i64 ((L.length : Nat) : Int)) (len22 _ _ _ _ _ (by exact rfl) _ _ _ _ _ _) rfl ?_
    refine wl_bin (fun x y => do eqGuard .lss 3 (.tmp 7) (.tmp 9) x y; binOp .lss 3 x y) (.tmp 7) (.tmp 9) (.int .i64 ((i : Nat) : Int)) (.int .i64 ((L.length : Nat) : Int)) (.bool false) (fun _ => rfl) rfl rfl (ltN hid _ _ _) rfl ?_
    refine w_nil ?_
    refine xn_then ?_
    refine w_condF rfl ?_
    refine w_exit ?_
    refine xx_then ?_
    refine xx_then ?_
    refine xx_blk ?_
    refine xn_then ?_
    refine w_seq ?_
    refine w_reg ?_
    refine wl_mv (.const (.int .i64 (0))) (.int .i64 (0)) (fun _ => rfl) rfl rfl ?_
    refine wl_mv (.const (.bool false)) (.bool false) (fun _ => rfl) rfl rfl ?_
    refine w_nil ?_
    refine xn_then ?_
    refine w_ret ?_
    exact w_ret2 _ _ (.int .i64 (0)) (.bool false) rfl rfl rfl ⟨by unfold ffi; rw [fs_none (by rw [← hie]; exact hG)]; rfl, M⟩
theorem around_n {w : World} {pa : Option Addr} {c : Nat} {L : List S5} (hS : SL w 5 S5.cells pa L) (h5 : ∀ x ∈ L, LS5 w x) (hw : Wf L) (k : Nat) (hk : k < L.length) (nm : ByteArray) : Calls Try.prog 72 #[.slice pa L.length c, .int .i64 ((k : Nat) : Int), .string nm] w fun e w' => e = .returned (.bool (arn L k nm)) ∧ Mo w w' := by
  refine w_enter 43 Try.func72 Try.ntmps72 rfl rfl ?_
  have M : Mo w w := Mo.refl _
  refine w_seq ?_
  refine w_reg ?_
  refine wl_mv (.const (.bool false)) (.bool false) (fun _ => rfl) rfl rfl ?_
  refine w_nil ?_
  refine xn_then ?_
  refine w_seq ?_
  refine w_seq ?_
  refine w_reg ?_
  refine wl_mv (.const (.int .i64 (0))) (.int .i64 (0)) (fun _ => rfl) rfl rfl ?_
  refine w_nil ?_
  refine xn_then ?_
  refine w_block ?_
  have hz := hS.1
  unfold maxLen at hz
  obtain ⟨R0, hR0⟩ : ∃ R, anc L k = k :: R := ⟨_, by rw [anc]⟩
  have hl0 := anc_len L k
  rw [hR0] at hl0
  simp only [List.length_cons] at hl0
  refine w_loop (fun m l w1 => ∃ (i a : Nat) (R : List Nat), m = R.length ∧ look l 0 = .slice pa L.length c ∧ look l 1 = .int .i64 ((a : Nat) : Int) ∧ look l 2 = .string nm ∧ look l 7 = .int .i64 ((i : Nat) : Int) ∧ a < L.length ∧ anc L a = a :: R ∧ i + R.length < L.length ∧ arn L k nm = R.any (arP L nm) ∧ Mo w w1) _ ⟨0, k, R0, rfl, rfl, rfl, rfl, rfl, hk, hR0, by omega, by unfold arn; rw [hR0]; rfl, M⟩ ?_
  clear M
  rintro m l wl ⟨i, a, R, rfl, e0, e1, e2, e7, ha, hR, hlen, hT, M⟩
  have hid : decide (i < L.length) = true := decide_eq_true (by omega)
  obtain ⟨x, hx⟩ := get_of_lt ha
  obtain ⟨R1, hR1, hU⟩ := anc_step hw hx
  obtain rfl : R1 = R := by rw [hR] at hR1; exact (List.cons.inj hR1).2.symm
  obtain ⟨bp, op, hpp, hRp⟩ := D.SL.rw hS hx
  refine w_seq ?_
  refine w_seq ?_
  refine w_reg ?_
  refine wl_mv (.tmp 7) (.int .i64 ((i : Nat) : Int)) (fun _ => rfl) e7 rfl ?_
  refine wl_mv (.tmp 0) (.slice pa L.length c) (fun _ => rfl) e0 rfl ?_
  refine wl_val (.int .i64 ((L.length : Nat) : Int)) (len37 _ _ _ _ _ (by exact rfl) _ _ _ _ _ _) rfl ?_
  refine wl_bin (fun x y => do eqGuard .lss 3 (.tmp 8) (.tmp 10) x y; binOp .lss 3 x y) (.tmp 8) (.tmp 10) (.int .i64 ((i : Nat) : Int)) (.int .i64 ((L.length : Nat) : Int)) (.bool true) (fun _ => rfl) rfl rfl (ltN hid _ _ _) rfl ?_
  refine w_nil ?_
  refine xn_then ?_
  refine w_condT rfl ?_
  refine w_skip ?_
  refine xn_then ?_
  refine w_seq ?_
  refine w_block ?_
  refine w_seq ?_
  refine w_reg ?_
  refine wl_mv (.tmp 0) (.slice pa L.length c) (fun _ => rfl) e0 rfl ?_
  refine wl_mv (.tmp 1) (.int .i64 ((a : Nat) : Int)) (fun _ => rfl) e1 rfl ?_
  refine wl_bin (fun x y => Instr.indexAt 37 x y) (.tmp 14) (.tmp 15) (.slice pa L.length c) (.int .i64 ((a : Nat) : Int)) (pt bp (op + a * 5)) (fun _ => rfl) rfl rfl (ix37 (i := a) hpp ha _) rfl ?_
  refine wl_un (fun v => Instr.fieldAt 52 v 0) (.tmp 16) (pt bp (op + a * 5)) (pt bp (op + a * 5)) (fun _ => rfl) rfl (by kernel_rfl) rfl ?_
  refine wl_load 3 (.tmp 17) (pt bp (op + a * 5)) (.int .i64 (x.pr)) rfl rfl (D.run_oneR (hRp.mo M).at' 3 0 rfl Try.underlying3 rfl) rfl ?_
  refine wl_mv (.tmp 18) (.int .i64 (x.pr)) (fun _ => rfl) rfl rfl ?_
  refine w_nil ?_
  refine xn_then ?_
  refine w_seq ?_
  refine w_seq ?_
  refine w_reg ?_
  refine wl_mv (.tmp 1) (.int .i64 (x.pr)) (fun _ => rfl) rfl rfl ?_
  cases hf20 : decide (x.pr < 0) with
  | true =>
    have hf20p := of_decide_eq_true hf20
    refine wl_bin (fun x y => do eqGuard .lss 3 (.tmp 19) (.const (.int .i64 (0))) x y; binOp .lss 3 x y) (.tmp 19) (.const (.int .i64 (0))) (.int .i64 (x.pr)) (.int .i64 (0)) (.bool true) (fun _ => rfl) rfl rfl (lt3 hf20 _ _ _) rfl ?_
    refine w_nil ?_
    refine xn_then ?_
    refine w_condT rfl ?_
    refine w_seq ?_
    refine w_reg ?_
    refine wl_mv (.const (.bool false)) (.bool false) (fun _ => rfl) rfl rfl ?_
    refine w_nil ?_
    refine xn_then ?_
    refine w_ret ?_
    refine xr_then ?_
    refine xr_blk ?_
    refine xr_then ?_
    refine xr_then ?_
    refine xr_blk ?_
    refine xr_then ?_
    exact w_ret1 _ (.bool false) rfl rfl ⟨by rw [hT]; rcases hU with ⟨_, rfl⟩ | ⟨j, hj, _⟩; rfl; omega, M⟩
  | false =>
    have hf20p := of_decide_eq_false hf20
    refine wl_bin (fun x y => do eqGuard .lss 3 (.tmp 19) (.const (.int .i64 (0))) x y; binOp .lss 3 x y) (.tmp 19) (.const (.int .i64 (0))) (.int .i64 (x.pr)) (.int .i64 (0)) (.bool false) (fun _ => rfl) rfl rfl (lt3 hf20 _ _ _) rfl ?_
    refine w_nil ?_
    refine xn_then ?_
    refine w_condF rfl ?_
    refine w_skip ?_
    refine xn_then ?_
    refine w_seq ?_
    rcases hU with ⟨h9, _⟩ | ⟨j, hj, hj2, hR2⟩
    · omega
    obtain ⟨R2, hR3⟩ : ∃ R2, anc L j = j :: R2 := ⟨_, by rw [anc]⟩
    rw [hR3] at hR2
    obtain ⟨y, hy⟩ := get_of_lt hj2
    obtain ⟨bq, oq, hpq, hRq⟩ := D.SL.rw hS hy
    have hjv : ∀ {v : Value}, v = .int .i64 (x.pr) → v = .int .i64 ((j : Nat) : Int) := fun e => by rw [e, hj]
    cases hf21 : decide (y.nm = nm) with
    | true =>
      have hf21p := of_decide_eq_true hf21
      refine w_any 20 [.inl (.slice pa L.length c), .inl (.int .i64 ((j : Nat) : Int)), .inl (pt bq (oq + j * 5)), .inl (pt bq (oq + j * 5 + 2)), .inl (.string y.nm), .inl (.string nm), .inl (.bool true), .inl (.bool true), .inl undef, .inl undef, .inl undef, .inl undef, .inl undef, .inl undef, .inl undef, .inl undef, .inl undef, .inl undef, .inl undef, .inl undef] [] (by kernel_rfl) (by kernel_rfl) (by kernel_rfl) (by kernel_rfl) rfl (by kernel_rfl) (by kernel_rfl) late_nil ?_ ?_ ?_
      · exact Ds.none rfl
      · refine ea_cons ?_ (ea_cons ?_ (ea_cons ?_ (ea_cons ?_ (ea_cons ?_ (ea_cons ?_ (ea_cons ?_ (ea_cons ?_ (ea_cons ?_ (ea_cons ?_ (ea_cons ?_ (ea_cons ?_ (ea_cons ?_ (ea_cons ?_ (ea_cons ?_ (ea_cons ?_ (ea_cons ?_ (ea_cons ?_ (ea_cons ?_ (ea_cons ?_ (ea_nil))))))))))))))))))))
        · exact og_eq (.slice pa L.length c) rfl (fun f wf hq hd K hK => go_run rfl (wo_mv (.tmp 0) (.slice pa L.length c) (fun _ => rfl) e0 (hK _ (Mo.refl _))))
        · exact og_eq (.int .i64 ((j : Nat) : Int)) rfl (fun f wf hq hd K hK => go_run rfl (wo_mv (.tmp 1) (.int .i64 ((j : Nat) : Int)) (fun _ => rfl) (hjv rfl) (hK _ (Mo.refl _))))
        · exact og_eq (pt bq (oq + j * 5)) rfl (fun f wf hq hd K hK => go_run rfl (wo_bin (fun x y => Instr.indexAt 37 x y) (.tmp 21) (.tmp 22) (.slice pa L.length c) (.int .i64 ((j : Nat) : Int)) (pt bq (oq + j * 5)) (fun _ => rfl) (hd 0 rfl) (hd 1 rfl) (ix37 (i := j) hpq hj2 _) (hK _ (Mo.refl _))))
        · exact og_eq (pt bq (oq + j * 5 + 2)) rfl (fun f wf hq hd K hK => go_run rfl (wo_un (fun v => Instr.fieldAt 52 v 2) (.tmp 23) (pt bq (oq + j * 5)) (pt bq (oq + j * 5 + 2)) (fun _ => rfl) (hd 2 rfl) (by kernel_rfl) (hK _ (Mo.refl _))))
        · exact og_eq (.string y.nm) rfl (fun f wf hq hd K hK => go_run rfl (wo_load 9 (.tmp 24) (pt bq (oq + j * 5 + 2)) (.string y.nm) rfl (hd 3 rfl) (D.run_oneR (hRq.mo (M.trans hq)).at' 9 2 rfl Try.underlying9 rfl) (hK _ (Mo.refl _))))
        · exact og_eq (.string nm) rfl (fun f wf hq hd K hK => go_run rfl (wo_mv (.tmp 2) (.string nm) (fun _ => rfl) e2 (hK _ (Mo.refl _))))
        · exact og_eq (.bool true) rfl (fun f wf hq hd K hK => go_run rfl (wo_bin (fun x y => do eqGuard .eql 9 (.tmp 25) (.tmp 26) x y; binOp .eql 9 x y) (.tmp 25) (.tmp 26) (.string y.nm) (.string nm) (.bool true) (fun _ => rfl) (hd 4 rfl) (hd 5 rfl) (s9 hf21 _ _ _) (hK _ (Mo.refl _))))
        · exact og_eq (.bool true) rfl (fun f wf hq hd K hK => go_run rfl (wo_mv (.tmp 27) (.bool true) (fun _ => rfl) (hd 6 rfl) (hK _ (Mo.refl _))))
        · exact og_eq undef rfl (fun f wf hq hd K hK => go_pass (wnt_g rfl rfl rfl (hd 7 rfl) rfl) (hK _ (Mo.refl _)))
        · exact og_eq undef rfl (fun f wf hq hd K hK => go_pass (wnt_g rfl rfl rfl (hd 7 rfl) rfl) (hK _ (Mo.refl _)))
        · exact og_eq undef rfl (fun f wf hq hd K hK => go_pass (wnt_g rfl rfl rfl (hd 7 rfl) rfl) (hK _ (Mo.refl _)))
        · exact og_eq undef rfl (fun f wf hq hd K hK => go_pass (wnt_g rfl rfl rfl (hd 7 rfl) rfl) (hK _ (Mo.refl _)))
        · exact og_eq undef rfl (fun f wf hq hd K hK => go_pass (wnt_g rfl rfl rfl (hd 7 rfl) rfl) (hK _ (Mo.refl _)))
        · exact og_eq undef rfl (fun f wf hq hd K hK => go_pass (wnt_g rfl rfl rfl (hd 7 rfl) rfl) (hK _ (Mo.refl _)))
        · exact og_eq undef rfl (fun f wf hq hd K hK => go_pass (wnt_g rfl rfl rfl (hd 7 rfl) rfl) (hK _ (Mo.refl _)))
        · exact og_eq undef rfl (fun f wf hq hd K hK => go_pass (wnt_g rfl rfl rfl (hd 7 rfl) rfl) (hK _ (Mo.refl _)))
        · exact og_eq undef rfl (fun f wf hq hd K hK => go_pass (wnt_g rfl rfl rfl (hd 7 rfl) rfl) (hK _ (Mo.refl _)))
        · exact og_eq undef rfl (fun f wf hq hd K hK => go_pass (wnt_g rfl rfl rfl (hd 7 rfl) rfl) (hK _ (Mo.refl _)))
        · exact og_eq undef rfl (fun f wf hq hd K hK => go_pass (wnt_g rfl rfl rfl (hd 7 rfl) rfl) (hK _ (Mo.refl _)))
        · exact og_eq undef rfl (fun f wf hq hd K hK => go_pass (wnt_g rfl rfl rfl (hd 7 rfl) rfl) (hK _ (Mo.refl _)))
      intro kf21 u21 hq hR hne
      replace M := M.trans hq
      clear hq hR hne
      refine wl_skip rfl ?_
      refine wl_pick (.tmp 28) (.const (.bool true)) (.tmp 41) true (.bool true) (fun _ => rfl) rfl rfl rfl ?_
      refine w_nil ?_
      refine xn_then ?_
      refine w_condT rfl ?_
      refine w_seq ?_
      refine w_reg ?_
      refine wl_mv (.const (.bool true)) (.bool true) (fun _ => rfl) rfl rfl ?_
      refine w_nil ?_
      refine xn_then ?_
      refine w_ret ?_
      refine xr_blk ?_
      refine xr_then ?_
      refine xr_then ?_
      refine xr_blk ?_
      refine xr_then ?_
      exact w_ret1 _ (.bool true) rfl rfl ⟨by rw [hT, hR2, List.any_cons]; unfold arP; rw [nmO_of hy, hf21]; rfl, M⟩
    | false =>
      have hf21p := of_decide_eq_false hf21
      cases hf22 : (y.items.any (fun u => decide (u.nm = nm))) with
      | true =>
        refine w_any 20 [.inl (.slice pa L.length c), .inl (.int .i64 ((j : Nat) : Int)), .inl (pt bq (oq + j * 5)), .inl (pt bq (oq + j * 5 + 2)), .inl (.string y.nm), .inl (.string nm), .inl (.bool false), .inl (.bool false), .inl (.slice pa L.length c), .inl (.int .i64 ((j : Nat) : Int)), .inl (pt bq (oq + j * 5)), .inl (pt bq (oq + j * 5 + 4)), .inl (.slice y.pi y.items.length y.ci), .inl (.slice pa L.length c), .inl (.int .i64 ((j : Nat) : Int)), .inl (pt bq (oq + j * 5)), .inl (pt bq (oq + j * 5 + 4)), .inl (.slice y.pi y.items.length y.ci), .inl (.int .i64 ((y.items.length : Nat) : Int)), .inl (.string nm)] [] (by kernel_rfl) (by kernel_rfl) (by kernel_rfl) (by kernel_rfl) rfl (by kernel_rfl) (by kernel_rfl) late_nil ?_ ?_ ?_
        · exact Ds.none rfl
        · refine ea_cons ?_ (ea_cons ?_ (ea_cons ?_ (ea_cons ?_ (ea_cons ?_ (ea_cons ?_ (ea_cons ?_ (ea_cons ?_ (ea_cons ?_ (ea_cons ?_ (ea_cons ?_ (ea_cons ?_ (ea_cons ?_ (ea_cons ?_ (ea_cons ?_ (ea_cons ?_ (ea_cons ?_ (ea_cons ?_ (ea_cons ?_ (ea_cons ?_ (ea_nil))))))))))))))))))))
          · exact og_eq (.slice pa L.length c) rfl (fun f wf hq hd K hK => go_run rfl (wo_mv (.tmp 0) (.slice pa L.length c) (fun _ => rfl) e0 (hK _ (Mo.refl _))))
          · exact og_eq (.int .i64 ((j : Nat) : Int)) rfl (fun f wf hq hd K hK => go_run rfl (wo_mv (.tmp 1) (.int .i64 ((j : Nat) : Int)) (fun _ => rfl) (hjv rfl) (hK _ (Mo.refl _))))
          · exact og_eq (pt bq (oq + j * 5)) rfl (fun f wf hq hd K hK => go_run rfl (wo_bin (fun x y => Instr.indexAt 37 x y) (.tmp 21) (.tmp 22) (.slice pa L.length c) (.int .i64 ((j : Nat) : Int)) (pt bq (oq + j * 5)) (fun _ => rfl) (hd 0 rfl) (hd 1 rfl) (ix37 (i := j) hpq hj2 _) (hK _ (Mo.refl _))))
          · exact og_eq (pt bq (oq + j * 5 + 2)) rfl (fun f wf hq hd K hK => go_run rfl (wo_un (fun v => Instr.fieldAt 52 v 2) (.tmp 23) (pt bq (oq + j * 5)) (pt bq (oq + j * 5 + 2)) (fun _ => rfl) (hd 2 rfl) (by kernel_rfl) (hK _ (Mo.refl _))))
          · exact og_eq (.string y.nm) rfl (fun f wf hq hd K hK => go_run rfl (wo_load 9 (.tmp 24) (pt bq (oq + j * 5 + 2)) (.string y.nm) rfl (hd 3 rfl) (D.run_oneR (hRq.mo (M.trans hq)).at' 9 2 rfl Try.underlying9 rfl) (hK _ (Mo.refl _))))
          · exact og_eq (.string nm) rfl (fun f wf hq hd K hK => go_run rfl (wo_mv (.tmp 2) (.string nm) (fun _ => rfl) e2 (hK _ (Mo.refl _))))
          · exact og_eq (.bool false) rfl (fun f wf hq hd K hK => go_run rfl (wo_bin (fun x y => do eqGuard .eql 9 (.tmp 25) (.tmp 26) x y; binOp .eql 9 x y) (.tmp 25) (.tmp 26) (.string y.nm) (.string nm) (.bool false) (fun _ => rfl) (hd 4 rfl) (hd 5 rfl) (s9 hf21 _ _ _) (hK _ (Mo.refl _))))
          · exact og_eq (.bool false) rfl (fun f wf hq hd K hK => go_run rfl (wo_mv (.tmp 27) (.bool false) (fun _ => rfl) (hd 6 rfl) (hK _ (Mo.refl _))))
          · exact og_eq (.slice pa L.length c) rfl (fun f wf hq hd K hK => go_run (wnt_g rfl rfl rfl (hd 7 rfl) rfl) (wo_mv (.tmp 0) (.slice pa L.length c) (fun _ => rfl) e0 (hK _ (Mo.refl _))))
          · exact og_eq (.int .i64 ((j : Nat) : Int)) rfl (fun f wf hq hd K hK => go_run (wnt_g rfl rfl rfl (hd 7 rfl) rfl) (wo_mv (.tmp 1) (.int .i64 ((j : Nat) : Int)) (fun _ => rfl) (hjv rfl) (hK _ (Mo.refl _))))
          · exact og_eq (pt bq (oq + j * 5)) rfl (fun f wf hq hd K hK => go_run (wnt_g rfl rfl rfl (hd 7 rfl) rfl) (wo_bin (fun x y => Instr.indexAt 37 x y) (.tmp 29) (.tmp 30) (.slice pa L.length c) (.int .i64 ((j : Nat) : Int)) (pt bq (oq + j * 5)) (fun _ => rfl) (hd 8 rfl) (hd 9 rfl) (ix37 (i := j) hpq hj2 _) (hK _ (Mo.refl _))))
          · exact og_eq (pt bq (oq + j * 5 + 4)) rfl (fun f wf hq hd K hK => go_run (wnt_g rfl rfl rfl (hd 7 rfl) rfl) (wo_un (fun v => Instr.fieldAt 52 v 4) (.tmp 31) (pt bq (oq + j * 5)) (pt bq (oq + j * 5 + 4)) (fun _ => rfl) (hd 10 rfl) (by kernel_rfl) (hK _ (Mo.refl _))))
          · exact og_eq (.slice y.pi y.items.length y.ci) rfl (fun f wf hq hd K hK => go_run (wnt_g rfl rfl rfl (hd 7 rfl) rfl) (wo_load 22 (.tmp 32) (pt bq (oq + j * 5 + 4)) (.slice y.pi y.items.length y.ci) rfl (hd 11 rfl) (D.run_oneR (hRq.mo (M.trans hq)).at' 22 4 rfl Try.underlying22 rfl) (hK _ (Mo.refl _))))
          · exact og_eq (.slice pa L.length c) rfl (fun f wf hq hd K hK => go_run (wnt_g rfl rfl rfl (hd 7 rfl) rfl) (wo_mv (.tmp 0) (.slice pa L.length c) (fun _ => rfl) e0 (hK _ (Mo.refl _))))
          · exact og_eq (.int .i64 ((j : Nat) : Int)) rfl (fun f wf hq hd K hK => go_run (wnt_g rfl rfl rfl (hd 7 rfl) rfl) (wo_mv (.tmp 1) (.int .i64 ((j : Nat) : Int)) (fun _ => rfl) (hjv rfl) (hK _ (Mo.refl _))))
          · exact og_eq (pt bq (oq + j * 5)) rfl (fun f wf hq hd K hK => go_run (wnt_g rfl rfl rfl (hd 7 rfl) rfl) (wo_bin (fun x y => Instr.indexAt 37 x y) (.tmp 34) (.tmp 35) (.slice pa L.length c) (.int .i64 ((j : Nat) : Int)) (pt bq (oq + j * 5)) (fun _ => rfl) (hd 13 rfl) (hd 14 rfl) (ix37 (i := j) hpq hj2 _) (hK _ (Mo.refl _))))
          · exact og_eq (pt bq (oq + j * 5 + 4)) rfl (fun f wf hq hd K hK => go_run (wnt_g rfl rfl rfl (hd 7 rfl) rfl) (wo_un (fun v => Instr.fieldAt 52 v 4) (.tmp 36) (pt bq (oq + j * 5)) (pt bq (oq + j * 5 + 4)) (fun _ => rfl) (hd 15 rfl) (by kernel_rfl) (hK _ (Mo.refl _))))
          · exact og_eq (.slice y.pi y.items.length y.ci) rfl (fun f wf hq hd K hK => go_run (wnt_g rfl rfl rfl (hd 7 rfl) rfl) (wo_load 22 (.tmp 37) (pt bq (oq + j * 5 + 4)) (.slice y.pi y.items.length y.ci) rfl (hd 16 rfl) (D.run_oneR (hRq.mo (M.trans hq)).at' 22 4 rfl Try.underlying22 rfl) (hK _ (Mo.refl _))))
          · exact og_eq (.int .i64 ((y.items.length : Nat) : Int)) rfl (fun f wf hq hd K hK => go_run (wnt_g rfl rfl rfl (hd 7 rfl) rfl) (wo_val (.int .i64 ((y.items.length : Nat) : Int)) (len22 _ _ _ _ _ (by exact (hd 17 rfl)) _ _ _ _ _ _) (hK _ (Mo.refl _))))
          · exact og_eq (.string nm) rfl (fun f wf hq hd K hK => go_run (wnt_g rfl rfl rfl (hd 7 rfl) rfl) (wo_mv (.tmp 2) (.string nm) (fun _ => rfl) e2 (hK _ (Mo.refl _))))
        intro kf21 u21 hq hR hne
        replace M := M.trans hq
        clear hq hR hne
        refine wl_call 73 [(.tmp 33), (.tmp 39), (.tmp 40)] _ [.slice y.pi y.items.length y.ci, .int .i64 ((y.items.length : Nat) : Int), .string nm] (.bool true) rfl rfl (fun _ _ => by kernel_rfl) (cB (by rw [List.take_length]; exact hf22) (rhas_n ((h5 y (List.mem_of_getElem? hy)).it.kp M.kp) y.items.length (Nat.le_refl _) nm)) rfl ?_
        intro u22 hq
        replace M := M.trans hq
        clear hq
        refine wl_pick (.tmp 28) (.const (.bool true)) (.tmp 41) false (.bool true) (fun _ => rfl) rfl rfl rfl ?_
        refine w_nil ?_
        refine xn_then ?_
        refine w_condT rfl ?_
        refine w_seq ?_
        refine w_reg ?_
        refine wl_mv (.const (.bool true)) (.bool true) (fun _ => rfl) rfl rfl ?_
        refine w_nil ?_
        refine xn_then ?_
        refine w_ret ?_
        refine xr_blk ?_
        refine xr_then ?_
        refine xr_then ?_
        refine xr_blk ?_
        refine xr_then ?_
        exact w_ret1 _ (.bool true) rfl rfl ⟨by rw [hT, hR2, List.any_cons]; unfold arP; rw [nmO_of hy, hf21, itO_of hy, hf22]; rfl, M⟩
      | false =>
        refine w_any 20 [.inl (.slice pa L.length c), .inl (.int .i64 ((j : Nat) : Int)), .inl (pt bq (oq + j * 5)), .inl (pt bq (oq + j * 5 + 2)), .inl (.string y.nm), .inl (.string nm), .inl (.bool false), .inl (.bool false), .inl (.slice pa L.length c), .inl (.int .i64 ((j : Nat) : Int)), .inl (pt bq (oq + j * 5)), .inl (pt bq (oq + j * 5 + 4)), .inl (.slice y.pi y.items.length y.ci), .inl (.slice pa L.length c), .inl (.int .i64 ((j : Nat) : Int)), .inl (pt bq (oq + j * 5)), .inl (pt bq (oq + j * 5 + 4)), .inl (.slice y.pi y.items.length y.ci), .inl (.int .i64 ((y.items.length : Nat) : Int)), .inl (.string nm)] [] (by kernel_rfl) (by kernel_rfl) (by kernel_rfl) (by kernel_rfl) rfl (by kernel_rfl) (by kernel_rfl) late_nil ?_ ?_ ?_
        · exact Ds.none rfl
        · refine ea_cons ?_ (ea_cons ?_ (ea_cons ?_ (ea_cons ?_ (ea_cons ?_ (ea_cons ?_ (ea_cons ?_ (ea_cons ?_ (ea_cons ?_ (ea_cons ?_ (ea_cons ?_ (ea_cons ?_ (ea_cons ?_ (ea_cons ?_ (ea_cons ?_ (ea_cons ?_ (ea_cons ?_ (ea_cons ?_ (ea_cons ?_ (ea_cons ?_ (ea_nil))))))))))))))))))))
          · exact og_eq (.slice pa L.length c) rfl (fun f wf hq hd K hK => go_run rfl (wo_mv (.tmp 0) (.slice pa L.length c) (fun _ => rfl) e0 (hK _ (Mo.refl _))))
          · exact og_eq (.int .i64 ((j : Nat) : Int)) rfl (fun f wf hq hd K hK => go_run rfl (wo_mv (.tmp 1) (.int .i64 ((j : Nat) : Int)) (fun _ => rfl) (hjv rfl) (hK _ (Mo.refl _))))
          · exact og_eq (pt bq (oq + j * 5)) rfl (fun f wf hq hd K hK => go_run rfl (wo_bin (fun x y => Instr.indexAt 37 x y) (.tmp 21) (.tmp 22) (.slice pa L.length c) (.int .i64 ((j : Nat) : Int)) (pt bq (oq + j * 5)) (fun _ => rfl) (hd 0 rfl) (hd 1 rfl) (ix37 (i := j) hpq hj2 _) (hK _ (Mo.refl _))))
          · exact og_eq (pt bq (oq + j * 5 + 2)) rfl (fun f wf hq hd K hK => go_run rfl (wo_un (fun v => Instr.fieldAt 52 v 2) (.tmp 23) (pt bq (oq + j * 5)) (pt bq (oq + j * 5 + 2)) (fun _ => rfl) (hd 2 rfl) (by kernel_rfl) (hK _ (Mo.refl _))))
          · exact og_eq (.string y.nm) rfl (fun f wf hq hd K hK => go_run rfl (wo_load 9 (.tmp 24) (pt bq (oq + j * 5 + 2)) (.string y.nm) rfl (hd 3 rfl) (D.run_oneR (hRq.mo (M.trans hq)).at' 9 2 rfl Try.underlying9 rfl) (hK _ (Mo.refl _))))
          · exact og_eq (.string nm) rfl (fun f wf hq hd K hK => go_run rfl (wo_mv (.tmp 2) (.string nm) (fun _ => rfl) e2 (hK _ (Mo.refl _))))
          · exact og_eq (.bool false) rfl (fun f wf hq hd K hK => go_run rfl (wo_bin (fun x y => do eqGuard .eql 9 (.tmp 25) (.tmp 26) x y; binOp .eql 9 x y) (.tmp 25) (.tmp 26) (.string y.nm) (.string nm) (.bool false) (fun _ => rfl) (hd 4 rfl) (hd 5 rfl) (s9 hf21 _ _ _) (hK _ (Mo.refl _))))
          · exact og_eq (.bool false) rfl (fun f wf hq hd K hK => go_run rfl (wo_mv (.tmp 27) (.bool false) (fun _ => rfl) (hd 6 rfl) (hK _ (Mo.refl _))))
          · exact og_eq (.slice pa L.length c) rfl (fun f wf hq hd K hK => go_run (wnt_g rfl rfl rfl (hd 7 rfl) rfl) (wo_mv (.tmp 0) (.slice pa L.length c) (fun _ => rfl) e0 (hK _ (Mo.refl _))))
          · exact og_eq (.int .i64 ((j : Nat) : Int)) rfl (fun f wf hq hd K hK => go_run (wnt_g rfl rfl rfl (hd 7 rfl) rfl) (wo_mv (.tmp 1) (.int .i64 ((j : Nat) : Int)) (fun _ => rfl) (hjv rfl) (hK _ (Mo.refl _))))
          · exact og_eq (pt bq (oq + j * 5)) rfl (fun f wf hq hd K hK => go_run (wnt_g rfl rfl rfl (hd 7 rfl) rfl) (wo_bin (fun x y => Instr.indexAt 37 x y) (.tmp 29) (.tmp 30) (.slice pa L.length c) (.int .i64 ((j : Nat) : Int)) (pt bq (oq + j * 5)) (fun _ => rfl) (hd 8 rfl) (hd 9 rfl) (ix37 (i := j) hpq hj2 _) (hK _ (Mo.refl _))))
          · exact og_eq (pt bq (oq + j * 5 + 4)) rfl (fun f wf hq hd K hK => go_run (wnt_g rfl rfl rfl (hd 7 rfl) rfl) (wo_un (fun v => Instr.fieldAt 52 v 4) (.tmp 31) (pt bq (oq + j * 5)) (pt bq (oq + j * 5 + 4)) (fun _ => rfl) (hd 10 rfl) (by kernel_rfl) (hK _ (Mo.refl _))))
          · exact og_eq (.slice y.pi y.items.length y.ci) rfl (fun f wf hq hd K hK => go_run (wnt_g rfl rfl rfl (hd 7 rfl) rfl) (wo_load 22 (.tmp 32) (pt bq (oq + j * 5 + 4)) (.slice y.pi y.items.length y.ci) rfl (hd 11 rfl) (D.run_oneR (hRq.mo (M.trans hq)).at' 22 4 rfl Try.underlying22 rfl) (hK _ (Mo.refl _))))
          · exact og_eq (.slice pa L.length c) rfl (fun f wf hq hd K hK => go_run (wnt_g rfl rfl rfl (hd 7 rfl) rfl) (wo_mv (.tmp 0) (.slice pa L.length c) (fun _ => rfl) e0 (hK _ (Mo.refl _))))
          · exact og_eq (.int .i64 ((j : Nat) : Int)) rfl (fun f wf hq hd K hK => go_run (wnt_g rfl rfl rfl (hd 7 rfl) rfl) (wo_mv (.tmp 1) (.int .i64 ((j : Nat) : Int)) (fun _ => rfl) (hjv rfl) (hK _ (Mo.refl _))))
          · exact og_eq (pt bq (oq + j * 5)) rfl (fun f wf hq hd K hK => go_run (wnt_g rfl rfl rfl (hd 7 rfl) rfl) (wo_bin (fun x y => Instr.indexAt 37 x y) (.tmp 34) (.tmp 35) (.slice pa L.length c) (.int .i64 ((j : Nat) : Int)) (pt bq (oq + j * 5)) (fun _ => rfl) (hd 13 rfl) (hd 14 rfl) (ix37 (i := j) hpq hj2 _) (hK _ (Mo.refl _))))
          · exact og_eq (pt bq (oq + j * 5 + 4)) rfl (fun f wf hq hd K hK => go_run (wnt_g rfl rfl rfl (hd 7 rfl) rfl) (wo_un (fun v => Instr.fieldAt 52 v 4) (.tmp 36) (pt bq (oq + j * 5)) (pt bq (oq + j * 5 + 4)) (fun _ => rfl) (hd 15 rfl) (by kernel_rfl) (hK _ (Mo.refl _))))
          · exact og_eq (.slice y.pi y.items.length y.ci) rfl (fun f wf hq hd K hK => go_run (wnt_g rfl rfl rfl (hd 7 rfl) rfl) (wo_load 22 (.tmp 37) (pt bq (oq + j * 5 + 4)) (.slice y.pi y.items.length y.ci) rfl (hd 16 rfl) (D.run_oneR (hRq.mo (M.trans hq)).at' 22 4 rfl Try.underlying22 rfl) (hK _ (Mo.refl _))))
          · exact og_eq (.int .i64 ((y.items.length : Nat) : Int)) rfl (fun f wf hq hd K hK => go_run (wnt_g rfl rfl rfl (hd 7 rfl) rfl) (wo_val (.int .i64 ((y.items.length : Nat) : Int)) (len22 _ _ _ _ _ (by exact (hd 17 rfl)) _ _ _ _ _ _) (hK _ (Mo.refl _))))
          · exact og_eq (.string nm) rfl (fun f wf hq hd K hK => go_run (wnt_g rfl rfl rfl (hd 7 rfl) rfl) (wo_mv (.tmp 2) (.string nm) (fun _ => rfl) e2 (hK _ (Mo.refl _))))
        intro kf21 u21 hq hR hne
        replace M := M.trans hq
        clear hq hR hne
        refine wl_call 73 [(.tmp 33), (.tmp 39), (.tmp 40)] _ [.slice y.pi y.items.length y.ci, .int .i64 ((y.items.length : Nat) : Int), .string nm] (.bool false) rfl rfl (fun _ _ => by kernel_rfl) (cB (by rw [List.take_length]; exact hf22) (rhas_n ((h5 y (List.mem_of_getElem? hy)).it.kp M.kp) y.items.length (Nat.le_refl _) nm)) rfl ?_
        intro u22 hq
        replace M := M.trans hq
        clear hq
        refine wl_pick (.tmp 28) (.const (.bool true)) (.tmp 41) false (.bool false) (fun _ => rfl) rfl rfl rfl ?_
        refine w_nil ?_
        refine xn_then ?_
        refine w_condF rfl ?_
        refine w_skip ?_
        refine xn_blk ?_
        refine xn_then ?_
        refine w_reg ?_
        refine wl_mv (.tmp 7) (.int .i64 ((i : Nat) : Int)) (fun _ => rfl) e7 rfl ?_
        refine wl_bin (fun x y => do eqGuard .add 3 (.tmp 12) (.const (.int .i64 (1))) x y; binOp .add 3 x y) (.tmp 12) (.const (.int .i64 (1))) (.int .i64 ((i : Nat) : Int)) (.int .i64 (1)) (.int .i64 ((i + 1 : Nat) : Int)) (fun _ => rfl) rfl rfl (add1r (k := i) (by omega) _ _ _) rfl ?_
        refine wl_mv (.tmp 13) (.int .i64 ((i + 1 : Nat) : Int)) (fun _ => rfl) rfl rfl ?_
        refine w_nil ?_
        exact xn_loop R2.length (by rw [hR2]; simp) ⟨i + 1, j, R2, rfl, e0, (hjv rfl), e2, rfl, hj2, hR3, by rw [hR2] at hlen; simp only [List.length_cons] at hlen; omega, by rw [hT, hR2, List.any_cons]; unfold arP; rw [nmO_of hy, hf21, itO_of hy, hf22]; rfl, M⟩
end Go.Proofs.Ytbanldffohopiaa
