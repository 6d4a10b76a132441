/-
  ScopeStays.
-/
import Derived.Test.YtbanldffohopiaaT1
import Derived.Test.YtbanldffohopiaaT3
namespace Go.Proofs.Ytbanldffohopiaa
open Go.RowKit D
theorem fresh_n (d : Df) (nm : ByteArray) {w : World} (hD : LDf w d) : Calls Try.prog 24 #[.agg (d.cells).toArray, .string nm] w fun e w' => e = .returned (.bool (frs (fla d) nm)) ∧ Mo w w' := by
  refine w_enter 33 Try.func24 Try.ntmps24 rfl rfl ?_
  have M : Mo w w := Mo.refl _
  refine w_seq ?_
  refine w_reg ?_
  refine wl_box 29 (.tmp 0) (.agg (d.cells).toArray) (((d.cells).toArray)) rfl rfl (fun _ => by kernel_rfl) rfl ?_
  intro k1 u1 hk hz hq Q1
  have N_k1 : w.heap.size ≤ k1 := by have := M.size; omega
  replace M := M.trans hq
  clear hk hz hq
  refine wl_mv (.const (.bool false)) (.bool false) (fun _ => rfl) rfl rfl ?_
  refine w_nil ?_
  refine xn_then ?_
  refine w_seq ?_
  refine w_seq ?_
  refine w_reg ?_
  refine wl_load 29 (.tmp 2) (pt k1 0) (.agg (d.cells).toArray) rfl rfl (run_row Q1 29 0 7 (d.cells) rfl Try.underlying29 rfl sz29) rfl ?_
  refine wl_callx 35 [(.tmp 9)] _ [.agg (d.cells).toArray] rfl rfl (fun _ _ => by kernel_rfl) (rFlat_n d (hD.kp M.kp)) rfl ?_
  rintro e9 u2 ⟨pa, c, rfl, hS, hq⟩
  refine ⟨_, rfl, ?_⟩
  replace Q1 := Q1.mo hq
  replace M := M.trans hq
  clear hq
  obtain ⟨L, hL⟩ : ∃ L, L = fla d := ⟨_, rfl⟩
  rw [← hL] at hS ⊢
  have hz : L.length ≤ 64 := by rw [hL]; exact fla_len d
  have h5 : ∀ x ∈ L, LS5 u2 x := fun x hx => (flt_ls d.rt hD.rt [] _ _ (fun _ h => by cases h) x (by rw [hL] at hx; exact hx)).kp M.kp
  have MF := M
  clear M
  have M : Mo u2 u2 := Mo.refl _
  refine wl_val (.int .i64 ((L.length : Nat) : Int)) (len37 _ _ _ _ _ (by exact rfl) _ _ _ _ _ _) rfl ?_
  refine wl_mv (.const (.int .i64 (0))) (.int .i64 (0)) (fun _ => rfl) rfl rfl ?_
  refine w_nil ?_
  refine xn_then ?_
  refine w_block ?_
  refine w_loop (fun m l w1 => ∃ i : Nat, m = L.length - i ∧ i ≤ L.length ∧ look l 1 = .string nm ∧ look l 10 = .slice pa L.length c ∧ look l 11 = .int .i64 ((L.length : Nat) : Int) ∧ look l 12 = .int .i64 ((i : Nat) : Int) ∧ At w1 k1 (d.cells) ∧ ((L.take i).any (fun x => decide (x.nm = nm) || x.items.any (fun y => decide (y.nm = nm))) = false) ∧ Mo u2 w1) _ ⟨0, rfl, Nat.zero_le _, rfl, rfl, rfl, rfl, Q1, rfl, M⟩ ?_
  clear Q1 M
  rintro m l40 wl40 ⟨i, rfl, hi, e40_1, e40_10, e40_11, e40_i, Q1, hT, M⟩
  by_cases hil : i < L.length
  · skip
    have hid : decide (i < L.length) = true := decide_eq_true hil
    obtain ⟨x, hx⟩ := get_of_lt hil
    obtain ⟨bp, op, hpp, hRp⟩ := D.SL.rw hS hx
    refine w_seq ?_
    refine w_reg ?_
    refine wl_bin (fun x y => do eqGuard .lss 3 (.tmp 12) (.tmp 11) x y; binOp .lss 3 x y) (.tmp 12) (.tmp 11) (.int .i64 ((i : Nat) : Int)) (.int .i64 ((L.length : Nat) : Int)) (.bool true) (fun _ => rfl) e40_i e40_11 (ltN hid _ _ _) rfl ?_
    refine w_nil ?_
    refine xn_then ?_
    refine w_seq ?_
    refine w_condT rfl ?_
    refine w_skip ?_
    refine xn_then ?_
    refine w_seq ?_
    refine w_block ?_
    refine w_seq ?_
    refine w_reg ?_
    refine wl_bin (fun x y => Instr.indexAt 37 x y) (.tmp 10) (.tmp 12) (.slice pa L.length c) (.int .i64 ((i : Nat) : Int)) (pt bp (op + i * 5)) (fun _ => rfl) e40_10 e40_i (ix37 (i := i) hpp hil _) rfl ?_
    refine wl_load 52 (.tmp 14) (pt bp (op + i * 5)) (.agg (x.cells).toArray) rfl rfl (D.run_partR (hRp.mo M).at' 52 0 5 (x.cells) rfl Try.underlying52 rfl sz52) rfl ?_
    refine wl_alloc 52 #[.int .i64 0, .int .i64 0, .string ⟨#[]⟩, .int .i64 0, .slice none 0 0] rfl (fun _ => by kernel_rfl) rfl ?_
    intro k2 u41 hk hz hq Q2
    have ne_k1_k2 : k1 ≠ k2 := by have := Q1.lt; omega
    have N_k2 : u2.heap.size ≤ k2 := by have := M.size; omega
    replace Q1 := Q1.mo hq
    replace M := M.trans hq
    clear hk hz hq
    refine wl_st 52 (.tmp 6) (.tmp 15) k2 0 ((x.cells).toArray) [.int .i64 0, .int .i64 0, .string ⟨#[]⟩, .int .i64 0, .slice none 0 0] (x.cells) Q2 rfl rfl rfl rfl rfl sz52 rfl rfl rfl ?_
    intro u42 hS Qn
    replace Q2 := Qn
    clear Qn
    replace Q1 := hS.other _ _ ne_k1_k2 Q1
    replace M := hS.mo _ N_k2 M
    clear hS
    refine w_nil ?_
    refine xn_then ?_
    refine w_seq ?_
    refine w_seq ?_
    refine w_reg ?_
    refine wl_un (fun v => Instr.fieldAt 52 v 2) (.tmp 6) (pt k2 0) (pt k2 2) (fun _ => rfl) rfl (by kernel_rfl) rfl ?_
    refine wl_load 9 (.tmp 16) (pt k2 2) (.string x.nm) rfl rfl (run_one Q2 9 2 rfl Try.underlying9 rfl) rfl ?_
    refine wl_mv (.tmp 1) (.string nm) (fun _ => rfl) e40_1 rfl ?_
    cases hf30 : decide (x.nm = nm) with
    | true =>
      have hf30p := of_decide_eq_true hf30
      refine wl_bin (fun x y => do eqGuard .eql 9 (.tmp 17) (.tmp 18) x y; binOp .eql 9 x y) (.tmp 17) (.tmp 18) (.string x.nm) (.string nm) (.bool true) (fun _ => rfl) rfl rfl (s9 hf30 _ _ _) rfl ?_
      refine w_nil ?_
      refine xn_then ?_
      refine w_condT rfl ?_
      refine w_seq ?_
      refine w_reg ?_
      refine wl_mv (.const (.bool false)) (.bool false) (fun _ => rfl) rfl rfl ?_
      refine w_nil ?_
      refine xn_then ?_
      refine w_ret ?_
      refine xr_then ?_
      refine xr_blk ?_
      refine xr_then ?_
      refine xr_then ?_
      refine xr_blk ?_
      refine xr_then ?_
      exact w_ret1 _ (.bool false) rfl rfl ⟨by unfold frs; rw [any_hit hx (show (_ || _) = true from by rw [hf30, Bool.true_or])]; rfl, MF.trans M⟩
    | false =>
      have hf30p := of_decide_eq_false hf30
      refine wl_bin (fun x y => do eqGuard .eql 9 (.tmp 17) (.tmp 18) x y; binOp .eql 9 x y) (.tmp 17) (.tmp 18) (.string x.nm) (.string nm) (.bool false) (fun _ => rfl) rfl rfl (s9 hf30 _ _ _) rfl ?_
      refine w_nil ?_
      refine xn_then ?_
      refine w_condF rfl ?_
      refine w_skip ?_
      refine xn_then ?_
      refine w_seq ?_
      refine w_reg ?_
      refine wl_un (fun v => Instr.fieldAt 52 v 4) (.tmp 6) (pt k2 0) (pt k2 4) (fun _ => rfl) rfl (by kernel_rfl) rfl ?_
      refine wl_load 22 (.tmp 20) (pt k2 4) (.slice x.pi x.items.length x.ci) rfl rfl (run_one Q2 22 4 rfl Try.underlying22 rfl) rfl ?_
      refine wl_val (.int .i64 ((x.items.length : Nat) : Int)) (len22 _ _ _ _ _ (by exact rfl) _ _ _ _ _ _) rfl ?_
      refine wl_mv (.const (.int .i64 (0))) (.int .i64 (0)) (fun _ => rfl) rfl rfl ?_
      refine w_nil ?_
      refine xn_then ?_
      refine w_block ?_
      have hIt := (h5 x (List.mem_of_getElem? hx)).it
      have hzi := hIt.1
      unfold maxLen at hzi
      refine w_loop (fun m l w1 => ∃ j : Nat, m = x.items.length - j ∧ j ≤ x.items.length ∧ look l 1 = .string nm ∧ look l 10 = .slice pa L.length c ∧ look l 11 = .int .i64 ((L.length : Nat) : Int) ∧ look l 12 = .int .i64 ((i : Nat) : Int) ∧ look l 21 = .slice x.pi x.items.length x.ci ∧ look l 22 = .int .i64 ((x.items.length : Nat) : Int) ∧ look l 23 = .int .i64 ((j : Nat) : Int) ∧ At w1 k1 (d.cells) ∧ ((x.items.take j).any (fun y => decide (y.nm = nm)) = false) ∧ Mo u2 w1) _ ⟨0, rfl, Nat.zero_le _, e40_1, e40_10, e40_11, e40_i, rfl, rfl, rfl, Q1, rfl, M⟩ ?_
      clear Q1 Q2 M
      rintro m l80 wl80 ⟨j, rfl, hj, e80_1, e80_10, e80_11, e80_12, e80_21, e80_22, e80_i, Q1, hU, M⟩
      by_cases hjl : j < x.items.length
      · skip
        have hjd : decide (j < x.items.length) = true := decide_eq_true hjl
        obtain ⟨y, hy⟩ := get_of_lt hjl
        obtain ⟨bt, ot, hpt, hRt⟩ := D.SL.rw hIt hy
        refine w_seq ?_
        refine w_reg ?_
        refine wl_bin (fun x y => do eqGuard .lss 3 (.tmp 23) (.tmp 22) x y; binOp .lss 3 x y) (.tmp 23) (.tmp 22) (.int .i64 ((j : Nat) : Int)) (.int .i64 ((x.items.length : Nat) : Int)) (.bool true) (fun _ => rfl) e80_i e80_22 (ltN hjd _ _ _) rfl ?_
        refine w_nil ?_
        refine xn_then ?_
        refine w_seq ?_
        refine w_condT rfl ?_
        refine w_skip ?_
        refine xn_then ?_
        refine w_seq ?_
        refine w_block ?_
        refine w_seq ?_
        refine w_reg ?_
        refine wl_bin (fun x y => Instr.indexAt 22 x y) (.tmp 21) (.tmp 23) (.slice x.pi x.items.length x.ci) (.int .i64 ((j : Nat) : Int)) (pt bt (ot + j * 23)) (fun _ => rfl) e80_21 e80_i (ix22 (i := j) hpt hjl _) rfl ?_
        refine wl_load 66 (.tmp 25) (pt bt (ot + j * 23)) (.agg (y.cells).toArray) rfl rfl (D.run_partR (hRt.mo M).at' 66 0 23 (y.cells) rfl Try.underlying66 rfl sz66) rfl ?_
        refine wl_alloc 66 #[.string ⟨#[]⟩, .int .i64 0, .int .i64 0, .int .i64 0, .bool false, .int .i64 0, .int .i64 0, .int .i64 0, .string ⟨#[]⟩, .string ⟨#[]⟩, .int .i64 0, .bool false, .int .u64 0, .int .u64 0, .int .u64 0, .int .u64 0, .int .i64 0, .bool false, .string ⟨#[]⟩, .int .i64 0, .int .i64 0, .int .i64 0, .slice none 0 0] rfl (fun _ => by kernel_rfl) rfl ?_
        intro k3 u81 hk hz hq Q3
        have ne_k1_k3 : k1 ≠ k3 := by have := Q1.lt; omega
        have N_k3 : u2.heap.size ≤ k3 := by have := M.size; omega
        replace Q1 := Q1.mo hq
        replace M := M.trans hq
        clear hk hz hq
        refine wl_st 66 (.tmp 8) (.tmp 26) k3 0 ((y.cells).toArray) [.string ⟨#[]⟩, .int .i64 0, .int .i64 0, .int .i64 0, .bool false, .int .i64 0, .int .i64 0, .int .i64 0, .string ⟨#[]⟩, .string ⟨#[]⟩, .int .i64 0, .bool false, .int .u64 0, .int .u64 0, .int .u64 0, .int .u64 0, .int .i64 0, .bool false, .string ⟨#[]⟩, .int .i64 0, .int .i64 0, .int .i64 0, .slice none 0 0] (y.cells) Q3 rfl rfl rfl rfl rfl sz66 rfl rfl rfl ?_
        intro u82 hS Qn
        replace Q3 := Qn
        clear Qn
        replace Q1 := hS.other _ _ ne_k1_k3 Q1
        replace M := hS.mo _ N_k3 M
        clear hS
        refine w_nil ?_
        refine xn_then ?_
        refine w_seq ?_
        refine w_reg ?_
        refine wl_un (fun v => Instr.fieldAt 66 v 0) (.tmp 8) (pt k3 0) (pt k3 0) (fun _ => rfl) rfl (by kernel_rfl) rfl ?_
        refine wl_load 9 (.tmp 27) (pt k3 0) (.string y.nm) rfl rfl (run_one Q3 9 0 rfl Try.underlying9 rfl) rfl ?_
        refine wl_mv (.tmp 1) (.string nm) (fun _ => rfl) e80_1 rfl ?_
        cases hf60 : decide (y.nm = nm) with
        | true =>
          have hf60p := of_decide_eq_true hf60
          refine wl_bin (fun x y => do eqGuard .eql 9 (.tmp 28) (.tmp 29) x y; binOp .eql 9 x y) (.tmp 28) (.tmp 29) (.string y.nm) (.string nm) (.bool true) (fun _ => rfl) rfl rfl (s9 hf60 _ _ _) rfl ?_
          refine w_nil ?_
          refine xn_then ?_
          refine w_condT rfl ?_
          refine w_seq ?_
          refine w_reg ?_
          refine wl_mv (.const (.bool false)) (.bool false) (fun _ => rfl) rfl rfl ?_
          refine w_nil ?_
          refine xn_then ?_
          refine w_ret ?_
          refine xr_blk ?_
          refine xr_then ?_
          refine xr_then ?_
          refine xr_blk ?_
          refine xr_blk ?_
          refine xr_then ?_
          refine xr_then ?_
          refine xr_blk ?_
          refine xr_then ?_
          exact w_ret1 _ (.bool false) rfl rfl ⟨by unfold frs; rw [any_hit hx (show (_ || _) = true from by rw [any_hit hy hf60, Bool.or_true])]; rfl, MF.trans M⟩
        | false =>
          have hf60p := of_decide_eq_false hf60
          refine wl_bin (fun x y => do eqGuard .eql 9 (.tmp 28) (.tmp 29) x y; binOp .eql 9 x y) (.tmp 28) (.tmp 29) (.string y.nm) (.string nm) (.bool false) (fun _ => rfl) rfl rfl (s9 hf60 _ _ _) rfl ?_
          refine w_nil ?_
          refine xn_then ?_
          refine w_condF rfl ?_
          refine w_skip ?_
          refine xn_blk ?_
          refine xn_then ?_
          refine w_reg ?_
          refine wl_bin (fun x y => do eqGuard .add 3 (.tmp 23) (.const (.int .i64 (1))) x y; binOp .add 3 x y) (.tmp 23) (.const (.int .i64 (1))) (.int .i64 ((j : Nat) : Int)) (.int .i64 (1)) (.int .i64 ((j + 1 : Nat) : Int)) (fun _ => rfl) e80_i rfl (add1r (k := j) (by omega) _ _ _) rfl ?_
          refine wl_mv (.tmp 31) (.int .i64 ((j + 1 : Nat) : Int)) (fun _ => rfl) rfl rfl ?_
          refine w_nil ?_
          exact xn_loop (x.items.length - (j + 1)) (by omega) ⟨j + 1, rfl, by omega, e80_1, e80_10, e80_11, e80_12, e80_21, e80_22, rfl, Q1, any_take hU hy hf60, M⟩
      · skip
        have hjd : decide (j < x.items.length) = false := decide_eq_false hjl
        have hje : j = x.items.length := by omega
        have hxa := any_all hU hje
        refine w_seq ?_
        refine w_reg ?_
        refine wl_bin (fun x y => do eqGuard .lss 3 (.tmp 23) (.tmp 22) x y; binOp .lss 3 x y) (.tmp 23) (.tmp 22) (.int .i64 ((j : Nat) : Int)) (.int .i64 ((x.items.length : Nat) : Int)) (.bool false) (fun _ => rfl) e80_i e80_22 (ltN hjd _ _ _) rfl ?_
        refine w_nil ?_
        refine xn_then ?_
        refine w_seq ?_
        refine w_condF rfl ?_
        refine w_exit ?_
        refine xx_then ?_
        refine xx_then ?_
        refine xx_blk ?_
        refine xn_blk ?_
        refine xn_then ?_
        refine w_reg ?_
        refine wl_bin (fun x y => do eqGuard .add 3 (.tmp 12) (.const (.int .i64 (1))) x y; binOp .add 3 x y) (.tmp 12) (.const (.int .i64 (1))) (.int .i64 ((i : Nat) : Int)) (.int .i64 (1)) (.int .i64 ((i + 1 : Nat) : Int)) (fun _ => rfl) e80_12 rfl (add1r (k := i) (by omega) _ _ _) rfl ?_
        refine wl_mv (.tmp 32) (.int .i64 ((i + 1 : Nat) : Int)) (fun _ => rfl) rfl rfl ?_
        refine w_nil ?_
        exact xn_loop (L.length - (i + 1)) (by omega) ⟨i + 1, rfl, by omega, e80_1, e80_10, e80_11, rfl, Q1, any_take hT hx (show (_ || _) = false from by rw [hf30, hxa]; rfl), M⟩
  · skip
    have hid : decide (i < L.length) = false := decide_eq_false hil
    have hie : i = L.length := by omega
    refine w_seq ?_
    refine w_reg ?_
    refine wl_bin (fun x y => do eqGuard .lss 3 (.tmp 12) (.tmp 11) x y; binOp .lss 3 x y) (.tmp 12) (.tmp 11) (.int .i64 ((i : Nat) : Int)) (.int .i64 ((L.length : Nat) : Int)) (.bool false) (fun _ => rfl) e40_i e40_11 (ltN hid _ _ _) rfl ?_
    refine w_nil ?_
    refine xn_then ?_
    refine w_seq ?_
    refine w_condF rfl ?_
    refine w_exit ?_
    refine xx_then ?_
    refine xx_then ?_
    refine xx_blk ?_
    refine xn_then ?_
    refine w_seq ?_
    refine w_reg ?_
    refine wl_mv (.const (.bool true)) (.bool true) (fun _ => rfl) rfl rfl ?_
    refine w_nil ?_
    refine xn_then ?_
    refine w_ret ?_
    exact w_ret1 _ (.bool true) rfl rfl ⟨by unfold frs; rw [any_all hT hie]; rfl, MF.trans M⟩
theorem ldf_add {w : World} {d : Df} {pi : Option Addr} {ci : Nat} {nm : ByteArray} (h : LDf w d) (hs : SL w 23 It.cells pi (d.rt.items ++ [lIt nm])) : LDf w (dadd d pi ci nm) := by
  refine ⟨.mk hs (fun o ho => ?_) h.rt.kd h.rt.kr, h.tb, h.st, h.pg, h.wh, h.it, h.iz⟩
  rcases List.mem_append.1 ho with q | q
  · exact h.rt.ex o q
  · rw [List.mem_singleton.1 q]; exact lex_z w
theorem sstays_n (d : Df) (nm : ByteArray) {w : World} (hD : LDf w d) : Calls Try.prog 7 #[.agg (d.cells).toArray, .string nm] w fun e w' => e = .returned (.bool true) ∧ Mo w w' := by
  refine w_enter 74 Try.func7 Try.ntmps7 rfl rfl ?_
  have M : Mo w w := Mo.refl _
  refine w_seq ?_
  refine w_reg ?_
  refine wl_box 29 (.tmp 0) (.agg (d.cells).toArray) (((d.cells).toArray)) rfl rfl (fun _ => by kernel_rfl) rfl ?_
  intro k1 u1 hk hz hq Q1
  have N_k1 : w.heap.size ≤ k1 := by have := M.size; omega
  replace M := M.trans hq
  clear hk hz hq
  refine wl_mv (.const (.bool false)) (.bool false) (fun _ => rfl) rfl rfl ?_
  refine w_nil ?_
  refine xn_then ?_
  refine w_seq ?_
  refine w_seq ?_
  refine w_reg ?_
  refine wl_load 29 (.tmp 2) (pt k1 0) (.agg (d.cells).toArray) rfl rfl (run_row Q1 29 0 7 (d.cells) rfl Try.underlying29 rfl sz29) rfl ?_
  refine wl_callx 8 [(.tmp 11)] _ [.agg (d.cells).toArray] rfl rfl (fun _ _ => by kernel_rfl) (fits_n d (hD.kp M.kp)) rfl ?_
  rintro e9 u2 ⟨b9, rfl, hq⟩
  refine ⟨_, rfl, ?_⟩
  replace Q1 := Q1.mo hq
  replace M := M.trans hq
  clear hq
  cases b9 with
  | true =>
    refine wl_un (fun v => Op.unary .not v) (.tmp 12) (.bool true) (.bool false) (fun _ => rfl) rfl (by kernel_rfl) rfl ?_
    refine wl_mv (.tmp 13) (.bool false) (fun _ => rfl) rfl rfl ?_
    refine wl_call 9 [] _ [] (.bool true) rfl rfl (fun _ _ => by kernel_rfl) (live_n _) rfl ?_
    intro u3 hq
    replace Q1 := Q1.mo hq
    replace M := M.trans hq
    clear hq
    refine wl_un (fun v => Op.unary .not v) (.tmp 15) (.bool true) (.bool false) (fun _ => rfl) rfl (by kernel_rfl) rfl ?_
    refine wl_pick (.tmp 14) (.const (.bool true)) (.tmp 16) false (.bool false) (fun _ => rfl) rfl rfl rfl ?_
    refine w_nil ?_
    refine xn_then ?_
    refine w_condF rfl ?_
    refine w_skip ?_
    refine xn_then ?_
    refine w_seq ?_
    refine w_seq ?_
    refine w_reg ?_
    refine wl_load 29 (.tmp 2) (pt k1 0) (.agg (d.cells).toArray) rfl rfl (run_row Q1 29 0 7 (d.cells) rfl Try.underlying29 rfl sz29) rfl ?_
    cases hf0 : (chk d).isNone with
    | true =>
      have hck := isnn hf0
      refine wl_call 10 [(.tmp 20)] _ [.agg (d.cells).toArray] (.tuple #[.agg #[.int .i64 0, .int .i64 0, .int .i64 0, .int .i64 0, .int .i64 0], .int .i64 (0)]) rfl rfl (fun _ _ => by kernel_rfl) (by have h := check_n d (hD.kp M.kp); rw [hck] at h; exact h) rfl ?_
      intro u4 hq
      replace Q1 := Q1.mo hq
      replace M := M.trans hq
      clear hq
      refine wl_mv (.tmp 21) (.tuple #[.agg #[.int .i64 0, .int .i64 0, .int .i64 0, .int .i64 0, .int .i64 0], .int .i64 (0)]) (fun _ => rfl) rfl rfl ?_
      refine wl_un (fun v => Instr.extract v 0) (.tmp 19) (.tuple #[.agg #[.int .i64 0, .int .i64 0, .int .i64 0, .int .i64 0, .int .i64 0], .int .i64 (0)]) (.agg #[.int .i64 0, .int .i64 0, .int .i64 0, .int .i64 0, .int .i64 0]) (fun _ => rfl) rfl (by kernel_rfl) rfl ?_
      refine wl_un (fun v => Instr.extract v 1) (.tmp 19) (.tuple #[.agg #[.int .i64 0, .int .i64 0, .int .i64 0, .int .i64 0, .int .i64 0], .int .i64 (0)]) (.int .i64 (0)) (fun _ => rfl) rfl (by kernel_rfl) rfl ?_
      refine wl_alloc 33 #[.int .i64 0, .int .i64 0, .int .i64 0, .int .i64 0, .int .i64 0] rfl (fun _ => by kernel_rfl) rfl ?_
      intro k2 u5 hk hz hq Q2
      have ne_k1_k2 : k1 ≠ k2 := by have := Q1.lt; omega
      have N_k2 : w.heap.size ≤ k2 := by have := M.size; omega
      replace Q1 := Q1.mo hq
      replace M := M.trans hq
      clear hk hz hq
      refine wl_st 33 (.tmp 5) (.tmp 22) k2 0 #[.int .i64 0, .int .i64 0, .int .i64 0, .int .i64 0, .int .i64 0] [.int .i64 0, .int .i64 0, .int .i64 0, .int .i64 0, .int .i64 0] [.int .i64 0, .int .i64 0, .int .i64 0, .int .i64 0, .int .i64 0] Q2 rfl rfl rfl rfl rfl sz33 rfl rfl rfl ?_
      intro u6 hS Qn
      replace Q2 := Qn
      clear Qn
      replace Q1 := hS.other _ _ ne_k1_k2 Q1
      replace M := hS.mo _ N_k2 M
      clear hS
      refine wl_mv (.tmp 23) (.int .i64 (0)) (fun _ => rfl) rfl rfl ?_
      refine w_nil ?_
      refine xn_then ?_
      refine w_seq ?_
      refine w_reg ?_
      refine wl_mv (.tmp 6) (.int .i64 (0)) (fun _ => rfl) rfl rfl ?_
      refine wl_bin (fun x y => do eqGuard .neq 34 (.tmp 24) (.const (.int .i64 (0))) x y; binOp .neq 34 x y) (.tmp 24) (.const (.int .i64 (0))) (.int .i64 (0)) (.int .i64 (0)) (.bool false) (fun _ => rfl) rfl rfl (ne34 (r := true) rfl _ _ _) rfl ?_
      refine wl_mv (.tmp 25) (.bool false) (fun _ => rfl) rfl rfl ?_
      refine wl_un (fun v => Instr.fieldAt 29 v 1) (.tmp 2) (pt k1 0) (pt k1 1) (fun _ => rfl) rfl (by kernel_rfl) rfl ?_
      refine wl_un (fun v => Instr.fieldAt 25 v 2) (.tmp 27) (pt k1 1) (pt k1 3) (fun _ => rfl) rfl (by kernel_rfl) rfl ?_
      refine wl_load 22 (.tmp 28) (pt k1 3) (.slice d.rt.pi d.rt.items.length d.rt.ci) rfl rfl (run_one Q1 22 3 rfl Try.underlying22 rfl) rfl ?_
      refine wl_val (.int .i64 ((d.rt.items.length : Nat) : Int)) (len22 _ _ _ _ _ (by exact rfl) _ _ _ _ _ _) rfl ?_
      cases hf1 : decide (64 ≤ ((d.rt.items.length : Nat) : Int)) with
      | true =>
        have hf1p := of_decide_eq_true hf1
        refine wl_bin (fun x y => do eqGuard .geq 3 (.tmp 30) (.const (.int .i64 (64))) x y; binOp .geq 3 x y) (.tmp 30) (.const (.int .i64 (64))) (.int .i64 ((d.rt.items.length : Nat) : Int)) (.int .i64 (64)) (.bool true) (fun _ => rfl) rfl rfl (ge3 hf1 _ _ _) rfl ?_
        refine wl_pick (.tmp 26) (.const (.bool true)) (.tmp 31) false (.bool true) (fun _ => rfl) rfl rfl rfl ?_
        refine wl_mv (.tmp 32) (.bool true) (fun _ => rfl) rfl rfl ?_
        refine wl_skip rfl ?_
        refine wl_skip rfl ?_
        refine wl_pick (.tmp 33) (.const (.bool true)) (.tmp 35) true (.bool true) (fun _ => rfl) rfl rfl rfl ?_
        refine wl_mv (.tmp 36) (.bool true) (fun _ => rfl) rfl rfl ?_
        refine wl_skip rfl ?_
        refine wl_skip rfl ?_
        refine wl_skip rfl ?_
        refine wl_skip rfl ?_
        refine wl_pick (.tmp 37) (.const (.bool true)) (.tmp 41) true (.bool true) (fun _ => rfl) rfl rfl rfl ?_
        refine w_nil ?_
        refine xn_then ?_
        refine w_condT rfl ?_
        refine w_seq ?_
        refine w_reg ?_
        refine wl_mv (.const (.bool true)) (.bool true) (fun _ => rfl) rfl rfl ?_
        refine w_nil ?_
        refine xn_then ?_
        refine w_ret ?_
        refine xr_then ?_
        exact w_ret1 _ (.bool true) rfl rfl ⟨rfl, M⟩
      | false =>
        have hf1p := of_decide_eq_false hf1
        refine wl_bin (fun x y => do eqGuard .geq 3 (.tmp 30) (.const (.int .i64 (64))) x y; binOp .geq 3 x y) (.tmp 30) (.const (.int .i64 (64))) (.int .i64 ((d.rt.items.length : Nat) : Int)) (.int .i64 (64)) (.bool false) (fun _ => rfl) rfl rfl (ge3 hf1 _ _ _) rfl ?_
        refine wl_pick (.tmp 26) (.const (.bool true)) (.tmp 31) false (.bool false) (fun _ => rfl) rfl rfl rfl ?_
        refine wl_mv (.tmp 32) (.bool false) (fun _ => rfl) rfl rfl ?_
        refine wl_mv (.tmp 1) (.string nm) (fun _ => rfl) rfl rfl ?_
        cases hf2 : rsv nm with
        | true =>
          refine wl_call 21 [(.tmp 34)] _ [.string nm] (.bool true) rfl rfl (fun _ _ => by kernel_rfl) (cB hf2 (reserved_n nm _)) rfl ?_
          intro u7 hq
          replace Q1 := Q1.mo hq
          replace Q2 := Q2.mo hq
          replace M := M.trans hq
          clear hq
          refine wl_pick (.tmp 33) (.const (.bool true)) (.tmp 35) false (.bool true) (fun _ => rfl) rfl rfl rfl ?_
          refine wl_mv (.tmp 36) (.bool true) (fun _ => rfl) rfl rfl ?_
          refine wl_skip rfl ?_
          refine wl_skip rfl ?_
          refine wl_skip rfl ?_
          refine wl_skip rfl ?_
          refine wl_pick (.tmp 37) (.const (.bool true)) (.tmp 41) true (.bool true) (fun _ => rfl) rfl rfl rfl ?_
          refine w_nil ?_
          refine xn_then ?_
          refine w_condT rfl ?_
          refine w_seq ?_
          refine w_reg ?_
          refine wl_mv (.const (.bool true)) (.bool true) (fun _ => rfl) rfl rfl ?_
          refine w_nil ?_
          refine xn_then ?_
          refine w_ret ?_
          refine xr_then ?_
          exact w_ret1 _ (.bool true) rfl rfl ⟨rfl, M⟩
        | false =>
          refine wl_call 21 [(.tmp 34)] _ [.string nm] (.bool false) rfl rfl (fun _ _ => by kernel_rfl) (cB hf2 (reserved_n nm _)) rfl ?_
          intro u7 hq
          replace Q1 := Q1.mo hq
          replace Q2 := Q2.mo hq
          replace M := M.trans hq
          clear hq
          refine wl_pick (.tmp 33) (.const (.bool true)) (.tmp 35) false (.bool false) (fun _ => rfl) rfl rfl rfl ?_
          refine wl_mv (.tmp 36) (.bool false) (fun _ => rfl) rfl rfl ?_
          refine wl_load 29 (.tmp 2) (pt k1 0) (.agg (d.cells).toArray) rfl rfl (run_row Q1 29 0 7 (d.cells) rfl Try.underlying29 rfl sz29) rfl ?_
          refine wl_mv (.tmp 1) (.string nm) (fun _ => rfl) rfl rfl ?_
          cases hf3 : frs (fla d) nm with
          | true =>
            have hfr := hf3
            refine wl_call 24 [(.tmp 38), (.tmp 39)] _ [.agg (d.cells).toArray, .string nm] (.bool true) rfl rfl (fun _ _ => by kernel_rfl) (cB hf3 (fresh_n d nm (hD.kp M.kp))) rfl ?_
            intro u8 hq
            replace Q1 := Q1.mo hq
            replace Q2 := Q2.mo hq
            replace M := M.trans hq
            clear hq
            refine wl_un (fun v => Op.unary .not v) (.tmp 40) (.bool true) (.bool false) (fun _ => rfl) rfl (by kernel_rfl) rfl ?_
            refine wl_pick (.tmp 37) (.const (.bool true)) (.tmp 41) false (.bool false) (fun _ => rfl) rfl rfl rfl ?_
            refine w_nil ?_
            refine xn_then ?_
            refine w_condF rfl ?_
            refine w_skip ?_
            refine xn_then ?_
            refine w_seq ?_
            refine w_reg ?_
            refine wl_un (fun v => Instr.fieldAt 29 v 1) (.tmp 2) (pt k1 0) (pt k1 1) (fun _ => rfl) rfl (by kernel_rfl) rfl ?_
            refine wl_un (fun v => Instr.fieldAt 25 v 2) (.tmp 43) (pt k1 1) (pt k1 3) (fun _ => rfl) rfl (by kernel_rfl) rfl ?_
            refine wl_load 22 (.tmp 44) (pt k1 3) (.slice d.rt.pi d.rt.items.length d.rt.ci) rfl rfl (run_one Q1 22 3 rfl Try.underlying22 rfl) rfl ?_
            have hM6 := M.size
            refine wl_callx 25 [(.tmp 45)] _ [.slice d.rt.pi d.rt.items.length d.rt.ci] rfl rfl (fun _ _ => by kernel_rfl) (clone_n d.rt.pi d.rt.ci d.rt.items (hD.rt.it.kp M.kp) (by omega)) rfl ?_
            rintro e9 u9 ⟨pa1, cap1, rfl, hown, hq⟩
            refine ⟨_, rfl, ?_⟩
            have on_k1 : (Value.slice pa1 d.rt.items.length cap1).ownBlock ≠ some k1 := fun e => by have h8 := (own_lt hown e).2; have := Q1.lt; omega
            have on_k2 : (Value.slice pa1 d.rt.items.length cap1).ownBlock ≠ some k2 := fun e => by have h8 := (own_lt hown e).2; have := Q2.lt; omega
            replace Q1 := Q1.mo hq
            replace Q2 := Q2.mo hq
            replace M := M.trans hq
            clear hq
            replace hown := own_base hown hM6
            refine wl_mv (.tmp 1) (.string nm) (fun _ => rfl) rfl rfl ?_
            refine wl_build 66 [(0, (.tmp 47)), (1, (.const (.int .i64 (1))))] [(0, .string nm), (1, .int .i64 (1))] (.agg #[.string nm, .int .i64 (1), .int .i64 0, .int .i64 0, .bool false, .int .i64 0, .int .i64 0, .int .i64 0, .string ⟨#[]⟩, .string ⟨#[]⟩, .int .i64 0, .bool false, .int .u64 0, .int .u64 0, .int .u64 0, .int .u64 0, .int .i64 0, .bool false, .string ⟨#[]⟩, .int .i64 0, .int .i64 0, .int .i64 0, .slice none 0 0]) rfl rfl (by kernel_rfl) rfl ?_
            refine wl_bs 22 1 [(0, (.tmp 48))] [(0, .agg #[.string nm, .int .i64 (1), .int .i64 0, .int .i64 0, .bool false, .int .i64 0, .int .i64 0, .int .i64 0, .string ⟨#[]⟩, .string ⟨#[]⟩, .int .i64 0, .bool false, .int .u64 0, .int .u64 0, .int .u64 0, .int .u64 0, .int .i64 0, .bool false, .string ⟨#[]⟩, .int .i64 0, .int .i64 0, .int .i64 0, .slice none 0 0])] #[.string nm, .int .i64 (1), .int .i64 0, .int .i64 0, .bool false, .int .i64 0, .int .i64 0, .int .i64 0, .string ⟨#[]⟩, .string ⟨#[]⟩, .int .i64 0, .bool false, .int .u64 0, .int .u64 0, .int .u64 0, .int .u64 0, .int .i64 0, .bool false, .string ⟨#[]⟩, .int .i64 0, .int .i64 0, .int .i64 0, .slice none 0 0] 66 rfl rfl (fun _ => by kernel_rfl) rfl ?_
            intro k3 u10 hk hz hq Q3
            have ne_k1_k3 : k1 ≠ k3 := by have := Q1.lt; omega
            have ne_k2_k3 : k2 ≠ k3 := by have := Q2.lt; omega
            have N_k3 : w.heap.size ≤ k3 := by have := M.size; omega
            have on_k3 : (Value.slice pa1 d.rt.items.length cap1).ownBlock ≠ some k3 := fun e => by have := (own_lt hown e).1; omega
            replace hown := own_mo hown hq
            replace Q1 := Q1.mo hq
            replace Q2 := Q2.mo hq
            replace M := M.trans hq
            clear hk hz hq
            refine wl_app Try.underlying22 inf66 rfl (by decide) (.tmp 46) (.tmp 49) w.heap.size (Value.slice pa1 d.rt.items.length cap1) d.rt.items.length (d.rt.items.flatMap It.cells) k3 1 1 (lIt nm).cells rfl rfl rfl hown rfl Q3 (it_one _) (by decide) (by unfold maxLen; omega) (by omega) M.size rfl ?_
            intro v9 u11 hOw hm9 hbk
            obtain ⟨pa2, cap2, rfl, _⟩ := own_form hOw
            replace hOw : u11.ownsRow w.heap.size 66 23 (.slice pa2 (d.rt.items ++ [lIt nm]).length cap2) (d.rt.items ++ [lIt nm]).length ((d.rt.items ++ [lIt nm]).flatMap It.cells) := by simpa using hOw
            have lt1 := Q1.lt
            have on1 : (Value.slice pa2 (d.rt.items ++ [lIt nm]).length cap2).ownBlock ≠ some k1 := fun e => by
              have hb1 : (Value.slice pa2 (d.rt.items ++ [lIt nm]).length cap2).ownBlock = (Value.slice pa1 d.rt.items.length cap1).ownBlock ∨ (Value.slice pa2 (d.rt.items ++ [lIt nm]).length cap2).ownBlock = some u10.heap.size := by cases pa2 <;> exact hbk
              rcases hb1 with h | h
              · exact on_k1 (h.symm.trans e)
              · have h8 := Option.some.inj (h.symm.trans e); omega
            replace Q1 := hm9.at Q1 on_k1
            replace M := hm9.mo M (fun k e => (own_lt hown e).2)
            clear hm9 hbk hown
            have hown := hOw
            clear hOw
            clear on_k1
            have on_k1 := on1
            rw [show d.rt.items.length + 1 = (d.rt.items ++ [lIt nm]).length by simp]
            refine wl_un (fun v => Instr.fieldAt 29 v 1) (.tmp 2) (pt k1 0) (pt k1 1) (fun _ => rfl) rfl (by kernel_rfl) rfl ?_
            refine wl_un (fun v => Instr.fieldAt 25 v 2) (.tmp 51) (pt k1 1) (pt k1 3) (fun _ => rfl) rfl (by kernel_rfl) rfl ?_
            refine wl_stm1 22 (.tmp 52) (.tmp 50) k1 3 (.slice pa2 (d.rt.items ++ [lIt nm]).length cap2) (d.cells) [.string d.nm, .string d.rt.nm, .int .i64 d.rt.mx, .slice pa2 (d.rt.items ++ [lIt nm]).length cap2, .slice d.rt.pk d.rt.kids.length d.rt.ck, .slice d.pt d.tb.length d.ct, .slice d.pp d.pg.length d.cp] Q1 rfl rfl rfl rfl rfl sz22 rfl rfl rfl rfl ?_
            intro u12 hS hm9 Qn
            replace Q1 := Qn
            clear Qn
            replace hown := own_mk hown hm9 (fun k e h => on_k1 (by rw [e, h]))
            replace M := hS.mo _ N_k1 M
            clear hS hm9
            obtain ⟨x, hx⟩ : ∃ x, x = dadd d pa2 cap2 nm := ⟨_, rfl⟩
            have Qx : At u12 k1 x.cells := by rw [hx]; exact Q1
            clear Q1
            have hX : LDf u12 x := by rw [hx]; exact ldf_add (hD.kp M.kp) (own_sl It.len (by unfold maxLen; simp; omega) (by exact hown))
            have hst := stays d pa2 cap2 nm hck (by omega) hfr
            rw [← hx] at hst
            have MF := M
            clear M
            have M : Mo u12 u12 := Mo.refl _
            refine w_nil ?_
            refine xn_then ?_
            refine w_seq ?_
            refine w_reg ?_
            refine wl_load 29 (.tmp 2) (pt k1 0) (.agg (x.cells).toArray) rfl rfl (run_row Qx 29 0 7 (x.cells) rfl Try.underlying29 rfl sz29) rfl ?_
            cases hf4 : (chk x).isNone with
            | true =>
              have hc2 := isnn hf4
              refine wl_call 10 [(.tmp 54)] _ [.agg (x.cells).toArray] (.tuple #[.agg #[.int .i64 0, .int .i64 0, .int .i64 0, .int .i64 0, .int .i64 0], .int .i64 (0)]) rfl rfl (fun _ _ => by kernel_rfl) (by have h := check_n x (hX.kp M.kp); rw [hc2] at h; exact h) rfl ?_
              intro u13 hq
              replace Qx := Qx.mo hq
              replace M := M.trans hq
              clear hq
              refine wl_mv (.tmp 55) (.tuple #[.agg #[.int .i64 0, .int .i64 0, .int .i64 0, .int .i64 0, .int .i64 0], .int .i64 (0)]) (fun _ => rfl) rfl rfl ?_
              refine wl_un (fun v => Instr.extract v 0) (.tmp 53) (.tuple #[.agg #[.int .i64 0, .int .i64 0, .int .i64 0, .int .i64 0, .int .i64 0], .int .i64 (0)]) (.agg #[.int .i64 0, .int .i64 0, .int .i64 0, .int .i64 0, .int .i64 0]) (fun _ => rfl) rfl (by kernel_rfl) rfl ?_
              refine wl_un (fun v => Instr.extract v 1) (.tmp 53) (.tuple #[.agg #[.int .i64 0, .int .i64 0, .int .i64 0, .int .i64 0, .int .i64 0], .int .i64 (0)]) (.int .i64 (0)) (fun _ => rfl) rfl (by kernel_rfl) rfl ?_
              refine wl_alloc 33 #[.int .i64 0, .int .i64 0, .int .i64 0, .int .i64 0, .int .i64 0] rfl (fun _ => by kernel_rfl) rfl ?_
              intro k4 u14 hk hz hq Q4
              have ne_k1_k4 : k1 ≠ k4 := by have := Qx.lt; omega
              have N_k4 : u12.heap.size ≤ k4 := by have := M.size; omega
              replace Qx := Qx.mo hq
              replace M := M.trans hq
              clear hk hz hq
              refine wl_st 33 (.tmp 7) (.tmp 56) k4 0 #[.int .i64 0, .int .i64 0, .int .i64 0, .int .i64 0, .int .i64 0] [.int .i64 0, .int .i64 0, .int .i64 0, .int .i64 0, .int .i64 0] [.int .i64 0, .int .i64 0, .int .i64 0, .int .i64 0, .int .i64 0] Q4 rfl rfl rfl rfl rfl sz33 rfl rfl rfl ?_
              intro u15 hS Qn
              replace Q4 := Qn
              clear Qn
              replace Qx := hS.other _ _ ne_k1_k4 Qx
              replace M := hS.mo _ N_k4 M
              clear hS
              refine wl_mv (.tmp 57) (.int .i64 (0)) (fun _ => rfl) rfl rfl ?_
              refine w_nil ?_
              refine xn_then ?_
              refine w_seq ?_
              refine w_reg ?_
              refine wl_load 29 (.tmp 2) (pt k1 0) (.agg (x.cells).toArray) rfl rfl (run_row Qx 29 0 7 (x.cells) rfl Try.underlying29 rfl sz29) rfl ?_
              refine wl_call 11 [(.tmp 59)] _ [.agg (x.cells).toArray] (.tuple #[.agg #[.int .i64 0, .int .i64 0, .int .i64 0, .int .i64 0, .int .i64 0], .int .i64 (0)]) rfl rfl (fun _ _ => by kernel_rfl) (by have h := rcheck_n x (hX.kp M.kp); rw [hc2] at h; exact h) rfl ?_
              intro u16 hq
              replace Qx := Qx.mo hq
              replace Q4 := Q4.mo hq
              replace M := M.trans hq
              clear hq
              refine wl_mv (.tmp 60) (.tuple #[.agg #[.int .i64 0, .int .i64 0, .int .i64 0, .int .i64 0, .int .i64 0], .int .i64 (0)]) (fun _ => rfl) rfl rfl ?_
              refine wl_un (fun v => Instr.extract v 0) (.tmp 58) (.tuple #[.agg #[.int .i64 0, .int .i64 0, .int .i64 0, .int .i64 0, .int .i64 0], .int .i64 (0)]) (.agg #[.int .i64 0, .int .i64 0, .int .i64 0, .int .i64 0, .int .i64 0]) (fun _ => rfl) rfl (by kernel_rfl) rfl ?_
              refine wl_un (fun v => Instr.extract v 1) (.tmp 58) (.tuple #[.agg #[.int .i64 0, .int .i64 0, .int .i64 0, .int .i64 0, .int .i64 0], .int .i64 (0)]) (.int .i64 (0)) (fun _ => rfl) rfl (by kernel_rfl) rfl ?_
              refine wl_alloc 33 #[.int .i64 0, .int .i64 0, .int .i64 0, .int .i64 0, .int .i64 0] rfl (fun _ => by kernel_rfl) rfl ?_
              intro k5 u17 hk hz hq Q5
              have ne_k1_k5 : k1 ≠ k5 := by have := Qx.lt; omega
              have ne_k4_k5 : k4 ≠ k5 := by have := Q4.lt; omega
              have N_k5 : u12.heap.size ≤ k5 := by have := M.size; omega
              replace Qx := Qx.mo hq
              replace Q4 := Q4.mo hq
              replace M := M.trans hq
              clear hk hz hq
              refine wl_st 33 (.tmp 9) (.tmp 61) k5 0 #[.int .i64 0, .int .i64 0, .int .i64 0, .int .i64 0, .int .i64 0] [.int .i64 0, .int .i64 0, .int .i64 0, .int .i64 0, .int .i64 0] [.int .i64 0, .int .i64 0, .int .i64 0, .int .i64 0, .int .i64 0] Q5 rfl rfl rfl rfl rfl sz33 rfl rfl rfl ?_
              intro u18 hS Qn
              replace Q5 := Qn
              clear Qn
              replace Qx := hS.other _ _ ne_k1_k5 Qx
              replace Q4 := hS.other _ _ ne_k4_k5 Q4
              replace M := hS.mo _ N_k5 M
              clear hS
              refine wl_mv (.tmp 62) (.int .i64 (0)) (fun _ => rfl) rfl rfl ?_
              refine w_nil ?_
              refine xn_then ?_
              refine w_seq ?_
              refine w_reg ?_
              refine wl_mv (.tmp 8) (.int .i64 (0)) (fun _ => rfl) rfl rfl ?_
              refine wl_mv (.tmp 10) (.int .i64 (0)) (fun _ => rfl) rfl rfl ?_
              refine wl_bin (fun x y => do eqGuard .eql 34 (.tmp 63) (.tmp 64) x y; binOp .eql 34 x y) (.tmp 63) (.tmp 64) (.int .i64 (0)) (.int .i64 (0)) (.bool true) (fun _ => rfl) rfl rfl (eq34 (r := true) rfl _ _ _) rfl ?_
              refine wl_mv (.tmp 65) (.bool true) (fun _ => rfl) rfl rfl ?_
              refine wl_mv (.tmp 8) (.int .i64 (0)) (fun _ => rfl) rfl rfl ?_
              refine wl_bin (fun x y => do eqGuard .eql 34 (.tmp 67) (.const (.int .i64 (0))) x y; binOp .eql 34 x y) (.tmp 67) (.const (.int .i64 (0))) (.int .i64 (0)) (.int .i64 (0)) (.bool true) (fun _ => rfl) rfl rfl (eq34 (r := true) rfl _ _ _) rfl ?_
              refine wl_mv (.tmp 68) (.bool true) (fun _ => rfl) rfl rfl ?_
              refine wl_skip rfl ?_
              refine wl_skip rfl ?_
              refine wl_pick (.tmp 69) (.const (.bool true)) (.tmp 71) true (.bool true) (fun _ => rfl) rfl rfl rfl ?_
              refine wl_pick (.tmp 66) (.tmp 72) (.const (.bool false)) true (.bool true) (fun _ => rfl) rfl rfl rfl ?_
              refine wl_mv (.tmp 73) (.bool true) (fun _ => rfl) rfl rfl ?_
              refine w_nil ?_
              refine xn_then ?_
              refine w_ret ?_
              exact w_ret1 _ (.bool true) rfl rfl ⟨rfl, MF.trans M⟩
            | false =>
              obtain ⟨k8, s8, i8, t8, p8, e8, hc2, _⟩ := Pk.some (pk_chk x) hf4
              have he8 : e8 = 90 := by
                rcases hst with h | ⟨_, _, _, _, _, h⟩
                · rw [h] at hc2; cases hc2
                · have h7 := congrArg (fun o => (o.map Prod.snd).getD 0) (hc2.symm.trans h); exact h7
              subst he8
              refine wl_call 10 [(.tmp 54)] _ [.agg (x.cells).toArray] (.tuple #[.agg #[.int .i64 k8, .int .i64 s8, .int .i64 i8, .int .i64 t8, .int .i64 p8], .int .i64 (90)]) rfl rfl (fun _ _ => by kernel_rfl) (by have h := check_n x (hX.kp M.kp); rw [hc2] at h; exact h) rfl ?_
              intro u13 hq
              replace Qx := Qx.mo hq
              replace M := M.trans hq
              clear hq
              refine wl_mv (.tmp 55) (.tuple #[.agg #[.int .i64 k8, .int .i64 s8, .int .i64 i8, .int .i64 t8, .int .i64 p8], .int .i64 (90)]) (fun _ => rfl) rfl rfl ?_
              refine wl_un (fun v => Instr.extract v 0) (.tmp 53) (.tuple #[.agg #[.int .i64 k8, .int .i64 s8, .int .i64 i8, .int .i64 t8, .int .i64 p8], .int .i64 (90)]) (.agg #[.int .i64 k8, .int .i64 s8, .int .i64 i8, .int .i64 t8, .int .i64 p8]) (fun _ => rfl) rfl (by kernel_rfl) rfl ?_
              refine wl_un (fun v => Instr.extract v 1) (.tmp 53) (.tuple #[.agg #[.int .i64 k8, .int .i64 s8, .int .i64 i8, .int .i64 t8, .int .i64 p8], .int .i64 (90)]) (.int .i64 (90)) (fun _ => rfl) rfl (by kernel_rfl) rfl ?_
              refine wl_alloc 33 #[.int .i64 0, .int .i64 0, .int .i64 0, .int .i64 0, .int .i64 0] rfl (fun _ => by kernel_rfl) rfl ?_
              intro k4 u14 hk hz hq Q4
              have ne_k1_k4 : k1 ≠ k4 := by have := Qx.lt; omega
              have N_k4 : u12.heap.size ≤ k4 := by have := M.size; omega
              replace Qx := Qx.mo hq
              replace M := M.trans hq
              clear hk hz hq
              refine wl_st 33 (.tmp 7) (.tmp 56) k4 0 #[.int .i64 k8, .int .i64 s8, .int .i64 i8, .int .i64 t8, .int .i64 p8] [.int .i64 0, .int .i64 0, .int .i64 0, .int .i64 0, .int .i64 0] [.int .i64 k8, .int .i64 s8, .int .i64 i8, .int .i64 t8, .int .i64 p8] Q4 rfl rfl rfl rfl rfl sz33 rfl rfl rfl ?_
              intro u15 hS Qn
              replace Q4 := Qn
              clear Qn
              replace Qx := hS.other _ _ ne_k1_k4 Qx
              replace M := hS.mo _ N_k4 M
              clear hS
              refine wl_mv (.tmp 57) (.int .i64 (90)) (fun _ => rfl) rfl rfl ?_
              refine w_nil ?_
              refine xn_then ?_
              refine w_seq ?_
              refine w_reg ?_
              refine wl_load 29 (.tmp 2) (pt k1 0) (.agg (x.cells).toArray) rfl rfl (run_row Qx 29 0 7 (x.cells) rfl Try.underlying29 rfl sz29) rfl ?_
              refine wl_call 11 [(.tmp 59)] _ [.agg (x.cells).toArray] (.tuple #[.agg #[.int .i64 k8, .int .i64 s8, .int .i64 i8, .int .i64 t8, .int .i64 p8], .int .i64 (90)]) rfl rfl (fun _ _ => by kernel_rfl) (by have h := rcheck_n x (hX.kp M.kp); rw [hc2] at h; exact h) rfl ?_
              intro u16 hq
              replace Qx := Qx.mo hq
              replace Q4 := Q4.mo hq
              replace M := M.trans hq
              clear hq
              refine wl_mv (.tmp 60) (.tuple #[.agg #[.int .i64 k8, .int .i64 s8, .int .i64 i8, .int .i64 t8, .int .i64 p8], .int .i64 (90)]) (fun _ => rfl) rfl rfl ?_
              refine wl_un (fun v => Instr.extract v 0) (.tmp 58) (.tuple #[.agg #[.int .i64 k8, .int .i64 s8, .int .i64 i8, .int .i64 t8, .int .i64 p8], .int .i64 (90)]) (.agg #[.int .i64 k8, .int .i64 s8, .int .i64 i8, .int .i64 t8, .int .i64 p8]) (fun _ => rfl) rfl (by kernel_rfl) rfl ?_
              refine wl_un (fun v => Instr.extract v 1) (.tmp 58) (.tuple #[.agg #[.int .i64 k8, .int .i64 s8, .int .i64 i8, .int .i64 t8, .int .i64 p8], .int .i64 (90)]) (.int .i64 (90)) (fun _ => rfl) rfl (by kernel_rfl) rfl ?_
              refine wl_alloc 33 #[.int .i64 0, .int .i64 0, .int .i64 0, .int .i64 0, .int .i64 0] rfl (fun _ => by kernel_rfl) rfl ?_
              intro k5 u17 hk hz hq Q5
              have ne_k1_k5 : k1 ≠ k5 := by have := Qx.lt; omega
              have ne_k4_k5 : k4 ≠ k5 := by have := Q4.lt; omega
              have N_k5 : u12.heap.size ≤ k5 := by have := M.size; omega
              replace Qx := Qx.mo hq
              replace Q4 := Q4.mo hq
              replace M := M.trans hq
              clear hk hz hq
              refine wl_st 33 (.tmp 9) (.tmp 61) k5 0 #[.int .i64 k8, .int .i64 s8, .int .i64 i8, .int .i64 t8, .int .i64 p8] [.int .i64 0, .int .i64 0, .int .i64 0, .int .i64 0, .int .i64 0] [.int .i64 k8, .int .i64 s8, .int .i64 i8, .int .i64 t8, .int .i64 p8] Q5 rfl rfl rfl rfl rfl sz33 rfl rfl rfl ?_
              intro u18 hS Qn
              replace Q5 := Qn
              clear Qn
              replace Qx := hS.other _ _ ne_k1_k5 Qx
              replace Q4 := hS.other _ _ ne_k4_k5 Q4
              replace M := hS.mo _ N_k5 M
              clear hS
              refine wl_mv (.tmp 62) (.int .i64 (90)) (fun _ => rfl) rfl rfl ?_
              refine w_nil ?_
              refine xn_then ?_
              refine w_seq ?_
              refine w_reg ?_
              refine wl_mv (.tmp 8) (.int .i64 (90)) (fun _ => rfl) rfl rfl ?_
              refine wl_mv (.tmp 10) (.int .i64 (90)) (fun _ => rfl) rfl rfl ?_
              refine wl_bin (fun x y => do eqGuard .eql 34 (.tmp 63) (.tmp 64) x y; binOp .eql 34 x y) (.tmp 63) (.tmp 64) (.int .i64 (90)) (.int .i64 (90)) (.bool true) (fun _ => rfl) rfl rfl (eq34 (r := true) rfl _ _ _) rfl ?_
              refine wl_mv (.tmp 65) (.bool true) (fun _ => rfl) rfl rfl ?_
              refine wl_mv (.tmp 8) (.int .i64 (90)) (fun _ => rfl) rfl rfl ?_
              refine wl_bin (fun x y => do eqGuard .eql 34 (.tmp 67) (.const (.int .i64 (0))) x y; binOp .eql 34 x y) (.tmp 67) (.const (.int .i64 (0))) (.int .i64 (90)) (.int .i64 (0)) (.bool false) (fun _ => rfl) rfl rfl (eq34 (r := false) rfl _ _ _) rfl ?_
              refine wl_mv (.tmp 68) (.bool false) (fun _ => rfl) rfl rfl ?_
              refine wl_mv (.tmp 8) (.int .i64 (90)) (fun _ => rfl) rfl rfl ?_
              refine wl_bin (fun x y => do eqGuard .eql 34 (.tmp 70) (.const (.int .i64 (90))) x y; binOp .eql 34 x y) (.tmp 70) (.const (.int .i64 (90))) (.int .i64 (90)) (.int .i64 (90)) (.bool true) (fun _ => rfl) rfl rfl (eq34 (r := true) rfl _ _ _) rfl ?_
              refine wl_pick (.tmp 69) (.const (.bool true)) (.tmp 71) false (.bool true) (fun _ => rfl) rfl rfl rfl ?_
              refine wl_pick (.tmp 66) (.tmp 72) (.const (.bool false)) true (.bool true) (fun _ => rfl) rfl rfl rfl ?_
              refine wl_mv (.tmp 73) (.bool true) (fun _ => rfl) rfl rfl ?_
              refine w_nil ?_
              refine xn_then ?_
              refine w_ret ?_
              exact w_ret1 _ (.bool true) rfl rfl ⟨rfl, MF.trans M⟩
          | false =>
            refine wl_call 24 [(.tmp 38), (.tmp 39)] _ [.agg (d.cells).toArray, .string nm] (.bool false) rfl rfl (fun _ _ => by kernel_rfl) (cB hf3 (fresh_n d nm (hD.kp M.kp))) rfl ?_
            intro u8 hq
            replace Q1 := Q1.mo hq
            replace Q2 := Q2.mo hq
            replace M := M.trans hq
            clear hq
            refine wl_un (fun v => Op.unary .not v) (.tmp 40) (.bool false) (.bool true) (fun _ => rfl) rfl (by kernel_rfl) rfl ?_
            refine wl_pick (.tmp 37) (.const (.bool true)) (.tmp 41) false (.bool true) (fun _ => rfl) rfl rfl rfl ?_
            refine w_nil ?_
            refine xn_then ?_
            refine w_condT rfl ?_
            refine w_seq ?_
            refine w_reg ?_
            refine wl_mv (.const (.bool true)) (.bool true) (fun _ => rfl) rfl rfl ?_
            refine w_nil ?_
            refine xn_then ?_
            refine w_ret ?_
            refine xr_then ?_
            exact w_ret1 _ (.bool true) rfl rfl ⟨rfl, M⟩
    | false =>
      obtain ⟨k9, s9, i9, t9, p9, e9, hck, hne⟩ := Pk.some (pk_chk d) hf0
      refine wl_call 10 [(.tmp 20)] _ [.agg (d.cells).toArray] (.tuple #[.agg #[.int .i64 k9, .int .i64 s9, .int .i64 i9, .int .i64 t9, .int .i64 p9], .int .i64 (e9)]) rfl rfl (fun _ _ => by kernel_rfl) (by have h := check_n d (hD.kp M.kp); rw [hck] at h; exact h) rfl ?_
      intro u4 hq
      replace Q1 := Q1.mo hq
      replace M := M.trans hq
      clear hq
      refine wl_mv (.tmp 21) (.tuple #[.agg #[.int .i64 k9, .int .i64 s9, .int .i64 i9, .int .i64 t9, .int .i64 p9], .int .i64 (e9)]) (fun _ => rfl) rfl rfl ?_
      refine wl_un (fun v => Instr.extract v 0) (.tmp 19) (.tuple #[.agg #[.int .i64 k9, .int .i64 s9, .int .i64 i9, .int .i64 t9, .int .i64 p9], .int .i64 (e9)]) (.agg #[.int .i64 k9, .int .i64 s9, .int .i64 i9, .int .i64 t9, .int .i64 p9]) (fun _ => rfl) rfl (by kernel_rfl) rfl ?_
      refine wl_un (fun v => Instr.extract v 1) (.tmp 19) (.tuple #[.agg #[.int .i64 k9, .int .i64 s9, .int .i64 i9, .int .i64 t9, .int .i64 p9], .int .i64 (e9)]) (.int .i64 (e9)) (fun _ => rfl) rfl (by kernel_rfl) rfl ?_
      refine wl_alloc 33 #[.int .i64 0, .int .i64 0, .int .i64 0, .int .i64 0, .int .i64 0] rfl (fun _ => by kernel_rfl) rfl ?_
      intro k2 u5 hk hz hq Q2
      have ne_k1_k2 : k1 ≠ k2 := by have := Q1.lt; omega
      have N_k2 : w.heap.size ≤ k2 := by have := M.size; omega
      replace Q1 := Q1.mo hq
      replace M := M.trans hq
      clear hk hz hq
      refine wl_st 33 (.tmp 5) (.tmp 22) k2 0 #[.int .i64 k9, .int .i64 s9, .int .i64 i9, .int .i64 t9, .int .i64 p9] [.int .i64 0, .int .i64 0, .int .i64 0, .int .i64 0, .int .i64 0] [.int .i64 k9, .int .i64 s9, .int .i64 i9, .int .i64 t9, .int .i64 p9] Q2 rfl rfl rfl rfl rfl sz33 rfl rfl rfl ?_
      intro u6 hS Qn
      replace Q2 := Qn
      clear Qn
      replace Q1 := hS.other _ _ ne_k1_k2 Q1
      replace M := hS.mo _ N_k2 M
      clear hS
      refine wl_mv (.tmp 23) (.int .i64 (e9)) (fun _ => rfl) rfl rfl ?_
      refine w_nil ?_
      refine xn_then ?_
      refine w_seq ?_
      refine w_reg ?_
      refine wl_mv (.tmp 6) (.int .i64 (e9)) (fun _ => rfl) rfl rfl ?_
      refine wl_bin (fun x y => do eqGuard .neq 34 (.tmp 24) (.const (.int .i64 (0))) x y; binOp .neq 34 x y) (.tmp 24) (.const (.int .i64 (0))) (.int .i64 (e9)) (.int .i64 (0)) (.bool true) (fun _ => rfl) rfl rfl (ne34 (decide_eq_false hne) _ _ _) rfl ?_
      refine wl_mv (.tmp 25) (.bool true) (fun _ => rfl) rfl rfl ?_
      refine wl_skip rfl ?_
      refine wl_skip rfl ?_
      refine wl_skip rfl ?_
      refine wl_skip rfl ?_
      refine wl_skip rfl ?_
      refine wl_pick (.tmp 26) (.const (.bool true)) (.tmp 31) true (.bool true) (fun _ => rfl) rfl rfl rfl ?_
      refine wl_mv (.tmp 32) (.bool true) (fun _ => rfl) rfl rfl ?_
      refine wl_skip rfl ?_
      refine wl_skip rfl ?_
      refine wl_pick (.tmp 33) (.const (.bool true)) (.tmp 35) true (.bool true) (fun _ => rfl) rfl rfl rfl ?_
      refine wl_mv (.tmp 36) (.bool true) (fun _ => rfl) rfl rfl ?_
      refine wl_skip rfl ?_
      refine wl_skip rfl ?_
      refine wl_skip rfl ?_
      refine wl_skip rfl ?_
      refine wl_pick (.tmp 37) (.const (.bool true)) (.tmp 41) true (.bool true) (fun _ => rfl) rfl rfl rfl ?_
      refine w_nil ?_
      refine xn_then ?_
      refine w_condT rfl ?_
      refine w_seq ?_
      refine w_reg ?_
      refine wl_mv (.const (.bool true)) (.bool true) (fun _ => rfl) rfl rfl ?_
      refine w_nil ?_
      refine xn_then ?_
      refine w_ret ?_
      refine xr_then ?_
      exact w_ret1 _ (.bool true) rfl rfl ⟨rfl, M⟩
  | false =>
    refine wl_un (fun v => Op.unary .not v) (.tmp 12) (.bool false) (.bool true) (fun _ => rfl) rfl (by kernel_rfl) rfl ?_
    refine wl_mv (.tmp 13) (.bool true) (fun _ => rfl) rfl rfl ?_
    refine wl_skip rfl ?_
    refine wl_skip rfl ?_
    refine wl_pick (.tmp 14) (.const (.bool true)) (.tmp 16) true (.bool true) (fun _ => rfl) rfl rfl rfl ?_
    refine w_nil ?_
    refine xn_then ?_
    refine w_condT rfl ?_
    refine w_seq ?_
    refine w_reg ?_
    refine wl_call 9 [] _ [] (.bool true) rfl rfl (fun _ _ => by kernel_rfl) (live_n _) rfl ?_
    intro u3 hq
    replace Q1 := Q1.mo hq
    replace M := M.trans hq
    clear hq
    refine wl_mv (.tmp 18) (.bool true) (fun _ => rfl) rfl rfl ?_
    refine w_nil ?_
    refine xn_then ?_
    refine w_ret ?_
    refine xr_then ?_
    exact w_ret1 _ (.bool true) rfl rfl ⟨rfl, M⟩
end Go.Proofs.Ytbanldffohopiaa
