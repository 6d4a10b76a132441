/-
  The iterators of slices from behind.
-/
import Derived.Test.YthghblgbjgghcaaRna
namespace Go.Proofs.Ythghblgbjgghcaa
open Go.RowKit D
namespace R
theorem back70 {m kc cap : Nat} {w : World} {pa : Option Addr} {L : List Nat} (hA : Ob w kc 32 [.slice pa L.length cap]) (hS : Tl w 3 1 ic pa L) (hz : L.length ≤ 9223372036854775806) :
    SeqG m Try.prog 70 #[] #[pt kc 0] (fun x : Nat × Nat => #[.int .i64 ((x.1 : Nat) : Int), .int .i64 ((x.2 : Nat) : Int)]) (fun q _ => q.1 ++ [q.2] <+: bk L) (Kb kc 32 (.slice pa L.length cap) 3 1 ic pa L) (fun xs => xs = bk L) (fun pre => pre <+: bk L) L.length w := by
  intro lp J Jx W hmo hJ hJx hY h0
  replace hA := hA.mo hmo
  replace hS := hS.mo hmo
  refine w_enter 19 Try.func70 Try.ntmps70 rfl rfl ?_
  have M : Mo W W := Mo.refl _
  have QA := hA.at
  refine w_seq ?_
  refine w_reg ?_
  refine wl_load 32 (.tmp 1) (pt kc 0) (.slice pa L.length cap) rfl rfl (run_one QA 32 0 rfl Try.underlying32 rfl) rfl ?_
  refine wl_val (.int .i64 ((L.length : Nat) : Int)) (len32 _ _ _ _ _ (by exact rfl) _ _ _ _ _ _) rfl ?_
  refine wl_bin (fun x y => do eqGuard .sub 3 (.tmp 5) (.const (.int .i64 (1))) x y; binOp .sub 3 x y) (.tmp 5) (.const (.int .i64 (1))) (.int .i64 ((L.length : Nat) : Int)) (.int .i64 (1)) (.int .i64 (((L.length : Nat) : Int) - 1)) (fun _ => rfl) rfl rfl (subZ (a := ((L.length : Nat) : Int)) (b := 1) (by omega) (by omega) _ _ _) rfl ?_
  refine wl_mv (.tmp 6) (.int .i64 (((L.length : Nat) : Int) - 1)) (fun _ => rfl) rfl rfl ?_
  refine w_nil ?_
  refine xn_then ?_
  refine w_block ?_
  refine w_loop (fun k lf wc => ∃ i : Nat, k = i ∧ i ≤ L.length ∧ look lf 0 = .func (.yield lp) #[] #[] ∧ look lf 1 = pt kc 0 ∧ look lf 3 = .int .i64 ((i : Int) - 1) ∧ J ((bk L).take (L.length - i)) wc ∧ Ob wc kc 32 [.slice pa L.length cap] ∧ Tl wc 3 1 ic pa L) L.length ⟨L.length, rfl, Nat.le_refl _, rfl, rfl, rfl, by rw [Nat.sub_self]; exact h0, hA, hS⟩ ?_
  clear h0 hA hS M QA
  rintro k lf wc ⟨i, hki, hi, g0, g1, g3, hJi, hA, hS⟩
  have M : Mo wc wc := Mo.refl _
  subst hki
  have QA := hA.at
  cases hd : decide (0 ≤ (k : Int) - 1) with
  | true =>
    have hkp := of_decide_eq_true hd
    obtain ⟨i, rfl⟩ : ∃ i, k = i + 1 := ⟨k - 1, by omega⟩
    have hil : i < L.length := by omega
    obtain ⟨x, hx⟩ := get_of_lt hil
    have g3b : (((i + 1 : Nat) : Int) - 1) = ((i : Nat) : Int) := by omega
    rw [g3b] at g3 hd
    obtain ⟨bp, op, hpp, hRp⟩ := D.SL.rw hS.sl hx
    refine w_seq ?_
    refine w_seq ?_
    refine w_reg ?_
    refine wl_mv (.tmp 3) (.int .i64 ((i : Nat) : Int)) (fun _ => rfl) g3 rfl ?_
    refine wl_bin (fun x y => do eqGuard .geq 3 (.tmp 7) (.const (.int .i64 (0))) x y; binOp .geq 3 x y) (.tmp 7) (.const (.int .i64 (0))) (.int .i64 ((i : Nat) : Int)) (.int .i64 (0)) (.bool true) (fun _ => rfl) rfl rfl (ge3 hd _ _ _) rfl ?_
    refine w_nil ?_
    refine xn_then ?_
    refine w_condT rfl ?_
    refine w_skip ?_
    refine xn_then ?_
    refine w_seq ?_
    refine w_block ?_
    refine w_seq ?_
    refine w_regL ?_
    refine rl_o rfl (wo_mv (.tmp 0) (.func (.yield lp) #[] #[]) (fun _ => rfl) g0 ⟨_, rfl, ?_⟩)
    refine rl_o rfl (wo_mv (.tmp 3) (.int .i64 ((i : Nat) : Int)) (fun _ => rfl) g3 ⟨_, rfl, ?_⟩)
    refine rl_o rfl (wo_load 32 (.tmp 1) (pt kc 0) (.slice pa L.length cap) rfl g1 (run_one QA 32 0 rfl Try.underlying32 rfl) ⟨_, rfl, ?_⟩)
    refine rl_o rfl (wo_mv (.tmp 3) (.int .i64 ((i : Nat) : Int)) (fun _ => rfl) g3 ⟨_, rfl, ?_⟩)
    refine rl_o rfl (wo_bin (fun x y => Instr.indexAt 32 x y) (.tmp 13) (.tmp 14) (.slice pa L.length cap) (.int .i64 ((i : Nat) : Int)) (pt bp (op + i * 1)) (fun _ => rfl) rfl rfl (ix32 (i := i) hpp hil _) ⟨_, rfl, ?_⟩)
    refine rl_o rfl (wo_load 3 (.tmp 15) (pt bp (op + i * 1)) (.int .i64 ((x : Nat) : Int)) rfl rfl (D.run_oneR (hRp.mo M).at' 3 0 rfl Try.underlying3 rfl) ⟨_, rfl, ?_⟩)
    refine rl_yield (.tmp 11) [(.tmp 12), (.tmp 16)] _ [.int .i64 ((i : Nat) : Int), .int .i64 ((x : Nat) : Int)] lp rfl rfl rfl rfl (hY _ (i, x) _ hJi (show (bk L).take (L.length - (i + 1)) ++ [(i, x)] <+: bk L by rw [bk_take hx]; exact List.take_prefix _ _) (by simp [bk_len]; omega)) ?_
    rintro e u11 (⟨rfl, hJ2, hk2⟩ | ⟨rfl, hJx2⟩)
    · refine ⟨_, rfl, ?_⟩
      rw [bk_take hx] at hJ2
      refine rl_o rfl (wo_un (fun v => Op.unary .not v) (.tmp 17) (.bool true) (.bool false) (fun _ => rfl) rfl (by kernel_rfl) ⟨_, rfl, ?_⟩)
      refine rl_nil ?_
      refine xn_then ?_
      refine w_condF rfl ?_
      refine w_skip ?_
      refine xn_blk ?_
      refine xn_then ?_
      refine w_reg ?_
      refine wl_mv (.tmp 3) (.int .i64 ((i : Nat) : Int)) (fun _ => rfl) g3 rfl ?_
      refine wl_bin (fun x y => do eqGuard .sub 3 (.tmp 9) (.const (.int .i64 (1))) x y; binOp .sub 3 x y) (.tmp 9) (.const (.int .i64 (1))) (.int .i64 ((i : Nat) : Int)) (.int .i64 (1)) (.int .i64 (((i : Nat) : Int) - 1)) (fun _ => rfl) rfl rfl (subZ (a := ((i : Nat) : Int)) (b := 1) (by omega) (by omega) _ _ _) rfl ?_
      refine wl_mv (.tmp 10) (.int .i64 (((i : Nat) : Int) - 1)) (fun _ => rfl) rfl rfl ?_
      refine w_nil ?_
      exact xn_loop i (by omega) ⟨i, rfl, by omega, g0, g1, rfl, hJ2, hk2.a hA, hk2.s hS⟩
    · refine ⟨_, rfl, ?_⟩
      rw [bk_take hx] at hJx2
      refine rl_o rfl (wo_un (fun v => Op.unary .not v) (.tmp 17) (.bool false) (.bool true) (fun _ => rfl) rfl (by kernel_rfl) ⟨_, rfl, ?_⟩)
      refine rl_nil ?_
      refine xn_then ?_
      refine w_condT rfl ?_
      refine w_ret ?_
      refine xr_blk ?_
      refine xr_then ?_
      refine xr_then ?_
      refine xr_blk ?_
      exact w_ret0 rfl ⟨⟨_, rfl⟩, .inr ⟨_, List.take_prefix _ _, hJx2⟩⟩
  | false =>
    have hk0 : k = 0 := by have := of_decide_eq_false hd; omega
    refine w_seq ?_
    refine w_seq ?_
    refine w_reg ?_
    refine wl_mv (.tmp 3) (.int .i64 ((k : Int) - 1)) (fun _ => rfl) g3 rfl ?_
    refine wl_bin (fun x y => do eqGuard .geq 3 (.tmp 7) (.const (.int .i64 (0))) x y; binOp .geq 3 x y) (.tmp 7) (.const (.int .i64 (0))) (.int .i64 ((k : Int) - 1)) (.int .i64 (0)) (.bool false) (fun _ => rfl) rfl rfl (ge3 hd _ _ _) rfl ?_
    refine w_nil ?_
    refine xn_then ?_
    refine w_condF rfl ?_
    refine w_exit ?_
    refine xx_then ?_
    refine xx_then ?_
    refine xx_blk ?_
    exact w_end0 rfl ⟨⟨_, rfl⟩, .inl ⟨_, by rw [hk0, Nat.sub_zero, ← bk_len L, List.take_length], hJi⟩⟩
theorem back94 {m kc cap : Nat} {w : World} {pa : Option Addr} {L : List (ByteArray × Int)} (hA : Ob w kc 93 [.slice pa L.length cap]) (hS : Tl w 105 2 hc pa L) (hz : L.length ≤ 9223372036854775806) :
    SeqG m Try.prog 94 #[] #[pt kc 0] (fun x : Nat × (ByteArray × Int) => #[.int .i64 ((x.1 : Nat) : Int), .agg #[.string x.2.1, .int .i64 x.2.2]]) (fun q _ => q.1 ++ [q.2] <+: bk L) (Kb kc 93 (.slice pa L.length cap) 105 2 hc pa L) (fun xs => xs = bk L) (fun pre => pre <+: bk L) L.length w := by
  intro lp J Jx W hmo hJ hJx hY h0
  replace hA := hA.mo hmo
  replace hS := hS.mo hmo
  refine w_enter 19 Try.func94 Try.ntmps94 rfl rfl ?_
  have M : Mo W W := Mo.refl _
  have QA := hA.at
  refine w_seq ?_
  refine w_reg ?_
  refine wl_load 93 (.tmp 1) (pt kc 0) (.slice pa L.length cap) rfl rfl (run_one QA 93 0 rfl Try.underlying93 rfl) rfl ?_
  refine wl_val (.int .i64 ((L.length : Nat) : Int)) (len93 _ _ _ _ _ (by exact rfl) _ _ _ _ _ _) rfl ?_
  refine wl_bin (fun x y => do eqGuard .sub 3 (.tmp 5) (.const (.int .i64 (1))) x y; binOp .sub 3 x y) (.tmp 5) (.const (.int .i64 (1))) (.int .i64 ((L.length : Nat) : Int)) (.int .i64 (1)) (.int .i64 (((L.length : Nat) : Int) - 1)) (fun _ => rfl) rfl rfl (subZ (a := ((L.length : Nat) : Int)) (b := 1) (by omega) (by omega) _ _ _) rfl ?_
  refine wl_mv (.tmp 6) (.int .i64 (((L.length : Nat) : Int) - 1)) (fun _ => rfl) rfl rfl ?_
  refine w_nil ?_
  refine xn_then ?_
  refine w_block ?_
  refine w_loop (fun k lf wc => ∃ i : Nat, k = i ∧ i ≤ L.length ∧ look lf 0 = .func (.yield lp) #[] #[] ∧ look lf 1 = pt kc 0 ∧ look lf 3 = .int .i64 ((i : Int) - 1) ∧ J ((bk L).take (L.length - i)) wc ∧ Ob wc kc 93 [.slice pa L.length cap] ∧ Tl wc 105 2 hc pa L) L.length ⟨L.length, rfl, Nat.le_refl _, rfl, rfl, rfl, by rw [Nat.sub_self]; exact h0, hA, hS⟩ ?_
  clear h0 hA hS M QA
  rintro k lf wc ⟨i, hki, hi, g0, g1, g3, hJi, hA, hS⟩
  have M : Mo wc wc := Mo.refl _
  subst hki
  have QA := hA.at
  cases hd : decide (0 ≤ (k : Int) - 1) with
  | true =>
    have hkp := of_decide_eq_true hd
    obtain ⟨i, rfl⟩ : ∃ i, k = i + 1 := ⟨k - 1, by omega⟩
    have hil : i < L.length := by omega
    obtain ⟨x, hx⟩ := get_of_lt hil
    have g3b : (((i + 1 : Nat) : Int) - 1) = ((i : Nat) : Int) := by omega
    rw [g3b] at g3 hd
    obtain ⟨bp, op, hpp, hRp⟩ := D.SL.rw hS.sl hx
    refine w_seq ?_
    refine w_seq ?_
    refine w_reg ?_
    refine wl_mv (.tmp 3) (.int .i64 ((i : Nat) : Int)) (fun _ => rfl) g3 rfl ?_
    refine wl_bin (fun x y => do eqGuard .geq 3 (.tmp 7) (.const (.int .i64 (0))) x y; binOp .geq 3 x y) (.tmp 7) (.const (.int .i64 (0))) (.int .i64 ((i : Nat) : Int)) (.int .i64 (0)) (.bool true) (fun _ => rfl) rfl rfl (ge3 hd _ _ _) rfl ?_
    refine w_nil ?_
    refine xn_then ?_
    refine w_condT rfl ?_
    refine w_skip ?_
    refine xn_then ?_
    refine w_seq ?_
    refine w_block ?_
    refine w_seq ?_
    refine w_regL ?_
    refine rl_o rfl (wo_mv (.tmp 0) (.func (.yield lp) #[] #[]) (fun _ => rfl) g0 ⟨_, rfl, ?_⟩)
    refine rl_o rfl (wo_mv (.tmp 3) (.int .i64 ((i : Nat) : Int)) (fun _ => rfl) g3 ⟨_, rfl, ?_⟩)
    refine rl_o rfl (wo_load 93 (.tmp 1) (pt kc 0) (.slice pa L.length cap) rfl g1 (run_one QA 93 0 rfl Try.underlying93 rfl) ⟨_, rfl, ?_⟩)
    refine rl_o rfl (wo_mv (.tmp 3) (.int .i64 ((i : Nat) : Int)) (fun _ => rfl) g3 ⟨_, rfl, ?_⟩)
    refine rl_o rfl (wo_bin (fun x y => Instr.indexAt 93 x y) (.tmp 13) (.tmp 14) (.slice pa L.length cap) (.int .i64 ((i : Nat) : Int)) (pt bp (op + i * 2)) (fun _ => rfl) rfl rfl (ix93 (i := i) hpp hil _) ⟨_, rfl, ?_⟩)
    refine rl_o rfl (wo_load 105 (.tmp 15) (pt bp (op + i * 2)) (.agg #[.string x.1, .int .i64 x.2]) rfl rfl (D.run_partR (hRp.mo M).at' 105 0 2 [.string x.1, .int .i64 x.2] rfl Try.underlying105 rfl sz105) ⟨_, rfl, ?_⟩)
    refine rl_yield (.tmp 11) [(.tmp 12), (.tmp 16)] _ [.int .i64 ((i : Nat) : Int), .agg #[.string x.1, .int .i64 x.2]] lp rfl rfl rfl rfl (hY _ (i, x) _ hJi (show (bk L).take (L.length - (i + 1)) ++ [(i, x)] <+: bk L by rw [bk_take hx]; exact List.take_prefix _ _) (by simp [bk_len]; omega)) ?_
    rintro e u11 (⟨rfl, hJ2, hk2⟩ | ⟨rfl, hJx2⟩)
    · refine ⟨_, rfl, ?_⟩
      rw [bk_take hx] at hJ2
      refine rl_o rfl (wo_un (fun v => Op.unary .not v) (.tmp 17) (.bool true) (.bool false) (fun _ => rfl) rfl (by kernel_rfl) ⟨_, rfl, ?_⟩)
      refine rl_nil ?_
      refine xn_then ?_
      refine w_condF rfl ?_
      refine w_skip ?_
      refine xn_blk ?_
      refine xn_then ?_
      refine w_reg ?_
      refine wl_mv (.tmp 3) (.int .i64 ((i : Nat) : Int)) (fun _ => rfl) g3 rfl ?_
      refine wl_bin (fun x y => do eqGuard .sub 3 (.tmp 9) (.const (.int .i64 (1))) x y; binOp .sub 3 x y) (.tmp 9) (.const (.int .i64 (1))) (.int .i64 ((i : Nat) : Int)) (.int .i64 (1)) (.int .i64 (((i : Nat) : Int) - 1)) (fun _ => rfl) rfl rfl (subZ (a := ((i : Nat) : Int)) (b := 1) (by omega) (by omega) _ _ _) rfl ?_
      refine wl_mv (.tmp 10) (.int .i64 (((i : Nat) : Int) - 1)) (fun _ => rfl) rfl rfl ?_
      refine w_nil ?_
      exact xn_loop i (by omega) ⟨i, rfl, by omega, g0, g1, rfl, hJ2, hk2.a hA, hk2.s hS⟩
    · refine ⟨_, rfl, ?_⟩
      rw [bk_take hx] at hJx2
      refine rl_o rfl (wo_un (fun v => Op.unary .not v) (.tmp 17) (.bool false) (.bool true) (fun _ => rfl) rfl (by kernel_rfl) ⟨_, rfl, ?_⟩)
      refine rl_nil ?_
      refine xn_then ?_
      refine w_condT rfl ?_
      refine w_ret ?_
      refine xr_blk ?_
      refine xr_then ?_
      refine xr_then ?_
      refine xr_blk ?_
      exact w_ret0 rfl ⟨⟨_, rfl⟩, .inr ⟨_, List.take_prefix _ _, hJx2⟩⟩
  | false =>
    have hk0 : k = 0 := by have := of_decide_eq_false hd; omega
    refine w_seq ?_
    refine w_seq ?_
    refine w_reg ?_
    refine wl_mv (.tmp 3) (.int .i64 ((k : Int) - 1)) (fun _ => rfl) g3 rfl ?_
    refine wl_bin (fun x y => do eqGuard .geq 3 (.tmp 7) (.const (.int .i64 (0))) x y; binOp .geq 3 x y) (.tmp 7) (.const (.int .i64 (0))) (.int .i64 ((k : Int) - 1)) (.int .i64 (0)) (.bool false) (fun _ => rfl) rfl rfl (ge3 hd _ _ _) rfl ?_
    refine w_nil ?_
    refine xn_then ?_
    refine w_condF rfl ?_
    refine w_exit ?_
    refine xx_then ?_
    refine xx_then ?_
    refine xx_blk ?_
    exact w_end0 rfl ⟨⟨_, rfl⟩, .inl ⟨_, by rw [hk0, Nat.sub_zero, ← bk_len L, List.take_length], hJi⟩⟩
end R
theorem backw55 (pa : Option Addr) (n cap : Nat) (w : World) : Calls Try.prog 55 #[.slice pa n cap] w fun e w' => ∃ kc, e = .returned (.func (.func 70) #[] #[pt kc 0]) ∧ Ob w' kc 32 [.slice pa n cap] ∧ w.heap.size ≤ kc ∧ Mo w w' := by
  refine w_enter 4 Try.func55 Try.ntmps55 rfl rfl ?_
  have M : Mo w w := Mo.refl _
  refine w_seq ?_
  refine w_reg ?_
  refine wl_boxO 32 (.tmp 0) (.slice pa n cap) [.slice pa n cap] rfl rfl (fun _ => by kernel_rfl) rfl ?_
  intro k1 u1 hk hz9 hq O1
  have Q1 := O1.at
  have N_k1 : w.heap.size ≤ k1 := by have := M.size; omega
  replace M := M.trans hq
  clear hk hz9 hq
  refine wl_mv (.const (Go.Value.nilFunc)) (Go.Value.nilFunc) (fun _ => rfl) rfl rfl ?_
  refine w_nil ?_
  refine xn_then ?_
  refine w_seq ?_
  refine w_reg ?_
  refine wl_mf (.func 70) [] [(.tmp 1)] [] [pt k1 0] rfl rfl rfl rfl ?_
  refine wl_mv (.tmp 3) (.func (.func 70) #[] #[pt k1 0]) (fun _ => rfl) rfl rfl ?_
  refine w_nil ?_
  refine xn_then ?_
  refine w_ret ?_
  exact w_ret1 _ (.func (.func 70) #[] #[pt k1 0]) rfl rfl ⟨k1, rfl, O1, N_k1, M⟩
theorem backw75 (pa : Option Addr) (n cap : Nat) (w : World) : Calls Try.prog 75 #[.slice pa n cap] w fun e w' => ∃ kc, e = .returned (.func (.func 94) #[] #[pt kc 0]) ∧ Ob w' kc 93 [.slice pa n cap] ∧ w.heap.size ≤ kc ∧ Mo w w' := by
  refine w_enter 4 Try.func75 Try.ntmps75 rfl rfl ?_
  have M : Mo w w := Mo.refl _
  refine w_seq ?_
  refine w_reg ?_
  refine wl_boxO 93 (.tmp 0) (.slice pa n cap) [.slice pa n cap] rfl rfl (fun _ => by kernel_rfl) rfl ?_
  intro k1 u1 hk hz9 hq O1
  have Q1 := O1.at
  have N_k1 : w.heap.size ≤ k1 := by have := M.size; omega
  replace M := M.trans hq
  clear hk hz9 hq
  refine wl_mv (.const (Go.Value.nilFunc)) (Go.Value.nilFunc) (fun _ => rfl) rfl rfl ?_
  refine w_nil ?_
  refine xn_then ?_
  refine w_seq ?_
  refine w_reg ?_
  refine wl_mf (.func 94) [] [(.tmp 1)] [] [pt k1 0] rfl rfl rfl rfl ?_
  refine wl_mv (.tmp 3) (.func (.func 94) #[] #[pt k1 0]) (fun _ => rfl) rfl rfl ?_
  refine w_nil ?_
  refine xn_then ?_
  refine w_ret ?_
  exact w_ret1 _ (.func (.func 94) #[] #[pt k1 0]) rfl rfl ⟨k1, rfl, O1, N_k1, M⟩
end Go.Proofs.Ythghblgbjgghcaa
