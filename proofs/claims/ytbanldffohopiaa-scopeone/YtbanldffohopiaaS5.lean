/-
  Tables, sections and items checked.
-/
import Derived.Test.YtbanldffohopiaaS4
namespace Go.Proofs.Ytbanldffohopiaa
open Go.RowKit D
theorem table_n {w : World} {z : Zc} {A : Al} (hC : CK w z A) (n : Nat) (x : Tb) (hT : A.T.length < 1000000) : Calls Try.prog 50 #[pt z.cb 0, .int .i64 ((n : Nat) : Int), .agg (x.cells).toArray] w fun e w' => e = .returned (.int .i64 (tbE A.T x)) ∧ Mk z.D w w' ∧ (tbE A.T x = 0 → CK w' z ⟨(x.nm, ((n : Nat) : Int)) :: A.T, A.I, A.K⟩) := by
  refine w_enter 38 Try.func50 Try.ntmps50 rfl rfl ?_
  have M : Mo w w := Mo.refl _
  refine w_seq ?_
  refine w_reg ?_
  refine wl_box 85 (.tmp 2) (.agg (x.cells).toArray) (((x.cells).toArray)) rfl rfl (fun _ => by kernel_rfl) rfl ?_
  intro k1 w1 hk hz hq Q1
  have N_k1 : w.heap.size ≤ k1 := by have := M.size; omega
  replace M := M.trans hq
  clear hk hz hq
  refine wl_mv (.const (.int .i64 (0))) (.int .i64 (0)) (fun _ => rfl) rfl rfl ?_
  refine w_nil ?_
  refine xn_then ?_
  refine w_seq ?_
  refine w_block ?_
  refine w_seq ?_
  refine w_reg ?_
  refine wl_un (fun v => Instr.fieldAt 85 v 0) (.tmp 5) (pt k1 0) (pt k1 0) (fun _ => rfl) rfl (by kernel_rfl) rfl ?_
  refine wl_load 9 (.tmp 8) (pt k1 0) (.string x.nm) rfl rfl (run_one Q1 9 0 rfl Try.underlying9 rfl) rfl ?_
  cases hf0 : may x.nm with
  | true =>
    refine wl_call 48 [(.tmp 9)] _ [.string x.nm] (.bool true) rfl rfl (fun _ _ => by kernel_rfl) (cB hf0 (may_n x.nm _)) rfl ?_
    intro w2 hq
    replace Q1 := Q1.mo hq
    replace M := M.trans hq
    clear hq
    refine wl_un (fun v => Op.unary .not v) (.tmp 10) (.bool true) (.bool false) (fun _ => rfl) rfl (by kernel_rfl) rfl ?_
    refine wl_mv (.tmp 11) (.bool false) (fun _ => rfl) rfl rfl ?_
    refine w_nil ?_
    refine xn_then ?_
    refine w_condF rfl ?_
    refine w_seq ?_
    cases hf1 : (lk A.T x.nm).isSome with
    | true =>
      refine w_any 6 [.inl (pt z.cb 0), .inl (pt z.cb 0), .inl (pt z.cb 8), .inl (.map (some z.tb)), .inl (pt k1 0), .inl (.string x.nm)] [] (by kernel_rfl) (by kernel_rfl) (by kernel_rfl) (by kernel_rfl) rfl (by kernel_rfl) (by kernel_rfl) late_nil ?_ ?_ ?_
      · exact Ds.none rfl
      · refine ea_cons ?_ (ea_cons ?_ (ea_cons ?_ (ea_cons ?_ (ea_cons ?_ (ea_cons ?_ (ea_nil))))))
        · exact og_eq (pt z.cb 0) rfl (fun f wf hq hd K hK => go_run rfl (wo_mv (.tmp 0) (pt z.cb 0) (fun _ => rfl) rfl (hK _ (Mo.refl _))))
        · exact og_eq (pt z.cb 0) rfl (fun f wf hq hd K hK => go_run rfl (wo_nc (.tmp 13) z.cb 0 rfl (hd 0 rfl) (hK _ (Mo.refl _))))
        · exact og_eq (pt z.cb 8) rfl (fun f wf hq hd K hK => go_run rfl (wo_un (fun v => Instr.fieldAt 94 v 2) (.tmp 14) (pt z.cb 0) (pt z.cb 8) (fun _ => rfl) (hd 1 rfl) (by kernel_rfl) (hK _ (Mo.refl _))))
        · exact og_eq (.map (some z.tb)) rfl (fun f wf hq hd K hK => go_run rfl (wo_load 91 (.tmp 15) (pt z.cb 8) (.map (some z.tb)) rfl (hd 2 rfl) (D.run_oneR (hC.rw.mo (M.trans hq)).at' 91 8 rfl Try.underlying91 rfl) (hK _ (Mo.refl _))))
        · exact og_eq (pt k1 0) rfl (fun f wf hq hd K hK => go_run rfl (wo_un (fun v => Instr.fieldAt 85 v 0) (.tmp 5) (pt k1 0) (pt k1 0) (fun _ => rfl) rfl (by kernel_rfl) (hK _ (Mo.refl _))))
        · exact og_eq (.string x.nm) rfl (fun f wf hq hd K hK => have Q1 := Q1.mo hq; go_run rfl (wo_load 9 (.tmp 17) (pt k1 0) (.string x.nm) rfl (hd 4 rfl) (run_one Q1 9 0 rfl Try.underlying9 rfl) (hK _ (Mo.refl _))))
      intro kf3 w3 hq hR hne
      replace Q1 := Q1.mo hq
      replace M := M.trans hq
      clear hq hR hne
      refine wl_call 65 [(.tmp 16), (.tmp 18)] _ [.map (some z.tb), .string x.nm] (.bool true) rfl rfl (fun _ _ => by kernel_rfl) (cB hf1 (has_n (hC.om.mo M) x.nm (Nat.le_trans (may_sz hf0) (by decide)))) rfl ?_
      intro w4 hq
      replace Q1 := Q1.mo hq
      replace M := M.trans hq
      clear hq
      refine wl_mv (.tmp 19) (.bool true) (fun _ => rfl) rfl rfl ?_
      refine w_nil ?_
      refine xn_then ?_
      refine w_condT rfl ?_
      refine w_seq ?_
      refine w_reg ?_
      refine wl_mv (.const (.int .i64 (5))) (.int .i64 (5)) (fun _ => rfl) rfl rfl ?_
      refine w_nil ?_
      refine xn_then ?_
      refine w_ret ?_
      refine xr_blk ?_
      refine xr_then ?_
      exact w_ret1 _ (.int .i64 (5)) rfl rfl ⟨by unfold tbE; rw [hf0, hf1]; rfl, Mk.of _ M, fun h => absurd ((show (5 : Int) = tbE A.T x from by unfold tbE; rw [hf0, hf1]; rfl).trans h) (by decide)⟩
    | false =>
      refine w_any 6 [.inl (pt z.cb 0), .inl (pt z.cb 0), .inl (pt z.cb 8), .inl (.map (some z.tb)), .inl (pt k1 0), .inl (.string x.nm)] [] (by kernel_rfl) (by kernel_rfl) (by kernel_rfl) (by kernel_rfl) rfl (by kernel_rfl) (by kernel_rfl) late_nil ?_ ?_ ?_
      · exact Ds.none rfl
      · refine ea_cons ?_ (ea_cons ?_ (ea_cons ?_ (ea_cons ?_ (ea_cons ?_ (ea_cons ?_ (ea_nil))))))
        · exact og_eq (pt z.cb 0) rfl (fun f wf hq hd K hK => go_run rfl (wo_mv (.tmp 0) (pt z.cb 0) (fun _ => rfl) rfl (hK _ (Mo.refl _))))
        · exact og_eq (pt z.cb 0) rfl (fun f wf hq hd K hK => go_run rfl (wo_nc (.tmp 13) z.cb 0 rfl (hd 0 rfl) (hK _ (Mo.refl _))))
        · exact og_eq (pt z.cb 8) rfl (fun f wf hq hd K hK => go_run rfl (wo_un (fun v => Instr.fieldAt 94 v 2) (.tmp 14) (pt z.cb 0) (pt z.cb 8) (fun _ => rfl) (hd 1 rfl) (by kernel_rfl) (hK _ (Mo.refl _))))
        · exact og_eq (.map (some z.tb)) rfl (fun f wf hq hd K hK => go_run rfl (wo_load 91 (.tmp 15) (pt z.cb 8) (.map (some z.tb)) rfl (hd 2 rfl) (D.run_oneR (hC.rw.mo (M.trans hq)).at' 91 8 rfl Try.underlying91 rfl) (hK _ (Mo.refl _))))
        · exact og_eq (pt k1 0) rfl (fun f wf hq hd K hK => go_run rfl (wo_un (fun v => Instr.fieldAt 85 v 0) (.tmp 5) (pt k1 0) (pt k1 0) (fun _ => rfl) rfl (by kernel_rfl) (hK _ (Mo.refl _))))
        · exact og_eq (.string x.nm) rfl (fun f wf hq hd K hK => have Q1 := Q1.mo hq; go_run rfl (wo_load 9 (.tmp 17) (pt k1 0) (.string x.nm) rfl (hd 4 rfl) (run_one Q1 9 0 rfl Try.underlying9 rfl) (hK _ (Mo.refl _))))
      intro kf3 w3 hq hR hne
      replace Q1 := Q1.mo hq
      replace M := M.trans hq
      clear hq hR hne
      refine wl_call 65 [(.tmp 16), (.tmp 18)] _ [.map (some z.tb), .string x.nm] (.bool false) rfl rfl (fun _ _ => by kernel_rfl) (cB hf1 (has_n (hC.om.mo M) x.nm (Nat.le_trans (may_sz hf0) (by decide)))) rfl ?_
      intro w4 hq
      replace Q1 := Q1.mo hq
      replace M := M.trans hq
      clear hq
      refine wl_mv (.tmp 19) (.bool false) (fun _ => rfl) rfl rfl ?_
      refine w_nil ?_
      refine xn_then ?_
      refine w_condF rfl ?_
      refine w_seq ?_
      refine w_reg ?_
      refine wl_un (fun v => Instr.fieldAt 85 v 1) (.tmp 5) (pt k1 0) (pt k1 1) (fun _ => rfl) rfl (by kernel_rfl) rfl ?_
      refine wl_load 83 (.tmp 21) (pt k1 1) (.slice x.pa x.st.length x.cap) rfl rfl (run_one Q1 83 1 rfl Try.underlying83 rfl) rfl ?_
      refine wl_val (.int .i64 ((x.st.length : Nat) : Int)) (len83 _ _ _ _ _ (by exact rfl) _ _ _ _ _ _) rfl ?_
      cases hf2 : decide (x.st.length < 1) with
      | true =>
        have hf2p := of_decide_eq_true hf2
        refine wl_bin (fun x y => do eqGuard .lss 3 (.tmp 23) (.const (.int .i64 (1))) x y; binOp .lss 3 x y) (.tmp 23) (.const (.int .i64 (1))) (.int .i64 ((x.st.length : Nat) : Int)) (.int .i64 (1)) (.bool true) (fun _ => rfl) rfl rfl (ltN hf2 _ _ _) rfl ?_
        refine wl_mv (.tmp 24) (.bool true) (fun _ => rfl) rfl rfl ?_
        refine wl_skip rfl ?_
        refine wl_skip rfl ?_
        refine wl_skip rfl ?_
        refine wl_skip rfl ?_
        refine wl_pick (.tmp 25) (.const (.bool true)) (.tmp 29) true (.bool true) (fun _ => rfl) rfl rfl rfl ?_
        refine wl_mv (.tmp 30) (.bool true) (fun _ => rfl) rfl rfl ?_
        refine w_nil ?_
        refine xn_then ?_
        refine w_condT rfl ?_
        refine w_seq ?_
        refine w_reg ?_
        refine wl_mv (.const (.int .i64 (92))) (.int .i64 (92)) (fun _ => rfl) rfl rfl ?_
        refine w_nil ?_
        refine xn_then ?_
        refine w_ret ?_
        refine xr_blk ?_
        refine xr_then ?_
        exact w_ret1 _ (.int .i64 (92)) rfl rfl ⟨by unfold tbE; rw [hf0, hf1, hf2]; rfl, Mk.of _ M, fun h => absurd ((show (92 : Int) = tbE A.T x from by unfold tbE; rw [hf0, hf1, hf2]; rfl).trans h) (by decide)⟩
      | false =>
        have hf2p := of_decide_eq_false hf2
        refine wl_bin (fun x y => do eqGuard .lss 3 (.tmp 23) (.const (.int .i64 (1))) x y; binOp .lss 3 x y) (.tmp 23) (.const (.int .i64 (1))) (.int .i64 ((x.st.length : Nat) : Int)) (.int .i64 (1)) (.bool false) (fun _ => rfl) rfl rfl (ltN hf2 _ _ _) rfl ?_
        refine wl_mv (.tmp 24) (.bool false) (fun _ => rfl) rfl rfl ?_
        refine wl_un (fun v => Instr.fieldAt 85 v 1) (.tmp 5) (pt k1 0) (pt k1 1) (fun _ => rfl) rfl (by kernel_rfl) rfl ?_
        refine wl_load 83 (.tmp 26) (pt k1 1) (.slice x.pa x.st.length x.cap) rfl rfl (run_one Q1 83 1 rfl Try.underlying83 rfl) rfl ?_
        refine wl_val (.int .i64 ((x.st.length : Nat) : Int)) (len83 _ _ _ _ _ (by exact rfl) _ _ _ _ _ _) rfl ?_
        cases hf3 : decide (32 < x.st.length) with
        | true =>
          have hf3p := of_decide_eq_true hf3
          refine wl_bin (fun x y => do eqGuard .gtr 3 (.tmp 28) (.const (.int .i64 (32))) x y; binOp .gtr 3 x y) (.tmp 28) (.const (.int .i64 (32))) (.int .i64 ((x.st.length : Nat) : Int)) (.int .i64 (32)) (.bool true) (fun _ => rfl) rfl rfl (gtN hf3 _ _ _) rfl ?_
          refine wl_pick (.tmp 25) (.const (.bool true)) (.tmp 29) false (.bool true) (fun _ => rfl) rfl rfl rfl ?_
          refine wl_mv (.tmp 30) (.bool true) (fun _ => rfl) rfl rfl ?_
          refine w_nil ?_
          refine xn_then ?_
          refine w_condT rfl ?_
          refine w_seq ?_
          refine w_reg ?_
          refine wl_mv (.const (.int .i64 (92))) (.int .i64 (92)) (fun _ => rfl) rfl rfl ?_
          refine w_nil ?_
          refine xn_then ?_
          refine w_ret ?_
          refine xr_blk ?_
          refine xr_then ?_
          exact w_ret1 _ (.int .i64 (92)) rfl rfl ⟨by unfold tbE; rw [hf0, hf1, hf2, hf3]; rfl, Mk.of _ M, fun h => absurd ((show (92 : Int) = tbE A.T x from by unfold tbE; rw [hf0, hf1, hf2, hf3]; rfl).trans h) (by decide)⟩
        | false =>
          have hf3p := of_decide_eq_false hf3
          refine wl_bin (fun x y => do eqGuard .gtr 3 (.tmp 28) (.const (.int .i64 (32))) x y; binOp .gtr 3 x y) (.tmp 28) (.const (.int .i64 (32))) (.int .i64 ((x.st.length : Nat) : Int)) (.int .i64 (32)) (.bool false) (fun _ => rfl) rfl rfl (gtN hf3 _ _ _) rfl ?_
          refine wl_pick (.tmp 25) (.const (.bool true)) (.tmp 29) false (.bool false) (fun _ => rfl) rfl rfl rfl ?_
          refine wl_mv (.tmp 30) (.bool false) (fun _ => rfl) rfl rfl ?_
          refine w_nil ?_
          refine xn_then ?_
          refine w_condF rfl ?_
          refine w_skip ?_
          refine xn_blk ?_
          refine xn_then ?_
          refine w_seq ?_
          refine w_any 7 [.inl (pt z.cb 0), .inl (pt z.cb 0), .inl (pt z.cb 8), .inl (.map (some z.tb)), .inl (pt k1 0), .inl (.string x.nm), .inl (.int .i64 ((n : Nat) : Int))] [] (by kernel_rfl) (by kernel_rfl) (by kernel_rfl) (by kernel_rfl) rfl (by kernel_rfl) (by kernel_rfl) late_nil ?_ ?_ ?_
          · exact Ds.none rfl
          · refine ea_cons ?_ (ea_cons ?_ (ea_cons ?_ (ea_cons ?_ (ea_cons ?_ (ea_cons ?_ (ea_cons ?_ (ea_nil)))))))
            · exact og_eq (pt z.cb 0) rfl (fun f wf hq hd K hK => go_run rfl (wo_mv (.tmp 0) (pt z.cb 0) (fun _ => rfl) rfl (hK _ (Mo.refl _))))
            · exact og_eq (pt z.cb 0) rfl (fun f wf hq hd K hK => go_run rfl (wo_nc (.tmp 31) z.cb 0 rfl (hd 0 rfl) (hK _ (Mo.refl _))))
            · exact og_eq (pt z.cb 8) rfl (fun f wf hq hd K hK => go_run rfl (wo_un (fun v => Instr.fieldAt 94 v 2) (.tmp 32) (pt z.cb 0) (pt z.cb 8) (fun _ => rfl) (hd 1 rfl) (by kernel_rfl) (hK _ (Mo.refl _))))
            · exact og_eq (.map (some z.tb)) rfl (fun f wf hq hd K hK => go_run rfl (wo_load 91 (.tmp 33) (pt z.cb 8) (.map (some z.tb)) rfl (hd 2 rfl) (D.run_oneR (hC.rw.mo (M.trans hq)).at' 91 8 rfl Try.underlying91 rfl) (hK _ (Mo.refl _))))
            · exact og_eq (pt k1 0) rfl (fun f wf hq hd K hK => go_run rfl (wo_un (fun v => Instr.fieldAt 85 v 0) (.tmp 5) (pt k1 0) (pt k1 0) (fun _ => rfl) rfl (by kernel_rfl) (hK _ (Mo.refl _))))
            · exact og_eq (.string x.nm) rfl (fun f wf hq hd K hK => have Q1 := Q1.mo hq; go_run rfl (wo_load 9 (.tmp 35) (pt k1 0) (.string x.nm) rfl (hd 4 rfl) (run_one Q1 9 0 rfl Try.underlying9 rfl) (hK _ (Mo.refl _))))
            · exact og_eq (.int .i64 ((n : Nat) : Int)) rfl (fun f wf hq hd K hK => go_run rfl (wo_mv (.tmp 1) (.int .i64 ((n : Nat) : Int)) (fun _ => rfl) rfl (hK _ (Mo.refl _))))
          intro kf5 w5 hq hR hne
          replace Q1 := Q1.mo hq
          replace M := M.trans hq
          clear hq hR hne
          refine wl_mup (.tmp 34) (.tmp 36) (.tmp 37) z.tb x.nm (((n : Nat) : Int)) (hC.om.mo M) hT (Nat.le_trans (may_sz hf0) (by decide)) (isn hf1) rfl rfl rfl rfl rfl rfl ?_
          intro w6 hO9 hK9
          have hC9 := (hC.mo M).putT hO9 hK9
          have MK := (Mk.of z.D M).tr hK9 (fun j _ e => by rw [e]; exact Zc.dt)
          refine w_nil ?_
          refine xn_then ?_
          refine w_seq ?_
          refine w_reg ?_
          refine wl_mv (.const (.int .i64 (0))) (.int .i64 (0)) (fun _ => rfl) rfl rfl ?_
          refine w_nil ?_
          refine xn_then ?_
          refine w_ret ?_
          exact w_ret1 _ (.int .i64 (0)) rfl rfl ⟨by unfold tbE; rw [hf0, hf1, hf2, hf3]; rfl, MK, fun _ => hC9⟩
  | false =>
    refine wl_call 48 [(.tmp 9)] _ [.string x.nm] (.bool false) rfl rfl (fun _ _ => by kernel_rfl) (cB hf0 (may_n x.nm _)) rfl ?_
    intro w2 hq
    replace Q1 := Q1.mo hq
    replace M := M.trans hq
    clear hq
    refine wl_un (fun v => Op.unary .not v) (.tmp 10) (.bool false) (.bool true) (fun _ => rfl) rfl (by kernel_rfl) rfl ?_
    refine wl_mv (.tmp 11) (.bool true) (fun _ => rfl) rfl rfl ?_
    refine w_nil ?_
    refine xn_then ?_
    refine w_condT rfl ?_
    refine w_seq ?_
    refine w_reg ?_
    refine wl_mv (.const (.int .i64 (90))) (.int .i64 (90)) (fun _ => rfl) rfl rfl ?_
    refine w_nil ?_
    refine xn_then ?_
    refine w_ret ?_
    refine xr_blk ?_
    refine xr_then ?_
    exact w_ret1 _ (.int .i64 (90)) rfl rfl ⟨by unfold tbE; rw [hf0]; rfl, Mk.of _ M, fun h => absurd ((show (90 : Int) = tbE A.T x from by unfold tbE; rw [hf0]; rfl).trans h) (by decide)⟩
theorem room_n (n : Nat) (x : S5) (w : World) : Calls Try.prog 67 #[.int .i64 ((n : Nat) : Int), .agg (x.cells).toArray] w fun e w' => e = .returned (.bool (rmE n x)) ∧ Mo w w' := by
  refine w_enter 18 Try.func67 Try.ntmps67 rfl rfl ?_
  have M : Mo w w := Mo.refl _
  refine w_seq ?_
  refine w_reg ?_
  refine wl_box 52 (.tmp 1) (.agg (x.cells).toArray) (((x.cells).toArray)) rfl rfl (fun _ => by kernel_rfl) rfl ?_
  intro k1 w1 hk hz hq Q1
  have N_k1 : w.heap.size ≤ k1 := by have := M.size; omega
  replace M := M.trans hq
  clear hk hz hq
  refine wl_mv (.const (.bool false)) (.bool false) (fun _ => rfl) rfl rfl ?_
  refine w_nil ?_
  refine xn_then ?_
  refine w_seq ?_
  refine w_seq ?_
  refine w_reg ?_
  refine wl_mv (.tmp 0) (.int .i64 ((n : Nat) : Int)) (fun _ => rfl) rfl rfl ?_
  cases hf0 : decide (((n : Nat) : Int) = 0) with
  | true =>
    have hf0p := of_decide_eq_true hf0
    refine wl_bin (fun x y => do eqGuard .eql 3 (.tmp 5) (.const (.int .i64 (0))) x y; binOp .eql 3 x y) (.tmp 5) (.const (.int .i64 (0))) (.int .i64 ((n : Nat) : Int)) (.int .i64 (0)) (.bool true) (fun _ => rfl) rfl rfl (eq3 hf0 _ _ _) rfl ?_
    refine w_nil ?_
    refine xn_then ?_
    refine w_condT rfl ?_
    refine w_seq ?_
    refine w_reg ?_
    refine wl_un (fun v => Instr.fieldAt 52 v 3) (.tmp 3) (pt k1 0) (pt k1 3) (fun _ => rfl) rfl (by kernel_rfl) rfl ?_
    refine wl_load 3 (.tmp 7) (pt k1 3) (.int .i64 (x.mx)) rfl rfl (run_one Q1 3 3 rfl Try.underlying3 rfl) rfl ?_
    cases hf1 : decide (x.mx = 0) with
    | true =>
      have hf1p := of_decide_eq_true hf1
      refine wl_bin (fun x y => do eqGuard .eql 3 (.tmp 8) (.const (.int .i64 (0))) x y; binOp .eql 3 x y) (.tmp 8) (.const (.int .i64 (0))) (.int .i64 (x.mx)) (.int .i64 (0)) (.bool true) (fun _ => rfl) rfl rfl (eq3 hf1 _ _ _) rfl ?_
      refine wl_mv (.tmp 9) (.bool true) (fun _ => rfl) rfl rfl ?_
      refine w_nil ?_
      refine xn_then ?_
      refine w_ret ?_
      refine xr_then ?_
      exact w_ret1 _ (.bool true) rfl rfl ⟨by unfold rmE; rw [if_pos (show n = 0 by omega), hf1]; first | done | rfl, M⟩
    | false =>
      have hf1p := of_decide_eq_false hf1
      refine wl_bin (fun x y => do eqGuard .eql 3 (.tmp 8) (.const (.int .i64 (0))) x y; binOp .eql 3 x y) (.tmp 8) (.const (.int .i64 (0))) (.int .i64 (x.mx)) (.int .i64 (0)) (.bool false) (fun _ => rfl) rfl rfl (eq3 hf1 _ _ _) rfl ?_
      refine wl_mv (.tmp 9) (.bool false) (fun _ => rfl) rfl rfl ?_
      refine w_nil ?_
      refine xn_then ?_
      refine w_ret ?_
      refine xr_then ?_
      exact w_ret1 _ (.bool false) rfl rfl ⟨by unfold rmE; rw [if_pos (show n = 0 by omega), hf1]; first | done | rfl, M⟩
  | false =>
    have hf0p := of_decide_eq_false hf0
    refine wl_bin (fun x y => do eqGuard .eql 3 (.tmp 5) (.const (.int .i64 (0))) x y; binOp .eql 3 x y) (.tmp 5) (.const (.int .i64 (0))) (.int .i64 ((n : Nat) : Int)) (.int .i64 (0)) (.bool false) (fun _ => rfl) rfl rfl (eq3 hf0 _ _ _) rfl ?_
    refine w_nil ?_
    refine xn_then ?_
    refine w_condF rfl ?_
    refine w_skip ?_
    refine xn_then ?_
    refine w_seq ?_
    refine w_reg ?_
    refine wl_un (fun v => Instr.fieldAt 52 v 3) (.tmp 3) (pt k1 0) (pt k1 3) (fun _ => rfl) rfl (by kernel_rfl) rfl ?_
    refine wl_load 3 (.tmp 10) (pt k1 3) (.int .i64 (x.mx)) rfl rfl (run_one Q1 3 3 rfl Try.underlying3 rfl) rfl ?_
    cases hf1 : decide (1 ≤ x.mx) with
    | true =>
      have hf1p := of_decide_eq_true hf1
      refine wl_bin (fun x y => do eqGuard .geq 3 (.tmp 11) (.const (.int .i64 (1))) x y; binOp .geq 3 x y) (.tmp 11) (.const (.int .i64 (1))) (.int .i64 (x.mx)) (.int .i64 (1)) (.bool true) (fun _ => rfl) rfl rfl (ge3 hf1 _ _ _) rfl ?_
      refine wl_mv (.tmp 12) (.bool true) (fun _ => rfl) rfl rfl ?_
      refine wl_un (fun v => Instr.fieldAt 52 v 3) (.tmp 3) (pt k1 0) (pt k1 3) (fun _ => rfl) rfl (by kernel_rfl) rfl ?_
      refine wl_load 3 (.tmp 14) (pt k1 3) (.int .i64 (x.mx)) rfl rfl (run_one Q1 3 3 rfl Try.underlying3 rfl) rfl ?_
      cases hf2 : decide (x.mx ≤ 1024) with
      | true =>
        have hf2p := of_decide_eq_true hf2
        refine wl_bin (fun x y => do eqGuard .leq 3 (.tmp 15) (.const (.int .i64 (1024))) x y; binOp .leq 3 x y) (.tmp 15) (.const (.int .i64 (1024))) (.int .i64 (x.mx)) (.int .i64 (1024)) (.bool true) (fun _ => rfl) rfl rfl (le3 hf2 _ _ _) rfl ?_
        refine wl_pick (.tmp 13) (.tmp 16) (.const (.bool false)) true (.bool true) (fun _ => rfl) rfl rfl rfl ?_
        refine wl_mv (.tmp 17) (.bool true) (fun _ => rfl) rfl rfl ?_
        refine w_nil ?_
        refine xn_then ?_
        refine w_ret ?_
        exact w_ret1 _ (.bool true) rfl rfl ⟨by unfold rmE; rw [if_neg (show ¬ n = 0 by omega), hf1, hf2]; first | done | rfl, M⟩
      | false =>
        have hf2p := of_decide_eq_false hf2
        refine wl_bin (fun x y => do eqGuard .leq 3 (.tmp 15) (.const (.int .i64 (1024))) x y; binOp .leq 3 x y) (.tmp 15) (.const (.int .i64 (1024))) (.int .i64 (x.mx)) (.int .i64 (1024)) (.bool false) (fun _ => rfl) rfl rfl (le3 hf2 _ _ _) rfl ?_
        refine wl_pick (.tmp 13) (.tmp 16) (.const (.bool false)) true (.bool false) (fun _ => rfl) rfl rfl rfl ?_
        refine wl_mv (.tmp 17) (.bool false) (fun _ => rfl) rfl rfl ?_
        refine w_nil ?_
        refine xn_then ?_
        refine w_ret ?_
        exact w_ret1 _ (.bool false) rfl rfl ⟨by unfold rmE; rw [if_neg (show ¬ n = 0 by omega), hf1, hf2]; first | done | rfl, M⟩
    | false =>
      have hf1p := of_decide_eq_false hf1
      refine wl_bin (fun x y => do eqGuard .geq 3 (.tmp 11) (.const (.int .i64 (1))) x y; binOp .geq 3 x y) (.tmp 11) (.const (.int .i64 (1))) (.int .i64 (x.mx)) (.int .i64 (1)) (.bool false) (fun _ => rfl) rfl rfl (ge3 hf1 _ _ _) rfl ?_
      refine wl_mv (.tmp 12) (.bool false) (fun _ => rfl) rfl rfl ?_
      refine wl_skip rfl ?_
      refine wl_skip rfl ?_
      refine wl_skip rfl ?_
      refine wl_pick (.tmp 13) (.tmp 16) (.const (.bool false)) false (.bool false) (fun _ => rfl) rfl rfl rfl ?_
      refine wl_mv (.tmp 17) (.bool false) (fun _ => rfl) rfl rfl ?_
      refine w_nil ?_
      refine xn_then ?_
      refine w_ret ?_
      exact w_ret1 _ (.bool false) rfl rfl ⟨by unfold rmE; rw [if_neg (show ¬ n = 0 by omega), hf1]; first | done | rfl, M⟩
theorem namesec_n {w : World} {z : Zc} {A : Al} (hC : CK w z A) (n : Nat) (x : S5) (hx : z.L[n]? = some x) (hT : ∀ i, (A.K i).length < 1000000) : Calls Try.prog 66 #[pt z.cb 0, .int .i64 ((n : Nat) : Int), .agg (x.cells).toArray] w fun e w' => e = .returned (.int .i64 (nsE z.L A n x)) ∧ Mk z.D w w' ∧ (nsE z.L A n x = 0 → (n = 0 → CK w' z A) ∧ (0 < n → CK w' z ⟨A.T, A.I, upF A.K x.pr.toNat ((x.nm, ((n : Nat) : Int)) :: A.K x.pr.toNat)⟩)) := by
  refine w_enter 48 Try.func66 Try.ntmps66 rfl rfl ?_
  have M : Mo w w := Mo.refl _
  refine w_seq ?_
  refine w_reg ?_
  refine wl_box 52 (.tmp 2) (.agg (x.cells).toArray) (((x.cells).toArray)) rfl rfl (fun _ => by kernel_rfl) rfl ?_
  intro k1 w1 hk hz hq Q1
  have N_k1 : w.heap.size ≤ k1 := by have := M.size; omega
  replace M := M.trans hq
  clear hk hz hq
  refine wl_mv (.const (.int .i64 (0))) (.int .i64 (0)) (fun _ => rfl) rfl rfl ?_
  refine w_nil ?_
  refine xn_then ?_
  refine w_seq ?_
  refine w_seq ?_
  refine w_reg ?_
  refine wl_mv (.tmp 1) (.int .i64 ((n : Nat) : Int)) (fun _ => rfl) rfl rfl ?_
  cases hf0 : decide (((n : Nat) : Int) = 0) with
  | true =>
    have hf0p := of_decide_eq_true hf0
    refine wl_bin (fun x y => do eqGuard .eql 3 (.tmp 7) (.const (.int .i64 (0))) x y; binOp .eql 3 x y) (.tmp 7) (.const (.int .i64 (0))) (.int .i64 ((n : Nat) : Int)) (.int .i64 (0)) (.bool true) (fun _ => rfl) rfl rfl (eq3 hf0 _ _ _) rfl ?_
    refine w_nil ?_
    refine xn_then ?_
    refine w_condT rfl ?_
    refine w_seq ?_
    refine w_seq ?_
    refine w_reg ?_
    refine wl_un (fun v => Instr.fieldAt 52 v 2) (.tmp 5) (pt k1 0) (pt k1 2) (fun _ => rfl) rfl (by kernel_rfl) rfl ?_
    refine wl_load 9 (.tmp 9) (pt k1 2) (.string x.nm) rfl rfl (run_one Q1 9 2 rfl Try.underlying9 rfl) rfl ?_
    cases hf1 : decide (x.nm = ⟨#[]⟩) with
    | true =>
      have hf1p := of_decide_eq_true hf1
      refine wl_bin (fun x y => do eqGuard .neq 9 (.tmp 10) (.const (.string ⟨#[]⟩)) x y; binOp .neq 9 x y) (.tmp 10) (.const (.string ⟨#[]⟩)) (.string x.nm) (.string ⟨#[]⟩) (.bool false) (fun _ => rfl) rfl rfl (sn9 hf1 _ _ _) rfl ?_
      refine w_nil ?_
      refine xn_then ?_
      refine w_condF rfl ?_
      refine w_skip ?_
      refine xn_then ?_
      refine w_seq ?_
      refine w_reg ?_
      refine wl_mv (.const (.int .i64 (0))) (.int .i64 (0)) (fun _ => rfl) rfl rfl ?_
      refine w_nil ?_
      refine xn_then ?_
      refine w_ret ?_
      refine xr_then ?_
      exact w_ret1 _ (.int .i64 (0)) rfl rfl ⟨by unfold nsE; rw [if_pos (show n = 0 by omega), if_pos hf1p]; first | done | rfl, Mk.of _ M, fun _ => ⟨fun _ => hC.mo M, fun h => absurd h (by omega)⟩⟩
    | false =>
      have hf1p := of_decide_eq_false hf1
      refine wl_bin (fun x y => do eqGuard .neq 9 (.tmp 10) (.const (.string ⟨#[]⟩)) x y; binOp .neq 9 x y) (.tmp 10) (.const (.string ⟨#[]⟩)) (.string x.nm) (.string ⟨#[]⟩) (.bool true) (fun _ => rfl) rfl rfl (sn9 hf1 _ _ _) rfl ?_
      refine w_nil ?_
      refine xn_then ?_
      refine w_condT rfl ?_
      refine w_seq ?_
      refine w_reg ?_
      refine wl_mv (.const (.int .i64 (90))) (.int .i64 (90)) (fun _ => rfl) rfl rfl ?_
      refine w_nil ?_
      refine xn_then ?_
      refine w_ret ?_
      refine xr_then ?_
      refine xr_then ?_
      exact w_ret1 _ (.int .i64 (90)) rfl rfl ⟨by unfold nsE; rw [if_pos (show n = 0 by omega), if_neg hf1p]; first | done | rfl, Mk.of _ M, fun h => absurd ((show (90 : Int) = nsE z.L A n x from by unfold nsE; rw [if_pos (show n = 0 by omega), if_neg hf1p]; first | done | rfl).trans h) (by decide)⟩
  | false =>
    have hf0p := of_decide_eq_false hf0
    refine wl_bin (fun x y => do eqGuard .eql 3 (.tmp 7) (.const (.int .i64 (0))) x y; binOp .eql 3 x y) (.tmp 7) (.const (.int .i64 (0))) (.int .i64 ((n : Nat) : Int)) (.int .i64 (0)) (.bool false) (fun _ => rfl) rfl rfl (eq3 hf0 _ _ _) rfl ?_
    refine w_nil ?_
    refine xn_then ?_
    refine w_condF rfl ?_
    refine w_skip ?_
    refine xn_then ?_
    refine w_seq ?_
    refine w_block ?_
    refine w_seq ?_
    refine w_reg ?_
    refine wl_un (fun v => Instr.fieldAt 52 v 2) (.tmp 5) (pt k1 0) (pt k1 2) (fun _ => rfl) rfl (by kernel_rfl) rfl ?_
    refine wl_load 9 (.tmp 13) (pt k1 2) (.string x.nm) rfl rfl (run_one Q1 9 2 rfl Try.underlying9 rfl) rfl ?_
    cases hf1 : may x.nm with
    | true =>
      refine wl_call 48 [(.tmp 14)] _ [.string x.nm] (.bool true) rfl rfl (fun _ _ => by kernel_rfl) (cB hf1 (may_n x.nm _)) rfl ?_
      intro w2 hq
      replace Q1 := Q1.mo hq
      replace M := M.trans hq
      clear hq
      refine wl_un (fun v => Op.unary .not v) (.tmp 15) (.bool true) (.bool false) (fun _ => rfl) rfl (by kernel_rfl) rfl ?_
      refine wl_mv (.tmp 16) (.bool false) (fun _ => rfl) rfl rfl ?_
      refine w_nil ?_
      refine xn_then ?_
      refine w_condF rfl ?_
      refine w_seq ?_
      obtain ⟨hp1, hp2, hp3⟩ := hC.wf n x hx
      have hn := lt_of_get hx
      replace hp3 := hp3 (by omega)
      have hpn : x.pr = ((x.pr.toNat : Nat) : Int) := by omega
      have hpl : x.pr.toNat < z.L.length := by omega
      have hpk : x.pr.toNat < z.KI.length := by rw [hC.lk]; exact hpl
      obtain ⟨kb, hkb⟩ := get_of_lt hpk
      have hKo := hC.ok _ kb hkb
      obtain ⟨b1, o1, hp1, hR1⟩ := D.SL.rw hC.ki hkb
      cases hf2 : (lk (A.K x.pr.toNat) x.nm).isSome with
      | true =>
        refine w_any 17 [.inl (pt z.cb 0), .inl (pt z.cb 0), .inl (pt z.cb 10), .inl (.slice z.kp z.KI.length z.kc), .inl (pt k1 0), .inl (.int .i64 (x.pr)), .inl (pt b1 (o1 + x.pr.toNat * 1)), .inl (.map (some kb)), .inl (pt k1 2), .inl (.string x.nm), .inl (.bool true), .inl (.bool true), .inl undef, .inl undef, .inl undef, .inl undef, .inl undef] [] (by kernel_rfl) (by kernel_rfl) (by kernel_rfl) (by kernel_rfl) rfl (by kernel_rfl) (by kernel_rfl) late_nil ?_ ?_ ?_
        · exact Ds.none rfl
        · refine ea_cons ?_ (ea_cons ?_ (ea_cons ?_ (ea_cons ?_ (ea_cons ?_ (ea_cons ?_ (ea_cons ?_ (ea_cons ?_ (ea_cons ?_ (ea_cons ?_ (ea_cons ?_ (ea_cons ?_ (ea_cons ?_ (ea_cons ?_ (ea_cons ?_ (ea_cons ?_ (ea_cons ?_ (ea_nil)))))))))))))))))
          · exact og_eq (pt z.cb 0) rfl (fun f wf hq hd K hK => go_run rfl (wo_mv (.tmp 0) (pt z.cb 0) (fun _ => rfl) rfl (hK _ (Mo.refl _))))
          · exact og_eq (pt z.cb 0) rfl (fun f wf hq hd K hK => go_run rfl (wo_nc (.tmp 18) z.cb 0 rfl (hd 0 rfl) (hK _ (Mo.refl _))))
          · exact og_eq (pt z.cb 10) rfl (fun f wf hq hd K hK => go_run rfl (wo_un (fun v => Instr.fieldAt 94 v 4) (.tmp 19) (pt z.cb 0) (pt z.cb 10) (fun _ => rfl) (hd 1 rfl) (by kernel_rfl) (hK _ (Mo.refl _))))
          · exact og_eq (.slice z.kp z.KI.length z.kc) rfl (fun f wf hq hd K hK => go_run rfl (wo_load 92 (.tmp 20) (pt z.cb 10) (.slice z.kp z.KI.length z.kc) rfl (hd 2 rfl) (D.run_oneR (hC.rw.mo (M.trans hq)).at' 92 10 rfl Try.underlying92 rfl) (hK _ (Mo.refl _))))
          · exact og_eq (pt k1 0) rfl (fun f wf hq hd K hK => go_run rfl (wo_un (fun v => Instr.fieldAt 52 v 0) (.tmp 5) (pt k1 0) (pt k1 0) (fun _ => rfl) rfl (by kernel_rfl) (hK _ (Mo.refl _))))
          · exact og_eq (.int .i64 (x.pr)) rfl (fun f wf hq hd K hK => have Q1 := Q1.mo hq; go_run rfl (wo_load 3 (.tmp 22) (pt k1 0) (.int .i64 (x.pr)) rfl (hd 4 rfl) (run_one Q1 3 0 rfl Try.underlying3 rfl) (hK _ (Mo.refl _))))
          · exact og_eq (pt b1 (o1 + x.pr.toNat * 1)) rfl (fun f wf hq hd K hK => go_run rfl (wo_bin (fun x y => Instr.indexAt 92 x y) (.tmp 21) (.tmp 23) (.slice z.kp z.KI.length z.kc) (.int .i64 (x.pr)) (pt b1 (o1 + x.pr.toNat * 1)) (fun _ => rfl) (hd 3 rfl) (hd 5 rfl) (by rw [hpn]; exact ix92 (i := x.pr.toNat) hp1 hpk _) (hK _ (Mo.refl _))))
          · exact og_eq (.map (some kb)) rfl (fun f wf hq hd K hK => go_run rfl (wo_load 91 (.tmp 24) (pt b1 (o1 + x.pr.toNat * 1)) (.map (some kb)) rfl (hd 6 rfl) (D.run_oneR (hR1.mo (M.trans hq)).at' 91 0 rfl Try.underlying91 rfl) (hK _ (Mo.refl _))))
          · exact og_eq (pt k1 2) rfl (fun f wf hq hd K hK => go_run rfl (wo_un (fun v => Instr.fieldAt 52 v 2) (.tmp 5) (pt k1 0) (pt k1 2) (fun _ => rfl) rfl (by kernel_rfl) (hK _ (Mo.refl _))))
          · exact og_eq (.string x.nm) rfl (fun f wf hq hd K hK => have Q1 := Q1.mo hq; go_run rfl (wo_load 9 (.tmp 26) (pt k1 2) (.string x.nm) rfl (hd 8 rfl) (run_one Q1 9 2 rfl Try.underlying9 rfl) (hK _ (Mo.refl _))))
          · exact og_eq (.bool true) rfl (fun f wf hq hd K hK => go_run rfl (wo_call 65 [(.tmp 25), (.tmp 27)] _ [.map (some kb), .string x.nm] (.bool true) rfl (li2 (hd 7 rfl) (hd 9 rfl)) (fun _ _ => by kernel_rfl) (cB hf2 (has_n (hKo.mo (M.trans hq)) x.nm (Nat.le_trans (may_sz hf1) (by decide)))) hK))
          · exact og_eq (.bool true) rfl (fun f wf hq hd K hK => go_run rfl (wo_mv (.tmp 28) (.bool true) (fun _ => rfl) (hd 10 rfl) (hK _ (Mo.refl _))))
          · exact og_eq undef rfl (fun f wf hq hd K hK => go_pass (wnt_g rfl rfl rfl (hd 11 rfl) rfl) (hK _ (Mo.refl _)))
          · exact og_eq undef rfl (fun f wf hq hd K hK => go_pass (wnt_g rfl rfl rfl (hd 11 rfl) rfl) (hK _ (Mo.refl _)))
          · exact og_eq undef rfl (fun f wf hq hd K hK => go_pass (wnt_g rfl rfl rfl (hd 11 rfl) rfl) (hK _ (Mo.refl _)))
          · exact og_eq undef rfl (fun f wf hq hd K hK => go_pass (wnt_g rfl rfl rfl (hd 11 rfl) rfl) (hK _ (Mo.refl _)))
          · exact og_eq undef rfl (fun f wf hq hd K hK => go_pass (wnt_g rfl rfl rfl (hd 11 rfl) rfl) (hK _ (Mo.refl _)))
        intro kf3 w3 hq hR hne
        replace Q1 := Q1.mo hq
        replace M := M.trans hq
        clear hq hR hne
        refine wl_skip rfl ?_
        refine wl_pick (.tmp 29) (.const (.bool true)) (.tmp 35) true (.bool true) (fun _ => rfl) rfl rfl rfl ?_
        refine wl_mv (.tmp 36) (.bool true) (fun _ => rfl) rfl rfl ?_
        refine w_nil ?_
        refine xn_then ?_
        refine w_condT rfl ?_
        refine w_seq ?_
        refine w_reg ?_
        refine wl_mv (.const (.int .i64 (5))) (.int .i64 (5)) (fun _ => rfl) rfl rfl ?_
        refine w_nil ?_
        refine xn_then ?_
        refine w_ret ?_
        refine xr_blk ?_
        refine xr_then ?_
        exact w_ret1 _ (.int .i64 (5)) rfl rfl ⟨by unfold nsE; rw [if_neg (show ¬ n = 0 by omega), hf1, hf2]; first | done | rfl, Mk.of _ M, fun h => absurd ((show (5 : Int) = nsE z.L A n x from by unfold nsE; rw [if_neg (show ¬ n = 0 by omega), hf1, hf2]; first | done | rfl).trans h) (by decide)⟩
      | false =>
        cases hf3 : tkn z.L A.I x.pr.toNat x.nm with
        | true =>
          refine w_any 17 [.inl (pt z.cb 0), .inl (pt z.cb 0), .inl (pt z.cb 10), .inl (.slice z.kp z.KI.length z.kc), .inl (pt k1 0), .inl (.int .i64 (x.pr)), .inl (pt b1 (o1 + x.pr.toNat * 1)), .inl (.map (some kb)), .inl (pt k1 2), .inl (.string x.nm), .inl (.bool false), .inl (.bool false), .inl (pt z.cb 0), .inl (pt k1 0), .inl (.int .i64 (x.pr)), .inl (pt k1 2), .inl (.string x.nm)] [] (by kernel_rfl) (by kernel_rfl) (by kernel_rfl) (by kernel_rfl) rfl (by kernel_rfl) (by kernel_rfl) late_nil ?_ ?_ ?_
          · exact Ds.none rfl
          · refine ea_cons ?_ (ea_cons ?_ (ea_cons ?_ (ea_cons ?_ (ea_cons ?_ (ea_cons ?_ (ea_cons ?_ (ea_cons ?_ (ea_cons ?_ (ea_cons ?_ (ea_cons ?_ (ea_cons ?_ (ea_cons ?_ (ea_cons ?_ (ea_cons ?_ (ea_cons ?_ (ea_cons ?_ (ea_nil)))))))))))))))))
            · exact og_eq (pt z.cb 0) rfl (fun f wf hq hd K hK => go_run rfl (wo_mv (.tmp 0) (pt z.cb 0) (fun _ => rfl) rfl (hK _ (Mo.refl _))))
            · exact og_eq (pt z.cb 0) rfl (fun f wf hq hd K hK => go_run rfl (wo_nc (.tmp 18) z.cb 0 rfl (hd 0 rfl) (hK _ (Mo.refl _))))
            · exact og_eq (pt z.cb 10) rfl (fun f wf hq hd K hK => go_run rfl (wo_un (fun v => Instr.fieldAt 94 v 4) (.tmp 19) (pt z.cb 0) (pt z.cb 10) (fun _ => rfl) (hd 1 rfl) (by kernel_rfl) (hK _ (Mo.refl _))))
            · exact og_eq (.slice z.kp z.KI.length z.kc) rfl (fun f wf hq hd K hK => go_run rfl (wo_load 92 (.tmp 20) (pt z.cb 10) (.slice z.kp z.KI.length z.kc) rfl (hd 2 rfl) (D.run_oneR (hC.rw.mo (M.trans hq)).at' 92 10 rfl Try.underlying92 rfl) (hK _ (Mo.refl _))))
            · exact og_eq (pt k1 0) rfl (fun f wf hq hd K hK => go_run rfl (wo_un (fun v => Instr.fieldAt 52 v 0) (.tmp 5) (pt k1 0) (pt k1 0) (fun _ => rfl) rfl (by kernel_rfl) (hK _ (Mo.refl _))))
            · exact og_eq (.int .i64 (x.pr)) rfl (fun f wf hq hd K hK => have Q1 := Q1.mo hq; go_run rfl (wo_load 3 (.tmp 22) (pt k1 0) (.int .i64 (x.pr)) rfl (hd 4 rfl) (run_one Q1 3 0 rfl Try.underlying3 rfl) (hK _ (Mo.refl _))))
            · exact og_eq (pt b1 (o1 + x.pr.toNat * 1)) rfl (fun f wf hq hd K hK => go_run rfl (wo_bin (fun x y => Instr.indexAt 92 x y) (.tmp 21) (.tmp 23) (.slice z.kp z.KI.length z.kc) (.int .i64 (x.pr)) (pt b1 (o1 + x.pr.toNat * 1)) (fun _ => rfl) (hd 3 rfl) (hd 5 rfl) (by rw [hpn]; exact ix92 (i := x.pr.toNat) hp1 hpk _) (hK _ (Mo.refl _))))
            · exact og_eq (.map (some kb)) rfl (fun f wf hq hd K hK => go_run rfl (wo_load 91 (.tmp 24) (pt b1 (o1 + x.pr.toNat * 1)) (.map (some kb)) rfl (hd 6 rfl) (D.run_oneR (hR1.mo (M.trans hq)).at' 91 0 rfl Try.underlying91 rfl) (hK _ (Mo.refl _))))
            · exact og_eq (pt k1 2) rfl (fun f wf hq hd K hK => go_run rfl (wo_un (fun v => Instr.fieldAt 52 v 2) (.tmp 5) (pt k1 0) (pt k1 2) (fun _ => rfl) rfl (by kernel_rfl) (hK _ (Mo.refl _))))
            · exact og_eq (.string x.nm) rfl (fun f wf hq hd K hK => have Q1 := Q1.mo hq; go_run rfl (wo_load 9 (.tmp 26) (pt k1 2) (.string x.nm) rfl (hd 8 rfl) (run_one Q1 9 2 rfl Try.underlying9 rfl) (hK _ (Mo.refl _))))
            · exact og_eq (.bool false) rfl (fun f wf hq hd K hK => go_run rfl (wo_call 65 [(.tmp 25), (.tmp 27)] _ [.map (some kb), .string x.nm] (.bool false) rfl (li2 (hd 7 rfl) (hd 9 rfl)) (fun _ _ => by kernel_rfl) (cB hf2 (has_n (hKo.mo (M.trans hq)) x.nm (Nat.le_trans (may_sz hf1) (by decide)))) hK))
            · exact og_eq (.bool false) rfl (fun f wf hq hd K hK => go_run rfl (wo_mv (.tmp 28) (.bool false) (fun _ => rfl) (hd 10 rfl) (hK _ (Mo.refl _))))
            · exact og_eq (pt z.cb 0) rfl (fun f wf hq hd K hK => go_run (wnt_g rfl rfl rfl (hd 11 rfl) rfl) (wo_mv (.tmp 0) (pt z.cb 0) (fun _ => rfl) rfl (hK _ (Mo.refl _))))
            · exact og_eq (pt k1 0) rfl (fun f wf hq hd K hK => go_run (wnt_g rfl rfl rfl (hd 11 rfl) rfl) (wo_un (fun v => Instr.fieldAt 52 v 0) (.tmp 5) (pt k1 0) (pt k1 0) (fun _ => rfl) rfl (by kernel_rfl) (hK _ (Mo.refl _))))
            · exact og_eq (.int .i64 (x.pr)) rfl (fun f wf hq hd K hK => have Q1 := Q1.mo hq; go_run (wnt_g rfl rfl rfl (hd 11 rfl) rfl) (wo_load 3 (.tmp 31) (pt k1 0) (.int .i64 (x.pr)) rfl (hd 13 rfl) (run_one Q1 3 0 rfl Try.underlying3 rfl) (hK _ (Mo.refl _))))
            · exact og_eq (pt k1 2) rfl (fun f wf hq hd K hK => go_run (wnt_g rfl rfl rfl (hd 11 rfl) rfl) (wo_un (fun v => Instr.fieldAt 52 v 2) (.tmp 5) (pt k1 0) (pt k1 2) (fun _ => rfl) rfl (by kernel_rfl) (hK _ (Mo.refl _))))
            · exact og_eq (.string x.nm) rfl (fun f wf hq hd K hK => have Q1 := Q1.mo hq; go_run (wnt_g rfl rfl rfl (hd 11 rfl) rfl) (wo_load 9 (.tmp 33) (pt k1 2) (.string x.nm) rfl (hd 15 rfl) (run_one Q1 9 2 rfl Try.underlying9 rfl) (hK _ (Mo.refl _))))
          intro kf3 w3 hq hR hne
          replace Q1 := Q1.mo hq
          replace M := M.trans hq
          clear hq hR hne
          refine wl_call 68 [(.tmp 30), (.tmp 32), (.tmp 34)] _ [pt z.cb 0, .int .i64 (x.pr), .string x.nm] (.bool true) rfl rfl (fun _ _ => by kernel_rfl) (by rw [hpn]; exact cB hf3 (taken_n (hC.mo M) _ hpl x.nm (Nat.le_trans (may_sz hf1) (by decide)))) rfl ?_
          intro w4 hq
          replace Q1 := Q1.mo hq
          replace M := M.trans hq
          clear hq
          refine wl_pick (.tmp 29) (.const (.bool true)) (.tmp 35) false (.bool true) (fun _ => rfl) rfl rfl rfl ?_
          refine wl_mv (.tmp 36) (.bool true) (fun _ => rfl) rfl rfl ?_
          refine w_nil ?_
          refine xn_then ?_
          refine w_condT rfl ?_
          refine w_seq ?_
          refine w_reg ?_
          refine wl_mv (.const (.int .i64 (5))) (.int .i64 (5)) (fun _ => rfl) rfl rfl ?_
          refine w_nil ?_
          refine xn_then ?_
          refine w_ret ?_
          refine xr_blk ?_
          refine xr_then ?_
          exact w_ret1 _ (.int .i64 (5)) rfl rfl ⟨by unfold nsE; rw [if_neg (show ¬ n = 0 by omega), hf1, hf2, hf3]; first | done | rfl, Mk.of _ M, fun h => absurd ((show (5 : Int) = nsE z.L A n x from by unfold nsE; rw [if_neg (show ¬ n = 0 by omega), hf1, hf2, hf3]; first | done | rfl).trans h) (by decide)⟩
        | false =>
          refine w_any 17 [.inl (pt z.cb 0), .inl (pt z.cb 0), .inl (pt z.cb 10), .inl (.slice z.kp z.KI.length z.kc), .inl (pt k1 0), .inl (.int .i64 (x.pr)), .inl (pt b1 (o1 + x.pr.toNat * 1)), .inl (.map (some kb)), .inl (pt k1 2), .inl (.string x.nm), .inl (.bool false), .inl (.bool false), .inl (pt z.cb 0), .inl (pt k1 0), .inl (.int .i64 (x.pr)), .inl (pt k1 2), .inl (.string x.nm)] [] (by kernel_rfl) (by kernel_rfl) (by kernel_rfl) (by kernel_rfl) rfl (by kernel_rfl) (by kernel_rfl) late_nil ?_ ?_ ?_
          · exact Ds.none rfl
          · refine ea_cons ?_ (ea_cons ?_ (ea_cons ?_ (ea_cons ?_ (ea_cons ?_ (ea_cons ?_ (ea_cons ?_ (ea_cons ?_ (ea_cons ?_ (ea_cons ?_ (ea_cons ?_ (ea_cons ?_ (ea_cons ?_ (ea_cons ?_ (ea_cons ?_ (ea_cons ?_ (ea_cons ?_ (ea_nil)))))))))))))))))
            · exact og_eq (pt z.cb 0) rfl (fun f wf hq hd K hK => go_run rfl (wo_mv (.tmp 0) (pt z.cb 0) (fun _ => rfl) rfl (hK _ (Mo.refl _))))
            · exact og_eq (pt z.cb 0) rfl (fun f wf hq hd K hK => go_run rfl (wo_nc (.tmp 18) z.cb 0 rfl (hd 0 rfl) (hK _ (Mo.refl _))))
            · exact og_eq (pt z.cb 10) rfl (fun f wf hq hd K hK => go_run rfl (wo_un (fun v => Instr.fieldAt 94 v 4) (.tmp 19) (pt z.cb 0) (pt z.cb 10) (fun _ => rfl) (hd 1 rfl) (by kernel_rfl) (hK _ (Mo.refl _))))
            · exact og_eq (.slice z.kp z.KI.length z.kc) rfl (fun f wf hq hd K hK => go_run rfl (wo_load 92 (.tmp 20) (pt z.cb 10) (.slice z.kp z.KI.length z.kc) rfl (hd 2 rfl) (D.run_oneR (hC.rw.mo (M.trans hq)).at' 92 10 rfl Try.underlying92 rfl) (hK _ (Mo.refl _))))
            · exact og_eq (pt k1 0) rfl (fun f wf hq hd K hK => go_run rfl (wo_un (fun v => Instr.fieldAt 52 v 0) (.tmp 5) (pt k1 0) (pt k1 0) (fun _ => rfl) rfl (by kernel_rfl) (hK _ (Mo.refl _))))
            · exact og_eq (.int .i64 (x.pr)) rfl (fun f wf hq hd K hK => have Q1 := Q1.mo hq; go_run rfl (wo_load 3 (.tmp 22) (pt k1 0) (.int .i64 (x.pr)) rfl (hd 4 rfl) (run_one Q1 3 0 rfl Try.underlying3 rfl) (hK _ (Mo.refl _))))
            · exact og_eq (pt b1 (o1 + x.pr.toNat * 1)) rfl (fun f wf hq hd K hK => go_run rfl (wo_bin (fun x y => Instr.indexAt 92 x y) (.tmp 21) (.tmp 23) (.slice z.kp z.KI.length z.kc) (.int .i64 (x.pr)) (pt b1 (o1 + x.pr.toNat * 1)) (fun _ => rfl) (hd 3 rfl) (hd 5 rfl) (by rw [hpn]; exact ix92 (i := x.pr.toNat) hp1 hpk _) (hK _ (Mo.refl _))))
            · exact og_eq (.map (some kb)) rfl (fun f wf hq hd K hK => go_run rfl (wo_load 91 (.tmp 24) (pt b1 (o1 + x.pr.toNat * 1)) (.map (some kb)) rfl (hd 6 rfl) (D.run_oneR (hR1.mo (M.trans hq)).at' 91 0 rfl Try.underlying91 rfl) (hK _ (Mo.refl _))))
            · exact og_eq (pt k1 2) rfl (fun f wf hq hd K hK => go_run rfl (wo_un (fun v => Instr.fieldAt 52 v 2) (.tmp 5) (pt k1 0) (pt k1 2) (fun _ => rfl) rfl (by kernel_rfl) (hK _ (Mo.refl _))))
            · exact og_eq (.string x.nm) rfl (fun f wf hq hd K hK => have Q1 := Q1.mo hq; go_run rfl (wo_load 9 (.tmp 26) (pt k1 2) (.string x.nm) rfl (hd 8 rfl) (run_one Q1 9 2 rfl Try.underlying9 rfl) (hK _ (Mo.refl _))))
            · exact og_eq (.bool false) rfl (fun f wf hq hd K hK => go_run rfl (wo_call 65 [(.tmp 25), (.tmp 27)] _ [.map (some kb), .string x.nm] (.bool false) rfl (li2 (hd 7 rfl) (hd 9 rfl)) (fun _ _ => by kernel_rfl) (cB hf2 (has_n (hKo.mo (M.trans hq)) x.nm (Nat.le_trans (may_sz hf1) (by decide)))) hK))
            · exact og_eq (.bool false) rfl (fun f wf hq hd K hK => go_run rfl (wo_mv (.tmp 28) (.bool false) (fun _ => rfl) (hd 10 rfl) (hK _ (Mo.refl _))))
            · exact og_eq (pt z.cb 0) rfl (fun f wf hq hd K hK => go_run (wnt_g rfl rfl rfl (hd 11 rfl) rfl) (wo_mv (.tmp 0) (pt z.cb 0) (fun _ => rfl) rfl (hK _ (Mo.refl _))))
            · exact og_eq (pt k1 0) rfl (fun f wf hq hd K hK => go_run (wnt_g rfl rfl rfl (hd 11 rfl) rfl) (wo_un (fun v => Instr.fieldAt 52 v 0) (.tmp 5) (pt k1 0) (pt k1 0) (fun _ => rfl) rfl (by kernel_rfl) (hK _ (Mo.refl _))))
            · exact og_eq (.int .i64 (x.pr)) rfl (fun f wf hq hd K hK => have Q1 := Q1.mo hq; go_run (wnt_g rfl rfl rfl (hd 11 rfl) rfl) (wo_load 3 (.tmp 31) (pt k1 0) (.int .i64 (x.pr)) rfl (hd 13 rfl) (run_one Q1 3 0 rfl Try.underlying3 rfl) (hK _ (Mo.refl _))))
            · exact og_eq (pt k1 2) rfl (fun f wf hq hd K hK => go_run (wnt_g rfl rfl rfl (hd 11 rfl) rfl) (wo_un (fun v => Instr.fieldAt 52 v 2) (.tmp 5) (pt k1 0) (pt k1 2) (fun _ => rfl) rfl (by kernel_rfl) (hK _ (Mo.refl _))))
            · exact og_eq (.string x.nm) rfl (fun f wf hq hd K hK => have Q1 := Q1.mo hq; go_run (wnt_g rfl rfl rfl (hd 11 rfl) rfl) (wo_load 9 (.tmp 33) (pt k1 2) (.string x.nm) rfl (hd 15 rfl) (run_one Q1 9 2 rfl Try.underlying9 rfl) (hK _ (Mo.refl _))))
          intro kf3 w3 hq hR hne
          replace Q1 := Q1.mo hq
          replace M := M.trans hq
          clear hq hR hne
          refine wl_call 68 [(.tmp 30), (.tmp 32), (.tmp 34)] _ [pt z.cb 0, .int .i64 (x.pr), .string x.nm] (.bool false) rfl rfl (fun _ _ => by kernel_rfl) (by rw [hpn]; exact cB hf3 (taken_n (hC.mo M) _ hpl x.nm (Nat.le_trans (may_sz hf1) (by decide)))) rfl ?_
          intro w4 hq
          replace Q1 := Q1.mo hq
          replace M := M.trans hq
          clear hq
          refine wl_pick (.tmp 29) (.const (.bool true)) (.tmp 35) false (.bool false) (fun _ => rfl) rfl rfl rfl ?_
          refine wl_mv (.tmp 36) (.bool false) (fun _ => rfl) rfl rfl ?_
          refine w_nil ?_
          refine xn_then ?_
          refine w_condF rfl ?_
          refine w_skip ?_
          refine xn_blk ?_
          refine xn_then ?_
          refine w_seq ?_
          refine w_any 11 [.inl (pt z.cb 0), .inl (pt z.cb 0), .inl (pt z.cb 10), .inl (.slice z.kp z.KI.length z.kc), .inl (pt k1 0), .inl (.int .i64 (x.pr)), .inl (pt b1 (o1 + x.pr.toNat * 1)), .inl (.map (some kb)), .inl (pt k1 2), .inl (.string x.nm), .inl (.int .i64 ((n : Nat) : Int))] [] (by kernel_rfl) (by kernel_rfl) (by kernel_rfl) (by kernel_rfl) rfl (by kernel_rfl) (by kernel_rfl) late_nil ?_ ?_ ?_
          · exact Ds.none rfl
          · refine ea_cons ?_ (ea_cons ?_ (ea_cons ?_ (ea_cons ?_ (ea_cons ?_ (ea_cons ?_ (ea_cons ?_ (ea_cons ?_ (ea_cons ?_ (ea_cons ?_ (ea_cons ?_ (ea_nil)))))))))))
            · exact og_eq (pt z.cb 0) rfl (fun f wf hq hd K hK => go_run rfl (wo_mv (.tmp 0) (pt z.cb 0) (fun _ => rfl) rfl (hK _ (Mo.refl _))))
            · exact og_eq (pt z.cb 0) rfl (fun f wf hq hd K hK => go_run rfl (wo_nc (.tmp 37) z.cb 0 rfl (hd 0 rfl) (hK _ (Mo.refl _))))
            · exact og_eq (pt z.cb 10) rfl (fun f wf hq hd K hK => go_run rfl (wo_un (fun v => Instr.fieldAt 94 v 4) (.tmp 38) (pt z.cb 0) (pt z.cb 10) (fun _ => rfl) (hd 1 rfl) (by kernel_rfl) (hK _ (Mo.refl _))))
            · exact og_eq (.slice z.kp z.KI.length z.kc) rfl (fun f wf hq hd K hK => go_run rfl (wo_load 92 (.tmp 39) (pt z.cb 10) (.slice z.kp z.KI.length z.kc) rfl (hd 2 rfl) (D.run_oneR (hC.rw.mo (M.trans hq)).at' 92 10 rfl Try.underlying92 rfl) (hK _ (Mo.refl _))))
            · exact og_eq (pt k1 0) rfl (fun f wf hq hd K hK => go_run rfl (wo_un (fun v => Instr.fieldAt 52 v 0) (.tmp 5) (pt k1 0) (pt k1 0) (fun _ => rfl) rfl (by kernel_rfl) (hK _ (Mo.refl _))))
            · exact og_eq (.int .i64 (x.pr)) rfl (fun f wf hq hd K hK => have Q1 := Q1.mo hq; go_run rfl (wo_load 3 (.tmp 41) (pt k1 0) (.int .i64 (x.pr)) rfl (hd 4 rfl) (run_one Q1 3 0 rfl Try.underlying3 rfl) (hK _ (Mo.refl _))))
            · exact og_eq (pt b1 (o1 + x.pr.toNat * 1)) rfl (fun f wf hq hd K hK => go_run rfl (wo_bin (fun x y => Instr.indexAt 92 x y) (.tmp 40) (.tmp 42) (.slice z.kp z.KI.length z.kc) (.int .i64 (x.pr)) (pt b1 (o1 + x.pr.toNat * 1)) (fun _ => rfl) (hd 3 rfl) (hd 5 rfl) (by rw [hpn]; exact ix92 (i := x.pr.toNat) hp1 hpk _) (hK _ (Mo.refl _))))
            · exact og_eq (.map (some kb)) rfl (fun f wf hq hd K hK => go_run rfl (wo_load 91 (.tmp 43) (pt b1 (o1 + x.pr.toNat * 1)) (.map (some kb)) rfl (hd 6 rfl) (D.run_oneR (hR1.mo (M.trans hq)).at' 91 0 rfl Try.underlying91 rfl) (hK _ (Mo.refl _))))
            · exact og_eq (pt k1 2) rfl (fun f wf hq hd K hK => go_run rfl (wo_un (fun v => Instr.fieldAt 52 v 2) (.tmp 5) (pt k1 0) (pt k1 2) (fun _ => rfl) rfl (by kernel_rfl) (hK _ (Mo.refl _))))
            · exact og_eq (.string x.nm) rfl (fun f wf hq hd K hK => have Q1 := Q1.mo hq; go_run rfl (wo_load 9 (.tmp 45) (pt k1 2) (.string x.nm) rfl (hd 8 rfl) (run_one Q1 9 2 rfl Try.underlying9 rfl) (hK _ (Mo.refl _))))
            · exact og_eq (.int .i64 ((n : Nat) : Int)) rfl (fun f wf hq hd K hK => go_run rfl (wo_mv (.tmp 1) (.int .i64 ((n : Nat) : Int)) (fun _ => rfl) rfl (hK _ (Mo.refl _))))
          intro kf5 w5 hq hR hne
          replace Q1 := Q1.mo hq
          replace M := M.trans hq
          clear hq hR hne
          refine wl_mup (.tmp 44) (.tmp 46) (.tmp 47) kb x.nm (((n : Nat) : Int)) (hKo.mo M) (hT _) (Nat.le_trans (may_sz hf1) (by decide)) (isn hf2) rfl rfl rfl rfl rfl rfl ?_
          intro w6 hO9 hK9
          have hC9 := (hC.mo M).putK hkb (by omega) hO9 hK9
          have MK := (Mk.of z.D M).tr hK9 (fun j _ e => by rw [e]; exact (Zc.dk hkb))
          refine w_nil ?_
          refine xn_then ?_
          refine w_seq ?_
          refine w_reg ?_
          refine wl_mv (.const (.int .i64 (0))) (.int .i64 (0)) (fun _ => rfl) rfl rfl ?_
          refine w_nil ?_
          refine xn_then ?_
          refine w_ret ?_
          exact w_ret1 _ (.int .i64 (0)) rfl rfl ⟨by unfold nsE; rw [if_neg (show ¬ n = 0 by omega), hf1, hf2, hf3]; first | done | rfl, MK, fun _ => ⟨fun h => absurd h (by omega), fun _ => hC9⟩⟩
    | false =>
      refine wl_call 48 [(.tmp 14)] _ [.string x.nm] (.bool false) rfl rfl (fun _ _ => by kernel_rfl) (cB hf1 (may_n x.nm _)) rfl ?_
      intro w2 hq
      replace Q1 := Q1.mo hq
      replace M := M.trans hq
      clear hq
      refine wl_un (fun v => Op.unary .not v) (.tmp 15) (.bool false) (.bool true) (fun _ => rfl) rfl (by kernel_rfl) rfl ?_
      refine wl_mv (.tmp 16) (.bool true) (fun _ => rfl) rfl rfl ?_
      refine w_nil ?_
      refine xn_then ?_
      refine w_condT rfl ?_
      refine w_seq ?_
      refine w_reg ?_
      refine wl_mv (.const (.int .i64 (90))) (.int .i64 (90)) (fun _ => rfl) rfl rfl ?_
      refine w_nil ?_
      refine xn_then ?_
      refine w_ret ?_
      refine xr_blk ?_
      refine xr_then ?_
      exact w_ret1 _ (.int .i64 (90)) rfl rfl ⟨by unfold nsE; rw [if_neg (show ¬ n = 0 by omega), hf1]; first | done | rfl, Mk.of _ M, fun h => absurd ((show (90 : Int) = nsE z.L A n x from by unfold nsE; rw [if_neg (show ¬ n = 0 by omega), hf1]; first | done | rfl).trans h) (by decide)⟩
theorem CK.nocell {w w' : World} {z : Zc} {A : Al} (hC : CK w z A) {j : Nat} (hj : z.D j) (m : Mo w w') (o : Nat) : w'.cell? ⟨j, o, none⟩ = none := by
  have h := hC.mo m
  rcases List.mem_cons.1 hj with e | hk
  · rw [e]; exact h.om.nocell o
  · rcases List.mem_append.1 hk with hk | hk
    · obtain ⟨i, hi⟩ := List.getElem?_of_mem hk; exact (h.oi i j hi).nocell o
    · obtain ⟨i, hi⟩ := List.getElem?_of_mem hk; exact (h.ok i j hi).nocell o
theorem section_n {w : World} {z : Zc} {A : Al} (hC : CK w z A) (n : Nat) (x : S5) (hx : z.L[n]? = some x) (hT : ∀ i, (A.K i).length < 1000000) : Calls Try.prog 51 #[pt z.cb 0, .int .i64 ((n : Nat) : Int), .agg (x.cells).toArray] w fun e w' => e = .returned (.int .i64 (seE z.L A n x)) ∧ Mk z.D w w' ∧ (seE z.L A n x = 0 → (n = 0 → CK w' z A) ∧ (0 < n → CK w' z ⟨A.T, A.I, upF A.K x.pr.toNat ((x.nm, ((n : Nat) : Int)) :: A.K x.pr.toNat)⟩)) := by
  refine w_enter 27 Try.func51 Try.ntmps51 rfl rfl ?_
  have M : Mo w w := Mo.refl _
  refine w_seq ?_
  refine w_reg ?_
  refine wl_box 52 (.tmp 2) (.agg (x.cells).toArray) (((x.cells).toArray)) rfl rfl (fun _ => by kernel_rfl) rfl ?_
  intro k1 w1 hk hz hq Q1
  have N_k1 : w.heap.size ≤ k1 := by have := M.size; omega
  replace M := M.trans hq
  clear hk hz hq
  refine wl_mv (.const (.int .i64 (0))) (.int .i64 (0)) (fun _ => rfl) rfl rfl ?_
  refine w_nil ?_
  refine xn_then ?_
  refine w_seq ?_
  refine w_reg ?_
  refine wl_mv (.tmp 0) (pt z.cb 0) (fun _ => rfl) rfl rfl ?_
  refine wl_mv (.tmp 1) (.int .i64 ((n : Nat) : Int)) (fun _ => rfl) rfl rfl ?_
  refine wl_load 52 (.tmp 5) (pt k1 0) (.agg (x.cells).toArray) rfl rfl (run_row Q1 52 0 5 (x.cells) rfl Try.underlying52 rfl sz52) rfl ?_
  refine wl_callx 66 [(.tmp 8), (.tmp 9), (.tmp 10)] _ [pt z.cb 0, .int .i64 ((n : Nat) : Int), .agg (x.cells).toArray] rfl rfl (fun _ _ => by kernel_rfl) (namesec_n (hC.mo M) n x hx hT) rfl ?_
  rintro e9 w2 ⟨rfl, hK9, hC9⟩
  refine ⟨_, rfl, ?_⟩
  have MK := (Mk.of z.D M).same hK9
  replace Q1 := Q1.kp (hK9.kp (fun j hj => hC.nocell hj M)) hK9.fz
  clear M
  have M : Mo w2 w2 := Mo.refl _
  refine wl_mv (.tmp 11) (.int .i64 (nsE z.L A n x)) (fun _ => rfl) rfl rfl ?_
  refine w_nil ?_
  refine xn_then ?_
  refine w_seq ?_
  refine w_seq ?_
  refine w_reg ?_
  refine wl_mv (.tmp 7) (.int .i64 (nsE z.L A n x)) (fun _ => rfl) rfl rfl ?_
  cases hf0 : decide (nsE z.L A n x = 0) with
  | true =>
    have hf0p := of_decide_eq_true hf0
    refine wl_bin (fun x y => do eqGuard .eql 34 (.tmp 12) (.const (.int .i64 (0))) x y; binOp .eql 34 x y) (.tmp 12) (.const (.int .i64 (0))) (.int .i64 (nsE z.L A n x)) (.int .i64 (0)) (.bool true) (fun _ => rfl) rfl rfl (eq34 hf0 _ _ _) rfl ?_
    refine wl_mv (.tmp 13) (.bool true) (fun _ => rfl) rfl rfl ?_
    refine wl_un (fun v => Instr.fieldAt 52 v 4) (.tmp 5) (pt k1 0) (pt k1 4) (fun _ => rfl) rfl (by kernel_rfl) rfl ?_
    refine wl_load 22 (.tmp 15) (pt k1 4) (.slice x.pi x.items.length x.ci) rfl rfl (run_one Q1 22 4 rfl Try.underlying22 rfl) rfl ?_
    refine wl_val (.int .i64 ((x.items.length : Nat) : Int)) (len22 _ _ _ _ _ (by exact rfl) _ _ _ _ _ _) rfl ?_
    cases hf1 : decide (64 < x.items.length) with
    | true =>
      have hf1p := of_decide_eq_true hf1
      refine wl_bin (fun x y => do eqGuard .gtr 3 (.tmp 17) (.const (.int .i64 (64))) x y; binOp .gtr 3 x y) (.tmp 17) (.const (.int .i64 (64))) (.int .i64 ((x.items.length : Nat) : Int)) (.int .i64 (64)) (.bool true) (fun _ => rfl) rfl rfl (gtN hf1 _ _ _) rfl ?_
      refine wl_mv (.tmp 18) (.bool true) (fun _ => rfl) rfl rfl ?_
      refine wl_skip rfl ?_
      refine wl_skip rfl ?_
      refine wl_skip rfl ?_
      refine wl_skip rfl ?_
      refine wl_pick (.tmp 19) (.const (.bool true)) (.tmp 23) true (.bool true) (fun _ => rfl) rfl rfl rfl ?_
      refine wl_pick (.tmp 14) (.tmp 24) (.const (.bool false)) true (.bool true) (fun _ => rfl) rfl rfl rfl ?_
      refine w_nil ?_
      refine xn_then ?_
      refine w_condT rfl ?_
      refine w_seq ?_
      refine w_reg ?_
      refine wl_mv (.const (.int .i64 (92))) (.int .i64 (92)) (fun _ => rfl) rfl rfl ?_
      refine w_nil ?_
      refine xn_then ?_
      refine w_ret ?_
      refine xr_then ?_
      exact w_ret1 _ (.int .i64 (92)) rfl rfl ⟨by unfold seE; rw [if_pos hf0p, hf1]; first | done | rfl, MK.trans M, fun h => absurd ((show (92 : Int) = seE z.L A n x from by unfold seE; rw [if_pos hf0p, hf1]; first | done | rfl).trans h) (by decide)⟩
    | false =>
      have hf1p := of_decide_eq_false hf1
      refine wl_bin (fun x y => do eqGuard .gtr 3 (.tmp 17) (.const (.int .i64 (64))) x y; binOp .gtr 3 x y) (.tmp 17) (.const (.int .i64 (64))) (.int .i64 ((x.items.length : Nat) : Int)) (.int .i64 (64)) (.bool false) (fun _ => rfl) rfl rfl (gtN hf1 _ _ _) rfl ?_
      refine wl_mv (.tmp 18) (.bool false) (fun _ => rfl) rfl rfl ?_
      refine wl_mv (.tmp 1) (.int .i64 ((n : Nat) : Int)) (fun _ => rfl) rfl rfl ?_
      refine wl_load 52 (.tmp 5) (pt k1 0) (.agg (x.cells).toArray) rfl rfl (run_row Q1 52 0 5 (x.cells) rfl Try.underlying52 rfl sz52) rfl ?_
      cases hf2 : rmE n x with
      | true =>
        refine wl_call 67 [(.tmp 20), (.tmp 21)] _ [.int .i64 ((n : Nat) : Int), .agg (x.cells).toArray] (.bool true) rfl rfl (fun _ _ => by kernel_rfl) (cB hf2 (room_n n x _)) rfl ?_
        intro w3 hq
        replace Q1 := Q1.mo hq
        replace M := M.trans hq
        clear hq
        refine wl_un (fun v => Op.unary .not v) (.tmp 22) (.bool true) (.bool false) (fun _ => rfl) rfl (by kernel_rfl) rfl ?_
        refine wl_pick (.tmp 19) (.const (.bool true)) (.tmp 23) false (.bool false) (fun _ => rfl) rfl rfl rfl ?_
        refine wl_pick (.tmp 14) (.tmp 24) (.const (.bool false)) true (.bool false) (fun _ => rfl) rfl rfl rfl ?_
        refine w_nil ?_
        refine xn_then ?_
        refine w_condF rfl ?_
        refine w_skip ?_
        refine xn_then ?_
        refine w_seq ?_
        refine w_reg ?_
        refine wl_mv (.tmp 7) (.int .i64 (nsE z.L A n x)) (fun _ => rfl) rfl rfl ?_
        refine wl_mv (.tmp 26) (.int .i64 (nsE z.L A n x)) (fun _ => rfl) rfl rfl ?_
        refine w_nil ?_
        refine xn_then ?_
        refine w_ret ?_
        exact w_ret1 _ (.int .i64 (nsE z.L A n x)) rfl rfl ⟨by unfold seE; rw [if_pos hf0p, hf1, hf2, hf0p]; rfl, MK.trans M, fun _ => ⟨fun h => ((hC9 hf0p).1 h).mo M, fun h => ((hC9 hf0p).2 h).mo M⟩⟩
      | false =>
        refine wl_call 67 [(.tmp 20), (.tmp 21)] _ [.int .i64 ((n : Nat) : Int), .agg (x.cells).toArray] (.bool false) rfl rfl (fun _ _ => by kernel_rfl) (cB hf2 (room_n n x _)) rfl ?_
        intro w3 hq
        replace Q1 := Q1.mo hq
        replace M := M.trans hq
        clear hq
        refine wl_un (fun v => Op.unary .not v) (.tmp 22) (.bool false) (.bool true) (fun _ => rfl) rfl (by kernel_rfl) rfl ?_
        refine wl_pick (.tmp 19) (.const (.bool true)) (.tmp 23) false (.bool true) (fun _ => rfl) rfl rfl rfl ?_
        refine wl_pick (.tmp 14) (.tmp 24) (.const (.bool false)) true (.bool true) (fun _ => rfl) rfl rfl rfl ?_
        refine w_nil ?_
        refine xn_then ?_
        refine w_condT rfl ?_
        refine w_seq ?_
        refine w_reg ?_
        refine wl_mv (.const (.int .i64 (92))) (.int .i64 (92)) (fun _ => rfl) rfl rfl ?_
        refine w_nil ?_
        refine xn_then ?_
        refine w_ret ?_
        refine xr_then ?_
        exact w_ret1 _ (.int .i64 (92)) rfl rfl ⟨by unfold seE; rw [if_pos hf0p, hf1, hf2]; first | done | rfl, MK.trans M, fun h => absurd ((show (92 : Int) = seE z.L A n x from by unfold seE; rw [if_pos hf0p, hf1, hf2]; first | done | rfl).trans h) (by decide)⟩
  | false =>
    have hf0p := of_decide_eq_false hf0
    refine wl_bin (fun x y => do eqGuard .eql 34 (.tmp 12) (.const (.int .i64 (0))) x y; binOp .eql 34 x y) (.tmp 12) (.const (.int .i64 (0))) (.int .i64 (nsE z.L A n x)) (.int .i64 (0)) (.bool false) (fun _ => rfl) rfl rfl (eq34 hf0 _ _ _) rfl ?_
    refine wl_mv (.tmp 13) (.bool false) (fun _ => rfl) rfl rfl ?_
    refine wl_skip rfl ?_
    refine wl_skip rfl ?_
    refine wl_skip rfl ?_
    refine wl_skip rfl ?_
    refine wl_skip rfl ?_
    refine wl_skip rfl ?_
    refine wl_skip rfl ?_
    refine wl_skip rfl ?_
    refine wl_skip rfl ?_
    refine wl_skip rfl ?_
    refine wl_pick (.tmp 14) (.tmp 24) (.const (.bool false)) false (.bool false) (fun _ => rfl) rfl rfl rfl ?_
    refine w_nil ?_
    refine xn_then ?_
    refine w_condF rfl ?_
    refine w_skip ?_
    refine xn_then ?_
    refine w_seq ?_
    refine w_reg ?_
    refine wl_mv (.tmp 7) (.int .i64 (nsE z.L A n x)) (fun _ => rfl) rfl rfl ?_
    refine wl_mv (.tmp 26) (.int .i64 (nsE z.L A n x)) (fun _ => rfl) rfl rfl ?_
    refine w_nil ?_
    refine xn_then ?_
    refine w_ret ?_
    exact w_ret1 _ (.int .i64 (nsE z.L A n x)) rfl rfl ⟨by unfold seE; rw [if_neg hf0p]; first | done | rfl, MK.trans M, fun h => absurd (by unfold seE at h; rw [if_neg hf0p] at h; exact h) hf0p⟩
theorem tkn_self {L : List S5} {I : Nat → List (ByteArray × Int)} {n : Nat} {nm : ByteArray} (h : tkn L I n nm = false) : lk (I n) nm = none := by
  unfold tkn at h
  rw [anc, List.any_cons] at h
  simp only [Bool.or_eq_false_iff] at h
  exact isn h.1.2
theorem item_n {w : World} {z : Zc} {A : Al} (hC : CK w z A) (n : Nat) (hn : n < z.L.length) (y : It) (hT : (A.I n).length < 1000000) : Calls Try.prog 52 #[pt z.cb 0, .int .i64 ((n : Nat) : Int), .agg (y.cells).toArray] w fun e w' => e = .returned (.int .i64 (itE z.L A.I n y)) ∧ Mk z.D w w' ∧ (itE z.L A.I n y = 0 → CK w' z ⟨A.T, upF A.I n ((y.nm, y.k) :: A.I n), A.K⟩) := by
  have hnm : n < z.MI.length := by rw [hC.lm]; exact hn
  obtain ⟨ib, hib⟩ := get_of_lt hnm
  have hIo := hC.oi n ib hib
  obtain ⟨b1, o1, hp1, hR1⟩ := D.SL.rw hC.mi hib
  refine w_enter 29 Try.func52 Try.ntmps52 rfl rfl ?_
  have M : Mo w w := Mo.refl _
  refine w_seq ?_
  refine w_reg ?_
  refine wl_box 66 (.tmp 2) (.agg (y.cells).toArray) (((y.cells).toArray)) rfl rfl (fun _ => by kernel_rfl) rfl ?_
  intro k1 w1 hk hz hq Q1
  have N_k1 : w.heap.size ≤ k1 := by have := M.size; omega
  replace M := M.trans hq
  clear hk hz hq
  refine wl_mv (.const (.int .i64 (0))) (.int .i64 (0)) (fun _ => rfl) rfl rfl ?_
  refine w_nil ?_
  refine xn_then ?_
  refine w_seq ?_
  refine w_block ?_
  refine w_seq ?_
  refine w_reg ?_
  refine wl_un (fun v => Instr.fieldAt 66 v 0) (.tmp 5) (pt k1 0) (pt k1 0) (fun _ => rfl) rfl (by kernel_rfl) rfl ?_
  refine wl_load 9 (.tmp 8) (pt k1 0) (.string y.nm) rfl rfl (run_one Q1 9 0 rfl Try.underlying9 rfl) rfl ?_
  cases hf0 : may y.nm with
  | true =>
    refine wl_call 48 [(.tmp 9)] _ [.string y.nm] (.bool true) rfl rfl (fun _ _ => by kernel_rfl) (cB hf0 (may_n y.nm _)) rfl ?_
    intro w2 hq
    replace Q1 := Q1.mo hq
    replace M := M.trans hq
    clear hq
    refine wl_un (fun v => Op.unary .not v) (.tmp 10) (.bool true) (.bool false) (fun _ => rfl) rfl (by kernel_rfl) rfl ?_
    refine wl_mv (.tmp 11) (.bool false) (fun _ => rfl) rfl rfl ?_
    refine w_nil ?_
    refine xn_then ?_
    refine w_condF rfl ?_
    refine w_seq ?_
    refine w_reg ?_
    refine wl_mv (.tmp 0) (pt z.cb 0) (fun _ => rfl) rfl rfl ?_
    refine wl_mv (.tmp 1) (.int .i64 ((n : Nat) : Int)) (fun _ => rfl) rfl rfl ?_
    refine wl_un (fun v => Instr.fieldAt 66 v 0) (.tmp 5) (pt k1 0) (pt k1 0) (fun _ => rfl) rfl (by kernel_rfl) rfl ?_
    refine wl_load 9 (.tmp 15) (pt k1 0) (.string y.nm) rfl rfl (run_one Q1 9 0 rfl Try.underlying9 rfl) rfl ?_
    cases hf1 : tkn z.L A.I n y.nm with
    | true =>
      refine wl_call 68 [(.tmp 13), (.tmp 14), (.tmp 16)] _ [pt z.cb 0, .int .i64 ((n : Nat) : Int), .string y.nm] (.bool true) rfl rfl (fun _ _ => by kernel_rfl) (cB hf1 (taken_n (hC.mo M) n hn y.nm (Nat.le_trans (may_sz hf0) (by decide)))) rfl ?_
      intro w3 hq
      replace Q1 := Q1.mo hq
      replace M := M.trans hq
      clear hq
      refine wl_mv (.tmp 17) (.bool true) (fun _ => rfl) rfl rfl ?_
      refine w_nil ?_
      refine xn_then ?_
      refine w_condT rfl ?_
      refine w_seq ?_
      refine w_reg ?_
      refine wl_mv (.const (.int .i64 (5))) (.int .i64 (5)) (fun _ => rfl) rfl rfl ?_
      refine w_nil ?_
      refine xn_then ?_
      refine w_ret ?_
      refine xr_blk ?_
      refine xr_then ?_
      exact w_ret1 _ (.int .i64 (5)) rfl rfl ⟨by unfold itE; rw [hf0, hf1]; first | done | rfl, Mk.of _ M, fun h => absurd ((show (5 : Int) = itE z.L A.I n y from by unfold itE; rw [hf0, hf1]; first | done | rfl).trans h) (by decide)⟩
    | false =>
      refine wl_call 68 [(.tmp 13), (.tmp 14), (.tmp 16)] _ [pt z.cb 0, .int .i64 ((n : Nat) : Int), .string y.nm] (.bool false) rfl rfl (fun _ _ => by kernel_rfl) (cB hf1 (taken_n (hC.mo M) n hn y.nm (Nat.le_trans (may_sz hf0) (by decide)))) rfl ?_
      intro w3 hq
      replace Q1 := Q1.mo hq
      replace M := M.trans hq
      clear hq
      refine wl_mv (.tmp 17) (.bool false) (fun _ => rfl) rfl rfl ?_
      refine w_nil ?_
      refine xn_then ?_
      refine w_condF rfl ?_
      refine w_skip ?_
      refine xn_blk ?_
      refine xn_then ?_
      refine w_seq ?_
      refine w_any 11 [.inl (pt z.cb 0), .inl (pt z.cb 0), .inl (pt z.cb 9), .inl (.slice z.ip z.MI.length z.ic), .inl (.int .i64 ((n : Nat) : Int)), .inl (pt b1 (o1 + n * 1)), .inl (.map (some ib)), .inl (pt k1 0), .inl (.string y.nm), .inl (pt k1 1), .inl (.int .i64 (y.k))] [] (by kernel_rfl) (by kernel_rfl) (by kernel_rfl) (by kernel_rfl) rfl (by kernel_rfl) (by kernel_rfl) late_nil ?_ ?_ ?_
      · exact Ds.none rfl
      · refine ea_cons ?_ (ea_cons ?_ (ea_cons ?_ (ea_cons ?_ (ea_cons ?_ (ea_cons ?_ (ea_cons ?_ (ea_cons ?_ (ea_cons ?_ (ea_cons ?_ (ea_cons ?_ (ea_nil)))))))))))
        · exact og_eq (pt z.cb 0) rfl (fun f wf hq hd K hK => go_run rfl (wo_mv (.tmp 0) (pt z.cb 0) (fun _ => rfl) rfl (hK _ (Mo.refl _))))
        · exact og_eq (pt z.cb 0) rfl (fun f wf hq hd K hK => go_run rfl (wo_nc (.tmp 18) z.cb 0 rfl (hd 0 rfl) (hK _ (Mo.refl _))))
        · exact og_eq (pt z.cb 9) rfl (fun f wf hq hd K hK => go_run rfl (wo_un (fun v => Instr.fieldAt 94 v 3) (.tmp 19) (pt z.cb 0) (pt z.cb 9) (fun _ => rfl) (hd 1 rfl) (by kernel_rfl) (hK _ (Mo.refl _))))
        · exact og_eq (.slice z.ip z.MI.length z.ic) rfl (fun f wf hq hd K hK => go_run rfl (wo_load 92 (.tmp 20) (pt z.cb 9) (.slice z.ip z.MI.length z.ic) rfl (hd 2 rfl) (D.run_oneR (hC.rw.mo (M.trans hq)).at' 92 9 rfl Try.underlying92 rfl) (hK _ (Mo.refl _))))
        · exact og_eq (.int .i64 ((n : Nat) : Int)) rfl (fun f wf hq hd K hK => go_run rfl (wo_mv (.tmp 1) (.int .i64 ((n : Nat) : Int)) (fun _ => rfl) rfl (hK _ (Mo.refl _))))
        · exact og_eq (pt b1 (o1 + n * 1)) rfl (fun f wf hq hd K hK => go_run rfl (wo_bin (fun x y => Instr.indexAt 92 x y) (.tmp 21) (.tmp 22) (.slice z.ip z.MI.length z.ic) (.int .i64 ((n : Nat) : Int)) (pt b1 (o1 + n * 1)) (fun _ => rfl) (hd 3 rfl) (hd 4 rfl) (ix92 (i := n) hp1 hnm _) (hK _ (Mo.refl _))))
        · exact og_eq (.map (some ib)) rfl (fun f wf hq hd K hK => go_run rfl (wo_load 91 (.tmp 23) (pt b1 (o1 + n * 1)) (.map (some ib)) rfl (hd 5 rfl) (D.run_oneR (hR1.mo (M.trans hq)).at' 91 0 rfl Try.underlying91 rfl) (hK _ (Mo.refl _))))
        · exact og_eq (pt k1 0) rfl (fun f wf hq hd K hK => go_run rfl (wo_un (fun v => Instr.fieldAt 66 v 0) (.tmp 5) (pt k1 0) (pt k1 0) (fun _ => rfl) rfl (by kernel_rfl) (hK _ (Mo.refl _))))
        · exact og_eq (.string y.nm) rfl (fun f wf hq hd K hK => have Q1 := Q1.mo hq; go_run rfl (wo_load 9 (.tmp 25) (pt k1 0) (.string y.nm) rfl (hd 7 rfl) (run_one Q1 9 0 rfl Try.underlying9 rfl) (hK _ (Mo.refl _))))
        · exact og_eq (pt k1 1) rfl (fun f wf hq hd K hK => go_run rfl (wo_un (fun v => Instr.fieldAt 66 v 1) (.tmp 5) (pt k1 0) (pt k1 1) (fun _ => rfl) rfl (by kernel_rfl) (hK _ (Mo.refl _))))
        · exact og_eq (.int .i64 (y.k)) rfl (fun f wf hq hd K hK => have Q1 := Q1.mo hq; go_run rfl (wo_load 3 (.tmp 27) (pt k1 1) (.int .i64 (y.k)) rfl (hd 9 rfl) (run_one Q1 3 1 rfl Try.underlying3 rfl) (hK _ (Mo.refl _))))
      intro kf4 w4 hq hR hne
      replace Q1 := Q1.mo hq
      replace M := M.trans hq
      clear hq hR hne
      refine wl_mup (.tmp 24) (.tmp 26) (.tmp 28) ib y.nm (y.k) (hIo.mo M) hT (Nat.le_trans (may_sz hf0) (by decide)) (tkn_self hf1) rfl rfl rfl rfl rfl rfl ?_
      intro w5 hO9 hK9
      have hC9 := (hC.mo M).putI hib hO9 hK9
      have MK := (Mk.of z.D M).tr hK9 (fun j _ e => by rw [e]; exact (Zc.di hib))
      refine w_nil ?_
      refine xn_then ?_
      refine w_seq ?_
      refine w_reg ?_
      refine wl_mv (.const (.int .i64 (0))) (.int .i64 (0)) (fun _ => rfl) rfl rfl ?_
      refine w_nil ?_
      refine xn_then ?_
      refine w_ret ?_
      exact w_ret1 _ (.int .i64 (0)) rfl rfl ⟨by unfold itE; rw [hf0, hf1]; first | done | rfl, MK, fun _ => hC9⟩
  | false =>
    refine wl_call 48 [(.tmp 9)] _ [.string y.nm] (.bool false) rfl rfl (fun _ _ => by kernel_rfl) (cB hf0 (may_n y.nm _)) rfl ?_
    intro w2 hq
    replace Q1 := Q1.mo hq
    replace M := M.trans hq
    clear hq
    refine wl_un (fun v => Op.unary .not v) (.tmp 10) (.bool false) (.bool true) (fun _ => rfl) rfl (by kernel_rfl) rfl ?_
    refine wl_mv (.tmp 11) (.bool true) (fun _ => rfl) rfl rfl ?_
    refine w_nil ?_
    refine xn_then ?_
    refine w_condT rfl ?_
    refine w_seq ?_
    refine w_reg ?_
    refine wl_mv (.const (.int .i64 (90))) (.int .i64 (90)) (fun _ => rfl) rfl rfl ?_
    refine w_nil ?_
    refine xn_then ?_
    refine w_ret ?_
    refine xr_blk ?_
    refine xr_then ?_
    exact w_ret1 _ (.int .i64 (90)) rfl rfl ⟨by unfold itE; rw [hf0]; first | done | rfl, Mk.of _ M, fun h => absurd ((show (90 : Int) = itE z.L A.I n y from by unfold itE; rw [hf0]; first | done | rfl).trans h) (by decide)⟩
end Go.Proofs.Ytbanldffohopiaa
