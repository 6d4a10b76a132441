/-
  The document's side: unknown, stands, page.
-/
import Derived.Test.YtbanldffohopiaaR6
namespace Go.Proofs.Ytbanldffohopiaa
open Go.RowKit D
theorem unknown_n {d : Df} {L : List S5} {pa : Option Addr} {c : Nat} (hz : L.length ≤ 64) (hw : Wf L) (s : Nat) (hs : s < L.length) : ∀ (x : Ex) {w : World}, LDf w d → LEx w x → SL w 5 S5.cells pa L → (∀ x ∈ L, LS5 w x) → Calls Try.prog 39 #[.agg (d.cells).toArray, .slice pa L.length c, .int .i64 ((s : Nat) : Int), .agg (x.cells).toArray] w fun e w' => e = .returned (.bool (lck (knoR d L s) x)) ∧ Mo w w' := by
  refine Ex.ind2 ?_
  intro x ih w hD hL hS h5
  refine w_enter 91 Try.func39 Try.ntmps39 rfl rfl ?_
  have M : Mo w w := Mo.refl _
  refine w_seq ?_
  refine w_reg ?_
  refine wl_box 29 (.tmp 0) (.agg (d.cells).toArray) (((d.cells).toArray)) rfl rfl (fun _ => by kernel_rfl) rfl ?_
  intro k1 u1 hk hz hq Q1
  have N_k1 : w.heap.size ≤ k1 := by have := M.size; omega
  replace M := M.trans hq
  clear hk hz hq
  refine wl_box 64 (.tmp 3) (.agg (x.cells).toArray) (((x.cells).toArray)) rfl rfl (fun _ => by kernel_rfl) rfl ?_
  intro k2 u2 hk hz hq Q2
  have ne_k1_k2 : k1 ≠ k2 := by have := Q1.lt; omega
  have N_k2 : w.heap.size ≤ k2 := by have := M.size; omega
  replace Q1 := Q1.mo hq
  replace M := M.trans hq
  clear hk hz hq
  refine wl_mv (.const (.bool false)) (.bool false) (fun _ => rfl) rfl rfl ?_
  refine w_nil ?_
  refine xn_then ?_
  refine w_seq ?_
  refine w_seq ?_
  refine w_reg ?_
  refine wl_un (fun v => Instr.fieldAt 64 v 0) (.tmp 7) (pt k2 0) (pt k2 0) (fun _ => rfl) rfl (by kernel_rfl) rfl ?_
  refine wl_load 3 (.tmp 19) (pt k2 0) (.int .i64 (x.k)) rfl rfl (run_one Q2 3 0 rfl Try.underlying3 rfl) rfl ?_
  refine w_nil ?_
  refine xn_then ?_
  refine w_block ?_
  refine w_seq ?_
  refine w_reg ?_
  cases hf0 : decide (x.k = 2) with
  | true =>
    have hf0p := of_decide_eq_true hf0
    refine wl_bin (fun x y => do eqGuard .eql 3 (.tmp 20) (.const (.int .i64 (2))) x y; binOp .eql 3 x y) (.tmp 20) (.const (.int .i64 (2))) (.int .i64 (x.k)) (.int .i64 (2)) (.bool true) (fun _ => rfl) rfl rfl (eq3 hf0 _ _ _) rfl ?_
    refine wl_mv (.tmp 22) (.bool true) (fun _ => rfl) rfl rfl ?_
    refine w_nil ?_
    refine xn_then ?_
    refine w_condT rfl ?_
    refine w_seq ?_
    refine w_reg ?_
    refine wl_mv (.tmp 1) (.slice pa L.length c) (fun _ => rfl) rfl rfl ?_
    refine wl_mv (.tmp 2) (.int .i64 ((s : Nat) : Int)) (fun _ => rfl) rfl rfl ?_
    refine wl_un (fun v => Instr.fieldAt 64 v 2) (.tmp 7) (pt k2 0) (pt k2 2) (fun _ => rfl) rfl (by kernel_rfl) rfl ?_
    refine wl_load 9 (.tmp 26) (pt k2 2) (.string x.nm) rfl rfl (run_one Q2 9 2 rfl Try.underlying9 rfl) rfl ?_
    cases hf1 : rfd L s x.nm with
    | true =>
      refine wl_callx 13 [(.tmp 24), (.tmp 25), (.tmp 27)] _ [.slice pa L.length c, .int .i64 ((s : Nat) : Int), .string x.nm] rfl rfl (fun _ _ => by kernel_rfl) (by have h := find_n (c := c) (hS.kp M.kp) (fun y hy => (h5 y hy).kp M.kp) hw s hs x.nm; rw [hf1] at h; exact h) rfl ?_
      rintro e9 u3 ⟨a9, b9, rfl, hq⟩
      refine ⟨_, rfl, ?_⟩
      replace Q1 := Q1.mo hq
      replace Q2 := Q2.mo hq
      replace M := M.trans hq
      clear hq
      refine wl_mv (.tmp 28) (.tuple #[.int .i64 (a9), .int .i64 (b9), .bool true]) (fun _ => rfl) rfl rfl ?_
      refine wl_un (fun v => Instr.extract v 0) (.tmp 23) (.tuple #[.int .i64 (a9), .int .i64 (b9), .bool true]) (.int .i64 (a9)) (fun _ => rfl) rfl (by kernel_rfl) rfl ?_
      refine wl_un (fun v => Instr.extract v 1) (.tmp 23) (.tuple #[.int .i64 (a9), .int .i64 (b9), .bool true]) (.int .i64 (b9)) (fun _ => rfl) rfl (by kernel_rfl) rfl ?_
      refine wl_un (fun v => Instr.extract v 2) (.tmp 23) (.tuple #[.int .i64 (a9), .int .i64 (b9), .bool true]) (.bool true) (fun _ => rfl) rfl (by kernel_rfl) rfl ?_
      refine wl_mv (.tmp 29) (.int .i64 (a9)) (fun _ => rfl) rfl rfl ?_
      refine wl_mv (.tmp 30) (.int .i64 (b9)) (fun _ => rfl) rfl rfl ?_
      refine wl_mv (.tmp 31) (.bool true) (fun _ => rfl) rfl rfl ?_
      refine w_nil ?_
      refine xn_then ?_
      refine w_seq ?_
      refine w_reg ?_
      refine wl_mv (.tmp 11) (.bool true) (fun _ => rfl) rfl rfl ?_
      refine wl_un (fun v => Op.unary .not v) (.tmp 32) (.bool true) (.bool false) (fun _ => rfl) rfl (by kernel_rfl) rfl ?_
      refine w_nil ?_
      refine xn_then ?_
      refine w_condF rfl ?_
      refine w_skip ?_
      refine xn_blk ?_
      refine xn_then ?_
      refine w_seq ?_
      refine w_seq ?_
      refine w_reg ?_
      refine wl_mv (.const (.int .i64 (0))) (.int .i64 (0)) (fun _ => rfl) rfl rfl ?_
      refine w_nil ?_
      refine xn_then ?_
      refine w_block ?_
      have hkn : knoR d L s x = true := by unfold knoR; rw [if_pos hf0p, hf1]
      have hza := hL.sl.1
      unfold maxLen at hza
      refine w_loop (fun m l w1 => ∃ i : Nat, m = x.args.length - i ∧ i ≤ x.args.length ∧ look l 1 = .slice pa L.length c ∧ look l 2 = .int .i64 ((s : Nat) : Int) ∧ look l 4 = pt k1 0 ∧ look l 7 = pt k2 0 ∧ look l 18 = .int .i64 ((i : Nat) : Int) ∧ At w1 k1 (d.cells) ∧ At w1 k2 (x.cells) ∧ ((x.args.take i).any (lck (knoR d L s)) = false) ∧ Mo w w1) _ ⟨0, rfl, Nat.zero_le _, rfl, rfl, rfl, rfl, rfl, Q1, Q2, rfl, M⟩ ?_
      clear Q1 Q2 M
      rintro m l40 wl40 ⟨i, rfl, hi, e40_1, e40_2, e40_4, e40_7, e40_i, Q1, Q2, hT, M⟩
      by_cases hil : i < x.args.length
      · skip
        have hid : decide (i < x.args.length) = true := decide_eq_true hil
        obtain ⟨a, hx⟩ := get_of_lt hil
        have hma := List.mem_of_getElem? hx
        obtain ⟨bp, op, hpp, hRp⟩ := D.SL.rw hL.sl hx
        refine w_seq ?_
        refine w_seq ?_
        refine w_reg ?_
        refine wl_mv (.tmp 18) (.int .i64 ((i : Nat) : Int)) (fun _ => rfl) e40_i rfl ?_
        refine wl_un (fun v => Instr.fieldAt 64 v 7) (.tmp 7) (pt k2 0) (pt k2 16) (fun _ => rfl) e40_7 (by kernel_rfl) rfl ?_
        refine wl_load 62 (.tmp 76) (pt k2 16) (.slice x.pa x.args.length x.cap) rfl rfl (run_one Q2 62 16 rfl Try.underlying62 rfl) rfl ?_
        refine wl_val (.int .i64 ((x.args.length : Nat) : Int)) (len62 _ _ _ _ _ (by exact rfl) _ _ _ _ _ _) rfl ?_
        refine wl_bin (fun x y => do eqGuard .lss 3 (.tmp 75) (.tmp 78) x y; binOp .lss 3 x y) (.tmp 75) (.tmp 78) (.int .i64 ((i : Nat) : Int)) (.int .i64 ((x.args.length : Nat) : Int)) (.bool true) (fun _ => rfl) rfl rfl (ltN hid _ _ _) rfl ?_
        refine w_nil ?_
        refine xn_then ?_
        refine w_condT rfl ?_
        refine w_skip ?_
        refine xn_then ?_
        refine w_seq ?_
        refine w_block ?_
        refine w_seq ?_
        cases hf30 : lck (knoR d L s) a with
        | true =>
          refine w_any 8 [.inl (.agg (d.cells).toArray), .inl (.slice pa L.length c), .inl (.int .i64 ((s : Nat) : Int)), .inl (pt k2 16), .inl (.slice x.pa x.args.length x.cap), .inl (.int .i64 ((i : Nat) : Int)), .inl (pt bp (op + i * 17)), .inl (.agg (a.cells).toArray)] [] (by kernel_rfl) (by kernel_rfl) (by kernel_rfl) (by kernel_rfl) rfl (by kernel_rfl) (by kernel_rfl) late_nil ?_ ?_ ?_
          · exact Ds.none rfl
          · refine ea_cons ?_ (ea_cons ?_ (ea_cons ?_ (ea_cons ?_ (ea_cons ?_ (ea_cons ?_ (ea_cons ?_ (ea_cons ?_ (ea_nil))))))))
            · exact og_eq (.agg (d.cells).toArray) rfl (fun f wf hq hd K hK => have Q1 := Q1.mo hq; go_run rfl (wo_load 29 (.tmp 4) (pt k1 0) (.agg (d.cells).toArray) rfl e40_4 (run_row Q1 29 0 7 (d.cells) rfl Try.underlying29 rfl sz29) (hK _ (Mo.refl _))))
            · exact og_eq (.slice pa L.length c) rfl (fun f wf hq hd K hK => go_run rfl (wo_mv (.tmp 1) (.slice pa L.length c) (fun _ => rfl) e40_1 (hK _ (Mo.refl _))))
            · exact og_eq (.int .i64 ((s : Nat) : Int)) rfl (fun f wf hq hd K hK => go_run rfl (wo_mv (.tmp 2) (.int .i64 ((s : Nat) : Int)) (fun _ => rfl) e40_2 (hK _ (Mo.refl _))))
            · exact og_eq (pt k2 16) rfl (fun f wf hq hd K hK => go_run rfl (wo_un (fun v => Instr.fieldAt 64 v 7) (.tmp 7) (pt k2 0) (pt k2 16) (fun _ => rfl) e40_7 (by kernel_rfl) (hK _ (Mo.refl _))))
            · exact og_eq (.slice x.pa x.args.length x.cap) rfl (fun f wf hq hd K hK => have Q2 := Q2.mo hq; go_run rfl (wo_load 62 (.tmp 85) (pt k2 16) (.slice x.pa x.args.length x.cap) rfl (hd 3 rfl) (run_one Q2 62 16 rfl Try.underlying62 rfl) (hK _ (Mo.refl _))))
            · exact og_eq (.int .i64 ((i : Nat) : Int)) rfl (fun f wf hq hd K hK => go_run rfl (wo_mv (.tmp 18) (.int .i64 ((i : Nat) : Int)) (fun _ => rfl) e40_i (hK _ (Mo.refl _))))
            · exact og_eq (pt bp (op + i * 17)) rfl (fun f wf hq hd K hK => go_run rfl (wo_bin (fun x y => Instr.indexAt 62 x y) (.tmp 86) (.tmp 87) (.slice x.pa x.args.length x.cap) (.int .i64 ((i : Nat) : Int)) (pt bp (op + i * 17)) (fun _ => rfl) (hd 4 rfl) (hd 5 rfl) (ix62 (i := i) hpp hil _) (hK _ (Mo.refl _))))
            · exact og_eq (.agg (a.cells).toArray) rfl (fun f wf hq hd K hK => go_run rfl (wo_load 64 (.tmp 88) (pt bp (op + i * 17)) (.agg (a.cells).toArray) rfl (hd 6 rfl) (D.run_partR (hRp.mo (M.trans hq)).at' 64 0 17 (a.cells) rfl Try.underlying64 rfl sz64) (hK _ (Mo.refl _))))
          intro kf41 u41 hq hR hne
          replace Q1 := Q1.mo hq
          replace Q2 := Q2.mo hq
          replace M := M.trans hq
          clear hq hR hne
          refine wl_call 39 [(.tmp 82), (.tmp 83), (.tmp 84), (.tmp 89)] _ [.agg (d.cells).toArray, .slice pa L.length c, .int .i64 ((s : Nat) : Int), .agg (a.cells).toArray] (.bool true) rfl rfl (fun _ _ => by kernel_rfl) (cB hf30 (ih a hma (hD.kp M.kp) ((hL.ar a hma).kp M.kp) (hS.kp M.kp) (fun y hy => (h5 y hy).kp M.kp))) rfl ?_
          intro u42 hq
          replace Q1 := Q1.mo hq
          replace Q2 := Q2.mo hq
          replace M := M.trans hq
          clear hq
          refine w_nil ?_
          refine xn_then ?_
          refine w_condT rfl ?_
          refine w_seq ?_
          refine w_reg ?_
          refine wl_mv (.const (.bool true)) (.bool true) (fun _ => rfl) rfl rfl ?_
          refine w_nil ?_
          refine xn_then ?_
          refine w_ret ?_
          refine xr_blk ?_
          refine xr_then ?_
          refine xr_then ?_
          refine xr_blk ?_
          refine xr_then ?_
          exact w_ret1 _ (.bool true) rfl rfl ⟨by rw [lck_eq, hkn, any_hit hx hf30]; rfl, M⟩
        | false =>
          refine w_any 8 [.inl (.agg (d.cells).toArray), .inl (.slice pa L.length c), .inl (.int .i64 ((s : Nat) : Int)), .inl (pt k2 16), .inl (.slice x.pa x.args.length x.cap), .inl (.int .i64 ((i : Nat) : Int)), .inl (pt bp (op + i * 17)), .inl (.agg (a.cells).toArray)] [] (by kernel_rfl) (by kernel_rfl) (by kernel_rfl) (by kernel_rfl) rfl (by kernel_rfl) (by kernel_rfl) late_nil ?_ ?_ ?_
          · exact Ds.none rfl
          · refine ea_cons ?_ (ea_cons ?_ (ea_cons ?_ (ea_cons ?_ (ea_cons ?_ (ea_cons ?_ (ea_cons ?_ (ea_cons ?_ (ea_nil))))))))
            · exact og_eq (.agg (d.cells).toArray) rfl (fun f wf hq hd K hK => have Q1 := Q1.mo hq; go_run rfl (wo_load 29 (.tmp 4) (pt k1 0) (.agg (d.cells).toArray) rfl e40_4 (run_row Q1 29 0 7 (d.cells) rfl Try.underlying29 rfl sz29) (hK _ (Mo.refl _))))
            · exact og_eq (.slice pa L.length c) rfl (fun f wf hq hd K hK => go_run rfl (wo_mv (.tmp 1) (.slice pa L.length c) (fun _ => rfl) e40_1 (hK _ (Mo.refl _))))
            · exact og_eq (.int .i64 ((s : Nat) : Int)) rfl (fun f wf hq hd K hK => go_run rfl (wo_mv (.tmp 2) (.int .i64 ((s : Nat) : Int)) (fun _ => rfl) e40_2 (hK _ (Mo.refl _))))
            · exact og_eq (pt k2 16) rfl (fun f wf hq hd K hK => go_run rfl (wo_un (fun v => Instr.fieldAt 64 v 7) (.tmp 7) (pt k2 0) (pt k2 16) (fun _ => rfl) e40_7 (by kernel_rfl) (hK _ (Mo.refl _))))
            · exact og_eq (.slice x.pa x.args.length x.cap) rfl (fun f wf hq hd K hK => have Q2 := Q2.mo hq; go_run rfl (wo_load 62 (.tmp 85) (pt k2 16) (.slice x.pa x.args.length x.cap) rfl (hd 3 rfl) (run_one Q2 62 16 rfl Try.underlying62 rfl) (hK _ (Mo.refl _))))
            · exact og_eq (.int .i64 ((i : Nat) : Int)) rfl (fun f wf hq hd K hK => go_run rfl (wo_mv (.tmp 18) (.int .i64 ((i : Nat) : Int)) (fun _ => rfl) e40_i (hK _ (Mo.refl _))))
            · exact og_eq (pt bp (op + i * 17)) rfl (fun f wf hq hd K hK => go_run rfl (wo_bin (fun x y => Instr.indexAt 62 x y) (.tmp 86) (.tmp 87) (.slice x.pa x.args.length x.cap) (.int .i64 ((i : Nat) : Int)) (pt bp (op + i * 17)) (fun _ => rfl) (hd 4 rfl) (hd 5 rfl) (ix62 (i := i) hpp hil _) (hK _ (Mo.refl _))))
            · exact og_eq (.agg (a.cells).toArray) rfl (fun f wf hq hd K hK => go_run rfl (wo_load 64 (.tmp 88) (pt bp (op + i * 17)) (.agg (a.cells).toArray) rfl (hd 6 rfl) (D.run_partR (hRp.mo (M.trans hq)).at' 64 0 17 (a.cells) rfl Try.underlying64 rfl sz64) (hK _ (Mo.refl _))))
          intro kf41 u41 hq hR hne
          replace Q1 := Q1.mo hq
          replace Q2 := Q2.mo hq
          replace M := M.trans hq
          clear hq hR hne
          refine wl_call 39 [(.tmp 82), (.tmp 83), (.tmp 84), (.tmp 89)] _ [.agg (d.cells).toArray, .slice pa L.length c, .int .i64 ((s : Nat) : Int), .agg (a.cells).toArray] (.bool false) rfl rfl (fun _ _ => by kernel_rfl) (cB hf30 (ih a hma (hD.kp M.kp) ((hL.ar a hma).kp M.kp) (hS.kp M.kp) (fun y hy => (h5 y hy).kp M.kp))) rfl ?_
          intro u42 hq
          replace Q1 := Q1.mo hq
          replace Q2 := Q2.mo hq
          replace M := M.trans hq
          clear hq
          refine w_nil ?_
          refine xn_then ?_
          refine w_condF rfl ?_
          refine w_skip ?_
          refine xn_blk ?_
          refine xn_then ?_
          refine w_reg ?_
          refine wl_mv (.tmp 18) (.int .i64 ((i : Nat) : Int)) (fun _ => rfl) e40_i rfl ?_
          refine wl_bin (fun x y => do eqGuard .add 3 (.tmp 80) (.const (.int .i64 (1))) x y; binOp .add 3 x y) (.tmp 80) (.const (.int .i64 (1))) (.int .i64 ((i : Nat) : Int)) (.int .i64 (1)) (.int .i64 ((i + 1 : Nat) : Int)) (fun _ => rfl) rfl rfl (add1r (k := i) (by omega) _ _ _) rfl ?_
          refine wl_mv (.tmp 81) (.int .i64 ((i + 1 : Nat) : Int)) (fun _ => rfl) rfl rfl ?_
          refine w_nil ?_
          exact xn_loop (x.args.length - (i + 1)) (by omega) ⟨i + 1, rfl, by omega, e40_1, e40_2, e40_4, e40_7, rfl, Q1, Q2, any_take hT hx hf30, M⟩
      · skip
        have hid : decide (i < x.args.length) = false := decide_eq_false hil
        have hie : i = x.args.length := by omega
        refine w_seq ?_
        refine w_seq ?_
        refine w_reg ?_
        refine wl_mv (.tmp 18) (.int .i64 ((i : Nat) : Int)) (fun _ => rfl) e40_i rfl ?_
        refine wl_un (fun v => Instr.fieldAt 64 v 7) (.tmp 7) (pt k2 0) (pt k2 16) (fun _ => rfl) e40_7 (by kernel_rfl) rfl ?_
        refine wl_load 62 (.tmp 76) (pt k2 16) (.slice x.pa x.args.length x.cap) rfl rfl (run_one Q2 62 16 rfl Try.underlying62 rfl) rfl ?_
        refine wl_val (.int .i64 ((x.args.length : Nat) : Int)) (len62 _ _ _ _ _ (by exact rfl) _ _ _ _ _ _) rfl ?_
        refine wl_bin (fun x y => do eqGuard .lss 3 (.tmp 75) (.tmp 78) x y; binOp .lss 3 x y) (.tmp 75) (.tmp 78) (.int .i64 ((i : Nat) : Int)) (.int .i64 ((x.args.length : Nat) : Int)) (.bool false) (fun _ => rfl) rfl rfl (ltN hid _ _ _) rfl ?_
        refine w_nil ?_
        refine xn_then ?_
        refine w_condF rfl ?_
        refine w_exit ?_
        refine xx_then ?_
        refine xx_then ?_
        refine xx_blk ?_
        refine xn_then ?_
        refine w_seq ?_
        refine w_reg ?_
        refine wl_mv (.const (.bool false)) (.bool false) (fun _ => rfl) rfl rfl ?_
        refine w_nil ?_
        refine xn_then ?_
        refine w_ret ?_
        exact w_ret1 _ (.bool false) rfl rfl ⟨by rw [lck_eq, hkn, any_all hT hie]; rfl, M⟩
    | false =>
      refine wl_callx 13 [(.tmp 24), (.tmp 25), (.tmp 27)] _ [.slice pa L.length c, .int .i64 ((s : Nat) : Int), .string x.nm] rfl rfl (fun _ _ => by kernel_rfl) (by have h := find_n (c := c) (hS.kp M.kp) (fun y hy => (h5 y hy).kp M.kp) hw s hs x.nm; rw [hf1] at h; exact h) rfl ?_
      rintro e9 u3 ⟨a9, b9, rfl, hq⟩
      refine ⟨_, rfl, ?_⟩
      replace Q1 := Q1.mo hq
      replace Q2 := Q2.mo hq
      replace M := M.trans hq
      clear hq
      refine wl_mv (.tmp 28) (.tuple #[.int .i64 (a9), .int .i64 (b9), .bool false]) (fun _ => rfl) rfl rfl ?_
      refine wl_un (fun v => Instr.extract v 0) (.tmp 23) (.tuple #[.int .i64 (a9), .int .i64 (b9), .bool false]) (.int .i64 (a9)) (fun _ => rfl) rfl (by kernel_rfl) rfl ?_
      refine wl_un (fun v => Instr.extract v 1) (.tmp 23) (.tuple #[.int .i64 (a9), .int .i64 (b9), .bool false]) (.int .i64 (b9)) (fun _ => rfl) rfl (by kernel_rfl) rfl ?_
      refine wl_un (fun v => Instr.extract v 2) (.tmp 23) (.tuple #[.int .i64 (a9), .int .i64 (b9), .bool false]) (.bool false) (fun _ => rfl) rfl (by kernel_rfl) rfl ?_
      refine wl_mv (.tmp 29) (.int .i64 (a9)) (fun _ => rfl) rfl rfl ?_
      refine wl_mv (.tmp 30) (.int .i64 (b9)) (fun _ => rfl) rfl rfl ?_
      refine wl_mv (.tmp 31) (.bool false) (fun _ => rfl) rfl rfl ?_
      refine w_nil ?_
      refine xn_then ?_
      refine w_seq ?_
      refine w_reg ?_
      refine wl_mv (.tmp 11) (.bool false) (fun _ => rfl) rfl rfl ?_
      refine wl_un (fun v => Op.unary .not v) (.tmp 32) (.bool false) (.bool true) (fun _ => rfl) rfl (by kernel_rfl) rfl ?_
      refine w_nil ?_
      refine xn_then ?_
      refine w_condT rfl ?_
      refine w_seq ?_
      refine w_reg ?_
      refine wl_mv (.const (.bool true)) (.bool true) (fun _ => rfl) rfl rfl ?_
      refine w_nil ?_
      refine xn_then ?_
      refine w_ret ?_
      refine xr_blk ?_
      refine xr_then ?_
      exact w_ret1 _ (.bool true) rfl rfl ⟨by rw [lck_eq, show knoR d L s x = false from by unfold knoR; rw [if_pos hf0p, hf1]]; rfl, M⟩
  | false =>
    have hf0p := of_decide_eq_false hf0
    refine wl_bin (fun x y => do eqGuard .eql 3 (.tmp 20) (.const (.int .i64 (2))) x y; binOp .eql 3 x y) (.tmp 20) (.const (.int .i64 (2))) (.int .i64 (x.k)) (.int .i64 (2)) (.bool false) (fun _ => rfl) rfl rfl (eq3 hf0 _ _ _) rfl ?_
    refine wl_mv (.tmp 22) (.bool false) (fun _ => rfl) rfl rfl ?_
    refine w_nil ?_
    refine xn_then ?_
    refine w_condF rfl ?_
    refine w_seq ?_
    refine w_reg ?_
    cases hf1 : decide (x.k = 10) with
    | true =>
      have hf1p := of_decide_eq_true hf1
      refine wl_bin (fun x y => do eqGuard .eql 3 (.tmp 20) (.const (.int .i64 (10))) x y; binOp .eql 3 x y) (.tmp 20) (.const (.int .i64 (10))) (.int .i64 (x.k)) (.int .i64 (10)) (.bool true) (fun _ => rfl) rfl rfl (eq3 hf1 _ _ _) rfl ?_
      refine wl_mv (.tmp 35) (.bool true) (fun _ => rfl) rfl rfl ?_
      refine w_nil ?_
      refine xn_then ?_
      refine w_condT rfl ?_
      refine w_seq ?_
      refine w_reg ?_
      refine wl_mv (.tmp 1) (.slice pa L.length c) (fun _ => rfl) rfl rfl ?_
      refine wl_mv (.tmp 2) (.int .i64 ((s : Nat) : Int)) (fun _ => rfl) rfl rfl ?_
      refine wl_un (fun v => Instr.fieldAt 64 v 3) (.tmp 7) (pt k2 0) (pt k2 3) (fun _ => rfl) rfl (by kernel_rfl) rfl ?_
      refine wl_load 9 (.tmp 39) (pt k2 3) (.string x.se) rfl rfl (run_one Q2 9 3 rfl Try.underlying9 rfl) rfl ?_
      cases hf2 : (ffi (kdP s x.se) L).isSome with
      | true =>
        refine wl_call 15 [(.tmp 37), (.tmp 38), (.tmp 40)] _ [.slice pa L.length c, .int .i64 ((s : Nat) : Int), .string x.se] (.tuple #[.int .i64 (((ffi (kdP s x.se) L).getD 0 : Nat) : Int), .bool true]) rfl rfl (fun _ _ => by kernel_rfl) (by have h := kid_n (c := c) (hS.kp M.kp) hz s x.se; rw [hf2] at h; exact h) rfl ?_
        intro u3 hq
        replace Q1 := Q1.mo hq
        replace Q2 := Q2.mo hq
        replace M := M.trans hq
        clear hq
        refine wl_mv (.tmp 41) (.tuple #[.int .i64 (((ffi (kdP s x.se) L).getD 0 : Nat) : Int), .bool true]) (fun _ => rfl) rfl rfl ?_
        refine wl_un (fun v => Instr.extract v 0) (.tmp 36) (.tuple #[.int .i64 (((ffi (kdP s x.se) L).getD 0 : Nat) : Int), .bool true]) (.int .i64 (((ffi (kdP s x.se) L).getD 0 : Nat) : Int)) (fun _ => rfl) rfl (by kernel_rfl) rfl ?_
        refine wl_un (fun v => Instr.extract v 1) (.tmp 36) (.tuple #[.int .i64 (((ffi (kdP s x.se) L).getD 0 : Nat) : Int), .bool true]) (.bool true) (fun _ => rfl) rfl (by kernel_rfl) rfl ?_
        refine wl_mv (.tmp 42) (.int .i64 (((ffi (kdP s x.se) L).getD 0 : Nat) : Int)) (fun _ => rfl) rfl rfl ?_
        refine wl_mv (.tmp 43) (.bool true) (fun _ => rfl) rfl rfl ?_
        refine w_nil ?_
        refine xn_then ?_
        refine w_seq ?_
        refine w_seq ?_
        refine w_reg ?_
        refine wl_mv (.tmp 13) (.bool true) (fun _ => rfl) rfl rfl ?_
        refine wl_un (fun v => Op.unary .not v) (.tmp 44) (.bool true) (.bool false) (fun _ => rfl) rfl (by kernel_rfl) rfl ?_
        refine w_nil ?_
        refine xn_then ?_
        refine w_condF rfl ?_
        refine w_skip ?_
        refine xn_then ?_
        refine w_seq ?_
        obtain ⟨k9, hk9⟩ := Option.isSome_iff_exists.1 hf2
        obtain ⟨y, hy9, _, hkl⟩ := ffi_some hk9
        have hy : L[(ffi (kdP s x.se) L).getD 0]? = some y := by rw [hk9]; exact hy9
        have hyl : (ffi (kdP s x.se) L).getD 0 < L.length := lt_of_get hy
        obtain ⟨bq, oq, hpq, hRq⟩ := D.SL.rw hS hy
        cases hf3 : (ffi (rdP x.nm) y.items).isSome with
        | true =>
          refine w_any 12 [.inl (.slice pa L.length c), .inl (.int .i64 (((ffi (kdP s x.se) L).getD 0 : Nat) : Int)), .inl (pt bq (oq + (ffi (kdP s x.se) L).getD 0 * 5)), .inl (pt bq (oq + (ffi (kdP s x.se) L).getD 0 * 5 + 4)), .inl (.slice y.pi y.items.length y.ci), .inl (pt k2 2), .inl (.string x.nm), .inl (.tuple #[.int .i64 (((ffi (rdP x.nm) y.items).getD 0 : Nat) : Int), .bool true]), .inl (.tuple #[.int .i64 (((ffi (rdP x.nm) y.items).getD 0 : Nat) : Int), .bool true]), .inl (.int .i64 (((ffi (rdP x.nm) y.items).getD 0 : Nat) : Int)), .inl (.bool true), .inl (.int .i64 (((ffi (rdP x.nm) y.items).getD 0 : Nat) : Int))] [] (by kernel_rfl) (by kernel_rfl) (by kernel_rfl) (by kernel_rfl) rfl (by kernel_rfl) (by kernel_rfl) late_nil ?_ ?_ ?_
          · exact Ds.none rfl
          · refine ea_cons ?_ (ea_cons ?_ (ea_cons ?_ (ea_cons ?_ (ea_cons ?_ (ea_cons ?_ (ea_cons ?_ (ea_cons ?_ (ea_cons ?_ (ea_cons ?_ (ea_cons ?_ (ea_cons ?_ (ea_nil))))))))))))
            · exact og_eq (.slice pa L.length c) rfl (fun f wf hq hd K hK => go_run rfl (wo_mv (.tmp 1) (.slice pa L.length c) (fun _ => rfl) rfl (hK _ (Mo.refl _))))
            · exact og_eq (.int .i64 (((ffi (kdP s x.se) L).getD 0 : Nat) : Int)) rfl (fun f wf hq hd K hK => go_run rfl (wo_mv (.tmp 12) (.int .i64 (((ffi (kdP s x.se) L).getD 0 : Nat) : Int)) (fun _ => rfl) rfl (hK _ (Mo.refl _))))
            · exact og_eq (pt bq (oq + (ffi (kdP s x.se) L).getD 0 * 5)) rfl (fun f wf hq hd K hK => go_run rfl (wo_bin (fun x y => Instr.indexAt 37 x y) (.tmp 47) (.tmp 48) (.slice pa L.length c) (.int .i64 (((ffi (kdP s x.se) L).getD 0 : Nat) : Int)) (pt bq (oq + (ffi (kdP s x.se) L).getD 0 * 5)) (fun _ => rfl) (hd 0 rfl) (hd 1 rfl) (ix37 (i := (ffi (kdP s x.se) L).getD 0) hpq hyl _) (hK _ (Mo.refl _))))
            · exact og_eq (pt bq (oq + (ffi (kdP s x.se) L).getD 0 * 5 + 4)) rfl (fun f wf hq hd K hK => go_run rfl (wo_un (fun v => Instr.fieldAt 52 v 4) (.tmp 49) (pt bq (oq + (ffi (kdP s x.se) L).getD 0 * 5)) (pt bq (oq + (ffi (kdP s x.se) L).getD 0 * 5 + 4)) (fun _ => rfl) (hd 2 rfl) (by kernel_rfl) (hK _ (Mo.refl _))))
            · exact og_eq (.slice y.pi y.items.length y.ci) rfl (fun f wf hq hd K hK => go_run rfl (wo_load 22 (.tmp 50) (pt bq (oq + (ffi (kdP s x.se) L).getD 0 * 5 + 4)) (.slice y.pi y.items.length y.ci) rfl (hd 3 rfl) (D.run_oneR (hRq.mo (M.trans hq)).at' 22 4 rfl Try.underlying22 rfl) (hK _ (Mo.refl _))))
            · exact og_eq (pt k2 2) rfl (fun f wf hq hd K hK => go_run rfl (wo_un (fun v => Instr.fieldAt 64 v 2) (.tmp 7) (pt k2 0) (pt k2 2) (fun _ => rfl) rfl (by kernel_rfl) (hK _ (Mo.refl _))))
            · exact og_eq (.string x.nm) rfl (fun f wf hq hd K hK => have Q2 := Q2.mo hq; go_run rfl (wo_load 9 (.tmp 52) (pt k2 2) (.string x.nm) rfl (hd 5 rfl) (run_one Q2 9 2 rfl Try.underlying9 rfl) (hK _ (Mo.refl _))))
            · exact og_eq (.tuple #[.int .i64 (((ffi (rdP x.nm) y.items).getD 0 : Nat) : Int), .bool true]) rfl (fun f wf hq hd K hK => go_run rfl (wo_call 42 [(.tmp 51), (.tmp 53)] _ [.slice y.pi y.items.length y.ci, .string x.nm] (.tuple #[.int .i64 (((ffi (rdP x.nm) y.items).getD 0 : Nat) : Int), .bool true]) rfl (li2 (hd 4 rfl) (hd 6 rfl)) (fun _ _ => by kernel_rfl) (by have h := rread_n (c := y.ci) ((h5 y (List.mem_of_getElem? hy)).it.kp (M.trans hq).kp) x.nm; rw [hf3] at h; exact h) hK))
            · exact og_eq (.tuple #[.int .i64 (((ffi (rdP x.nm) y.items).getD 0 : Nat) : Int), .bool true]) rfl (fun f wf hq hd K hK => go_run rfl (wo_mv (.tmp 54) (.tuple #[.int .i64 (((ffi (rdP x.nm) y.items).getD 0 : Nat) : Int), .bool true]) (fun _ => rfl) (hd 7 rfl) (hK _ (Mo.refl _))))
            · exact og_eq (.int .i64 (((ffi (rdP x.nm) y.items).getD 0 : Nat) : Int)) rfl (fun f wf hq hd K hK => go_run rfl (wo_un (fun v => Instr.extract v 0) (.tmp 46) (.tuple #[.int .i64 (((ffi (rdP x.nm) y.items).getD 0 : Nat) : Int), .bool true]) (.int .i64 (((ffi (rdP x.nm) y.items).getD 0 : Nat) : Int)) (fun _ => rfl) (hd 8 rfl) (by kernel_rfl) (hK _ (Mo.refl _))))
            · exact og_eq (.bool true) rfl (fun f wf hq hd K hK => go_run rfl (wo_un (fun v => Instr.extract v 1) (.tmp 46) (.tuple #[.int .i64 (((ffi (rdP x.nm) y.items).getD 0 : Nat) : Int), .bool true]) (.bool true) (fun _ => rfl) (hd 8 rfl) (by kernel_rfl) (hK _ (Mo.refl _))))
            · exact og_eq (.int .i64 (((ffi (rdP x.nm) y.items).getD 0 : Nat) : Int)) rfl (fun f wf hq hd K hK => go_run rfl (wo_mv (.tmp 55) (.int .i64 (((ffi (rdP x.nm) y.items).getD 0 : Nat) : Int)) (fun _ => rfl) (hd 9 rfl) (hK _ (Mo.refl _))))
          intro kf4 u4 hq hR hne
          replace Q1 := Q1.mo hq
          replace Q2 := Q2.mo hq
          replace M := M.trans hq
          clear hq hR hne
          refine wl_mv (.tmp 56) (.bool true) (fun _ => rfl) rfl rfl ?_
          refine w_nil ?_
          refine xn_then ?_
          refine w_seq ?_
          refine w_reg ?_
          refine wl_mv (.tmp 15) (.bool true) (fun _ => rfl) rfl rfl ?_
          refine wl_un (fun v => Op.unary .not v) (.tmp 57) (.bool true) (.bool false) (fun _ => rfl) rfl (by kernel_rfl) rfl ?_
          refine wl_mv (.tmp 58) (.bool false) (fun _ => rfl) rfl rfl ?_
          refine wl_skip rfl ?_
          refine wl_skip rfl ?_
          refine wl_skip rfl ?_
          refine wl_pick (.tmp 59) (.tmp 62) (.const (.bool false)) false (.bool false) (fun _ => rfl) rfl rfl rfl ?_
          refine w_nil ?_
          refine xn_then ?_
          refine w_condF rfl ?_
          refine w_skip ?_
          refine xn_blk ?_
          refine xn_then ?_
          refine w_seq ?_
          refine w_seq ?_
          refine w_reg ?_
          refine wl_mv (.const (.int .i64 (0))) (.int .i64 (0)) (fun _ => rfl) rfl rfl ?_
          refine w_nil ?_
          refine xn_then ?_
          refine w_block ?_
          have hkn : knoR d L s x = true := by unfold knoR; rw [if_neg hf0p, if_pos hf1p, hf2, itO_of hy, hf3]; first | done | rfl
          have hza := hL.sl.1
          unfold maxLen at hza
          refine w_loop (fun m l w1 => ∃ i : Nat, m = x.args.length - i ∧ i ≤ x.args.length ∧ look l 1 = .slice pa L.length c ∧ look l 2 = .int .i64 ((s : Nat) : Int) ∧ look l 4 = pt k1 0 ∧ look l 7 = pt k2 0 ∧ look l 18 = .int .i64 ((i : Nat) : Int) ∧ At w1 k1 (d.cells) ∧ At w1 k2 (x.cells) ∧ ((x.args.take i).any (lck (knoR d L s)) = false) ∧ Mo w w1) _ ⟨0, rfl, Nat.zero_le _, rfl, rfl, rfl, rfl, rfl, Q1, Q2, rfl, M⟩ ?_
          clear Q1 Q2 M
          rintro m l40 wl40 ⟨i, rfl, hi, e40_1, e40_2, e40_4, e40_7, e40_i, Q1, Q2, hT, M⟩
          by_cases hil : i < x.args.length
          · skip
            have hid : decide (i < x.args.length) = true := decide_eq_true hil
            obtain ⟨a, hx⟩ := get_of_lt hil
            have hma := List.mem_of_getElem? hx
            obtain ⟨bp, op, hpp, hRp⟩ := D.SL.rw hL.sl hx
            refine w_seq ?_
            refine w_seq ?_
            refine w_reg ?_
            refine wl_mv (.tmp 18) (.int .i64 ((i : Nat) : Int)) (fun _ => rfl) e40_i rfl ?_
            refine wl_un (fun v => Instr.fieldAt 64 v 7) (.tmp 7) (pt k2 0) (pt k2 16) (fun _ => rfl) e40_7 (by kernel_rfl) rfl ?_
            refine wl_load 62 (.tmp 76) (pt k2 16) (.slice x.pa x.args.length x.cap) rfl rfl (run_one Q2 62 16 rfl Try.underlying62 rfl) rfl ?_
            refine wl_val (.int .i64 ((x.args.length : Nat) : Int)) (len62 _ _ _ _ _ (by exact rfl) _ _ _ _ _ _) rfl ?_
            refine wl_bin (fun x y => do eqGuard .lss 3 (.tmp 75) (.tmp 78) x y; binOp .lss 3 x y) (.tmp 75) (.tmp 78) (.int .i64 ((i : Nat) : Int)) (.int .i64 ((x.args.length : Nat) : Int)) (.bool true) (fun _ => rfl) rfl rfl (ltN hid _ _ _) rfl ?_
            refine w_nil ?_
            refine xn_then ?_
            refine w_condT rfl ?_
            refine w_skip ?_
            refine xn_then ?_
            refine w_seq ?_
            refine w_block ?_
            refine w_seq ?_
            cases hf30 : lck (knoR d L s) a with
            | true =>
              refine w_any 8 [.inl (.agg (d.cells).toArray), .inl (.slice pa L.length c), .inl (.int .i64 ((s : Nat) : Int)), .inl (pt k2 16), .inl (.slice x.pa x.args.length x.cap), .inl (.int .i64 ((i : Nat) : Int)), .inl (pt bp (op + i * 17)), .inl (.agg (a.cells).toArray)] [] (by kernel_rfl) (by kernel_rfl) (by kernel_rfl) (by kernel_rfl) rfl (by kernel_rfl) (by kernel_rfl) late_nil ?_ ?_ ?_
              · exact Ds.none rfl
              · refine ea_cons ?_ (ea_cons ?_ (ea_cons ?_ (ea_cons ?_ (ea_cons ?_ (ea_cons ?_ (ea_cons ?_ (ea_cons ?_ (ea_nil))))))))
                · exact og_eq (.agg (d.cells).toArray) rfl (fun f wf hq hd K hK => have Q1 := Q1.mo hq; go_run rfl (wo_load 29 (.tmp 4) (pt k1 0) (.agg (d.cells).toArray) rfl e40_4 (run_row Q1 29 0 7 (d.cells) rfl Try.underlying29 rfl sz29) (hK _ (Mo.refl _))))
                · exact og_eq (.slice pa L.length c) rfl (fun f wf hq hd K hK => go_run rfl (wo_mv (.tmp 1) (.slice pa L.length c) (fun _ => rfl) e40_1 (hK _ (Mo.refl _))))
                · exact og_eq (.int .i64 ((s : Nat) : Int)) rfl (fun f wf hq hd K hK => go_run rfl (wo_mv (.tmp 2) (.int .i64 ((s : Nat) : Int)) (fun _ => rfl) e40_2 (hK _ (Mo.refl _))))
                · exact og_eq (pt k2 16) rfl (fun f wf hq hd K hK => go_run rfl (wo_un (fun v => Instr.fieldAt 64 v 7) (.tmp 7) (pt k2 0) (pt k2 16) (fun _ => rfl) e40_7 (by kernel_rfl) (hK _ (Mo.refl _))))
                · exact og_eq (.slice x.pa x.args.length x.cap) rfl (fun f wf hq hd K hK => have Q2 := Q2.mo hq; go_run rfl (wo_load 62 (.tmp 85) (pt k2 16) (.slice x.pa x.args.length x.cap) rfl (hd 3 rfl) (run_one Q2 62 16 rfl Try.underlying62 rfl) (hK _ (Mo.refl _))))
                · exact og_eq (.int .i64 ((i : Nat) : Int)) rfl (fun f wf hq hd K hK => go_run rfl (wo_mv (.tmp 18) (.int .i64 ((i : Nat) : Int)) (fun _ => rfl) e40_i (hK _ (Mo.refl _))))
                · exact og_eq (pt bp (op + i * 17)) rfl (fun f wf hq hd K hK => go_run rfl (wo_bin (fun x y => Instr.indexAt 62 x y) (.tmp 86) (.tmp 87) (.slice x.pa x.args.length x.cap) (.int .i64 ((i : Nat) : Int)) (pt bp (op + i * 17)) (fun _ => rfl) (hd 4 rfl) (hd 5 rfl) (ix62 (i := i) hpp hil _) (hK _ (Mo.refl _))))
                · exact og_eq (.agg (a.cells).toArray) rfl (fun f wf hq hd K hK => go_run rfl (wo_load 64 (.tmp 88) (pt bp (op + i * 17)) (.agg (a.cells).toArray) rfl (hd 6 rfl) (D.run_partR (hRp.mo (M.trans hq)).at' 64 0 17 (a.cells) rfl Try.underlying64 rfl sz64) (hK _ (Mo.refl _))))
              intro kf41 u41 hq hR hne
              replace Q1 := Q1.mo hq
              replace Q2 := Q2.mo hq
              replace M := M.trans hq
              clear hq hR hne
              refine wl_call 39 [(.tmp 82), (.tmp 83), (.tmp 84), (.tmp 89)] _ [.agg (d.cells).toArray, .slice pa L.length c, .int .i64 ((s : Nat) : Int), .agg (a.cells).toArray] (.bool true) rfl rfl (fun _ _ => by kernel_rfl) (cB hf30 (ih a hma (hD.kp M.kp) ((hL.ar a hma).kp M.kp) (hS.kp M.kp) (fun y hy => (h5 y hy).kp M.kp))) rfl ?_
              intro u42 hq
              replace Q1 := Q1.mo hq
              replace Q2 := Q2.mo hq
              replace M := M.trans hq
              clear hq
              refine w_nil ?_
              refine xn_then ?_
              refine w_condT rfl ?_
              refine w_seq ?_
              refine w_reg ?_
              refine wl_mv (.const (.bool true)) (.bool true) (fun _ => rfl) rfl rfl ?_
              refine w_nil ?_
              refine xn_then ?_
              refine w_ret ?_
              refine xr_blk ?_
              refine xr_then ?_
              refine xr_then ?_
              refine xr_blk ?_
              refine xr_then ?_
              exact w_ret1 _ (.bool true) rfl rfl ⟨by rw [lck_eq, hkn, any_hit hx hf30]; rfl, M⟩
            | false =>
              refine w_any 8 [.inl (.agg (d.cells).toArray), .inl (.slice pa L.length c), .inl (.int .i64 ((s : Nat) : Int)), .inl (pt k2 16), .inl (.slice x.pa x.args.length x.cap), .inl (.int .i64 ((i : Nat) : Int)), .inl (pt bp (op + i * 17)), .inl (.agg (a.cells).toArray)] [] (by kernel_rfl) (by kernel_rfl) (by kernel_rfl) (by kernel_rfl) rfl (by kernel_rfl) (by kernel_rfl) late_nil ?_ ?_ ?_
              · exact Ds.none rfl
              · refine ea_cons ?_ (ea_cons ?_ (ea_cons ?_ (ea_cons ?_ (ea_cons ?_ (ea_cons ?_ (ea_cons ?_ (ea_cons ?_ (ea_nil))))))))
                · exact og_eq (.agg (d.cells).toArray) rfl (fun f wf hq hd K hK => have Q1 := Q1.mo hq; go_run rfl (wo_load 29 (.tmp 4) (pt k1 0) (.agg (d.cells).toArray) rfl e40_4 (run_row Q1 29 0 7 (d.cells) rfl Try.underlying29 rfl sz29) (hK _ (Mo.refl _))))
                · exact og_eq (.slice pa L.length c) rfl (fun f wf hq hd K hK => go_run rfl (wo_mv (.tmp 1) (.slice pa L.length c) (fun _ => rfl) e40_1 (hK _ (Mo.refl _))))
                · exact og_eq (.int .i64 ((s : Nat) : Int)) rfl (fun f wf hq hd K hK => go_run rfl (wo_mv (.tmp 2) (.int .i64 ((s : Nat) : Int)) (fun _ => rfl) e40_2 (hK _ (Mo.refl _))))
                · exact og_eq (pt k2 16) rfl (fun f wf hq hd K hK => go_run rfl (wo_un (fun v => Instr.fieldAt 64 v 7) (.tmp 7) (pt k2 0) (pt k2 16) (fun _ => rfl) e40_7 (by kernel_rfl) (hK _ (Mo.refl _))))
                · exact og_eq (.slice x.pa x.args.length x.cap) rfl (fun f wf hq hd K hK => have Q2 := Q2.mo hq; go_run rfl (wo_load 62 (.tmp 85) (pt k2 16) (.slice x.pa x.args.length x.cap) rfl (hd 3 rfl) (run_one Q2 62 16 rfl Try.underlying62 rfl) (hK _ (Mo.refl _))))
                · exact og_eq (.int .i64 ((i : Nat) : Int)) rfl (fun f wf hq hd K hK => go_run rfl (wo_mv (.tmp 18) (.int .i64 ((i : Nat) : Int)) (fun _ => rfl) e40_i (hK _ (Mo.refl _))))
                · exact og_eq (pt bp (op + i * 17)) rfl (fun f wf hq hd K hK => go_run rfl (wo_bin (fun x y => Instr.indexAt 62 x y) (.tmp 86) (.tmp 87) (.slice x.pa x.args.length x.cap) (.int .i64 ((i : Nat) : Int)) (pt bp (op + i * 17)) (fun _ => rfl) (hd 4 rfl) (hd 5 rfl) (ix62 (i := i) hpp hil _) (hK _ (Mo.refl _))))
                · exact og_eq (.agg (a.cells).toArray) rfl (fun f wf hq hd K hK => go_run rfl (wo_load 64 (.tmp 88) (pt bp (op + i * 17)) (.agg (a.cells).toArray) rfl (hd 6 rfl) (D.run_partR (hRp.mo (M.trans hq)).at' 64 0 17 (a.cells) rfl Try.underlying64 rfl sz64) (hK _ (Mo.refl _))))
              intro kf41 u41 hq hR hne
              replace Q1 := Q1.mo hq
              replace Q2 := Q2.mo hq
              replace M := M.trans hq
              clear hq hR hne
              refine wl_call 39 [(.tmp 82), (.tmp 83), (.tmp 84), (.tmp 89)] _ [.agg (d.cells).toArray, .slice pa L.length c, .int .i64 ((s : Nat) : Int), .agg (a.cells).toArray] (.bool false) rfl rfl (fun _ _ => by kernel_rfl) (cB hf30 (ih a hma (hD.kp M.kp) ((hL.ar a hma).kp M.kp) (hS.kp M.kp) (fun y hy => (h5 y hy).kp M.kp))) rfl ?_
              intro u42 hq
              replace Q1 := Q1.mo hq
              replace Q2 := Q2.mo hq
              replace M := M.trans hq
              clear hq
              refine w_nil ?_
              refine xn_then ?_
              refine w_condF rfl ?_
              refine w_skip ?_
              refine xn_blk ?_
              refine xn_then ?_
              refine w_reg ?_
              refine wl_mv (.tmp 18) (.int .i64 ((i : Nat) : Int)) (fun _ => rfl) e40_i rfl ?_
              refine wl_bin (fun x y => do eqGuard .add 3 (.tmp 80) (.const (.int .i64 (1))) x y; binOp .add 3 x y) (.tmp 80) (.const (.int .i64 (1))) (.int .i64 ((i : Nat) : Int)) (.int .i64 (1)) (.int .i64 ((i + 1 : Nat) : Int)) (fun _ => rfl) rfl rfl (add1r (k := i) (by omega) _ _ _) rfl ?_
              refine wl_mv (.tmp 81) (.int .i64 ((i + 1 : Nat) : Int)) (fun _ => rfl) rfl rfl ?_
              refine w_nil ?_
              exact xn_loop (x.args.length - (i + 1)) (by omega) ⟨i + 1, rfl, by omega, e40_1, e40_2, e40_4, e40_7, rfl, Q1, Q2, any_take hT hx hf30, M⟩
          · skip
            have hid : decide (i < x.args.length) = false := decide_eq_false hil
            have hie : i = x.args.length := by omega
            refine w_seq ?_
            refine w_seq ?_
            refine w_reg ?_
            refine wl_mv (.tmp 18) (.int .i64 ((i : Nat) : Int)) (fun _ => rfl) e40_i rfl ?_
            refine wl_un (fun v => Instr.fieldAt 64 v 7) (.tmp 7) (pt k2 0) (pt k2 16) (fun _ => rfl) e40_7 (by kernel_rfl) rfl ?_
            refine wl_load 62 (.tmp 76) (pt k2 16) (.slice x.pa x.args.length x.cap) rfl rfl (run_one Q2 62 16 rfl Try.underlying62 rfl) rfl ?_
            refine wl_val (.int .i64 ((x.args.length : Nat) : Int)) (len62 _ _ _ _ _ (by exact rfl) _ _ _ _ _ _) rfl ?_
            refine wl_bin (fun x y => do eqGuard .lss 3 (.tmp 75) (.tmp 78) x y; binOp .lss 3 x y) (.tmp 75) (.tmp 78) (.int .i64 ((i : Nat) : Int)) (.int .i64 ((x.args.length : Nat) : Int)) (.bool false) (fun _ => rfl) rfl rfl (ltN hid _ _ _) rfl ?_
            refine w_nil ?_
            refine xn_then ?_
            refine w_condF rfl ?_
            refine w_exit ?_
            refine xx_then ?_
            refine xx_then ?_
            refine xx_blk ?_
            refine xn_then ?_
            refine w_seq ?_
            refine w_reg ?_
            refine wl_mv (.const (.bool false)) (.bool false) (fun _ => rfl) rfl rfl ?_
            refine w_nil ?_
            refine xn_then ?_
            refine w_ret ?_
            exact w_ret1 _ (.bool false) rfl rfl ⟨by rw [lck_eq, hkn, any_all hT hie]; rfl, M⟩
        | false =>
          refine w_any 12 [.inl (.slice pa L.length c), .inl (.int .i64 (((ffi (kdP s x.se) L).getD 0 : Nat) : Int)), .inl (pt bq (oq + (ffi (kdP s x.se) L).getD 0 * 5)), .inl (pt bq (oq + (ffi (kdP s x.se) L).getD 0 * 5 + 4)), .inl (.slice y.pi y.items.length y.ci), .inl (pt k2 2), .inl (.string x.nm), .inl (.tuple #[.int .i64 (((ffi (rdP x.nm) y.items).getD 0 : Nat) : Int), .bool false]), .inl (.tuple #[.int .i64 (((ffi (rdP x.nm) y.items).getD 0 : Nat) : Int), .bool false]), .inl (.int .i64 (((ffi (rdP x.nm) y.items).getD 0 : Nat) : Int)), .inl (.bool false), .inl (.int .i64 (((ffi (rdP x.nm) y.items).getD 0 : Nat) : Int))] [] (by kernel_rfl) (by kernel_rfl) (by kernel_rfl) (by kernel_rfl) rfl (by kernel_rfl) (by kernel_rfl) late_nil ?_ ?_ ?_
          · exact Ds.none rfl
          · refine ea_cons ?_ (ea_cons ?_ (ea_cons ?_ (ea_cons ?_ (ea_cons ?_ (ea_cons ?_ (ea_cons ?_ (ea_cons ?_ (ea_cons ?_ (ea_cons ?_ (ea_cons ?_ (ea_cons ?_ (ea_nil))))))))))))
            · exact og_eq (.slice pa L.length c) rfl (fun f wf hq hd K hK => go_run rfl (wo_mv (.tmp 1) (.slice pa L.length c) (fun _ => rfl) rfl (hK _ (Mo.refl _))))
            · exact og_eq (.int .i64 (((ffi (kdP s x.se) L).getD 0 : Nat) : Int)) rfl (fun f wf hq hd K hK => go_run rfl (wo_mv (.tmp 12) (.int .i64 (((ffi (kdP s x.se) L).getD 0 : Nat) : Int)) (fun _ => rfl) rfl (hK _ (Mo.refl _))))
            · exact og_eq (pt bq (oq + (ffi (kdP s x.se) L).getD 0 * 5)) rfl (fun f wf hq hd K hK => go_run rfl (wo_bin (fun x y => Instr.indexAt 37 x y) (.tmp 47) (.tmp 48) (.slice pa L.length c) (.int .i64 (((ffi (kdP s x.se) L).getD 0 : Nat) : Int)) (pt bq (oq + (ffi (kdP s x.se) L).getD 0 * 5)) (fun _ => rfl) (hd 0 rfl) (hd 1 rfl) (ix37 (i := (ffi (kdP s x.se) L).getD 0) hpq hyl _) (hK _ (Mo.refl _))))
            · exact og_eq (pt bq (oq + (ffi (kdP s x.se) L).getD 0 * 5 + 4)) rfl (fun f wf hq hd K hK => go_run rfl (wo_un (fun v => Instr.fieldAt 52 v 4) (.tmp 49) (pt bq (oq + (ffi (kdP s x.se) L).getD 0 * 5)) (pt bq (oq + (ffi (kdP s x.se) L).getD 0 * 5 + 4)) (fun _ => rfl) (hd 2 rfl) (by kernel_rfl) (hK _ (Mo.refl _))))
            · exact og_eq (.slice y.pi y.items.length y.ci) rfl (fun f wf hq hd K hK => go_run rfl (wo_load 22 (.tmp 50) (pt bq (oq + (ffi (kdP s x.se) L).getD 0 * 5 + 4)) (.slice y.pi y.items.length y.ci) rfl (hd 3 rfl) (D.run_oneR (hRq.mo (M.trans hq)).at' 22 4 rfl Try.underlying22 rfl) (hK _ (Mo.refl _))))
            · exact og_eq (pt k2 2) rfl (fun f wf hq hd K hK => go_run rfl (wo_un (fun v => Instr.fieldAt 64 v 2) (.tmp 7) (pt k2 0) (pt k2 2) (fun _ => rfl) rfl (by kernel_rfl) (hK _ (Mo.refl _))))
            · exact og_eq (.string x.nm) rfl (fun f wf hq hd K hK => have Q2 := Q2.mo hq; go_run rfl (wo_load 9 (.tmp 52) (pt k2 2) (.string x.nm) rfl (hd 5 rfl) (run_one Q2 9 2 rfl Try.underlying9 rfl) (hK _ (Mo.refl _))))
            · exact og_eq (.tuple #[.int .i64 (((ffi (rdP x.nm) y.items).getD 0 : Nat) : Int), .bool false]) rfl (fun f wf hq hd K hK => go_run rfl (wo_call 42 [(.tmp 51), (.tmp 53)] _ [.slice y.pi y.items.length y.ci, .string x.nm] (.tuple #[.int .i64 (((ffi (rdP x.nm) y.items).getD 0 : Nat) : Int), .bool false]) rfl (li2 (hd 4 rfl) (hd 6 rfl)) (fun _ _ => by kernel_rfl) (by have h := rread_n (c := y.ci) ((h5 y (List.mem_of_getElem? hy)).it.kp (M.trans hq).kp) x.nm; rw [hf3] at h; exact h) hK))
            · exact og_eq (.tuple #[.int .i64 (((ffi (rdP x.nm) y.items).getD 0 : Nat) : Int), .bool false]) rfl (fun f wf hq hd K hK => go_run rfl (wo_mv (.tmp 54) (.tuple #[.int .i64 (((ffi (rdP x.nm) y.items).getD 0 : Nat) : Int), .bool false]) (fun _ => rfl) (hd 7 rfl) (hK _ (Mo.refl _))))
            · exact og_eq (.int .i64 (((ffi (rdP x.nm) y.items).getD 0 : Nat) : Int)) rfl (fun f wf hq hd K hK => go_run rfl (wo_un (fun v => Instr.extract v 0) (.tmp 46) (.tuple #[.int .i64 (((ffi (rdP x.nm) y.items).getD 0 : Nat) : Int), .bool false]) (.int .i64 (((ffi (rdP x.nm) y.items).getD 0 : Nat) : Int)) (fun _ => rfl) (hd 8 rfl) (by kernel_rfl) (hK _ (Mo.refl _))))
            · exact og_eq (.bool false) rfl (fun f wf hq hd K hK => go_run rfl (wo_un (fun v => Instr.extract v 1) (.tmp 46) (.tuple #[.int .i64 (((ffi (rdP x.nm) y.items).getD 0 : Nat) : Int), .bool false]) (.bool false) (fun _ => rfl) (hd 8 rfl) (by kernel_rfl) (hK _ (Mo.refl _))))
            · exact og_eq (.int .i64 (((ffi (rdP x.nm) y.items).getD 0 : Nat) : Int)) rfl (fun f wf hq hd K hK => go_run rfl (wo_mv (.tmp 55) (.int .i64 (((ffi (rdP x.nm) y.items).getD 0 : Nat) : Int)) (fun _ => rfl) (hd 9 rfl) (hK _ (Mo.refl _))))
          intro kf4 u4 hq hR hne
          replace Q1 := Q1.mo hq
          replace Q2 := Q2.mo hq
          replace M := M.trans hq
          clear hq hR hne
          refine wl_mv (.tmp 56) (.bool false) (fun _ => rfl) rfl rfl ?_
          refine w_nil ?_
          refine xn_then ?_
          refine w_seq ?_
          refine w_reg ?_
          refine wl_mv (.tmp 15) (.bool false) (fun _ => rfl) rfl rfl ?_
          refine wl_un (fun v => Op.unary .not v) (.tmp 57) (.bool false) (.bool true) (fun _ => rfl) rfl (by kernel_rfl) rfl ?_
          refine wl_mv (.tmp 58) (.bool true) (fun _ => rfl) rfl rfl ?_
          refine wl_un (fun v => Instr.fieldAt 64 v 1) (.tmp 7) (pt k2 0) (pt k2 1) (fun _ => rfl) rfl (by kernel_rfl) rfl ?_
          refine wl_load 3 (.tmp 60) (pt k2 1) (.int .i64 (x.op)) rfl rfl (run_one Q2 3 1 rfl Try.underlying3 rfl) rfl ?_
          cases hf4 : decide (x.op = 16) with
          | true =>
            have hf4p := of_decide_eq_true hf4
            refine wl_bin (fun x y => do eqGuard .neq 3 (.tmp 61) (.const (.int .i64 (16))) x y; binOp .neq 3 x y) (.tmp 61) (.const (.int .i64 (16))) (.int .i64 (x.op)) (.int .i64 (16)) (.bool false) (fun _ => rfl) rfl rfl (ne3 hf4 _ _ _) rfl ?_
            refine wl_pick (.tmp 59) (.tmp 62) (.const (.bool false)) true (.bool false) (fun _ => rfl) rfl rfl rfl ?_
            refine w_nil ?_
            refine xn_then ?_
            refine w_condF rfl ?_
            refine w_skip ?_
            refine xn_blk ?_
            refine xn_then ?_
            refine w_seq ?_
            refine w_seq ?_
            refine w_reg ?_
            refine wl_mv (.const (.int .i64 (0))) (.int .i64 (0)) (fun _ => rfl) rfl rfl ?_
            refine w_nil ?_
            refine xn_then ?_
            refine w_block ?_
            have hkn : knoR d L s x = true := by unfold knoR; rw [if_neg hf0p, if_pos hf1p, hf2, itO_of hy, hf3, hf4]; first | done | rfl
            have hza := hL.sl.1
            unfold maxLen at hza
            refine w_loop (fun m l w1 => ∃ i : Nat, m = x.args.length - i ∧ i ≤ x.args.length ∧ look l 1 = .slice pa L.length c ∧ look l 2 = .int .i64 ((s : Nat) : Int) ∧ look l 4 = pt k1 0 ∧ look l 7 = pt k2 0 ∧ look l 18 = .int .i64 ((i : Nat) : Int) ∧ At w1 k1 (d.cells) ∧ At w1 k2 (x.cells) ∧ ((x.args.take i).any (lck (knoR d L s)) = false) ∧ Mo w w1) _ ⟨0, rfl, Nat.zero_le _, rfl, rfl, rfl, rfl, rfl, Q1, Q2, rfl, M⟩ ?_
            clear Q1 Q2 M
            rintro m l40 wl40 ⟨i, rfl, hi, e40_1, e40_2, e40_4, e40_7, e40_i, Q1, Q2, hT, M⟩
            by_cases hil : i < x.args.length
            · skip
              have hid : decide (i < x.args.length) = true := decide_eq_true hil
              obtain ⟨a, hx⟩ := get_of_lt hil
              have hma := List.mem_of_getElem? hx
              obtain ⟨bp, op, hpp, hRp⟩ := D.SL.rw hL.sl hx
              refine w_seq ?_
              refine w_seq ?_
              refine w_reg ?_
              refine wl_mv (.tmp 18) (.int .i64 ((i : Nat) : Int)) (fun _ => rfl) e40_i rfl ?_
              refine wl_un (fun v => Instr.fieldAt 64 v 7) (.tmp 7) (pt k2 0) (pt k2 16) (fun _ => rfl) e40_7 (by kernel_rfl) rfl ?_
              refine wl_load 62 (.tmp 76) (pt k2 16) (.slice x.pa x.args.length x.cap) rfl rfl (run_one Q2 62 16 rfl Try.underlying62 rfl) rfl ?_
              refine wl_val (.int .i64 ((x.args.length : Nat) : Int)) (len62 _ _ _ _ _ (by exact rfl) _ _ _ _ _ _) rfl ?_
              refine wl_bin (fun x y => do eqGuard .lss 3 (.tmp 75) (.tmp 78) x y; binOp .lss 3 x y) (.tmp 75) (.tmp 78) (.int .i64 ((i : Nat) : Int)) (.int .i64 ((x.args.length : Nat) : Int)) (.bool true) (fun _ => rfl) rfl rfl (ltN hid _ _ _) rfl ?_
              refine w_nil ?_
              refine xn_then ?_
              refine w_condT rfl ?_
              refine w_skip ?_
              refine xn_then ?_
              refine w_seq ?_
              refine w_block ?_
              refine w_seq ?_
              cases hf30 : lck (knoR d L s) a with
              | true =>
                refine w_any 8 [.inl (.agg (d.cells).toArray), .inl (.slice pa L.length c), .inl (.int .i64 ((s : Nat) : Int)), .inl (pt k2 16), .inl (.slice x.pa x.args.length x.cap), .inl (.int .i64 ((i : Nat) : Int)), .inl (pt bp (op + i * 17)), .inl (.agg (a.cells).toArray)] [] (by kernel_rfl) (by kernel_rfl) (by kernel_rfl) (by kernel_rfl) rfl (by kernel_rfl) (by kernel_rfl) late_nil ?_ ?_ ?_
                · exact Ds.none rfl
                · refine ea_cons ?_ (ea_cons ?_ (ea_cons ?_ (ea_cons ?_ (ea_cons ?_ (ea_cons ?_ (ea_cons ?_ (ea_cons ?_ (ea_nil))))))))
                  · exact og_eq (.agg (d.cells).toArray) rfl (fun f wf hq hd K hK => have Q1 := Q1.mo hq; go_run rfl (wo_load 29 (.tmp 4) (pt k1 0) (.agg (d.cells).toArray) rfl e40_4 (run_row Q1 29 0 7 (d.cells) rfl Try.underlying29 rfl sz29) (hK _ (Mo.refl _))))
                  · exact og_eq (.slice pa L.length c) rfl (fun f wf hq hd K hK => go_run rfl (wo_mv (.tmp 1) (.slice pa L.length c) (fun _ => rfl) e40_1 (hK _ (Mo.refl _))))
                  · exact og_eq (.int .i64 ((s : Nat) : Int)) rfl (fun f wf hq hd K hK => go_run rfl (wo_mv (.tmp 2) (.int .i64 ((s : Nat) : Int)) (fun _ => rfl) e40_2 (hK _ (Mo.refl _))))
                  · exact og_eq (pt k2 16) rfl (fun f wf hq hd K hK => go_run rfl (wo_un (fun v => Instr.fieldAt 64 v 7) (.tmp 7) (pt k2 0) (pt k2 16) (fun _ => rfl) e40_7 (by kernel_rfl) (hK _ (Mo.refl _))))
                  · exact og_eq (.slice x.pa x.args.length x.cap) rfl (fun f wf hq hd K hK => have Q2 := Q2.mo hq; go_run rfl (wo_load 62 (.tmp 85) (pt k2 16) (.slice x.pa x.args.length x.cap) rfl (hd 3 rfl) (run_one Q2 62 16 rfl Try.underlying62 rfl) (hK _ (Mo.refl _))))
                  · exact og_eq (.int .i64 ((i : Nat) : Int)) rfl (fun f wf hq hd K hK => go_run rfl (wo_mv (.tmp 18) (.int .i64 ((i : Nat) : Int)) (fun _ => rfl) e40_i (hK _ (Mo.refl _))))
                  · exact og_eq (pt bp (op + i * 17)) rfl (fun f wf hq hd K hK => go_run rfl (wo_bin (fun x y => Instr.indexAt 62 x y) (.tmp 86) (.tmp 87) (.slice x.pa x.args.length x.cap) (.int .i64 ((i : Nat) : Int)) (pt bp (op + i * 17)) (fun _ => rfl) (hd 4 rfl) (hd 5 rfl) (ix62 (i := i) hpp hil _) (hK _ (Mo.refl _))))
                  · exact og_eq (.agg (a.cells).toArray) rfl (fun f wf hq hd K hK => go_run rfl (wo_load 64 (.tmp 88) (pt bp (op + i * 17)) (.agg (a.cells).toArray) rfl (hd 6 rfl) (D.run_partR (hRp.mo (M.trans hq)).at' 64 0 17 (a.cells) rfl Try.underlying64 rfl sz64) (hK _ (Mo.refl _))))
                intro kf41 u41 hq hR hne
                replace Q1 := Q1.mo hq
                replace Q2 := Q2.mo hq
                replace M := M.trans hq
                clear hq hR hne
                refine wl_call 39 [(.tmp 82), (.tmp 83), (.tmp 84), (.tmp 89)] _ [.agg (d.cells).toArray, .slice pa L.length c, .int .i64 ((s : Nat) : Int), .agg (a.cells).toArray] (.bool true) rfl rfl (fun _ _ => by kernel_rfl) (cB hf30 (ih a hma (hD.kp M.kp) ((hL.ar a hma).kp M.kp) (hS.kp M.kp) (fun y hy => (h5 y hy).kp M.kp))) rfl ?_
                intro u42 hq
                replace Q1 := Q1.mo hq
                replace Q2 := Q2.mo hq
                replace M := M.trans hq
                clear hq
                refine w_nil ?_
                refine xn_then ?_
                refine w_condT rfl ?_
                refine w_seq ?_
                refine w_reg ?_
                refine wl_mv (.const (.bool true)) (.bool true) (fun _ => rfl) rfl rfl ?_
                refine w_nil ?_
                refine xn_then ?_
                refine w_ret ?_
                refine xr_blk ?_
                refine xr_then ?_
                refine xr_then ?_
                refine xr_blk ?_
                refine xr_then ?_
                exact w_ret1 _ (.bool true) rfl rfl ⟨by rw [lck_eq, hkn, any_hit hx hf30]; rfl, M⟩
              | false =>
                refine w_any 8 [.inl (.agg (d.cells).toArray), .inl (.slice pa L.length c), .inl (.int .i64 ((s : Nat) : Int)), .inl (pt k2 16), .inl (.slice x.pa x.args.length x.cap), .inl (.int .i64 ((i : Nat) : Int)), .inl (pt bp (op + i * 17)), .inl (.agg (a.cells).toArray)] [] (by kernel_rfl) (by kernel_rfl) (by kernel_rfl) (by kernel_rfl) rfl (by kernel_rfl) (by kernel_rfl) late_nil ?_ ?_ ?_
                · exact Ds.none rfl
                · refine ea_cons ?_ (ea_cons ?_ (ea_cons ?_ (ea_cons ?_ (ea_cons ?_ (ea_cons ?_ (ea_cons ?_ (ea_cons ?_ (ea_nil))))))))
                  · exact og_eq (.agg (d.cells).toArray) rfl (fun f wf hq hd K hK => have Q1 := Q1.mo hq; go_run rfl (wo_load 29 (.tmp 4) (pt k1 0) (.agg (d.cells).toArray) rfl e40_4 (run_row Q1 29 0 7 (d.cells) rfl Try.underlying29 rfl sz29) (hK _ (Mo.refl _))))
                  · exact og_eq (.slice pa L.length c) rfl (fun f wf hq hd K hK => go_run rfl (wo_mv (.tmp 1) (.slice pa L.length c) (fun _ => rfl) e40_1 (hK _ (Mo.refl _))))
                  · exact og_eq (.int .i64 ((s : Nat) : Int)) rfl (fun f wf hq hd K hK => go_run rfl (wo_mv (.tmp 2) (.int .i64 ((s : Nat) : Int)) (fun _ => rfl) e40_2 (hK _ (Mo.refl _))))
                  · exact og_eq (pt k2 16) rfl (fun f wf hq hd K hK => go_run rfl (wo_un (fun v => Instr.fieldAt 64 v 7) (.tmp 7) (pt k2 0) (pt k2 16) (fun _ => rfl) e40_7 (by kernel_rfl) (hK _ (Mo.refl _))))
                  · exact og_eq (.slice x.pa x.args.length x.cap) rfl (fun f wf hq hd K hK => have Q2 := Q2.mo hq; go_run rfl (wo_load 62 (.tmp 85) (pt k2 16) (.slice x.pa x.args.length x.cap) rfl (hd 3 rfl) (run_one Q2 62 16 rfl Try.underlying62 rfl) (hK _ (Mo.refl _))))
                  · exact og_eq (.int .i64 ((i : Nat) : Int)) rfl (fun f wf hq hd K hK => go_run rfl (wo_mv (.tmp 18) (.int .i64 ((i : Nat) : Int)) (fun _ => rfl) e40_i (hK _ (Mo.refl _))))
                  · exact og_eq (pt bp (op + i * 17)) rfl (fun f wf hq hd K hK => go_run rfl (wo_bin (fun x y => Instr.indexAt 62 x y) (.tmp 86) (.tmp 87) (.slice x.pa x.args.length x.cap) (.int .i64 ((i : Nat) : Int)) (pt bp (op + i * 17)) (fun _ => rfl) (hd 4 rfl) (hd 5 rfl) (ix62 (i := i) hpp hil _) (hK _ (Mo.refl _))))
                  · exact og_eq (.agg (a.cells).toArray) rfl (fun f wf hq hd K hK => go_run rfl (wo_load 64 (.tmp 88) (pt bp (op + i * 17)) (.agg (a.cells).toArray) rfl (hd 6 rfl) (D.run_partR (hRp.mo (M.trans hq)).at' 64 0 17 (a.cells) rfl Try.underlying64 rfl sz64) (hK _ (Mo.refl _))))
                intro kf41 u41 hq hR hne
                replace Q1 := Q1.mo hq
                replace Q2 := Q2.mo hq
                replace M := M.trans hq
                clear hq hR hne
                refine wl_call 39 [(.tmp 82), (.tmp 83), (.tmp 84), (.tmp 89)] _ [.agg (d.cells).toArray, .slice pa L.length c, .int .i64 ((s : Nat) : Int), .agg (a.cells).toArray] (.bool false) rfl rfl (fun _ _ => by kernel_rfl) (cB hf30 (ih a hma (hD.kp M.kp) ((hL.ar a hma).kp M.kp) (hS.kp M.kp) (fun y hy => (h5 y hy).kp M.kp))) rfl ?_
                intro u42 hq
                replace Q1 := Q1.mo hq
                replace Q2 := Q2.mo hq
                replace M := M.trans hq
                clear hq
                refine w_nil ?_
                refine xn_then ?_
                refine w_condF rfl ?_
                refine w_skip ?_
                refine xn_blk ?_
                refine xn_then ?_
                refine w_reg ?_
                refine wl_mv (.tmp 18) (.int .i64 ((i : Nat) : Int)) (fun _ => rfl) e40_i rfl ?_
                refine wl_bin (fun x y => do eqGuard .add 3 (.tmp 80) (.const (.int .i64 (1))) x y; binOp .add 3 x y) (.tmp 80) (.const (.int .i64 (1))) (.int .i64 ((i : Nat) : Int)) (.int .i64 (1)) (.int .i64 ((i + 1 : Nat) : Int)) (fun _ => rfl) rfl rfl (add1r (k := i) (by omega) _ _ _) rfl ?_
                refine wl_mv (.tmp 81) (.int .i64 ((i + 1 : Nat) : Int)) (fun _ => rfl) rfl rfl ?_
                refine w_nil ?_
                exact xn_loop (x.args.length - (i + 1)) (by omega) ⟨i + 1, rfl, by omega, e40_1, e40_2, e40_4, e40_7, rfl, Q1, Q2, any_take hT hx hf30, M⟩
            · skip
              have hid : decide (i < x.args.length) = false := decide_eq_false hil
              have hie : i = x.args.length := by omega
              refine w_seq ?_
              refine w_seq ?_
              refine w_reg ?_
              refine wl_mv (.tmp 18) (.int .i64 ((i : Nat) : Int)) (fun _ => rfl) e40_i rfl ?_
              refine wl_un (fun v => Instr.fieldAt 64 v 7) (.tmp 7) (pt k2 0) (pt k2 16) (fun _ => rfl) e40_7 (by kernel_rfl) rfl ?_
              refine wl_load 62 (.tmp 76) (pt k2 16) (.slice x.pa x.args.length x.cap) rfl rfl (run_one Q2 62 16 rfl Try.underlying62 rfl) rfl ?_
              refine wl_val (.int .i64 ((x.args.length : Nat) : Int)) (len62 _ _ _ _ _ (by exact rfl) _ _ _ _ _ _) rfl ?_
              refine wl_bin (fun x y => do eqGuard .lss 3 (.tmp 75) (.tmp 78) x y; binOp .lss 3 x y) (.tmp 75) (.tmp 78) (.int .i64 ((i : Nat) : Int)) (.int .i64 ((x.args.length : Nat) : Int)) (.bool false) (fun _ => rfl) rfl rfl (ltN hid _ _ _) rfl ?_
              refine w_nil ?_
              refine xn_then ?_
              refine w_condF rfl ?_
              refine w_exit ?_
              refine xx_then ?_
              refine xx_then ?_
              refine xx_blk ?_
              refine xn_then ?_
              refine w_seq ?_
              refine w_reg ?_
              refine wl_mv (.const (.bool false)) (.bool false) (fun _ => rfl) rfl rfl ?_
              refine w_nil ?_
              refine xn_then ?_
              refine w_ret ?_
              exact w_ret1 _ (.bool false) rfl rfl ⟨by rw [lck_eq, hkn, any_all hT hie]; rfl, M⟩
          | false =>
            have hf4p := of_decide_eq_false hf4
            refine wl_bin (fun x y => do eqGuard .neq 3 (.tmp 61) (.const (.int .i64 (16))) x y; binOp .neq 3 x y) (.tmp 61) (.const (.int .i64 (16))) (.int .i64 (x.op)) (.int .i64 (16)) (.bool true) (fun _ => rfl) rfl rfl (ne3 hf4 _ _ _) rfl ?_
            refine wl_pick (.tmp 59) (.tmp 62) (.const (.bool false)) true (.bool true) (fun _ => rfl) rfl rfl rfl ?_
            refine w_nil ?_
            refine xn_then ?_
            refine w_condT rfl ?_
            refine w_seq ?_
            refine w_reg ?_
            refine wl_mv (.const (.bool true)) (.bool true) (fun _ => rfl) rfl rfl ?_
            refine w_nil ?_
            refine xn_then ?_
            refine w_ret ?_
            refine xr_blk ?_
            refine xr_then ?_
            exact w_ret1 _ (.bool true) rfl rfl ⟨by rw [lck_eq, show knoR d L s x = false from by unfold knoR; rw [if_neg hf0p, if_pos hf1p, hf2, itO_of hy, hf3, hf4]; first | done | rfl]; rfl, M⟩
      | false =>
        refine wl_call 15 [(.tmp 37), (.tmp 38), (.tmp 40)] _ [.slice pa L.length c, .int .i64 ((s : Nat) : Int), .string x.se] (.tuple #[.int .i64 (((ffi (kdP s x.se) L).getD 0 : Nat) : Int), .bool false]) rfl rfl (fun _ _ => by kernel_rfl) (by have h := kid_n (c := c) (hS.kp M.kp) hz s x.se; rw [hf2] at h; exact h) rfl ?_
        intro u3 hq
        replace Q1 := Q1.mo hq
        replace Q2 := Q2.mo hq
        replace M := M.trans hq
        clear hq
        refine wl_mv (.tmp 41) (.tuple #[.int .i64 (((ffi (kdP s x.se) L).getD 0 : Nat) : Int), .bool false]) (fun _ => rfl) rfl rfl ?_
        refine wl_un (fun v => Instr.extract v 0) (.tmp 36) (.tuple #[.int .i64 (((ffi (kdP s x.se) L).getD 0 : Nat) : Int), .bool false]) (.int .i64 (((ffi (kdP s x.se) L).getD 0 : Nat) : Int)) (fun _ => rfl) rfl (by kernel_rfl) rfl ?_
        refine wl_un (fun v => Instr.extract v 1) (.tmp 36) (.tuple #[.int .i64 (((ffi (kdP s x.se) L).getD 0 : Nat) : Int), .bool false]) (.bool false) (fun _ => rfl) rfl (by kernel_rfl) rfl ?_
        refine wl_mv (.tmp 42) (.int .i64 (((ffi (kdP s x.se) L).getD 0 : Nat) : Int)) (fun _ => rfl) rfl rfl ?_
        refine wl_mv (.tmp 43) (.bool false) (fun _ => rfl) rfl rfl ?_
        refine w_nil ?_
        refine xn_then ?_
        refine w_seq ?_
        refine w_seq ?_
        refine w_reg ?_
        refine wl_mv (.tmp 13) (.bool false) (fun _ => rfl) rfl rfl ?_
        refine wl_un (fun v => Op.unary .not v) (.tmp 44) (.bool false) (.bool true) (fun _ => rfl) rfl (by kernel_rfl) rfl ?_
        refine w_nil ?_
        refine xn_then ?_
        refine w_condT rfl ?_
        refine w_seq ?_
        refine w_reg ?_
        refine wl_mv (.const (.bool true)) (.bool true) (fun _ => rfl) rfl rfl ?_
        refine w_nil ?_
        refine xn_then ?_
        refine w_ret ?_
        refine xr_then ?_
        refine xr_blk ?_
        refine xr_then ?_
        exact w_ret1 _ (.bool true) rfl rfl ⟨by rw [lck_eq, show knoR d L s x = false from by unfold knoR; rw [if_neg hf0p, if_pos hf1p, hf2]; first | done | rfl]; rfl, M⟩
    | false =>
      have hf1p := of_decide_eq_false hf1
      refine wl_bin (fun x y => do eqGuard .eql 3 (.tmp 20) (.const (.int .i64 (10))) x y; binOp .eql 3 x y) (.tmp 20) (.const (.int .i64 (10))) (.int .i64 (x.k)) (.int .i64 (10)) (.bool false) (fun _ => rfl) rfl rfl (eq3 hf1 _ _ _) rfl ?_
      refine wl_mv (.tmp 35) (.bool false) (fun _ => rfl) rfl rfl ?_
      refine w_nil ?_
      refine xn_then ?_
      refine w_condF rfl ?_
      refine w_seq ?_
      refine w_reg ?_
      cases hf2 : decide (x.k = 8) with
      | true =>
        have hf2p := of_decide_eq_true hf2
        refine wl_bin (fun x y => do eqGuard .eql 3 (.tmp 20) (.const (.int .i64 (8))) x y; binOp .eql 3 x y) (.tmp 20) (.const (.int .i64 (8))) (.int .i64 (x.k)) (.int .i64 (8)) (.bool true) (fun _ => rfl) rfl rfl (eq3 hf2 _ _ _) rfl ?_
        refine wl_mv (.tmp 65) (.bool true) (fun _ => rfl) rfl rfl ?_
        refine w_nil ?_
        refine xn_then ?_
        refine w_condT rfl ?_
        refine w_seq ?_
        refine w_reg ?_
        refine wl_load 29 (.tmp 4) (pt k1 0) (.agg (d.cells).toArray) rfl rfl (run_row Q1 29 0 7 (d.cells) rfl Try.underlying29 rfl sz29) rfl ?_
        refine wl_un (fun v => Instr.fieldAt 64 v 2) (.tmp 7) (pt k2 0) (pt k2 2) (fun _ => rfl) rfl (by kernel_rfl) rfl ?_
        refine wl_load 9 (.tmp 68) (pt k2 2) (.string x.nm) rfl rfl (run_one Q2 9 2 rfl Try.underlying9 rfl) rfl ?_
        cases hf3 : (tF d.tb x.nm).isSome with
        | true =>
          refine wl_call 17 [(.tmp 67), (.tmp 69)] _ [.agg (d.cells).toArray, .string x.nm] (.tuple #[.int .i64 (((tF d.tb x.nm).getD 0 : Nat) : Int), .bool true]) rfl rfl (fun _ _ => by kernel_rfl) (by have h := rtab_n d x.nm (hD.kp M.kp); rw [hf3] at h; exact h) rfl ?_
          intro u3 hq
          replace Q1 := Q1.mo hq
          replace Q2 := Q2.mo hq
          replace M := M.trans hq
          clear hq
          refine wl_mv (.tmp 70) (.tuple #[.int .i64 (((tF d.tb x.nm).getD 0 : Nat) : Int), .bool true]) (fun _ => rfl) rfl rfl ?_
          refine wl_un (fun v => Instr.extract v 0) (.tmp 66) (.tuple #[.int .i64 (((tF d.tb x.nm).getD 0 : Nat) : Int), .bool true]) (.int .i64 (((tF d.tb x.nm).getD 0 : Nat) : Int)) (fun _ => rfl) rfl (by kernel_rfl) rfl ?_
          refine wl_un (fun v => Instr.extract v 1) (.tmp 66) (.tuple #[.int .i64 (((tF d.tb x.nm).getD 0 : Nat) : Int), .bool true]) (.bool true) (fun _ => rfl) rfl (by kernel_rfl) rfl ?_
          refine wl_mv (.tmp 71) (.int .i64 (((tF d.tb x.nm).getD 0 : Nat) : Int)) (fun _ => rfl) rfl rfl ?_
          refine wl_mv (.tmp 72) (.bool true) (fun _ => rfl) rfl rfl ?_
          refine w_nil ?_
          refine xn_then ?_
          refine w_seq ?_
          refine w_reg ?_
          refine wl_mv (.tmp 17) (.bool true) (fun _ => rfl) rfl rfl ?_
          refine wl_un (fun v => Op.unary .not v) (.tmp 73) (.bool true) (.bool false) (fun _ => rfl) rfl (by kernel_rfl) rfl ?_
          refine w_nil ?_
          refine xn_then ?_
          refine w_condF rfl ?_
          refine w_skip ?_
          refine xn_blk ?_
          refine xn_then ?_
          refine w_seq ?_
          refine w_seq ?_
          refine w_reg ?_
          refine wl_mv (.const (.int .i64 (0))) (.int .i64 (0)) (fun _ => rfl) rfl rfl ?_
          refine w_nil ?_
          refine xn_then ?_
          refine w_block ?_
          have hkn : knoR d L s x = true := by unfold knoR; rw [if_neg hf0p, if_neg hf1p, if_pos hf2p, hf3]
          have hza := hL.sl.1
          unfold maxLen at hza
          refine w_loop (fun m l w1 => ∃ i : Nat, m = x.args.length - i ∧ i ≤ x.args.length ∧ look l 1 = .slice pa L.length c ∧ look l 2 = .int .i64 ((s : Nat) : Int) ∧ look l 4 = pt k1 0 ∧ look l 7 = pt k2 0 ∧ look l 18 = .int .i64 ((i : Nat) : Int) ∧ At w1 k1 (d.cells) ∧ At w1 k2 (x.cells) ∧ ((x.args.take i).any (lck (knoR d L s)) = false) ∧ Mo w w1) _ ⟨0, rfl, Nat.zero_le _, rfl, rfl, rfl, rfl, rfl, Q1, Q2, rfl, M⟩ ?_
          clear Q1 Q2 M
          rintro m l40 wl40 ⟨i, rfl, hi, e40_1, e40_2, e40_4, e40_7, e40_i, Q1, Q2, hT, M⟩
          by_cases hil : i < x.args.length
          · skip
            have hid : decide (i < x.args.length) = true := decide_eq_true hil
            obtain ⟨a, hx⟩ := get_of_lt hil
            have hma := List.mem_of_getElem? hx
            obtain ⟨bp, op, hpp, hRp⟩ := D.SL.rw hL.sl hx
            refine w_seq ?_
            refine w_seq ?_
            refine w_reg ?_
            refine wl_mv (.tmp 18) (.int .i64 ((i : Nat) : Int)) (fun _ => rfl) e40_i rfl ?_
            refine wl_un (fun v => Instr.fieldAt 64 v 7) (.tmp 7) (pt k2 0) (pt k2 16) (fun _ => rfl) e40_7 (by kernel_rfl) rfl ?_
            refine wl_load 62 (.tmp 76) (pt k2 16) (.slice x.pa x.args.length x.cap) rfl rfl (run_one Q2 62 16 rfl Try.underlying62 rfl) rfl ?_
            refine wl_val (.int .i64 ((x.args.length : Nat) : Int)) (len62 _ _ _ _ _ (by exact rfl) _ _ _ _ _ _) rfl ?_
            refine wl_bin (fun x y => do eqGuard .lss 3 (.tmp 75) (.tmp 78) x y; binOp .lss 3 x y) (.tmp 75) (.tmp 78) (.int .i64 ((i : Nat) : Int)) (.int .i64 ((x.args.length : Nat) : Int)) (.bool true) (fun _ => rfl) rfl rfl (ltN hid _ _ _) rfl ?_
            refine w_nil ?_
            refine xn_then ?_
            refine w_condT rfl ?_
            refine w_skip ?_
            refine xn_then ?_
            refine w_seq ?_
            refine w_block ?_
            refine w_seq ?_
            cases hf30 : lck (knoR d L s) a with
            | true =>
              refine w_any 8 [.inl (.agg (d.cells).toArray), .inl (.slice pa L.length c), .inl (.int .i64 ((s : Nat) : Int)), .inl (pt k2 16), .inl (.slice x.pa x.args.length x.cap), .inl (.int .i64 ((i : Nat) : Int)), .inl (pt bp (op + i * 17)), .inl (.agg (a.cells).toArray)] [] (by kernel_rfl) (by kernel_rfl) (by kernel_rfl) (by kernel_rfl) rfl (by kernel_rfl) (by kernel_rfl) late_nil ?_ ?_ ?_
              · exact Ds.none rfl
              · refine ea_cons ?_ (ea_cons ?_ (ea_cons ?_ (ea_cons ?_ (ea_cons ?_ (ea_cons ?_ (ea_cons ?_ (ea_cons ?_ (ea_nil))))))))
                · exact og_eq (.agg (d.cells).toArray) rfl (fun f wf hq hd K hK => have Q1 := Q1.mo hq; go_run rfl (wo_load 29 (.tmp 4) (pt k1 0) (.agg (d.cells).toArray) rfl e40_4 (run_row Q1 29 0 7 (d.cells) rfl Try.underlying29 rfl sz29) (hK _ (Mo.refl _))))
                · exact og_eq (.slice pa L.length c) rfl (fun f wf hq hd K hK => go_run rfl (wo_mv (.tmp 1) (.slice pa L.length c) (fun _ => rfl) e40_1 (hK _ (Mo.refl _))))
                · exact og_eq (.int .i64 ((s : Nat) : Int)) rfl (fun f wf hq hd K hK => go_run rfl (wo_mv (.tmp 2) (.int .i64 ((s : Nat) : Int)) (fun _ => rfl) e40_2 (hK _ (Mo.refl _))))
                · exact og_eq (pt k2 16) rfl (fun f wf hq hd K hK => go_run rfl (wo_un (fun v => Instr.fieldAt 64 v 7) (.tmp 7) (pt k2 0) (pt k2 16) (fun _ => rfl) e40_7 (by kernel_rfl) (hK _ (Mo.refl _))))
                · exact og_eq (.slice x.pa x.args.length x.cap) rfl (fun f wf hq hd K hK => have Q2 := Q2.mo hq; go_run rfl (wo_load 62 (.tmp 85) (pt k2 16) (.slice x.pa x.args.length x.cap) rfl (hd 3 rfl) (run_one Q2 62 16 rfl Try.underlying62 rfl) (hK _ (Mo.refl _))))
                · exact og_eq (.int .i64 ((i : Nat) : Int)) rfl (fun f wf hq hd K hK => go_run rfl (wo_mv (.tmp 18) (.int .i64 ((i : Nat) : Int)) (fun _ => rfl) e40_i (hK _ (Mo.refl _))))
                · exact og_eq (pt bp (op + i * 17)) rfl (fun f wf hq hd K hK => go_run rfl (wo_bin (fun x y => Instr.indexAt 62 x y) (.tmp 86) (.tmp 87) (.slice x.pa x.args.length x.cap) (.int .i64 ((i : Nat) : Int)) (pt bp (op + i * 17)) (fun _ => rfl) (hd 4 rfl) (hd 5 rfl) (ix62 (i := i) hpp hil _) (hK _ (Mo.refl _))))
                · exact og_eq (.agg (a.cells).toArray) rfl (fun f wf hq hd K hK => go_run rfl (wo_load 64 (.tmp 88) (pt bp (op + i * 17)) (.agg (a.cells).toArray) rfl (hd 6 rfl) (D.run_partR (hRp.mo (M.trans hq)).at' 64 0 17 (a.cells) rfl Try.underlying64 rfl sz64) (hK _ (Mo.refl _))))
              intro kf41 u41 hq hR hne
              replace Q1 := Q1.mo hq
              replace Q2 := Q2.mo hq
              replace M := M.trans hq
              clear hq hR hne
              refine wl_call 39 [(.tmp 82), (.tmp 83), (.tmp 84), (.tmp 89)] _ [.agg (d.cells).toArray, .slice pa L.length c, .int .i64 ((s : Nat) : Int), .agg (a.cells).toArray] (.bool true) rfl rfl (fun _ _ => by kernel_rfl) (cB hf30 (ih a hma (hD.kp M.kp) ((hL.ar a hma).kp M.kp) (hS.kp M.kp) (fun y hy => (h5 y hy).kp M.kp))) rfl ?_
              intro u42 hq
              replace Q1 := Q1.mo hq
              replace Q2 := Q2.mo hq
              replace M := M.trans hq
              clear hq
              refine w_nil ?_
              refine xn_then ?_
              refine w_condT rfl ?_
              refine w_seq ?_
              refine w_reg ?_
              refine wl_mv (.const (.bool true)) (.bool true) (fun _ => rfl) rfl rfl ?_
              refine w_nil ?_
              refine xn_then ?_
              refine w_ret ?_
              refine xr_blk ?_
              refine xr_then ?_
              refine xr_then ?_
              refine xr_blk ?_
              refine xr_then ?_
              exact w_ret1 _ (.bool true) rfl rfl ⟨by rw [lck_eq, hkn, any_hit hx hf30]; rfl, M⟩
            | false =>
              refine w_any 8 [.inl (.agg (d.cells).toArray), .inl (.slice pa L.length c), .inl (.int .i64 ((s : Nat) : Int)), .inl (pt k2 16), .inl (.slice x.pa x.args.length x.cap), .inl (.int .i64 ((i : Nat) : Int)), .inl (pt bp (op + i * 17)), .inl (.agg (a.cells).toArray)] [] (by kernel_rfl) (by kernel_rfl) (by kernel_rfl) (by kernel_rfl) rfl (by kernel_rfl) (by kernel_rfl) late_nil ?_ ?_ ?_
              · exact Ds.none rfl
              · refine ea_cons ?_ (ea_cons ?_ (ea_cons ?_ (ea_cons ?_ (ea_cons ?_ (ea_cons ?_ (ea_cons ?_ (ea_cons ?_ (ea_nil))))))))
                · exact og_eq (.agg (d.cells).toArray) rfl (fun f wf hq hd K hK => have Q1 := Q1.mo hq; go_run rfl (wo_load 29 (.tmp 4) (pt k1 0) (.agg (d.cells).toArray) rfl e40_4 (run_row Q1 29 0 7 (d.cells) rfl Try.underlying29 rfl sz29) (hK _ (Mo.refl _))))
                · exact og_eq (.slice pa L.length c) rfl (fun f wf hq hd K hK => go_run rfl (wo_mv (.tmp 1) (.slice pa L.length c) (fun _ => rfl) e40_1 (hK _ (Mo.refl _))))
                · exact og_eq (.int .i64 ((s : Nat) : Int)) rfl (fun f wf hq hd K hK => go_run rfl (wo_mv (.tmp 2) (.int .i64 ((s : Nat) : Int)) (fun _ => rfl) e40_2 (hK _ (Mo.refl _))))
                · exact og_eq (pt k2 16) rfl (fun f wf hq hd K hK => go_run rfl (wo_un (fun v => Instr.fieldAt 64 v 7) (.tmp 7) (pt k2 0) (pt k2 16) (fun _ => rfl) e40_7 (by kernel_rfl) (hK _ (Mo.refl _))))
                · exact og_eq (.slice x.pa x.args.length x.cap) rfl (fun f wf hq hd K hK => have Q2 := Q2.mo hq; go_run rfl (wo_load 62 (.tmp 85) (pt k2 16) (.slice x.pa x.args.length x.cap) rfl (hd 3 rfl) (run_one Q2 62 16 rfl Try.underlying62 rfl) (hK _ (Mo.refl _))))
                · exact og_eq (.int .i64 ((i : Nat) : Int)) rfl (fun f wf hq hd K hK => go_run rfl (wo_mv (.tmp 18) (.int .i64 ((i : Nat) : Int)) (fun _ => rfl) e40_i (hK _ (Mo.refl _))))
                · exact og_eq (pt bp (op + i * 17)) rfl (fun f wf hq hd K hK => go_run rfl (wo_bin (fun x y => Instr.indexAt 62 x y) (.tmp 86) (.tmp 87) (.slice x.pa x.args.length x.cap) (.int .i64 ((i : Nat) : Int)) (pt bp (op + i * 17)) (fun _ => rfl) (hd 4 rfl) (hd 5 rfl) (ix62 (i := i) hpp hil _) (hK _ (Mo.refl _))))
                · exact og_eq (.agg (a.cells).toArray) rfl (fun f wf hq hd K hK => go_run rfl (wo_load 64 (.tmp 88) (pt bp (op + i * 17)) (.agg (a.cells).toArray) rfl (hd 6 rfl) (D.run_partR (hRp.mo (M.trans hq)).at' 64 0 17 (a.cells) rfl Try.underlying64 rfl sz64) (hK _ (Mo.refl _))))
              intro kf41 u41 hq hR hne
              replace Q1 := Q1.mo hq
              replace Q2 := Q2.mo hq
              replace M := M.trans hq
              clear hq hR hne
              refine wl_call 39 [(.tmp 82), (.tmp 83), (.tmp 84), (.tmp 89)] _ [.agg (d.cells).toArray, .slice pa L.length c, .int .i64 ((s : Nat) : Int), .agg (a.cells).toArray] (.bool false) rfl rfl (fun _ _ => by kernel_rfl) (cB hf30 (ih a hma (hD.kp M.kp) ((hL.ar a hma).kp M.kp) (hS.kp M.kp) (fun y hy => (h5 y hy).kp M.kp))) rfl ?_
              intro u42 hq
              replace Q1 := Q1.mo hq
              replace Q2 := Q2.mo hq
              replace M := M.trans hq
              clear hq
              refine w_nil ?_
              refine xn_then ?_
              refine w_condF rfl ?_
              refine w_skip ?_
              refine xn_blk ?_
              refine xn_then ?_
              refine w_reg ?_
              refine wl_mv (.tmp 18) (.int .i64 ((i : Nat) : Int)) (fun _ => rfl) e40_i rfl ?_
              refine wl_bin (fun x y => do eqGuard .add 3 (.tmp 80) (.const (.int .i64 (1))) x y; binOp .add 3 x y) (.tmp 80) (.const (.int .i64 (1))) (.int .i64 ((i : Nat) : Int)) (.int .i64 (1)) (.int .i64 ((i + 1 : Nat) : Int)) (fun _ => rfl) rfl rfl (add1r (k := i) (by omega) _ _ _) rfl ?_
              refine wl_mv (.tmp 81) (.int .i64 ((i + 1 : Nat) : Int)) (fun _ => rfl) rfl rfl ?_
              refine w_nil ?_
              exact xn_loop (x.args.length - (i + 1)) (by omega) ⟨i + 1, rfl, by omega, e40_1, e40_2, e40_4, e40_7, rfl, Q1, Q2, any_take hT hx hf30, M⟩
          · skip
            have hid : decide (i < x.args.length) = false := decide_eq_false hil
            have hie : i = x.args.length := by omega
            refine w_seq ?_
            refine w_seq ?_
            refine w_reg ?_
            refine wl_mv (.tmp 18) (.int .i64 ((i : Nat) : Int)) (fun _ => rfl) e40_i rfl ?_
            refine wl_un (fun v => Instr.fieldAt 64 v 7) (.tmp 7) (pt k2 0) (pt k2 16) (fun _ => rfl) e40_7 (by kernel_rfl) rfl ?_
            refine wl_load 62 (.tmp 76) (pt k2 16) (.slice x.pa x.args.length x.cap) rfl rfl (run_one Q2 62 16 rfl Try.underlying62 rfl) rfl ?_
            refine wl_val (.int .i64 ((x.args.length : Nat) : Int)) (len62 _ _ _ _ _ (by exact rfl) _ _ _ _ _ _) rfl ?_
            refine wl_bin (fun x y => do eqGuard .lss 3 (.tmp 75) (.tmp 78) x y; binOp .lss 3 x y) (.tmp 75) (.tmp 78) (.int .i64 ((i : Nat) : Int)) (.int .i64 ((x.args.length : Nat) : Int)) (.bool false) (fun _ => rfl) rfl rfl (ltN hid _ _ _) rfl ?_
            refine w_nil ?_
            refine xn_then ?_
            refine w_condF rfl ?_
            refine w_exit ?_
            refine xx_then ?_
            refine xx_then ?_
            refine xx_blk ?_
            refine xn_then ?_
            refine w_seq ?_
            refine w_reg ?_
            refine wl_mv (.const (.bool false)) (.bool false) (fun _ => rfl) rfl rfl ?_
            refine w_nil ?_
            refine xn_then ?_
            refine w_ret ?_
            exact w_ret1 _ (.bool false) rfl rfl ⟨by rw [lck_eq, hkn, any_all hT hie]; rfl, M⟩
        | false =>
          refine wl_call 17 [(.tmp 67), (.tmp 69)] _ [.agg (d.cells).toArray, .string x.nm] (.tuple #[.int .i64 (((tF d.tb x.nm).getD 0 : Nat) : Int), .bool false]) rfl rfl (fun _ _ => by kernel_rfl) (by have h := rtab_n d x.nm (hD.kp M.kp); rw [hf3] at h; exact h) rfl ?_
          intro u3 hq
          replace Q1 := Q1.mo hq
          replace Q2 := Q2.mo hq
          replace M := M.trans hq
          clear hq
          refine wl_mv (.tmp 70) (.tuple #[.int .i64 (((tF d.tb x.nm).getD 0 : Nat) : Int), .bool false]) (fun _ => rfl) rfl rfl ?_
          refine wl_un (fun v => Instr.extract v 0) (.tmp 66) (.tuple #[.int .i64 (((tF d.tb x.nm).getD 0 : Nat) : Int), .bool false]) (.int .i64 (((tF d.tb x.nm).getD 0 : Nat) : Int)) (fun _ => rfl) rfl (by kernel_rfl) rfl ?_
          refine wl_un (fun v => Instr.extract v 1) (.tmp 66) (.tuple #[.int .i64 (((tF d.tb x.nm).getD 0 : Nat) : Int), .bool false]) (.bool false) (fun _ => rfl) rfl (by kernel_rfl) rfl ?_
          refine wl_mv (.tmp 71) (.int .i64 (((tF d.tb x.nm).getD 0 : Nat) : Int)) (fun _ => rfl) rfl rfl ?_
          refine wl_mv (.tmp 72) (.bool false) (fun _ => rfl) rfl rfl ?_
          refine w_nil ?_
          refine xn_then ?_
          refine w_seq ?_
          refine w_reg ?_
          refine wl_mv (.tmp 17) (.bool false) (fun _ => rfl) rfl rfl ?_
          refine wl_un (fun v => Op.unary .not v) (.tmp 73) (.bool false) (.bool true) (fun _ => rfl) rfl (by kernel_rfl) rfl ?_
          refine w_nil ?_
          refine xn_then ?_
          refine w_condT rfl ?_
          refine w_seq ?_
          refine w_reg ?_
          refine wl_mv (.const (.bool true)) (.bool true) (fun _ => rfl) rfl rfl ?_
          refine w_nil ?_
          refine xn_then ?_
          refine w_ret ?_
          refine xr_blk ?_
          refine xr_then ?_
          exact w_ret1 _ (.bool true) rfl rfl ⟨by rw [lck_eq, show knoR d L s x = false from by unfold knoR; rw [if_neg hf0p, if_neg hf1p, if_pos hf2p, hf3]]; rfl, M⟩
      | false =>
        have hf2p := of_decide_eq_false hf2
        refine wl_bin (fun x y => do eqGuard .eql 3 (.tmp 20) (.const (.int .i64 (8))) x y; binOp .eql 3 x y) (.tmp 20) (.const (.int .i64 (8))) (.int .i64 (x.k)) (.int .i64 (8)) (.bool false) (fun _ => rfl) rfl rfl (eq3 hf2 _ _ _) rfl ?_
        refine wl_mv (.tmp 65) (.bool false) (fun _ => rfl) rfl rfl ?_
        refine w_nil ?_
        refine xn_then ?_
        refine w_condF rfl ?_
        refine w_skip ?_
        refine xn_blk ?_
        refine xn_then ?_
        refine w_seq ?_
        refine w_seq ?_
        refine w_reg ?_
        refine wl_mv (.const (.int .i64 (0))) (.int .i64 (0)) (fun _ => rfl) rfl rfl ?_
        refine w_nil ?_
        refine xn_then ?_
        refine w_block ?_
        have hkn : knoR d L s x = true := by unfold knoR; rw [if_neg hf0p, if_neg hf1p, if_neg hf2p]
        have hza := hL.sl.1
        unfold maxLen at hza
        refine w_loop (fun m l w1 => ∃ i : Nat, m = x.args.length - i ∧ i ≤ x.args.length ∧ look l 1 = .slice pa L.length c ∧ look l 2 = .int .i64 ((s : Nat) : Int) ∧ look l 4 = pt k1 0 ∧ look l 7 = pt k2 0 ∧ look l 18 = .int .i64 ((i : Nat) : Int) ∧ At w1 k1 (d.cells) ∧ At w1 k2 (x.cells) ∧ ((x.args.take i).any (lck (knoR d L s)) = false) ∧ Mo w w1) _ ⟨0, rfl, Nat.zero_le _, rfl, rfl, rfl, rfl, rfl, Q1, Q2, rfl, M⟩ ?_
        clear Q1 Q2 M
        rintro m l40 wl40 ⟨i, rfl, hi, e40_1, e40_2, e40_4, e40_7, e40_i, Q1, Q2, hT, M⟩
        by_cases hil : i < x.args.length
        · skip
          have hid : decide (i < x.args.length) = true := decide_eq_true hil
          obtain ⟨a, hx⟩ := get_of_lt hil
          have hma := List.mem_of_getElem? hx
          obtain ⟨bp, op, hpp, hRp⟩ := D.SL.rw hL.sl hx
          refine w_seq ?_
          refine w_seq ?_
          refine w_reg ?_
          refine wl_mv (.tmp 18) (.int .i64 ((i : Nat) : Int)) (fun _ => rfl) e40_i rfl ?_
          refine wl_un (fun v => Instr.fieldAt 64 v 7) (.tmp 7) (pt k2 0) (pt k2 16) (fun _ => rfl) e40_7 (by kernel_rfl) rfl ?_
          refine wl_load 62 (.tmp 76) (pt k2 16) (.slice x.pa x.args.length x.cap) rfl rfl (run_one Q2 62 16 rfl Try.underlying62 rfl) rfl ?_
          refine wl_val (.int .i64 ((x.args.length : Nat) : Int)) (len62 _ _ _ _ _ (by exact rfl) _ _ _ _ _ _) rfl ?_
          refine wl_bin (fun x y => do eqGuard .lss 3 (.tmp 75) (.tmp 78) x y; binOp .lss 3 x y) (.tmp 75) (.tmp 78) (.int .i64 ((i : Nat) : Int)) (.int .i64 ((x.args.length : Nat) : Int)) (.bool true) (fun _ => rfl) rfl rfl (ltN hid _ _ _) rfl ?_
          refine w_nil ?_
          refine xn_then ?_
          refine w_condT rfl ?_
          refine w_skip ?_
          refine xn_then ?_
          refine w_seq ?_
          refine w_block ?_
          refine w_seq ?_
          cases hf30 : lck (knoR d L s) a with
          | true =>
            refine w_any 8 [.inl (.agg (d.cells).toArray), .inl (.slice pa L.length c), .inl (.int .i64 ((s : Nat) : Int)), .inl (pt k2 16), .inl (.slice x.pa x.args.length x.cap), .inl (.int .i64 ((i : Nat) : Int)), .inl (pt bp (op + i * 17)), .inl (.agg (a.cells).toArray)] [] (by kernel_rfl) (by kernel_rfl) (by kernel_rfl) (by kernel_rfl) rfl (by kernel_rfl) (by kernel_rfl) late_nil ?_ ?_ ?_
            · exact Ds.none rfl
            · refine ea_cons ?_ (ea_cons ?_ (ea_cons ?_ (ea_cons ?_ (ea_cons ?_ (ea_cons ?_ (ea_cons ?_ (ea_cons ?_ (ea_nil))))))))
              · exact og_eq (.agg (d.cells).toArray) rfl (fun f wf hq hd K hK => have Q1 := Q1.mo hq; go_run rfl (wo_load 29 (.tmp 4) (pt k1 0) (.agg (d.cells).toArray) rfl e40_4 (run_row Q1 29 0 7 (d.cells) rfl Try.underlying29 rfl sz29) (hK _ (Mo.refl _))))
              · exact og_eq (.slice pa L.length c) rfl (fun f wf hq hd K hK => go_run rfl (wo_mv (.tmp 1) (.slice pa L.length c) (fun _ => rfl) e40_1 (hK _ (Mo.refl _))))
              · exact og_eq (.int .i64 ((s : Nat) : Int)) rfl (fun f wf hq hd K hK => go_run rfl (wo_mv (.tmp 2) (.int .i64 ((s : Nat) : Int)) (fun _ => rfl) e40_2 (hK _ (Mo.refl _))))
              · exact og_eq (pt k2 16) rfl (fun f wf hq hd K hK => go_run rfl (wo_un (fun v => Instr.fieldAt 64 v 7) (.tmp 7) (pt k2 0) (pt k2 16) (fun _ => rfl) e40_7 (by kernel_rfl) (hK _ (Mo.refl _))))
              · exact og_eq (.slice x.pa x.args.length x.cap) rfl (fun f wf hq hd K hK => have Q2 := Q2.mo hq; go_run rfl (wo_load 62 (.tmp 85) (pt k2 16) (.slice x.pa x.args.length x.cap) rfl (hd 3 rfl) (run_one Q2 62 16 rfl Try.underlying62 rfl) (hK _ (Mo.refl _))))
              · exact og_eq (.int .i64 ((i : Nat) : Int)) rfl (fun f wf hq hd K hK => go_run rfl (wo_mv (.tmp 18) (.int .i64 ((i : Nat) : Int)) (fun _ => rfl) e40_i (hK _ (Mo.refl _))))
              · exact og_eq (pt bp (op + i * 17)) rfl (fun f wf hq hd K hK => go_run rfl (wo_bin (fun x y => Instr.indexAt 62 x y) (.tmp 86) (.tmp 87) (.slice x.pa x.args.length x.cap) (.int .i64 ((i : Nat) : Int)) (pt bp (op + i * 17)) (fun _ => rfl) (hd 4 rfl) (hd 5 rfl) (ix62 (i := i) hpp hil _) (hK _ (Mo.refl _))))
              · exact og_eq (.agg (a.cells).toArray) rfl (fun f wf hq hd K hK => go_run rfl (wo_load 64 (.tmp 88) (pt bp (op + i * 17)) (.agg (a.cells).toArray) rfl (hd 6 rfl) (D.run_partR (hRp.mo (M.trans hq)).at' 64 0 17 (a.cells) rfl Try.underlying64 rfl sz64) (hK _ (Mo.refl _))))
            intro kf41 u41 hq hR hne
            replace Q1 := Q1.mo hq
            replace Q2 := Q2.mo hq
            replace M := M.trans hq
            clear hq hR hne
            refine wl_call 39 [(.tmp 82), (.tmp 83), (.tmp 84), (.tmp 89)] _ [.agg (d.cells).toArray, .slice pa L.length c, .int .i64 ((s : Nat) : Int), .agg (a.cells).toArray] (.bool true) rfl rfl (fun _ _ => by kernel_rfl) (cB hf30 (ih a hma (hD.kp M.kp) ((hL.ar a hma).kp M.kp) (hS.kp M.kp) (fun y hy => (h5 y hy).kp M.kp))) rfl ?_
            intro u42 hq
            replace Q1 := Q1.mo hq
            replace Q2 := Q2.mo hq
            replace M := M.trans hq
            clear hq
            refine w_nil ?_
            refine xn_then ?_
            refine w_condT rfl ?_
            refine w_seq ?_
            refine w_reg ?_
            refine wl_mv (.const (.bool true)) (.bool true) (fun _ => rfl) rfl rfl ?_
            refine w_nil ?_
            refine xn_then ?_
            refine w_ret ?_
            refine xr_blk ?_
            refine xr_then ?_
            refine xr_then ?_
            refine xr_blk ?_
            refine xr_then ?_
            exact w_ret1 _ (.bool true) rfl rfl ⟨by rw [lck_eq, hkn, any_hit hx hf30]; rfl, M⟩
          | false =>
            refine w_any 8 [.inl (.agg (d.cells).toArray), .inl (.slice pa L.length c), .inl (.int .i64 ((s : Nat) : Int)), .inl (pt k2 16), .inl (.slice x.pa x.args.length x.cap), .inl (.int .i64 ((i : Nat) : Int)), .inl (pt bp (op + i * 17)), .inl (.agg (a.cells).toArray)] [] (by kernel_rfl) (by kernel_rfl) (by kernel_rfl) (by kernel_rfl) rfl (by kernel_rfl) (by kernel_rfl) late_nil ?_ ?_ ?_
            · exact Ds.none rfl
            · refine ea_cons ?_ (ea_cons ?_ (ea_cons ?_ (ea_cons ?_ (ea_cons ?_ (ea_cons ?_ (ea_cons ?_ (ea_cons ?_ (ea_nil))))))))
              · exact og_eq (.agg (d.cells).toArray) rfl (fun f wf hq hd K hK => have Q1 := Q1.mo hq; go_run rfl (wo_load 29 (.tmp 4) (pt k1 0) (.agg (d.cells).toArray) rfl e40_4 (run_row Q1 29 0 7 (d.cells) rfl Try.underlying29 rfl sz29) (hK _ (Mo.refl _))))
              · exact og_eq (.slice pa L.length c) rfl (fun f wf hq hd K hK => go_run rfl (wo_mv (.tmp 1) (.slice pa L.length c) (fun _ => rfl) e40_1 (hK _ (Mo.refl _))))
              · exact og_eq (.int .i64 ((s : Nat) : Int)) rfl (fun f wf hq hd K hK => go_run rfl (wo_mv (.tmp 2) (.int .i64 ((s : Nat) : Int)) (fun _ => rfl) e40_2 (hK _ (Mo.refl _))))
              · exact og_eq (pt k2 16) rfl (fun f wf hq hd K hK => go_run rfl (wo_un (fun v => Instr.fieldAt 64 v 7) (.tmp 7) (pt k2 0) (pt k2 16) (fun _ => rfl) e40_7 (by kernel_rfl) (hK _ (Mo.refl _))))
              · exact og_eq (.slice x.pa x.args.length x.cap) rfl (fun f wf hq hd K hK => have Q2 := Q2.mo hq; go_run rfl (wo_load 62 (.tmp 85) (pt k2 16) (.slice x.pa x.args.length x.cap) rfl (hd 3 rfl) (run_one Q2 62 16 rfl Try.underlying62 rfl) (hK _ (Mo.refl _))))
              · exact og_eq (.int .i64 ((i : Nat) : Int)) rfl (fun f wf hq hd K hK => go_run rfl (wo_mv (.tmp 18) (.int .i64 ((i : Nat) : Int)) (fun _ => rfl) e40_i (hK _ (Mo.refl _))))
              · exact og_eq (pt bp (op + i * 17)) rfl (fun f wf hq hd K hK => go_run rfl (wo_bin (fun x y => Instr.indexAt 62 x y) (.tmp 86) (.tmp 87) (.slice x.pa x.args.length x.cap) (.int .i64 ((i : Nat) : Int)) (pt bp (op + i * 17)) (fun _ => rfl) (hd 4 rfl) (hd 5 rfl) (ix62 (i := i) hpp hil _) (hK _ (Mo.refl _))))
              · exact og_eq (.agg (a.cells).toArray) rfl (fun f wf hq hd K hK => go_run rfl (wo_load 64 (.tmp 88) (pt bp (op + i * 17)) (.agg (a.cells).toArray) rfl (hd 6 rfl) (D.run_partR (hRp.mo (M.trans hq)).at' 64 0 17 (a.cells) rfl Try.underlying64 rfl sz64) (hK _ (Mo.refl _))))
            intro kf41 u41 hq hR hne
            replace Q1 := Q1.mo hq
            replace Q2 := Q2.mo hq
            replace M := M.trans hq
            clear hq hR hne
            refine wl_call 39 [(.tmp 82), (.tmp 83), (.tmp 84), (.tmp 89)] _ [.agg (d.cells).toArray, .slice pa L.length c, .int .i64 ((s : Nat) : Int), .agg (a.cells).toArray] (.bool false) rfl rfl (fun _ _ => by kernel_rfl) (cB hf30 (ih a hma (hD.kp M.kp) ((hL.ar a hma).kp M.kp) (hS.kp M.kp) (fun y hy => (h5 y hy).kp M.kp))) rfl ?_
            intro u42 hq
            replace Q1 := Q1.mo hq
            replace Q2 := Q2.mo hq
            replace M := M.trans hq
            clear hq
            refine w_nil ?_
            refine xn_then ?_
            refine w_condF rfl ?_
            refine w_skip ?_
            refine xn_blk ?_
            refine xn_then ?_
            refine w_reg ?_
            refine wl_mv (.tmp 18) (.int .i64 ((i : Nat) : Int)) (fun _ => rfl) e40_i rfl ?_
            refine wl_bin (fun x y => do eqGuard .add 3 (.tmp 80) (.const (.int .i64 (1))) x y; binOp .add 3 x y) (.tmp 80) (.const (.int .i64 (1))) (.int .i64 ((i : Nat) : Int)) (.int .i64 (1)) (.int .i64 ((i + 1 : Nat) : Int)) (fun _ => rfl) rfl rfl (add1r (k := i) (by omega) _ _ _) rfl ?_
            refine wl_mv (.tmp 81) (.int .i64 ((i + 1 : Nat) : Int)) (fun _ => rfl) rfl rfl ?_
            refine w_nil ?_
            exact xn_loop (x.args.length - (i + 1)) (by omega) ⟨i + 1, rfl, by omega, e40_1, e40_2, e40_4, e40_7, rfl, Q1, Q2, any_take hT hx hf30, M⟩
        · skip
          have hid : decide (i < x.args.length) = false := decide_eq_false hil
          have hie : i = x.args.length := by omega
          refine w_seq ?_
          refine w_seq ?_
          refine w_reg ?_
          refine wl_mv (.tmp 18) (.int .i64 ((i : Nat) : Int)) (fun _ => rfl) e40_i rfl ?_
          refine wl_un (fun v => Instr.fieldAt 64 v 7) (.tmp 7) (pt k2 0) (pt k2 16) (fun _ => rfl) e40_7 (by kernel_rfl) rfl ?_
          refine wl_load 62 (.tmp 76) (pt k2 16) (.slice x.pa x.args.length x.cap) rfl rfl (run_one Q2 62 16 rfl Try.underlying62 rfl) rfl ?_
          refine wl_val (.int .i64 ((x.args.length : Nat) : Int)) (len62 _ _ _ _ _ (by exact rfl) _ _ _ _ _ _) rfl ?_
          refine wl_bin (fun x y => do eqGuard .lss 3 (.tmp 75) (.tmp 78) x y; binOp .lss 3 x y) (.tmp 75) (.tmp 78) (.int .i64 ((i : Nat) : Int)) (.int .i64 ((x.args.length : Nat) : Int)) (.bool false) (fun _ => rfl) rfl rfl (ltN hid _ _ _) rfl ?_
          refine w_nil ?_
          refine xn_then ?_
          refine w_condF rfl ?_
          refine w_exit ?_
          refine xx_then ?_
          refine xx_then ?_
          refine xx_blk ?_
          refine xn_then ?_
          refine w_seq ?_
          refine w_reg ?_
          refine wl_mv (.const (.bool false)) (.bool false) (fun _ => rfl) rfl rfl ?_
          refine w_nil ?_
          refine xn_then ?_
          refine w_ret ?_
          exact w_ret1 _ (.bool false) rfl rfl ⟨by rw [lck_eq, hkn, any_all hT hie]; rfl, M⟩
theorem stands_n (d : Df) {w : World} (hD : LDf w d) (n i0 : Nat) (x : Pg) (hx : d.pg[n]? = some x) (hi0 : i0 ≤ x.its.length) (nm : ByteArray) : Calls Try.prog 60 #[.agg (d.cells).toArray, .int .i64 ((n : Nat) : Int), .int .i64 ((i0 : Nat) : Int), .string nm] w fun e w' => e = .returned (.bool (stD d.pg n i0 x nm)) ∧ Mo w w' := by
  refine w_enter 48 Try.func60 Try.ntmps60 rfl rfl ?_
  have M : Mo w w := Mo.refl _
  refine w_seq ?_
  refine w_reg ?_
  refine wl_box 29 (.tmp 0) (.agg (d.cells).toArray) (((d.cells).toArray)) rfl rfl (fun _ => by kernel_rfl) rfl ?_
  intro k1 u1 hk hz hq Q1
  have N_k1 : w.heap.size ≤ k1 := by have := M.size; omega
  replace M := M.trans hq
  clear hk hz hq
  refine wl_mv (.const (.bool false)) (.bool false) (fun _ => rfl) rfl rfl ?_
  refine w_nil ?_
  refine xn_then ?_
  refine w_seq ?_
  refine w_seq ?_
  refine w_reg ?_
  refine wl_mv (.const (.int .i64 (0))) (.int .i64 (0)) (fun _ => rfl) rfl rfl ?_
  refine w_nil ?_
  refine xn_then ?_
  refine w_block ?_
  have hnl := lt_of_get hx
  have hzp := hD.pg.1
  unfold maxLen at hzp
  refine w_loop (fun m l w1 => ∃ k : Nat, m = (n + 1) - k ∧ k ≤ (n + 1) ∧ look l 1 = .int .i64 ((n : Nat) : Int) ∧ look l 2 = .int .i64 ((i0 : Nat) : Int) ∧ look l 3 = .string nm ∧ look l 4 = pt k1 0 ∧ look l 9 = .int .i64 ((k : Nat) : Int) ∧ At w1 k1 (d.cells) ∧ (k ≤ n → (d.pg.take k).any (fun x => x.its.any (fun s => decide (s = nm))) = false) ∧ (k = n + 1 → ((d.pg.take n).any (fun x => x.its.any (fun s => decide (s = nm))) || (x.its.take i0).any (fun s => decide (s = nm))) = false) ∧ Mo w w1) _ ⟨0, rfl, Nat.zero_le _, rfl, rfl, rfl, rfl, rfl, Q1, (fun _ => rfl), (fun h => by omega), M⟩ ?_
  clear Q1 M
  rintro m l40 wl40 ⟨k, rfl, hk, e40_1, e40_2, e40_3, e40_4, e40_i, Q1, hT, hT2, M⟩
  by_cases hkl : k < (n + 1)
  · skip
    have hkd : decide (k < (n + 1)) = true := decide_eq_true hkl
    have hle : decide (((k : Nat) : Int) ≤ ((n : Nat) : Int)) = true := decide_eq_true (by omega)
    have hkl2 : k < d.pg.length := by omega
    obtain ⟨y, hy⟩ := get_of_lt hkl2
    have hmy := List.mem_of_getElem? hy
    have hzi := (hD.it y hmy).1
    unfold maxLen at hzi
    obtain ⟨bp, op, hpp, hRp⟩ := D.SL.rw hD.pg hy
    refine w_seq ?_
    refine w_seq ?_
    refine w_reg ?_
    refine wl_mv (.tmp 9) (.int .i64 ((k : Nat) : Int)) (fun _ => rfl) e40_i rfl ?_
    refine wl_mv (.tmp 1) (.int .i64 ((n : Nat) : Int)) (fun _ => rfl) e40_1 rfl ?_
    refine wl_bin (fun x y => do eqGuard .leq 3 (.tmp 11) (.tmp 12) x y; binOp .leq 3 x y) (.tmp 11) (.tmp 12) (.int .i64 ((k : Nat) : Int)) (.int .i64 ((n : Nat) : Int)) (.bool true) (fun _ => rfl) rfl rfl (le3 hle _ _ _) rfl ?_
    refine w_nil ?_
    refine xn_then ?_
    refine w_condT rfl ?_
    refine w_skip ?_
    refine xn_then ?_
    refine w_seq ?_
    refine w_block ?_
    refine w_seq ?_
    refine w_reg ?_
    refine wl_mv (.const (.int .i64 (0))) (.int .i64 (0)) (fun _ => rfl) rfl rfl ?_
    refine w_nil ?_
    refine xn_then ?_
    refine w_block ?_
    by_cases hkn : k < n
    · skip
      have hknd : decide (k < n) = true := decide_eq_true hkn
      have hcase : k < n ∨ (k = n ∧ y = x) := Or.inl hkn
      refine w_loop (fun m l w1 => ∃ j : Nat, m = y.its.length - j ∧ j ≤ y.its.length ∧ look l 1 = .int .i64 ((n : Nat) : Int) ∧ look l 2 = .int .i64 ((i0 : Nat) : Int) ∧ look l 3 = .string nm ∧ look l 4 = pt k1 0 ∧ look l 9 = .int .i64 ((k : Nat) : Int) ∧ look l 10 = .int .i64 ((j : Nat) : Int) ∧ At w1 k1 (d.cells) ∧ ((y.its.take j).any (fun s => decide (s = nm)) = false) ∧ Mo w w1) _ ⟨0, rfl, Nat.zero_le _, e40_1, e40_2, e40_3, e40_4, e40_i, rfl, Q1, rfl, M⟩ ?_
      clear Q1 M
      rintro m l70 wl70 ⟨j, rfl, hj, e70_1, e70_2, e70_3, e70_4, e70_9, e70_i, Q1, hJ, M⟩
      by_cases hjl : j < y.its.length
      · skip
        have hjd : decide (j < y.its.length) = true := decide_eq_true hjl
        have hjy : j < y.its.length := by omega
        have hjyd : decide (j < y.its.length) = true := decide_eq_true hjy
        obtain ⟨u, hu⟩ := get_of_lt hjy
        obtain ⟨bq, oq, hpq, hRq⟩ := D.SL.rw (hD.it y hmy) hu
        refine w_seq ?_
        refine w_seq ?_
        refine w_reg ?_
        refine wl_mv (.tmp 10) (.int .i64 ((j : Nat) : Int)) (fun _ => rfl) e70_i rfl ?_
        refine wl_un (fun v => Instr.fieldAt 29 v 3) (.tmp 4) (pt k1 0) (pt k1 6) (fun _ => rfl) e70_4 (by kernel_rfl) rfl ?_
        refine wl_load 27 (.tmp 17) (pt k1 6) (.slice d.pp d.pg.length d.cp) rfl rfl (run_one Q1 27 6 rfl Try.underlying27 rfl) rfl ?_
        refine wl_mv (.tmp 9) (.int .i64 ((k : Nat) : Int)) (fun _ => rfl) e70_9 rfl ?_
        refine wl_bin (fun x y => Instr.indexAt 27 x y) (.tmp 18) (.tmp 19) (.slice d.pp d.pg.length d.cp) (.int .i64 ((k : Nat) : Int)) (pt bp (op + k * 19)) (fun _ => rfl) rfl rfl (ix27 (i := k) hpp hkl2 _) rfl ?_
        refine wl_un (fun v => Instr.fieldAt 90 v 2) (.tmp 20) (pt bp (op + k * 19)) (pt bp (op + k * 19 + 18)) (fun _ => rfl) rfl (by kernel_rfl) rfl ?_
        refine wl_load 45 (.tmp 21) (pt bp (op + k * 19 + 18)) (.slice y.pa y.its.length y.cap) rfl rfl (D.run_oneR (hRp.mo M).at' 45 18 rfl Try.underlying45 rfl) rfl ?_
        refine wl_val (.int .i64 ((y.its.length : Nat) : Int)) (len45 _ _ _ _ _ (by exact rfl) _ _ _ _ _ _) rfl ?_
        refine wl_bin (fun x y => do eqGuard .lss 3 (.tmp 16) (.tmp 23) x y; binOp .lss 3 x y) (.tmp 16) (.tmp 23) (.int .i64 ((j : Nat) : Int)) (.int .i64 ((y.its.length : Nat) : Int)) (.bool true) (fun _ => rfl) rfl rfl (ltN hjyd _ _ _) rfl ?_
        refine wl_mv (.tmp 24) (.bool true) (fun _ => rfl) rfl rfl ?_
        refine wl_mv (.tmp 9) (.int .i64 ((k : Nat) : Int)) (fun _ => rfl) e70_9 rfl ?_
        refine wl_mv (.tmp 1) (.int .i64 ((n : Nat) : Int)) (fun _ => rfl) e70_1 rfl ?_
        refine wl_bin (fun x y => do eqGuard .lss 3 (.tmp 26) (.tmp 27) x y; binOp .lss 3 x y) (.tmp 26) (.tmp 27) (.int .i64 ((k : Nat) : Int)) (.int .i64 ((n : Nat) : Int)) (.bool true) (fun _ => rfl) rfl rfl (ltN hknd _ _ _) rfl ?_
        refine wl_mv (.tmp 28) (.bool true) (fun _ => rfl) rfl rfl ?_
        refine wl_skip rfl ?_
        refine wl_skip rfl ?_
        refine wl_skip rfl ?_
        refine wl_pick (.tmp 29) (.const (.bool true)) (.tmp 32) true (.bool true) (fun _ => rfl) rfl rfl rfl ?_
        refine wl_pick (.tmp 25) (.tmp 33) (.const (.bool false)) true (.bool true) (fun _ => rfl) rfl rfl rfl ?_
        refine w_nil ?_
        refine xn_then ?_
        refine w_condT rfl ?_
        refine w_skip ?_
        refine xn_then ?_
        refine w_seq ?_
        refine w_block ?_
        refine w_seq ?_
        refine w_reg ?_
        refine wl_un (fun v => Instr.fieldAt 29 v 3) (.tmp 4) (pt k1 0) (pt k1 6) (fun _ => rfl) e70_4 (by kernel_rfl) rfl ?_
        refine wl_load 27 (.tmp 37) (pt k1 6) (.slice d.pp d.pg.length d.cp) rfl rfl (run_one Q1 27 6 rfl Try.underlying27 rfl) rfl ?_
        refine wl_mv (.tmp 9) (.int .i64 ((k : Nat) : Int)) (fun _ => rfl) e70_9 rfl ?_
        refine wl_bin (fun x y => Instr.indexAt 27 x y) (.tmp 38) (.tmp 39) (.slice d.pp d.pg.length d.cp) (.int .i64 ((k : Nat) : Int)) (pt bp (op + k * 19)) (fun _ => rfl) rfl rfl (ix27 (i := k) hpp hkl2 _) rfl ?_
        refine wl_un (fun v => Instr.fieldAt 90 v 2) (.tmp 40) (pt bp (op + k * 19)) (pt bp (op + k * 19 + 18)) (fun _ => rfl) rfl (by kernel_rfl) rfl ?_
        refine wl_load 45 (.tmp 41) (pt bp (op + k * 19 + 18)) (.slice y.pa y.its.length y.cap) rfl rfl (D.run_oneR (hRp.mo M).at' 45 18 rfl Try.underlying45 rfl) rfl ?_
        refine wl_mv (.tmp 10) (.int .i64 ((j : Nat) : Int)) (fun _ => rfl) e70_i rfl ?_
        refine wl_bin (fun x y => Instr.indexAt 45 x y) (.tmp 42) (.tmp 43) (.slice y.pa y.its.length y.cap) (.int .i64 ((j : Nat) : Int)) (pt bq (oq + j * 1)) (fun _ => rfl) rfl rfl (ix45 (i := j) hpq hjy _) rfl ?_
        refine wl_load 9 (.tmp 44) (pt bq (oq + j * 1)) (.string u) rfl rfl (D.run_oneR (hRq.mo M).at' 9 0 rfl Try.underlying9 rfl) rfl ?_
        refine wl_mv (.tmp 3) (.string nm) (fun _ => rfl) e70_3 rfl ?_
        cases hf60 : decide (u = nm) with
        | true =>
          have hf60p := of_decide_eq_true hf60
          refine wl_bin (fun x y => do eqGuard .eql 9 (.tmp 45) (.tmp 46) x y; binOp .eql 9 x y) (.tmp 45) (.tmp 46) (.string u) (.string nm) (.bool true) (fun _ => rfl) rfl rfl (s9 hf60 _ _ _) rfl ?_
          refine w_nil ?_
          refine xn_then ?_
          refine w_condT rfl ?_
          refine w_seq ?_
          refine w_reg ?_
          refine wl_mv (.const (.bool true)) (.bool true) (fun _ => rfl) rfl rfl ?_
          refine w_nil ?_
          refine xn_then ?_
          refine w_ret ?_
          refine xr_blk ?_
          refine xr_then ?_
          refine xr_then ?_
          refine xr_blk ?_
          refine xr_blk ?_
          refine xr_then ?_
          refine xr_then ?_
          refine xr_blk ?_
          refine xr_then ?_
          exact w_ret1 _ (.bool true) rfl rfl ⟨by unfold stD; rcases hcase with hk2 | ⟨rfl, hy2⟩; rw [take_any.2 ⟨k, y, hk2, hy, any_hit hu hf60⟩]; rfl; subst hy2; rw [take_any.2 ⟨j, u, by omega, hu, hf60⟩, Bool.or_true], M⟩
        | false =>
          have hf60p := of_decide_eq_false hf60
          refine wl_bin (fun x y => do eqGuard .eql 9 (.tmp 45) (.tmp 46) x y; binOp .eql 9 x y) (.tmp 45) (.tmp 46) (.string u) (.string nm) (.bool false) (fun _ => rfl) rfl rfl (s9 hf60 _ _ _) rfl ?_
          refine w_nil ?_
          refine xn_then ?_
          refine w_condF rfl ?_
          refine w_skip ?_
          refine xn_blk ?_
          refine xn_then ?_
          refine w_reg ?_
          refine wl_mv (.tmp 10) (.int .i64 ((j : Nat) : Int)) (fun _ => rfl) e70_i rfl ?_
          refine wl_bin (fun x y => do eqGuard .add 3 (.tmp 35) (.const (.int .i64 (1))) x y; binOp .add 3 x y) (.tmp 35) (.const (.int .i64 (1))) (.int .i64 ((j : Nat) : Int)) (.int .i64 (1)) (.int .i64 ((j + 1 : Nat) : Int)) (fun _ => rfl) rfl rfl (add1r (k := j) (by omega) _ _ _) rfl ?_
          refine wl_mv (.tmp 36) (.int .i64 ((j + 1 : Nat) : Int)) (fun _ => rfl) rfl rfl ?_
          refine w_nil ?_
          exact xn_loop (y.its.length - (j + 1)) (by omega) ⟨j + 1, rfl, by omega, e70_1, e70_2, e70_3, e70_4, e70_9, rfl, Q1, any_take hJ hu hf60, M⟩
      · skip
        have hjd : decide (j < y.its.length) = false := decide_eq_false hjl
        have hje : j = y.its.length := by omega
        refine w_seq ?_
        refine w_seq ?_
        refine w_reg ?_
        refine wl_mv (.tmp 10) (.int .i64 ((j : Nat) : Int)) (fun _ => rfl) e70_i rfl ?_
        refine wl_un (fun v => Instr.fieldAt 29 v 3) (.tmp 4) (pt k1 0) (pt k1 6) (fun _ => rfl) e70_4 (by kernel_rfl) rfl ?_
        refine wl_load 27 (.tmp 17) (pt k1 6) (.slice d.pp d.pg.length d.cp) rfl rfl (run_one Q1 27 6 rfl Try.underlying27 rfl) rfl ?_
        refine wl_mv (.tmp 9) (.int .i64 ((k : Nat) : Int)) (fun _ => rfl) e70_9 rfl ?_
        refine wl_bin (fun x y => Instr.indexAt 27 x y) (.tmp 18) (.tmp 19) (.slice d.pp d.pg.length d.cp) (.int .i64 ((k : Nat) : Int)) (pt bp (op + k * 19)) (fun _ => rfl) rfl rfl (ix27 (i := k) hpp hkl2 _) rfl ?_
        refine wl_un (fun v => Instr.fieldAt 90 v 2) (.tmp 20) (pt bp (op + k * 19)) (pt bp (op + k * 19 + 18)) (fun _ => rfl) rfl (by kernel_rfl) rfl ?_
        refine wl_load 45 (.tmp 21) (pt bp (op + k * 19 + 18)) (.slice y.pa y.its.length y.cap) rfl rfl (D.run_oneR (hRp.mo M).at' 45 18 rfl Try.underlying45 rfl) rfl ?_
        refine wl_val (.int .i64 ((y.its.length : Nat) : Int)) (len45 _ _ _ _ _ (by exact rfl) _ _ _ _ _ _) rfl ?_
        refine wl_bin (fun x y => do eqGuard .lss 3 (.tmp 16) (.tmp 23) x y; binOp .lss 3 x y) (.tmp 16) (.tmp 23) (.int .i64 ((j : Nat) : Int)) (.int .i64 ((y.its.length : Nat) : Int)) (.bool false) (fun _ => rfl) rfl rfl (ltN hjd _ _ _) rfl ?_
        refine wl_mv (.tmp 24) (.bool false) (fun _ => rfl) rfl rfl ?_
        refine wl_skip rfl ?_
        refine wl_skip rfl ?_
        refine wl_skip rfl ?_
        refine wl_skip rfl ?_
        refine wl_skip rfl ?_
        refine wl_skip rfl ?_
        refine wl_skip rfl ?_
        refine wl_skip rfl ?_
        refine wl_pick (.tmp 25) (.tmp 33) (.const (.bool false)) false (.bool false) (fun _ => rfl) rfl rfl rfl ?_
        refine w_nil ?_
        refine xn_then ?_
        refine w_condF rfl ?_
        refine w_exit ?_
        refine xx_then ?_
        refine xx_then ?_
        refine xx_blk ?_
        refine xn_blk ?_
        refine xn_then ?_
        refine w_reg ?_
        refine wl_mv (.tmp 9) (.int .i64 ((k : Nat) : Int)) (fun _ => rfl) e70_9 rfl ?_
        refine wl_bin (fun x y => do eqGuard .add 3 (.tmp 14) (.const (.int .i64 (1))) x y; binOp .add 3 x y) (.tmp 14) (.const (.int .i64 (1))) (.int .i64 ((k : Nat) : Int)) (.int .i64 (1)) (.int .i64 ((k + 1 : Nat) : Int)) (fun _ => rfl) rfl rfl (add1r (k := k) (by omega) _ _ _) rfl ?_
        refine wl_mv (.tmp 15) (.int .i64 ((k + 1 : Nat) : Int)) (fun _ => rfl) rfl rfl ?_
        refine w_nil ?_
        exact xn_loop ((n + 1) - (k + 1)) (by omega) ⟨k + 1, rfl, by omega, e70_1, e70_2, e70_3, e70_4, rfl, Q1, fun _ => any_take (hT (by omega)) hy (any_all hJ hje), fun h => by omega, M⟩
    · skip
      have hknd : decide (k < n) = false := decide_eq_false hkn
      have hke : k = n := by omega
      have hyx : y = x := by rw [hke, hx] at hy; exact (Option.some.inj hy).symm
      have hcase : k < n ∨ (k = n ∧ y = x) := Or.inr ⟨hke, hyx⟩
      have hi0y : i0 ≤ y.its.length := by rw [hyx]; exact hi0
      refine w_loop (fun m l w1 => ∃ j : Nat, m = i0 - j ∧ j ≤ i0 ∧ look l 1 = .int .i64 ((n : Nat) : Int) ∧ look l 2 = .int .i64 ((i0 : Nat) : Int) ∧ look l 3 = .string nm ∧ look l 4 = pt k1 0 ∧ look l 9 = .int .i64 ((k : Nat) : Int) ∧ look l 10 = .int .i64 ((j : Nat) : Int) ∧ At w1 k1 (d.cells) ∧ ((y.its.take j).any (fun s => decide (s = nm)) = false) ∧ Mo w w1) _ ⟨0, rfl, Nat.zero_le _, e40_1, e40_2, e40_3, e40_4, e40_i, rfl, Q1, rfl, M⟩ ?_
      clear Q1 M
      rintro m l70 wl70 ⟨j, rfl, hj, e70_1, e70_2, e70_3, e70_4, e70_9, e70_i, Q1, hJ, M⟩
      by_cases hjl : j < i0
      · skip
        have hjd : decide (j < i0) = true := decide_eq_true hjl
        have hjy : j < y.its.length := by omega
        have hjyd : decide (j < y.its.length) = true := decide_eq_true hjy
        obtain ⟨u, hu⟩ := get_of_lt hjy
        obtain ⟨bq, oq, hpq, hRq⟩ := D.SL.rw (hD.it y hmy) hu
        refine w_seq ?_
        refine w_seq ?_
        refine w_reg ?_
        refine wl_mv (.tmp 10) (.int .i64 ((j : Nat) : Int)) (fun _ => rfl) e70_i rfl ?_
        refine wl_un (fun v => Instr.fieldAt 29 v 3) (.tmp 4) (pt k1 0) (pt k1 6) (fun _ => rfl) e70_4 (by kernel_rfl) rfl ?_
        refine wl_load 27 (.tmp 17) (pt k1 6) (.slice d.pp d.pg.length d.cp) rfl rfl (run_one Q1 27 6 rfl Try.underlying27 rfl) rfl ?_
        refine wl_mv (.tmp 9) (.int .i64 ((k : Nat) : Int)) (fun _ => rfl) e70_9 rfl ?_
        refine wl_bin (fun x y => Instr.indexAt 27 x y) (.tmp 18) (.tmp 19) (.slice d.pp d.pg.length d.cp) (.int .i64 ((k : Nat) : Int)) (pt bp (op + k * 19)) (fun _ => rfl) rfl rfl (ix27 (i := k) hpp hkl2 _) rfl ?_
        refine wl_un (fun v => Instr.fieldAt 90 v 2) (.tmp 20) (pt bp (op + k * 19)) (pt bp (op + k * 19 + 18)) (fun _ => rfl) rfl (by kernel_rfl) rfl ?_
        refine wl_load 45 (.tmp 21) (pt bp (op + k * 19 + 18)) (.slice y.pa y.its.length y.cap) rfl rfl (D.run_oneR (hRp.mo M).at' 45 18 rfl Try.underlying45 rfl) rfl ?_
        refine wl_val (.int .i64 ((y.its.length : Nat) : Int)) (len45 _ _ _ _ _ (by exact rfl) _ _ _ _ _ _) rfl ?_
        refine wl_bin (fun x y => do eqGuard .lss 3 (.tmp 16) (.tmp 23) x y; binOp .lss 3 x y) (.tmp 16) (.tmp 23) (.int .i64 ((j : Nat) : Int)) (.int .i64 ((y.its.length : Nat) : Int)) (.bool true) (fun _ => rfl) rfl rfl (ltN hjyd _ _ _) rfl ?_
        refine wl_mv (.tmp 24) (.bool true) (fun _ => rfl) rfl rfl ?_
        refine wl_mv (.tmp 9) (.int .i64 ((k : Nat) : Int)) (fun _ => rfl) e70_9 rfl ?_
        refine wl_mv (.tmp 1) (.int .i64 ((n : Nat) : Int)) (fun _ => rfl) e70_1 rfl ?_
        refine wl_bin (fun x y => do eqGuard .lss 3 (.tmp 26) (.tmp 27) x y; binOp .lss 3 x y) (.tmp 26) (.tmp 27) (.int .i64 ((k : Nat) : Int)) (.int .i64 ((n : Nat) : Int)) (.bool false) (fun _ => rfl) rfl rfl (ltN hknd _ _ _) rfl ?_
        refine wl_mv (.tmp 28) (.bool false) (fun _ => rfl) rfl rfl ?_
        refine wl_mv (.tmp 10) (.int .i64 ((j : Nat) : Int)) (fun _ => rfl) e70_i rfl ?_
        refine wl_mv (.tmp 2) (.int .i64 ((i0 : Nat) : Int)) (fun _ => rfl) e70_2 rfl ?_
        refine wl_bin (fun x y => do eqGuard .lss 3 (.tmp 30) (.tmp 31) x y; binOp .lss 3 x y) (.tmp 30) (.tmp 31) (.int .i64 ((j : Nat) : Int)) (.int .i64 ((i0 : Nat) : Int)) (.bool true) (fun _ => rfl) rfl rfl (ltN hjd _ _ _) rfl ?_
        refine wl_pick (.tmp 29) (.const (.bool true)) (.tmp 32) false (.bool true) (fun _ => rfl) rfl rfl rfl ?_
        refine wl_pick (.tmp 25) (.tmp 33) (.const (.bool false)) true (.bool true) (fun _ => rfl) rfl rfl rfl ?_
        refine w_nil ?_
        refine xn_then ?_
        refine w_condT rfl ?_
        refine w_skip ?_
        refine xn_then ?_
        refine w_seq ?_
        refine w_block ?_
        refine w_seq ?_
        refine w_reg ?_
        refine wl_un (fun v => Instr.fieldAt 29 v 3) (.tmp 4) (pt k1 0) (pt k1 6) (fun _ => rfl) e70_4 (by kernel_rfl) rfl ?_
        refine wl_load 27 (.tmp 37) (pt k1 6) (.slice d.pp d.pg.length d.cp) rfl rfl (run_one Q1 27 6 rfl Try.underlying27 rfl) rfl ?_
        refine wl_mv (.tmp 9) (.int .i64 ((k : Nat) : Int)) (fun _ => rfl) e70_9 rfl ?_
        refine wl_bin (fun x y => Instr.indexAt 27 x y) (.tmp 38) (.tmp 39) (.slice d.pp d.pg.length d.cp) (.int .i64 ((k : Nat) : Int)) (pt bp (op + k * 19)) (fun _ => rfl) rfl rfl (ix27 (i := k) hpp hkl2 _) rfl ?_
        refine wl_un (fun v => Instr.fieldAt 90 v 2) (.tmp 40) (pt bp (op + k * 19)) (pt bp (op + k * 19 + 18)) (fun _ => rfl) rfl (by kernel_rfl) rfl ?_
        refine wl_load 45 (.tmp 41) (pt bp (op + k * 19 + 18)) (.slice y.pa y.its.length y.cap) rfl rfl (D.run_oneR (hRp.mo M).at' 45 18 rfl Try.underlying45 rfl) rfl ?_
        refine wl_mv (.tmp 10) (.int .i64 ((j : Nat) : Int)) (fun _ => rfl) e70_i rfl ?_
        refine wl_bin (fun x y => Instr.indexAt 45 x y) (.tmp 42) (.tmp 43) (.slice y.pa y.its.length y.cap) (.int .i64 ((j : Nat) : Int)) (pt bq (oq + j * 1)) (fun _ => rfl) rfl rfl (ix45 (i := j) hpq hjy _) rfl ?_
        refine wl_load 9 (.tmp 44) (pt bq (oq + j * 1)) (.string u) rfl rfl (D.run_oneR (hRq.mo M).at' 9 0 rfl Try.underlying9 rfl) rfl ?_
        refine wl_mv (.tmp 3) (.string nm) (fun _ => rfl) e70_3 rfl ?_
        cases hf60 : decide (u = nm) with
        | true =>
          have hf60p := of_decide_eq_true hf60
          refine wl_bin (fun x y => do eqGuard .eql 9 (.tmp 45) (.tmp 46) x y; binOp .eql 9 x y) (.tmp 45) (.tmp 46) (.string u) (.string nm) (.bool true) (fun _ => rfl) rfl rfl (s9 hf60 _ _ _) rfl ?_
          refine w_nil ?_
          refine xn_then ?_
          refine w_condT rfl ?_
          refine w_seq ?_
          refine w_reg ?_
          refine wl_mv (.const (.bool true)) (.bool true) (fun _ => rfl) rfl rfl ?_
          refine w_nil ?_
          refine xn_then ?_
          refine w_ret ?_
          refine xr_blk ?_
          refine xr_then ?_
          refine xr_then ?_
          refine xr_blk ?_
          refine xr_blk ?_
          refine xr_then ?_
          refine xr_then ?_
          refine xr_blk ?_
          refine xr_then ?_
          exact w_ret1 _ (.bool true) rfl rfl ⟨by unfold stD; rcases hcase with hk2 | ⟨rfl, hy2⟩; rw [take_any.2 ⟨k, y, hk2, hy, any_hit hu hf60⟩]; rfl; subst hy2; rw [take_any.2 ⟨j, u, by omega, hu, hf60⟩, Bool.or_true], M⟩
        | false =>
          have hf60p := of_decide_eq_false hf60
          refine wl_bin (fun x y => do eqGuard .eql 9 (.tmp 45) (.tmp 46) x y; binOp .eql 9 x y) (.tmp 45) (.tmp 46) (.string u) (.string nm) (.bool false) (fun _ => rfl) rfl rfl (s9 hf60 _ _ _) rfl ?_
          refine w_nil ?_
          refine xn_then ?_
          refine w_condF rfl ?_
          refine w_skip ?_
          refine xn_blk ?_
          refine xn_then ?_
          refine w_reg ?_
          refine wl_mv (.tmp 10) (.int .i64 ((j : Nat) : Int)) (fun _ => rfl) e70_i rfl ?_
          refine wl_bin (fun x y => do eqGuard .add 3 (.tmp 35) (.const (.int .i64 (1))) x y; binOp .add 3 x y) (.tmp 35) (.const (.int .i64 (1))) (.int .i64 ((j : Nat) : Int)) (.int .i64 (1)) (.int .i64 ((j + 1 : Nat) : Int)) (fun _ => rfl) rfl rfl (add1r (k := j) (by omega) _ _ _) rfl ?_
          refine wl_mv (.tmp 36) (.int .i64 ((j + 1 : Nat) : Int)) (fun _ => rfl) rfl rfl ?_
          refine w_nil ?_
          exact xn_loop (i0 - (j + 1)) (by omega) ⟨j + 1, rfl, by omega, e70_1, e70_2, e70_3, e70_4, e70_9, rfl, Q1, any_take hJ hu hf60, M⟩
      · skip
        have hjd : decide (j < i0) = false := decide_eq_false hjl
        have hje : j = i0 := by omega
        refine w_seq ?_
        refine w_seq ?_
        refine w_reg ?_
        refine wl_mv (.tmp 10) (.int .i64 ((j : Nat) : Int)) (fun _ => rfl) e70_i rfl ?_
        refine wl_un (fun v => Instr.fieldAt 29 v 3) (.tmp 4) (pt k1 0) (pt k1 6) (fun _ => rfl) e70_4 (by kernel_rfl) rfl ?_
        refine wl_load 27 (.tmp 17) (pt k1 6) (.slice d.pp d.pg.length d.cp) rfl rfl (run_one Q1 27 6 rfl Try.underlying27 rfl) rfl ?_
        refine wl_mv (.tmp 9) (.int .i64 ((k : Nat) : Int)) (fun _ => rfl) e70_9 rfl ?_
        refine wl_bin (fun x y => Instr.indexAt 27 x y) (.tmp 18) (.tmp 19) (.slice d.pp d.pg.length d.cp) (.int .i64 ((k : Nat) : Int)) (pt bp (op + k * 19)) (fun _ => rfl) rfl rfl (ix27 (i := k) hpp hkl2 _) rfl ?_
        refine wl_un (fun v => Instr.fieldAt 90 v 2) (.tmp 20) (pt bp (op + k * 19)) (pt bp (op + k * 19 + 18)) (fun _ => rfl) rfl (by kernel_rfl) rfl ?_
        refine wl_load 45 (.tmp 21) (pt bp (op + k * 19 + 18)) (.slice y.pa y.its.length y.cap) rfl rfl (D.run_oneR (hRp.mo M).at' 45 18 rfl Try.underlying45 rfl) rfl ?_
        refine wl_val (.int .i64 ((y.its.length : Nat) : Int)) (len45 _ _ _ _ _ (by exact rfl) _ _ _ _ _ _) rfl ?_
        cases hf60 : decide (j < y.its.length) with
        | true =>
          have hf60p := of_decide_eq_true hf60
          refine wl_bin (fun x y => do eqGuard .lss 3 (.tmp 16) (.tmp 23) x y; binOp .lss 3 x y) (.tmp 16) (.tmp 23) (.int .i64 ((j : Nat) : Int)) (.int .i64 ((y.its.length : Nat) : Int)) (.bool true) (fun _ => rfl) rfl rfl (ltN hf60 _ _ _) rfl ?_
          refine wl_mv (.tmp 24) (.bool true) (fun _ => rfl) rfl rfl ?_
          refine wl_mv (.tmp 9) (.int .i64 ((k : Nat) : Int)) (fun _ => rfl) e70_9 rfl ?_
          refine wl_mv (.tmp 1) (.int .i64 ((n : Nat) : Int)) (fun _ => rfl) e70_1 rfl ?_
          refine wl_bin (fun x y => do eqGuard .lss 3 (.tmp 26) (.tmp 27) x y; binOp .lss 3 x y) (.tmp 26) (.tmp 27) (.int .i64 ((k : Nat) : Int)) (.int .i64 ((n : Nat) : Int)) (.bool false) (fun _ => rfl) rfl rfl (ltN hknd _ _ _) rfl ?_
          refine wl_mv (.tmp 28) (.bool false) (fun _ => rfl) rfl rfl ?_
          refine wl_mv (.tmp 10) (.int .i64 ((j : Nat) : Int)) (fun _ => rfl) e70_i rfl ?_
          refine wl_mv (.tmp 2) (.int .i64 ((i0 : Nat) : Int)) (fun _ => rfl) e70_2 rfl ?_
          refine wl_bin (fun x y => do eqGuard .lss 3 (.tmp 30) (.tmp 31) x y; binOp .lss 3 x y) (.tmp 30) (.tmp 31) (.int .i64 ((j : Nat) : Int)) (.int .i64 ((i0 : Nat) : Int)) (.bool false) (fun _ => rfl) rfl rfl (ltN hjd _ _ _) rfl ?_
          refine wl_pick (.tmp 29) (.const (.bool true)) (.tmp 32) false (.bool false) (fun _ => rfl) rfl rfl rfl ?_
          refine wl_pick (.tmp 25) (.tmp 33) (.const (.bool false)) true (.bool false) (fun _ => rfl) rfl rfl rfl ?_
          refine w_nil ?_
          refine xn_then ?_
          refine w_condF rfl ?_
          refine w_exit ?_
          refine xx_then ?_
          refine xx_then ?_
          refine xx_blk ?_
          refine xn_blk ?_
          refine xn_then ?_
          refine w_reg ?_
          refine wl_mv (.tmp 9) (.int .i64 ((k : Nat) : Int)) (fun _ => rfl) e70_9 rfl ?_
          refine wl_bin (fun x y => do eqGuard .add 3 (.tmp 14) (.const (.int .i64 (1))) x y; binOp .add 3 x y) (.tmp 14) (.const (.int .i64 (1))) (.int .i64 ((k : Nat) : Int)) (.int .i64 (1)) (.int .i64 ((k + 1 : Nat) : Int)) (fun _ => rfl) rfl rfl (add1r (k := k) (by omega) _ _ _) rfl ?_
          refine wl_mv (.tmp 15) (.int .i64 ((k + 1 : Nat) : Int)) (fun _ => rfl) rfl rfl ?_
          refine w_nil ?_
          exact xn_loop ((n + 1) - (k + 1)) (by omega) ⟨k + 1, rfl, by omega, e70_1, e70_2, e70_3, e70_4, rfl, Q1, fun h => by omega, fun _ => by have h8 := hT (by omega); rw [hke] at h8; rw [h8, ← hyx, ← hje, hJ]; rfl, M⟩
        | false =>
          have hf60p := of_decide_eq_false hf60
          refine wl_bin (fun x y => do eqGuard .lss 3 (.tmp 16) (.tmp 23) x y; binOp .lss 3 x y) (.tmp 16) (.tmp 23) (.int .i64 ((j : Nat) : Int)) (.int .i64 ((y.its.length : Nat) : Int)) (.bool false) (fun _ => rfl) rfl rfl (ltN hf60 _ _ _) rfl ?_
          refine wl_mv (.tmp 24) (.bool false) (fun _ => rfl) rfl rfl ?_
          refine wl_skip rfl ?_
          refine wl_skip rfl ?_
          refine wl_skip rfl ?_
          refine wl_skip rfl ?_
          refine wl_skip rfl ?_
          refine wl_skip rfl ?_
          refine wl_skip rfl ?_
          refine wl_skip rfl ?_
          refine wl_pick (.tmp 25) (.tmp 33) (.const (.bool false)) false (.bool false) (fun _ => rfl) rfl rfl rfl ?_
          refine w_nil ?_
          refine xn_then ?_
          refine w_condF rfl ?_
          refine w_exit ?_
          refine xx_then ?_
          refine xx_then ?_
          refine xx_blk ?_
          refine xn_blk ?_
          refine xn_then ?_
          refine w_reg ?_
          refine wl_mv (.tmp 9) (.int .i64 ((k : Nat) : Int)) (fun _ => rfl) e70_9 rfl ?_
          refine wl_bin (fun x y => do eqGuard .add 3 (.tmp 14) (.const (.int .i64 (1))) x y; binOp .add 3 x y) (.tmp 14) (.const (.int .i64 (1))) (.int .i64 ((k : Nat) : Int)) (.int .i64 (1)) (.int .i64 ((k + 1 : Nat) : Int)) (fun _ => rfl) rfl rfl (add1r (k := k) (by omega) _ _ _) rfl ?_
          refine wl_mv (.tmp 15) (.int .i64 ((k + 1 : Nat) : Int)) (fun _ => rfl) rfl rfl ?_
          refine w_nil ?_
          exact xn_loop ((n + 1) - (k + 1)) (by omega) ⟨k + 1, rfl, by omega, e70_1, e70_2, e70_3, e70_4, rfl, Q1, fun h => by omega, fun _ => by have h8 := hT (by omega); rw [hke] at h8; rw [h8, ← hyx, ← hje, hJ]; rfl, M⟩
  · skip
    have hkd : decide (k < (n + 1)) = false := decide_eq_false hkl
    have hke : k = (n + 1) := by omega
    have hle : decide (((k : Nat) : Int) ≤ ((n : Nat) : Int)) = false := decide_eq_false (by omega)
    refine w_seq ?_
    refine w_seq ?_
    refine w_reg ?_
    refine wl_mv (.tmp 9) (.int .i64 ((k : Nat) : Int)) (fun _ => rfl) e40_i rfl ?_
    refine wl_mv (.tmp 1) (.int .i64 ((n : Nat) : Int)) (fun _ => rfl) e40_1 rfl ?_
    refine wl_bin (fun x y => do eqGuard .leq 3 (.tmp 11) (.tmp 12) x y; binOp .leq 3 x y) (.tmp 11) (.tmp 12) (.int .i64 ((k : Nat) : Int)) (.int .i64 ((n : Nat) : Int)) (.bool false) (fun _ => rfl) rfl rfl (le3 hle _ _ _) rfl ?_
    refine w_nil ?_
    refine xn_then ?_
    refine w_condF rfl ?_
    refine w_exit ?_
    refine xx_then ?_
    refine xx_then ?_
    refine xx_blk ?_
    refine xn_then ?_
    refine w_seq ?_
    refine w_reg ?_
    refine wl_mv (.const (.bool false)) (.bool false) (fun _ => rfl) rfl rfl ?_
    refine w_nil ?_
    refine xn_then ?_
    refine w_ret ?_
    exact w_ret1 _ (.bool false) rfl rfl ⟨by unfold stD; rw [hT2 (by omega)], M⟩
end Go.Proofs.Ytbanldffohopiaa
