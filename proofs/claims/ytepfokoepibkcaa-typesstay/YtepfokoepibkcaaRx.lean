/-
  slices.Equal; the document's Reads.
-/
import Derived.Test.YtepfokoepibkcaaRv
namespace Go.Proofs.Ytepfokoepibkcaa
open Go.RowKit D
theorem equal_n {w : World} {pa pb : Option Addr} {ca cb : Nat} {R : List Rd} (hA : SL w 2 rdc pa R) (hB : SL w 2 rdc pb R) : Calls Try.prog 14 #[.slice pa R.length ca, .slice pb R.length cb] w fun e w' => e = .returned (.bool true) ∧ Mo w w' := by
  refine w_enter 26 Try.func14 Try.ntmps14 rfl rfl ?_
  have M : Mo w w := Mo.refl _
  refine w_seq ?_
  refine w_reg ?_
  refine wl_mv (.const (.bool false)) (.bool false) (fun _ => rfl) rfl rfl ?_
  refine w_nil ?_
  refine xn_then ?_
  refine w_seq ?_
  refine w_seq ?_
  refine w_reg ?_
  refine wl_mv (.tmp 0) (.slice pa R.length ca) (fun _ => rfl) rfl rfl ?_
  refine wl_val (.int .i64 ((R.length : Nat) : Int)) (len40 _ _ _ _ _ (by exact rfl) _ _ _ _ _ _) rfl ?_
  refine wl_mv (.tmp 1) (.slice pb R.length cb) (fun _ => rfl) rfl rfl ?_
  refine wl_val (.int .i64 ((R.length : Nat) : Int)) (len40 _ _ _ _ _ (by exact rfl) _ _ _ _ _ _) rfl ?_
  refine wl_bin (fun x y => do eqGuard .neq 3 (.tmp 7) (.tmp 9) x y; binOp .neq 3 x y) (.tmp 7) (.tmp 9) (.int .i64 ((R.length : Nat) : Int)) (.int .i64 ((R.length : Nat) : Int)) (.bool false) (fun _ => rfl) rfl rfl (ne3 (decide_eq_true rfl) _ _ _) rfl ?_
  refine w_nil ?_
  refine xn_then ?_
  refine w_condF rfl ?_
  refine w_skip ?_
  refine xn_then ?_
  refine w_seq ?_
  refine w_seq ?_
  refine w_reg ?_
  refine wl_mv (.tmp 0) (.slice pa R.length ca) (fun _ => rfl) rfl rfl ?_
  refine wl_val (.int .i64 ((R.length : Nat) : Int)) (len40 _ _ _ _ _ (by exact rfl) _ _ _ _ _ _) rfl ?_
  refine wl_mv (.const (.int .i64 (0))) (.int .i64 (0)) (fun _ => rfl) rfl rfl ?_
  refine w_nil ?_
  refine xn_then ?_
  refine w_block ?_
  have hz9 := hA.1
  unfold maxLen at hz9
  refine w_loop (fun m l w1 => ∃ i : Nat, m = R.length - i ∧ i ≤ R.length ∧ look l 0 = .slice pa R.length ca ∧ look l 1 = .slice pb R.length cb ∧ look l 12 = .int .i64 ((R.length : Nat) : Int) ∧ look l 13 = .int .i64 ((i : Nat) : Int) ∧ Mo w w1) _ ⟨0, rfl, Nat.zero_le _, rfl, rfl, rfl, rfl, M⟩ ?_
  clear M
  rintro m l40 wl40 ⟨i, rfl, hi, e40_0, e40_1, e40_12, e40_i, M⟩
  by_cases hil : i < R.length
  · skip
    have hid : decide (i < R.length) = true := decide_eq_true hil
    obtain ⟨y, hy⟩ := get_of_lt hil
    obtain ⟨bp, op, hpp, hRp⟩ := D.SL.rw hA hy
    obtain ⟨bq, oq, hpq, hRq⟩ := D.SL.rw hB hy
    refine w_seq ?_
    refine w_reg ?_
    refine wl_bin (fun x y => do eqGuard .lss 3 (.tmp 13) (.tmp 12) x y; binOp .lss 3 x y) (.tmp 13) (.tmp 12) (.int .i64 ((i : Nat) : Int)) (.int .i64 ((R.length : Nat) : Int)) (.bool true) (fun _ => rfl) e40_i e40_12 (ltN hid _ _ _) rfl ?_
    refine w_nil ?_
    refine xn_then ?_
    refine w_seq ?_
    refine w_condT rfl ?_
    refine w_skip ?_
    refine xn_then ?_
    refine w_seq ?_
    refine w_block ?_
    refine w_seq ?_
    refine w_reg ?_
    refine wl_mv (.tmp 13) (.int .i64 ((i : Nat) : Int)) (fun _ => rfl) e40_i rfl ?_
    refine wl_mv (.tmp 15) (.int .i64 ((i : Nat) : Int)) (fun _ => rfl) rfl rfl ?_
    refine w_nil ?_
    refine xn_then ?_
    refine w_seq ?_
    refine w_any 8 [.inl (.slice pa R.length ca), .inl (.int .i64 ((i : Nat) : Int)), .inl (pt bp (op + i * 2)), .inl (.agg #[.string y.1, .string y.2]), .inl (.slice pb R.length cb), .inl (.int .i64 ((i : Nat) : Int)), .inl (pt bq (oq + i * 2)), .inl (.agg #[.string y.1, .string y.2])] [] (by kernel_rfl) (by kernel_rfl) (by kernel_rfl) (by kernel_rfl) rfl (by kernel_rfl) (by kernel_rfl) late_nil ?_ ?_ ?_
    · exact Ds.none rfl
    · refine ea_cons ?_ (ea_cons ?_ (ea_cons ?_ (ea_cons ?_ (ea_cons ?_ (ea_cons ?_ (ea_cons ?_ (ea_cons ?_ (ea_nil))))))))
      · exact og_eq (.slice pa R.length ca) rfl (fun f wf hq hd K hK => go_run rfl (wo_mv (.tmp 0) (.slice pa R.length ca) (fun _ => rfl) e40_0 (hK _ (Mo.refl _))))
      · exact og_eq (.int .i64 ((i : Nat) : Int)) rfl (fun f wf hq hd K hK => go_run rfl (wo_mv (.tmp 5) (.int .i64 ((i : Nat) : Int)) (fun _ => rfl) rfl (hK _ (Mo.refl _))))
      · exact og_eq (pt bp (op + i * 2)) rfl (fun f wf hq hd K hK => go_run rfl (wo_bin (fun x y => Instr.indexAt 40 x y) (.tmp 16) (.tmp 17) (.slice pa R.length ca) (.int .i64 ((i : Nat) : Int)) (pt bp (op + i * 2)) (fun _ => rfl) (hd 0 rfl) (hd 1 rfl) (ix40 (i := i) hpp hil _) (hK _ (Mo.refl _))))
      · exact og_eq (.agg #[.string y.1, .string y.2]) rfl (fun f wf hq hd K hK => go_run rfl (wo_load 42 (.tmp 18) (pt bp (op + i * 2)) (.agg #[.string y.1, .string y.2]) rfl (hd 2 rfl) (D.run_partR (hRp.mo (M.trans hq)).at' 42 0 2 [.string y.1, .string y.2] rfl Try.underlying42 rfl sz42) (hK _ (Mo.refl _))))
      · exact og_eq (.slice pb R.length cb) rfl (fun f wf hq hd K hK => go_run rfl (wo_mv (.tmp 1) (.slice pb R.length cb) (fun _ => rfl) e40_1 (hK _ (Mo.refl _))))
      · exact og_eq (.int .i64 ((i : Nat) : Int)) rfl (fun f wf hq hd K hK => go_run rfl (wo_mv (.tmp 5) (.int .i64 ((i : Nat) : Int)) (fun _ => rfl) rfl (hK _ (Mo.refl _))))
      · exact og_eq (pt bq (oq + i * 2)) rfl (fun f wf hq hd K hK => go_run rfl (wo_bin (fun x y => Instr.indexAt 40 x y) (.tmp 20) (.tmp 21) (.slice pb R.length cb) (.int .i64 ((i : Nat) : Int)) (pt bq (oq + i * 2)) (fun _ => rfl) (hd 4 rfl) (hd 5 rfl) (ix40 (i := i) hpq hil _) (hK _ (Mo.refl _))))
      · exact og_eq (.agg #[.string y.1, .string y.2]) rfl (fun f wf hq hd K hK => go_run rfl (wo_load 42 (.tmp 22) (pt bq (oq + i * 2)) (.agg #[.string y.1, .string y.2]) rfl (hd 6 rfl) (D.run_partR (hRq.mo (M.trans hq)).at' 42 0 2 [.string y.1, .string y.2] rfl Try.underlying42 rfl sz42) (hK _ (Mo.refl _))))
    intro kf41 u41 hq hR hne
    replace M := M.trans hq
    clear hq hR hne
    refine wl_bin (fun x y => do eqGuard .neq 42 (.tmp 19) (.tmp 23) x y; binOp .neq 42 x y) (.tmp 19) (.tmp 23) (.agg #[.string y.1, .string y.2]) (.agg #[.string y.1, .string y.2]) (.bool false) (fun _ => rfl) rfl rfl (neR (p := y) (q := y) (decide_eq_true rfl) _ _ _) rfl ?_
    refine w_nil ?_
    refine xn_then ?_
    refine w_condF rfl ?_
    refine w_skip ?_
    refine xn_blk ?_
    refine xn_then ?_
    refine w_reg ?_
    refine wl_bin (fun x y => do eqGuard .add 3 (.tmp 13) (.const (.int .i64 (1))) x y; binOp .add 3 x y) (.tmp 13) (.const (.int .i64 (1))) (.int .i64 ((i : Nat) : Int)) (.int .i64 (1)) (.int .i64 ((i + 1 : Nat) : Int)) (fun _ => rfl) e40_i rfl (add1r (k := i) (by omega) _ _ _) rfl ?_
    refine wl_mv (.tmp 25) (.int .i64 ((i + 1 : Nat) : Int)) (fun _ => rfl) rfl rfl ?_
    refine w_nil ?_
    exact xn_loop (R.length - (i + 1)) (by omega) ⟨i + 1, rfl, by omega, e40_0, e40_1, e40_12, rfl, M⟩
  · skip
    have hid : decide (i < R.length) = false := decide_eq_false hil
    have hie : i = R.length := by omega
    refine w_seq ?_
    refine w_reg ?_
    refine wl_bin (fun x y => do eqGuard .lss 3 (.tmp 13) (.tmp 12) x y; binOp .lss 3 x y) (.tmp 13) (.tmp 12) (.int .i64 ((i : Nat) : Int)) (.int .i64 ((R.length : Nat) : Int)) (.bool false) (fun _ => rfl) e40_i e40_12 (ltN hid _ _ _) rfl ?_
    refine w_nil ?_
    refine xn_then ?_
    refine w_seq ?_
    refine w_condF rfl ?_
    refine w_exit ?_
    refine xx_then ?_
    refine xx_then ?_
    refine xx_blk ?_
    refine xn_then ?_
    refine w_seq ?_
    refine w_reg ?_
    refine wl_mv (.const (.bool true)) (.bool true) (fun _ => rfl) rfl rfl ?_
    refine w_nil ?_
    refine xn_then ?_
    refine w_ret ?_
    exact w_ret1 _ (.bool true) rfl rfl ⟨rfl, M⟩
theorem rreads_n : ∀ (x : Ex) {w : World}, LEx w x → nd x ≤ 4000000 → Calls Try.prog 16 #[.agg (x.cells).toArray] w fun e w' => ∃ pa cap, e = .returned (.slice pa (rds x).length cap) ∧ w'.ownsRow w.heap.size 42 2 (.slice pa (rds x).length cap) (rds x).length ((rds x).flatMap rdc) ∧ Mo w w' := by
  refine Ex.ind2 ?_
  intro x ih w hL hz
  refine w_enter 76 Try.func16 Try.ntmps16 rfl rfl ?_
  have M : Mo w w := Mo.refl _
  refine w_seq ?_
  refine w_reg ?_
  refine wl_box 38 (.tmp 0) (.agg (x.cells).toArray) (((x.cells).toArray)) rfl rfl (fun _ => by kernel_rfl) rfl ?_
  intro k1 u1 hk hz hq Q1
  have N_k1 : w.heap.size ≤ k1 := by have := M.size; omega
  replace M := M.trans hq
  clear hk hz hq
  refine wl_mv (.const (.slice none 0 0)) (.slice none 0 0) (fun _ => rfl) rfl rfl ?_
  refine w_nil ?_
  refine xn_then ?_
  refine w_seq ?_
  refine w_reg ?_
  refine wl_mv (.const (.slice none 0 0)) (.slice none 0 0) (fun _ => rfl) rfl rfl ?_
  refine w_nil ?_
  refine xn_then ?_
  refine w_seq ?_
  refine w_seq ?_
  refine w_reg ?_
  refine wl_un (fun v => Instr.fieldAt 38 v 0) (.tmp 1) (pt k1 0) (pt k1 0) (fun _ => rfl) rfl (by kernel_rfl) rfl ?_
  refine wl_load 3 (.tmp 9) (pt k1 0) (.int .i64 (x.k)) rfl rfl (run_one Q1 3 0 rfl Try.underlying3 rfl) rfl ?_
  cases hf0 : decide (x.k = 2) with
  | true =>
    have hf0p := of_decide_eq_true hf0
    refine wl_bin (fun x y => do eqGuard .eql 3 (.tmp 10) (.const (.int .i64 (2))) x y; binOp .eql 3 x y) (.tmp 10) (.const (.int .i64 (2))) (.int .i64 (x.k)) (.int .i64 (2)) (.bool true) (fun _ => rfl) rfl rfl (eq3 hf0 _ _ _) rfl ?_
    refine w_nil ?_
    refine xn_then ?_
    refine w_condT rfl ?_
    refine w_reg ?_
    refine wl_mv (.tmp 3) (.slice none 0 0) (fun _ => rfl) rfl rfl ?_
    refine wl_un (fun v => Instr.fieldAt 38 v 2) (.tmp 1) (pt k1 0) (pt k1 2) (fun _ => rfl) rfl (by kernel_rfl) rfl ?_
    refine wl_load 9 (.tmp 13) (pt k1 2) (.string x.nm) rfl rfl (run_one Q1 9 2 rfl Try.underlying9 rfl) rfl ?_
    refine wl_build 42 [(1, (.tmp 14))] [(1, .string x.nm)] (.agg #[.string ⟨#[]⟩, .string x.nm]) rfl rfl (by kernel_rfl) rfl ?_
    refine wl_bs 40 1 [(0, (.tmp 15))] [(0, .agg #[.string ⟨#[]⟩, .string x.nm])] #[.string ⟨#[]⟩, .string x.nm] 42 rfl rfl (fun _ => by kernel_rfl) rfl ?_
    intro k2 u2 hk hz hq Q2
    have ne_k1_k2 : k1 ≠ k2 := by have := Q1.lt; omega
    have N_k2 : w.heap.size ≤ k2 := by have := M.size; omega
    replace Q1 := Q1.mo hq
    replace M := M.trans hq
    clear hk hz hq
    refine wl_ap (.tmp 12) (.tmp 16) (N := w.heap.size) (k1 := k1) (r := ((⟨#[]⟩, x.nm) : Rd)) k2 rfl rfl rfl (RO.nil _ w.heap.size k1) Q2 (by decide) M.size Q1.2.2 rfl ?_
    intro pv2 cv2 u3 hRO2 hMo9 m4 hv4
    replace M := hMo9 w rfl M
    replace Q1 := m4.at Q1 (fun e => by cases e)
    refine wl_mv (.tmp 17) (.slice pv2 (([] : List Rd) ++ [((⟨#[]⟩, x.nm) : Rd)]).length cv2) (fun _ => rfl) rfl rfl ?_
    refine w_nil ?_
    refine xn_then ?_
    refine w_seq ?_
    refine w_seq ?_
    refine w_reg ?_
    refine wl_un (fun v => Instr.fieldAt 38 v 0) (.tmp 1) (pt k1 0) (pt k1 0) (fun _ => rfl) rfl (by kernel_rfl) rfl ?_
    refine wl_load 3 (.tmp 18) (pt k1 0) (.int .i64 (x.k)) rfl rfl (run_one Q1 3 0 rfl Try.underlying3 rfl) rfl ?_
    refine wl_bin (fun x y => do eqGuard .eql 3 (.tmp 19) (.const (.int .i64 (10))) x y; binOp .eql 3 x y) (.tmp 19) (.const (.int .i64 (10))) (.int .i64 (x.k)) (.int .i64 (10)) (.bool false) (fun _ => rfl) rfl rfl (eq3 (decide_eq_false (by omega)) _ _ _) rfl ?_
    refine w_nil ?_
    refine xn_then ?_
    refine w_condF rfl ?_
    refine w_skip ?_
    refine xn_then ?_
    refine w_seq ?_
    refine w_seq ?_
    refine w_reg ?_
    refine wl_mv (.const (.int .i64 (0))) (.int .i64 (0)) (fun _ => rfl) rfl rfl ?_
    refine w_nil ?_
    refine xn_then ?_
    refine w_block ?_
    have hz9 := hL.sl.1
    unfold maxLen at hz9
    refine w_loop (fun m l w1 => ∃ i : Nat, m = x.args.length - i ∧ i ≤ x.args.length ∧ look l 1 = pt k1 0 ∧ look l 4 = .int .i64 ((i : Nat) : Int) ∧ At w1 k1 (x.cells) ∧ (∃ O : List Rd, O = (x.args.take i).foldl (fun o a => (rds a).foldl ins o) (ownR x.k x.nm x.se) ∧ ∃ pv cv, look l 3 = .slice pv O.length cv ∧ RO w1 w.heap.size k1 pv cv O) ∧ Mo w w1) _ ⟨0, rfl, Nat.zero_le _, rfl, rfl, Q1, (by rw [ownR, if_pos hf0p]; exact ⟨_, rfl, pv2, cv2, rfl, hRO2.mo (Mo.refl _)⟩), M⟩ ?_
    clear Q1 M
    rintro m l40 wl40 ⟨i, rfl, hi, e40_1, e40_i, Q1, hE, M⟩
    by_cases hil : i < x.args.length
    · skip
      have hid : decide (i < x.args.length) = true := decide_eq_true hil
      obtain ⟨O, eO, pv, cv, e3, hRO⟩ := hE
      obtain ⟨a, ha⟩ := get_of_lt hil
      have hma := List.mem_of_getElem? ha
      obtain ⟨bp, op, hpp, hRp⟩ := D.SL.rw hL.sl ha
      refine w_seq ?_
      refine w_seq ?_
      refine w_reg ?_
      refine wl_mv (.tmp 4) (.int .i64 ((i : Nat) : Int)) (fun _ => rfl) e40_i rfl ?_
      refine wl_un (fun v => Instr.fieldAt 38 v 7) (.tmp 1) (pt k1 0) (pt k1 16) (fun _ => rfl) e40_1 (by kernel_rfl) rfl ?_
      refine wl_load 36 (.tmp 30) (pt k1 16) (.slice x.pa x.args.length x.cap) rfl rfl (run_one Q1 36 16 rfl Try.underlying36 rfl) rfl ?_
      refine wl_val (.int .i64 ((x.args.length : Nat) : Int)) (len36 _ _ _ _ _ (by exact rfl) _ _ _ _ _ _) rfl ?_
      refine wl_bin (fun x y => do eqGuard .lss 3 (.tmp 29) (.tmp 32) x y; binOp .lss 3 x y) (.tmp 29) (.tmp 32) (.int .i64 ((i : Nat) : Int)) (.int .i64 ((x.args.length : Nat) : Int)) (.bool true) (fun _ => rfl) rfl rfl (ltN hid _ _ _) rfl ?_
      refine w_nil ?_
      refine xn_then ?_
      refine w_condT rfl ?_
      refine w_skip ?_
      refine xn_then ?_
      refine w_seq ?_
      refine w_block ?_
      refine w_seq ?_
      refine w_reg ?_
      refine wl_un (fun v => Instr.fieldAt 38 v 7) (.tmp 1) (pt k1 0) (pt k1 16) (fun _ => rfl) e40_1 (by kernel_rfl) rfl ?_
      refine wl_load 36 (.tmp 36) (pt k1 16) (.slice x.pa x.args.length x.cap) rfl rfl (run_one Q1 36 16 rfl Try.underlying36 rfl) rfl ?_
      refine wl_mv (.tmp 4) (.int .i64 ((i : Nat) : Int)) (fun _ => rfl) e40_i rfl ?_
      refine wl_bin (fun x y => Instr.indexAt 36 x y) (.tmp 37) (.tmp 38) (.slice x.pa x.args.length x.cap) (.int .i64 ((i : Nat) : Int)) (pt bp (op + i * 17)) (fun _ => rfl) rfl rfl (ix36 (i := i) hpp hil _) rfl ?_
      refine wl_load 38 (.tmp 39) (pt bp (op + i * 17)) (.agg (a.cells).toArray) rfl rfl (D.run_partR (hRp.mo M).at' 38 0 17 (a.cells) rfl Try.underlying38 rfl sz38) rfl ?_
      have M2 : Mo wl40 wl40 := Mo.refl _
      refine wl_callx 16 [(.tmp 40)] _ [.agg (a.cells).toArray] rfl rfl (fun _ _ => by kernel_rfl) (ih a hma ((hL.ar a hma).kp M.kp) (by have := nd_arg ha; omega)) rfl ?_
      rintro e9 u41 ⟨pl, cl, rfl, hwl, hq⟩
      refine ⟨_, rfl, ?_⟩
      have hRL := RL.made (hRO.mo M2) hwl
      replace Q1 := Q1.mo hq
      replace hRO := (hRO.mo M2).mo hq
      replace M := M.trans hq
      clear hq hwl M2
      refine wl_mv (.tmp 41) (.slice pl (rds a).length cl) (fun _ => rfl) rfl rfl ?_
      refine w_nil ?_
      refine xn_then ?_
      refine w_seq ?_
      refine w_reg ?_
      refine wl_mv (.const (.int .i64 (0))) (.int .i64 (0)) (fun _ => rfl) rfl rfl ?_
      refine w_nil ?_
      refine xn_then ?_
      refine w_block ?_
      have hzl := rds_len a
      have hzn := nd_arg ha
      refine w_loop (fun m l w1 => ∃ j : Nat, m = (rds a).length - j ∧ j ≤ (rds a).length ∧ look l 1 = pt k1 0 ∧ look l 4 = .int .i64 ((i : Nat) : Int) ∧ look l 5 = .slice pl (rds a).length cl ∧ look l 6 = .int .i64 ((j : Nat) : Int) ∧ At w1 k1 (x.cells) ∧ (∃ P : List Rd, P = ((rds a).take j).foldl ins O ∧ ∃ pu cu, look l 3 = .slice pu P.length cu ∧ RO w1 w.heap.size k1 pu cu P ∧ RL w1 pl cl (rds a) (.slice pu P.length cu)) ∧ Mo w w1) _ ⟨0, rfl, Nat.zero_le _, e40_1, e40_i, rfl, rfl, Q1, ⟨O, rfl, pv, cv, e3, hRO, hRL⟩, M⟩ ?_
      clear Q1 M
      rintro m l60 wl60 ⟨j, rfl, hj, e60_1, e60_4, e60_5, e60_i, Q1, hF, M⟩
      by_cases hjl : j < (rds a).length
      · skip
        have hjd : decide (j < (rds a).length) = true := decide_eq_true hjl
        obtain ⟨P, eP, pu, cu, e3b, hRP, hRM⟩ := hF
        have hzP : P.length < 4000000 := by rw [eP, eO]; exact rb hz ha hjl
        obtain ⟨r, hr⟩ := get_of_lt hjl
        refine w_seq ?_
        refine w_seq ?_
        refine w_reg ?_
        refine wl_mv (.tmp 6) (.int .i64 ((j : Nat) : Int)) (fun _ => rfl) e60_i rfl ?_
        refine wl_mv (.tmp 5) (.slice pl (rds a).length cl) (fun _ => rfl) e60_5 rfl ?_
        refine wl_val (.int .i64 (((rds a).length : Nat) : Int)) (len40 _ _ _ _ _ (by exact rfl) _ _ _ _ _ _) rfl ?_
        refine wl_bin (fun x y => do eqGuard .lss 3 (.tmp 42) (.tmp 44) x y; binOp .lss 3 x y) (.tmp 42) (.tmp 44) (.int .i64 ((j : Nat) : Int)) (.int .i64 (((rds a).length : Nat) : Int)) (.bool true) (fun _ => rfl) rfl rfl (ltN hjd _ _ _) rfl ?_
        refine w_nil ?_
        refine xn_then ?_
        refine w_condT rfl ?_
        refine w_skip ?_
        refine xn_then ?_
        refine w_seq ?_
        refine w_block ?_
        refine w_seq ?_
        refine w_reg ?_
        refine wl_mv (.const (.bool false)) (.bool false) (fun _ => rfl) rfl rfl ?_
        refine w_nil ?_
        refine xn_then ?_
        refine w_seq ?_
        refine w_seq ?_
        refine w_reg ?_
        refine wl_mv (.const (.int .i64 (0))) (.int .i64 (0)) (fun _ => rfl) rfl rfl ?_
        refine w_nil ?_
        refine xn_then ?_
        refine w_block ?_
        have Mw := M
        clear M
        have M : Mo wl60 wl60 := Mo.refl _
        have hSP := hRP.sl (by omega)
        have hSL := hRM.sl (by omega)
        obtain ⟨bq, oq, hpq, hRq⟩ := D.SL.rw hSL hr
        refine w_loop (fun m l w1 => ∃ g : Nat, m = P.length - g ∧ g ≤ P.length ∧ look l 1 = pt k1 0 ∧ look l 3 = .slice pu P.length cu ∧ look l 4 = .int .i64 ((i : Nat) : Int) ∧ look l 5 = .slice pl (rds a).length cl ∧ look l 6 = .int .i64 ((j : Nat) : Int) ∧ look l 8 = .int .i64 ((g : Nat) : Int) ∧ At w1 k1 (x.cells) ∧ (∃ hb : Bool, look l 7 = .bool hb ∧ hb = hasR (P.take g) r) ∧ Mo wl60 w1) _ ⟨0, rfl, Nat.zero_le _, e60_1, e3b, e60_4, e60_5, e60_i, rfl, Q1, ⟨false, rfl, rfl⟩, M⟩ ?_
        clear Q1 M
        rintro m l80 wl80 ⟨g, rfl, hg, e80_1, e80_3, e80_4, e80_5, e80_6, e80_i, Q1, hH, M⟩
        by_cases hgl : g < P.length
        · skip
          have hgd : decide (g < P.length) = true := decide_eq_true hgl
          obtain ⟨hb, e7, hbe⟩ := hH
          obtain ⟨y, hy⟩ := get_of_lt hgl
          obtain ⟨byy, oyy, hpyy, hRyy⟩ := D.SL.rw hSP hy
          refine w_seq ?_
          refine w_seq ?_
          refine w_reg ?_
          refine wl_mv (.tmp 8) (.int .i64 ((g : Nat) : Int)) (fun _ => rfl) e80_i rfl ?_
          refine wl_mv (.tmp 3) (.slice pu P.length cu) (fun _ => rfl) e80_3 rfl ?_
          refine wl_val (.int .i64 ((P.length : Nat) : Int)) (len40 _ _ _ _ _ (by exact rfl) _ _ _ _ _ _) rfl ?_
          refine wl_bin (fun x y => do eqGuard .lss 3 (.tmp 48) (.tmp 50) x y; binOp .lss 3 x y) (.tmp 48) (.tmp 50) (.int .i64 ((g : Nat) : Int)) (.int .i64 ((P.length : Nat) : Int)) (.bool true) (fun _ => rfl) rfl rfl (ltN hgd _ _ _) rfl ?_
          refine w_nil ?_
          refine xn_then ?_
          refine w_condT rfl ?_
          refine w_skip ?_
          refine xn_then ?_
          refine w_seq ?_
          refine w_block ?_
          cases hb with
          | true =>
            refine w_any 10 [.inl (.bool true), .inl (.bool true), .inl undef, .inl undef, .inl undef, .inl undef, .inl undef, .inl undef, .inl undef, .inl undef] [] (by kernel_rfl) (by kernel_rfl) (by kernel_rfl) (by kernel_rfl) rfl (by kernel_rfl) (by kernel_rfl) late_nil ?_ ?_ ?_
            · exact Ds.none rfl
            · refine ea_cons ?_ (ea_cons ?_ (ea_cons ?_ (ea_cons ?_ (ea_cons ?_ (ea_cons ?_ (ea_cons ?_ (ea_cons ?_ (ea_cons ?_ (ea_cons ?_ (ea_nil))))))))))
              · exact og_eq (.bool true) rfl (fun f wf hq hd K hK => go_run rfl (wo_mv (.tmp 7) (.bool true) (fun _ => rfl) e7 (hK _ (Mo.refl _))))
              · exact og_eq (.bool true) rfl (fun f wf hq hd K hK => go_run rfl (wo_mv (.tmp 54) (.bool true) (fun _ => rfl) (hd 0 rfl) (hK _ (Mo.refl _))))
              · exact og_eq undef rfl (fun f wf hq hd K hK => go_pass (wnt_g rfl rfl rfl (hd 1 rfl) rfl) (hK _ (Mo.refl _)))
              · exact og_eq undef rfl (fun f wf hq hd K hK => go_pass (wnt_g rfl rfl rfl (hd 1 rfl) rfl) (hK _ (Mo.refl _)))
              · exact og_eq undef rfl (fun f wf hq hd K hK => go_pass (wnt_g rfl rfl rfl (hd 1 rfl) rfl) (hK _ (Mo.refl _)))
              · exact og_eq undef rfl (fun f wf hq hd K hK => go_pass (wnt_g rfl rfl rfl (hd 1 rfl) rfl) (hK _ (Mo.refl _)))
              · exact og_eq undef rfl (fun f wf hq hd K hK => go_pass (wnt_g rfl rfl rfl (hd 1 rfl) rfl) (hK _ (Mo.refl _)))
              · exact og_eq undef rfl (fun f wf hq hd K hK => go_pass (wnt_g rfl rfl rfl (hd 1 rfl) rfl) (hK _ (Mo.refl _)))
              · exact og_eq undef rfl (fun f wf hq hd K hK => go_pass (wnt_g rfl rfl rfl (hd 1 rfl) rfl) (hK _ (Mo.refl _)))
              · exact og_eq undef rfl (fun f wf hq hd K hK => go_pass (wnt_g rfl rfl rfl (hd 1 rfl) rfl) (hK _ (Mo.refl _)))
            intro kf81 u81 hq hR hne
            replace Q1 := Q1.mo hq
            replace M := M.trans hq
            clear hq hR hne
            refine wl_skip rfl ?_
            refine wl_pick (.tmp 55) (.const (.bool true)) (.tmp 64) true (.bool true) (fun _ => rfl) rfl rfl rfl ?_
            refine wl_mv (.tmp 65) (.bool true) (fun _ => rfl) rfl rfl ?_
            refine w_nil ?_
            refine xn_blk ?_
            refine xn_then ?_
            refine w_reg ?_
            refine wl_mv (.tmp 8) (.int .i64 ((g : Nat) : Int)) (fun _ => rfl) e80_i rfl ?_
            refine wl_bin (fun x y => do eqGuard .add 3 (.tmp 52) (.const (.int .i64 (1))) x y; binOp .add 3 x y) (.tmp 52) (.const (.int .i64 (1))) (.int .i64 ((g : Nat) : Int)) (.int .i64 (1)) (.int .i64 ((g + 1 : Nat) : Int)) (fun _ => rfl) rfl rfl (add1r (k := g) (by omega) _ _ _) rfl ?_
            refine wl_mv (.tmp 53) (.int .i64 ((g + 1 : Nat) : Int)) (fun _ => rfl) rfl rfl ?_
            refine w_nil ?_
            exact xn_loop (P.length - (g + 1)) (by omega) ⟨g + 1, rfl, by omega, e80_1, e80_3, e80_4, e80_5, e80_6, rfl, Q1, ⟨true, rfl, by rw [has_take1 hy, ← hbe]; rfl⟩, M⟩
          | false =>
            cases hf90 : decide (y = r) with
            | true =>
              have hf90p := of_decide_eq_true hf90
              refine w_any 10 [.inl (.bool false), .inl (.bool false), .inl (.slice pu P.length cu), .inl (.int .i64 ((g : Nat) : Int)), .inl (pt byy (oyy + g * 2)), .inl (.agg #[.string y.1, .string y.2]), .inl (.slice pl (rds a).length cl), .inl (.int .i64 ((j : Nat) : Int)), .inl (pt bq (oq + j * 2)), .inl (.agg #[.string r.1, .string r.2])] [] (by kernel_rfl) (by kernel_rfl) (by kernel_rfl) (by kernel_rfl) rfl (by kernel_rfl) (by kernel_rfl) late_nil ?_ ?_ ?_
              · exact Ds.none rfl
              · refine ea_cons ?_ (ea_cons ?_ (ea_cons ?_ (ea_cons ?_ (ea_cons ?_ (ea_cons ?_ (ea_cons ?_ (ea_cons ?_ (ea_cons ?_ (ea_cons ?_ (ea_nil))))))))))
                · exact og_eq (.bool false) rfl (fun f wf hq hd K hK => go_run rfl (wo_mv (.tmp 7) (.bool false) (fun _ => rfl) e7 (hK _ (Mo.refl _))))
                · exact og_eq (.bool false) rfl (fun f wf hq hd K hK => go_run rfl (wo_mv (.tmp 54) (.bool false) (fun _ => rfl) (hd 0 rfl) (hK _ (Mo.refl _))))
                · exact og_eq (.slice pu P.length cu) rfl (fun f wf hq hd K hK => go_run (wnt_g rfl rfl rfl (hd 1 rfl) rfl) (wo_mv (.tmp 3) (.slice pu P.length cu) (fun _ => rfl) e80_3 (hK _ (Mo.refl _))))
                · exact og_eq (.int .i64 ((g : Nat) : Int)) rfl (fun f wf hq hd K hK => go_run (wnt_g rfl rfl rfl (hd 1 rfl) rfl) (wo_mv (.tmp 8) (.int .i64 ((g : Nat) : Int)) (fun _ => rfl) e80_i (hK _ (Mo.refl _))))
                · exact og_eq (pt byy (oyy + g * 2)) rfl (fun f wf hq hd K hK => go_run (wnt_g rfl rfl rfl (hd 1 rfl) rfl) (wo_bin (fun x y => Instr.indexAt 40 x y) (.tmp 56) (.tmp 57) (.slice pu P.length cu) (.int .i64 ((g : Nat) : Int)) (pt byy (oyy + g * 2)) (fun _ => rfl) (hd 2 rfl) (hd 3 rfl) (ix40 (i := g) hpyy hgl _) (hK _ (Mo.refl _))))
                · exact og_eq (.agg #[.string y.1, .string y.2]) rfl (fun f wf hq hd K hK => go_run (wnt_g rfl rfl rfl (hd 1 rfl) rfl) (wo_load 42 (.tmp 58) (pt byy (oyy + g * 2)) (.agg #[.string y.1, .string y.2]) rfl (hd 4 rfl) (D.run_partR (hRyy.mo (M.trans hq)).at' 42 0 2 [.string y.1, .string y.2] rfl Try.underlying42 rfl sz42) (hK _ (Mo.refl _))))
                · exact og_eq (.slice pl (rds a).length cl) rfl (fun f wf hq hd K hK => go_run (wnt_g rfl rfl rfl (hd 1 rfl) rfl) (wo_mv (.tmp 5) (.slice pl (rds a).length cl) (fun _ => rfl) e80_5 (hK _ (Mo.refl _))))
                · exact og_eq (.int .i64 ((j : Nat) : Int)) rfl (fun f wf hq hd K hK => go_run (wnt_g rfl rfl rfl (hd 1 rfl) rfl) (wo_mv (.tmp 6) (.int .i64 ((j : Nat) : Int)) (fun _ => rfl) e80_6 (hK _ (Mo.refl _))))
                · exact og_eq (pt bq (oq + j * 2)) rfl (fun f wf hq hd K hK => go_run (wnt_g rfl rfl rfl (hd 1 rfl) rfl) (wo_bin (fun x y => Instr.indexAt 40 x y) (.tmp 60) (.tmp 61) (.slice pl (rds a).length cl) (.int .i64 ((j : Nat) : Int)) (pt bq (oq + j * 2)) (fun _ => rfl) (hd 6 rfl) (hd 7 rfl) (ix40 (i := j) hpq hjl _) (hK _ (Mo.refl _))))
                · exact og_eq (.agg #[.string r.1, .string r.2]) rfl (fun f wf hq hd K hK => go_run (wnt_g rfl rfl rfl (hd 1 rfl) rfl) (wo_load 42 (.tmp 62) (pt bq (oq + j * 2)) (.agg #[.string r.1, .string r.2]) rfl (hd 8 rfl) (D.run_partR (hRq.mo (M.trans hq)).at' 42 0 2 [.string r.1, .string r.2] rfl Try.underlying42 rfl sz42) (hK _ (Mo.refl _))))
              intro kf81 u81 hq hR hne
              replace Q1 := Q1.mo hq
              replace M := M.trans hq
              clear hq hR hne
              refine wl_bin (fun x y => do eqGuard .eql 42 (.tmp 59) (.tmp 63) x y; binOp .eql 42 x y) (.tmp 59) (.tmp 63) (.agg #[.string y.1, .string y.2]) (.agg #[.string r.1, .string r.2]) (.bool true) (fun _ => rfl) rfl rfl (eqR (p := y) (q := r) hf90 _ _ _) rfl ?_
              refine wl_pick (.tmp 55) (.const (.bool true)) (.tmp 64) false (.bool true) (fun _ => rfl) rfl rfl rfl ?_
              refine wl_mv (.tmp 65) (.bool true) (fun _ => rfl) rfl rfl ?_
              refine w_nil ?_
              refine xn_blk ?_
              refine xn_then ?_
              refine w_reg ?_
              refine wl_mv (.tmp 8) (.int .i64 ((g : Nat) : Int)) (fun _ => rfl) e80_i rfl ?_
              refine wl_bin (fun x y => do eqGuard .add 3 (.tmp 52) (.const (.int .i64 (1))) x y; binOp .add 3 x y) (.tmp 52) (.const (.int .i64 (1))) (.int .i64 ((g : Nat) : Int)) (.int .i64 (1)) (.int .i64 ((g + 1 : Nat) : Int)) (fun _ => rfl) rfl rfl (add1r (k := g) (by omega) _ _ _) rfl ?_
              refine wl_mv (.tmp 53) (.int .i64 ((g + 1 : Nat) : Int)) (fun _ => rfl) rfl rfl ?_
              refine w_nil ?_
              exact xn_loop (P.length - (g + 1)) (by omega) ⟨g + 1, rfl, by omega, e80_1, e80_3, e80_4, e80_5, e80_6, rfl, Q1, ⟨_, rfl, by rw [has_take1 hy, ← hbe, hf90]; rfl⟩, M⟩
            | false =>
              have hf90p := of_decide_eq_false hf90
              refine w_any 10 [.inl (.bool false), .inl (.bool false), .inl (.slice pu P.length cu), .inl (.int .i64 ((g : Nat) : Int)), .inl (pt byy (oyy + g * 2)), .inl (.agg #[.string y.1, .string y.2]), .inl (.slice pl (rds a).length cl), .inl (.int .i64 ((j : Nat) : Int)), .inl (pt bq (oq + j * 2)), .inl (.agg #[.string r.1, .string r.2])] [] (by kernel_rfl) (by kernel_rfl) (by kernel_rfl) (by kernel_rfl) rfl (by kernel_rfl) (by kernel_rfl) late_nil ?_ ?_ ?_
              · exact Ds.none rfl
              · refine ea_cons ?_ (ea_cons ?_ (ea_cons ?_ (ea_cons ?_ (ea_cons ?_ (ea_cons ?_ (ea_cons ?_ (ea_cons ?_ (ea_cons ?_ (ea_cons ?_ (ea_nil))))))))))
                · exact og_eq (.bool false) rfl (fun f wf hq hd K hK => go_run rfl (wo_mv (.tmp 7) (.bool false) (fun _ => rfl) e7 (hK _ (Mo.refl _))))
                · exact og_eq (.bool false) rfl (fun f wf hq hd K hK => go_run rfl (wo_mv (.tmp 54) (.bool false) (fun _ => rfl) (hd 0 rfl) (hK _ (Mo.refl _))))
                · exact og_eq (.slice pu P.length cu) rfl (fun f wf hq hd K hK => go_run (wnt_g rfl rfl rfl (hd 1 rfl) rfl) (wo_mv (.tmp 3) (.slice pu P.length cu) (fun _ => rfl) e80_3 (hK _ (Mo.refl _))))
                · exact og_eq (.int .i64 ((g : Nat) : Int)) rfl (fun f wf hq hd K hK => go_run (wnt_g rfl rfl rfl (hd 1 rfl) rfl) (wo_mv (.tmp 8) (.int .i64 ((g : Nat) : Int)) (fun _ => rfl) e80_i (hK _ (Mo.refl _))))
                · exact og_eq (pt byy (oyy + g * 2)) rfl (fun f wf hq hd K hK => go_run (wnt_g rfl rfl rfl (hd 1 rfl) rfl) (wo_bin (fun x y => Instr.indexAt 40 x y) (.tmp 56) (.tmp 57) (.slice pu P.length cu) (.int .i64 ((g : Nat) : Int)) (pt byy (oyy + g * 2)) (fun _ => rfl) (hd 2 rfl) (hd 3 rfl) (ix40 (i := g) hpyy hgl _) (hK _ (Mo.refl _))))
                · exact og_eq (.agg #[.string y.1, .string y.2]) rfl (fun f wf hq hd K hK => go_run (wnt_g rfl rfl rfl (hd 1 rfl) rfl) (wo_load 42 (.tmp 58) (pt byy (oyy + g * 2)) (.agg #[.string y.1, .string y.2]) rfl (hd 4 rfl) (D.run_partR (hRyy.mo (M.trans hq)).at' 42 0 2 [.string y.1, .string y.2] rfl Try.underlying42 rfl sz42) (hK _ (Mo.refl _))))
                · exact og_eq (.slice pl (rds a).length cl) rfl (fun f wf hq hd K hK => go_run (wnt_g rfl rfl rfl (hd 1 rfl) rfl) (wo_mv (.tmp 5) (.slice pl (rds a).length cl) (fun _ => rfl) e80_5 (hK _ (Mo.refl _))))
                · exact og_eq (.int .i64 ((j : Nat) : Int)) rfl (fun f wf hq hd K hK => go_run (wnt_g rfl rfl rfl (hd 1 rfl) rfl) (wo_mv (.tmp 6) (.int .i64 ((j : Nat) : Int)) (fun _ => rfl) e80_6 (hK _ (Mo.refl _))))
                · exact og_eq (pt bq (oq + j * 2)) rfl (fun f wf hq hd K hK => go_run (wnt_g rfl rfl rfl (hd 1 rfl) rfl) (wo_bin (fun x y => Instr.indexAt 40 x y) (.tmp 60) (.tmp 61) (.slice pl (rds a).length cl) (.int .i64 ((j : Nat) : Int)) (pt bq (oq + j * 2)) (fun _ => rfl) (hd 6 rfl) (hd 7 rfl) (ix40 (i := j) hpq hjl _) (hK _ (Mo.refl _))))
                · exact og_eq (.agg #[.string r.1, .string r.2]) rfl (fun f wf hq hd K hK => go_run (wnt_g rfl rfl rfl (hd 1 rfl) rfl) (wo_load 42 (.tmp 62) (pt bq (oq + j * 2)) (.agg #[.string r.1, .string r.2]) rfl (hd 8 rfl) (D.run_partR (hRq.mo (M.trans hq)).at' 42 0 2 [.string r.1, .string r.2] rfl Try.underlying42 rfl sz42) (hK _ (Mo.refl _))))
              intro kf81 u81 hq hR hne
              replace Q1 := Q1.mo hq
              replace M := M.trans hq
              clear hq hR hne
              refine wl_bin (fun x y => do eqGuard .eql 42 (.tmp 59) (.tmp 63) x y; binOp .eql 42 x y) (.tmp 59) (.tmp 63) (.agg #[.string y.1, .string y.2]) (.agg #[.string r.1, .string r.2]) (.bool false) (fun _ => rfl) rfl rfl (eqR (p := y) (q := r) hf90 _ _ _) rfl ?_
              refine wl_pick (.tmp 55) (.const (.bool true)) (.tmp 64) false (.bool false) (fun _ => rfl) rfl rfl rfl ?_
              refine wl_mv (.tmp 65) (.bool false) (fun _ => rfl) rfl rfl ?_
              refine w_nil ?_
              refine xn_blk ?_
              refine xn_then ?_
              refine w_reg ?_
              refine wl_mv (.tmp 8) (.int .i64 ((g : Nat) : Int)) (fun _ => rfl) e80_i rfl ?_
              refine wl_bin (fun x y => do eqGuard .add 3 (.tmp 52) (.const (.int .i64 (1))) x y; binOp .add 3 x y) (.tmp 52) (.const (.int .i64 (1))) (.int .i64 ((g : Nat) : Int)) (.int .i64 (1)) (.int .i64 ((g + 1 : Nat) : Int)) (fun _ => rfl) rfl rfl (add1r (k := g) (by omega) _ _ _) rfl ?_
              refine wl_mv (.tmp 53) (.int .i64 ((g + 1 : Nat) : Int)) (fun _ => rfl) rfl rfl ?_
              refine w_nil ?_
              exact xn_loop (P.length - (g + 1)) (by omega) ⟨g + 1, rfl, by omega, e80_1, e80_3, e80_4, e80_5, e80_6, rfl, Q1, ⟨_, rfl, by rw [has_take1 hy, ← hbe, hf90]; rfl⟩, M⟩
        · skip
          have hgd : decide (g < P.length) = false := decide_eq_false hgl
          have hge : g = P.length := by omega
          obtain ⟨hb, e7, hbe⟩ := hH
          rw [hge, List.take_length] at hbe
          refine w_seq ?_
          refine w_seq ?_
          refine w_reg ?_
          refine wl_mv (.tmp 8) (.int .i64 ((g : Nat) : Int)) (fun _ => rfl) e80_i rfl ?_
          refine wl_mv (.tmp 3) (.slice pu P.length cu) (fun _ => rfl) e80_3 rfl ?_
          refine wl_val (.int .i64 ((P.length : Nat) : Int)) (len40 _ _ _ _ _ (by exact rfl) _ _ _ _ _ _) rfl ?_
          refine wl_bin (fun x y => do eqGuard .lss 3 (.tmp 48) (.tmp 50) x y; binOp .lss 3 x y) (.tmp 48) (.tmp 50) (.int .i64 ((g : Nat) : Int)) (.int .i64 ((P.length : Nat) : Int)) (.bool false) (fun _ => rfl) rfl rfl (ltN hgd _ _ _) rfl ?_
          refine w_nil ?_
          refine xn_then ?_
          refine w_condF rfl ?_
          refine w_exit ?_
          refine xx_then ?_
          refine xx_then ?_
          refine xx_blk ?_
          refine xn_then ?_
          refine w_seq ?_
          refine w_reg ?_
          refine wl_mv (.tmp 7) (.bool hb) (fun _ => rfl) e7 rfl ?_
          cases hb with
          | true =>
            refine wl_un (fun v => Op.unary .not v) (.tmp 66) (.bool true) (.bool false) (fun _ => rfl) rfl (by kernel_rfl) rfl ?_
            refine w_nil ?_
            refine xn_then ?_
            refine w_condF rfl ?_
            refine w_skip ?_
            refine xn_blk ?_
            refine xn_then ?_
            refine w_reg ?_
            refine wl_mv (.tmp 6) (.int .i64 ((j : Nat) : Int)) (fun _ => rfl) e80_6 rfl ?_
            refine wl_bin (fun x y => do eqGuard .add 3 (.tmp 46) (.const (.int .i64 (1))) x y; binOp .add 3 x y) (.tmp 46) (.const (.int .i64 (1))) (.int .i64 ((j : Nat) : Int)) (.int .i64 (1)) (.int .i64 ((j + 1 : Nat) : Int)) (fun _ => rfl) rfl rfl (add1r (k := j) (by omega) _ _ _) rfl ?_
            refine wl_mv (.tmp 47) (.int .i64 ((j + 1 : Nat) : Int)) (fun _ => rfl) rfl rfl ?_
            refine w_nil ?_
            replace hRP := hRP.mo M
            replace hRM := hRM.mo M
            replace M := Mw.trans M
            exact xn_loop ((rds a).length - (j + 1)) (by omega) ⟨j + 1, rfl, by omega, e80_1, e80_4, e80_5, rfl, Q1, ⟨P, by rw [foldl_s hr, ← eP, ins_has hbe.symm], pu, cu, e80_3, hRP, hRM⟩, M⟩
          | false =>
            refine wl_un (fun v => Op.unary .not v) (.tmp 66) (.bool false) (.bool true) (fun _ => rfl) rfl (by kernel_rfl) rfl ?_
            refine w_nil ?_
            refine xn_then ?_
            refine w_condT rfl ?_
            refine w_reg ?_
            refine wl_mv (.tmp 3) (.slice pu P.length cu) (fun _ => rfl) e80_3 rfl ?_
            refine wl_mv (.tmp 5) (.slice pl (rds a).length cl) (fun _ => rfl) e80_5 rfl ?_
            refine wl_mv (.tmp 6) (.int .i64 ((j : Nat) : Int)) (fun _ => rfl) e80_6 rfl ?_
            refine wl_bin (fun x y => Instr.indexAt 40 x y) (.tmp 69) (.tmp 70) (.slice pl (rds a).length cl) (.int .i64 ((j : Nat) : Int)) (pt bq (oq + j * 2)) (fun _ => rfl) rfl rfl (ix40 (i := j) hpq hjl _) rfl ?_
            refine wl_load 42 (.tmp 71) (pt bq (oq + j * 2)) (.agg #[.string r.1, .string r.2]) rfl rfl (D.run_partR (hRq.mo M).at' 42 0 2 [.string r.1, .string r.2] rfl Try.underlying42 rfl sz42) rfl ?_
            refine wl_bs 40 1 [(0, (.tmp 72))] [(0, .agg #[.string r.1, .string r.2])] #[.string r.1, .string r.2] 42 rfl rfl (fun _ => by kernel_rfl) rfl ?_
            intro k3 u81 hk hz hq Q3
            have ne_k1_k3 : k1 ≠ k3 := by have := Q1.lt; omega
            have N_k3 : wl60.heap.size ≤ k3 := by have := M.size; omega
            replace Q1 := Q1.mo hq
            replace M := M.trans hq
            clear hk hz hq
            replace hRP := hRP.mo M
            replace hRM := hRM.mo M
            replace M := Mw.trans M
            refine wl_ap (.tmp 68) (.tmp 73) (N := w.heap.size) (k1 := k1) (r := r) k3 rfl rfl rfl (hRP) Q3 (hzP) M.size Q1.2.2 rfl ?_
            intro pv2 cv2 u82 hRO2 hMo9 m4 hv4
            replace M := hMo9 w rfl M
            replace Q1 := m4.at Q1 (fun e => hRP.nk _ e rfl)
            have hRM2 := hRM.app m4 hv4
            refine wl_mv (.tmp 74) (.slice pv2 (P ++ [r]).length cv2) (fun _ => rfl) rfl rfl ?_
            refine w_nil ?_
            refine xn_blk ?_
            refine xn_then ?_
            refine w_reg ?_
            refine wl_mv (.tmp 6) (.int .i64 ((j : Nat) : Int)) (fun _ => rfl) e80_6 rfl ?_
            refine wl_bin (fun x y => do eqGuard .add 3 (.tmp 46) (.const (.int .i64 (1))) x y; binOp .add 3 x y) (.tmp 46) (.const (.int .i64 (1))) (.int .i64 ((j : Nat) : Int)) (.int .i64 (1)) (.int .i64 ((j + 1 : Nat) : Int)) (fun _ => rfl) rfl rfl (add1r (k := j) (by omega) _ _ _) rfl ?_
            refine wl_mv (.tmp 47) (.int .i64 ((j + 1 : Nat) : Int)) (fun _ => rfl) rfl rfl ?_
            refine w_nil ?_
            exact xn_loop ((rds a).length - (j + 1)) (by omega) ⟨j + 1, rfl, by omega, e80_1, e80_4, e80_5, rfl, Q1, ⟨P ++ [r], by rw [foldl_s hr, ← eP, ins_not hbe.symm], pv2, cv2, rfl, hRO2, hRM2⟩, M⟩
      · skip
        have hjd : decide (j < (rds a).length) = false := decide_eq_false hjl
        have hje : j = (rds a).length := by omega
        obtain ⟨P, eP, pu, cu, e3b, hRP, hRM⟩ := hF
        refine w_seq ?_
        refine w_seq ?_
        refine w_reg ?_
        refine wl_mv (.tmp 6) (.int .i64 ((j : Nat) : Int)) (fun _ => rfl) e60_i rfl ?_
        refine wl_mv (.tmp 5) (.slice pl (rds a).length cl) (fun _ => rfl) e60_5 rfl ?_
        refine wl_val (.int .i64 (((rds a).length : Nat) : Int)) (len40 _ _ _ _ _ (by exact rfl) _ _ _ _ _ _) rfl ?_
        refine wl_bin (fun x y => do eqGuard .lss 3 (.tmp 42) (.tmp 44) x y; binOp .lss 3 x y) (.tmp 42) (.tmp 44) (.int .i64 ((j : Nat) : Int)) (.int .i64 (((rds a).length : Nat) : Int)) (.bool false) (fun _ => rfl) rfl rfl (ltN hjd _ _ _) rfl ?_
        refine w_nil ?_
        refine xn_then ?_
        refine w_condF rfl ?_
        refine w_exit ?_
        refine xx_then ?_
        refine xx_then ?_
        refine xx_blk ?_
        refine xn_blk ?_
        refine xn_then ?_
        refine w_reg ?_
        refine wl_mv (.tmp 4) (.int .i64 ((i : Nat) : Int)) (fun _ => rfl) e60_4 rfl ?_
        refine wl_bin (fun x y => do eqGuard .add 3 (.tmp 34) (.const (.int .i64 (1))) x y; binOp .add 3 x y) (.tmp 34) (.const (.int .i64 (1))) (.int .i64 ((i : Nat) : Int)) (.int .i64 (1)) (.int .i64 ((i + 1 : Nat) : Int)) (fun _ => rfl) rfl rfl (add1r (k := i) (by omega) _ _ _) rfl ?_
        refine wl_mv (.tmp 35) (.int .i64 ((i + 1 : Nat) : Int)) (fun _ => rfl) rfl rfl ?_
        refine w_nil ?_
        exact xn_loop (x.args.length - (i + 1)) (by omega) ⟨i + 1, rfl, by omega, e60_1, rfl, Q1, ⟨_, by rw [foldl_s ha, ← eO]; exact (by rw [hje, List.take_length] at eP; exact eP), pu, cu, e3b, hRP⟩, M⟩
    · skip
      have hid : decide (i < x.args.length) = false := decide_eq_false hil
      have hie : i = x.args.length := by omega
      obtain ⟨O, eO, pv, cv, e3, hRO⟩ := hE
      refine w_seq ?_
      refine w_seq ?_
      refine w_reg ?_
      refine wl_mv (.tmp 4) (.int .i64 ((i : Nat) : Int)) (fun _ => rfl) e40_i rfl ?_
      refine wl_un (fun v => Instr.fieldAt 38 v 7) (.tmp 1) (pt k1 0) (pt k1 16) (fun _ => rfl) e40_1 (by kernel_rfl) rfl ?_
      refine wl_load 36 (.tmp 30) (pt k1 16) (.slice x.pa x.args.length x.cap) rfl rfl (run_one Q1 36 16 rfl Try.underlying36 rfl) rfl ?_
      refine wl_val (.int .i64 ((x.args.length : Nat) : Int)) (len36 _ _ _ _ _ (by exact rfl) _ _ _ _ _ _) rfl ?_
      refine wl_bin (fun x y => do eqGuard .lss 3 (.tmp 29) (.tmp 32) x y; binOp .lss 3 x y) (.tmp 29) (.tmp 32) (.int .i64 ((i : Nat) : Int)) (.int .i64 ((x.args.length : Nat) : Int)) (.bool false) (fun _ => rfl) rfl rfl (ltN hid _ _ _) rfl ?_
      refine w_nil ?_
      refine xn_then ?_
      refine w_condF rfl ?_
      refine w_exit ?_
      refine xx_then ?_
      refine xx_then ?_
      refine xx_blk ?_
      refine xn_then ?_
      refine w_seq ?_
      refine w_reg ?_
      refine wl_mv (.tmp 3) (.slice pv O.length cv) (fun _ => rfl) e3 rfl ?_
      refine wl_mv (.tmp 75) (.slice pv O.length cv) (fun _ => rfl) rfl rfl ?_
      refine w_nil ?_
      refine xn_then ?_
      refine w_ret ?_
      exact w_ret1 _ (.slice pv O.length cv) rfl rfl (by rw [hie, List.take_length, ← rds_eq] at eO; subst eO; exact ⟨pv, cv, rfl, hRO.own, M⟩)
  | false =>
    have hf0p := of_decide_eq_false hf0
    refine wl_bin (fun x y => do eqGuard .eql 3 (.tmp 10) (.const (.int .i64 (2))) x y; binOp .eql 3 x y) (.tmp 10) (.const (.int .i64 (2))) (.int .i64 (x.k)) (.int .i64 (2)) (.bool false) (fun _ => rfl) rfl rfl (eq3 hf0 _ _ _) rfl ?_
    refine w_nil ?_
    refine xn_then ?_
    refine w_condF rfl ?_
    refine w_skip ?_
    refine xn_then ?_
    refine w_seq ?_
    refine w_seq ?_
    refine w_reg ?_
    refine wl_un (fun v => Instr.fieldAt 38 v 0) (.tmp 1) (pt k1 0) (pt k1 0) (fun _ => rfl) rfl (by kernel_rfl) rfl ?_
    refine wl_load 3 (.tmp 18) (pt k1 0) (.int .i64 (x.k)) rfl rfl (run_one Q1 3 0 rfl Try.underlying3 rfl) rfl ?_
    cases hf1 : decide (x.k = 10) with
    | true =>
      have hf1p := of_decide_eq_true hf1
      refine wl_bin (fun x y => do eqGuard .eql 3 (.tmp 19) (.const (.int .i64 (10))) x y; binOp .eql 3 x y) (.tmp 19) (.const (.int .i64 (10))) (.int .i64 (x.k)) (.int .i64 (10)) (.bool true) (fun _ => rfl) rfl rfl (eq3 hf1 _ _ _) rfl ?_
      refine w_nil ?_
      refine xn_then ?_
      refine w_condT rfl ?_
      refine w_reg ?_
      refine wl_mv (.tmp 3) (.slice none 0 0) (fun _ => rfl) rfl rfl ?_
      refine wl_un (fun v => Instr.fieldAt 38 v 3) (.tmp 1) (pt k1 0) (pt k1 3) (fun _ => rfl) rfl (by kernel_rfl) rfl ?_
      refine wl_load 9 (.tmp 22) (pt k1 3) (.string x.se) rfl rfl (run_one Q1 9 3 rfl Try.underlying9 rfl) rfl ?_
      refine wl_un (fun v => Instr.fieldAt 38 v 2) (.tmp 1) (pt k1 0) (pt k1 2) (fun _ => rfl) rfl (by kernel_rfl) rfl ?_
      refine wl_load 9 (.tmp 24) (pt k1 2) (.string x.nm) rfl rfl (run_one Q1 9 2 rfl Try.underlying9 rfl) rfl ?_
      refine wl_build 42 [(0, (.tmp 23)), (1, (.tmp 25))] [(0, .string x.se), (1, .string x.nm)] (.agg #[.string x.se, .string x.nm]) rfl rfl (by kernel_rfl) rfl ?_
      refine wl_bs 40 1 [(0, (.tmp 26))] [(0, .agg #[.string x.se, .string x.nm])] #[.string x.se, .string x.nm] 42 rfl rfl (fun _ => by kernel_rfl) rfl ?_
      intro k2 u2 hk hz hq Q2
      have ne_k1_k2 : k1 ≠ k2 := by have := Q1.lt; omega
      have N_k2 : w.heap.size ≤ k2 := by have := M.size; omega
      replace Q1 := Q1.mo hq
      replace M := M.trans hq
      clear hk hz hq
      refine wl_ap (.tmp 21) (.tmp 27) (N := w.heap.size) (k1 := k1) (r := ((x.se, x.nm) : Rd)) k2 rfl rfl rfl (RO.nil _ w.heap.size k1) Q2 (by decide) M.size Q1.2.2 rfl ?_
      intro pv2 cv2 u3 hRO2 hMo9 m4 hv4
      replace M := hMo9 w rfl M
      replace Q1 := m4.at Q1 (fun e => by cases e)
      refine wl_mv (.tmp 28) (.slice pv2 (([] : List Rd) ++ [((x.se, x.nm) : Rd)]).length cv2) (fun _ => rfl) rfl rfl ?_
      refine w_nil ?_
      refine xn_then ?_
      refine w_seq ?_
      refine w_seq ?_
      refine w_reg ?_
      refine wl_mv (.const (.int .i64 (0))) (.int .i64 (0)) (fun _ => rfl) rfl rfl ?_
      refine w_nil ?_
      refine xn_then ?_
      refine w_block ?_
      have hz9 := hL.sl.1
      unfold maxLen at hz9
      refine w_loop (fun m l w1 => ∃ i : Nat, m = x.args.length - i ∧ i ≤ x.args.length ∧ look l 1 = pt k1 0 ∧ look l 4 = .int .i64 ((i : Nat) : Int) ∧ At w1 k1 (x.cells) ∧ (∃ O : List Rd, O = (x.args.take i).foldl (fun o a => (rds a).foldl ins o) (ownR x.k x.nm x.se) ∧ ∃ pv cv, look l 3 = .slice pv O.length cv ∧ RO w1 w.heap.size k1 pv cv O) ∧ Mo w w1) _ ⟨0, rfl, Nat.zero_le _, rfl, rfl, Q1, (by rw [ownR, if_neg hf0p, if_pos hf1p]; exact ⟨_, rfl, pv2, cv2, rfl, hRO2.mo (Mo.refl _)⟩), M⟩ ?_
      clear Q1 M
      rintro m l40 wl40 ⟨i, rfl, hi, e40_1, e40_i, Q1, hE, M⟩
      by_cases hil : i < x.args.length
      · skip
        have hid : decide (i < x.args.length) = true := decide_eq_true hil
        obtain ⟨O, eO, pv, cv, e3, hRO⟩ := hE
        obtain ⟨a, ha⟩ := get_of_lt hil
        have hma := List.mem_of_getElem? ha
        obtain ⟨bp, op, hpp, hRp⟩ := D.SL.rw hL.sl ha
        refine w_seq ?_
        refine w_seq ?_
        refine w_reg ?_
        refine wl_mv (.tmp 4) (.int .i64 ((i : Nat) : Int)) (fun _ => rfl) e40_i rfl ?_
        refine wl_un (fun v => Instr.fieldAt 38 v 7) (.tmp 1) (pt k1 0) (pt k1 16) (fun _ => rfl) e40_1 (by kernel_rfl) rfl ?_
        refine wl_load 36 (.tmp 30) (pt k1 16) (.slice x.pa x.args.length x.cap) rfl rfl (run_one Q1 36 16 rfl Try.underlying36 rfl) rfl ?_
        refine wl_val (.int .i64 ((x.args.length : Nat) : Int)) (len36 _ _ _ _ _ (by exact rfl) _ _ _ _ _ _) rfl ?_
        refine wl_bin (fun x y => do eqGuard .lss 3 (.tmp 29) (.tmp 32) x y; binOp .lss 3 x y) (.tmp 29) (.tmp 32) (.int .i64 ((i : Nat) : Int)) (.int .i64 ((x.args.length : Nat) : Int)) (.bool true) (fun _ => rfl) rfl rfl (ltN hid _ _ _) rfl ?_
        refine w_nil ?_
        refine xn_then ?_
        refine w_condT rfl ?_
        refine w_skip ?_
        refine xn_then ?_
        refine w_seq ?_
        refine w_block ?_
        refine w_seq ?_
        refine w_reg ?_
        refine wl_un (fun v => Instr.fieldAt 38 v 7) (.tmp 1) (pt k1 0) (pt k1 16) (fun _ => rfl) e40_1 (by kernel_rfl) rfl ?_
        refine wl_load 36 (.tmp 36) (pt k1 16) (.slice x.pa x.args.length x.cap) rfl rfl (run_one Q1 36 16 rfl Try.underlying36 rfl) rfl ?_
        refine wl_mv (.tmp 4) (.int .i64 ((i : Nat) : Int)) (fun _ => rfl) e40_i rfl ?_
        refine wl_bin (fun x y => Instr.indexAt 36 x y) (.tmp 37) (.tmp 38) (.slice x.pa x.args.length x.cap) (.int .i64 ((i : Nat) : Int)) (pt bp (op + i * 17)) (fun _ => rfl) rfl rfl (ix36 (i := i) hpp hil _) rfl ?_
        refine wl_load 38 (.tmp 39) (pt bp (op + i * 17)) (.agg (a.cells).toArray) rfl rfl (D.run_partR (hRp.mo M).at' 38 0 17 (a.cells) rfl Try.underlying38 rfl sz38) rfl ?_
        have M2 : Mo wl40 wl40 := Mo.refl _
        refine wl_callx 16 [(.tmp 40)] _ [.agg (a.cells).toArray] rfl rfl (fun _ _ => by kernel_rfl) (ih a hma ((hL.ar a hma).kp M.kp) (by have := nd_arg ha; omega)) rfl ?_
        rintro e9 u41 ⟨pl, cl, rfl, hwl, hq⟩
        refine ⟨_, rfl, ?_⟩
        have hRL := RL.made (hRO.mo M2) hwl
        replace Q1 := Q1.mo hq
        replace hRO := (hRO.mo M2).mo hq
        replace M := M.trans hq
        clear hq hwl M2
        refine wl_mv (.tmp 41) (.slice pl (rds a).length cl) (fun _ => rfl) rfl rfl ?_
        refine w_nil ?_
        refine xn_then ?_
        refine w_seq ?_
        refine w_reg ?_
        refine wl_mv (.const (.int .i64 (0))) (.int .i64 (0)) (fun _ => rfl) rfl rfl ?_
        refine w_nil ?_
        refine xn_then ?_
        refine w_block ?_
        have hzl := rds_len a
        have hzn := nd_arg ha
        refine w_loop (fun m l w1 => ∃ j : Nat, m = (rds a).length - j ∧ j ≤ (rds a).length ∧ look l 1 = pt k1 0 ∧ look l 4 = .int .i64 ((i : Nat) : Int) ∧ look l 5 = .slice pl (rds a).length cl ∧ look l 6 = .int .i64 ((j : Nat) : Int) ∧ At w1 k1 (x.cells) ∧ (∃ P : List Rd, P = ((rds a).take j).foldl ins O ∧ ∃ pu cu, look l 3 = .slice pu P.length cu ∧ RO w1 w.heap.size k1 pu cu P ∧ RL w1 pl cl (rds a) (.slice pu P.length cu)) ∧ Mo w w1) _ ⟨0, rfl, Nat.zero_le _, e40_1, e40_i, rfl, rfl, Q1, ⟨O, rfl, pv, cv, e3, hRO, hRL⟩, M⟩ ?_
        clear Q1 M
        rintro m l60 wl60 ⟨j, rfl, hj, e60_1, e60_4, e60_5, e60_i, Q1, hF, M⟩
        by_cases hjl : j < (rds a).length
        · skip
          have hjd : decide (j < (rds a).length) = true := decide_eq_true hjl
          obtain ⟨P, eP, pu, cu, e3b, hRP, hRM⟩ := hF
          have hzP : P.length < 4000000 := by rw [eP, eO]; exact rb hz ha hjl
          obtain ⟨r, hr⟩ := get_of_lt hjl
          refine w_seq ?_
          refine w_seq ?_
          refine w_reg ?_
          refine wl_mv (.tmp 6) (.int .i64 ((j : Nat) : Int)) (fun _ => rfl) e60_i rfl ?_
          refine wl_mv (.tmp 5) (.slice pl (rds a).length cl) (fun _ => rfl) e60_5 rfl ?_
          refine wl_val (.int .i64 (((rds a).length : Nat) : Int)) (len40 _ _ _ _ _ (by exact rfl) _ _ _ _ _ _) rfl ?_
          refine wl_bin (fun x y => do eqGuard .lss 3 (.tmp 42) (.tmp 44) x y; binOp .lss 3 x y) (.tmp 42) (.tmp 44) (.int .i64 ((j : Nat) : Int)) (.int .i64 (((rds a).length : Nat) : Int)) (.bool true) (fun _ => rfl) rfl rfl (ltN hjd _ _ _) rfl ?_
          refine w_nil ?_
          refine xn_then ?_
          refine w_condT rfl ?_
          refine w_skip ?_
          refine xn_then ?_
          refine w_seq ?_
          refine w_block ?_
          refine w_seq ?_
          refine w_reg ?_
          refine wl_mv (.const (.bool false)) (.bool false) (fun _ => rfl) rfl rfl ?_
          refine w_nil ?_
          refine xn_then ?_
          refine w_seq ?_
          refine w_seq ?_
          refine w_reg ?_
          refine wl_mv (.const (.int .i64 (0))) (.int .i64 (0)) (fun _ => rfl) rfl rfl ?_
          refine w_nil ?_
          refine xn_then ?_
          refine w_block ?_
          have Mw := M
          clear M
          have M : Mo wl60 wl60 := Mo.refl _
          have hSP := hRP.sl (by omega)
          have hSL := hRM.sl (by omega)
          obtain ⟨bq, oq, hpq, hRq⟩ := D.SL.rw hSL hr
          refine w_loop (fun m l w1 => ∃ g : Nat, m = P.length - g ∧ g ≤ P.length ∧ look l 1 = pt k1 0 ∧ look l 3 = .slice pu P.length cu ∧ look l 4 = .int .i64 ((i : Nat) : Int) ∧ look l 5 = .slice pl (rds a).length cl ∧ look l 6 = .int .i64 ((j : Nat) : Int) ∧ look l 8 = .int .i64 ((g : Nat) : Int) ∧ At w1 k1 (x.cells) ∧ (∃ hb : Bool, look l 7 = .bool hb ∧ hb = hasR (P.take g) r) ∧ Mo wl60 w1) _ ⟨0, rfl, Nat.zero_le _, e60_1, e3b, e60_4, e60_5, e60_i, rfl, Q1, ⟨false, rfl, rfl⟩, M⟩ ?_
          clear Q1 M
          rintro m l80 wl80 ⟨g, rfl, hg, e80_1, e80_3, e80_4, e80_5, e80_6, e80_i, Q1, hH, M⟩
          by_cases hgl : g < P.length
          · skip
            have hgd : decide (g < P.length) = true := decide_eq_true hgl
            obtain ⟨hb, e7, hbe⟩ := hH
            obtain ⟨y, hy⟩ := get_of_lt hgl
            obtain ⟨byy, oyy, hpyy, hRyy⟩ := D.SL.rw hSP hy
            refine w_seq ?_
            refine w_seq ?_
            refine w_reg ?_
            refine wl_mv (.tmp 8) (.int .i64 ((g : Nat) : Int)) (fun _ => rfl) e80_i rfl ?_
            refine wl_mv (.tmp 3) (.slice pu P.length cu) (fun _ => rfl) e80_3 rfl ?_
            refine wl_val (.int .i64 ((P.length : Nat) : Int)) (len40 _ _ _ _ _ (by exact rfl) _ _ _ _ _ _) rfl ?_
            refine wl_bin (fun x y => do eqGuard .lss 3 (.tmp 48) (.tmp 50) x y; binOp .lss 3 x y) (.tmp 48) (.tmp 50) (.int .i64 ((g : Nat) : Int)) (.int .i64 ((P.length : Nat) : Int)) (.bool true) (fun _ => rfl) rfl rfl (ltN hgd _ _ _) rfl ?_
            refine w_nil ?_
            refine xn_then ?_
            refine w_condT rfl ?_
            refine w_skip ?_
            refine xn_then ?_
            refine w_seq ?_
            refine w_block ?_
            cases hb with
            | true =>
              refine w_any 10 [.inl (.bool true), .inl (.bool true), .inl undef, .inl undef, .inl undef, .inl undef, .inl undef, .inl undef, .inl undef, .inl undef] [] (by kernel_rfl) (by kernel_rfl) (by kernel_rfl) (by kernel_rfl) rfl (by kernel_rfl) (by kernel_rfl) late_nil ?_ ?_ ?_
              · exact Ds.none rfl
              · refine ea_cons ?_ (ea_cons ?_ (ea_cons ?_ (ea_cons ?_ (ea_cons ?_ (ea_cons ?_ (ea_cons ?_ (ea_cons ?_ (ea_cons ?_ (ea_cons ?_ (ea_nil))))))))))
                · exact og_eq (.bool true) rfl (fun f wf hq hd K hK => go_run rfl (wo_mv (.tmp 7) (.bool true) (fun _ => rfl) e7 (hK _ (Mo.refl _))))
                · exact og_eq (.bool true) rfl (fun f wf hq hd K hK => go_run rfl (wo_mv (.tmp 54) (.bool true) (fun _ => rfl) (hd 0 rfl) (hK _ (Mo.refl _))))
                · exact og_eq undef rfl (fun f wf hq hd K hK => go_pass (wnt_g rfl rfl rfl (hd 1 rfl) rfl) (hK _ (Mo.refl _)))
                · exact og_eq undef rfl (fun f wf hq hd K hK => go_pass (wnt_g rfl rfl rfl (hd 1 rfl) rfl) (hK _ (Mo.refl _)))
                · exact og_eq undef rfl (fun f wf hq hd K hK => go_pass (wnt_g rfl rfl rfl (hd 1 rfl) rfl) (hK _ (Mo.refl _)))
                · exact og_eq undef rfl (fun f wf hq hd K hK => go_pass (wnt_g rfl rfl rfl (hd 1 rfl) rfl) (hK _ (Mo.refl _)))
                · exact og_eq undef rfl (fun f wf hq hd K hK => go_pass (wnt_g rfl rfl rfl (hd 1 rfl) rfl) (hK _ (Mo.refl _)))
                · exact og_eq undef rfl (fun f wf hq hd K hK => go_pass (wnt_g rfl rfl rfl (hd 1 rfl) rfl) (hK _ (Mo.refl _)))
                · exact og_eq undef rfl (fun f wf hq hd K hK => go_pass (wnt_g rfl rfl rfl (hd 1 rfl) rfl) (hK _ (Mo.refl _)))
                · exact og_eq undef rfl (fun f wf hq hd K hK => go_pass (wnt_g rfl rfl rfl (hd 1 rfl) rfl) (hK _ (Mo.refl _)))
              intro kf81 u81 hq hR hne
              replace Q1 := Q1.mo hq
              replace M := M.trans hq
              clear hq hR hne
              refine wl_skip rfl ?_
              refine wl_pick (.tmp 55) (.const (.bool true)) (.tmp 64) true (.bool true) (fun _ => rfl) rfl rfl rfl ?_
              refine wl_mv (.tmp 65) (.bool true) (fun _ => rfl) rfl rfl ?_
              refine w_nil ?_
              refine xn_blk ?_
              refine xn_then ?_
              refine w_reg ?_
              refine wl_mv (.tmp 8) (.int .i64 ((g : Nat) : Int)) (fun _ => rfl) e80_i rfl ?_
              refine wl_bin (fun x y => do eqGuard .add 3 (.tmp 52) (.const (.int .i64 (1))) x y; binOp .add 3 x y) (.tmp 52) (.const (.int .i64 (1))) (.int .i64 ((g : Nat) : Int)) (.int .i64 (1)) (.int .i64 ((g + 1 : Nat) : Int)) (fun _ => rfl) rfl rfl (add1r (k := g) (by omega) _ _ _) rfl ?_
              refine wl_mv (.tmp 53) (.int .i64 ((g + 1 : Nat) : Int)) (fun _ => rfl) rfl rfl ?_
              refine w_nil ?_
              exact xn_loop (P.length - (g + 1)) (by omega) ⟨g + 1, rfl, by omega, e80_1, e80_3, e80_4, e80_5, e80_6, rfl, Q1, ⟨true, rfl, by rw [has_take1 hy, ← hbe]; rfl⟩, M⟩
            | false =>
              cases hf90 : decide (y = r) with
              | true =>
                have hf90p := of_decide_eq_true hf90
                refine w_any 10 [.inl (.bool false), .inl (.bool false), .inl (.slice pu P.length cu), .inl (.int .i64 ((g : Nat) : Int)), .inl (pt byy (oyy + g * 2)), .inl (.agg #[.string y.1, .string y.2]), .inl (.slice pl (rds a).length cl), .inl (.int .i64 ((j : Nat) : Int)), .inl (pt bq (oq + j * 2)), .inl (.agg #[.string r.1, .string r.2])] [] (by kernel_rfl) (by kernel_rfl) (by kernel_rfl) (by kernel_rfl) rfl (by kernel_rfl) (by kernel_rfl) late_nil ?_ ?_ ?_
                · exact Ds.none rfl
                · refine ea_cons ?_ (ea_cons ?_ (ea_cons ?_ (ea_cons ?_ (ea_cons ?_ (ea_cons ?_ (ea_cons ?_ (ea_cons ?_ (ea_cons ?_ (ea_cons ?_ (ea_nil))))))))))
                  · exact og_eq (.bool false) rfl (fun f wf hq hd K hK => go_run rfl (wo_mv (.tmp 7) (.bool false) (fun _ => rfl) e7 (hK _ (Mo.refl _))))
                  · exact og_eq (.bool false) rfl (fun f wf hq hd K hK => go_run rfl (wo_mv (.tmp 54) (.bool false) (fun _ => rfl) (hd 0 rfl) (hK _ (Mo.refl _))))
                  · exact og_eq (.slice pu P.length cu) rfl (fun f wf hq hd K hK => go_run (wnt_g rfl rfl rfl (hd 1 rfl) rfl) (wo_mv (.tmp 3) (.slice pu P.length cu) (fun _ => rfl) e80_3 (hK _ (Mo.refl _))))
                  · exact og_eq (.int .i64 ((g : Nat) : Int)) rfl (fun f wf hq hd K hK => go_run (wnt_g rfl rfl rfl (hd 1 rfl) rfl) (wo_mv (.tmp 8) (.int .i64 ((g : Nat) : Int)) (fun _ => rfl) e80_i (hK _ (Mo.refl _))))
                  · exact og_eq (pt byy (oyy + g * 2)) rfl (fun f wf hq hd K hK => go_run (wnt_g rfl rfl rfl (hd 1 rfl) rfl) (wo_bin (fun x y => Instr.indexAt 40 x y) (.tmp 56) (.tmp 57) (.slice pu P.length cu) (.int .i64 ((g : Nat) : Int)) (pt byy (oyy + g * 2)) (fun _ => rfl) (hd 2 rfl) (hd 3 rfl) (ix40 (i := g) hpyy hgl _) (hK _ (Mo.refl _))))
                  · exact og_eq (.agg #[.string y.1, .string y.2]) rfl (fun f wf hq hd K hK => go_run (wnt_g rfl rfl rfl (hd 1 rfl) rfl) (wo_load 42 (.tmp 58) (pt byy (oyy + g * 2)) (.agg #[.string y.1, .string y.2]) rfl (hd 4 rfl) (D.run_partR (hRyy.mo (M.trans hq)).at' 42 0 2 [.string y.1, .string y.2] rfl Try.underlying42 rfl sz42) (hK _ (Mo.refl _))))
                  · exact og_eq (.slice pl (rds a).length cl) rfl (fun f wf hq hd K hK => go_run (wnt_g rfl rfl rfl (hd 1 rfl) rfl) (wo_mv (.tmp 5) (.slice pl (rds a).length cl) (fun _ => rfl) e80_5 (hK _ (Mo.refl _))))
                  · exact og_eq (.int .i64 ((j : Nat) : Int)) rfl (fun f wf hq hd K hK => go_run (wnt_g rfl rfl rfl (hd 1 rfl) rfl) (wo_mv (.tmp 6) (.int .i64 ((j : Nat) : Int)) (fun _ => rfl) e80_6 (hK _ (Mo.refl _))))
                  · exact og_eq (pt bq (oq + j * 2)) rfl (fun f wf hq hd K hK => go_run (wnt_g rfl rfl rfl (hd 1 rfl) rfl) (wo_bin (fun x y => Instr.indexAt 40 x y) (.tmp 60) (.tmp 61) (.slice pl (rds a).length cl) (.int .i64 ((j : Nat) : Int)) (pt bq (oq + j * 2)) (fun _ => rfl) (hd 6 rfl) (hd 7 rfl) (ix40 (i := j) hpq hjl _) (hK _ (Mo.refl _))))
                  · exact og_eq (.agg #[.string r.1, .string r.2]) rfl (fun f wf hq hd K hK => go_run (wnt_g rfl rfl rfl (hd 1 rfl) rfl) (wo_load 42 (.tmp 62) (pt bq (oq + j * 2)) (.agg #[.string r.1, .string r.2]) rfl (hd 8 rfl) (D.run_partR (hRq.mo (M.trans hq)).at' 42 0 2 [.string r.1, .string r.2] rfl Try.underlying42 rfl sz42) (hK _ (Mo.refl _))))
                intro kf81 u81 hq hR hne
                replace Q1 := Q1.mo hq
                replace M := M.trans hq
                clear hq hR hne
                refine wl_bin (fun x y => do eqGuard .eql 42 (.tmp 59) (.tmp 63) x y; binOp .eql 42 x y) (.tmp 59) (.tmp 63) (.agg #[.string y.1, .string y.2]) (.agg #[.string r.1, .string r.2]) (.bool true) (fun _ => rfl) rfl rfl (eqR (p := y) (q := r) hf90 _ _ _) rfl ?_
                refine wl_pick (.tmp 55) (.const (.bool true)) (.tmp 64) false (.bool true) (fun _ => rfl) rfl rfl rfl ?_
                refine wl_mv (.tmp 65) (.bool true) (fun _ => rfl) rfl rfl ?_
                refine w_nil ?_
                refine xn_blk ?_
                refine xn_then ?_
                refine w_reg ?_
                refine wl_mv (.tmp 8) (.int .i64 ((g : Nat) : Int)) (fun _ => rfl) e80_i rfl ?_
                refine wl_bin (fun x y => do eqGuard .add 3 (.tmp 52) (.const (.int .i64 (1))) x y; binOp .add 3 x y) (.tmp 52) (.const (.int .i64 (1))) (.int .i64 ((g : Nat) : Int)) (.int .i64 (1)) (.int .i64 ((g + 1 : Nat) : Int)) (fun _ => rfl) rfl rfl (add1r (k := g) (by omega) _ _ _) rfl ?_
                refine wl_mv (.tmp 53) (.int .i64 ((g + 1 : Nat) : Int)) (fun _ => rfl) rfl rfl ?_
                refine w_nil ?_
                exact xn_loop (P.length - (g + 1)) (by omega) ⟨g + 1, rfl, by omega, e80_1, e80_3, e80_4, e80_5, e80_6, rfl, Q1, ⟨_, rfl, by rw [has_take1 hy, ← hbe, hf90]; rfl⟩, M⟩
              | false =>
                have hf90p := of_decide_eq_false hf90
                refine w_any 10 [.inl (.bool false), .inl (.bool false), .inl (.slice pu P.length cu), .inl (.int .i64 ((g : Nat) : Int)), .inl (pt byy (oyy + g * 2)), .inl (.agg #[.string y.1, .string y.2]), .inl (.slice pl (rds a).length cl), .inl (.int .i64 ((j : Nat) : Int)), .inl (pt bq (oq + j * 2)), .inl (.agg #[.string r.1, .string r.2])] [] (by kernel_rfl) (by kernel_rfl) (by kernel_rfl) (by kernel_rfl) rfl (by kernel_rfl) (by kernel_rfl) late_nil ?_ ?_ ?_
                · exact Ds.none rfl
                · refine ea_cons ?_ (ea_cons ?_ (ea_cons ?_ (ea_cons ?_ (ea_cons ?_ (ea_cons ?_ (ea_cons ?_ (ea_cons ?_ (ea_cons ?_ (ea_cons ?_ (ea_nil))))))))))
                  · exact og_eq (.bool false) rfl (fun f wf hq hd K hK => go_run rfl (wo_mv (.tmp 7) (.bool false) (fun _ => rfl) e7 (hK _ (Mo.refl _))))
                  · exact og_eq (.bool false) rfl (fun f wf hq hd K hK => go_run rfl (wo_mv (.tmp 54) (.bool false) (fun _ => rfl) (hd 0 rfl) (hK _ (Mo.refl _))))
                  · exact og_eq (.slice pu P.length cu) rfl (fun f wf hq hd K hK => go_run (wnt_g rfl rfl rfl (hd 1 rfl) rfl) (wo_mv (.tmp 3) (.slice pu P.length cu) (fun _ => rfl) e80_3 (hK _ (Mo.refl _))))
                  · exact og_eq (.int .i64 ((g : Nat) : Int)) rfl (fun f wf hq hd K hK => go_run (wnt_g rfl rfl rfl (hd 1 rfl) rfl) (wo_mv (.tmp 8) (.int .i64 ((g : Nat) : Int)) (fun _ => rfl) e80_i (hK _ (Mo.refl _))))
                  · exact og_eq (pt byy (oyy + g * 2)) rfl (fun f wf hq hd K hK => go_run (wnt_g rfl rfl rfl (hd 1 rfl) rfl) (wo_bin (fun x y => Instr.indexAt 40 x y) (.tmp 56) (.tmp 57) (.slice pu P.length cu) (.int .i64 ((g : Nat) : Int)) (pt byy (oyy + g * 2)) (fun _ => rfl) (hd 2 rfl) (hd 3 rfl) (ix40 (i := g) hpyy hgl _) (hK _ (Mo.refl _))))
                  · exact og_eq (.agg #[.string y.1, .string y.2]) rfl (fun f wf hq hd K hK => go_run (wnt_g rfl rfl rfl (hd 1 rfl) rfl) (wo_load 42 (.tmp 58) (pt byy (oyy + g * 2)) (.agg #[.string y.1, .string y.2]) rfl (hd 4 rfl) (D.run_partR (hRyy.mo (M.trans hq)).at' 42 0 2 [.string y.1, .string y.2] rfl Try.underlying42 rfl sz42) (hK _ (Mo.refl _))))
                  · exact og_eq (.slice pl (rds a).length cl) rfl (fun f wf hq hd K hK => go_run (wnt_g rfl rfl rfl (hd 1 rfl) rfl) (wo_mv (.tmp 5) (.slice pl (rds a).length cl) (fun _ => rfl) e80_5 (hK _ (Mo.refl _))))
                  · exact og_eq (.int .i64 ((j : Nat) : Int)) rfl (fun f wf hq hd K hK => go_run (wnt_g rfl rfl rfl (hd 1 rfl) rfl) (wo_mv (.tmp 6) (.int .i64 ((j : Nat) : Int)) (fun _ => rfl) e80_6 (hK _ (Mo.refl _))))
                  · exact og_eq (pt bq (oq + j * 2)) rfl (fun f wf hq hd K hK => go_run (wnt_g rfl rfl rfl (hd 1 rfl) rfl) (wo_bin (fun x y => Instr.indexAt 40 x y) (.tmp 60) (.tmp 61) (.slice pl (rds a).length cl) (.int .i64 ((j : Nat) : Int)) (pt bq (oq + j * 2)) (fun _ => rfl) (hd 6 rfl) (hd 7 rfl) (ix40 (i := j) hpq hjl _) (hK _ (Mo.refl _))))
                  · exact og_eq (.agg #[.string r.1, .string r.2]) rfl (fun f wf hq hd K hK => go_run (wnt_g rfl rfl rfl (hd 1 rfl) rfl) (wo_load 42 (.tmp 62) (pt bq (oq + j * 2)) (.agg #[.string r.1, .string r.2]) rfl (hd 8 rfl) (D.run_partR (hRq.mo (M.trans hq)).at' 42 0 2 [.string r.1, .string r.2] rfl Try.underlying42 rfl sz42) (hK _ (Mo.refl _))))
                intro kf81 u81 hq hR hne
                replace Q1 := Q1.mo hq
                replace M := M.trans hq
                clear hq hR hne
                refine wl_bin (fun x y => do eqGuard .eql 42 (.tmp 59) (.tmp 63) x y; binOp .eql 42 x y) (.tmp 59) (.tmp 63) (.agg #[.string y.1, .string y.2]) (.agg #[.string r.1, .string r.2]) (.bool false) (fun _ => rfl) rfl rfl (eqR (p := y) (q := r) hf90 _ _ _) rfl ?_
                refine wl_pick (.tmp 55) (.const (.bool true)) (.tmp 64) false (.bool false) (fun _ => rfl) rfl rfl rfl ?_
                refine wl_mv (.tmp 65) (.bool false) (fun _ => rfl) rfl rfl ?_
                refine w_nil ?_
                refine xn_blk ?_
                refine xn_then ?_
                refine w_reg ?_
                refine wl_mv (.tmp 8) (.int .i64 ((g : Nat) : Int)) (fun _ => rfl) e80_i rfl ?_
                refine wl_bin (fun x y => do eqGuard .add 3 (.tmp 52) (.const (.int .i64 (1))) x y; binOp .add 3 x y) (.tmp 52) (.const (.int .i64 (1))) (.int .i64 ((g : Nat) : Int)) (.int .i64 (1)) (.int .i64 ((g + 1 : Nat) : Int)) (fun _ => rfl) rfl rfl (add1r (k := g) (by omega) _ _ _) rfl ?_
                refine wl_mv (.tmp 53) (.int .i64 ((g + 1 : Nat) : Int)) (fun _ => rfl) rfl rfl ?_
                refine w_nil ?_
                exact xn_loop (P.length - (g + 1)) (by omega) ⟨g + 1, rfl, by omega, e80_1, e80_3, e80_4, e80_5, e80_6, rfl, Q1, ⟨_, rfl, by rw [has_take1 hy, ← hbe, hf90]; rfl⟩, M⟩
          · skip
            have hgd : decide (g < P.length) = false := decide_eq_false hgl
            have hge : g = P.length := by omega
            obtain ⟨hb, e7, hbe⟩ := hH
            rw [hge, List.take_length] at hbe
            refine w_seq ?_
            refine w_seq ?_
            refine w_reg ?_
            refine wl_mv (.tmp 8) (.int .i64 ((g : Nat) : Int)) (fun _ => rfl) e80_i rfl ?_
            refine wl_mv (.tmp 3) (.slice pu P.length cu) (fun _ => rfl) e80_3 rfl ?_
            refine wl_val (.int .i64 ((P.length : Nat) : Int)) (len40 _ _ _ _ _ (by exact rfl) _ _ _ _ _ _) rfl ?_
            refine wl_bin (fun x y => do eqGuard .lss 3 (.tmp 48) (.tmp 50) x y; binOp .lss 3 x y) (.tmp 48) (.tmp 50) (.int .i64 ((g : Nat) : Int)) (.int .i64 ((P.length : Nat) : Int)) (.bool false) (fun _ => rfl) rfl rfl (ltN hgd _ _ _) rfl ?_
            refine w_nil ?_
            refine xn_then ?_
            refine w_condF rfl ?_
            refine w_exit ?_
            refine xx_then ?_
            refine xx_then ?_
            refine xx_blk ?_
            refine xn_then ?_
            refine w_seq ?_
            refine w_reg ?_
            refine wl_mv (.tmp 7) (.bool hb) (fun _ => rfl) e7 rfl ?_
            cases hb with
            | true =>
              refine wl_un (fun v => Op.unary .not v) (.tmp 66) (.bool true) (.bool false) (fun _ => rfl) rfl (by kernel_rfl) rfl ?_
              refine w_nil ?_
              refine xn_then ?_
              refine w_condF rfl ?_
              refine w_skip ?_
              refine xn_blk ?_
              refine xn_then ?_
              refine w_reg ?_
              refine wl_mv (.tmp 6) (.int .i64 ((j : Nat) : Int)) (fun _ => rfl) e80_6 rfl ?_
              refine wl_bin (fun x y => do eqGuard .add 3 (.tmp 46) (.const (.int .i64 (1))) x y; binOp .add 3 x y) (.tmp 46) (.const (.int .i64 (1))) (.int .i64 ((j : Nat) : Int)) (.int .i64 (1)) (.int .i64 ((j + 1 : Nat) : Int)) (fun _ => rfl) rfl rfl (add1r (k := j) (by omega) _ _ _) rfl ?_
              refine wl_mv (.tmp 47) (.int .i64 ((j + 1 : Nat) : Int)) (fun _ => rfl) rfl rfl ?_
              refine w_nil ?_
              replace hRP := hRP.mo M
              replace hRM := hRM.mo M
              replace M := Mw.trans M
              exact xn_loop ((rds a).length - (j + 1)) (by omega) ⟨j + 1, rfl, by omega, e80_1, e80_4, e80_5, rfl, Q1, ⟨P, by rw [foldl_s hr, ← eP, ins_has hbe.symm], pu, cu, e80_3, hRP, hRM⟩, M⟩
            | false =>
              refine wl_un (fun v => Op.unary .not v) (.tmp 66) (.bool false) (.bool true) (fun _ => rfl) rfl (by kernel_rfl) rfl ?_
              refine w_nil ?_
              refine xn_then ?_
              refine w_condT rfl ?_
              refine w_reg ?_
              refine wl_mv (.tmp 3) (.slice pu P.length cu) (fun _ => rfl) e80_3 rfl ?_
              refine wl_mv (.tmp 5) (.slice pl (rds a).length cl) (fun _ => rfl) e80_5 rfl ?_
              refine wl_mv (.tmp 6) (.int .i64 ((j : Nat) : Int)) (fun _ => rfl) e80_6 rfl ?_
              refine wl_bin (fun x y => Instr.indexAt 40 x y) (.tmp 69) (.tmp 70) (.slice pl (rds a).length cl) (.int .i64 ((j : Nat) : Int)) (pt bq (oq + j * 2)) (fun _ => rfl) rfl rfl (ix40 (i := j) hpq hjl _) rfl ?_
              refine wl_load 42 (.tmp 71) (pt bq (oq + j * 2)) (.agg #[.string r.1, .string r.2]) rfl rfl (D.run_partR (hRq.mo M).at' 42 0 2 [.string r.1, .string r.2] rfl Try.underlying42 rfl sz42) rfl ?_
              refine wl_bs 40 1 [(0, (.tmp 72))] [(0, .agg #[.string r.1, .string r.2])] #[.string r.1, .string r.2] 42 rfl rfl (fun _ => by kernel_rfl) rfl ?_
              intro k3 u81 hk hz hq Q3
              have ne_k1_k3 : k1 ≠ k3 := by have := Q1.lt; omega
              have N_k3 : wl60.heap.size ≤ k3 := by have := M.size; omega
              replace Q1 := Q1.mo hq
              replace M := M.trans hq
              clear hk hz hq
              replace hRP := hRP.mo M
              replace hRM := hRM.mo M
              replace M := Mw.trans M
              refine wl_ap (.tmp 68) (.tmp 73) (N := w.heap.size) (k1 := k1) (r := r) k3 rfl rfl rfl (hRP) Q3 (hzP) M.size Q1.2.2 rfl ?_
              intro pv2 cv2 u82 hRO2 hMo9 m4 hv4
              replace M := hMo9 w rfl M
              replace Q1 := m4.at Q1 (fun e => hRP.nk _ e rfl)
              have hRM2 := hRM.app m4 hv4
              refine wl_mv (.tmp 74) (.slice pv2 (P ++ [r]).length cv2) (fun _ => rfl) rfl rfl ?_
              refine w_nil ?_
              refine xn_blk ?_
              refine xn_then ?_
              refine w_reg ?_
              refine wl_mv (.tmp 6) (.int .i64 ((j : Nat) : Int)) (fun _ => rfl) e80_6 rfl ?_
              refine wl_bin (fun x y => do eqGuard .add 3 (.tmp 46) (.const (.int .i64 (1))) x y; binOp .add 3 x y) (.tmp 46) (.const (.int .i64 (1))) (.int .i64 ((j : Nat) : Int)) (.int .i64 (1)) (.int .i64 ((j + 1 : Nat) : Int)) (fun _ => rfl) rfl rfl (add1r (k := j) (by omega) _ _ _) rfl ?_
              refine wl_mv (.tmp 47) (.int .i64 ((j + 1 : Nat) : Int)) (fun _ => rfl) rfl rfl ?_
              refine w_nil ?_
              exact xn_loop ((rds a).length - (j + 1)) (by omega) ⟨j + 1, rfl, by omega, e80_1, e80_4, e80_5, rfl, Q1, ⟨P ++ [r], by rw [foldl_s hr, ← eP, ins_not hbe.symm], pv2, cv2, rfl, hRO2, hRM2⟩, M⟩
        · skip
          have hjd : decide (j < (rds a).length) = false := decide_eq_false hjl
          have hje : j = (rds a).length := by omega
          obtain ⟨P, eP, pu, cu, e3b, hRP, hRM⟩ := hF
          refine w_seq ?_
          refine w_seq ?_
          refine w_reg ?_
          refine wl_mv (.tmp 6) (.int .i64 ((j : Nat) : Int)) (fun _ => rfl) e60_i rfl ?_
          refine wl_mv (.tmp 5) (.slice pl (rds a).length cl) (fun _ => rfl) e60_5 rfl ?_
          refine wl_val (.int .i64 (((rds a).length : Nat) : Int)) (len40 _ _ _ _ _ (by exact rfl) _ _ _ _ _ _) rfl ?_
          refine wl_bin (fun x y => do eqGuard .lss 3 (.tmp 42) (.tmp 44) x y; binOp .lss 3 x y) (.tmp 42) (.tmp 44) (.int .i64 ((j : Nat) : Int)) (.int .i64 (((rds a).length : Nat) : Int)) (.bool false) (fun _ => rfl) rfl rfl (ltN hjd _ _ _) rfl ?_
          refine w_nil ?_
          refine xn_then ?_
          refine w_condF rfl ?_
          refine w_exit ?_
          refine xx_then ?_
          refine xx_then ?_
          refine xx_blk ?_
          refine xn_blk ?_
          refine xn_then ?_
          refine w_reg ?_
          refine wl_mv (.tmp 4) (.int .i64 ((i : Nat) : Int)) (fun _ => rfl) e60_4 rfl ?_
          refine wl_bin (fun x y => do eqGuard .add 3 (.tmp 34) (.const (.int .i64 (1))) x y; binOp .add 3 x y) (.tmp 34) (.const (.int .i64 (1))) (.int .i64 ((i : Nat) : Int)) (.int .i64 (1)) (.int .i64 ((i + 1 : Nat) : Int)) (fun _ => rfl) rfl rfl (add1r (k := i) (by omega) _ _ _) rfl ?_
          refine wl_mv (.tmp 35) (.int .i64 ((i + 1 : Nat) : Int)) (fun _ => rfl) rfl rfl ?_
          refine w_nil ?_
          exact xn_loop (x.args.length - (i + 1)) (by omega) ⟨i + 1, rfl, by omega, e60_1, rfl, Q1, ⟨_, by rw [foldl_s ha, ← eO]; exact (by rw [hje, List.take_length] at eP; exact eP), pu, cu, e3b, hRP⟩, M⟩
      · skip
        have hid : decide (i < x.args.length) = false := decide_eq_false hil
        have hie : i = x.args.length := by omega
        obtain ⟨O, eO, pv, cv, e3, hRO⟩ := hE
        refine w_seq ?_
        refine w_seq ?_
        refine w_reg ?_
        refine wl_mv (.tmp 4) (.int .i64 ((i : Nat) : Int)) (fun _ => rfl) e40_i rfl ?_
        refine wl_un (fun v => Instr.fieldAt 38 v 7) (.tmp 1) (pt k1 0) (pt k1 16) (fun _ => rfl) e40_1 (by kernel_rfl) rfl ?_
        refine wl_load 36 (.tmp 30) (pt k1 16) (.slice x.pa x.args.length x.cap) rfl rfl (run_one Q1 36 16 rfl Try.underlying36 rfl) rfl ?_
        refine wl_val (.int .i64 ((x.args.length : Nat) : Int)) (len36 _ _ _ _ _ (by exact rfl) _ _ _ _ _ _) rfl ?_
        refine wl_bin (fun x y => do eqGuard .lss 3 (.tmp 29) (.tmp 32) x y; binOp .lss 3 x y) (.tmp 29) (.tmp 32) (.int .i64 ((i : Nat) : Int)) (.int .i64 ((x.args.length : Nat) : Int)) (.bool false) (fun _ => rfl) rfl rfl (ltN hid _ _ _) rfl ?_
        refine w_nil ?_
        refine xn_then ?_
        refine w_condF rfl ?_
        refine w_exit ?_
        refine xx_then ?_
        refine xx_then ?_
        refine xx_blk ?_
        refine xn_then ?_
        refine w_seq ?_
        refine w_reg ?_
        refine wl_mv (.tmp 3) (.slice pv O.length cv) (fun _ => rfl) e3 rfl ?_
        refine wl_mv (.tmp 75) (.slice pv O.length cv) (fun _ => rfl) rfl rfl ?_
        refine w_nil ?_
        refine xn_then ?_
        refine w_ret ?_
        exact w_ret1 _ (.slice pv O.length cv) rfl rfl (by rw [hie, List.take_length, ← rds_eq] at eO; subst eO; exact ⟨pv, cv, rfl, hRO.own, M⟩)
    | false =>
      have hf1p := of_decide_eq_false hf1
      refine wl_bin (fun x y => do eqGuard .eql 3 (.tmp 19) (.const (.int .i64 (10))) x y; binOp .eql 3 x y) (.tmp 19) (.const (.int .i64 (10))) (.int .i64 (x.k)) (.int .i64 (10)) (.bool false) (fun _ => rfl) rfl rfl (eq3 hf1 _ _ _) rfl ?_
      refine w_nil ?_
      refine xn_then ?_
      refine w_condF rfl ?_
      refine w_skip ?_
      refine xn_then ?_
      refine w_seq ?_
      refine w_seq ?_
      refine w_reg ?_
      refine wl_mv (.const (.int .i64 (0))) (.int .i64 (0)) (fun _ => rfl) rfl rfl ?_
      refine w_nil ?_
      refine xn_then ?_
      refine w_block ?_
      have hz9 := hL.sl.1
      unfold maxLen at hz9
      refine w_loop (fun m l w1 => ∃ i : Nat, m = x.args.length - i ∧ i ≤ x.args.length ∧ look l 1 = pt k1 0 ∧ look l 4 = .int .i64 ((i : Nat) : Int) ∧ At w1 k1 (x.cells) ∧ (∃ O : List Rd, O = (x.args.take i).foldl (fun o a => (rds a).foldl ins o) (ownR x.k x.nm x.se) ∧ ∃ pv cv, look l 3 = .slice pv O.length cv ∧ RO w1 w.heap.size k1 pv cv O) ∧ Mo w w1) _ ⟨0, rfl, Nat.zero_le _, rfl, rfl, Q1, (by rw [ownR, if_neg hf0p, if_neg hf1p]; exact ⟨_, rfl, none, 0, rfl, RO.nil _ _ _⟩), M⟩ ?_
      clear Q1 M
      rintro m l40 wl40 ⟨i, rfl, hi, e40_1, e40_i, Q1, hE, M⟩
      by_cases hil : i < x.args.length
      · skip
        have hid : decide (i < x.args.length) = true := decide_eq_true hil
        obtain ⟨O, eO, pv, cv, e3, hRO⟩ := hE
        obtain ⟨a, ha⟩ := get_of_lt hil
        have hma := List.mem_of_getElem? ha
        obtain ⟨bp, op, hpp, hRp⟩ := D.SL.rw hL.sl ha
        refine w_seq ?_
        refine w_seq ?_
        refine w_reg ?_
        refine wl_mv (.tmp 4) (.int .i64 ((i : Nat) : Int)) (fun _ => rfl) e40_i rfl ?_
        refine wl_un (fun v => Instr.fieldAt 38 v 7) (.tmp 1) (pt k1 0) (pt k1 16) (fun _ => rfl) e40_1 (by kernel_rfl) rfl ?_
        refine wl_load 36 (.tmp 30) (pt k1 16) (.slice x.pa x.args.length x.cap) rfl rfl (run_one Q1 36 16 rfl Try.underlying36 rfl) rfl ?_
        refine wl_val (.int .i64 ((x.args.length : Nat) : Int)) (len36 _ _ _ _ _ (by exact rfl) _ _ _ _ _ _) rfl ?_
        refine wl_bin (fun x y => do eqGuard .lss 3 (.tmp 29) (.tmp 32) x y; binOp .lss 3 x y) (.tmp 29) (.tmp 32) (.int .i64 ((i : Nat) : Int)) (.int .i64 ((x.args.length : Nat) : Int)) (.bool true) (fun _ => rfl) rfl rfl (ltN hid _ _ _) rfl ?_
        refine w_nil ?_
        refine xn_then ?_
        refine w_condT rfl ?_
        refine w_skip ?_
        refine xn_then ?_
        refine w_seq ?_
        refine w_block ?_
        refine w_seq ?_
        refine w_reg ?_
        refine wl_un (fun v => Instr.fieldAt 38 v 7) (.tmp 1) (pt k1 0) (pt k1 16) (fun _ => rfl) e40_1 (by kernel_rfl) rfl ?_
        refine wl_load 36 (.tmp 36) (pt k1 16) (.slice x.pa x.args.length x.cap) rfl rfl (run_one Q1 36 16 rfl Try.underlying36 rfl) rfl ?_
        refine wl_mv (.tmp 4) (.int .i64 ((i : Nat) : Int)) (fun _ => rfl) e40_i rfl ?_
        refine wl_bin (fun x y => Instr.indexAt 36 x y) (.tmp 37) (.tmp 38) (.slice x.pa x.args.length x.cap) (.int .i64 ((i : Nat) : Int)) (pt bp (op + i * 17)) (fun _ => rfl) rfl rfl (ix36 (i := i) hpp hil _) rfl ?_
        refine wl_load 38 (.tmp 39) (pt bp (op + i * 17)) (.agg (a.cells).toArray) rfl rfl (D.run_partR (hRp.mo M).at' 38 0 17 (a.cells) rfl Try.underlying38 rfl sz38) rfl ?_
        have M2 : Mo wl40 wl40 := Mo.refl _
        refine wl_callx 16 [(.tmp 40)] _ [.agg (a.cells).toArray] rfl rfl (fun _ _ => by kernel_rfl) (ih a hma ((hL.ar a hma).kp M.kp) (by have := nd_arg ha; omega)) rfl ?_
        rintro e9 u41 ⟨pl, cl, rfl, hwl, hq⟩
        refine ⟨_, rfl, ?_⟩
        have hRL := RL.made (hRO.mo M2) hwl
        replace Q1 := Q1.mo hq
        replace hRO := (hRO.mo M2).mo hq
        replace M := M.trans hq
        clear hq hwl M2
        refine wl_mv (.tmp 41) (.slice pl (rds a).length cl) (fun _ => rfl) rfl rfl ?_
        refine w_nil ?_
        refine xn_then ?_
        refine w_seq ?_
        refine w_reg ?_
        refine wl_mv (.const (.int .i64 (0))) (.int .i64 (0)) (fun _ => rfl) rfl rfl ?_
        refine w_nil ?_
        refine xn_then ?_
        refine w_block ?_
        have hzl := rds_len a
        have hzn := nd_arg ha
        refine w_loop (fun m l w1 => ∃ j : Nat, m = (rds a).length - j ∧ j ≤ (rds a).length ∧ look l 1 = pt k1 0 ∧ look l 4 = .int .i64 ((i : Nat) : Int) ∧ look l 5 = .slice pl (rds a).length cl ∧ look l 6 = .int .i64 ((j : Nat) : Int) ∧ At w1 k1 (x.cells) ∧ (∃ P : List Rd, P = ((rds a).take j).foldl ins O ∧ ∃ pu cu, look l 3 = .slice pu P.length cu ∧ RO w1 w.heap.size k1 pu cu P ∧ RL w1 pl cl (rds a) (.slice pu P.length cu)) ∧ Mo w w1) _ ⟨0, rfl, Nat.zero_le _, e40_1, e40_i, rfl, rfl, Q1, ⟨O, rfl, pv, cv, e3, hRO, hRL⟩, M⟩ ?_
        clear Q1 M
        rintro m l60 wl60 ⟨j, rfl, hj, e60_1, e60_4, e60_5, e60_i, Q1, hF, M⟩
        by_cases hjl : j < (rds a).length
        · skip
          have hjd : decide (j < (rds a).length) = true := decide_eq_true hjl
          obtain ⟨P, eP, pu, cu, e3b, hRP, hRM⟩ := hF
          have hzP : P.length < 4000000 := by rw [eP, eO]; exact rb hz ha hjl
          obtain ⟨r, hr⟩ := get_of_lt hjl
          refine w_seq ?_
          refine w_seq ?_
          refine w_reg ?_
          refine wl_mv (.tmp 6) (.int .i64 ((j : Nat) : Int)) (fun _ => rfl) e60_i rfl ?_
          refine wl_mv (.tmp 5) (.slice pl (rds a).length cl) (fun _ => rfl) e60_5 rfl ?_
          refine wl_val (.int .i64 (((rds a).length : Nat) : Int)) (len40 _ _ _ _ _ (by exact rfl) _ _ _ _ _ _) rfl ?_
          refine wl_bin (fun x y => do eqGuard .lss 3 (.tmp 42) (.tmp 44) x y; binOp .lss 3 x y) (.tmp 42) (.tmp 44) (.int .i64 ((j : Nat) : Int)) (.int .i64 (((rds a).length : Nat) : Int)) (.bool true) (fun _ => rfl) rfl rfl (ltN hjd _ _ _) rfl ?_
          refine w_nil ?_
          refine xn_then ?_
          refine w_condT rfl ?_
          refine w_skip ?_
          refine xn_then ?_
          refine w_seq ?_
          refine w_block ?_
          refine w_seq ?_
          refine w_reg ?_
          refine wl_mv (.const (.bool false)) (.bool false) (fun _ => rfl) rfl rfl ?_
          refine w_nil ?_
          refine xn_then ?_
          refine w_seq ?_
          refine w_seq ?_
          refine w_reg ?_
          refine wl_mv (.const (.int .i64 (0))) (.int .i64 (0)) (fun _ => rfl) rfl rfl ?_
          refine w_nil ?_
          refine xn_then ?_
          refine w_block ?_
          have Mw := M
          clear M
          have M : Mo wl60 wl60 := Mo.refl _
          have hSP := hRP.sl (by omega)
          have hSL := hRM.sl (by omega)
          obtain ⟨bq, oq, hpq, hRq⟩ := D.SL.rw hSL hr
          refine w_loop (fun m l w1 => ∃ g : Nat, m = P.length - g ∧ g ≤ P.length ∧ look l 1 = pt k1 0 ∧ look l 3 = .slice pu P.length cu ∧ look l 4 = .int .i64 ((i : Nat) : Int) ∧ look l 5 = .slice pl (rds a).length cl ∧ look l 6 = .int .i64 ((j : Nat) : Int) ∧ look l 8 = .int .i64 ((g : Nat) : Int) ∧ At w1 k1 (x.cells) ∧ (∃ hb : Bool, look l 7 = .bool hb ∧ hb = hasR (P.take g) r) ∧ Mo wl60 w1) _ ⟨0, rfl, Nat.zero_le _, e60_1, e3b, e60_4, e60_5, e60_i, rfl, Q1, ⟨false, rfl, rfl⟩, M⟩ ?_
          clear Q1 M
          rintro m l80 wl80 ⟨g, rfl, hg, e80_1, e80_3, e80_4, e80_5, e80_6, e80_i, Q1, hH, M⟩
          by_cases hgl : g < P.length
          · skip
            have hgd : decide (g < P.length) = true := decide_eq_true hgl
            obtain ⟨hb, e7, hbe⟩ := hH
            obtain ⟨y, hy⟩ := get_of_lt hgl
            obtain ⟨byy, oyy, hpyy, hRyy⟩ := D.SL.rw hSP hy
            refine w_seq ?_
            refine w_seq ?_
            refine w_reg ?_
            refine wl_mv (.tmp 8) (.int .i64 ((g : Nat) : Int)) (fun _ => rfl) e80_i rfl ?_
            refine wl_mv (.tmp 3) (.slice pu P.length cu) (fun _ => rfl) e80_3 rfl ?_
            refine wl_val (.int .i64 ((P.length : Nat) : Int)) (len40 _ _ _ _ _ (by exact rfl) _ _ _ _ _ _) rfl ?_
            refine wl_bin (fun x y => do eqGuard .lss 3 (.tmp 48) (.tmp 50) x y; binOp .lss 3 x y) (.tmp 48) (.tmp 50) (.int .i64 ((g : Nat) : Int)) (.int .i64 ((P.length : Nat) : Int)) (.bool true) (fun _ => rfl) rfl rfl (ltN hgd _ _ _) rfl ?_
            refine w_nil ?_
            refine xn_then ?_
            refine w_condT rfl ?_
            refine w_skip ?_
            refine xn_then ?_
            refine w_seq ?_
            refine w_block ?_
            cases hb with
            | true =>
              refine w_any 10 [.inl (.bool true), .inl (.bool true), .inl undef, .inl undef, .inl undef, .inl undef, .inl undef, .inl undef, .inl undef, .inl undef] [] (by kernel_rfl) (by kernel_rfl) (by kernel_rfl) (by kernel_rfl) rfl (by kernel_rfl) (by kernel_rfl) late_nil ?_ ?_ ?_
              · exact Ds.none rfl
              · refine ea_cons ?_ (ea_cons ?_ (ea_cons ?_ (ea_cons ?_ (ea_cons ?_ (ea_cons ?_ (ea_cons ?_ (ea_cons ?_ (ea_cons ?_ (ea_cons ?_ (ea_nil))))))))))
                · exact og_eq (.bool true) rfl (fun f wf hq hd K hK => go_run rfl (wo_mv (.tmp 7) (.bool true) (fun _ => rfl) e7 (hK _ (Mo.refl _))))
                · exact og_eq (.bool true) rfl (fun f wf hq hd K hK => go_run rfl (wo_mv (.tmp 54) (.bool true) (fun _ => rfl) (hd 0 rfl) (hK _ (Mo.refl _))))
                · exact og_eq undef rfl (fun f wf hq hd K hK => go_pass (wnt_g rfl rfl rfl (hd 1 rfl) rfl) (hK _ (Mo.refl _)))
                · exact og_eq undef rfl (fun f wf hq hd K hK => go_pass (wnt_g rfl rfl rfl (hd 1 rfl) rfl) (hK _ (Mo.refl _)))
                · exact og_eq undef rfl (fun f wf hq hd K hK => go_pass (wnt_g rfl rfl rfl (hd 1 rfl) rfl) (hK _ (Mo.refl _)))
                · exact og_eq undef rfl (fun f wf hq hd K hK => go_pass (wnt_g rfl rfl rfl (hd 1 rfl) rfl) (hK _ (Mo.refl _)))
                · exact og_eq undef rfl (fun f wf hq hd K hK => go_pass (wnt_g rfl rfl rfl (hd 1 rfl) rfl) (hK _ (Mo.refl _)))
                · exact og_eq undef rfl (fun f wf hq hd K hK => go_pass (wnt_g rfl rfl rfl (hd 1 rfl) rfl) (hK _ (Mo.refl _)))
                · exact og_eq undef rfl (fun f wf hq hd K hK => go_pass (wnt_g rfl rfl rfl (hd 1 rfl) rfl) (hK _ (Mo.refl _)))
                · exact og_eq undef rfl (fun f wf hq hd K hK => go_pass (wnt_g rfl rfl rfl (hd 1 rfl) rfl) (hK _ (Mo.refl _)))
              intro kf81 u81 hq hR hne
              replace Q1 := Q1.mo hq
              replace M := M.trans hq
              clear hq hR hne
              refine wl_skip rfl ?_
              refine wl_pick (.tmp 55) (.const (.bool true)) (.tmp 64) true (.bool true) (fun _ => rfl) rfl rfl rfl ?_
              refine wl_mv (.tmp 65) (.bool true) (fun _ => rfl) rfl rfl ?_
              refine w_nil ?_
              refine xn_blk ?_
              refine xn_then ?_
              refine w_reg ?_
              refine wl_mv (.tmp 8) (.int .i64 ((g : Nat) : Int)) (fun _ => rfl) e80_i rfl ?_
              refine wl_bin (fun x y => do eqGuard .add 3 (.tmp 52) (.const (.int .i64 (1))) x y; binOp .add 3 x y) (.tmp 52) (.const (.int .i64 (1))) (.int .i64 ((g : Nat) : Int)) (.int .i64 (1)) (.int .i64 ((g + 1 : Nat) : Int)) (fun _ => rfl) rfl rfl (add1r (k := g) (by omega) _ _ _) rfl ?_
              refine wl_mv (.tmp 53) (.int .i64 ((g + 1 : Nat) : Int)) (fun _ => rfl) rfl rfl ?_
              refine w_nil ?_
              exact xn_loop (P.length - (g + 1)) (by omega) ⟨g + 1, rfl, by omega, e80_1, e80_3, e80_4, e80_5, e80_6, rfl, Q1, ⟨true, rfl, by rw [has_take1 hy, ← hbe]; rfl⟩, M⟩
            | false =>
              cases hf90 : decide (y = r) with
              | true =>
                have hf90p := of_decide_eq_true hf90
                refine w_any 10 [.inl (.bool false), .inl (.bool false), .inl (.slice pu P.length cu), .inl (.int .i64 ((g : Nat) : Int)), .inl (pt byy (oyy + g * 2)), .inl (.agg #[.string y.1, .string y.2]), .inl (.slice pl (rds a).length cl), .inl (.int .i64 ((j : Nat) : Int)), .inl (pt bq (oq + j * 2)), .inl (.agg #[.string r.1, .string r.2])] [] (by kernel_rfl) (by kernel_rfl) (by kernel_rfl) (by kernel_rfl) rfl (by kernel_rfl) (by kernel_rfl) late_nil ?_ ?_ ?_
                · exact Ds.none rfl
                · refine ea_cons ?_ (ea_cons ?_ (ea_cons ?_ (ea_cons ?_ (ea_cons ?_ (ea_cons ?_ (ea_cons ?_ (ea_cons ?_ (ea_cons ?_ (ea_cons ?_ (ea_nil))))))))))
                  · exact og_eq (.bool false) rfl (fun f wf hq hd K hK => go_run rfl (wo_mv (.tmp 7) (.bool false) (fun _ => rfl) e7 (hK _ (Mo.refl _))))
                  · exact og_eq (.bool false) rfl (fun f wf hq hd K hK => go_run rfl (wo_mv (.tmp 54) (.bool false) (fun _ => rfl) (hd 0 rfl) (hK _ (Mo.refl _))))
                  · exact og_eq (.slice pu P.length cu) rfl (fun f wf hq hd K hK => go_run (wnt_g rfl rfl rfl (hd 1 rfl) rfl) (wo_mv (.tmp 3) (.slice pu P.length cu) (fun _ => rfl) e80_3 (hK _ (Mo.refl _))))
                  · exact og_eq (.int .i64 ((g : Nat) : Int)) rfl (fun f wf hq hd K hK => go_run (wnt_g rfl rfl rfl (hd 1 rfl) rfl) (wo_mv (.tmp 8) (.int .i64 ((g : Nat) : Int)) (fun _ => rfl) e80_i (hK _ (Mo.refl _))))
                  · exact og_eq (pt byy (oyy + g * 2)) rfl (fun f wf hq hd K hK => go_run (wnt_g rfl rfl rfl (hd 1 rfl) rfl) (wo_bin (fun x y => Instr.indexAt 40 x y) (.tmp 56) (.tmp 57) (.slice pu P.length cu) (.int .i64 ((g : Nat) : Int)) (pt byy (oyy + g * 2)) (fun _ => rfl) (hd 2 rfl) (hd 3 rfl) (ix40 (i := g) hpyy hgl _) (hK _ (Mo.refl _))))
                  · exact og_eq (.agg #[.string y.1, .string y.2]) rfl (fun f wf hq hd K hK => go_run (wnt_g rfl rfl rfl (hd 1 rfl) rfl) (wo_load 42 (.tmp 58) (pt byy (oyy + g * 2)) (.agg #[.string y.1, .string y.2]) rfl (hd 4 rfl) (D.run_partR (hRyy.mo (M.trans hq)).at' 42 0 2 [.string y.1, .string y.2] rfl Try.underlying42 rfl sz42) (hK _ (Mo.refl _))))
                  · exact og_eq (.slice pl (rds a).length cl) rfl (fun f wf hq hd K hK => go_run (wnt_g rfl rfl rfl (hd 1 rfl) rfl) (wo_mv (.tmp 5) (.slice pl (rds a).length cl) (fun _ => rfl) e80_5 (hK _ (Mo.refl _))))
                  · exact og_eq (.int .i64 ((j : Nat) : Int)) rfl (fun f wf hq hd K hK => go_run (wnt_g rfl rfl rfl (hd 1 rfl) rfl) (wo_mv (.tmp 6) (.int .i64 ((j : Nat) : Int)) (fun _ => rfl) e80_6 (hK _ (Mo.refl _))))
                  · exact og_eq (pt bq (oq + j * 2)) rfl (fun f wf hq hd K hK => go_run (wnt_g rfl rfl rfl (hd 1 rfl) rfl) (wo_bin (fun x y => Instr.indexAt 40 x y) (.tmp 60) (.tmp 61) (.slice pl (rds a).length cl) (.int .i64 ((j : Nat) : Int)) (pt bq (oq + j * 2)) (fun _ => rfl) (hd 6 rfl) (hd 7 rfl) (ix40 (i := j) hpq hjl _) (hK _ (Mo.refl _))))
                  · exact og_eq (.agg #[.string r.1, .string r.2]) rfl (fun f wf hq hd K hK => go_run (wnt_g rfl rfl rfl (hd 1 rfl) rfl) (wo_load 42 (.tmp 62) (pt bq (oq + j * 2)) (.agg #[.string r.1, .string r.2]) rfl (hd 8 rfl) (D.run_partR (hRq.mo (M.trans hq)).at' 42 0 2 [.string r.1, .string r.2] rfl Try.underlying42 rfl sz42) (hK _ (Mo.refl _))))
                intro kf81 u81 hq hR hne
                replace Q1 := Q1.mo hq
                replace M := M.trans hq
                clear hq hR hne
                refine wl_bin (fun x y => do eqGuard .eql 42 (.tmp 59) (.tmp 63) x y; binOp .eql 42 x y) (.tmp 59) (.tmp 63) (.agg #[.string y.1, .string y.2]) (.agg #[.string r.1, .string r.2]) (.bool true) (fun _ => rfl) rfl rfl (eqR (p := y) (q := r) hf90 _ _ _) rfl ?_
                refine wl_pick (.tmp 55) (.const (.bool true)) (.tmp 64) false (.bool true) (fun _ => rfl) rfl rfl rfl ?_
                refine wl_mv (.tmp 65) (.bool true) (fun _ => rfl) rfl rfl ?_
                refine w_nil ?_
                refine xn_blk ?_
                refine xn_then ?_
                refine w_reg ?_
                refine wl_mv (.tmp 8) (.int .i64 ((g : Nat) : Int)) (fun _ => rfl) e80_i rfl ?_
                refine wl_bin (fun x y => do eqGuard .add 3 (.tmp 52) (.const (.int .i64 (1))) x y; binOp .add 3 x y) (.tmp 52) (.const (.int .i64 (1))) (.int .i64 ((g : Nat) : Int)) (.int .i64 (1)) (.int .i64 ((g + 1 : Nat) : Int)) (fun _ => rfl) rfl rfl (add1r (k := g) (by omega) _ _ _) rfl ?_
                refine wl_mv (.tmp 53) (.int .i64 ((g + 1 : Nat) : Int)) (fun _ => rfl) rfl rfl ?_
                refine w_nil ?_
                exact xn_loop (P.length - (g + 1)) (by omega) ⟨g + 1, rfl, by omega, e80_1, e80_3, e80_4, e80_5, e80_6, rfl, Q1, ⟨_, rfl, by rw [has_take1 hy, ← hbe, hf90]; rfl⟩, M⟩
              | false =>
                have hf90p := of_decide_eq_false hf90
                refine w_any 10 [.inl (.bool false), .inl (.bool false), .inl (.slice pu P.length cu), .inl (.int .i64 ((g : Nat) : Int)), .inl (pt byy (oyy + g * 2)), .inl (.agg #[.string y.1, .string y.2]), .inl (.slice pl (rds a).length cl), .inl (.int .i64 ((j : Nat) : Int)), .inl (pt bq (oq + j * 2)), .inl (.agg #[.string r.1, .string r.2])] [] (by kernel_rfl) (by kernel_rfl) (by kernel_rfl) (by kernel_rfl) rfl (by kernel_rfl) (by kernel_rfl) late_nil ?_ ?_ ?_
                · exact Ds.none rfl
                · refine ea_cons ?_ (ea_cons ?_ (ea_cons ?_ (ea_cons ?_ (ea_cons ?_ (ea_cons ?_ (ea_cons ?_ (ea_cons ?_ (ea_cons ?_ (ea_cons ?_ (ea_nil))))))))))
                  · exact og_eq (.bool false) rfl (fun f wf hq hd K hK => go_run rfl (wo_mv (.tmp 7) (.bool false) (fun _ => rfl) e7 (hK _ (Mo.refl _))))
                  · exact og_eq (.bool false) rfl (fun f wf hq hd K hK => go_run rfl (wo_mv (.tmp 54) (.bool false) (fun _ => rfl) (hd 0 rfl) (hK _ (Mo.refl _))))
                  · exact og_eq (.slice pu P.length cu) rfl (fun f wf hq hd K hK => go_run (wnt_g rfl rfl rfl (hd 1 rfl) rfl) (wo_mv (.tmp 3) (.slice pu P.length cu) (fun _ => rfl) e80_3 (hK _ (Mo.refl _))))
                  · exact og_eq (.int .i64 ((g : Nat) : Int)) rfl (fun f wf hq hd K hK => go_run (wnt_g rfl rfl rfl (hd 1 rfl) rfl) (wo_mv (.tmp 8) (.int .i64 ((g : Nat) : Int)) (fun _ => rfl) e80_i (hK _ (Mo.refl _))))
                  · exact og_eq (pt byy (oyy + g * 2)) rfl (fun f wf hq hd K hK => go_run (wnt_g rfl rfl rfl (hd 1 rfl) rfl) (wo_bin (fun x y => Instr.indexAt 40 x y) (.tmp 56) (.tmp 57) (.slice pu P.length cu) (.int .i64 ((g : Nat) : Int)) (pt byy (oyy + g * 2)) (fun _ => rfl) (hd 2 rfl) (hd 3 rfl) (ix40 (i := g) hpyy hgl _) (hK _ (Mo.refl _))))
                  · exact og_eq (.agg #[.string y.1, .string y.2]) rfl (fun f wf hq hd K hK => go_run (wnt_g rfl rfl rfl (hd 1 rfl) rfl) (wo_load 42 (.tmp 58) (pt byy (oyy + g * 2)) (.agg #[.string y.1, .string y.2]) rfl (hd 4 rfl) (D.run_partR (hRyy.mo (M.trans hq)).at' 42 0 2 [.string y.1, .string y.2] rfl Try.underlying42 rfl sz42) (hK _ (Mo.refl _))))
                  · exact og_eq (.slice pl (rds a).length cl) rfl (fun f wf hq hd K hK => go_run (wnt_g rfl rfl rfl (hd 1 rfl) rfl) (wo_mv (.tmp 5) (.slice pl (rds a).length cl) (fun _ => rfl) e80_5 (hK _ (Mo.refl _))))
                  · exact og_eq (.int .i64 ((j : Nat) : Int)) rfl (fun f wf hq hd K hK => go_run (wnt_g rfl rfl rfl (hd 1 rfl) rfl) (wo_mv (.tmp 6) (.int .i64 ((j : Nat) : Int)) (fun _ => rfl) e80_6 (hK _ (Mo.refl _))))
                  · exact og_eq (pt bq (oq + j * 2)) rfl (fun f wf hq hd K hK => go_run (wnt_g rfl rfl rfl (hd 1 rfl) rfl) (wo_bin (fun x y => Instr.indexAt 40 x y) (.tmp 60) (.tmp 61) (.slice pl (rds a).length cl) (.int .i64 ((j : Nat) : Int)) (pt bq (oq + j * 2)) (fun _ => rfl) (hd 6 rfl) (hd 7 rfl) (ix40 (i := j) hpq hjl _) (hK _ (Mo.refl _))))
                  · exact og_eq (.agg #[.string r.1, .string r.2]) rfl (fun f wf hq hd K hK => go_run (wnt_g rfl rfl rfl (hd 1 rfl) rfl) (wo_load 42 (.tmp 62) (pt bq (oq + j * 2)) (.agg #[.string r.1, .string r.2]) rfl (hd 8 rfl) (D.run_partR (hRq.mo (M.trans hq)).at' 42 0 2 [.string r.1, .string r.2] rfl Try.underlying42 rfl sz42) (hK _ (Mo.refl _))))
                intro kf81 u81 hq hR hne
                replace Q1 := Q1.mo hq
                replace M := M.trans hq
                clear hq hR hne
                refine wl_bin (fun x y => do eqGuard .eql 42 (.tmp 59) (.tmp 63) x y; binOp .eql 42 x y) (.tmp 59) (.tmp 63) (.agg #[.string y.1, .string y.2]) (.agg #[.string r.1, .string r.2]) (.bool false) (fun _ => rfl) rfl rfl (eqR (p := y) (q := r) hf90 _ _ _) rfl ?_
                refine wl_pick (.tmp 55) (.const (.bool true)) (.tmp 64) false (.bool false) (fun _ => rfl) rfl rfl rfl ?_
                refine wl_mv (.tmp 65) (.bool false) (fun _ => rfl) rfl rfl ?_
                refine w_nil ?_
                refine xn_blk ?_
                refine xn_then ?_
                refine w_reg ?_
                refine wl_mv (.tmp 8) (.int .i64 ((g : Nat) : Int)) (fun _ => rfl) e80_i rfl ?_
                refine wl_bin (fun x y => do eqGuard .add 3 (.tmp 52) (.const (.int .i64 (1))) x y; binOp .add 3 x y) (.tmp 52) (.const (.int .i64 (1))) (.int .i64 ((g : Nat) : Int)) (.int .i64 (1)) (.int .i64 ((g + 1 : Nat) : Int)) (fun _ => rfl) rfl rfl (add1r (k := g) (by omega) _ _ _) rfl ?_
                refine wl_mv (.tmp 53) (.int .i64 ((g + 1 : Nat) : Int)) (fun _ => rfl) rfl rfl ?_
                refine w_nil ?_
                exact xn_loop (P.length - (g + 1)) (by omega) ⟨g + 1, rfl, by omega, e80_1, e80_3, e80_4, e80_5, e80_6, rfl, Q1, ⟨_, rfl, by rw [has_take1 hy, ← hbe, hf90]; rfl⟩, M⟩
          · skip
            have hgd : decide (g < P.length) = false := decide_eq_false hgl
            have hge : g = P.length := by omega
            obtain ⟨hb, e7, hbe⟩ := hH
            rw [hge, List.take_length] at hbe
            refine w_seq ?_
            refine w_seq ?_
            refine w_reg ?_
            refine wl_mv (.tmp 8) (.int .i64 ((g : Nat) : Int)) (fun _ => rfl) e80_i rfl ?_
            refine wl_mv (.tmp 3) (.slice pu P.length cu) (fun _ => rfl) e80_3 rfl ?_
            refine wl_val (.int .i64 ((P.length : Nat) : Int)) (len40 _ _ _ _ _ (by exact rfl) _ _ _ _ _ _) rfl ?_
            refine wl_bin (fun x y => do eqGuard .lss 3 (.tmp 48) (.tmp 50) x y; binOp .lss 3 x y) (.tmp 48) (.tmp 50) (.int .i64 ((g : Nat) : Int)) (.int .i64 ((P.length : Nat) : Int)) (.bool false) (fun _ => rfl) rfl rfl (ltN hgd _ _ _) rfl ?_
            refine w_nil ?_
            refine xn_then ?_
            refine w_condF rfl ?_
            refine w_exit ?_
            refine xx_then ?_
            refine xx_then ?_
            refine xx_blk ?_
            refine xn_then ?_
            refine w_seq ?_
            refine w_reg ?_
            refine wl_mv (.tmp 7) (.bool hb) (fun _ => rfl) e7 rfl ?_
            cases hb with
            | true =>
              refine wl_un (fun v => Op.unary .not v) (.tmp 66) (.bool true) (.bool false) (fun _ => rfl) rfl (by kernel_rfl) rfl ?_
              refine w_nil ?_
              refine xn_then ?_
              refine w_condF rfl ?_
              refine w_skip ?_
              refine xn_blk ?_
              refine xn_then ?_
              refine w_reg ?_
              refine wl_mv (.tmp 6) (.int .i64 ((j : Nat) : Int)) (fun _ => rfl) e80_6 rfl ?_
              refine wl_bin (fun x y => do eqGuard .add 3 (.tmp 46) (.const (.int .i64 (1))) x y; binOp .add 3 x y) (.tmp 46) (.const (.int .i64 (1))) (.int .i64 ((j : Nat) : Int)) (.int .i64 (1)) (.int .i64 ((j + 1 : Nat) : Int)) (fun _ => rfl) rfl rfl (add1r (k := j) (by omega) _ _ _) rfl ?_
              refine wl_mv (.tmp 47) (.int .i64 ((j + 1 : Nat) : Int)) (fun _ => rfl) rfl rfl ?_
              refine w_nil ?_
              replace hRP := hRP.mo M
              replace hRM := hRM.mo M
              replace M := Mw.trans M
              exact xn_loop ((rds a).length - (j + 1)) (by omega) ⟨j + 1, rfl, by omega, e80_1, e80_4, e80_5, rfl, Q1, ⟨P, by rw [foldl_s hr, ← eP, ins_has hbe.symm], pu, cu, e80_3, hRP, hRM⟩, M⟩
            | false =>
              refine wl_un (fun v => Op.unary .not v) (.tmp 66) (.bool false) (.bool true) (fun _ => rfl) rfl (by kernel_rfl) rfl ?_
              refine w_nil ?_
              refine xn_then ?_
              refine w_condT rfl ?_
              refine w_reg ?_
              refine wl_mv (.tmp 3) (.slice pu P.length cu) (fun _ => rfl) e80_3 rfl ?_
              refine wl_mv (.tmp 5) (.slice pl (rds a).length cl) (fun _ => rfl) e80_5 rfl ?_
              refine wl_mv (.tmp 6) (.int .i64 ((j : Nat) : Int)) (fun _ => rfl) e80_6 rfl ?_
              refine wl_bin (fun x y => Instr.indexAt 40 x y) (.tmp 69) (.tmp 70) (.slice pl (rds a).length cl) (.int .i64 ((j : Nat) : Int)) (pt bq (oq + j * 2)) (fun _ => rfl) rfl rfl (ix40 (i := j) hpq hjl _) rfl ?_
              refine wl_load 42 (.tmp 71) (pt bq (oq + j * 2)) (.agg #[.string r.1, .string r.2]) rfl rfl (D.run_partR (hRq.mo M).at' 42 0 2 [.string r.1, .string r.2] rfl Try.underlying42 rfl sz42) rfl ?_
              refine wl_bs 40 1 [(0, (.tmp 72))] [(0, .agg #[.string r.1, .string r.2])] #[.string r.1, .string r.2] 42 rfl rfl (fun _ => by kernel_rfl) rfl ?_
              intro k2 u81 hk hz hq Q2
              have ne_k1_k2 : k1 ≠ k2 := by have := Q1.lt; omega
              have N_k2 : wl60.heap.size ≤ k2 := by have := M.size; omega
              replace Q1 := Q1.mo hq
              replace M := M.trans hq
              clear hk hz hq
              replace hRP := hRP.mo M
              replace hRM := hRM.mo M
              replace M := Mw.trans M
              refine wl_ap (.tmp 68) (.tmp 73) (N := w.heap.size) (k1 := k1) (r := r) k2 rfl rfl rfl (hRP) Q2 (hzP) M.size Q1.2.2 rfl ?_
              intro pv2 cv2 u82 hRO2 hMo9 m4 hv4
              replace M := hMo9 w rfl M
              replace Q1 := m4.at Q1 (fun e => hRP.nk _ e rfl)
              have hRM2 := hRM.app m4 hv4
              refine wl_mv (.tmp 74) (.slice pv2 (P ++ [r]).length cv2) (fun _ => rfl) rfl rfl ?_
              refine w_nil ?_
              refine xn_blk ?_
              refine xn_then ?_
              refine w_reg ?_
              refine wl_mv (.tmp 6) (.int .i64 ((j : Nat) : Int)) (fun _ => rfl) e80_6 rfl ?_
              refine wl_bin (fun x y => do eqGuard .add 3 (.tmp 46) (.const (.int .i64 (1))) x y; binOp .add 3 x y) (.tmp 46) (.const (.int .i64 (1))) (.int .i64 ((j : Nat) : Int)) (.int .i64 (1)) (.int .i64 ((j + 1 : Nat) : Int)) (fun _ => rfl) rfl rfl (add1r (k := j) (by omega) _ _ _) rfl ?_
              refine wl_mv (.tmp 47) (.int .i64 ((j + 1 : Nat) : Int)) (fun _ => rfl) rfl rfl ?_
              refine w_nil ?_
              exact xn_loop ((rds a).length - (j + 1)) (by omega) ⟨j + 1, rfl, by omega, e80_1, e80_4, e80_5, rfl, Q1, ⟨P ++ [r], by rw [foldl_s hr, ← eP, ins_not hbe.symm], pv2, cv2, rfl, hRO2, hRM2⟩, M⟩
        · skip
          have hjd : decide (j < (rds a).length) = false := decide_eq_false hjl
          have hje : j = (rds a).length := by omega
          obtain ⟨P, eP, pu, cu, e3b, hRP, hRM⟩ := hF
          refine w_seq ?_
          refine w_seq ?_
          refine w_reg ?_
          refine wl_mv (.tmp 6) (.int .i64 ((j : Nat) : Int)) (fun _ => rfl) e60_i rfl ?_
          refine wl_mv (.tmp 5) (.slice pl (rds a).length cl) (fun _ => rfl) e60_5 rfl ?_
          refine wl_val (.int .i64 (((rds a).length : Nat) : Int)) (len40 _ _ _ _ _ (by exact rfl) _ _ _ _ _ _) rfl ?_
          refine wl_bin (fun x y => do eqGuard .lss 3 (.tmp 42) (.tmp 44) x y; binOp .lss 3 x y) (.tmp 42) (.tmp 44) (.int .i64 ((j : Nat) : Int)) (.int .i64 (((rds a).length : Nat) : Int)) (.bool false) (fun _ => rfl) rfl rfl (ltN hjd _ _ _) rfl ?_
          refine w_nil ?_
          refine xn_then ?_
          refine w_condF rfl ?_
          refine w_exit ?_
          refine xx_then ?_
          refine xx_then ?_
          refine xx_blk ?_
          refine xn_blk ?_
          refine xn_then ?_
          refine w_reg ?_
          refine wl_mv (.tmp 4) (.int .i64 ((i : Nat) : Int)) (fun _ => rfl) e60_4 rfl ?_
          refine wl_bin (fun x y => do eqGuard .add 3 (.tmp 34) (.const (.int .i64 (1))) x y; binOp .add 3 x y) (.tmp 34) (.const (.int .i64 (1))) (.int .i64 ((i : Nat) : Int)) (.int .i64 (1)) (.int .i64 ((i + 1 : Nat) : Int)) (fun _ => rfl) rfl rfl (add1r (k := i) (by omega) _ _ _) rfl ?_
          refine wl_mv (.tmp 35) (.int .i64 ((i + 1 : Nat) : Int)) (fun _ => rfl) rfl rfl ?_
          refine w_nil ?_
          exact xn_loop (x.args.length - (i + 1)) (by omega) ⟨i + 1, rfl, by omega, e60_1, rfl, Q1, ⟨_, by rw [foldl_s ha, ← eO]; exact (by rw [hje, List.take_length] at eP; exact eP), pu, cu, e3b, hRP⟩, M⟩
      · skip
        have hid : decide (i < x.args.length) = false := decide_eq_false hil
        have hie : i = x.args.length := by omega
        obtain ⟨O, eO, pv, cv, e3, hRO⟩ := hE
        refine w_seq ?_
        refine w_seq ?_
        refine w_reg ?_
        refine wl_mv (.tmp 4) (.int .i64 ((i : Nat) : Int)) (fun _ => rfl) e40_i rfl ?_
        refine wl_un (fun v => Instr.fieldAt 38 v 7) (.tmp 1) (pt k1 0) (pt k1 16) (fun _ => rfl) e40_1 (by kernel_rfl) rfl ?_
        refine wl_load 36 (.tmp 30) (pt k1 16) (.slice x.pa x.args.length x.cap) rfl rfl (run_one Q1 36 16 rfl Try.underlying36 rfl) rfl ?_
        refine wl_val (.int .i64 ((x.args.length : Nat) : Int)) (len36 _ _ _ _ _ (by exact rfl) _ _ _ _ _ _) rfl ?_
        refine wl_bin (fun x y => do eqGuard .lss 3 (.tmp 29) (.tmp 32) x y; binOp .lss 3 x y) (.tmp 29) (.tmp 32) (.int .i64 ((i : Nat) : Int)) (.int .i64 ((x.args.length : Nat) : Int)) (.bool false) (fun _ => rfl) rfl rfl (ltN hid _ _ _) rfl ?_
        refine w_nil ?_
        refine xn_then ?_
        refine w_condF rfl ?_
        refine w_exit ?_
        refine xx_then ?_
        refine xx_then ?_
        refine xx_blk ?_
        refine xn_then ?_
        refine w_seq ?_
        refine w_reg ?_
        refine wl_mv (.tmp 3) (.slice pv O.length cv) (fun _ => rfl) e3 rfl ?_
        refine wl_mv (.tmp 75) (.slice pv O.length cv) (fun _ => rfl) rfl rfl ?_
        refine w_nil ?_
        refine xn_then ?_
        refine w_ret ?_
        exact w_ret1 _ (.slice pv O.length cv) rfl rfl (by rw [hie, List.take_length, ← rds_eq] at eO; subst eO; exact ⟨pv, cv, rfl, hRO.own, M⟩)
end Go.Proofs.Ytepfokoepibkcaa
