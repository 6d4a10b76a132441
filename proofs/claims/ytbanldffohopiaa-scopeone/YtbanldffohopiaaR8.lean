/-
  The document's side: page.
-/
import Derived.Test.YtbanldffohopiaaR7
namespace Go.Proofs.Ytbanldffohopiaa
open Go.RowKit D
theorem rpage_n (d : Df) {w : World} (hD : LDf w d) {pa : Option Addr} {c : Nat} {L : List S5} {A : Al} (hS : SL w 5 S5.cells pa L) (h5 : ∀ x ∈ L, LS5 w x) (hw : Wf L) (hz : L.length ≤ 64) (h0 : 0 < L.length) (hKn : ∀ e, knoR d L 0 e = kno L A 0 e) (hFl : ∀ nm, fldR (itO L 0) nm = decide ((lk (A.I 0) nm).getD 0 = 1)) (hKd : ∀ nm, (lk (A.K 0) nm).isSome = (ffi (kdP 0 nm) L).isSome) (n : Nat) (x : Pg) (hx : d.pg[n]? = some x) : Calls Try.prog 40 #[.agg (d.cells).toArray, .slice pa L.length c, .int .i64 ((n : Nat) : Int)] w fun e w' => e = .returned (.int .i64 (pgF L A d.pg n x)) ∧ Mo w w' := by
  have hnl := lt_of_get hx
  have hmx := List.mem_of_getElem? hx
  obtain ⟨r, hr⟩ := get_of_lt h0
  have hIt0 := (h5 r (List.mem_of_getElem? hr)).it
  have hzp := hD.pg.1
  unfold maxLen at hzp
  obtain ⟨bp, op, hpp, hRp⟩ := D.SL.rw hD.pg hx
  obtain ⟨bq, oq, hpq, hRq⟩ := D.SL.rw hS hr
  refine w_enter 103 Try.func40 Try.ntmps40 rfl rfl ?_
  have M : Mo w w := Mo.refl _
  refine w_seq ?_
  refine w_reg ?_
  refine wl_box 29 (.tmp 0) (.agg (d.cells).toArray) (((d.cells).toArray)) rfl rfl (fun _ => by kernel_rfl) rfl ?_
  intro k1 u1 hk hz hq Q1
  have N_k1 : w.heap.size ≤ k1 := by have := M.size; omega
  replace M := M.trans hq
  clear hk hz hq
  refine wl_mv (.const (.int .i64 (0))) (.int .i64 (0)) (fun _ => rfl) rfl rfl ?_
  refine w_nil ?_
  refine xn_then ?_
  refine w_seq ?_
  refine w_reg ?_
  refine wl_un (fun v => Instr.fieldAt 29 v 3) (.tmp 3) (pt k1 0) (pt k1 6) (fun _ => rfl) rfl (by kernel_rfl) rfl ?_
  refine wl_load 27 (.tmp 14) (pt k1 6) (.slice d.pp d.pg.length d.cp) rfl rfl (run_one Q1 27 6 rfl Try.underlying27 rfl) rfl ?_
  refine wl_mv (.tmp 2) (.int .i64 ((n : Nat) : Int)) (fun _ => rfl) rfl rfl ?_
  refine wl_bin (fun x y => Instr.indexAt 27 x y) (.tmp 15) (.tmp 16) (.slice d.pp d.pg.length d.cp) (.int .i64 ((n : Nat) : Int)) (pt bp (op + n * 19)) (fun _ => rfl) rfl rfl (ix27 (i := n) hpp hnl _) rfl ?_
  refine wl_load 90 (.tmp 17) (pt bp (op + n * 19)) (.agg (x.cells).toArray) rfl rfl (D.run_partR (hRp.mo M).at' 90 0 19 (x.cells) rfl Try.underlying90 rfl sz90) rfl ?_
  refine wl_alloc 90 #[.string ⟨#[]⟩, .int .i64 0, .int .i64 0, .string ⟨#[]⟩, .string ⟨#[]⟩, .int .i64 0, .bool false, .int .u64 0, .int .u64 0, .int .u64 0, .int .u64 0, .int .i64 0, .bool false, .string ⟨#[]⟩, .int .i64 0, .int .i64 0, .int .i64 0, .slice none 0 0, .slice none 0 0] rfl (fun _ => by kernel_rfl) rfl ?_
  intro k2 u2 hk hz hq Q2
  have ne_k1_k2 : k1 ≠ k2 := by have := Q1.lt; omega
  have N_k2 : w.heap.size ≤ k2 := by have := M.size; omega
  replace Q1 := Q1.mo hq
  replace M := M.trans hq
  clear hk hz hq
  refine wl_st 90 (.tmp 7) (.tmp 18) k2 0 ((x.cells).toArray) [.string ⟨#[]⟩, .int .i64 0, .int .i64 0, .string ⟨#[]⟩, .string ⟨#[]⟩, .int .i64 0, .bool false, .int .u64 0, .int .u64 0, .int .u64 0, .int .u64 0, .int .i64 0, .bool false, .string ⟨#[]⟩, .int .i64 0, .int .i64 0, .int .i64 0, .slice none 0 0, .slice none 0 0] (x.cells) Q2 rfl rfl rfl rfl rfl sz90 rfl rfl rfl ?_
  intro u3 hS Qn
  replace Q2 := Qn
  clear Qn
  replace Q1 := hS.other _ _ ne_k1_k2 Q1
  replace M := hS.mo _ N_k2 M
  clear hS
  refine w_nil ?_
  refine xn_then ?_
  refine w_seq ?_
  refine w_seq ?_
  refine w_reg ?_
  refine wl_un (fun v => Instr.fieldAt 90 v 0) (.tmp 7) (pt k2 0) (pt k2 0) (fun _ => rfl) rfl (by kernel_rfl) rfl ?_
  refine wl_load 9 (.tmp 19) (pt k2 0) (.string x.nm) rfl rfl (run_one Q2 9 0 rfl Try.underlying9 rfl) rfl ?_
  cases hf0 : may x.nm with
  | true =>
    refine wl_call 36 [(.tmp 20)] _ [.string x.nm] (.bool true) rfl rfl (fun _ _ => by kernel_rfl) (cB hf0 (rmay_n x.nm _)) rfl ?_
    intro u4 hq
    replace Q1 := Q1.mo hq
    replace Q2 := Q2.mo hq
    replace M := M.trans hq
    clear hq
    refine wl_un (fun v => Op.unary .not v) (.tmp 21) (.bool true) (.bool false) (fun _ => rfl) rfl (by kernel_rfl) rfl ?_
    refine w_nil ?_
    refine xn_then ?_
    refine w_condF rfl ?_
    refine w_skip ?_
    refine xn_then ?_
    refine w_seq ?_
    refine w_seq ?_
    refine w_reg ?_
    refine wl_mv (.const (.int .i64 (0))) (.int .i64 (0)) (fun _ => rfl) rfl rfl ?_
    refine w_nil ?_
    refine xn_then ?_
    refine w_block ?_
    refine w_loop (fun m l w1 => ∃ i : Nat, m = n - i ∧ i ≤ n ∧ look l 1 = .slice pa L.length c ∧ look l 2 = .int .i64 ((n : Nat) : Int) ∧ look l 3 = pt k1 0 ∧ look l 7 = pt k2 0 ∧ look l 8 = .int .i64 ((i : Nat) : Int) ∧ At w1 k1 (d.cells) ∧ At w1 k2 (x.cells) ∧ ((d.pg.take i).any (fun y => decide (y.nm = x.nm)) = false) ∧ Mo w w1) _ ⟨0, rfl, Nat.zero_le _, rfl, rfl, rfl, rfl, rfl, Q1, Q2, rfl, M⟩ ?_
    clear Q1 Q2 M
    rintro m l40 wl40 ⟨i, rfl, hi, e40_1, e40_2, e40_3, e40_7, e40_i, Q1, Q2, hT, M⟩
    by_cases hil : i < n
    · skip
      have hid : decide (i < n) = true := decide_eq_true hil
      have hiL : i < d.pg.length := by omega
      obtain ⟨y, hy⟩ := get_of_lt hiL
      obtain ⟨bs, os, hps, hRs⟩ := D.SL.rw hD.pg hy
      refine w_seq ?_
      refine w_seq ?_
      refine w_reg ?_
      refine wl_mv (.tmp 8) (.int .i64 ((i : Nat) : Int)) (fun _ => rfl) e40_i rfl ?_
      refine wl_mv (.tmp 2) (.int .i64 ((n : Nat) : Int)) (fun _ => rfl) e40_2 rfl ?_
      refine wl_bin (fun x y => do eqGuard .lss 3 (.tmp 23) (.tmp 24) x y; binOp .lss 3 x y) (.tmp 23) (.tmp 24) (.int .i64 ((i : Nat) : Int)) (.int .i64 ((n : Nat) : Int)) (.bool true) (fun _ => rfl) rfl rfl (ltN hid _ _ _) rfl ?_
      refine w_nil ?_
      refine xn_then ?_
      refine w_condT rfl ?_
      refine w_skip ?_
      refine xn_then ?_
      refine w_seq ?_
      refine w_block ?_
      refine w_seq ?_
      cases hf30 : decide (y.nm = x.nm) with
      | true =>
        have hf30p := of_decide_eq_true hf30
        refine w_any 8 [.inl (pt k1 6), .inl (.slice d.pp d.pg.length d.cp), .inl (.int .i64 ((i : Nat) : Int)), .inl (pt bs (os + i * 19)), .inl (pt bs (os + i * 19)), .inl (.string y.nm), .inl (pt k2 0), .inl (.string x.nm)] [] (by kernel_rfl) (by kernel_rfl) (by kernel_rfl) (by kernel_rfl) rfl (by kernel_rfl) (by kernel_rfl) late_nil ?_ ?_ ?_
        · exact Ds.none rfl
        · refine ea_cons ?_ (ea_cons ?_ (ea_cons ?_ (ea_cons ?_ (ea_cons ?_ (ea_cons ?_ (ea_cons ?_ (ea_cons ?_ (ea_nil))))))))
          · exact og_eq (pt k1 6) rfl (fun f wf hq hd K hK => go_run rfl (wo_un (fun v => Instr.fieldAt 29 v 3) (.tmp 3) (pt k1 0) (pt k1 6) (fun _ => rfl) e40_3 (by kernel_rfl) (hK _ (Mo.refl _))))
          · exact og_eq (.slice d.pp d.pg.length d.cp) rfl (fun f wf hq hd K hK => have Q1 := Q1.mo hq; go_run rfl (wo_load 27 (.tmp 28) (pt k1 6) (.slice d.pp d.pg.length d.cp) rfl (hd 0 rfl) (run_one Q1 27 6 rfl Try.underlying27 rfl) (hK _ (Mo.refl _))))
          · exact og_eq (.int .i64 ((i : Nat) : Int)) rfl (fun f wf hq hd K hK => go_run rfl (wo_mv (.tmp 8) (.int .i64 ((i : Nat) : Int)) (fun _ => rfl) e40_i (hK _ (Mo.refl _))))
          · exact og_eq (pt bs (os + i * 19)) rfl (fun f wf hq hd K hK => go_run rfl (wo_bin (fun x y => Instr.indexAt 27 x y) (.tmp 29) (.tmp 30) (.slice d.pp d.pg.length d.cp) (.int .i64 ((i : Nat) : Int)) (pt bs (os + i * 19)) (fun _ => rfl) (hd 1 rfl) (hd 2 rfl) (ix27 (i := i) hps hiL _) (hK _ (Mo.refl _))))
          · exact og_eq (pt bs (os + i * 19)) rfl (fun f wf hq hd K hK => go_run rfl (wo_un (fun v => Instr.fieldAt 90 v 0) (.tmp 31) (pt bs (os + i * 19)) (pt bs (os + i * 19)) (fun _ => rfl) (hd 3 rfl) (by kernel_rfl) (hK _ (Mo.refl _))))
          · exact og_eq (.string y.nm) rfl (fun f wf hq hd K hK => go_run rfl (wo_load 9 (.tmp 32) (pt bs (os + i * 19)) (.string y.nm) rfl (hd 4 rfl) (D.run_oneR (hRs.mo (M.trans hq)).at' 9 0 rfl Try.underlying9 rfl) (hK _ (Mo.refl _))))
          · exact og_eq (pt k2 0) rfl (fun f wf hq hd K hK => go_run rfl (wo_un (fun v => Instr.fieldAt 90 v 0) (.tmp 7) (pt k2 0) (pt k2 0) (fun _ => rfl) e40_7 (by kernel_rfl) (hK _ (Mo.refl _))))
          · exact og_eq (.string x.nm) rfl (fun f wf hq hd K hK => have Q2 := Q2.mo hq; go_run rfl (wo_load 9 (.tmp 34) (pt k2 0) (.string x.nm) rfl (hd 6 rfl) (run_one Q2 9 0 rfl Try.underlying9 rfl) (hK _ (Mo.refl _))))
        intro kf41 u41 hq hR hne
        replace Q1 := Q1.mo hq
        replace Q2 := Q2.mo hq
        replace M := M.trans hq
        clear hq hR hne
        refine wl_bin (fun x y => do eqGuard .eql 9 (.tmp 33) (.tmp 35) x y; binOp .eql 9 x y) (.tmp 33) (.tmp 35) (.string y.nm) (.string x.nm) (.bool true) (fun _ => rfl) rfl rfl (s9 hf30 _ _ _) rfl ?_
        refine w_nil ?_
        refine xn_then ?_
        refine w_condT rfl ?_
        refine w_seq ?_
        refine w_reg ?_
        refine wl_mv (.const (.int .i64 (5))) (.int .i64 (5)) (fun _ => rfl) rfl rfl ?_
        refine w_nil ?_
        refine xn_then ?_
        refine w_ret ?_
        refine xr_blk ?_
        refine xr_then ?_
        refine xr_then ?_
        refine xr_blk ?_
        refine xr_then ?_
        have hpg : (lk (pgA d.pg n) x.nm).isSome = true := by rw [pgA_any]; exact take_any.2 ⟨i, y, hil, hy, hf30⟩
        exact w_ret1 _ (.int .i64 (5)) rfl rfl ⟨by unfold pgF; rw [show pgE L A (pgA d.pg n) x = 5 from by unfold pgE; rw [hf0, hpg]; first | done | rfl]; rfl, M⟩
      | false =>
        have hf30p := of_decide_eq_false hf30
        refine w_any 8 [.inl (pt k1 6), .inl (.slice d.pp d.pg.length d.cp), .inl (.int .i64 ((i : Nat) : Int)), .inl (pt bs (os + i * 19)), .inl (pt bs (os + i * 19)), .inl (.string y.nm), .inl (pt k2 0), .inl (.string x.nm)] [] (by kernel_rfl) (by kernel_rfl) (by kernel_rfl) (by kernel_rfl) rfl (by kernel_rfl) (by kernel_rfl) late_nil ?_ ?_ ?_
        · exact Ds.none rfl
        · refine ea_cons ?_ (ea_cons ?_ (ea_cons ?_ (ea_cons ?_ (ea_cons ?_ (ea_cons ?_ (ea_cons ?_ (ea_cons ?_ (ea_nil))))))))
          · exact og_eq (pt k1 6) rfl (fun f wf hq hd K hK => go_run rfl (wo_un (fun v => Instr.fieldAt 29 v 3) (.tmp 3) (pt k1 0) (pt k1 6) (fun _ => rfl) e40_3 (by kernel_rfl) (hK _ (Mo.refl _))))
          · exact og_eq (.slice d.pp d.pg.length d.cp) rfl (fun f wf hq hd K hK => have Q1 := Q1.mo hq; go_run rfl (wo_load 27 (.tmp 28) (pt k1 6) (.slice d.pp d.pg.length d.cp) rfl (hd 0 rfl) (run_one Q1 27 6 rfl Try.underlying27 rfl) (hK _ (Mo.refl _))))
          · exact og_eq (.int .i64 ((i : Nat) : Int)) rfl (fun f wf hq hd K hK => go_run rfl (wo_mv (.tmp 8) (.int .i64 ((i : Nat) : Int)) (fun _ => rfl) e40_i (hK _ (Mo.refl _))))
          · exact og_eq (pt bs (os + i * 19)) rfl (fun f wf hq hd K hK => go_run rfl (wo_bin (fun x y => Instr.indexAt 27 x y) (.tmp 29) (.tmp 30) (.slice d.pp d.pg.length d.cp) (.int .i64 ((i : Nat) : Int)) (pt bs (os + i * 19)) (fun _ => rfl) (hd 1 rfl) (hd 2 rfl) (ix27 (i := i) hps hiL _) (hK _ (Mo.refl _))))
          · exact og_eq (pt bs (os + i * 19)) rfl (fun f wf hq hd K hK => go_run rfl (wo_un (fun v => Instr.fieldAt 90 v 0) (.tmp 31) (pt bs (os + i * 19)) (pt bs (os + i * 19)) (fun _ => rfl) (hd 3 rfl) (by kernel_rfl) (hK _ (Mo.refl _))))
          · exact og_eq (.string y.nm) rfl (fun f wf hq hd K hK => go_run rfl (wo_load 9 (.tmp 32) (pt bs (os + i * 19)) (.string y.nm) rfl (hd 4 rfl) (D.run_oneR (hRs.mo (M.trans hq)).at' 9 0 rfl Try.underlying9 rfl) (hK _ (Mo.refl _))))
          · exact og_eq (pt k2 0) rfl (fun f wf hq hd K hK => go_run rfl (wo_un (fun v => Instr.fieldAt 90 v 0) (.tmp 7) (pt k2 0) (pt k2 0) (fun _ => rfl) e40_7 (by kernel_rfl) (hK _ (Mo.refl _))))
          · exact og_eq (.string x.nm) rfl (fun f wf hq hd K hK => have Q2 := Q2.mo hq; go_run rfl (wo_load 9 (.tmp 34) (pt k2 0) (.string x.nm) rfl (hd 6 rfl) (run_one Q2 9 0 rfl Try.underlying9 rfl) (hK _ (Mo.refl _))))
        intro kf41 u41 hq hR hne
        replace Q1 := Q1.mo hq
        replace Q2 := Q2.mo hq
        replace M := M.trans hq
        clear hq hR hne
        refine wl_bin (fun x y => do eqGuard .eql 9 (.tmp 33) (.tmp 35) x y; binOp .eql 9 x y) (.tmp 33) (.tmp 35) (.string y.nm) (.string x.nm) (.bool false) (fun _ => rfl) rfl rfl (s9 hf30 _ _ _) rfl ?_
        refine w_nil ?_
        refine xn_then ?_
        refine w_condF rfl ?_
        refine w_skip ?_
        refine xn_blk ?_
        refine xn_then ?_
        refine w_reg ?_
        refine wl_mv (.tmp 8) (.int .i64 ((i : Nat) : Int)) (fun _ => rfl) e40_i rfl ?_
        refine wl_bin (fun x y => do eqGuard .add 3 (.tmp 26) (.const (.int .i64 (1))) x y; binOp .add 3 x y) (.tmp 26) (.const (.int .i64 (1))) (.int .i64 ((i : Nat) : Int)) (.int .i64 (1)) (.int .i64 ((i + 1 : Nat) : Int)) (fun _ => rfl) rfl rfl (add1r (k := i) (by omega) _ _ _) rfl ?_
        refine wl_mv (.tmp 27) (.int .i64 ((i + 1 : Nat) : Int)) (fun _ => rfl) rfl rfl ?_
        refine w_nil ?_
        exact xn_loop (n - (i + 1)) (by omega) ⟨i + 1, rfl, by omega, e40_1, e40_2, e40_3, e40_7, rfl, Q1, Q2, any_take hT hy hf30, M⟩
    · skip
      have hid : decide (i < n) = false := decide_eq_false hil
      have hie : i = n := by omega
      have hpg : (lk (pgA d.pg n) x.nm).isSome = false := by rw [pgA_any, ← hie]; exact hT
      refine w_seq ?_
      refine w_seq ?_
      refine w_reg ?_
      refine wl_mv (.tmp 8) (.int .i64 ((i : Nat) : Int)) (fun _ => rfl) e40_i rfl ?_
      refine wl_mv (.tmp 2) (.int .i64 ((n : Nat) : Int)) (fun _ => rfl) e40_2 rfl ?_
      refine wl_bin (fun x y => do eqGuard .lss 3 (.tmp 23) (.tmp 24) x y; binOp .lss 3 x y) (.tmp 23) (.tmp 24) (.int .i64 ((i : Nat) : Int)) (.int .i64 ((n : Nat) : Int)) (.bool false) (fun _ => rfl) rfl rfl (ltN hid _ _ _) rfl ?_
      refine w_nil ?_
      refine xn_then ?_
      refine w_condF rfl ?_
      refine w_exit ?_
      refine xx_then ?_
      refine xx_then ?_
      refine xx_blk ?_
      refine xn_then ?_
      refine w_seq ?_
      refine w_seq ?_
      refine w_reg ?_
      refine wl_un (fun v => Instr.fieldAt 90 v 2) (.tmp 7) (pt k2 0) (pt k2 18) (fun _ => rfl) e40_7 (by kernel_rfl) rfl ?_
      refine wl_load 45 (.tmp 37) (pt k2 18) (.slice x.pa x.its.length x.cap) rfl rfl (run_one Q2 45 18 rfl Try.underlying45 rfl) rfl ?_
      refine wl_val (.int .i64 ((x.its.length : Nat) : Int)) (len45 _ _ _ _ _ (by exact rfl) _ _ _ _ _ _) rfl ?_
      cases hf30 : decide (64 < x.its.length) with
      | true =>
        have hf30p := of_decide_eq_true hf30
        refine wl_bin (fun x y => do eqGuard .gtr 3 (.tmp 39) (.const (.int .i64 (64))) x y; binOp .gtr 3 x y) (.tmp 39) (.const (.int .i64 (64))) (.int .i64 ((x.its.length : Nat) : Int)) (.int .i64 (64)) (.bool true) (fun _ => rfl) rfl rfl (gtN hf30 _ _ _) rfl ?_
        refine w_nil ?_
        refine xn_then ?_
        refine w_condT rfl ?_
        refine w_seq ?_
        refine w_reg ?_
        refine wl_mv (.const (.int .i64 (92))) (.int .i64 (92)) (fun _ => rfl) rfl rfl ?_
        refine w_nil ?_
        refine xn_then ?_
        refine w_ret ?_
        refine xr_then ?_
        exact w_ret1 _ (.int .i64 (92)) rfl rfl ⟨by unfold pgF; rw [show pgE L A (pgA d.pg n) x = 92 from by unfold pgE; rw [hf0, hpg, hf30]; first | done | rfl]; rfl, M⟩
      | false =>
        have hf30p := of_decide_eq_false hf30
        refine wl_bin (fun x y => do eqGuard .gtr 3 (.tmp 39) (.const (.int .i64 (64))) x y; binOp .gtr 3 x y) (.tmp 39) (.const (.int .i64 (64))) (.int .i64 ((x.its.length : Nat) : Int)) (.int .i64 (64)) (.bool false) (fun _ => rfl) rfl rfl (gtN hf30 _ _ _) rfl ?_
        refine w_nil ?_
        refine xn_then ?_
        refine w_condF rfl ?_
        refine w_skip ?_
        refine xn_then ?_
        refine w_seq ?_
        refine w_seq ?_
        refine w_reg ?_
        refine wl_load 29 (.tmp 3) (pt k1 0) (.agg (d.cells).toArray) rfl e40_3 (run_row Q1 29 0 7 (d.cells) rfl Try.underlying29 rfl sz29) rfl ?_
        refine wl_mv (.tmp 1) (.slice pa L.length c) (fun _ => rfl) e40_1 rfl ?_
        refine wl_un (fun v => Instr.fieldAt 90 v 1) (.tmp 7) (pt k2 0) (pt k2 1) (fun _ => rfl) e40_7 (by kernel_rfl) rfl ?_
        refine wl_load 64 (.tmp 43) (pt k2 1) (.agg #[.int .i64 x.wh.k, .int .i64 x.wh.op, .string x.wh.nm, .string x.wh.se, .int .i64 x.wh.v.k, .bool x.wh.v.d.b, .int .u64 x.wh.v.d.n0, .int .u64 x.wh.v.d.n1, .int .u64 x.wh.v.d.n2, .int .u64 x.wh.v.d.n3, .int .i64 x.wh.v.d.s, .bool x.wh.v.f, .string x.wh.v.t, .int .i64 x.wh.v.e, .int .i64 x.wh.sc, .int .i64 x.wh.po, .slice x.wh.pa x.wh.args.length x.wh.cap]) rfl rfl (run_row Q2 64 1 17 [.int .i64 x.wh.k, .int .i64 x.wh.op, .string x.wh.nm, .string x.wh.se, .int .i64 x.wh.v.k, .bool x.wh.v.d.b, .int .u64 x.wh.v.d.n0, .int .u64 x.wh.v.d.n1, .int .u64 x.wh.v.d.n2, .int .u64 x.wh.v.d.n3, .int .i64 x.wh.v.d.s, .bool x.wh.v.f, .string x.wh.v.t, .int .i64 x.wh.v.e, .int .i64 x.wh.sc, .int .i64 x.wh.po, .slice x.wh.pa x.wh.args.length x.wh.cap] rfl Try.underlying64 rfl sz64) rfl ?_
        cases hf31 : lck (kno L A 0) x.wh with
        | true =>
          refine wl_call 39 [(.tmp 41), (.tmp 42), (.const (.int .i64 (0))), (.tmp 44)] _ [.agg (d.cells).toArray, .slice pa L.length c, .int .i64 (0), .agg #[.int .i64 x.wh.k, .int .i64 x.wh.op, .string x.wh.nm, .string x.wh.se, .int .i64 x.wh.v.k, .bool x.wh.v.d.b, .int .u64 x.wh.v.d.n0, .int .u64 x.wh.v.d.n1, .int .u64 x.wh.v.d.n2, .int .u64 x.wh.v.d.n3, .int .i64 x.wh.v.d.s, .bool x.wh.v.f, .string x.wh.v.t, .int .i64 x.wh.v.e, .int .i64 x.wh.sc, .int .i64 x.wh.po, .slice x.wh.pa x.wh.args.length x.wh.cap]] (.bool true) rfl rfl (fun _ _ => by kernel_rfl) (cB ((lck_congr hKn x.wh).trans hf31) (unknown_n hz hw 0 h0 x.wh (hD.kp M.kp) ((hD.wh x hmx).kp M.kp) (hS.kp M.kp) (fun y hy => (h5 y hy).kp M.kp))) rfl ?_
          intro u41 hq
          replace Q1 := Q1.mo hq
          replace Q2 := Q2.mo hq
          replace M := M.trans hq
          clear hq
          refine w_nil ?_
          refine xn_then ?_
          refine w_condT rfl ?_
          refine w_seq ?_
          refine w_reg ?_
          refine wl_mv (.const (.int .i64 (91))) (.int .i64 (91)) (fun _ => rfl) rfl rfl ?_
          refine w_nil ?_
          refine xn_then ?_
          refine w_ret ?_
          refine xr_then ?_
          exact w_ret1 _ (.int .i64 (91)) rfl rfl ⟨by unfold pgF; rw [show pgE L A (pgA d.pg n) x = 91 from by unfold pgE; rw [hf0, hpg, hf30, hf31]; first | done | rfl]; rfl, M⟩
        | false =>
          refine wl_call 39 [(.tmp 41), (.tmp 42), (.const (.int .i64 (0))), (.tmp 44)] _ [.agg (d.cells).toArray, .slice pa L.length c, .int .i64 (0), .agg #[.int .i64 x.wh.k, .int .i64 x.wh.op, .string x.wh.nm, .string x.wh.se, .int .i64 x.wh.v.k, .bool x.wh.v.d.b, .int .u64 x.wh.v.d.n0, .int .u64 x.wh.v.d.n1, .int .u64 x.wh.v.d.n2, .int .u64 x.wh.v.d.n3, .int .i64 x.wh.v.d.s, .bool x.wh.v.f, .string x.wh.v.t, .int .i64 x.wh.v.e, .int .i64 x.wh.sc, .int .i64 x.wh.po, .slice x.wh.pa x.wh.args.length x.wh.cap]] (.bool false) rfl rfl (fun _ _ => by kernel_rfl) (cB ((lck_congr hKn x.wh).trans hf31) (unknown_n hz hw 0 h0 x.wh (hD.kp M.kp) ((hD.wh x hmx).kp M.kp) (hS.kp M.kp) (fun y hy => (h5 y hy).kp M.kp))) rfl ?_
          intro u41 hq
          replace Q1 := Q1.mo hq
          replace Q2 := Q2.mo hq
          replace M := M.trans hq
          clear hq
          refine w_nil ?_
          refine xn_then ?_
          refine w_condF rfl ?_
          refine w_skip ?_
          refine xn_then ?_
          refine w_seq ?_
          refine w_seq ?_
          refine w_reg ?_
          refine wl_mv (.const (.int .i64 (0))) (.int .i64 (0)) (fun _ => rfl) rfl rfl ?_
          refine w_nil ?_
          refine xn_then ?_
          refine w_block ?_
          have hpe : pgE L A (pgA d.pg n) x = 0 := by unfold pgE; rw [hf0, hpg, hf30, hf31]; first | done | rfl
          have hzi := (hD.it x hmx).1
          unfold maxLen at hzi
          refine w_loop (fun m l w1 => ∃ i : Nat, m = x.its.length - i ∧ i ≤ x.its.length ∧ look l 1 = .slice pa L.length c ∧ look l 2 = .int .i64 ((n : Nat) : Int) ∧ look l 3 = pt k1 0 ∧ look l 7 = pt k2 0 ∧ look l 9 = .int .i64 ((i : Nat) : Int) ∧ At w1 k1 (d.cells) ∧ At w1 k2 (x.cells) ∧ (∀ j, j < i → shG A ((n : Nat) : Int) (pgS d.pg n) x.its j = none) ∧ Mo w w1) _ ⟨0, rfl, Nat.zero_le _, e40_1, e40_2, e40_3, e40_7, rfl, Q1, Q2, (fun j hj => by omega), M⟩ ?_
          clear Q1 Q2 M
          rintro m l100 wl100 ⟨i, rfl, hi, e100_1, e100_2, e100_3, e100_7, e100_i, Q1, Q2, hG, M⟩
          by_cases hil : i < x.its.length
          · skip
            have hid : decide (i < x.its.length) = true := decide_eq_true hil
            obtain ⟨a, ha⟩ := get_of_lt hil
            obtain ⟨bs, os, hps, hRs⟩ := D.SL.rw (hD.it x hmx) ha
            refine w_seq ?_
            refine w_seq ?_
            refine w_reg ?_
            refine wl_mv (.tmp 9) (.int .i64 ((i : Nat) : Int)) (fun _ => rfl) e100_i rfl ?_
            refine wl_un (fun v => Instr.fieldAt 90 v 2) (.tmp 7) (pt k2 0) (pt k2 18) (fun _ => rfl) e100_7 (by kernel_rfl) rfl ?_
            refine wl_load 45 (.tmp 47) (pt k2 18) (.slice x.pa x.its.length x.cap) rfl rfl (run_one Q2 45 18 rfl Try.underlying45 rfl) rfl ?_
            refine wl_val (.int .i64 ((x.its.length : Nat) : Int)) (len45 _ _ _ _ _ (by exact rfl) _ _ _ _ _ _) rfl ?_
            refine wl_bin (fun x y => do eqGuard .lss 3 (.tmp 46) (.tmp 49) x y; binOp .lss 3 x y) (.tmp 46) (.tmp 49) (.int .i64 ((i : Nat) : Int)) (.int .i64 ((x.its.length : Nat) : Int)) (.bool true) (fun _ => rfl) rfl rfl (ltN hid _ _ _) rfl ?_
            refine w_nil ?_
            refine xn_then ?_
            refine w_condT rfl ?_
            refine w_skip ?_
            refine xn_then ?_
            refine w_seq ?_
            refine w_block ?_
            refine w_seq ?_
            cases hf90 : (ffi (rdP a) r.items).isSome with
            | true =>
              refine w_any 14 [.inl (.slice pa L.length c), .inl (pt bq (oq + 0 * 5)), .inl (pt bq (oq + 0 * 5 + 4)), .inl (.slice r.pi r.items.length r.ci), .inl (pt k2 18), .inl (.slice x.pa x.its.length x.cap), .inl (.int .i64 ((i : Nat) : Int)), .inl (pt bs (os + i * 1)), .inl (.string a), .inl (.tuple #[.int .i64 (((ffi (rdP a) r.items).getD 0 : Nat) : Int), .bool true]), .inl (.tuple #[.int .i64 (((ffi (rdP a) r.items).getD 0 : Nat) : Int), .bool true]), .inl (.int .i64 (((ffi (rdP a) r.items).getD 0 : Nat) : Int)), .inl (.bool true), .inl (.int .i64 (((ffi (rdP a) r.items).getD 0 : Nat) : Int))] [] (by kernel_rfl) (by kernel_rfl) (by kernel_rfl) (by kernel_rfl) rfl (by kernel_rfl) (by kernel_rfl) late_nil ?_ ?_ ?_
              · exact Ds.none rfl
              · refine ea_cons ?_ (ea_cons ?_ (ea_cons ?_ (ea_cons ?_ (ea_cons ?_ (ea_cons ?_ (ea_cons ?_ (ea_cons ?_ (ea_cons ?_ (ea_cons ?_ (ea_cons ?_ (ea_cons ?_ (ea_cons ?_ (ea_cons ?_ (ea_nil))))))))))))))
                · exact og_eq (.slice pa L.length c) rfl (fun f wf hq hd K hK => go_run rfl (wo_mv (.tmp 1) (.slice pa L.length c) (fun _ => rfl) e100_1 (hK _ (Mo.refl _))))
                · exact og_eq (pt bq (oq + 0 * 5)) rfl (fun f wf hq hd K hK => go_run rfl (wo_bin (fun x y => Instr.indexAt 37 x y) (.tmp 54) (.const (.int .i64 (0))) (.slice pa L.length c) (.int .i64 (0)) (pt bq (oq + 0 * 5)) (fun _ => rfl) (hd 0 rfl) rfl (ix37 (i := 0) hpq h0 _) (hK _ (Mo.refl _))))
                · exact og_eq (pt bq (oq + 0 * 5 + 4)) rfl (fun f wf hq hd K hK => go_run rfl (wo_un (fun v => Instr.fieldAt 52 v 4) (.tmp 55) (pt bq (oq + 0 * 5)) (pt bq (oq + 0 * 5 + 4)) (fun _ => rfl) (hd 1 rfl) (by kernel_rfl) (hK _ (Mo.refl _))))
                · exact og_eq (.slice r.pi r.items.length r.ci) rfl (fun f wf hq hd K hK => go_run rfl (wo_load 22 (.tmp 56) (pt bq (oq + 0 * 5 + 4)) (.slice r.pi r.items.length r.ci) rfl (hd 2 rfl) (D.run_oneR (hRq.mo (M.trans hq)).at' 22 4 rfl Try.underlying22 rfl) (hK _ (Mo.refl _))))
                · exact og_eq (pt k2 18) rfl (fun f wf hq hd K hK => go_run rfl (wo_un (fun v => Instr.fieldAt 90 v 2) (.tmp 7) (pt k2 0) (pt k2 18) (fun _ => rfl) e100_7 (by kernel_rfl) (hK _ (Mo.refl _))))
                · exact og_eq (.slice x.pa x.its.length x.cap) rfl (fun f wf hq hd K hK => have Q2 := Q2.mo hq; go_run rfl (wo_load 45 (.tmp 58) (pt k2 18) (.slice x.pa x.its.length x.cap) rfl (hd 4 rfl) (run_one Q2 45 18 rfl Try.underlying45 rfl) (hK _ (Mo.refl _))))
                · exact og_eq (.int .i64 ((i : Nat) : Int)) rfl (fun f wf hq hd K hK => go_run rfl (wo_mv (.tmp 9) (.int .i64 ((i : Nat) : Int)) (fun _ => rfl) e100_i (hK _ (Mo.refl _))))
                · exact og_eq (pt bs (os + i * 1)) rfl (fun f wf hq hd K hK => go_run rfl (wo_bin (fun x y => Instr.indexAt 45 x y) (.tmp 59) (.tmp 60) (.slice x.pa x.its.length x.cap) (.int .i64 ((i : Nat) : Int)) (pt bs (os + i * 1)) (fun _ => rfl) (hd 5 rfl) (hd 6 rfl) (ix45 (i := i) hps hil _) (hK _ (Mo.refl _))))
                · exact og_eq (.string a) rfl (fun f wf hq hd K hK => go_run rfl (wo_load 9 (.tmp 61) (pt bs (os + i * 1)) (.string a) rfl (hd 7 rfl) (D.run_oneR (hRs.mo (M.trans hq)).at' 9 0 rfl Try.underlying9 rfl) (hK _ (Mo.refl _))))
                · exact og_eq (.tuple #[.int .i64 (((ffi (rdP a) r.items).getD 0 : Nat) : Int), .bool true]) rfl (fun f wf hq hd K hK => go_run rfl (wo_call 42 [(.tmp 57), (.tmp 62)] _ [.slice r.pi r.items.length r.ci, .string a] (.tuple #[.int .i64 (((ffi (rdP a) r.items).getD 0 : Nat) : Int), .bool true]) rfl (li2 (hd 3 rfl) (hd 8 rfl)) (fun _ _ => by kernel_rfl) (by have h := rread_n (c := r.ci) (hIt0.kp (M.trans hq).kp) a; rw [hf90] at h; exact h) hK))
                · exact og_eq (.tuple #[.int .i64 (((ffi (rdP a) r.items).getD 0 : Nat) : Int), .bool true]) rfl (fun f wf hq hd K hK => go_run rfl (wo_mv (.tmp 63) (.tuple #[.int .i64 (((ffi (rdP a) r.items).getD 0 : Nat) : Int), .bool true]) (fun _ => rfl) (hd 9 rfl) (hK _ (Mo.refl _))))
                · exact og_eq (.int .i64 (((ffi (rdP a) r.items).getD 0 : Nat) : Int)) rfl (fun f wf hq hd K hK => go_run rfl (wo_un (fun v => Instr.extract v 0) (.tmp 53) (.tuple #[.int .i64 (((ffi (rdP a) r.items).getD 0 : Nat) : Int), .bool true]) (.int .i64 (((ffi (rdP a) r.items).getD 0 : Nat) : Int)) (fun _ => rfl) (hd 10 rfl) (by kernel_rfl) (hK _ (Mo.refl _))))
                · exact og_eq (.bool true) rfl (fun f wf hq hd K hK => go_run rfl (wo_un (fun v => Instr.extract v 1) (.tmp 53) (.tuple #[.int .i64 (((ffi (rdP a) r.items).getD 0 : Nat) : Int), .bool true]) (.bool true) (fun _ => rfl) (hd 10 rfl) (by kernel_rfl) (hK _ (Mo.refl _))))
                · exact og_eq (.int .i64 (((ffi (rdP a) r.items).getD 0 : Nat) : Int)) rfl (fun f wf hq hd K hK => go_run rfl (wo_mv (.tmp 64) (.int .i64 (((ffi (rdP a) r.items).getD 0 : Nat) : Int)) (fun _ => rfl) (hd 11 rfl) (hK _ (Mo.refl _))))
              intro kf101 u101 hq hR hne
              replace Q1 := Q1.mo hq
              replace Q2 := Q2.mo hq
              replace M := M.trans hq
              clear hq hR hne
              refine wl_mv (.tmp 65) (.bool true) (fun _ => rfl) rfl rfl ?_
              refine w_nil ?_
              refine xn_then ?_
              refine w_seq ?_
              obtain ⟨k9, hk9⟩ := Option.isSome_iff_exists.1 hf90
              obtain ⟨y, hy9, _, hkl9⟩ := ffi_some hk9
              have hy : r.items[(ffi (rdP a) r.items).getD 0]? = some y := by rw [hk9]; exact hy9
              have hyl : (ffi (rdP a) r.items).getD 0 < r.items.length := lt_of_get hy
              obtain ⟨bt, ot, hpt, hRt⟩ := D.SL.rw hIt0 hy
              refine w_reg ?_
              refine wl_mv (.tmp 11) (.bool true) (fun _ => rfl) rfl rfl ?_
              refine wl_mv (.tmp 66) (.bool true) (fun _ => rfl) rfl rfl ?_
              refine wl_mv (.tmp 1) (.slice pa L.length c) (fun _ => rfl) e100_1 rfl ?_
              refine wl_bin (fun x y => Instr.indexAt 37 x y) (.tmp 68) (.const (.int .i64 (0))) (.slice pa L.length c) (.int .i64 (0)) (pt bq (oq + 0 * 5)) (fun _ => rfl) rfl rfl (ix37 (i := 0) hpq h0 _) rfl ?_
              refine wl_un (fun v => Instr.fieldAt 52 v 4) (.tmp 69) (pt bq (oq + 0 * 5)) (pt bq (oq + 0 * 5 + 4)) (fun _ => rfl) rfl (by kernel_rfl) rfl ?_
              refine wl_load 22 (.tmp 70) (pt bq (oq + 0 * 5 + 4)) (.slice r.pi r.items.length r.ci) rfl rfl (D.run_oneR (hRq.mo M).at' 22 4 rfl Try.underlying22 rfl) rfl ?_
              refine wl_mv (.tmp 10) (.int .i64 (((ffi (rdP a) r.items).getD 0 : Nat) : Int)) (fun _ => rfl) rfl rfl ?_
              refine wl_bin (fun x y => Instr.indexAt 22 x y) (.tmp 71) (.tmp 72) (.slice r.pi r.items.length r.ci) (.int .i64 (((ffi (rdP a) r.items).getD 0 : Nat) : Int)) (pt bt (ot + (ffi (rdP a) r.items).getD 0 * 23)) (fun _ => rfl) rfl rfl (ix22 (i := (ffi (rdP a) r.items).getD 0) hpt hyl _) rfl ?_
              refine wl_un (fun v => Instr.fieldAt 66 v 1) (.tmp 73) (pt bt (ot + (ffi (rdP a) r.items).getD 0 * 23)) (pt bt (ot + (ffi (rdP a) r.items).getD 0 * 23 + 1)) (fun _ => rfl) rfl (by kernel_rfl) rfl ?_
              refine wl_load 3 (.tmp 74) (pt bt (ot + (ffi (rdP a) r.items).getD 0 * 23 + 1)) (.int .i64 (y.k)) rfl rfl (D.run_oneR (hRt.mo M).at' 3 1 rfl Try.underlying3 rfl) rfl ?_
              cases hf91 : decide (y.k = 1) with
              | true =>
                have hf91p := of_decide_eq_true hf91
                refine wl_bin (fun x y => do eqGuard .eql 3 (.tmp 75) (.const (.int .i64 (1))) x y; binOp .eql 3 x y) (.tmp 75) (.const (.int .i64 (1))) (.int .i64 (y.k)) (.int .i64 (1)) (.bool true) (fun _ => rfl) rfl rfl (eq3 hf91 _ _ _) rfl ?_
                refine wl_pick (.tmp 67) (.tmp 76) (.const (.bool false)) true (.bool true) (fun _ => rfl) rfl rfl rfl ?_
                refine wl_mv (.tmp 77) (.bool true) (fun _ => rfl) rfl rfl ?_
                refine w_nil ?_
                refine xn_then ?_
                refine w_seq ?_
                refine w_seq ?_
                refine w_reg ?_
                refine wl_mv (.tmp 1) (.slice pa L.length c) (fun _ => rfl) e100_1 rfl ?_
                refine wl_un (fun v => Instr.fieldAt 90 v 2) (.tmp 7) (pt k2 0) (pt k2 18) (fun _ => rfl) e100_7 (by kernel_rfl) rfl ?_
                refine wl_load 45 (.tmp 80) (pt k2 18) (.slice x.pa x.its.length x.cap) rfl rfl (run_one Q2 45 18 rfl Try.underlying45 rfl) rfl ?_
                refine wl_mv (.tmp 9) (.int .i64 ((i : Nat) : Int)) (fun _ => rfl) e100_i rfl ?_
                refine wl_bin (fun x y => Instr.indexAt 45 x y) (.tmp 81) (.tmp 82) (.slice x.pa x.its.length x.cap) (.int .i64 ((i : Nat) : Int)) (pt bs (os + i * 1)) (fun _ => rfl) rfl rfl (ix45 (i := i) hps hil _) rfl ?_
                refine wl_load 9 (.tmp 83) (pt bs (os + i * 1)) (.string a) rfl rfl (D.run_oneR (hRs.mo M).at' 9 0 rfl Try.underlying9 rfl) rfl ?_
                cases hf92 : (ffi (kdP 0 a) L).isSome with
                | true =>
                  refine wl_call 15 [(.tmp 79), (.const (.int .i64 (0))), (.tmp 84)] _ [.slice pa L.length c, .int .i64 (0), .string a] (.tuple #[.int .i64 (((ffi (kdP 0 a) L).getD 0 : Nat) : Int), .bool true]) rfl rfl (fun _ _ => by kernel_rfl) (by have h := kid_n (c := c) (hS.kp M.kp) hz 0 a; rw [hf92] at h; exact h) rfl ?_
                  intro u102 hq
                  replace Q1 := Q1.mo hq
                  replace Q2 := Q2.mo hq
                  replace M := M.trans hq
                  clear hq
                  refine wl_mv (.tmp 85) (.tuple #[.int .i64 (((ffi (kdP 0 a) L).getD 0 : Nat) : Int), .bool true]) (fun _ => rfl) rfl rfl ?_
                  refine wl_un (fun v => Instr.extract v 0) (.tmp 78) (.tuple #[.int .i64 (((ffi (kdP 0 a) L).getD 0 : Nat) : Int), .bool true]) (.int .i64 (((ffi (kdP 0 a) L).getD 0 : Nat) : Int)) (fun _ => rfl) rfl (by kernel_rfl) rfl ?_
                  refine wl_un (fun v => Instr.extract v 1) (.tmp 78) (.tuple #[.int .i64 (((ffi (kdP 0 a) L).getD 0 : Nat) : Int), .bool true]) (.bool true) (fun _ => rfl) rfl (by kernel_rfl) rfl ?_
                  refine wl_mv (.tmp 86) (.int .i64 (((ffi (kdP 0 a) L).getD 0 : Nat) : Int)) (fun _ => rfl) rfl rfl ?_
                  refine wl_mv (.tmp 87) (.bool true) (fun _ => rfl) rfl rfl ?_
                  refine w_nil ?_
                  refine xn_then ?_
                  refine w_seq ?_
                  refine w_reg ?_
                  refine wl_mv (.tmp 11) (.bool true) (fun _ => rfl) rfl rfl ?_
                  refine wl_un (fun v => Op.unary .not v) (.tmp 88) (.bool true) (.bool false) (fun _ => rfl) rfl (by kernel_rfl) rfl ?_
                  refine wl_mv (.tmp 89) (.bool false) (fun _ => rfl) rfl rfl ?_
                  refine wl_skip rfl ?_
                  refine wl_skip rfl ?_
                  refine wl_pick (.tmp 90) (.tmp 92) (.const (.bool false)) false (.bool false) (fun _ => rfl) rfl rfl rfl ?_
                  refine w_nil ?_
                  refine xn_then ?_
                  refine w_condF rfl ?_
                  refine w_skip ?_
                  refine xn_then ?_
                  refine w_seq ?_
                  cases hf93 : stD d.pg n i x a with
                  | true =>
                    refine w_any 8 [.inl (.agg (d.cells).toArray), .inl (.int .i64 ((n : Nat) : Int)), .inl (.int .i64 ((i : Nat) : Int)), .inl (pt k2 18), .inl (.slice x.pa x.its.length x.cap), .inl (.int .i64 ((i : Nat) : Int)), .inl (pt bs (os + i * 1)), .inl (.string a)] [] (by kernel_rfl) (by kernel_rfl) (by kernel_rfl) (by kernel_rfl) rfl (by kernel_rfl) (by kernel_rfl) late_nil ?_ ?_ ?_
                    · exact Ds.none rfl
                    · refine ea_cons ?_ (ea_cons ?_ (ea_cons ?_ (ea_cons ?_ (ea_cons ?_ (ea_cons ?_ (ea_cons ?_ (ea_cons ?_ (ea_nil))))))))
                      · exact og_eq (.agg (d.cells).toArray) rfl (fun f wf hq hd K hK => have Q1 := Q1.mo hq; go_run rfl (wo_load 29 (.tmp 3) (pt k1 0) (.agg (d.cells).toArray) rfl e100_3 (run_row Q1 29 0 7 (d.cells) rfl Try.underlying29 rfl sz29) (hK _ (Mo.refl _))))
                      · exact og_eq (.int .i64 ((n : Nat) : Int)) rfl (fun f wf hq hd K hK => go_run rfl (wo_mv (.tmp 2) (.int .i64 ((n : Nat) : Int)) (fun _ => rfl) e100_2 (hK _ (Mo.refl _))))
                      · exact og_eq (.int .i64 ((i : Nat) : Int)) rfl (fun f wf hq hd K hK => go_run rfl (wo_mv (.tmp 9) (.int .i64 ((i : Nat) : Int)) (fun _ => rfl) e100_i (hK _ (Mo.refl _))))
                      · exact og_eq (pt k2 18) rfl (fun f wf hq hd K hK => go_run rfl (wo_un (fun v => Instr.fieldAt 90 v 2) (.tmp 7) (pt k2 0) (pt k2 18) (fun _ => rfl) e100_7 (by kernel_rfl) (hK _ (Mo.refl _))))
                      · exact og_eq (.slice x.pa x.its.length x.cap) rfl (fun f wf hq hd K hK => have Q2 := Q2.mo hq; go_run rfl (wo_load 45 (.tmp 97) (pt k2 18) (.slice x.pa x.its.length x.cap) rfl (hd 3 rfl) (run_one Q2 45 18 rfl Try.underlying45 rfl) (hK _ (Mo.refl _))))
                      · exact og_eq (.int .i64 ((i : Nat) : Int)) rfl (fun f wf hq hd K hK => go_run rfl (wo_mv (.tmp 9) (.int .i64 ((i : Nat) : Int)) (fun _ => rfl) e100_i (hK _ (Mo.refl _))))
                      · exact og_eq (pt bs (os + i * 1)) rfl (fun f wf hq hd K hK => go_run rfl (wo_bin (fun x y => Instr.indexAt 45 x y) (.tmp 98) (.tmp 99) (.slice x.pa x.its.length x.cap) (.int .i64 ((i : Nat) : Int)) (pt bs (os + i * 1)) (fun _ => rfl) (hd 4 rfl) (hd 5 rfl) (ix45 (i := i) hps hil _) (hK _ (Mo.refl _))))
                      · exact og_eq (.string a) rfl (fun f wf hq hd K hK => go_run rfl (wo_load 9 (.tmp 100) (pt bs (os + i * 1)) (.string a) rfl (hd 6 rfl) (D.run_oneR (hRs.mo (M.trans hq)).at' 9 0 rfl Try.underlying9 rfl) (hK _ (Mo.refl _))))
                    intro kf103 u103 hq hR hne
                    replace Q1 := Q1.mo hq
                    replace Q2 := Q2.mo hq
                    replace M := M.trans hq
                    clear hq hR hne
                    refine wl_call 60 [(.tmp 94), (.tmp 95), (.tmp 96), (.tmp 101)] _ [.agg (d.cells).toArray, .int .i64 ((n : Nat) : Int), .int .i64 ((i : Nat) : Int), .string a] (.bool true) rfl rfl (fun _ _ => by kernel_rfl) (cB hf93 (stands_n d (hD.kp M.kp) n i x hx (Nat.le_of_lt hil) a)) rfl ?_
                    intro u104 hq
                    replace Q1 := Q1.mo hq
                    replace Q2 := Q2.mo hq
                    replace M := M.trans hq
                    clear hq
                    refine w_nil ?_
                    refine xn_then ?_
                    refine w_condT rfl ?_
                    refine w_seq ?_
                    refine w_reg ?_
                    refine wl_mv (.const (.int .i64 (5))) (.int .i64 (5)) (fun _ => rfl) rfl rfl ?_
                    refine w_nil ?_
                    refine xn_then ?_
                    refine w_ret ?_
                    refine xr_blk ?_
                    refine xr_then ?_
                    refine xr_then ?_
                    refine xr_blk ?_
                    refine xr_then ?_
                    exact w_ret1 _ (.int .i64 (5)) rfl rfl ⟨by unfold pgF; rw [if_pos hpe]; unfold shR; rw [fs_hit hG (x := 5) ((shG_of ha).trans (by rw [show shE A (shA ((n : Nat) : Int) (pgS d.pg n) x.its i) a = 5 from by unfold shE; rw [(show decide ((lk (A.I 0) a).getD 0 = 1) = true from by rw [← hFl]; unfold fldR; rw [itO_of hr, hf90, hy]; exact hf91), hKd, hf92, st_both, hf93]; first | done | rfl]; rfl)) hil]; rfl, M⟩
                  | false =>
                    refine w_any 8 [.inl (.agg (d.cells).toArray), .inl (.int .i64 ((n : Nat) : Int)), .inl (.int .i64 ((i : Nat) : Int)), .inl (pt k2 18), .inl (.slice x.pa x.its.length x.cap), .inl (.int .i64 ((i : Nat) : Int)), .inl (pt bs (os + i * 1)), .inl (.string a)] [] (by kernel_rfl) (by kernel_rfl) (by kernel_rfl) (by kernel_rfl) rfl (by kernel_rfl) (by kernel_rfl) late_nil ?_ ?_ ?_
                    · exact Ds.none rfl
                    · refine ea_cons ?_ (ea_cons ?_ (ea_cons ?_ (ea_cons ?_ (ea_cons ?_ (ea_cons ?_ (ea_cons ?_ (ea_cons ?_ (ea_nil))))))))
                      · exact og_eq (.agg (d.cells).toArray) rfl (fun f wf hq hd K hK => have Q1 := Q1.mo hq; go_run rfl (wo_load 29 (.tmp 3) (pt k1 0) (.agg (d.cells).toArray) rfl e100_3 (run_row Q1 29 0 7 (d.cells) rfl Try.underlying29 rfl sz29) (hK _ (Mo.refl _))))
                      · exact og_eq (.int .i64 ((n : Nat) : Int)) rfl (fun f wf hq hd K hK => go_run rfl (wo_mv (.tmp 2) (.int .i64 ((n : Nat) : Int)) (fun _ => rfl) e100_2 (hK _ (Mo.refl _))))
                      · exact og_eq (.int .i64 ((i : Nat) : Int)) rfl (fun f wf hq hd K hK => go_run rfl (wo_mv (.tmp 9) (.int .i64 ((i : Nat) : Int)) (fun _ => rfl) e100_i (hK _ (Mo.refl _))))
                      · exact og_eq (pt k2 18) rfl (fun f wf hq hd K hK => go_run rfl (wo_un (fun v => Instr.fieldAt 90 v 2) (.tmp 7) (pt k2 0) (pt k2 18) (fun _ => rfl) e100_7 (by kernel_rfl) (hK _ (Mo.refl _))))
                      · exact og_eq (.slice x.pa x.its.length x.cap) rfl (fun f wf hq hd K hK => have Q2 := Q2.mo hq; go_run rfl (wo_load 45 (.tmp 97) (pt k2 18) (.slice x.pa x.its.length x.cap) rfl (hd 3 rfl) (run_one Q2 45 18 rfl Try.underlying45 rfl) (hK _ (Mo.refl _))))
                      · exact og_eq (.int .i64 ((i : Nat) : Int)) rfl (fun f wf hq hd K hK => go_run rfl (wo_mv (.tmp 9) (.int .i64 ((i : Nat) : Int)) (fun _ => rfl) e100_i (hK _ (Mo.refl _))))
                      · exact og_eq (pt bs (os + i * 1)) rfl (fun f wf hq hd K hK => go_run rfl (wo_bin (fun x y => Instr.indexAt 45 x y) (.tmp 98) (.tmp 99) (.slice x.pa x.its.length x.cap) (.int .i64 ((i : Nat) : Int)) (pt bs (os + i * 1)) (fun _ => rfl) (hd 4 rfl) (hd 5 rfl) (ix45 (i := i) hps hil _) (hK _ (Mo.refl _))))
                      · exact og_eq (.string a) rfl (fun f wf hq hd K hK => go_run rfl (wo_load 9 (.tmp 100) (pt bs (os + i * 1)) (.string a) rfl (hd 6 rfl) (D.run_oneR (hRs.mo (M.trans hq)).at' 9 0 rfl Try.underlying9 rfl) (hK _ (Mo.refl _))))
                    intro kf103 u103 hq hR hne
                    replace Q1 := Q1.mo hq
                    replace Q2 := Q2.mo hq
                    replace M := M.trans hq
                    clear hq hR hne
                    refine wl_call 60 [(.tmp 94), (.tmp 95), (.tmp 96), (.tmp 101)] _ [.agg (d.cells).toArray, .int .i64 ((n : Nat) : Int), .int .i64 ((i : Nat) : Int), .string a] (.bool false) rfl rfl (fun _ _ => by kernel_rfl) (cB hf93 (stands_n d (hD.kp M.kp) n i x hx (Nat.le_of_lt hil) a)) rfl ?_
                    intro u104 hq
                    replace Q1 := Q1.mo hq
                    replace Q2 := Q2.mo hq
                    replace M := M.trans hq
                    clear hq
                    refine w_nil ?_
                    refine xn_then ?_
                    refine w_condF rfl ?_
                    refine w_skip ?_
                    refine xn_blk ?_
                    refine xn_then ?_
                    refine w_reg ?_
                    refine wl_mv (.tmp 9) (.int .i64 ((i : Nat) : Int)) (fun _ => rfl) e100_i rfl ?_
                    refine wl_bin (fun x y => do eqGuard .add 3 (.tmp 51) (.const (.int .i64 (1))) x y; binOp .add 3 x y) (.tmp 51) (.const (.int .i64 (1))) (.int .i64 ((i : Nat) : Int)) (.int .i64 (1)) (.int .i64 ((i + 1 : Nat) : Int)) (fun _ => rfl) rfl rfl (add1r (k := i) (by omega) _ _ _) rfl ?_
                    refine wl_mv (.tmp 52) (.int .i64 ((i + 1 : Nat) : Int)) (fun _ => rfl) rfl rfl ?_
                    refine w_nil ?_
                    exact xn_loop (x.its.length - (i + 1)) (by omega) ⟨i + 1, rfl, by omega, e100_1, e100_2, e100_3, e100_7, rfl, Q1, Q2, fs_step hG ((shG_of ha).trans (by rw [show shE A (shA ((n : Nat) : Int) (pgS d.pg n) x.its i) a = 0 from by unfold shE; rw [(show decide ((lk (A.I 0) a).getD 0 = 1) = true from by rw [← hFl]; unfold fldR; rw [itO_of hr, hf90, hy]; exact hf91), hKd, hf92, st_both, hf93]; first | done | rfl]; rfl)), M⟩
                | false =>
                  refine wl_call 15 [(.tmp 79), (.const (.int .i64 (0))), (.tmp 84)] _ [.slice pa L.length c, .int .i64 (0), .string a] (.tuple #[.int .i64 (((ffi (kdP 0 a) L).getD 0 : Nat) : Int), .bool false]) rfl rfl (fun _ _ => by kernel_rfl) (by have h := kid_n (c := c) (hS.kp M.kp) hz 0 a; rw [hf92] at h; exact h) rfl ?_
                  intro u102 hq
                  replace Q1 := Q1.mo hq
                  replace Q2 := Q2.mo hq
                  replace M := M.trans hq
                  clear hq
                  refine wl_mv (.tmp 85) (.tuple #[.int .i64 (((ffi (kdP 0 a) L).getD 0 : Nat) : Int), .bool false]) (fun _ => rfl) rfl rfl ?_
                  refine wl_un (fun v => Instr.extract v 0) (.tmp 78) (.tuple #[.int .i64 (((ffi (kdP 0 a) L).getD 0 : Nat) : Int), .bool false]) (.int .i64 (((ffi (kdP 0 a) L).getD 0 : Nat) : Int)) (fun _ => rfl) rfl (by kernel_rfl) rfl ?_
                  refine wl_un (fun v => Instr.extract v 1) (.tmp 78) (.tuple #[.int .i64 (((ffi (kdP 0 a) L).getD 0 : Nat) : Int), .bool false]) (.bool false) (fun _ => rfl) rfl (by kernel_rfl) rfl ?_
                  refine wl_mv (.tmp 86) (.int .i64 (((ffi (kdP 0 a) L).getD 0 : Nat) : Int)) (fun _ => rfl) rfl rfl ?_
                  refine wl_mv (.tmp 87) (.bool false) (fun _ => rfl) rfl rfl ?_
                  refine w_nil ?_
                  refine xn_then ?_
                  refine w_seq ?_
                  refine w_reg ?_
                  refine wl_mv (.tmp 11) (.bool true) (fun _ => rfl) rfl rfl ?_
                  refine wl_un (fun v => Op.unary .not v) (.tmp 88) (.bool true) (.bool false) (fun _ => rfl) rfl (by kernel_rfl) rfl ?_
                  refine wl_mv (.tmp 89) (.bool false) (fun _ => rfl) rfl rfl ?_
                  refine wl_skip rfl ?_
                  refine wl_skip rfl ?_
                  refine wl_pick (.tmp 90) (.tmp 92) (.const (.bool false)) false (.bool false) (fun _ => rfl) rfl rfl rfl ?_
                  refine w_nil ?_
                  refine xn_then ?_
                  refine w_condF rfl ?_
                  refine w_skip ?_
                  refine xn_then ?_
                  refine w_seq ?_
                  cases hf93 : stD d.pg n i x a with
                  | true =>
                    refine w_any 8 [.inl (.agg (d.cells).toArray), .inl (.int .i64 ((n : Nat) : Int)), .inl (.int .i64 ((i : Nat) : Int)), .inl (pt k2 18), .inl (.slice x.pa x.its.length x.cap), .inl (.int .i64 ((i : Nat) : Int)), .inl (pt bs (os + i * 1)), .inl (.string a)] [] (by kernel_rfl) (by kernel_rfl) (by kernel_rfl) (by kernel_rfl) rfl (by kernel_rfl) (by kernel_rfl) late_nil ?_ ?_ ?_
                    · exact Ds.none rfl
                    · refine ea_cons ?_ (ea_cons ?_ (ea_cons ?_ (ea_cons ?_ (ea_cons ?_ (ea_cons ?_ (ea_cons ?_ (ea_cons ?_ (ea_nil))))))))
                      · exact og_eq (.agg (d.cells).toArray) rfl (fun f wf hq hd K hK => have Q1 := Q1.mo hq; go_run rfl (wo_load 29 (.tmp 3) (pt k1 0) (.agg (d.cells).toArray) rfl e100_3 (run_row Q1 29 0 7 (d.cells) rfl Try.underlying29 rfl sz29) (hK _ (Mo.refl _))))
                      · exact og_eq (.int .i64 ((n : Nat) : Int)) rfl (fun f wf hq hd K hK => go_run rfl (wo_mv (.tmp 2) (.int .i64 ((n : Nat) : Int)) (fun _ => rfl) e100_2 (hK _ (Mo.refl _))))
                      · exact og_eq (.int .i64 ((i : Nat) : Int)) rfl (fun f wf hq hd K hK => go_run rfl (wo_mv (.tmp 9) (.int .i64 ((i : Nat) : Int)) (fun _ => rfl) e100_i (hK _ (Mo.refl _))))
                      · exact og_eq (pt k2 18) rfl (fun f wf hq hd K hK => go_run rfl (wo_un (fun v => Instr.fieldAt 90 v 2) (.tmp 7) (pt k2 0) (pt k2 18) (fun _ => rfl) e100_7 (by kernel_rfl) (hK _ (Mo.refl _))))
                      · exact og_eq (.slice x.pa x.its.length x.cap) rfl (fun f wf hq hd K hK => have Q2 := Q2.mo hq; go_run rfl (wo_load 45 (.tmp 97) (pt k2 18) (.slice x.pa x.its.length x.cap) rfl (hd 3 rfl) (run_one Q2 45 18 rfl Try.underlying45 rfl) (hK _ (Mo.refl _))))
                      · exact og_eq (.int .i64 ((i : Nat) : Int)) rfl (fun f wf hq hd K hK => go_run rfl (wo_mv (.tmp 9) (.int .i64 ((i : Nat) : Int)) (fun _ => rfl) e100_i (hK _ (Mo.refl _))))
                      · exact og_eq (pt bs (os + i * 1)) rfl (fun f wf hq hd K hK => go_run rfl (wo_bin (fun x y => Instr.indexAt 45 x y) (.tmp 98) (.tmp 99) (.slice x.pa x.its.length x.cap) (.int .i64 ((i : Nat) : Int)) (pt bs (os + i * 1)) (fun _ => rfl) (hd 4 rfl) (hd 5 rfl) (ix45 (i := i) hps hil _) (hK _ (Mo.refl _))))
                      · exact og_eq (.string a) rfl (fun f wf hq hd K hK => go_run rfl (wo_load 9 (.tmp 100) (pt bs (os + i * 1)) (.string a) rfl (hd 6 rfl) (D.run_oneR (hRs.mo (M.trans hq)).at' 9 0 rfl Try.underlying9 rfl) (hK _ (Mo.refl _))))
                    intro kf103 u103 hq hR hne
                    replace Q1 := Q1.mo hq
                    replace Q2 := Q2.mo hq
                    replace M := M.trans hq
                    clear hq hR hne
                    refine wl_call 60 [(.tmp 94), (.tmp 95), (.tmp 96), (.tmp 101)] _ [.agg (d.cells).toArray, .int .i64 ((n : Nat) : Int), .int .i64 ((i : Nat) : Int), .string a] (.bool true) rfl rfl (fun _ _ => by kernel_rfl) (cB hf93 (stands_n d (hD.kp M.kp) n i x hx (Nat.le_of_lt hil) a)) rfl ?_
                    intro u104 hq
                    replace Q1 := Q1.mo hq
                    replace Q2 := Q2.mo hq
                    replace M := M.trans hq
                    clear hq
                    refine w_nil ?_
                    refine xn_then ?_
                    refine w_condT rfl ?_
                    refine w_seq ?_
                    refine w_reg ?_
                    refine wl_mv (.const (.int .i64 (5))) (.int .i64 (5)) (fun _ => rfl) rfl rfl ?_
                    refine w_nil ?_
                    refine xn_then ?_
                    refine w_ret ?_
                    refine xr_blk ?_
                    refine xr_then ?_
                    refine xr_then ?_
                    refine xr_blk ?_
                    refine xr_then ?_
                    exact w_ret1 _ (.int .i64 (5)) rfl rfl ⟨by unfold pgF; rw [if_pos hpe]; unfold shR; rw [fs_hit hG (x := 5) ((shG_of ha).trans (by rw [show shE A (shA ((n : Nat) : Int) (pgS d.pg n) x.its i) a = 5 from by unfold shE; rw [(show decide ((lk (A.I 0) a).getD 0 = 1) = true from by rw [← hFl]; unfold fldR; rw [itO_of hr, hf90, hy]; exact hf91), hKd, hf92, st_both, hf93]; first | done | rfl]; rfl)) hil]; rfl, M⟩
                  | false =>
                    refine w_any 8 [.inl (.agg (d.cells).toArray), .inl (.int .i64 ((n : Nat) : Int)), .inl (.int .i64 ((i : Nat) : Int)), .inl (pt k2 18), .inl (.slice x.pa x.its.length x.cap), .inl (.int .i64 ((i : Nat) : Int)), .inl (pt bs (os + i * 1)), .inl (.string a)] [] (by kernel_rfl) (by kernel_rfl) (by kernel_rfl) (by kernel_rfl) rfl (by kernel_rfl) (by kernel_rfl) late_nil ?_ ?_ ?_
                    · exact Ds.none rfl
                    · refine ea_cons ?_ (ea_cons ?_ (ea_cons ?_ (ea_cons ?_ (ea_cons ?_ (ea_cons ?_ (ea_cons ?_ (ea_cons ?_ (ea_nil))))))))
                      · exact og_eq (.agg (d.cells).toArray) rfl (fun f wf hq hd K hK => have Q1 := Q1.mo hq; go_run rfl (wo_load 29 (.tmp 3) (pt k1 0) (.agg (d.cells).toArray) rfl e100_3 (run_row Q1 29 0 7 (d.cells) rfl Try.underlying29 rfl sz29) (hK _ (Mo.refl _))))
                      · exact og_eq (.int .i64 ((n : Nat) : Int)) rfl (fun f wf hq hd K hK => go_run rfl (wo_mv (.tmp 2) (.int .i64 ((n : Nat) : Int)) (fun _ => rfl) e100_2 (hK _ (Mo.refl _))))
                      · exact og_eq (.int .i64 ((i : Nat) : Int)) rfl (fun f wf hq hd K hK => go_run rfl (wo_mv (.tmp 9) (.int .i64 ((i : Nat) : Int)) (fun _ => rfl) e100_i (hK _ (Mo.refl _))))
                      · exact og_eq (pt k2 18) rfl (fun f wf hq hd K hK => go_run rfl (wo_un (fun v => Instr.fieldAt 90 v 2) (.tmp 7) (pt k2 0) (pt k2 18) (fun _ => rfl) e100_7 (by kernel_rfl) (hK _ (Mo.refl _))))
                      · exact og_eq (.slice x.pa x.its.length x.cap) rfl (fun f wf hq hd K hK => have Q2 := Q2.mo hq; go_run rfl (wo_load 45 (.tmp 97) (pt k2 18) (.slice x.pa x.its.length x.cap) rfl (hd 3 rfl) (run_one Q2 45 18 rfl Try.underlying45 rfl) (hK _ (Mo.refl _))))
                      · exact og_eq (.int .i64 ((i : Nat) : Int)) rfl (fun f wf hq hd K hK => go_run rfl (wo_mv (.tmp 9) (.int .i64 ((i : Nat) : Int)) (fun _ => rfl) e100_i (hK _ (Mo.refl _))))
                      · exact og_eq (pt bs (os + i * 1)) rfl (fun f wf hq hd K hK => go_run rfl (wo_bin (fun x y => Instr.indexAt 45 x y) (.tmp 98) (.tmp 99) (.slice x.pa x.its.length x.cap) (.int .i64 ((i : Nat) : Int)) (pt bs (os + i * 1)) (fun _ => rfl) (hd 4 rfl) (hd 5 rfl) (ix45 (i := i) hps hil _) (hK _ (Mo.refl _))))
                      · exact og_eq (.string a) rfl (fun f wf hq hd K hK => go_run rfl (wo_load 9 (.tmp 100) (pt bs (os + i * 1)) (.string a) rfl (hd 6 rfl) (D.run_oneR (hRs.mo (M.trans hq)).at' 9 0 rfl Try.underlying9 rfl) (hK _ (Mo.refl _))))
                    intro kf103 u103 hq hR hne
                    replace Q1 := Q1.mo hq
                    replace Q2 := Q2.mo hq
                    replace M := M.trans hq
                    clear hq hR hne
                    refine wl_call 60 [(.tmp 94), (.tmp 95), (.tmp 96), (.tmp 101)] _ [.agg (d.cells).toArray, .int .i64 ((n : Nat) : Int), .int .i64 ((i : Nat) : Int), .string a] (.bool false) rfl rfl (fun _ _ => by kernel_rfl) (cB hf93 (stands_n d (hD.kp M.kp) n i x hx (Nat.le_of_lt hil) a)) rfl ?_
                    intro u104 hq
                    replace Q1 := Q1.mo hq
                    replace Q2 := Q2.mo hq
                    replace M := M.trans hq
                    clear hq
                    refine w_nil ?_
                    refine xn_then ?_
                    refine w_condF rfl ?_
                    refine w_skip ?_
                    refine xn_blk ?_
                    refine xn_then ?_
                    refine w_reg ?_
                    refine wl_mv (.tmp 9) (.int .i64 ((i : Nat) : Int)) (fun _ => rfl) e100_i rfl ?_
                    refine wl_bin (fun x y => do eqGuard .add 3 (.tmp 51) (.const (.int .i64 (1))) x y; binOp .add 3 x y) (.tmp 51) (.const (.int .i64 (1))) (.int .i64 ((i : Nat) : Int)) (.int .i64 (1)) (.int .i64 ((i + 1 : Nat) : Int)) (fun _ => rfl) rfl rfl (add1r (k := i) (by omega) _ _ _) rfl ?_
                    refine wl_mv (.tmp 52) (.int .i64 ((i + 1 : Nat) : Int)) (fun _ => rfl) rfl rfl ?_
                    refine w_nil ?_
                    exact xn_loop (x.its.length - (i + 1)) (by omega) ⟨i + 1, rfl, by omega, e100_1, e100_2, e100_3, e100_7, rfl, Q1, Q2, fs_step hG ((shG_of ha).trans (by rw [show shE A (shA ((n : Nat) : Int) (pgS d.pg n) x.its i) a = 0 from by unfold shE; rw [(show decide ((lk (A.I 0) a).getD 0 = 1) = true from by rw [← hFl]; unfold fldR; rw [itO_of hr, hf90, hy]; exact hf91), hKd, hf92, st_both, hf93]; first | done | rfl]; rfl)), M⟩
              | false =>
                have hf91p := of_decide_eq_false hf91
                refine wl_bin (fun x y => do eqGuard .eql 3 (.tmp 75) (.const (.int .i64 (1))) x y; binOp .eql 3 x y) (.tmp 75) (.const (.int .i64 (1))) (.int .i64 (y.k)) (.int .i64 (1)) (.bool false) (fun _ => rfl) rfl rfl (eq3 hf91 _ _ _) rfl ?_
                refine wl_pick (.tmp 67) (.tmp 76) (.const (.bool false)) true (.bool false) (fun _ => rfl) rfl rfl rfl ?_
                refine wl_mv (.tmp 77) (.bool false) (fun _ => rfl) rfl rfl ?_
                refine w_nil ?_
                refine xn_then ?_
                refine w_seq ?_
                refine w_seq ?_
                refine w_reg ?_
                refine wl_mv (.tmp 1) (.slice pa L.length c) (fun _ => rfl) e100_1 rfl ?_
                refine wl_un (fun v => Instr.fieldAt 90 v 2) (.tmp 7) (pt k2 0) (pt k2 18) (fun _ => rfl) e100_7 (by kernel_rfl) rfl ?_
                refine wl_load 45 (.tmp 80) (pt k2 18) (.slice x.pa x.its.length x.cap) rfl rfl (run_one Q2 45 18 rfl Try.underlying45 rfl) rfl ?_
                refine wl_mv (.tmp 9) (.int .i64 ((i : Nat) : Int)) (fun _ => rfl) e100_i rfl ?_
                refine wl_bin (fun x y => Instr.indexAt 45 x y) (.tmp 81) (.tmp 82) (.slice x.pa x.its.length x.cap) (.int .i64 ((i : Nat) : Int)) (pt bs (os + i * 1)) (fun _ => rfl) rfl rfl (ix45 (i := i) hps hil _) rfl ?_
                refine wl_load 9 (.tmp 83) (pt bs (os + i * 1)) (.string a) rfl rfl (D.run_oneR (hRs.mo M).at' 9 0 rfl Try.underlying9 rfl) rfl ?_
                cases hf92 : (ffi (kdP 0 a) L).isSome with
                | true =>
                  refine wl_call 15 [(.tmp 79), (.const (.int .i64 (0))), (.tmp 84)] _ [.slice pa L.length c, .int .i64 (0), .string a] (.tuple #[.int .i64 (((ffi (kdP 0 a) L).getD 0 : Nat) : Int), .bool true]) rfl rfl (fun _ _ => by kernel_rfl) (by have h := kid_n (c := c) (hS.kp M.kp) hz 0 a; rw [hf92] at h; exact h) rfl ?_
                  intro u102 hq
                  replace Q1 := Q1.mo hq
                  replace Q2 := Q2.mo hq
                  replace M := M.trans hq
                  clear hq
                  refine wl_mv (.tmp 85) (.tuple #[.int .i64 (((ffi (kdP 0 a) L).getD 0 : Nat) : Int), .bool true]) (fun _ => rfl) rfl rfl ?_
                  refine wl_un (fun v => Instr.extract v 0) (.tmp 78) (.tuple #[.int .i64 (((ffi (kdP 0 a) L).getD 0 : Nat) : Int), .bool true]) (.int .i64 (((ffi (kdP 0 a) L).getD 0 : Nat) : Int)) (fun _ => rfl) rfl (by kernel_rfl) rfl ?_
                  refine wl_un (fun v => Instr.extract v 1) (.tmp 78) (.tuple #[.int .i64 (((ffi (kdP 0 a) L).getD 0 : Nat) : Int), .bool true]) (.bool true) (fun _ => rfl) rfl (by kernel_rfl) rfl ?_
                  refine wl_mv (.tmp 86) (.int .i64 (((ffi (kdP 0 a) L).getD 0 : Nat) : Int)) (fun _ => rfl) rfl rfl ?_
                  refine wl_mv (.tmp 87) (.bool true) (fun _ => rfl) rfl rfl ?_
                  refine w_nil ?_
                  refine xn_then ?_
                  refine w_seq ?_
                  refine w_reg ?_
                  refine wl_mv (.tmp 11) (.bool false) (fun _ => rfl) rfl rfl ?_
                  refine wl_un (fun v => Op.unary .not v) (.tmp 88) (.bool false) (.bool true) (fun _ => rfl) rfl (by kernel_rfl) rfl ?_
                  refine wl_mv (.tmp 89) (.bool true) (fun _ => rfl) rfl rfl ?_
                  refine wl_mv (.tmp 13) (.bool true) (fun _ => rfl) rfl rfl ?_
                  refine wl_un (fun v => Op.unary .not v) (.tmp 91) (.bool true) (.bool false) (fun _ => rfl) rfl (by kernel_rfl) rfl ?_
                  refine wl_pick (.tmp 90) (.tmp 92) (.const (.bool false)) true (.bool false) (fun _ => rfl) rfl rfl rfl ?_
                  refine w_nil ?_
                  refine xn_then ?_
                  refine w_condF rfl ?_
                  refine w_skip ?_
                  refine xn_then ?_
                  refine w_seq ?_
                  cases hf93 : stD d.pg n i x a with
                  | true =>
                    refine w_any 8 [.inl (.agg (d.cells).toArray), .inl (.int .i64 ((n : Nat) : Int)), .inl (.int .i64 ((i : Nat) : Int)), .inl (pt k2 18), .inl (.slice x.pa x.its.length x.cap), .inl (.int .i64 ((i : Nat) : Int)), .inl (pt bs (os + i * 1)), .inl (.string a)] [] (by kernel_rfl) (by kernel_rfl) (by kernel_rfl) (by kernel_rfl) rfl (by kernel_rfl) (by kernel_rfl) late_nil ?_ ?_ ?_
                    · exact Ds.none rfl
                    · refine ea_cons ?_ (ea_cons ?_ (ea_cons ?_ (ea_cons ?_ (ea_cons ?_ (ea_cons ?_ (ea_cons ?_ (ea_cons ?_ (ea_nil))))))))
                      · exact og_eq (.agg (d.cells).toArray) rfl (fun f wf hq hd K hK => have Q1 := Q1.mo hq; go_run rfl (wo_load 29 (.tmp 3) (pt k1 0) (.agg (d.cells).toArray) rfl e100_3 (run_row Q1 29 0 7 (d.cells) rfl Try.underlying29 rfl sz29) (hK _ (Mo.refl _))))
                      · exact og_eq (.int .i64 ((n : Nat) : Int)) rfl (fun f wf hq hd K hK => go_run rfl (wo_mv (.tmp 2) (.int .i64 ((n : Nat) : Int)) (fun _ => rfl) e100_2 (hK _ (Mo.refl _))))
                      · exact og_eq (.int .i64 ((i : Nat) : Int)) rfl (fun f wf hq hd K hK => go_run rfl (wo_mv (.tmp 9) (.int .i64 ((i : Nat) : Int)) (fun _ => rfl) e100_i (hK _ (Mo.refl _))))
                      · exact og_eq (pt k2 18) rfl (fun f wf hq hd K hK => go_run rfl (wo_un (fun v => Instr.fieldAt 90 v 2) (.tmp 7) (pt k2 0) (pt k2 18) (fun _ => rfl) e100_7 (by kernel_rfl) (hK _ (Mo.refl _))))
                      · exact og_eq (.slice x.pa x.its.length x.cap) rfl (fun f wf hq hd K hK => have Q2 := Q2.mo hq; go_run rfl (wo_load 45 (.tmp 97) (pt k2 18) (.slice x.pa x.its.length x.cap) rfl (hd 3 rfl) (run_one Q2 45 18 rfl Try.underlying45 rfl) (hK _ (Mo.refl _))))
                      · exact og_eq (.int .i64 ((i : Nat) : Int)) rfl (fun f wf hq hd K hK => go_run rfl (wo_mv (.tmp 9) (.int .i64 ((i : Nat) : Int)) (fun _ => rfl) e100_i (hK _ (Mo.refl _))))
                      · exact og_eq (pt bs (os + i * 1)) rfl (fun f wf hq hd K hK => go_run rfl (wo_bin (fun x y => Instr.indexAt 45 x y) (.tmp 98) (.tmp 99) (.slice x.pa x.its.length x.cap) (.int .i64 ((i : Nat) : Int)) (pt bs (os + i * 1)) (fun _ => rfl) (hd 4 rfl) (hd 5 rfl) (ix45 (i := i) hps hil _) (hK _ (Mo.refl _))))
                      · exact og_eq (.string a) rfl (fun f wf hq hd K hK => go_run rfl (wo_load 9 (.tmp 100) (pt bs (os + i * 1)) (.string a) rfl (hd 6 rfl) (D.run_oneR (hRs.mo (M.trans hq)).at' 9 0 rfl Try.underlying9 rfl) (hK _ (Mo.refl _))))
                    intro kf103 u103 hq hR hne
                    replace Q1 := Q1.mo hq
                    replace Q2 := Q2.mo hq
                    replace M := M.trans hq
                    clear hq hR hne
                    refine wl_call 60 [(.tmp 94), (.tmp 95), (.tmp 96), (.tmp 101)] _ [.agg (d.cells).toArray, .int .i64 ((n : Nat) : Int), .int .i64 ((i : Nat) : Int), .string a] (.bool true) rfl rfl (fun _ _ => by kernel_rfl) (cB hf93 (stands_n d (hD.kp M.kp) n i x hx (Nat.le_of_lt hil) a)) rfl ?_
                    intro u104 hq
                    replace Q1 := Q1.mo hq
                    replace Q2 := Q2.mo hq
                    replace M := M.trans hq
                    clear hq
                    refine w_nil ?_
                    refine xn_then ?_
                    refine w_condT rfl ?_
                    refine w_seq ?_
                    refine w_reg ?_
                    refine wl_mv (.const (.int .i64 (5))) (.int .i64 (5)) (fun _ => rfl) rfl rfl ?_
                    refine w_nil ?_
                    refine xn_then ?_
                    refine w_ret ?_
                    refine xr_blk ?_
                    refine xr_then ?_
                    refine xr_then ?_
                    refine xr_blk ?_
                    refine xr_then ?_
                    exact w_ret1 _ (.int .i64 (5)) rfl rfl ⟨by unfold pgF; rw [if_pos hpe]; unfold shR; rw [fs_hit hG (x := 5) ((shG_of ha).trans (by rw [show shE A (shA ((n : Nat) : Int) (pgS d.pg n) x.its i) a = 5 from by unfold shE; rw [(show decide ((lk (A.I 0) a).getD 0 = 1) = false from by rw [← hFl]; unfold fldR; rw [itO_of hr, hf90, hy]; exact hf91), hKd, hf92, st_both, hf93]; first | done | rfl]; rfl)) hil]; rfl, M⟩
                  | false =>
                    refine w_any 8 [.inl (.agg (d.cells).toArray), .inl (.int .i64 ((n : Nat) : Int)), .inl (.int .i64 ((i : Nat) : Int)), .inl (pt k2 18), .inl (.slice x.pa x.its.length x.cap), .inl (.int .i64 ((i : Nat) : Int)), .inl (pt bs (os + i * 1)), .inl (.string a)] [] (by kernel_rfl) (by kernel_rfl) (by kernel_rfl) (by kernel_rfl) rfl (by kernel_rfl) (by kernel_rfl) late_nil ?_ ?_ ?_
                    · exact Ds.none rfl
                    · refine ea_cons ?_ (ea_cons ?_ (ea_cons ?_ (ea_cons ?_ (ea_cons ?_ (ea_cons ?_ (ea_cons ?_ (ea_cons ?_ (ea_nil))))))))
                      · exact og_eq (.agg (d.cells).toArray) rfl (fun f wf hq hd K hK => have Q1 := Q1.mo hq; go_run rfl (wo_load 29 (.tmp 3) (pt k1 0) (.agg (d.cells).toArray) rfl e100_3 (run_row Q1 29 0 7 (d.cells) rfl Try.underlying29 rfl sz29) (hK _ (Mo.refl _))))
                      · exact og_eq (.int .i64 ((n : Nat) : Int)) rfl (fun f wf hq hd K hK => go_run rfl (wo_mv (.tmp 2) (.int .i64 ((n : Nat) : Int)) (fun _ => rfl) e100_2 (hK _ (Mo.refl _))))
                      · exact og_eq (.int .i64 ((i : Nat) : Int)) rfl (fun f wf hq hd K hK => go_run rfl (wo_mv (.tmp 9) (.int .i64 ((i : Nat) : Int)) (fun _ => rfl) e100_i (hK _ (Mo.refl _))))
                      · exact og_eq (pt k2 18) rfl (fun f wf hq hd K hK => go_run rfl (wo_un (fun v => Instr.fieldAt 90 v 2) (.tmp 7) (pt k2 0) (pt k2 18) (fun _ => rfl) e100_7 (by kernel_rfl) (hK _ (Mo.refl _))))
                      · exact og_eq (.slice x.pa x.its.length x.cap) rfl (fun f wf hq hd K hK => have Q2 := Q2.mo hq; go_run rfl (wo_load 45 (.tmp 97) (pt k2 18) (.slice x.pa x.its.length x.cap) rfl (hd 3 rfl) (run_one Q2 45 18 rfl Try.underlying45 rfl) (hK _ (Mo.refl _))))
                      · exact og_eq (.int .i64 ((i : Nat) : Int)) rfl (fun f wf hq hd K hK => go_run rfl (wo_mv (.tmp 9) (.int .i64 ((i : Nat) : Int)) (fun _ => rfl) e100_i (hK _ (Mo.refl _))))
                      · exact og_eq (pt bs (os + i * 1)) rfl (fun f wf hq hd K hK => go_run rfl (wo_bin (fun x y => Instr.indexAt 45 x y) (.tmp 98) (.tmp 99) (.slice x.pa x.its.length x.cap) (.int .i64 ((i : Nat) : Int)) (pt bs (os + i * 1)) (fun _ => rfl) (hd 4 rfl) (hd 5 rfl) (ix45 (i := i) hps hil _) (hK _ (Mo.refl _))))
                      · exact og_eq (.string a) rfl (fun f wf hq hd K hK => go_run rfl (wo_load 9 (.tmp 100) (pt bs (os + i * 1)) (.string a) rfl (hd 6 rfl) (D.run_oneR (hRs.mo (M.trans hq)).at' 9 0 rfl Try.underlying9 rfl) (hK _ (Mo.refl _))))
                    intro kf103 u103 hq hR hne
                    replace Q1 := Q1.mo hq
                    replace Q2 := Q2.mo hq
                    replace M := M.trans hq
                    clear hq hR hne
                    refine wl_call 60 [(.tmp 94), (.tmp 95), (.tmp 96), (.tmp 101)] _ [.agg (d.cells).toArray, .int .i64 ((n : Nat) : Int), .int .i64 ((i : Nat) : Int), .string a] (.bool false) rfl rfl (fun _ _ => by kernel_rfl) (cB hf93 (stands_n d (hD.kp M.kp) n i x hx (Nat.le_of_lt hil) a)) rfl ?_
                    intro u104 hq
                    replace Q1 := Q1.mo hq
                    replace Q2 := Q2.mo hq
                    replace M := M.trans hq
                    clear hq
                    refine w_nil ?_
                    refine xn_then ?_
                    refine w_condF rfl ?_
                    refine w_skip ?_
                    refine xn_blk ?_
                    refine xn_then ?_
                    refine w_reg ?_
                    refine wl_mv (.tmp 9) (.int .i64 ((i : Nat) : Int)) (fun _ => rfl) e100_i rfl ?_
                    refine wl_bin (fun x y => do eqGuard .add 3 (.tmp 51) (.const (.int .i64 (1))) x y; binOp .add 3 x y) (.tmp 51) (.const (.int .i64 (1))) (.int .i64 ((i : Nat) : Int)) (.int .i64 (1)) (.int .i64 ((i + 1 : Nat) : Int)) (fun _ => rfl) rfl rfl (add1r (k := i) (by omega) _ _ _) rfl ?_
                    refine wl_mv (.tmp 52) (.int .i64 ((i + 1 : Nat) : Int)) (fun _ => rfl) rfl rfl ?_
                    refine w_nil ?_
                    exact xn_loop (x.its.length - (i + 1)) (by omega) ⟨i + 1, rfl, by omega, e100_1, e100_2, e100_3, e100_7, rfl, Q1, Q2, fs_step hG ((shG_of ha).trans (by rw [show shE A (shA ((n : Nat) : Int) (pgS d.pg n) x.its i) a = 0 from by unfold shE; rw [(show decide ((lk (A.I 0) a).getD 0 = 1) = false from by rw [← hFl]; unfold fldR; rw [itO_of hr, hf90, hy]; exact hf91), hKd, hf92, st_both, hf93]; first | done | rfl]; rfl)), M⟩
                | false =>
                  refine wl_call 15 [(.tmp 79), (.const (.int .i64 (0))), (.tmp 84)] _ [.slice pa L.length c, .int .i64 (0), .string a] (.tuple #[.int .i64 (((ffi (kdP 0 a) L).getD 0 : Nat) : Int), .bool false]) rfl rfl (fun _ _ => by kernel_rfl) (by have h := kid_n (c := c) (hS.kp M.kp) hz 0 a; rw [hf92] at h; exact h) rfl ?_
                  intro u102 hq
                  replace Q1 := Q1.mo hq
                  replace Q2 := Q2.mo hq
                  replace M := M.trans hq
                  clear hq
                  refine wl_mv (.tmp 85) (.tuple #[.int .i64 (((ffi (kdP 0 a) L).getD 0 : Nat) : Int), .bool false]) (fun _ => rfl) rfl rfl ?_
                  refine wl_un (fun v => Instr.extract v 0) (.tmp 78) (.tuple #[.int .i64 (((ffi (kdP 0 a) L).getD 0 : Nat) : Int), .bool false]) (.int .i64 (((ffi (kdP 0 a) L).getD 0 : Nat) : Int)) (fun _ => rfl) rfl (by kernel_rfl) rfl ?_
                  refine wl_un (fun v => Instr.extract v 1) (.tmp 78) (.tuple #[.int .i64 (((ffi (kdP 0 a) L).getD 0 : Nat) : Int), .bool false]) (.bool false) (fun _ => rfl) rfl (by kernel_rfl) rfl ?_
                  refine wl_mv (.tmp 86) (.int .i64 (((ffi (kdP 0 a) L).getD 0 : Nat) : Int)) (fun _ => rfl) rfl rfl ?_
                  refine wl_mv (.tmp 87) (.bool false) (fun _ => rfl) rfl rfl ?_
                  refine w_nil ?_
                  refine xn_then ?_
                  refine w_seq ?_
                  refine w_reg ?_
                  refine wl_mv (.tmp 11) (.bool false) (fun _ => rfl) rfl rfl ?_
                  refine wl_un (fun v => Op.unary .not v) (.tmp 88) (.bool false) (.bool true) (fun _ => rfl) rfl (by kernel_rfl) rfl ?_
                  refine wl_mv (.tmp 89) (.bool true) (fun _ => rfl) rfl rfl ?_
                  refine wl_mv (.tmp 13) (.bool false) (fun _ => rfl) rfl rfl ?_
                  refine wl_un (fun v => Op.unary .not v) (.tmp 91) (.bool false) (.bool true) (fun _ => rfl) rfl (by kernel_rfl) rfl ?_
                  refine wl_pick (.tmp 90) (.tmp 92) (.const (.bool false)) true (.bool true) (fun _ => rfl) rfl rfl rfl ?_
                  refine w_nil ?_
                  refine xn_then ?_
                  refine w_condT rfl ?_
                  refine w_seq ?_
                  refine w_reg ?_
                  refine wl_mv (.const (.int .i64 (91))) (.int .i64 (91)) (fun _ => rfl) rfl rfl ?_
                  refine w_nil ?_
                  refine xn_then ?_
                  refine w_ret ?_
                  refine xr_then ?_
                  refine xr_blk ?_
                  refine xr_then ?_
                  refine xr_then ?_
                  refine xr_blk ?_
                  refine xr_then ?_
                  exact w_ret1 _ (.int .i64 (91)) rfl rfl ⟨by unfold pgF; rw [if_pos hpe]; unfold shR; rw [fs_hit hG (x := 91) ((shG_of ha).trans (by rw [show shE A (shA ((n : Nat) : Int) (pgS d.pg n) x.its i) a = 91 from by unfold shE; rw [(show decide ((lk (A.I 0) a).getD 0 = 1) = false from by rw [← hFl]; unfold fldR; rw [itO_of hr, hf90, hy]; exact hf91), hKd, hf92]; first | done | rfl]; rfl)) hil]; rfl, M⟩
            | false =>
              refine w_any 14 [.inl (.slice pa L.length c), .inl (pt bq (oq + 0 * 5)), .inl (pt bq (oq + 0 * 5 + 4)), .inl (.slice r.pi r.items.length r.ci), .inl (pt k2 18), .inl (.slice x.pa x.its.length x.cap), .inl (.int .i64 ((i : Nat) : Int)), .inl (pt bs (os + i * 1)), .inl (.string a), .inl (.tuple #[.int .i64 (((ffi (rdP a) r.items).getD 0 : Nat) : Int), .bool false]), .inl (.tuple #[.int .i64 (((ffi (rdP a) r.items).getD 0 : Nat) : Int), .bool false]), .inl (.int .i64 (((ffi (rdP a) r.items).getD 0 : Nat) : Int)), .inl (.bool false), .inl (.int .i64 (((ffi (rdP a) r.items).getD 0 : Nat) : Int))] [] (by kernel_rfl) (by kernel_rfl) (by kernel_rfl) (by kernel_rfl) rfl (by kernel_rfl) (by kernel_rfl) late_nil ?_ ?_ ?_
              · exact Ds.none rfl
              · refine ea_cons ?_ (ea_cons ?_ (ea_cons ?_ (ea_cons ?_ (ea_cons ?_ (ea_cons ?_ (ea_cons ?_ (ea_cons ?_ (ea_cons ?_ (ea_cons ?_ (ea_cons ?_ (ea_cons ?_ (ea_cons ?_ (ea_cons ?_ (ea_nil))))))))))))))
                · exact og_eq (.slice pa L.length c) rfl (fun f wf hq hd K hK => go_run rfl (wo_mv (.tmp 1) (.slice pa L.length c) (fun _ => rfl) e100_1 (hK _ (Mo.refl _))))
                · exact og_eq (pt bq (oq + 0 * 5)) rfl (fun f wf hq hd K hK => go_run rfl (wo_bin (fun x y => Instr.indexAt 37 x y) (.tmp 54) (.const (.int .i64 (0))) (.slice pa L.length c) (.int .i64 (0)) (pt bq (oq + 0 * 5)) (fun _ => rfl) (hd 0 rfl) rfl (ix37 (i := 0) hpq h0 _) (hK _ (Mo.refl _))))
                · exact og_eq (pt bq (oq + 0 * 5 + 4)) rfl (fun f wf hq hd K hK => go_run rfl (wo_un (fun v => Instr.fieldAt 52 v 4) (.tmp 55) (pt bq (oq + 0 * 5)) (pt bq (oq + 0 * 5 + 4)) (fun _ => rfl) (hd 1 rfl) (by kernel_rfl) (hK _ (Mo.refl _))))
                · exact og_eq (.slice r.pi r.items.length r.ci) rfl (fun f wf hq hd K hK => go_run rfl (wo_load 22 (.tmp 56) (pt bq (oq + 0 * 5 + 4)) (.slice r.pi r.items.length r.ci) rfl (hd 2 rfl) (D.run_oneR (hRq.mo (M.trans hq)).at' 22 4 rfl Try.underlying22 rfl) (hK _ (Mo.refl _))))
                · exact og_eq (pt k2 18) rfl (fun f wf hq hd K hK => go_run rfl (wo_un (fun v => Instr.fieldAt 90 v 2) (.tmp 7) (pt k2 0) (pt k2 18) (fun _ => rfl) e100_7 (by kernel_rfl) (hK _ (Mo.refl _))))
                · exact og_eq (.slice x.pa x.its.length x.cap) rfl (fun f wf hq hd K hK => have Q2 := Q2.mo hq; go_run rfl (wo_load 45 (.tmp 58) (pt k2 18) (.slice x.pa x.its.length x.cap) rfl (hd 4 rfl) (run_one Q2 45 18 rfl Try.underlying45 rfl) (hK _ (Mo.refl _))))
                · exact og_eq (.int .i64 ((i : Nat) : Int)) rfl (fun f wf hq hd K hK => go_run rfl (wo_mv (.tmp 9) (.int .i64 ((i : Nat) : Int)) (fun _ => rfl) e100_i (hK _ (Mo.refl _))))
                · exact og_eq (pt bs (os + i * 1)) rfl (fun f wf hq hd K hK => go_run rfl (wo_bin (fun x y => Instr.indexAt 45 x y) (.tmp 59) (.tmp 60) (.slice x.pa x.its.length x.cap) (.int .i64 ((i : Nat) : Int)) (pt bs (os + i * 1)) (fun _ => rfl) (hd 5 rfl) (hd 6 rfl) (ix45 (i := i) hps hil _) (hK _ (Mo.refl _))))
                · exact og_eq (.string a) rfl (fun f wf hq hd K hK => go_run rfl (wo_load 9 (.tmp 61) (pt bs (os + i * 1)) (.string a) rfl (hd 7 rfl) (D.run_oneR (hRs.mo (M.trans hq)).at' 9 0 rfl Try.underlying9 rfl) (hK _ (Mo.refl _))))
                · exact og_eq (.tuple #[.int .i64 (((ffi (rdP a) r.items).getD 0 : Nat) : Int), .bool false]) rfl (fun f wf hq hd K hK => go_run rfl (wo_call 42 [(.tmp 57), (.tmp 62)] _ [.slice r.pi r.items.length r.ci, .string a] (.tuple #[.int .i64 (((ffi (rdP a) r.items).getD 0 : Nat) : Int), .bool false]) rfl (li2 (hd 3 rfl) (hd 8 rfl)) (fun _ _ => by kernel_rfl) (by have h := rread_n (c := r.ci) (hIt0.kp (M.trans hq).kp) a; rw [hf90] at h; exact h) hK))
                · exact og_eq (.tuple #[.int .i64 (((ffi (rdP a) r.items).getD 0 : Nat) : Int), .bool false]) rfl (fun f wf hq hd K hK => go_run rfl (wo_mv (.tmp 63) (.tuple #[.int .i64 (((ffi (rdP a) r.items).getD 0 : Nat) : Int), .bool false]) (fun _ => rfl) (hd 9 rfl) (hK _ (Mo.refl _))))
                · exact og_eq (.int .i64 (((ffi (rdP a) r.items).getD 0 : Nat) : Int)) rfl (fun f wf hq hd K hK => go_run rfl (wo_un (fun v => Instr.extract v 0) (.tmp 53) (.tuple #[.int .i64 (((ffi (rdP a) r.items).getD 0 : Nat) : Int), .bool false]) (.int .i64 (((ffi (rdP a) r.items).getD 0 : Nat) : Int)) (fun _ => rfl) (hd 10 rfl) (by kernel_rfl) (hK _ (Mo.refl _))))
                · exact og_eq (.bool false) rfl (fun f wf hq hd K hK => go_run rfl (wo_un (fun v => Instr.extract v 1) (.tmp 53) (.tuple #[.int .i64 (((ffi (rdP a) r.items).getD 0 : Nat) : Int), .bool false]) (.bool false) (fun _ => rfl) (hd 10 rfl) (by kernel_rfl) (hK _ (Mo.refl _))))
                · exact og_eq (.int .i64 (((ffi (rdP a) r.items).getD 0 : Nat) : Int)) rfl (fun f wf hq hd K hK => go_run rfl (wo_mv (.tmp 64) (.int .i64 (((ffi (rdP a) r.items).getD 0 : Nat) : Int)) (fun _ => rfl) (hd 11 rfl) (hK _ (Mo.refl _))))
              intro kf101 u101 hq hR hne
              replace Q1 := Q1.mo hq
              replace Q2 := Q2.mo hq
              replace M := M.trans hq
              clear hq hR hne
              refine wl_mv (.tmp 65) (.bool false) (fun _ => rfl) rfl rfl ?_
              refine w_nil ?_
              refine xn_then ?_
              refine w_seq ?_
              refine w_reg ?_
              refine wl_mv (.tmp 11) (.bool false) (fun _ => rfl) rfl rfl ?_
              refine wl_mv (.tmp 66) (.bool false) (fun _ => rfl) rfl rfl ?_
              refine wl_skip rfl ?_
              refine wl_skip rfl ?_
              refine wl_skip rfl ?_
              refine wl_skip rfl ?_
              refine wl_skip rfl ?_
              refine wl_skip rfl ?_
              refine wl_skip rfl ?_
              refine wl_skip rfl ?_
              refine wl_skip rfl ?_
              refine wl_pick (.tmp 67) (.tmp 76) (.const (.bool false)) false (.bool false) (fun _ => rfl) rfl rfl rfl ?_
              refine wl_mv (.tmp 77) (.bool false) (fun _ => rfl) rfl rfl ?_
              refine w_nil ?_
              refine xn_then ?_
              refine w_seq ?_
              refine w_seq ?_
              refine w_reg ?_
              refine wl_mv (.tmp 1) (.slice pa L.length c) (fun _ => rfl) e100_1 rfl ?_
              refine wl_un (fun v => Instr.fieldAt 90 v 2) (.tmp 7) (pt k2 0) (pt k2 18) (fun _ => rfl) e100_7 (by kernel_rfl) rfl ?_
              refine wl_load 45 (.tmp 80) (pt k2 18) (.slice x.pa x.its.length x.cap) rfl rfl (run_one Q2 45 18 rfl Try.underlying45 rfl) rfl ?_
              refine wl_mv (.tmp 9) (.int .i64 ((i : Nat) : Int)) (fun _ => rfl) e100_i rfl ?_
              refine wl_bin (fun x y => Instr.indexAt 45 x y) (.tmp 81) (.tmp 82) (.slice x.pa x.its.length x.cap) (.int .i64 ((i : Nat) : Int)) (pt bs (os + i * 1)) (fun _ => rfl) rfl rfl (ix45 (i := i) hps hil _) rfl ?_
              refine wl_load 9 (.tmp 83) (pt bs (os + i * 1)) (.string a) rfl rfl (D.run_oneR (hRs.mo M).at' 9 0 rfl Try.underlying9 rfl) rfl ?_
              cases hf91 : (ffi (kdP 0 a) L).isSome with
              | true =>
                refine wl_call 15 [(.tmp 79), (.const (.int .i64 (0))), (.tmp 84)] _ [.slice pa L.length c, .int .i64 (0), .string a] (.tuple #[.int .i64 (((ffi (kdP 0 a) L).getD 0 : Nat) : Int), .bool true]) rfl rfl (fun _ _ => by kernel_rfl) (by have h := kid_n (c := c) (hS.kp M.kp) hz 0 a; rw [hf91] at h; exact h) rfl ?_
                intro u102 hq
                replace Q1 := Q1.mo hq
                replace Q2 := Q2.mo hq
                replace M := M.trans hq
                clear hq
                refine wl_mv (.tmp 85) (.tuple #[.int .i64 (((ffi (kdP 0 a) L).getD 0 : Nat) : Int), .bool true]) (fun _ => rfl) rfl rfl ?_
                refine wl_un (fun v => Instr.extract v 0) (.tmp 78) (.tuple #[.int .i64 (((ffi (kdP 0 a) L).getD 0 : Nat) : Int), .bool true]) (.int .i64 (((ffi (kdP 0 a) L).getD 0 : Nat) : Int)) (fun _ => rfl) rfl (by kernel_rfl) rfl ?_
                refine wl_un (fun v => Instr.extract v 1) (.tmp 78) (.tuple #[.int .i64 (((ffi (kdP 0 a) L).getD 0 : Nat) : Int), .bool true]) (.bool true) (fun _ => rfl) rfl (by kernel_rfl) rfl ?_
                refine wl_mv (.tmp 86) (.int .i64 (((ffi (kdP 0 a) L).getD 0 : Nat) : Int)) (fun _ => rfl) rfl rfl ?_
                refine wl_mv (.tmp 87) (.bool true) (fun _ => rfl) rfl rfl ?_
                refine w_nil ?_
                refine xn_then ?_
                refine w_seq ?_
                refine w_reg ?_
                refine wl_mv (.tmp 11) (.bool false) (fun _ => rfl) rfl rfl ?_
                refine wl_un (fun v => Op.unary .not v) (.tmp 88) (.bool false) (.bool true) (fun _ => rfl) rfl (by kernel_rfl) rfl ?_
                refine wl_mv (.tmp 89) (.bool true) (fun _ => rfl) rfl rfl ?_
                refine wl_mv (.tmp 13) (.bool true) (fun _ => rfl) rfl rfl ?_
                refine wl_un (fun v => Op.unary .not v) (.tmp 91) (.bool true) (.bool false) (fun _ => rfl) rfl (by kernel_rfl) rfl ?_
                refine wl_pick (.tmp 90) (.tmp 92) (.const (.bool false)) true (.bool false) (fun _ => rfl) rfl rfl rfl ?_
                refine w_nil ?_
                refine xn_then ?_
                refine w_condF rfl ?_
                refine w_skip ?_
                refine xn_then ?_
                refine w_seq ?_
                cases hf92 : stD d.pg n i x a with
                | true =>
                  refine w_any 8 [.inl (.agg (d.cells).toArray), .inl (.int .i64 ((n : Nat) : Int)), .inl (.int .i64 ((i : Nat) : Int)), .inl (pt k2 18), .inl (.slice x.pa x.its.length x.cap), .inl (.int .i64 ((i : Nat) : Int)), .inl (pt bs (os + i * 1)), .inl (.string a)] [] (by kernel_rfl) (by kernel_rfl) (by kernel_rfl) (by kernel_rfl) rfl (by kernel_rfl) (by kernel_rfl) late_nil ?_ ?_ ?_
                  · exact Ds.none rfl
                  · refine ea_cons ?_ (ea_cons ?_ (ea_cons ?_ (ea_cons ?_ (ea_cons ?_ (ea_cons ?_ (ea_cons ?_ (ea_cons ?_ (ea_nil))))))))
                    · exact og_eq (.agg (d.cells).toArray) rfl (fun f wf hq hd K hK => have Q1 := Q1.mo hq; go_run rfl (wo_load 29 (.tmp 3) (pt k1 0) (.agg (d.cells).toArray) rfl e100_3 (run_row Q1 29 0 7 (d.cells) rfl Try.underlying29 rfl sz29) (hK _ (Mo.refl _))))
                    · exact og_eq (.int .i64 ((n : Nat) : Int)) rfl (fun f wf hq hd K hK => go_run rfl (wo_mv (.tmp 2) (.int .i64 ((n : Nat) : Int)) (fun _ => rfl) e100_2 (hK _ (Mo.refl _))))
                    · exact og_eq (.int .i64 ((i : Nat) : Int)) rfl (fun f wf hq hd K hK => go_run rfl (wo_mv (.tmp 9) (.int .i64 ((i : Nat) : Int)) (fun _ => rfl) e100_i (hK _ (Mo.refl _))))
                    · exact og_eq (pt k2 18) rfl (fun f wf hq hd K hK => go_run rfl (wo_un (fun v => Instr.fieldAt 90 v 2) (.tmp 7) (pt k2 0) (pt k2 18) (fun _ => rfl) e100_7 (by kernel_rfl) (hK _ (Mo.refl _))))
                    · exact og_eq (.slice x.pa x.its.length x.cap) rfl (fun f wf hq hd K hK => have Q2 := Q2.mo hq; go_run rfl (wo_load 45 (.tmp 97) (pt k2 18) (.slice x.pa x.its.length x.cap) rfl (hd 3 rfl) (run_one Q2 45 18 rfl Try.underlying45 rfl) (hK _ (Mo.refl _))))
                    · exact og_eq (.int .i64 ((i : Nat) : Int)) rfl (fun f wf hq hd K hK => go_run rfl (wo_mv (.tmp 9) (.int .i64 ((i : Nat) : Int)) (fun _ => rfl) e100_i (hK _ (Mo.refl _))))
                    · exact og_eq (pt bs (os + i * 1)) rfl (fun f wf hq hd K hK => go_run rfl (wo_bin (fun x y => Instr.indexAt 45 x y) (.tmp 98) (.tmp 99) (.slice x.pa x.its.length x.cap) (.int .i64 ((i : Nat) : Int)) (pt bs (os + i * 1)) (fun _ => rfl) (hd 4 rfl) (hd 5 rfl) (ix45 (i := i) hps hil _) (hK _ (Mo.refl _))))
                    · exact og_eq (.string a) rfl (fun f wf hq hd K hK => go_run rfl (wo_load 9 (.tmp 100) (pt bs (os + i * 1)) (.string a) rfl (hd 6 rfl) (D.run_oneR (hRs.mo (M.trans hq)).at' 9 0 rfl Try.underlying9 rfl) (hK _ (Mo.refl _))))
                  intro kf103 u103 hq hR hne
                  replace Q1 := Q1.mo hq
                  replace Q2 := Q2.mo hq
                  replace M := M.trans hq
                  clear hq hR hne
                  refine wl_call 60 [(.tmp 94), (.tmp 95), (.tmp 96), (.tmp 101)] _ [.agg (d.cells).toArray, .int .i64 ((n : Nat) : Int), .int .i64 ((i : Nat) : Int), .string a] (.bool true) rfl rfl (fun _ _ => by kernel_rfl) (cB hf92 (stands_n d (hD.kp M.kp) n i x hx (Nat.le_of_lt hil) a)) rfl ?_
                  intro u104 hq
                  replace Q1 := Q1.mo hq
                  replace Q2 := Q2.mo hq
                  replace M := M.trans hq
                  clear hq
                  refine w_nil ?_
                  refine xn_then ?_
                  refine w_condT rfl ?_
                  refine w_seq ?_
                  refine w_reg ?_
                  refine wl_mv (.const (.int .i64 (5))) (.int .i64 (5)) (fun _ => rfl) rfl rfl ?_
                  refine w_nil ?_
                  refine xn_then ?_
                  refine w_ret ?_
                  refine xr_blk ?_
                  refine xr_then ?_
                  refine xr_then ?_
                  refine xr_blk ?_
                  refine xr_then ?_
                  exact w_ret1 _ (.int .i64 (5)) rfl rfl ⟨by unfold pgF; rw [if_pos hpe]; unfold shR; rw [fs_hit hG (x := 5) ((shG_of ha).trans (by rw [show shE A (shA ((n : Nat) : Int) (pgS d.pg n) x.its i) a = 5 from by unfold shE; rw [(show decide ((lk (A.I 0) a).getD 0 = 1) = false from by rw [← hFl]; unfold fldR; rw [itO_of hr, hf90]; rfl), hKd, hf91, st_both, hf92]; first | done | rfl]; rfl)) hil]; rfl, M⟩
                | false =>
                  refine w_any 8 [.inl (.agg (d.cells).toArray), .inl (.int .i64 ((n : Nat) : Int)), .inl (.int .i64 ((i : Nat) : Int)), .inl (pt k2 18), .inl (.slice x.pa x.its.length x.cap), .inl (.int .i64 ((i : Nat) : Int)), .inl (pt bs (os + i * 1)), .inl (.string a)] [] (by kernel_rfl) (by kernel_rfl) (by kernel_rfl) (by kernel_rfl) rfl (by kernel_rfl) (by kernel_rfl) late_nil ?_ ?_ ?_
                  · exact Ds.none rfl
                  · refine ea_cons ?_ (ea_cons ?_ (ea_cons ?_ (ea_cons ?_ (ea_cons ?_ (ea_cons ?_ (ea_cons ?_ (ea_cons ?_ (ea_nil))))))))
                    · exact og_eq (.agg (d.cells).toArray) rfl (fun f wf hq hd K hK => have Q1 := Q1.mo hq; go_run rfl (wo_load 29 (.tmp 3) (pt k1 0) (.agg (d.cells).toArray) rfl e100_3 (run_row Q1 29 0 7 (d.cells) rfl Try.underlying29 rfl sz29) (hK _ (Mo.refl _))))
                    · exact og_eq (.int .i64 ((n : Nat) : Int)) rfl (fun f wf hq hd K hK => go_run rfl (wo_mv (.tmp 2) (.int .i64 ((n : Nat) : Int)) (fun _ => rfl) e100_2 (hK _ (Mo.refl _))))
                    · exact og_eq (.int .i64 ((i : Nat) : Int)) rfl (fun f wf hq hd K hK => go_run rfl (wo_mv (.tmp 9) (.int .i64 ((i : Nat) : Int)) (fun _ => rfl) e100_i (hK _ (Mo.refl _))))
                    · exact og_eq (pt k2 18) rfl (fun f wf hq hd K hK => go_run rfl (wo_un (fun v => Instr.fieldAt 90 v 2) (.tmp 7) (pt k2 0) (pt k2 18) (fun _ => rfl) e100_7 (by kernel_rfl) (hK _ (Mo.refl _))))
                    · exact og_eq (.slice x.pa x.its.length x.cap) rfl (fun f wf hq hd K hK => have Q2 := Q2.mo hq; go_run rfl (wo_load 45 (.tmp 97) (pt k2 18) (.slice x.pa x.its.length x.cap) rfl (hd 3 rfl) (run_one Q2 45 18 rfl Try.underlying45 rfl) (hK _ (Mo.refl _))))
                    · exact og_eq (.int .i64 ((i : Nat) : Int)) rfl (fun f wf hq hd K hK => go_run rfl (wo_mv (.tmp 9) (.int .i64 ((i : Nat) : Int)) (fun _ => rfl) e100_i (hK _ (Mo.refl _))))
                    · exact og_eq (pt bs (os + i * 1)) rfl (fun f wf hq hd K hK => go_run rfl (wo_bin (fun x y => Instr.indexAt 45 x y) (.tmp 98) (.tmp 99) (.slice x.pa x.its.length x.cap) (.int .i64 ((i : Nat) : Int)) (pt bs (os + i * 1)) (fun _ => rfl) (hd 4 rfl) (hd 5 rfl) (ix45 (i := i) hps hil _) (hK _ (Mo.refl _))))
                    · exact og_eq (.string a) rfl (fun f wf hq hd K hK => go_run rfl (wo_load 9 (.tmp 100) (pt bs (os + i * 1)) (.string a) rfl (hd 6 rfl) (D.run_oneR (hRs.mo (M.trans hq)).at' 9 0 rfl Try.underlying9 rfl) (hK _ (Mo.refl _))))
                  intro kf103 u103 hq hR hne
                  replace Q1 := Q1.mo hq
                  replace Q2 := Q2.mo hq
                  replace M := M.trans hq
                  clear hq hR hne
                  refine wl_call 60 [(.tmp 94), (.tmp 95), (.tmp 96), (.tmp 101)] _ [.agg (d.cells).toArray, .int .i64 ((n : Nat) : Int), .int .i64 ((i : Nat) : Int), .string a] (.bool false) rfl rfl (fun _ _ => by kernel_rfl) (cB hf92 (stands_n d (hD.kp M.kp) n i x hx (Nat.le_of_lt hil) a)) rfl ?_
                  intro u104 hq
                  replace Q1 := Q1.mo hq
                  replace Q2 := Q2.mo hq
                  replace M := M.trans hq
                  clear hq
                  refine w_nil ?_
                  refine xn_then ?_
                  refine w_condF rfl ?_
                  refine w_skip ?_
                  refine xn_blk ?_
                  refine xn_then ?_
                  refine w_reg ?_
                  refine wl_mv (.tmp 9) (.int .i64 ((i : Nat) : Int)) (fun _ => rfl) e100_i rfl ?_
                  refine wl_bin (fun x y => do eqGuard .add 3 (.tmp 51) (.const (.int .i64 (1))) x y; binOp .add 3 x y) (.tmp 51) (.const (.int .i64 (1))) (.int .i64 ((i : Nat) : Int)) (.int .i64 (1)) (.int .i64 ((i + 1 : Nat) : Int)) (fun _ => rfl) rfl rfl (add1r (k := i) (by omega) _ _ _) rfl ?_
                  refine wl_mv (.tmp 52) (.int .i64 ((i + 1 : Nat) : Int)) (fun _ => rfl) rfl rfl ?_
                  refine w_nil ?_
                  exact xn_loop (x.its.length - (i + 1)) (by omega) ⟨i + 1, rfl, by omega, e100_1, e100_2, e100_3, e100_7, rfl, Q1, Q2, fs_step hG ((shG_of ha).trans (by rw [show shE A (shA ((n : Nat) : Int) (pgS d.pg n) x.its i) a = 0 from by unfold shE; rw [(show decide ((lk (A.I 0) a).getD 0 = 1) = false from by rw [← hFl]; unfold fldR; rw [itO_of hr, hf90]; rfl), hKd, hf91, st_both, hf92]; first | done | rfl]; rfl)), M⟩
              | false =>
                refine wl_call 15 [(.tmp 79), (.const (.int .i64 (0))), (.tmp 84)] _ [.slice pa L.length c, .int .i64 (0), .string a] (.tuple #[.int .i64 (((ffi (kdP 0 a) L).getD 0 : Nat) : Int), .bool false]) rfl rfl (fun _ _ => by kernel_rfl) (by have h := kid_n (c := c) (hS.kp M.kp) hz 0 a; rw [hf91] at h; exact h) rfl ?_
                intro u102 hq
                replace Q1 := Q1.mo hq
                replace Q2 := Q2.mo hq
                replace M := M.trans hq
                clear hq
                refine wl_mv (.tmp 85) (.tuple #[.int .i64 (((ffi (kdP 0 a) L).getD 0 : Nat) : Int), .bool false]) (fun _ => rfl) rfl rfl ?_
                refine wl_un (fun v => Instr.extract v 0) (.tmp 78) (.tuple #[.int .i64 (((ffi (kdP 0 a) L).getD 0 : Nat) : Int), .bool false]) (.int .i64 (((ffi (kdP 0 a) L).getD 0 : Nat) : Int)) (fun _ => rfl) rfl (by kernel_rfl) rfl ?_
                refine wl_un (fun v => Instr.extract v 1) (.tmp 78) (.tuple #[.int .i64 (((ffi (kdP 0 a) L).getD 0 : Nat) : Int), .bool false]) (.bool false) (fun _ => rfl) rfl (by kernel_rfl) rfl ?_
                refine wl_mv (.tmp 86) (.int .i64 (((ffi (kdP 0 a) L).getD 0 : Nat) : Int)) (fun _ => rfl) rfl rfl ?_
                refine wl_mv (.tmp 87) (.bool false) (fun _ => rfl) rfl rfl ?_
                refine w_nil ?_
                refine xn_then ?_
                refine w_seq ?_
                refine w_reg ?_
                refine wl_mv (.tmp 11) (.bool false) (fun _ => rfl) rfl rfl ?_
                refine wl_un (fun v => Op.unary .not v) (.tmp 88) (.bool false) (.bool true) (fun _ => rfl) rfl (by kernel_rfl) rfl ?_
                refine wl_mv (.tmp 89) (.bool true) (fun _ => rfl) rfl rfl ?_
                refine wl_mv (.tmp 13) (.bool false) (fun _ => rfl) rfl rfl ?_
                refine wl_un (fun v => Op.unary .not v) (.tmp 91) (.bool false) (.bool true) (fun _ => rfl) rfl (by kernel_rfl) rfl ?_
                refine wl_pick (.tmp 90) (.tmp 92) (.const (.bool false)) true (.bool true) (fun _ => rfl) rfl rfl rfl ?_
                refine w_nil ?_
                refine xn_then ?_
                refine w_condT rfl ?_
                refine w_seq ?_
                refine w_reg ?_
                refine wl_mv (.const (.int .i64 (91))) (.int .i64 (91)) (fun _ => rfl) rfl rfl ?_
                refine w_nil ?_
                refine xn_then ?_
                refine w_ret ?_
                refine xr_then ?_
                refine xr_blk ?_
                refine xr_then ?_
                refine xr_then ?_
                refine xr_blk ?_
                refine xr_then ?_
                exact w_ret1 _ (.int .i64 (91)) rfl rfl ⟨by unfold pgF; rw [if_pos hpe]; unfold shR; rw [fs_hit hG (x := 91) ((shG_of ha).trans (by rw [show shE A (shA ((n : Nat) : Int) (pgS d.pg n) x.its i) a = 91 from by unfold shE; rw [(show decide ((lk (A.I 0) a).getD 0 = 1) = false from by rw [← hFl]; unfold fldR; rw [itO_of hr, hf90]; rfl), hKd, hf91]; first | done | rfl]; rfl)) hil]; rfl, M⟩
          · skip
            have hid : decide (i < x.its.length) = false := decide_eq_false hil
            have hie : i = x.its.length := by omega
            refine w_seq ?_
            refine w_seq ?_
            refine w_reg ?_
            refine wl_mv (.tmp 9) (.int .i64 ((i : Nat) : Int)) (fun _ => rfl) e100_i rfl ?_
            refine wl_un (fun v => Instr.fieldAt 90 v 2) (.tmp 7) (pt k2 0) (pt k2 18) (fun _ => rfl) e100_7 (by kernel_rfl) rfl ?_
            refine wl_load 45 (.tmp 47) (pt k2 18) (.slice x.pa x.its.length x.cap) rfl rfl (run_one Q2 45 18 rfl Try.underlying45 rfl) rfl ?_
            refine wl_val (.int .i64 ((x.its.length : Nat) : Int)) (len45 _ _ _ _ _ (by exact rfl) _ _ _ _ _ _) rfl ?_
            refine wl_bin (fun x y => do eqGuard .lss 3 (.tmp 46) (.tmp 49) x y; binOp .lss 3 x y) (.tmp 46) (.tmp 49) (.int .i64 ((i : Nat) : Int)) (.int .i64 ((x.its.length : Nat) : Int)) (.bool false) (fun _ => rfl) rfl rfl (ltN hid _ _ _) rfl ?_
            refine w_nil ?_
            refine xn_then ?_
            refine w_condF rfl ?_
            refine w_exit ?_
            refine xx_then ?_
            refine xx_then ?_
            refine xx_blk ?_
            refine xn_then ?_
            refine w_seq ?_
            refine w_reg ?_
            refine wl_mv (.const (.int .i64 (0))) (.int .i64 (0)) (fun _ => rfl) rfl rfl ?_
            refine w_nil ?_
            refine xn_then ?_
            refine w_ret ?_
            exact w_ret1 _ (.int .i64 (0)) rfl rfl ⟨by unfold pgF; rw [if_pos hpe]; unfold shR; rw [fs_none (by rw [← hie]; exact hG)]; rfl, M⟩
  | false =>
    refine wl_call 36 [(.tmp 20)] _ [.string x.nm] (.bool false) rfl rfl (fun _ _ => by kernel_rfl) (cB hf0 (rmay_n x.nm _)) rfl ?_
    intro u4 hq
    replace Q1 := Q1.mo hq
    replace Q2 := Q2.mo hq
    replace M := M.trans hq
    clear hq
    refine wl_un (fun v => Op.unary .not v) (.tmp 21) (.bool false) (.bool true) (fun _ => rfl) rfl (by kernel_rfl) rfl ?_
    refine w_nil ?_
    refine xn_then ?_
    refine w_condT rfl ?_
    refine w_seq ?_
    refine w_reg ?_
    refine wl_mv (.const (.int .i64 (90))) (.int .i64 (90)) (fun _ => rfl) rfl rfl ?_
    refine w_nil ?_
    refine xn_then ?_
    refine w_ret ?_
    refine xr_then ?_
    exact w_ret1 _ (.int .i64 (90)) rfl rfl ⟨by unfold pgF; rw [show pgE L A (pgA d.pg n) x = 90 from by unfold pgE; rw [hf0]; first | done | rfl]; rfl, M⟩
end Go.Proofs.Ytbanldffohopiaa
