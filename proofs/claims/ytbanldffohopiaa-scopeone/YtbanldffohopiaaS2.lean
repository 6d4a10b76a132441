/-
  A checker asked for names; an expression that reads what there is not.
-/
import Derived.Test.YtbanldffohopiaaS1
namespace Go.Proofs.Ytbanldffohopiaa
open Go.RowKit D
theorem wnt_u {n : Nat} {l : List (Nat × Value)} {ops : Array Oper} {o : Oper} {j d : Nat} {want : Bool} (hg : o.guard = some (j, want)) (hd : (ops[j]?).bind (·.dst) = some d) (hn : Nat.blt d n = true) (hv : look l d = undef) : wnt n l ops o = false := by
  unfold wnt
  simp only [hg, hd, hn, cond_true, hv]
  cases want <;> rfl
theorem taken_n {w : World} {z : Zc} {A : Al} (hC : CK w z A) (s : Nat) (hs : s < z.L.length) (nm : ByteArray) (hz : nm.size ≤ maxLen) : Calls Try.prog 68 #[pt z.cb 0, .int .i64 ((s : Nat) : Int), .string nm] w fun e w' => e = .returned (.bool (tkn z.L A.I s nm)) ∧ Mo w w' := by
  refine w_enter 38 Try.func68 Try.ntmps68 rfl rfl ?_
  have M : Mo w w := Mo.refl _
  refine w_seq ?_
  refine w_reg ?_
  refine wl_mv (.const (.bool false)) (.bool false) (fun _ => rfl) rfl rfl ?_
  refine w_nil ?_
  refine xn_then ?_
  refine w_seq ?_
  refine w_block ?_
  refine w_loop (fun m l w1 => ∃ (a : Int) (R : List Nat), m = R.length ∧ look l 0 = pt z.cb 0 ∧ look l 1 = .int .i64 (a) ∧ look l 2 = .string nm ∧ Up z.L a R ∧ tkn z.L A.I s nm = R.any (fun a => decide (nmO z.L a = nm) || (lk (A.I a) nm).isSome) ∧ Mo w w1) _ ⟨((s : Nat) : Int), anc z.L s, rfl, rfl, rfl, rfl, Up.start hs, rfl, M⟩ ?_
  clear M
  rintro m l wl ⟨a, R, rfl, e0, e1, e2, hU, hT, M⟩
  rcases hU with ⟨ha, rfl⟩ | ⟨k, rfl, hk, rfl⟩
  · skip
    have h0 : decide (0 ≤ a) = false := decide_eq_false (by omega)
    refine w_seq ?_
    refine w_seq ?_
    refine w_reg ?_
    refine wl_mv (.tmp 1) (.int .i64 (a)) (fun _ => rfl) e1 rfl ?_
    refine wl_bin (fun x y => do eqGuard .geq 3 (.tmp 7) (.const (.int .i64 (0))) x y; binOp .geq 3 x y) (.tmp 7) (.const (.int .i64 (0))) (.int .i64 (a)) (.int .i64 (0)) (.bool false) (fun _ => rfl) rfl rfl (ge3 h0 _ _ _) rfl ?_
    refine w_nil ?_
    refine xn_then ?_
    refine w_condF rfl ?_
    refine w_exit ?_
    refine xx_then ?_
    refine xx_then ?_
    refine xx_blk ?_
    refine xn_then ?_
    refine w_seq ?_
    refine w_reg ?_
    refine wl_mv (.const (.bool false)) (.bool false) (fun _ => rfl) rfl rfl ?_
    refine w_nil ?_
    refine xn_then ?_
    refine w_ret ?_
    exact w_ret1 _ (.bool false) rfl rfl ⟨by rw [hT]; rfl, M⟩
  · skip
    have h0 : decide (0 ≤ ((k : Nat) : Int)) = true := decide_eq_true (by omega)
    obtain ⟨x, hx⟩ := get_of_lt hk
    obtain ⟨R, hR, hU⟩ := anc_step hC.wf hx
    rw [hR] at hT ⊢
    have hnm := nmO_of hx
    have hkm : k < z.MI.length := by rw [hC.lm]; exact hk
    obtain ⟨mb, hmb⟩ := get_of_lt hkm
    have hO := hC.oi k mb hmb
    obtain ⟨b1, o1, hp1, hR1⟩ := D.SL.rw hC.ls hx
    obtain ⟨b2, o2, hp2, hR2⟩ := D.SL.rw hC.mi hmb
    refine w_seq ?_
    refine w_seq ?_
    refine w_reg ?_
    refine wl_mv (.tmp 1) (.int .i64 ((k : Nat) : Int)) (fun _ => rfl) e1 rfl ?_
    refine wl_bin (fun x y => do eqGuard .geq 3 (.tmp 7) (.const (.int .i64 (0))) x y; binOp .geq 3 x y) (.tmp 7) (.const (.int .i64 (0))) (.int .i64 ((k : Nat) : Int)) (.int .i64 (0)) (.bool true) (fun _ => rfl) rfl rfl (ge3 h0 _ _ _) rfl ?_
    refine w_nil ?_
    refine xn_then ?_
    refine w_condT rfl ?_
    refine w_skip ?_
    refine xn_then ?_
    refine w_seq ?_
    refine w_block ?_
    refine w_seq ?_
    refine w_reg ?_
    refine wl_mv (.tmp 0) (pt z.cb 0) (fun _ => rfl) e0 rfl ?_
    refine wl_nc (.tmp 17) z.cb 0 rfl rfl rfl ?_
    refine wl_un (fun v => Instr.fieldAt 94 v 1) (.tmp 18) (pt z.cb 0) (pt z.cb 7) (fun _ => rfl) rfl (by kernel_rfl) rfl ?_
    refine wl_load 37 (.tmp 19) (pt z.cb 7) (.slice z.sp z.L.length z.sc) rfl rfl (D.run_oneR (hC.rw.mo M).at' 37 7 rfl Try.underlying37 rfl) rfl ?_
    refine wl_mv (.tmp 1) (.int .i64 ((k : Nat) : Int)) (fun _ => rfl) e1 rfl ?_
    refine wl_bin (fun x y => Instr.indexAt 37 x y) (.tmp 20) (.tmp 21) (.slice z.sp z.L.length z.sc) (.int .i64 ((k : Nat) : Int)) (pt b1 (o1 + k * 5)) (fun _ => rfl) rfl rfl (ix37 (i := k) hp1 hk _) rfl ?_
    refine wl_un (fun v => Instr.fieldAt 52 v 2) (.tmp 22) (pt b1 (o1 + k * 5)) (pt b1 (o1 + k * 5 + 2)) (fun _ => rfl) rfl (by kernel_rfl) rfl ?_
    refine wl_load 9 (.tmp 23) (pt b1 (o1 + k * 5 + 2)) (.string x.nm) rfl rfl (D.run_oneR (hR1.mo M).at' 9 2 rfl Try.underlying9 rfl) rfl ?_
    refine wl_mv (.tmp 2) (.string nm) (fun _ => rfl) e2 rfl ?_
    cases hf20 : decide (x.nm = nm) with
    | true =>
      have hf20p := of_decide_eq_true hf20
      refine wl_bin (fun x y => do eqGuard .eql 9 (.tmp 24) (.tmp 25) x y; binOp .eql 9 x y) (.tmp 24) (.tmp 25) (.string x.nm) (.string nm) (.bool true) (fun _ => rfl) rfl rfl (s9 hf20 _ _ _) rfl ?_
      refine wl_mv (.tmp 26) (.bool true) (fun _ => rfl) rfl rfl ?_
      refine wl_skip rfl ?_
      refine wl_skip rfl ?_
      refine wl_skip rfl ?_
      refine wl_skip rfl ?_
      refine wl_skip rfl ?_
      refine wl_skip rfl ?_
      refine wl_skip rfl ?_
      refine wl_skip rfl ?_
      refine wl_skip rfl ?_
      refine wl_pick (.tmp 27) (.const (.bool true)) (.tmp 36) true (.bool true) (fun _ => rfl) rfl rfl rfl ?_
      refine w_nil ?_
      refine xn_then ?_
      refine w_condT rfl ?_
      refine w_seq ?_
      refine w_reg ?_
      refine wl_mv (.const (.bool true)) (.bool true) (fun _ => rfl) rfl rfl ?_
      refine w_nil ?_
      refine xn_then ?_
      refine w_ret ?_
      refine xr_blk ?_
      refine xr_then ?_
      refine xr_then ?_
      refine xr_blk ?_
      refine xr_then ?_
      exact w_ret1 _ (.bool true) rfl rfl ⟨by rw [hT, List.any_cons, hnm, hf20]; rfl, M⟩
    | false =>
      have hf20p := of_decide_eq_false hf20
      refine wl_bin (fun x y => do eqGuard .eql 9 (.tmp 24) (.tmp 25) x y; binOp .eql 9 x y) (.tmp 24) (.tmp 25) (.string x.nm) (.string nm) (.bool false) (fun _ => rfl) rfl rfl (s9 hf20 _ _ _) rfl ?_
      refine wl_mv (.tmp 26) (.bool false) (fun _ => rfl) rfl rfl ?_
      refine wl_mv (.tmp 0) (pt z.cb 0) (fun _ => rfl) e0 rfl ?_
      refine wl_nc (.tmp 28) z.cb 0 rfl rfl rfl ?_
      refine wl_un (fun v => Instr.fieldAt 94 v 3) (.tmp 29) (pt z.cb 0) (pt z.cb 9) (fun _ => rfl) rfl (by kernel_rfl) rfl ?_
      refine wl_load 92 (.tmp 30) (pt z.cb 9) (.slice z.ip z.MI.length z.ic) rfl rfl (D.run_oneR (hC.rw.mo M).at' 92 9 rfl Try.underlying92 rfl) rfl ?_
      refine wl_mv (.tmp 1) (.int .i64 ((k : Nat) : Int)) (fun _ => rfl) e1 rfl ?_
      refine wl_bin (fun x y => Instr.indexAt 92 x y) (.tmp 31) (.tmp 32) (.slice z.ip z.MI.length z.ic) (.int .i64 ((k : Nat) : Int)) (pt b2 (o2 + k * 1)) (fun _ => rfl) rfl rfl (ix92 (i := k) hp2 hkm _) rfl ?_
      refine wl_load 91 (.tmp 33) (pt b2 (o2 + k * 1)) (.map (some mb)) rfl rfl (D.run_oneR (hR2.mo M).at' 91 0 rfl Try.underlying91 rfl) rfl ?_
      refine wl_mv (.tmp 2) (.string nm) (fun _ => rfl) e2 rfl ?_
      cases hf21 : (lk (A.I k) nm).isSome with
      | true =>
        refine wl_call 65 [(.tmp 34), (.tmp 35)] _ [.map (some mb), .string nm] (.bool true) rfl rfl (fun _ _ => by kernel_rfl) (cB hf21 (has_n (hO.mo M) nm hz)) rfl ?_
        intro w21 hq
        replace M := M.trans hq
        clear hq
        refine wl_pick (.tmp 27) (.const (.bool true)) (.tmp 36) false (.bool true) (fun _ => rfl) rfl rfl rfl ?_
        refine w_nil ?_
        refine xn_then ?_
        refine w_condT rfl ?_
        refine w_seq ?_
        refine w_reg ?_
        refine wl_mv (.const (.bool true)) (.bool true) (fun _ => rfl) rfl rfl ?_
        refine w_nil ?_
        refine xn_then ?_
        refine w_ret ?_
        refine xr_blk ?_
        refine xr_then ?_
        refine xr_then ?_
        refine xr_blk ?_
        refine xr_then ?_
        exact w_ret1 _ (.bool true) rfl rfl ⟨by rw [hT, List.any_cons, hnm, hf20, hf21]; rfl, M⟩
      | false =>
        refine wl_call 65 [(.tmp 34), (.tmp 35)] _ [.map (some mb), .string nm] (.bool false) rfl rfl (fun _ _ => by kernel_rfl) (cB hf21 (has_n (hO.mo M) nm hz)) rfl ?_
        intro w21 hq
        replace M := M.trans hq
        clear hq
        refine wl_pick (.tmp 27) (.const (.bool true)) (.tmp 36) false (.bool false) (fun _ => rfl) rfl rfl rfl ?_
        refine w_nil ?_
        refine xn_then ?_
        refine w_condF rfl ?_
        refine w_skip ?_
        refine xn_blk ?_
        refine xn_then ?_
        refine w_reg ?_
        refine wl_mv (.tmp 0) (pt z.cb 0) (fun _ => rfl) e0 rfl ?_
        refine wl_nc (.tmp 9) z.cb 0 rfl rfl rfl ?_
        refine wl_un (fun v => Instr.fieldAt 94 v 1) (.tmp 10) (pt z.cb 0) (pt z.cb 7) (fun _ => rfl) rfl (by kernel_rfl) rfl ?_
        refine wl_load 37 (.tmp 11) (pt z.cb 7) (.slice z.sp z.L.length z.sc) rfl rfl (D.run_oneR (hC.rw.mo M).at' 37 7 rfl Try.underlying37 rfl) rfl ?_
        refine wl_mv (.tmp 1) (.int .i64 ((k : Nat) : Int)) (fun _ => rfl) e1 rfl ?_
        refine wl_bin (fun x y => Instr.indexAt 37 x y) (.tmp 12) (.tmp 13) (.slice z.sp z.L.length z.sc) (.int .i64 ((k : Nat) : Int)) (pt b1 (o1 + k * 5)) (fun _ => rfl) rfl rfl (ix37 (i := k) hp1 hk _) rfl ?_
        refine wl_un (fun v => Instr.fieldAt 52 v 0) (.tmp 14) (pt b1 (o1 + k * 5)) (pt b1 (o1 + k * 5)) (fun _ => rfl) rfl (by kernel_rfl) rfl ?_
        refine wl_load 3 (.tmp 15) (pt b1 (o1 + k * 5)) (.int .i64 (x.pr)) rfl rfl (D.run_oneR (hR1.mo M).at' 3 0 rfl Try.underlying3 rfl) rfl ?_
        refine wl_mv (.tmp 16) (.int .i64 (x.pr)) (fun _ => rfl) rfl rfl ?_
        refine w_nil ?_
        exact xn_loop R.length (by simp) ⟨_, R, rfl, e0, rfl, e2, hU, by rw [hT, List.any_cons, hnm, hf20, hf21]; rfl, M⟩
theorem finds_n {w : World} {z : Zc} {A : Al} (hC : CK w z A) (s : Nat) (hs : s < z.L.length) (nm : ByteArray) (hz : nm.size ≤ maxLen) : Calls Try.prog 76 #[pt z.cb 0, .int .i64 ((s : Nat) : Int), .string nm] w fun e w' => e = .returned (.bool (fnd z.L A.I s nm)) ∧ Mo w w' := by
  refine w_enter 27 Try.func76 Try.ntmps76 rfl rfl ?_
  have M : Mo w w := Mo.refl _
  refine w_seq ?_
  refine w_reg ?_
  refine wl_mv (.const (.bool false)) (.bool false) (fun _ => rfl) rfl rfl ?_
  refine w_nil ?_
  refine xn_then ?_
  refine w_seq ?_
  refine w_block ?_
  refine w_loop (fun m l w1 => ∃ (a : Int) (R : List Nat), m = R.length ∧ look l 0 = pt z.cb 0 ∧ look l 1 = .int .i64 (a) ∧ look l 2 = .string nm ∧ Up z.L a R ∧ fnd z.L A.I s nm = R.any (fun a => cbr ((lk (A.I a) nm).getD 0)) ∧ Mo w w1) _ ⟨((s : Nat) : Int), anc z.L s, rfl, rfl, rfl, rfl, Up.start hs, rfl, M⟩ ?_
  clear M
  rintro m l wl ⟨a, R, rfl, e0, e1, e2, hU, hT, M⟩
  rcases hU with ⟨ha, rfl⟩ | ⟨k, rfl, hk, rfl⟩
  · skip
    have h0 : decide (0 ≤ a) = false := decide_eq_false (by omega)
    refine w_seq ?_
    refine w_seq ?_
    refine w_reg ?_
    refine wl_mv (.tmp 1) (.int .i64 (a)) (fun _ => rfl) e1 rfl ?_
    refine wl_bin (fun x y => do eqGuard .geq 3 (.tmp 7) (.const (.int .i64 (0))) x y; binOp .geq 3 x y) (.tmp 7) (.const (.int .i64 (0))) (.int .i64 (a)) (.int .i64 (0)) (.bool false) (fun _ => rfl) rfl rfl (ge3 h0 _ _ _) rfl ?_
    refine w_nil ?_
    refine xn_then ?_
    refine w_condF rfl ?_
    refine w_exit ?_
    refine xx_then ?_
    refine xx_then ?_
    refine xx_blk ?_
    refine xn_then ?_
    refine w_seq ?_
    refine w_reg ?_
    refine wl_mv (.const (.bool false)) (.bool false) (fun _ => rfl) rfl rfl ?_
    refine w_nil ?_
    refine xn_then ?_
    refine w_ret ?_
    exact w_ret1 _ (.bool false) rfl rfl ⟨by rw [hT]; rfl, M⟩
  · skip
    have h0 : decide (0 ≤ ((k : Nat) : Int)) = true := decide_eq_true (by omega)
    obtain ⟨x, hx⟩ := get_of_lt hk
    obtain ⟨R, hR, hU⟩ := anc_step hC.wf hx
    rw [hR] at hT ⊢
    have hnm := nmO_of hx
    have hkm : k < z.MI.length := by rw [hC.lm]; exact hk
    obtain ⟨mb, hmb⟩ := get_of_lt hkm
    have hO := hC.oi k mb hmb
    obtain ⟨b1, o1, hp1, hR1⟩ := D.SL.rw hC.ls hx
    obtain ⟨b2, o2, hp2, hR2⟩ := D.SL.rw hC.mi hmb
    refine w_seq ?_
    refine w_seq ?_
    refine w_reg ?_
    refine wl_mv (.tmp 1) (.int .i64 ((k : Nat) : Int)) (fun _ => rfl) e1 rfl ?_
    refine wl_bin (fun x y => do eqGuard .geq 3 (.tmp 7) (.const (.int .i64 (0))) x y; binOp .geq 3 x y) (.tmp 7) (.const (.int .i64 (0))) (.int .i64 ((k : Nat) : Int)) (.int .i64 (0)) (.bool true) (fun _ => rfl) rfl rfl (ge3 h0 _ _ _) rfl ?_
    refine w_nil ?_
    refine xn_then ?_
    refine w_condT rfl ?_
    refine w_skip ?_
    refine xn_then ?_
    refine w_seq ?_
    refine w_block ?_
    refine w_seq ?_
    refine w_reg ?_
    refine wl_mv (.tmp 0) (pt z.cb 0) (fun _ => rfl) e0 rfl ?_
    refine wl_nc (.tmp 17) z.cb 0 rfl rfl rfl ?_
    refine wl_un (fun v => Instr.fieldAt 94 v 3) (.tmp 18) (pt z.cb 0) (pt z.cb 9) (fun _ => rfl) rfl (by kernel_rfl) rfl ?_
    refine wl_load 92 (.tmp 19) (pt z.cb 9) (.slice z.ip z.MI.length z.ic) rfl rfl (D.run_oneR (hC.rw.mo M).at' 92 9 rfl Try.underlying92 rfl) rfl ?_
    refine wl_mv (.tmp 1) (.int .i64 ((k : Nat) : Int)) (fun _ => rfl) e1 rfl ?_
    refine wl_bin (fun x y => Instr.indexAt 92 x y) (.tmp 20) (.tmp 21) (.slice z.ip z.MI.length z.ic) (.int .i64 ((k : Nat) : Int)) (pt b2 (o2 + k * 1)) (fun _ => rfl) rfl rfl (ix92 (i := k) hp2 hkm _) rfl ?_
    refine wl_load 91 (.tmp 22) (pt b2 (o2 + k * 1)) (.map (some mb)) rfl rfl (D.run_oneR (hR2.mo M).at' 91 0 rfl Try.underlying91 rfl) rfl ?_
    refine wl_mv (.tmp 2) (.string nm) (fun _ => rfl) e2 rfl ?_
    refine wl_val (.int .i64 ((lk (A.I k) nm).getD 0)) (lkp 91 (.tmp 23) (.tmp 24) false (.map (some mb)) (.string nm) (.int .i64 ((lk (A.I k) nm).getD 0)) rfl rfl rfl ((hO.mo M).look hz)) rfl ?_
    cases hf20 : cbr ((lk (A.I k) nm).getD 0) with
    | true =>
      refine wl_call 41 [(.tmp 25)] _ [.int .i64 ((lk (A.I k) nm).getD 0)] (.bool true) rfl rfl (fun _ _ => by kernel_rfl) (cB hf20 (cbr_n _ _)) rfl ?_
      intro w21 hq
      replace M := M.trans hq
      clear hq
      refine w_nil ?_
      refine xn_then ?_
      refine w_condT rfl ?_
      refine w_seq ?_
      refine w_reg ?_
      refine wl_mv (.const (.bool true)) (.bool true) (fun _ => rfl) rfl rfl ?_
      refine w_nil ?_
      refine xn_then ?_
      refine w_ret ?_
      refine xr_blk ?_
      refine xr_then ?_
      refine xr_then ?_
      refine xr_blk ?_
      refine xr_then ?_
      exact w_ret1 _ (.bool true) rfl rfl ⟨by rw [hT, List.any_cons, hf20]; rfl, M⟩
    | false =>
      refine wl_call 41 [(.tmp 25)] _ [.int .i64 ((lk (A.I k) nm).getD 0)] (.bool false) rfl rfl (fun _ _ => by kernel_rfl) (cB hf20 (cbr_n _ _)) rfl ?_
      intro w21 hq
      replace M := M.trans hq
      clear hq
      refine w_nil ?_
      refine xn_then ?_
      refine w_condF rfl ?_
      refine w_skip ?_
      refine xn_blk ?_
      refine xn_then ?_
      refine w_reg ?_
      refine wl_mv (.tmp 0) (pt z.cb 0) (fun _ => rfl) e0 rfl ?_
      refine wl_nc (.tmp 9) z.cb 0 rfl rfl rfl ?_
      refine wl_un (fun v => Instr.fieldAt 94 v 1) (.tmp 10) (pt z.cb 0) (pt z.cb 7) (fun _ => rfl) rfl (by kernel_rfl) rfl ?_
      refine wl_load 37 (.tmp 11) (pt z.cb 7) (.slice z.sp z.L.length z.sc) rfl rfl (D.run_oneR (hC.rw.mo M).at' 37 7 rfl Try.underlying37 rfl) rfl ?_
      refine wl_mv (.tmp 1) (.int .i64 ((k : Nat) : Int)) (fun _ => rfl) e1 rfl ?_
      refine wl_bin (fun x y => Instr.indexAt 37 x y) (.tmp 12) (.tmp 13) (.slice z.sp z.L.length z.sc) (.int .i64 ((k : Nat) : Int)) (pt b1 (o1 + k * 5)) (fun _ => rfl) rfl rfl (ix37 (i := k) hp1 hk _) rfl ?_
      refine wl_un (fun v => Instr.fieldAt 52 v 0) (.tmp 14) (pt b1 (o1 + k * 5)) (pt b1 (o1 + k * 5)) (fun _ => rfl) rfl (by kernel_rfl) rfl ?_
      refine wl_load 3 (.tmp 15) (pt b1 (o1 + k * 5)) (.int .i64 (x.pr)) rfl rfl (D.run_oneR (hR1.mo M).at' 3 0 rfl Try.underlying3 rfl) rfl ?_
      refine wl_mv (.tmp 16) (.int .i64 (x.pr)) (fun _ => rfl) rfl rfl ?_
      refine w_nil ?_
      exact xn_loop R.length (by simp) ⟨_, R, rfl, e0, rfl, e2, hU, by rw [hT, List.any_cons, hf20]; rfl, M⟩
theorem knows_n {w : World} {z : Zc} {A : Al} (hC : CK w z A) (s : Nat) (hs : s < z.L.length) (x : Ex) (hL : LEx w x) : Calls Try.prog 69 #[pt z.cb 0, .int .i64 ((s : Nat) : Int), .agg (x.cells).toArray] w fun e w' => e = .returned (.bool (kno z.L A s x)) ∧ Mo w w' := by
  refine w_enter 61 Try.func69 Try.ntmps69 rfl rfl ?_
  have M : Mo w w := Mo.refl _
  refine w_seq ?_
  refine w_reg ?_
  refine wl_box 64 (.tmp 2) (.agg (x.cells).toArray) (((x.cells).toArray)) rfl rfl (fun _ => by kernel_rfl) rfl ?_
  intro k1 w1 hk hz hq Q1
  have N_k1 : w.heap.size ≤ k1 := by have := M.size; omega
  replace M := M.trans hq
  clear hk hz hq
  refine wl_mv (.const (.bool false)) (.bool false) (fun _ => rfl) rfl rfl ?_
  refine w_nil ?_
  refine xn_then ?_
  refine w_seq ?_
  refine w_seq ?_
  refine w_reg ?_
  refine wl_un (fun v => Instr.fieldAt 64 v 0) (.tmp 5) (pt k1 0) (pt k1 0) (fun _ => rfl) rfl (by kernel_rfl) rfl ?_
  refine wl_load 3 (.tmp 9) (pt k1 0) (.int .i64 (x.k)) rfl rfl (run_one Q1 3 0 rfl Try.underlying3 rfl) rfl ?_
  refine w_nil ?_
  refine xn_then ?_
  refine w_block ?_
  refine w_seq ?_
  refine w_reg ?_
  cases hf0 : decide (x.k = 2) with
  | true =>
    have hf0p := of_decide_eq_true hf0
    refine wl_bin (fun x y => do eqGuard .eql 3 (.tmp 10) (.const (.int .i64 (2))) x y; binOp .eql 3 x y) (.tmp 10) (.const (.int .i64 (2))) (.int .i64 (x.k)) (.int .i64 (2)) (.bool true) (fun _ => rfl) rfl rfl (eq3 hf0 _ _ _) rfl ?_
    refine wl_mv (.tmp 12) (.bool true) (fun _ => rfl) rfl rfl ?_
    refine w_nil ?_
    refine xn_then ?_
    refine w_condT rfl ?_
    refine w_seq ?_
    refine w_reg ?_
    refine wl_mv (.tmp 0) (pt z.cb 0) (fun _ => rfl) rfl rfl ?_
    refine wl_mv (.tmp 1) (.int .i64 ((s : Nat) : Int)) (fun _ => rfl) rfl rfl ?_
    refine wl_un (fun v => Instr.fieldAt 64 v 2) (.tmp 5) (pt k1 0) (pt k1 2) (fun _ => rfl) rfl (by kernel_rfl) rfl ?_
    refine wl_load 9 (.tmp 15) (pt k1 2) (.string x.nm) rfl rfl (run_one Q1 9 2 rfl Try.underlying9 rfl) rfl ?_
    cases hf1 : fnd z.L A.I s x.nm with
    | true =>
      refine wl_call 76 [(.tmp 13), (.tmp 14), (.tmp 16)] _ [pt z.cb 0, .int .i64 ((s : Nat) : Int), .string x.nm] (.bool true) rfl rfl (fun _ _ => by kernel_rfl) (cB hf1 (finds_n (hC.mo M) s hs x.nm hL.nm)) rfl ?_
      intro w2 hq
      replace Q1 := Q1.mo hq
      replace M := M.trans hq
      clear hq
      refine wl_mv (.tmp 17) (.bool true) (fun _ => rfl) rfl rfl ?_
      refine w_nil ?_
      refine xn_then ?_
      refine w_ret ?_
      refine xr_blk ?_
      refine xr_then ?_
      exact w_ret1 _ (.bool true) rfl rfl ⟨by unfold kno; rw [if_pos hf0p, hf1], M⟩
    | false =>
      refine wl_call 76 [(.tmp 13), (.tmp 14), (.tmp 16)] _ [pt z.cb 0, .int .i64 ((s : Nat) : Int), .string x.nm] (.bool false) rfl rfl (fun _ _ => by kernel_rfl) (cB hf1 (finds_n (hC.mo M) s hs x.nm hL.nm)) rfl ?_
      intro w2 hq
      replace Q1 := Q1.mo hq
      replace M := M.trans hq
      clear hq
      refine wl_mv (.tmp 17) (.bool false) (fun _ => rfl) rfl rfl ?_
      refine w_nil ?_
      refine xn_then ?_
      refine w_ret ?_
      refine xr_blk ?_
      refine xr_then ?_
      exact w_ret1 _ (.bool false) rfl rfl ⟨by unfold kno; rw [if_pos hf0p, hf1], M⟩
  | false =>
    have hf0p := of_decide_eq_false hf0
    refine wl_bin (fun x y => do eqGuard .eql 3 (.tmp 10) (.const (.int .i64 (2))) x y; binOp .eql 3 x y) (.tmp 10) (.const (.int .i64 (2))) (.int .i64 (x.k)) (.int .i64 (2)) (.bool false) (fun _ => rfl) rfl rfl (eq3 hf0 _ _ _) rfl ?_
    refine wl_mv (.tmp 12) (.bool false) (fun _ => rfl) rfl rfl ?_
    refine w_nil ?_
    refine xn_then ?_
    refine w_condF rfl ?_
    refine w_seq ?_
    refine w_reg ?_
    cases hf1 : decide (x.k = 10) with
    | true =>
      have hf1p := of_decide_eq_true hf1
      refine wl_bin (fun x y => do eqGuard .eql 3 (.tmp 10) (.const (.int .i64 (10))) x y; binOp .eql 3 x y) (.tmp 10) (.const (.int .i64 (10))) (.int .i64 (x.k)) (.int .i64 (10)) (.bool true) (fun _ => rfl) rfl rfl (eq3 hf1 _ _ _) rfl ?_
      refine wl_mv (.tmp 19) (.bool true) (fun _ => rfl) rfl rfl ?_
      refine w_nil ?_
      refine xn_then ?_
      refine w_condT rfl ?_
      refine w_seq ?_
      have hsk : s < z.KI.length := by rw [hC.lk]; exact hs
      obtain ⟨kb, hkb⟩ := get_of_lt hsk
      have hKo := hC.ok s kb hkb
      obtain ⟨b1, o1, hp1, hR1⟩ := D.SL.rw hC.ki hkb
      cases hf2 : (lk (A.K s) x.se).isSome with
      | true =>
        refine w_any 14 [.inl (pt z.cb 0), .inl (pt z.cb 0), .inl (pt z.cb 10), .inl (.slice z.kp z.KI.length z.kc), .inl (.int .i64 ((s : Nat) : Int)), .inl (pt b1 (o1 + s * 1)), .inl (.map (some kb)), .inl (pt k1 3), .inl (.string x.se), .inl (.tuple #[.int .i64 ((lk (A.K s) x.se).getD 0), .bool true]), .inl (.tuple #[.int .i64 ((lk (A.K s) x.se).getD 0), .bool true]), .inl (.int .i64 ((lk (A.K s) x.se).getD 0)), .inl (.bool true), .inl (.int .i64 ((lk (A.K s) x.se).getD 0))] [] (by kernel_rfl) (by kernel_rfl) (by kernel_rfl) (by kernel_rfl) rfl (by kernel_rfl) (by kernel_rfl) late_nil ?_ ?_ ?_
        · exact Ds.none rfl
        · refine ea_cons ?_ (ea_cons ?_ (ea_cons ?_ (ea_cons ?_ (ea_cons ?_ (ea_cons ?_ (ea_cons ?_ (ea_cons ?_ (ea_cons ?_ (ea_cons ?_ (ea_cons ?_ (ea_cons ?_ (ea_cons ?_ (ea_cons ?_ (ea_nil))))))))))))))
          · exact og_eq (pt z.cb 0) rfl (fun f wf hq hd K hK => go_run rfl (wo_mv (.tmp 0) (pt z.cb 0) (fun _ => rfl) rfl (hK _ (Mo.refl _))))
          · exact og_eq (pt z.cb 0) rfl (fun f wf hq hd K hK => go_run rfl (wo_nc (.tmp 21) z.cb 0 rfl (hd 0 rfl) (hK _ (Mo.refl _))))
          · exact og_eq (pt z.cb 10) rfl (fun f wf hq hd K hK => go_run rfl (wo_un (fun v => Instr.fieldAt 94 v 4) (.tmp 22) (pt z.cb 0) (pt z.cb 10) (fun _ => rfl) (hd 1 rfl) (by kernel_rfl) (hK _ (Mo.refl _))))
          · exact og_eq (.slice z.kp z.KI.length z.kc) rfl (fun f wf hq hd K hK => go_run rfl (wo_load 92 (.tmp 23) (pt z.cb 10) (.slice z.kp z.KI.length z.kc) rfl (hd 2 rfl) (D.run_oneR (hC.rw.mo (M.trans hq)).at' 92 10 rfl Try.underlying92 rfl) (hK _ (Mo.refl _))))
          · exact og_eq (.int .i64 ((s : Nat) : Int)) rfl (fun f wf hq hd K hK => go_run rfl (wo_mv (.tmp 1) (.int .i64 ((s : Nat) : Int)) (fun _ => rfl) rfl (hK _ (Mo.refl _))))
          · exact og_eq (pt b1 (o1 + s * 1)) rfl (fun f wf hq hd K hK => go_run rfl (wo_bin (fun x y => Instr.indexAt 92 x y) (.tmp 24) (.tmp 25) (.slice z.kp z.KI.length z.kc) (.int .i64 ((s : Nat) : Int)) (pt b1 (o1 + s * 1)) (fun _ => rfl) (hd 3 rfl) (hd 4 rfl) (ix92 (i := s) hp1 hsk _) (hK _ (Mo.refl _))))
          · exact og_eq (.map (some kb)) rfl (fun f wf hq hd K hK => go_run rfl (wo_load 91 (.tmp 26) (pt b1 (o1 + s * 1)) (.map (some kb)) rfl (hd 5 rfl) (D.run_oneR (hR1.mo (M.trans hq)).at' 91 0 rfl Try.underlying91 rfl) (hK _ (Mo.refl _))))
          · exact og_eq (pt k1 3) rfl (fun f wf hq hd K hK => go_run rfl (wo_un (fun v => Instr.fieldAt 64 v 3) (.tmp 5) (pt k1 0) (pt k1 3) (fun _ => rfl) rfl (by kernel_rfl) (hK _ (Mo.refl _))))
          · exact og_eq (.string x.se) rfl (fun f wf hq hd K hK => have Q1 := Q1.mo hq; go_run rfl (wo_load 9 (.tmp 28) (pt k1 3) (.string x.se) rfl (hd 7 rfl) (run_one Q1 9 3 rfl Try.underlying9 rfl) (hK _ (Mo.refl _))))
          · exact og_eq (.tuple #[.int .i64 ((lk (A.K s) x.se).getD 0), .bool true]) rfl (fun f wf hq hd K hK => go_run rfl (wo_val (.tuple #[.int .i64 ((lk (A.K s) x.se).getD 0), .bool true]) (lkp 91 (.tmp 27) (.tmp 29) true (.map (some kb)) (.string x.se) (.tuple #[.int .i64 ((lk (A.K s) x.se).getD 0), .bool true]) rfl (hd 6 rfl) (hd 8 rfl) (by rw [(hKo.mo (M.trans hq)).looks hL.se, hf2])) (hK _ (Mo.refl _))))
          · exact og_eq (.tuple #[.int .i64 ((lk (A.K s) x.se).getD 0), .bool true]) rfl (fun f wf hq hd K hK => go_run rfl (wo_mv (.tmp 30) (.tuple #[.int .i64 ((lk (A.K s) x.se).getD 0), .bool true]) (fun _ => rfl) (hd 9 rfl) (hK _ (Mo.refl _))))
          · exact og_eq (.int .i64 ((lk (A.K s) x.se).getD 0)) rfl (fun f wf hq hd K hK => go_run rfl (wo_un (fun v => Instr.extract v 0) (.tmp 20) (.tuple #[.int .i64 ((lk (A.K s) x.se).getD 0), .bool true]) (.int .i64 ((lk (A.K s) x.se).getD 0)) (fun _ => rfl) (hd 10 rfl) (by kernel_rfl) (hK _ (Mo.refl _))))
          · exact og_eq (.bool true) rfl (fun f wf hq hd K hK => go_run rfl (wo_un (fun v => Instr.extract v 1) (.tmp 20) (.tuple #[.int .i64 ((lk (A.K s) x.se).getD 0), .bool true]) (.bool true) (fun _ => rfl) (hd 10 rfl) (by kernel_rfl) (hK _ (Mo.refl _))))
          · exact og_eq (.int .i64 ((lk (A.K s) x.se).getD 0)) rfl (fun f wf hq hd K hK => go_run rfl (wo_mv (.tmp 31) (.int .i64 ((lk (A.K s) x.se).getD 0)) (fun _ => rfl) (hd 11 rfl) (hK _ (Mo.refl _))))
        intro kf2 w2 hq hR hne
        replace Q1 := Q1.mo hq
        replace M := M.trans hq
        clear hq hR hne
        refine wl_mv (.tmp 32) (.bool true) (fun _ => rfl) rfl rfl ?_
        refine w_nil ?_
        refine xn_then ?_
        refine w_seq ?_
        obtain ⟨kk, hkk⟩ := Option.isSome_iff_exists.1 hf2
        obtain ⟨p9, hp9, hq9⟩ := lk_mem hkk
        have hkr := hC.kr s p9 hp9
        rw [hq9] at hkr
        have hkn : kk.toNat < z.MI.length := by rw [hC.lm]; omega
        obtain ⟨ib, hib⟩ := get_of_lt hkn
        have hIo := hC.oi _ ib hib
        have hkc : (lk (A.K s) x.se).getD 0 = ((kk.toNat : Nat) : Int) := by rw [hkk]; show kk = _; omega
        obtain ⟨b2, o2, hp2, hR2⟩ := D.SL.rw hC.mi hib
        have hkv : ∀ {v : Value}, v = .int .i64 ((lk (A.K s) x.se).getD 0) → v = .int .i64 ((kk.toNat : Nat) : Int) := fun e => by rw [e, hkc]
        cases hf3 : decide (x.op = 16) with
        | true =>
          have hf3p := of_decide_eq_true hf3
          refine w_any 15 [.inl (.bool true), .inl (.bool true), .inl (pt k1 1), .inl (.int .i64 (x.op)), .inl (.bool true), .inl (.bool true), .inl undef, .inl undef, .inl undef, .inl undef, .inl undef, .inl undef, .inl undef, .inl undef, .inl undef] [] (by kernel_rfl) (by kernel_rfl) (by kernel_rfl) (by kernel_rfl) rfl (by kernel_rfl) (by kernel_rfl) late_nil ?_ ?_ ?_
          · exact Ds.none rfl
          · refine ea_cons ?_ (ea_cons ?_ (ea_cons ?_ (ea_cons ?_ (ea_cons ?_ (ea_cons ?_ (ea_cons ?_ (ea_cons ?_ (ea_cons ?_ (ea_cons ?_ (ea_cons ?_ (ea_cons ?_ (ea_cons ?_ (ea_cons ?_ (ea_cons ?_ (ea_nil)))))))))))))))
            · exact og_eq (.bool true) rfl (fun f wf hq hd K hK => go_run rfl (wo_mv (.tmp 8) (.bool true) (fun _ => rfl) rfl (hK _ (Mo.refl _))))
            · exact og_eq (.bool true) rfl (fun f wf hq hd K hK => go_run rfl (wo_mv (.tmp 33) (.bool true) (fun _ => rfl) (hd 0 rfl) (hK _ (Mo.refl _))))
            · exact og_eq (pt k1 1) rfl (fun f wf hq hd K hK => go_run (wnt_g rfl rfl rfl (hd 1 rfl) rfl) (wo_un (fun v => Instr.fieldAt 64 v 1) (.tmp 5) (pt k1 0) (pt k1 1) (fun _ => rfl) rfl (by kernel_rfl) (hK _ (Mo.refl _))))
            · exact og_eq (.int .i64 (x.op)) rfl (fun f wf hq hd K hK => have Q1 := Q1.mo hq; go_run (wnt_g rfl rfl rfl (hd 1 rfl) rfl) (wo_load 3 (.tmp 35) (pt k1 1) (.int .i64 (x.op)) rfl (hd 2 rfl) (run_one Q1 3 1 rfl Try.underlying3 rfl) (hK _ (Mo.refl _))))
            · exact og_eq (.bool true) rfl (fun f wf hq hd K hK => go_run (wnt_g rfl rfl rfl (hd 1 rfl) rfl) (wo_bin (fun x y => do eqGuard .eql 3 (.tmp 36) (.const (.int .i64 (16))) x y; binOp .eql 3 x y) (.tmp 36) (.const (.int .i64 (16))) (.int .i64 (x.op)) (.int .i64 (16)) (.bool true) (fun _ => rfl) (hd 3 rfl) rfl (eq3 hf3 _ _ _) (hK _ (Mo.refl _))))
            · exact og_eq (.bool true) rfl (fun f wf hq hd K hK => go_run (wnt_g rfl rfl rfl (hd 1 rfl) rfl) (wo_mv (.tmp 37) (.bool true) (fun _ => rfl) (hd 4 rfl) (hK _ (Mo.refl _))))
            · exact og_eq undef rfl (fun f wf hq hd K hK => go_pass (wnt_g rfl rfl rfl (hd 5 rfl) rfl) (hK _ (Mo.refl _)))
            · exact og_eq undef rfl (fun f wf hq hd K hK => go_pass (wnt_g rfl rfl rfl (hd 5 rfl) rfl) (hK _ (Mo.refl _)))
            · exact og_eq undef rfl (fun f wf hq hd K hK => go_pass (wnt_g rfl rfl rfl (hd 5 rfl) rfl) (hK _ (Mo.refl _)))
            · exact og_eq undef rfl (fun f wf hq hd K hK => go_pass (wnt_g rfl rfl rfl (hd 5 rfl) rfl) (hK _ (Mo.refl _)))
            · exact og_eq undef rfl (fun f wf hq hd K hK => go_pass (wnt_g rfl rfl rfl (hd 5 rfl) rfl) (hK _ (Mo.refl _)))
            · exact og_eq undef rfl (fun f wf hq hd K hK => go_pass (wnt_g rfl rfl rfl (hd 5 rfl) rfl) (hK _ (Mo.refl _)))
            · exact og_eq undef rfl (fun f wf hq hd K hK => go_pass (wnt_g rfl rfl rfl (hd 5 rfl) rfl) (hK _ (Mo.refl _)))
            · exact og_eq undef rfl (fun f wf hq hd K hK => go_pass (wnt_g rfl rfl rfl (hd 5 rfl) rfl) (hK _ (Mo.refl _)))
            · exact og_eq undef rfl (fun f wf hq hd K hK => go_pass (wnt_g rfl rfl rfl (hd 5 rfl) rfl) (hK _ (Mo.refl _)))
          intro kf3 w3 hq hR hne
          replace Q1 := Q1.mo hq
          replace M := M.trans hq
          clear hq hR hne
          refine wl_skip rfl ?_
          refine wl_skip rfl ?_
          refine wl_pick (.tmp 38) (.const (.bool true)) (.tmp 49) true (.bool true) (fun _ => rfl) rfl rfl rfl ?_
          refine wl_pick (.tmp 34) (.tmp 50) (.const (.bool false)) true (.bool true) (fun _ => rfl) rfl rfl rfl ?_
          refine wl_mv (.tmp 51) (.bool true) (fun _ => rfl) rfl rfl ?_
          refine w_nil ?_
          refine xn_then ?_
          refine w_ret ?_
          refine xr_blk ?_
          refine xr_then ?_
          exact w_ret1 _ (.bool true) rfl rfl ⟨by unfold kno; rw [if_neg hf0p, if_pos hf1p]; simp [hf3, hkk], M⟩
        | false =>
          have hf3p := of_decide_eq_false hf3
          cases hf4 : cbr ((lk (A.I kk.toNat) x.nm).getD 0) with
          | true =>
            refine w_any 15 [.inl (.bool true), .inl (.bool true), .inl (pt k1 1), .inl (.int .i64 (x.op)), .inl (.bool false), .inl (.bool false), .inl (pt z.cb 0), .inl (pt z.cb 0), .inl (pt z.cb 9), .inl (.slice z.ip z.MI.length z.ic), .inl (.int .i64 ((kk.toNat : Nat) : Int)), .inl (pt b2 (o2 + kk.toNat * 1)), .inl (.map (some ib)), .inl (pt k1 2), .inl (.string x.nm)] [] (by kernel_rfl) (by kernel_rfl) (by kernel_rfl) (by kernel_rfl) rfl (by kernel_rfl) (by kernel_rfl) late_nil ?_ ?_ ?_
            · exact Ds.none rfl
            · refine ea_cons ?_ (ea_cons ?_ (ea_cons ?_ (ea_cons ?_ (ea_cons ?_ (ea_cons ?_ (ea_cons ?_ (ea_cons ?_ (ea_cons ?_ (ea_cons ?_ (ea_cons ?_ (ea_cons ?_ (ea_cons ?_ (ea_cons ?_ (ea_cons ?_ (ea_nil)))))))))))))))
              · exact og_eq (.bool true) rfl (fun f wf hq hd K hK => go_run rfl (wo_mv (.tmp 8) (.bool true) (fun _ => rfl) rfl (hK _ (Mo.refl _))))
              · exact og_eq (.bool true) rfl (fun f wf hq hd K hK => go_run rfl (wo_mv (.tmp 33) (.bool true) (fun _ => rfl) (hd 0 rfl) (hK _ (Mo.refl _))))
              · exact og_eq (pt k1 1) rfl (fun f wf hq hd K hK => go_run (wnt_g rfl rfl rfl (hd 1 rfl) rfl) (wo_un (fun v => Instr.fieldAt 64 v 1) (.tmp 5) (pt k1 0) (pt k1 1) (fun _ => rfl) rfl (by kernel_rfl) (hK _ (Mo.refl _))))
              · exact og_eq (.int .i64 (x.op)) rfl (fun f wf hq hd K hK => have Q1 := Q1.mo hq; go_run (wnt_g rfl rfl rfl (hd 1 rfl) rfl) (wo_load 3 (.tmp 35) (pt k1 1) (.int .i64 (x.op)) rfl (hd 2 rfl) (run_one Q1 3 1 rfl Try.underlying3 rfl) (hK _ (Mo.refl _))))
              · exact og_eq (.bool false) rfl (fun f wf hq hd K hK => go_run (wnt_g rfl rfl rfl (hd 1 rfl) rfl) (wo_bin (fun x y => do eqGuard .eql 3 (.tmp 36) (.const (.int .i64 (16))) x y; binOp .eql 3 x y) (.tmp 36) (.const (.int .i64 (16))) (.int .i64 (x.op)) (.int .i64 (16)) (.bool false) (fun _ => rfl) (hd 3 rfl) rfl (eq3 hf3 _ _ _) (hK _ (Mo.refl _))))
              · exact og_eq (.bool false) rfl (fun f wf hq hd K hK => go_run (wnt_g rfl rfl rfl (hd 1 rfl) rfl) (wo_mv (.tmp 37) (.bool false) (fun _ => rfl) (hd 4 rfl) (hK _ (Mo.refl _))))
              · exact og_eq (pt z.cb 0) rfl (fun f wf hq hd K hK => go_run (wnt_g rfl rfl rfl (hd 5 rfl) rfl) (wo_mv (.tmp 0) (pt z.cb 0) (fun _ => rfl) rfl (hK _ (Mo.refl _))))
              · exact og_eq (pt z.cb 0) rfl (fun f wf hq hd K hK => go_run (wnt_g rfl rfl rfl (hd 5 rfl) rfl) (wo_nc (.tmp 39) z.cb 0 rfl (hd 6 rfl) (hK _ (Mo.refl _))))
              · exact og_eq (pt z.cb 9) rfl (fun f wf hq hd K hK => go_run (wnt_g rfl rfl rfl (hd 5 rfl) rfl) (wo_un (fun v => Instr.fieldAt 94 v 3) (.tmp 40) (pt z.cb 0) (pt z.cb 9) (fun _ => rfl) (hd 7 rfl) (by kernel_rfl) (hK _ (Mo.refl _))))
              · exact og_eq (.slice z.ip z.MI.length z.ic) rfl (fun f wf hq hd K hK => go_run (wnt_g rfl rfl rfl (hd 5 rfl) rfl) (wo_load 92 (.tmp 41) (pt z.cb 9) (.slice z.ip z.MI.length z.ic) rfl (hd 8 rfl) (D.run_oneR (hC.rw.mo (M.trans hq)).at' 92 9 rfl Try.underlying92 rfl) (hK _ (Mo.refl _))))
              · exact og_eq (.int .i64 ((kk.toNat : Nat) : Int)) rfl (fun f wf hq hd K hK => go_run (wnt_g rfl rfl rfl (hd 5 rfl) rfl) (wo_mv (.tmp 7) (.int .i64 ((kk.toNat : Nat) : Int)) (fun _ => rfl) (hkv rfl) (hK _ (Mo.refl _))))
              · exact og_eq (pt b2 (o2 + kk.toNat * 1)) rfl (fun f wf hq hd K hK => go_run (wnt_g rfl rfl rfl (hd 5 rfl) rfl) (wo_bin (fun x y => Instr.indexAt 92 x y) (.tmp 42) (.tmp 43) (.slice z.ip z.MI.length z.ic) (.int .i64 ((kk.toNat : Nat) : Int)) (pt b2 (o2 + kk.toNat * 1)) (fun _ => rfl) (hd 9 rfl) (hd 10 rfl) (ix92 (i := kk.toNat) hp2 hkn _) (hK _ (Mo.refl _))))
              · exact og_eq (.map (some ib)) rfl (fun f wf hq hd K hK => go_run (wnt_g rfl rfl rfl (hd 5 rfl) rfl) (wo_load 91 (.tmp 44) (pt b2 (o2 + kk.toNat * 1)) (.map (some ib)) rfl (hd 11 rfl) (D.run_oneR (hR2.mo (M.trans hq)).at' 91 0 rfl Try.underlying91 rfl) (hK _ (Mo.refl _))))
              · exact og_eq (pt k1 2) rfl (fun f wf hq hd K hK => go_run (wnt_g rfl rfl rfl (hd 5 rfl) rfl) (wo_un (fun v => Instr.fieldAt 64 v 2) (.tmp 5) (pt k1 0) (pt k1 2) (fun _ => rfl) rfl (by kernel_rfl) (hK _ (Mo.refl _))))
              · exact og_eq (.string x.nm) rfl (fun f wf hq hd K hK => have Q1 := Q1.mo hq; go_run (wnt_g rfl rfl rfl (hd 5 rfl) rfl) (wo_load 9 (.tmp 46) (pt k1 2) (.string x.nm) rfl (hd 13 rfl) (run_one Q1 9 2 rfl Try.underlying9 rfl) (hK _ (Mo.refl _))))
            intro kf3 w3 hq hR hne
            replace Q1 := Q1.mo hq
            replace M := M.trans hq
            clear hq hR hne
            refine wl_val (.int .i64 ((lk (A.I kk.toNat) x.nm).getD 0)) (lkp 91 (.tmp 45) (.tmp 47) false (.map (some ib)) (.string x.nm) (.int .i64 ((lk (A.I kk.toNat) x.nm).getD 0)) rfl rfl rfl ((hIo.mo M).look hL.nm)) rfl ?_
            refine wl_call 41 [(.tmp 48)] _ [.int .i64 ((lk (A.I kk.toNat) x.nm).getD 0)] (.bool true) rfl rfl (fun _ _ => by kernel_rfl) (cB hf4 (cbr_n _ _)) rfl ?_
            intro w4 hq
            replace Q1 := Q1.mo hq
            replace M := M.trans hq
            clear hq
            refine wl_pick (.tmp 38) (.const (.bool true)) (.tmp 49) false (.bool true) (fun _ => rfl) rfl rfl rfl ?_
            refine wl_pick (.tmp 34) (.tmp 50) (.const (.bool false)) true (.bool true) (fun _ => rfl) rfl rfl rfl ?_
            refine wl_mv (.tmp 51) (.bool true) (fun _ => rfl) rfl rfl ?_
            refine w_nil ?_
            refine xn_then ?_
            refine w_ret ?_
            refine xr_blk ?_
            refine xr_then ?_
            exact w_ret1 _ (.bool true) rfl rfl ⟨by unfold kno; rw [if_neg hf0p, if_pos hf1p]; simp [hf3, hf4, hkk], M⟩
          | false =>
            refine w_any 15 [.inl (.bool true), .inl (.bool true), .inl (pt k1 1), .inl (.int .i64 (x.op)), .inl (.bool false), .inl (.bool false), .inl (pt z.cb 0), .inl (pt z.cb 0), .inl (pt z.cb 9), .inl (.slice z.ip z.MI.length z.ic), .inl (.int .i64 ((kk.toNat : Nat) : Int)), .inl (pt b2 (o2 + kk.toNat * 1)), .inl (.map (some ib)), .inl (pt k1 2), .inl (.string x.nm)] [] (by kernel_rfl) (by kernel_rfl) (by kernel_rfl) (by kernel_rfl) rfl (by kernel_rfl) (by kernel_rfl) late_nil ?_ ?_ ?_
            · exact Ds.none rfl
            · refine ea_cons ?_ (ea_cons ?_ (ea_cons ?_ (ea_cons ?_ (ea_cons ?_ (ea_cons ?_ (ea_cons ?_ (ea_cons ?_ (ea_cons ?_ (ea_cons ?_ (ea_cons ?_ (ea_cons ?_ (ea_cons ?_ (ea_cons ?_ (ea_cons ?_ (ea_nil)))))))))))))))
              · exact og_eq (.bool true) rfl (fun f wf hq hd K hK => go_run rfl (wo_mv (.tmp 8) (.bool true) (fun _ => rfl) rfl (hK _ (Mo.refl _))))
              · exact og_eq (.bool true) rfl (fun f wf hq hd K hK => go_run rfl (wo_mv (.tmp 33) (.bool true) (fun _ => rfl) (hd 0 rfl) (hK _ (Mo.refl _))))
              · exact og_eq (pt k1 1) rfl (fun f wf hq hd K hK => go_run (wnt_g rfl rfl rfl (hd 1 rfl) rfl) (wo_un (fun v => Instr.fieldAt 64 v 1) (.tmp 5) (pt k1 0) (pt k1 1) (fun _ => rfl) rfl (by kernel_rfl) (hK _ (Mo.refl _))))
              · exact og_eq (.int .i64 (x.op)) rfl (fun f wf hq hd K hK => have Q1 := Q1.mo hq; go_run (wnt_g rfl rfl rfl (hd 1 rfl) rfl) (wo_load 3 (.tmp 35) (pt k1 1) (.int .i64 (x.op)) rfl (hd 2 rfl) (run_one Q1 3 1 rfl Try.underlying3 rfl) (hK _ (Mo.refl _))))
              · exact og_eq (.bool false) rfl (fun f wf hq hd K hK => go_run (wnt_g rfl rfl rfl (hd 1 rfl) rfl) (wo_bin (fun x y => do eqGuard .eql 3 (.tmp 36) (.const (.int .i64 (16))) x y; binOp .eql 3 x y) (.tmp 36) (.const (.int .i64 (16))) (.int .i64 (x.op)) (.int .i64 (16)) (.bool false) (fun _ => rfl) (hd 3 rfl) rfl (eq3 hf3 _ _ _) (hK _ (Mo.refl _))))
              · exact og_eq (.bool false) rfl (fun f wf hq hd K hK => go_run (wnt_g rfl rfl rfl (hd 1 rfl) rfl) (wo_mv (.tmp 37) (.bool false) (fun _ => rfl) (hd 4 rfl) (hK _ (Mo.refl _))))
              · exact og_eq (pt z.cb 0) rfl (fun f wf hq hd K hK => go_run (wnt_g rfl rfl rfl (hd 5 rfl) rfl) (wo_mv (.tmp 0) (pt z.cb 0) (fun _ => rfl) rfl (hK _ (Mo.refl _))))
              · exact og_eq (pt z.cb 0) rfl (fun f wf hq hd K hK => go_run (wnt_g rfl rfl rfl (hd 5 rfl) rfl) (wo_nc (.tmp 39) z.cb 0 rfl (hd 6 rfl) (hK _ (Mo.refl _))))
              · exact og_eq (pt z.cb 9) rfl (fun f wf hq hd K hK => go_run (wnt_g rfl rfl rfl (hd 5 rfl) rfl) (wo_un (fun v => Instr.fieldAt 94 v 3) (.tmp 40) (pt z.cb 0) (pt z.cb 9) (fun _ => rfl) (hd 7 rfl) (by kernel_rfl) (hK _ (Mo.refl _))))
              · exact og_eq (.slice z.ip z.MI.length z.ic) rfl (fun f wf hq hd K hK => go_run (wnt_g rfl rfl rfl (hd 5 rfl) rfl) (wo_load 92 (.tmp 41) (pt z.cb 9) (.slice z.ip z.MI.length z.ic) rfl (hd 8 rfl) (D.run_oneR (hC.rw.mo (M.trans hq)).at' 92 9 rfl Try.underlying92 rfl) (hK _ (Mo.refl _))))
              · exact og_eq (.int .i64 ((kk.toNat : Nat) : Int)) rfl (fun f wf hq hd K hK => go_run (wnt_g rfl rfl rfl (hd 5 rfl) rfl) (wo_mv (.tmp 7) (.int .i64 ((kk.toNat : Nat) : Int)) (fun _ => rfl) (hkv rfl) (hK _ (Mo.refl _))))
              · exact og_eq (pt b2 (o2 + kk.toNat * 1)) rfl (fun f wf hq hd K hK => go_run (wnt_g rfl rfl rfl (hd 5 rfl) rfl) (wo_bin (fun x y => Instr.indexAt 92 x y) (.tmp 42) (.tmp 43) (.slice z.ip z.MI.length z.ic) (.int .i64 ((kk.toNat : Nat) : Int)) (pt b2 (o2 + kk.toNat * 1)) (fun _ => rfl) (hd 9 rfl) (hd 10 rfl) (ix92 (i := kk.toNat) hp2 hkn _) (hK _ (Mo.refl _))))
              · exact og_eq (.map (some ib)) rfl (fun f wf hq hd K hK => go_run (wnt_g rfl rfl rfl (hd 5 rfl) rfl) (wo_load 91 (.tmp 44) (pt b2 (o2 + kk.toNat * 1)) (.map (some ib)) rfl (hd 11 rfl) (D.run_oneR (hR2.mo (M.trans hq)).at' 91 0 rfl Try.underlying91 rfl) (hK _ (Mo.refl _))))
              · exact og_eq (pt k1 2) rfl (fun f wf hq hd K hK => go_run (wnt_g rfl rfl rfl (hd 5 rfl) rfl) (wo_un (fun v => Instr.fieldAt 64 v 2) (.tmp 5) (pt k1 0) (pt k1 2) (fun _ => rfl) rfl (by kernel_rfl) (hK _ (Mo.refl _))))
              · exact og_eq (.string x.nm) rfl (fun f wf hq hd K hK => have Q1 := Q1.mo hq; go_run (wnt_g rfl rfl rfl (hd 5 rfl) rfl) (wo_load 9 (.tmp 46) (pt k1 2) (.string x.nm) rfl (hd 13 rfl) (run_one Q1 9 2 rfl Try.underlying9 rfl) (hK _ (Mo.refl _))))
            intro kf3 w3 hq hR hne
            replace Q1 := Q1.mo hq
            replace M := M.trans hq
            clear hq hR hne
            refine wl_val (.int .i64 ((lk (A.I kk.toNat) x.nm).getD 0)) (lkp 91 (.tmp 45) (.tmp 47) false (.map (some ib)) (.string x.nm) (.int .i64 ((lk (A.I kk.toNat) x.nm).getD 0)) rfl rfl rfl ((hIo.mo M).look hL.nm)) rfl ?_
            refine wl_call 41 [(.tmp 48)] _ [.int .i64 ((lk (A.I kk.toNat) x.nm).getD 0)] (.bool false) rfl rfl (fun _ _ => by kernel_rfl) (cB hf4 (cbr_n _ _)) rfl ?_
            intro w4 hq
            replace Q1 := Q1.mo hq
            replace M := M.trans hq
            clear hq
            refine wl_pick (.tmp 38) (.const (.bool true)) (.tmp 49) false (.bool false) (fun _ => rfl) rfl rfl rfl ?_
            refine wl_pick (.tmp 34) (.tmp 50) (.const (.bool false)) true (.bool false) (fun _ => rfl) rfl rfl rfl ?_
            refine wl_mv (.tmp 51) (.bool false) (fun _ => rfl) rfl rfl ?_
            refine w_nil ?_
            refine xn_then ?_
            refine w_ret ?_
            refine xr_blk ?_
            refine xr_then ?_
            exact w_ret1 _ (.bool false) rfl rfl ⟨by unfold kno; rw [if_neg hf0p, if_pos hf1p]; simp [hf3, hf4, hkk], M⟩
      | false =>
        refine w_any 14 [.inl (pt z.cb 0), .inl (pt z.cb 0), .inl (pt z.cb 10), .inl (.slice z.kp z.KI.length z.kc), .inl (.int .i64 ((s : Nat) : Int)), .inl (pt b1 (o1 + s * 1)), .inl (.map (some kb)), .inl (pt k1 3), .inl (.string x.se), .inl (.tuple #[.int .i64 ((lk (A.K s) x.se).getD 0), .bool false]), .inl (.tuple #[.int .i64 ((lk (A.K s) x.se).getD 0), .bool false]), .inl (.int .i64 ((lk (A.K s) x.se).getD 0)), .inl (.bool false), .inl (.int .i64 ((lk (A.K s) x.se).getD 0))] [] (by kernel_rfl) (by kernel_rfl) (by kernel_rfl) (by kernel_rfl) rfl (by kernel_rfl) (by kernel_rfl) late_nil ?_ ?_ ?_
        · exact Ds.none rfl
        · refine ea_cons ?_ (ea_cons ?_ (ea_cons ?_ (ea_cons ?_ (ea_cons ?_ (ea_cons ?_ (ea_cons ?_ (ea_cons ?_ (ea_cons ?_ (ea_cons ?_ (ea_cons ?_ (ea_cons ?_ (ea_cons ?_ (ea_cons ?_ (ea_nil))))))))))))))
          · exact og_eq (pt z.cb 0) rfl (fun f wf hq hd K hK => go_run rfl (wo_mv (.tmp 0) (pt z.cb 0) (fun _ => rfl) rfl (hK _ (Mo.refl _))))
          · exact og_eq (pt z.cb 0) rfl (fun f wf hq hd K hK => go_run rfl (wo_nc (.tmp 21) z.cb 0 rfl (hd 0 rfl) (hK _ (Mo.refl _))))
          · exact og_eq (pt z.cb 10) rfl (fun f wf hq hd K hK => go_run rfl (wo_un (fun v => Instr.fieldAt 94 v 4) (.tmp 22) (pt z.cb 0) (pt z.cb 10) (fun _ => rfl) (hd 1 rfl) (by kernel_rfl) (hK _ (Mo.refl _))))
          · exact og_eq (.slice z.kp z.KI.length z.kc) rfl (fun f wf hq hd K hK => go_run rfl (wo_load 92 (.tmp 23) (pt z.cb 10) (.slice z.kp z.KI.length z.kc) rfl (hd 2 rfl) (D.run_oneR (hC.rw.mo (M.trans hq)).at' 92 10 rfl Try.underlying92 rfl) (hK _ (Mo.refl _))))
          · exact og_eq (.int .i64 ((s : Nat) : Int)) rfl (fun f wf hq hd K hK => go_run rfl (wo_mv (.tmp 1) (.int .i64 ((s : Nat) : Int)) (fun _ => rfl) rfl (hK _ (Mo.refl _))))
          · exact og_eq (pt b1 (o1 + s * 1)) rfl (fun f wf hq hd K hK => go_run rfl (wo_bin (fun x y => Instr.indexAt 92 x y) (.tmp 24) (.tmp 25) (.slice z.kp z.KI.length z.kc) (.int .i64 ((s : Nat) : Int)) (pt b1 (o1 + s * 1)) (fun _ => rfl) (hd 3 rfl) (hd 4 rfl) (ix92 (i := s) hp1 hsk _) (hK _ (Mo.refl _))))
          · exact og_eq (.map (some kb)) rfl (fun f wf hq hd K hK => go_run rfl (wo_load 91 (.tmp 26) (pt b1 (o1 + s * 1)) (.map (some kb)) rfl (hd 5 rfl) (D.run_oneR (hR1.mo (M.trans hq)).at' 91 0 rfl Try.underlying91 rfl) (hK _ (Mo.refl _))))
          · exact og_eq (pt k1 3) rfl (fun f wf hq hd K hK => go_run rfl (wo_un (fun v => Instr.fieldAt 64 v 3) (.tmp 5) (pt k1 0) (pt k1 3) (fun _ => rfl) rfl (by kernel_rfl) (hK _ (Mo.refl _))))
          · exact og_eq (.string x.se) rfl (fun f wf hq hd K hK => have Q1 := Q1.mo hq; go_run rfl (wo_load 9 (.tmp 28) (pt k1 3) (.string x.se) rfl (hd 7 rfl) (run_one Q1 9 3 rfl Try.underlying9 rfl) (hK _ (Mo.refl _))))
          · exact og_eq (.tuple #[.int .i64 ((lk (A.K s) x.se).getD 0), .bool false]) rfl (fun f wf hq hd K hK => go_run rfl (wo_val (.tuple #[.int .i64 ((lk (A.K s) x.se).getD 0), .bool false]) (lkp 91 (.tmp 27) (.tmp 29) true (.map (some kb)) (.string x.se) (.tuple #[.int .i64 ((lk (A.K s) x.se).getD 0), .bool false]) rfl (hd 6 rfl) (hd 8 rfl) (by rw [(hKo.mo (M.trans hq)).looks hL.se, hf2])) (hK _ (Mo.refl _))))
          · exact og_eq (.tuple #[.int .i64 ((lk (A.K s) x.se).getD 0), .bool false]) rfl (fun f wf hq hd K hK => go_run rfl (wo_mv (.tmp 30) (.tuple #[.int .i64 ((lk (A.K s) x.se).getD 0), .bool false]) (fun _ => rfl) (hd 9 rfl) (hK _ (Mo.refl _))))
          · exact og_eq (.int .i64 ((lk (A.K s) x.se).getD 0)) rfl (fun f wf hq hd K hK => go_run rfl (wo_un (fun v => Instr.extract v 0) (.tmp 20) (.tuple #[.int .i64 ((lk (A.K s) x.se).getD 0), .bool false]) (.int .i64 ((lk (A.K s) x.se).getD 0)) (fun _ => rfl) (hd 10 rfl) (by kernel_rfl) (hK _ (Mo.refl _))))
          · exact og_eq (.bool false) rfl (fun f wf hq hd K hK => go_run rfl (wo_un (fun v => Instr.extract v 1) (.tmp 20) (.tuple #[.int .i64 ((lk (A.K s) x.se).getD 0), .bool false]) (.bool false) (fun _ => rfl) (hd 10 rfl) (by kernel_rfl) (hK _ (Mo.refl _))))
          · exact og_eq (.int .i64 ((lk (A.K s) x.se).getD 0)) rfl (fun f wf hq hd K hK => go_run rfl (wo_mv (.tmp 31) (.int .i64 ((lk (A.K s) x.se).getD 0)) (fun _ => rfl) (hd 11 rfl) (hK _ (Mo.refl _))))
        intro kf2 w2 hq hR hne
        replace Q1 := Q1.mo hq
        replace M := M.trans hq
        clear hq hR hne
        refine wl_mv (.tmp 32) (.bool false) (fun _ => rfl) rfl rfl ?_
        refine w_nil ?_
        refine xn_then ?_
        refine w_seq ?_
        refine w_any 15 [.inl (.bool false), .inl (.bool false), .inl undef, .inl undef, .inl undef, .inl undef, .inl undef, .inl undef, .inl undef, .inl undef, .inl undef, .inl undef, .inl undef, .inl undef, .inl undef] [] (by kernel_rfl) (by kernel_rfl) (by kernel_rfl) (by kernel_rfl) rfl (by kernel_rfl) (by kernel_rfl) late_nil ?_ ?_ ?_
        · exact Ds.none rfl
        · refine ea_cons ?_ (ea_cons ?_ (ea_cons ?_ (ea_cons ?_ (ea_cons ?_ (ea_cons ?_ (ea_cons ?_ (ea_cons ?_ (ea_cons ?_ (ea_cons ?_ (ea_cons ?_ (ea_cons ?_ (ea_cons ?_ (ea_cons ?_ (ea_cons ?_ (ea_nil)))))))))))))))
          · exact og_eq (.bool false) rfl (fun f wf hq hd K hK => go_run rfl (wo_mv (.tmp 8) (.bool false) (fun _ => rfl) rfl (hK _ (Mo.refl _))))
          · exact og_eq (.bool false) rfl (fun f wf hq hd K hK => go_run rfl (wo_mv (.tmp 33) (.bool false) (fun _ => rfl) (hd 0 rfl) (hK _ (Mo.refl _))))
          · exact og_eq undef rfl (fun f wf hq hd K hK => go_pass (wnt_g rfl rfl rfl (hd 1 rfl) rfl) (hK _ (Mo.refl _)))
          · exact og_eq undef rfl (fun f wf hq hd K hK => go_pass (wnt_g rfl rfl rfl (hd 1 rfl) rfl) (hK _ (Mo.refl _)))
          · exact og_eq undef rfl (fun f wf hq hd K hK => go_pass (wnt_g rfl rfl rfl (hd 1 rfl) rfl) (hK _ (Mo.refl _)))
          · exact og_eq undef rfl (fun f wf hq hd K hK => go_pass (wnt_g rfl rfl rfl (hd 1 rfl) rfl) (hK _ (Mo.refl _)))
          · exact og_eq undef rfl (fun f wf hq hd K hK => go_pass (wnt_u rfl rfl rfl (hd 5 rfl)) (hK _ (Mo.refl _)))
          · exact og_eq undef rfl (fun f wf hq hd K hK => go_pass (wnt_u rfl rfl rfl (hd 5 rfl)) (hK _ (Mo.refl _)))
          · exact og_eq undef rfl (fun f wf hq hd K hK => go_pass (wnt_u rfl rfl rfl (hd 5 rfl)) (hK _ (Mo.refl _)))
          · exact og_eq undef rfl (fun f wf hq hd K hK => go_pass (wnt_u rfl rfl rfl (hd 5 rfl)) (hK _ (Mo.refl _)))
          · exact og_eq undef rfl (fun f wf hq hd K hK => go_pass (wnt_u rfl rfl rfl (hd 5 rfl)) (hK _ (Mo.refl _)))
          · exact og_eq undef rfl (fun f wf hq hd K hK => go_pass (wnt_u rfl rfl rfl (hd 5 rfl)) (hK _ (Mo.refl _)))
          · exact og_eq undef rfl (fun f wf hq hd K hK => go_pass (wnt_u rfl rfl rfl (hd 5 rfl)) (hK _ (Mo.refl _)))
          · exact og_eq undef rfl (fun f wf hq hd K hK => go_pass (wnt_u rfl rfl rfl (hd 5 rfl)) (hK _ (Mo.refl _)))
          · exact og_eq undef rfl (fun f wf hq hd K hK => go_pass (wnt_u rfl rfl rfl (hd 5 rfl)) (hK _ (Mo.refl _)))
        intro kf3 w3 hq hR hne
        replace Q1 := Q1.mo hq
        replace M := M.trans hq
        clear hq hR hne
        refine wl_skip rfl ?_
        refine wl_skip rfl ?_
        refine wl_skip rfl ?_
        refine wl_pick (.tmp 34) (.tmp 50) (.const (.bool false)) false (.bool false) (fun _ => rfl) rfl rfl rfl ?_
        refine wl_mv (.tmp 51) (.bool false) (fun _ => rfl) rfl rfl ?_
        refine w_nil ?_
        refine xn_then ?_
        refine w_ret ?_
        refine xr_blk ?_
        refine xr_then ?_
        exact w_ret1 _ (.bool false) rfl rfl ⟨by unfold kno; rw [if_neg hf0p, if_pos hf1p]; simp [hf2], M⟩
    | false =>
      have hf1p := of_decide_eq_false hf1
      refine wl_bin (fun x y => do eqGuard .eql 3 (.tmp 10) (.const (.int .i64 (10))) x y; binOp .eql 3 x y) (.tmp 10) (.const (.int .i64 (10))) (.int .i64 (x.k)) (.int .i64 (10)) (.bool false) (fun _ => rfl) rfl rfl (eq3 hf1 _ _ _) rfl ?_
      refine wl_mv (.tmp 19) (.bool false) (fun _ => rfl) rfl rfl ?_
      refine w_nil ?_
      refine xn_then ?_
      refine w_condF rfl ?_
      refine w_seq ?_
      refine w_reg ?_
      cases hf2 : decide (x.k = 8) with
      | true =>
        have hf2p := of_decide_eq_true hf2
        refine wl_bin (fun x y => do eqGuard .eql 3 (.tmp 10) (.const (.int .i64 (8))) x y; binOp .eql 3 x y) (.tmp 10) (.const (.int .i64 (8))) (.int .i64 (x.k)) (.int .i64 (8)) (.bool true) (fun _ => rfl) rfl rfl (eq3 hf2 _ _ _) rfl ?_
        refine wl_mv (.tmp 53) (.bool true) (fun _ => rfl) rfl rfl ?_
        refine w_nil ?_
        refine xn_then ?_
        refine w_condT rfl ?_
        refine w_seq ?_
        cases hf3 : (lk A.T x.nm).isSome with
        | true =>
          refine w_any 6 [.inl (pt z.cb 0), .inl (pt z.cb 0), .inl (pt z.cb 8), .inl (.map (some z.tb)), .inl (pt k1 2), .inl (.string x.nm)] [] (by kernel_rfl) (by kernel_rfl) (by kernel_rfl) (by kernel_rfl) rfl (by kernel_rfl) (by kernel_rfl) late_nil ?_ ?_ ?_
          · exact Ds.none rfl
          · refine ea_cons ?_ (ea_cons ?_ (ea_cons ?_ (ea_cons ?_ (ea_cons ?_ (ea_cons ?_ (ea_nil))))))
            · exact og_eq (pt z.cb 0) rfl (fun f wf hq hd K hK => go_run rfl (wo_mv (.tmp 0) (pt z.cb 0) (fun _ => rfl) rfl (hK _ (Mo.refl _))))
            · exact og_eq (pt z.cb 0) rfl (fun f wf hq hd K hK => go_run rfl (wo_nc (.tmp 54) z.cb 0 rfl (hd 0 rfl) (hK _ (Mo.refl _))))
            · exact og_eq (pt z.cb 8) rfl (fun f wf hq hd K hK => go_run rfl (wo_un (fun v => Instr.fieldAt 94 v 2) (.tmp 55) (pt z.cb 0) (pt z.cb 8) (fun _ => rfl) (hd 1 rfl) (by kernel_rfl) (hK _ (Mo.refl _))))
            · exact og_eq (.map (some z.tb)) rfl (fun f wf hq hd K hK => go_run rfl (wo_load 91 (.tmp 56) (pt z.cb 8) (.map (some z.tb)) rfl (hd 2 rfl) (D.run_oneR (hC.rw.mo (M.trans hq)).at' 91 8 rfl Try.underlying91 rfl) (hK _ (Mo.refl _))))
            · exact og_eq (pt k1 2) rfl (fun f wf hq hd K hK => go_run rfl (wo_un (fun v => Instr.fieldAt 64 v 2) (.tmp 5) (pt k1 0) (pt k1 2) (fun _ => rfl) rfl (by kernel_rfl) (hK _ (Mo.refl _))))
            · exact og_eq (.string x.nm) rfl (fun f wf hq hd K hK => have Q1 := Q1.mo hq; go_run rfl (wo_load 9 (.tmp 58) (pt k1 2) (.string x.nm) rfl (hd 4 rfl) (run_one Q1 9 2 rfl Try.underlying9 rfl) (hK _ (Mo.refl _))))
          intro kf2 w2 hq hR hne
          replace Q1 := Q1.mo hq
          replace M := M.trans hq
          clear hq hR hne
          refine wl_call 65 [(.tmp 57), (.tmp 59)] _ [.map (some z.tb), .string x.nm] (.bool true) rfl rfl (fun _ _ => by kernel_rfl) (cB hf3 (has_n (hC.om.mo M) x.nm hL.nm)) rfl ?_
          intro w3 hq
          replace Q1 := Q1.mo hq
          replace M := M.trans hq
          clear hq
          refine wl_mv (.tmp 60) (.bool true) (fun _ => rfl) rfl rfl ?_
          refine w_nil ?_
          refine xn_then ?_
          refine w_ret ?_
          refine xr_blk ?_
          refine xr_then ?_
          exact w_ret1 _ (.bool true) rfl rfl ⟨by unfold kno; rw [if_neg hf0p, if_neg hf1p, if_pos hf2p, hf3], M⟩
        | false =>
          refine w_any 6 [.inl (pt z.cb 0), .inl (pt z.cb 0), .inl (pt z.cb 8), .inl (.map (some z.tb)), .inl (pt k1 2), .inl (.string x.nm)] [] (by kernel_rfl) (by kernel_rfl) (by kernel_rfl) (by kernel_rfl) rfl (by kernel_rfl) (by kernel_rfl) late_nil ?_ ?_ ?_
          · exact Ds.none rfl
          · refine ea_cons ?_ (ea_cons ?_ (ea_cons ?_ (ea_cons ?_ (ea_cons ?_ (ea_cons ?_ (ea_nil))))))
            · exact og_eq (pt z.cb 0) rfl (fun f wf hq hd K hK => go_run rfl (wo_mv (.tmp 0) (pt z.cb 0) (fun _ => rfl) rfl (hK _ (Mo.refl _))))
            · exact og_eq (pt z.cb 0) rfl (fun f wf hq hd K hK => go_run rfl (wo_nc (.tmp 54) z.cb 0 rfl (hd 0 rfl) (hK _ (Mo.refl _))))
            · exact og_eq (pt z.cb 8) rfl (fun f wf hq hd K hK => go_run rfl (wo_un (fun v => Instr.fieldAt 94 v 2) (.tmp 55) (pt z.cb 0) (pt z.cb 8) (fun _ => rfl) (hd 1 rfl) (by kernel_rfl) (hK _ (Mo.refl _))))
            · exact og_eq (.map (some z.tb)) rfl (fun f wf hq hd K hK => go_run rfl (wo_load 91 (.tmp 56) (pt z.cb 8) (.map (some z.tb)) rfl (hd 2 rfl) (D.run_oneR (hC.rw.mo (M.trans hq)).at' 91 8 rfl Try.underlying91 rfl) (hK _ (Mo.refl _))))
            · exact og_eq (pt k1 2) rfl (fun f wf hq hd K hK => go_run rfl (wo_un (fun v => Instr.fieldAt 64 v 2) (.tmp 5) (pt k1 0) (pt k1 2) (fun _ => rfl) rfl (by kernel_rfl) (hK _ (Mo.refl _))))
            · exact og_eq (.string x.nm) rfl (fun f wf hq hd K hK => have Q1 := Q1.mo hq; go_run rfl (wo_load 9 (.tmp 58) (pt k1 2) (.string x.nm) rfl (hd 4 rfl) (run_one Q1 9 2 rfl Try.underlying9 rfl) (hK _ (Mo.refl _))))
          intro kf2 w2 hq hR hne
          replace Q1 := Q1.mo hq
          replace M := M.trans hq
          clear hq hR hne
          refine wl_call 65 [(.tmp 57), (.tmp 59)] _ [.map (some z.tb), .string x.nm] (.bool false) rfl rfl (fun _ _ => by kernel_rfl) (cB hf3 (has_n (hC.om.mo M) x.nm hL.nm)) rfl ?_
          intro w3 hq
          replace Q1 := Q1.mo hq
          replace M := M.trans hq
          clear hq
          refine wl_mv (.tmp 60) (.bool false) (fun _ => rfl) rfl rfl ?_
          refine w_nil ?_
          refine xn_then ?_
          refine w_ret ?_
          refine xr_blk ?_
          refine xr_then ?_
          exact w_ret1 _ (.bool false) rfl rfl ⟨by unfold kno; rw [if_neg hf0p, if_neg hf1p, if_pos hf2p, hf3], M⟩
      | false =>
        have hf2p := of_decide_eq_false hf2
        refine wl_bin (fun x y => do eqGuard .eql 3 (.tmp 10) (.const (.int .i64 (8))) x y; binOp .eql 3 x y) (.tmp 10) (.const (.int .i64 (8))) (.int .i64 (x.k)) (.int .i64 (8)) (.bool false) (fun _ => rfl) rfl rfl (eq3 hf2 _ _ _) rfl ?_
        refine wl_mv (.tmp 53) (.bool false) (fun _ => rfl) rfl rfl ?_
        refine w_nil ?_
        refine xn_then ?_
        refine w_condF rfl ?_
        refine w_skip ?_
        refine xn_blk ?_
        refine xn_then ?_
        refine w_seq ?_
        refine w_reg ?_
        refine wl_mv (.const (.bool true)) (.bool true) (fun _ => rfl) rfl rfl ?_
        refine w_nil ?_
        refine xn_then ?_
        refine w_ret ?_
        exact w_ret1 _ (.bool true) rfl rfl ⟨by unfold kno; rw [if_neg hf0p, if_neg hf1p, if_neg hf2p], M⟩
end Go.Proofs.Ytbanldffohopiaa
