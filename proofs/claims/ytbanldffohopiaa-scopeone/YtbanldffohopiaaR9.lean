/-
  The document's side: Check.
-/
import Derived.Test.YtbanldffohopiaaR8
namespace Go.Proofs.Ytbanldffohopiaa
open Go.RowKit D
theorem fla_fl {d : Df} (h : seR (tbA d.tb d.tb.length) (fla d) = none) (nm : ByteArray) : fldR (itO (fla d) 0) nm = decide ((lk ((alF d).I 0) nm).getD 0 = 1) := by
  obtain ⟨x, hx⟩ := get_of_lt (fla_pos d)
  show _ = decide ((lk (stI (fla d) (fla d).length 0 0) nm).getD 0 = 1)
  rw [stI_lt (fla_pos d), fld_un (by rw [itO_of hx]; exact un_of h (fla_wf d) hx)]
theorem fla_kd (d : Df) (nm : ByteArray) : (lk ((alF d).K 0) nm).isSome = (ffi (kdP 0 nm) (fla d)).isSome := by
  show (lk (stK (fla d) (fla d).length 0) nm).isSome = _
  unfold stK; rw [kdA_any, List.take_length, ffi_isSome]; rfl
theorem rcheck_n (d : Df) {w : World} (hD : LDf w d) : Calls Try.prog 11 #[.agg (d.cells).toArray] w fun e w' => e = .returned (rv (chk d)) ∧ Mo w w' := by
  refine w_enter 141 Try.func11 Try.ntmps11 rfl rfl ?_
  have M : Mo w w := Mo.refl _
  refine w_seq ?_
  refine w_reg ?_
  refine wl_box 29 (.tmp 0) (.agg (d.cells).toArray) (((d.cells).toArray)) rfl rfl (fun _ => by kernel_rfl) rfl ?_
  intro k1 u1 hk hz hq Q1
  have N_k1 : w.heap.size ≤ k1 := by have := M.size; omega
  replace M := M.trans hq
  clear hk hz hq
  refine wl_alloc 33 #[.int .i64 0, .int .i64 0, .int .i64 0, .int .i64 0, .int .i64 0] rfl (fun _ => by kernel_rfl) rfl ?_
  intro k2 u2 hk hz hq Q2
  have ne_k1_k2 : k1 ≠ k2 := by have := Q1.lt; omega
  have N_k2 : w.heap.size ≤ k2 := by have := M.size; omega
  replace Q1 := Q1.mo hq
  replace M := M.trans hq
  clear hk hz hq
  refine wl_mv (.const (.int .i64 (0))) (.int .i64 (0)) (fun _ => rfl) rfl rfl ?_
  refine w_nil ?_
  refine xn_then ?_
  refine w_seq ?_
  refine w_reg ?_
  refine wl_load 29 (.tmp 1) (pt k1 0) (.agg (d.cells).toArray) rfl rfl (run_row Q1 29 0 7 (d.cells) rfl Try.underlying29 rfl sz29) rfl ?_
  refine wl_callx 35 [(.tmp 15)] _ [.agg (d.cells).toArray] rfl rfl (fun _ _ => by kernel_rfl) (rFlat_n d (hD.kp M.kp)) rfl ?_
  rintro e9 u3 ⟨pa, c, rfl, hS, hq⟩
  refine ⟨_, rfl, ?_⟩
  replace Q1 := Q1.mo hq
  replace Q2 := Q2.mo hq
  replace M := M.trans hq
  clear hq
  obtain ⟨L, hL⟩ : ∃ L, L = fla d := ⟨_, rfl⟩
  rw [← hL] at hS ⊢
  have hw : Wf L := by rw [hL]; exact fla_wf d
  have hz : L.length ≤ 64 := by rw [hL]; exact fla_len d
  have h0 : 0 < L.length := by rw [hL]; exact fla_pos d
  have h5 : ∀ x ∈ L, LS5 u3 x := fun x hx => (flt_ls d.rt hD.rt [] _ _ (fun _ h => by cases h) x (by rw [hL] at hx; exact hx)).kp M.kp
  replace hD := hD.kp M.kp
  have MK : Mk (fun _ => False) w _ := Mk.of _ M
  clear M
  have M : Mo u3 u3 := Mo.refl _
  refine wl_mv (.tmp 16) (.slice pa L.length c) (fun _ => rfl) rfl rfl ?_
  refine w_nil ?_
  refine xn_then ?_
  refine w_seq ?_
  refine w_seq ?_
  refine w_reg ?_
  refine wl_un (fun v => Instr.fieldAt 29 v 0) (.tmp 1) (pt k1 0) (pt k1 0) (fun _ => rfl) rfl (by kernel_rfl) rfl ?_
  refine wl_load 9 (.tmp 17) (pt k1 0) (.string d.nm) rfl rfl (run_one Q1 9 0 rfl Try.underlying9 rfl) rfl ?_
  cases hf0 : may d.nm with
  | true =>
    refine wl_call 36 [(.tmp 18)] _ [.string d.nm] (.bool true) rfl rfl (fun _ _ => by kernel_rfl) (cB hf0 (rmay_n d.nm _)) rfl ?_
    intro u4 hq
    replace Q1 := Q1.mo hq
    replace Q2 := Q2.mo hq
    replace M := M.trans hq
    clear hq
    refine wl_un (fun v => Op.unary .not v) (.tmp 19) (.bool true) (.bool false) (fun _ => rfl) rfl (by kernel_rfl) rfl ?_
    refine w_nil ?_
    refine xn_then ?_
    refine w_condF rfl ?_
    refine w_skip ?_
    refine xn_then ?_
    refine w_seq ?_
    refine w_reg ?_
    refine wl_mv (.const (.bool false)) (.bool false) (fun _ => rfl) rfl rfl ?_
    refine w_nil ?_
    refine xn_then ?_
    refine w_seq ?_
    refine w_seq ?_
    refine w_reg ?_
    refine wl_mv (.const (.int .i64 (0))) (.int .i64 (0)) (fun _ => rfl) rfl rfl ?_
    refine w_nil ?_
    refine xn_then ?_
    refine w_block ?_
    refine w_loop (fun m l w1 => ∃ i : Nat, m = L.length - i ∧ i ≤ L.length ∧ look l 1 = pt k1 0 ∧ look l 2 = pt k2 0 ∧ look l 4 = .slice pa L.length c ∧ look l 6 = .int .i64 ((i : Nat) : Int) ∧ At w1 k1 (d.cells) ∧ At w1 k2 [.int .i64 0, .int .i64 0, .int .i64 0, .int .i64 0, .int .i64 0] ∧ (look l 5 = .bool ((L.take i).any (fun x => decide (4 < x.dp)))) ∧ Mo u3 w1) _ ⟨0, rfl, Nat.zero_le _, rfl, rfl, rfl, rfl, Q1, Q2, rfl, M⟩ ?_
    clear Q1 Q2 M
    rintro m l40 wl40 ⟨i, rfl, hi, e40_1, e40_2, e40_4, e40_i, Q1, Q2, e5x, M⟩
    by_cases hil : i < L.length
    · skip
      have hid : decide (i < L.length) = true := decide_eq_true hil
      obtain ⟨b5, hb5⟩ : ∃ b, b = (L.take i).any (fun x => decide (4 < x.dp)) := ⟨_, rfl⟩
      rw [← hb5] at e5x
      obtain ⟨x, hx⟩ := get_of_lt hil
      obtain ⟨bp, op, hpp, hRp⟩ := D.SL.rw hS hx
      refine w_seq ?_
      refine w_seq ?_
      refine w_reg ?_
      refine wl_mv (.tmp 6) (.int .i64 ((i : Nat) : Int)) (fun _ => rfl) e40_i rfl ?_
      refine wl_mv (.tmp 4) (.slice pa L.length c) (fun _ => rfl) e40_4 rfl ?_
      refine wl_val (.int .i64 ((L.length : Nat) : Int)) (len37 _ _ _ _ _ (by exact rfl) _ _ _ _ _ _) rfl ?_
      refine wl_bin (fun x y => do eqGuard .lss 3 (.tmp 22) (.tmp 24) x y; binOp .lss 3 x y) (.tmp 22) (.tmp 24) (.int .i64 ((i : Nat) : Int)) (.int .i64 ((L.length : Nat) : Int)) (.bool true) (fun _ => rfl) rfl rfl (ltN hid _ _ _) rfl ?_
      refine w_nil ?_
      refine xn_then ?_
      refine w_condT rfl ?_
      refine w_skip ?_
      refine xn_then ?_
      refine w_seq ?_
      refine w_block ?_
      refine w_reg ?_
      refine wl_mv (.tmp 5) (.bool b5) (fun _ => rfl) e5x rfl ?_
      refine wl_mv (.tmp 28) (.bool b5) (fun _ => rfl) rfl rfl ?_
      cases b5 with
      | true =>
        refine wl_skip rfl ?_
        refine wl_skip rfl ?_
        refine wl_skip rfl ?_
        refine wl_skip rfl ?_
        refine wl_skip rfl ?_
        refine wl_skip rfl ?_
        refine wl_pick (.tmp 29) (.const (.bool true)) (.tmp 35) true (.bool true) (fun _ => rfl) rfl rfl rfl ?_
        refine wl_mv (.tmp 36) (.bool true) (fun _ => rfl) rfl rfl ?_
        refine w_nil ?_
        refine xn_blk ?_
        refine xn_then ?_
        refine w_reg ?_
        refine wl_mv (.tmp 6) (.int .i64 ((i : Nat) : Int)) (fun _ => rfl) e40_i rfl ?_
        refine wl_bin (fun x y => do eqGuard .add 3 (.tmp 26) (.const (.int .i64 (1))) x y; binOp .add 3 x y) (.tmp 26) (.const (.int .i64 (1))) (.int .i64 ((i : Nat) : Int)) (.int .i64 (1)) (.int .i64 ((i + 1 : Nat) : Int)) (fun _ => rfl) rfl rfl (add1r (k := i) (by omega) _ _ _) rfl ?_
        refine wl_mv (.tmp 27) (.int .i64 ((i + 1 : Nat) : Int)) (fun _ => rfl) rfl rfl ?_
        refine w_nil ?_
        exact xn_loop (L.length - (i + 1)) (by omega) ⟨i + 1, rfl, by omega, e40_1, e40_2, e40_4, rfl, Q1, Q2, (show look _ 5 = .bool ((L.take (i + 1)).any (fun x => decide (4 < x.dp))) from by rw [List.take_add_one, hx, List.any_append, ← hb5]; rfl), M⟩
      | false =>
        refine wl_mv (.tmp 4) (.slice pa L.length c) (fun _ => rfl) e40_4 rfl ?_
        refine wl_mv (.tmp 6) (.int .i64 ((i : Nat) : Int)) (fun _ => rfl) e40_i rfl ?_
        refine wl_bin (fun x y => Instr.indexAt 37 x y) (.tmp 30) (.tmp 31) (.slice pa L.length c) (.int .i64 ((i : Nat) : Int)) (pt bp (op + i * 5)) (fun _ => rfl) rfl rfl (ix37 (i := i) hpp hil _) rfl ?_
        refine wl_un (fun v => Instr.fieldAt 52 v 1) (.tmp 32) (pt bp (op + i * 5)) (pt bp (op + i * 5 + 1)) (fun _ => rfl) rfl (by kernel_rfl) rfl ?_
        refine wl_load 3 (.tmp 33) (pt bp (op + i * 5 + 1)) (.int .i64 (x.dp)) rfl rfl (D.run_oneR (hRp.mo M).at' 3 1 rfl Try.underlying3 rfl) rfl ?_
        cases hf30 : decide (4 < x.dp) with
        | true =>
          have hf30p := of_decide_eq_true hf30
          refine wl_bin (fun x y => do eqGuard .gtr 3 (.tmp 34) (.const (.int .i64 (4))) x y; binOp .gtr 3 x y) (.tmp 34) (.const (.int .i64 (4))) (.int .i64 (x.dp)) (.int .i64 (4)) (.bool true) (fun _ => rfl) rfl rfl (gt3 hf30 _ _ _) rfl ?_
          refine wl_pick (.tmp 29) (.const (.bool true)) (.tmp 35) false (.bool true) (fun _ => rfl) rfl rfl rfl ?_
          refine wl_mv (.tmp 36) (.bool true) (fun _ => rfl) rfl rfl ?_
          refine w_nil ?_
          refine xn_blk ?_
          refine xn_then ?_
          refine w_reg ?_
          refine wl_mv (.tmp 6) (.int .i64 ((i : Nat) : Int)) (fun _ => rfl) e40_i rfl ?_
          refine wl_bin (fun x y => do eqGuard .add 3 (.tmp 26) (.const (.int .i64 (1))) x y; binOp .add 3 x y) (.tmp 26) (.const (.int .i64 (1))) (.int .i64 ((i : Nat) : Int)) (.int .i64 (1)) (.int .i64 ((i + 1 : Nat) : Int)) (fun _ => rfl) rfl rfl (add1r (k := i) (by omega) _ _ _) rfl ?_
          refine wl_mv (.tmp 27) (.int .i64 ((i + 1 : Nat) : Int)) (fun _ => rfl) rfl rfl ?_
          refine w_nil ?_
          exact xn_loop (L.length - (i + 1)) (by omega) ⟨i + 1, rfl, by omega, e40_1, e40_2, e40_4, rfl, Q1, Q2, (show look _ 5 = .bool ((L.take (i + 1)).any (fun x => decide (4 < x.dp))) from by rw [List.take_add_one, hx, List.any_append, ← hb5, show (Option.toList (some x)).any (fun x => decide (4 < x.dp)) = true from by show (_ || false) = _; rw [Bool.or_false]; exact hf30]; rfl), M⟩
        | false =>
          have hf30p := of_decide_eq_false hf30
          refine wl_bin (fun x y => do eqGuard .gtr 3 (.tmp 34) (.const (.int .i64 (4))) x y; binOp .gtr 3 x y) (.tmp 34) (.const (.int .i64 (4))) (.int .i64 (x.dp)) (.int .i64 (4)) (.bool false) (fun _ => rfl) rfl rfl (gt3 hf30 _ _ _) rfl ?_
          refine wl_pick (.tmp 29) (.const (.bool true)) (.tmp 35) false (.bool false) (fun _ => rfl) rfl rfl rfl ?_
          refine wl_mv (.tmp 36) (.bool false) (fun _ => rfl) rfl rfl ?_
          refine w_nil ?_
          refine xn_blk ?_
          refine xn_then ?_
          refine w_reg ?_
          refine wl_mv (.tmp 6) (.int .i64 ((i : Nat) : Int)) (fun _ => rfl) e40_i rfl ?_
          refine wl_bin (fun x y => do eqGuard .add 3 (.tmp 26) (.const (.int .i64 (1))) x y; binOp .add 3 x y) (.tmp 26) (.const (.int .i64 (1))) (.int .i64 ((i : Nat) : Int)) (.int .i64 (1)) (.int .i64 ((i + 1 : Nat) : Int)) (fun _ => rfl) rfl rfl (add1r (k := i) (by omega) _ _ _) rfl ?_
          refine wl_mv (.tmp 27) (.int .i64 ((i + 1 : Nat) : Int)) (fun _ => rfl) rfl rfl ?_
          refine w_nil ?_
          exact xn_loop (L.length - (i + 1)) (by omega) ⟨i + 1, rfl, by omega, e40_1, e40_2, e40_4, rfl, Q1, Q2, (show look _ 5 = .bool ((L.take (i + 1)).any (fun x => decide (4 < x.dp))) from by rw [List.take_add_one, hx, List.any_append, ← hb5, show (Option.toList (some x)).any (fun x => decide (4 < x.dp)) = false from by show (_ || false) = _; rw [Bool.or_false]; exact hf30]; rfl), M⟩
    · skip
      have hid : decide (i < L.length) = false := decide_eq_false hil
      have hie : i = L.length := by omega
      rw [hie, List.take_length] at e5x
      refine w_seq ?_
      refine w_seq ?_
      refine w_reg ?_
      refine wl_mv (.tmp 6) (.int .i64 ((i : Nat) : Int)) (fun _ => rfl) e40_i rfl ?_
      refine wl_mv (.tmp 4) (.slice pa L.length c) (fun _ => rfl) e40_4 rfl ?_
      refine wl_val (.int .i64 ((L.length : Nat) : Int)) (len37 _ _ _ _ _ (by exact rfl) _ _ _ _ _ _) rfl ?_
      refine wl_bin (fun x y => do eqGuard .lss 3 (.tmp 22) (.tmp 24) x y; binOp .lss 3 x y) (.tmp 22) (.tmp 24) (.int .i64 ((i : Nat) : Int)) (.int .i64 ((L.length : Nat) : Int)) (.bool false) (fun _ => rfl) rfl rfl (ltN hid _ _ _) rfl ?_
      refine w_nil ?_
      refine xn_then ?_
      refine w_condF rfl ?_
      refine w_exit ?_
      refine xx_then ?_
      refine xx_then ?_
      refine xx_blk ?_
      refine xn_then ?_
      refine w_seq ?_
      refine w_seq ?_
      cases hdeep : L.any (fun x => decide (4 < x.dp)) with
      | true =>
        rw [hdeep] at e5x
        refine w_reg ?_
        refine wl_un (fun v => Instr.fieldAt 29 v 2) (.tmp 1) (pt k1 0) (pt k1 5) (fun _ => rfl) e40_1 (by kernel_rfl) rfl ?_
        refine wl_load 26 (.tmp 37) (pt k1 5) (.slice d.pt d.tb.length d.ct) rfl rfl (run_one Q1 26 5 rfl Try.underlying26 rfl) rfl ?_
        refine wl_val (.int .i64 ((d.tb.length : Nat) : Int)) (len26 _ _ _ _ _ (by exact rfl) _ _ _ _ _ _) rfl ?_
        cases hf30 : decide (8 < d.tb.length) with
        | true =>
          have hf30p := of_decide_eq_true hf30
          refine wl_bin (fun x y => do eqGuard .gtr 3 (.tmp 39) (.const (.int .i64 (8))) x y; binOp .gtr 3 x y) (.tmp 39) (.const (.int .i64 (8))) (.int .i64 ((d.tb.length : Nat) : Int)) (.int .i64 (8)) (.bool true) (fun _ => rfl) rfl rfl (gtN hf30 _ _ _) rfl ?_
          refine wl_mv (.tmp 40) (.bool true) (fun _ => rfl) rfl rfl ?_
          refine wl_skip rfl ?_
          refine wl_skip rfl ?_
          refine wl_skip rfl ?_
          refine wl_pick (.tmp 41) (.const (.bool true)) (.tmp 44) true (.bool true) (fun _ => rfl) rfl rfl rfl ?_
          refine wl_mv (.tmp 45) (.bool true) (fun _ => rfl) rfl rfl ?_
          refine wl_skip rfl ?_
          refine wl_skip rfl ?_
          refine wl_skip rfl ?_
          refine wl_skip rfl ?_
          refine wl_pick (.tmp 46) (.const (.bool true)) (.tmp 50) true (.bool true) (fun _ => rfl) rfl rfl rfl ?_
          refine wl_mv (.tmp 51) (.bool true) (fun _ => rfl) rfl rfl ?_
          refine wl_skip rfl ?_
          refine wl_pick (.tmp 52) (.const (.bool true)) (.tmp 53) true (.bool true) (fun _ => rfl) rfl rfl rfl ?_
          refine w_nil ?_
          refine xn_then ?_
          refine w_condT rfl ?_
          refine w_seq ?_
          refine w_reg ?_
          refine wl_build 33 [] [] (.agg #[.int .i64 0, .int .i64 0, .int .i64 0, .int .i64 0, .int .i64 0]) rfl rfl (by kernel_rfl) rfl ?_
          refine wl_stm 33 (.tmp 2) (.tmp 55) k2 0 #[.int .i64 0, .int .i64 0, .int .i64 0, .int .i64 0, .int .i64 0] [.int .i64 0, .int .i64 0, .int .i64 0, .int .i64 0, .int .i64 0] [.int .i64 0, .int .i64 0, .int .i64 0, .int .i64 0, .int .i64 0] Q2 rfl rfl e40_2 rfl rfl sz33 rfl rfl rfl ?_
          intro u41 hS hm9 Qn
          replace Q2 := Qn
          clear Qn
          replace Q1 := hS.other _ _ ne_k1_k2 Q1
          have hmT := (Mk.of (fun j => j = k2) M).same hm9
          replace MK := (MK.trans M).tr hm9 (fun j hj e => by omega)
          clear M hS hm9
          have M : Mo u41 u41 := Mo.refl _
          refine wl_mv (.const (.int .i64 (92))) (.int .i64 (92)) (fun _ => rfl) rfl rfl ?_
          refine w_nil ?_
          refine xn_then ?_
          refine w_ret ?_
          refine xr_then ?_
          have hwh : whE d L = 92 := by
            unfold whE tms
            rw [hf0]
            simp [hf30, hdeep]
          exact w_ret2 _ _ (.agg #[.int .i64 0, .int .i64 0, .int .i64 0, .int .i64 0, .int .i64 0]) (.int .i64 (92)) rfl ⟨k2, e40_2, (run_row Q2 33 0 5 [.int .i64 0, .int .i64 0, .int .i64 0, .int .i64 0, .int .i64 0] rfl Try.underlying33 rfl sz33)⟩ rfl ⟨by unfold chk; rw [← hL, er_1 (by rw [hwh]; decide), hwh]; rfl, (MK.trans M).mo (Mo.refl _) (fun _ h => h.elim)⟩
        | false =>
          have hf30p := of_decide_eq_false hf30
          refine wl_bin (fun x y => do eqGuard .gtr 3 (.tmp 39) (.const (.int .i64 (8))) x y; binOp .gtr 3 x y) (.tmp 39) (.const (.int .i64 (8))) (.int .i64 ((d.tb.length : Nat) : Int)) (.int .i64 (8)) (.bool false) (fun _ => rfl) rfl rfl (gtN hf30 _ _ _) rfl ?_
          refine wl_mv (.tmp 40) (.bool false) (fun _ => rfl) rfl rfl ?_
          refine wl_mv (.tmp 4) (.slice pa L.length c) (fun _ => rfl) e40_4 rfl ?_
          refine wl_val (.int .i64 ((L.length : Nat) : Int)) (len37 _ _ _ _ _ (by exact rfl) _ _ _ _ _ _) rfl ?_
          cases hf31 : decide (16 < L.length) with
          | true =>
            have hf31p := of_decide_eq_true hf31
            refine wl_bin (fun x y => do eqGuard .gtr 3 (.tmp 43) (.const (.int .i64 (16))) x y; binOp .gtr 3 x y) (.tmp 43) (.const (.int .i64 (16))) (.int .i64 ((L.length : Nat) : Int)) (.int .i64 (16)) (.bool true) (fun _ => rfl) rfl rfl (gtN hf31 _ _ _) rfl ?_
            refine wl_pick (.tmp 41) (.const (.bool true)) (.tmp 44) false (.bool true) (fun _ => rfl) rfl rfl rfl ?_
            refine wl_mv (.tmp 45) (.bool true) (fun _ => rfl) rfl rfl ?_
            refine wl_skip rfl ?_
            refine wl_skip rfl ?_
            refine wl_skip rfl ?_
            refine wl_skip rfl ?_
            refine wl_pick (.tmp 46) (.const (.bool true)) (.tmp 50) true (.bool true) (fun _ => rfl) rfl rfl rfl ?_
            refine wl_mv (.tmp 51) (.bool true) (fun _ => rfl) rfl rfl ?_
            refine wl_skip rfl ?_
            refine wl_pick (.tmp 52) (.const (.bool true)) (.tmp 53) true (.bool true) (fun _ => rfl) rfl rfl rfl ?_
            refine w_nil ?_
            refine xn_then ?_
            refine w_condT rfl ?_
            refine w_seq ?_
            refine w_reg ?_
            refine wl_build 33 [] [] (.agg #[.int .i64 0, .int .i64 0, .int .i64 0, .int .i64 0, .int .i64 0]) rfl rfl (by kernel_rfl) rfl ?_
            refine wl_stm 33 (.tmp 2) (.tmp 55) k2 0 #[.int .i64 0, .int .i64 0, .int .i64 0, .int .i64 0, .int .i64 0] [.int .i64 0, .int .i64 0, .int .i64 0, .int .i64 0, .int .i64 0] [.int .i64 0, .int .i64 0, .int .i64 0, .int .i64 0, .int .i64 0] Q2 rfl rfl e40_2 rfl rfl sz33 rfl rfl rfl ?_
            intro u41 hS hm9 Qn
            replace Q2 := Qn
            clear Qn
            replace Q1 := hS.other _ _ ne_k1_k2 Q1
            have hmT := (Mk.of (fun j => j = k2) M).same hm9
            replace MK := (MK.trans M).tr hm9 (fun j hj e => by omega)
            clear M hS hm9
            have M : Mo u41 u41 := Mo.refl _
            refine wl_mv (.const (.int .i64 (92))) (.int .i64 (92)) (fun _ => rfl) rfl rfl ?_
            refine w_nil ?_
            refine xn_then ?_
            refine w_ret ?_
            refine xr_then ?_
            have hwh : whE d L = 92 := by
              unfold whE tms
              rw [hf0]
              simp [hf30, hf31, hdeep]
            exact w_ret2 _ _ (.agg #[.int .i64 0, .int .i64 0, .int .i64 0, .int .i64 0, .int .i64 0]) (.int .i64 (92)) rfl ⟨k2, e40_2, (run_row Q2 33 0 5 [.int .i64 0, .int .i64 0, .int .i64 0, .int .i64 0, .int .i64 0] rfl Try.underlying33 rfl sz33)⟩ rfl ⟨by unfold chk; rw [← hL, er_1 (by rw [hwh]; decide), hwh]; rfl, (MK.trans M).mo (Mo.refl _) (fun _ h => h.elim)⟩
          | false =>
            have hf31p := of_decide_eq_false hf31
            refine wl_bin (fun x y => do eqGuard .gtr 3 (.tmp 43) (.const (.int .i64 (16))) x y; binOp .gtr 3 x y) (.tmp 43) (.const (.int .i64 (16))) (.int .i64 ((L.length : Nat) : Int)) (.int .i64 (16)) (.bool false) (fun _ => rfl) rfl rfl (gtN hf31 _ _ _) rfl ?_
            refine wl_pick (.tmp 41) (.const (.bool true)) (.tmp 44) false (.bool false) (fun _ => rfl) rfl rfl rfl ?_
            refine wl_mv (.tmp 45) (.bool false) (fun _ => rfl) rfl rfl ?_
            refine wl_un (fun v => Instr.fieldAt 29 v 3) (.tmp 1) (pt k1 0) (pt k1 6) (fun _ => rfl) e40_1 (by kernel_rfl) rfl ?_
            refine wl_load 27 (.tmp 47) (pt k1 6) (.slice d.pp d.pg.length d.cp) rfl rfl (run_one Q1 27 6 rfl Try.underlying27 rfl) rfl ?_
            refine wl_val (.int .i64 ((d.pg.length : Nat) : Int)) (len27 _ _ _ _ _ (by exact rfl) _ _ _ _ _ _) rfl ?_
            cases hf32 : decide (16 < d.pg.length) with
            | true =>
              have hf32p := of_decide_eq_true hf32
              refine wl_bin (fun x y => do eqGuard .gtr 3 (.tmp 49) (.const (.int .i64 (16))) x y; binOp .gtr 3 x y) (.tmp 49) (.const (.int .i64 (16))) (.int .i64 ((d.pg.length : Nat) : Int)) (.int .i64 (16)) (.bool true) (fun _ => rfl) rfl rfl (gtN hf32 _ _ _) rfl ?_
              refine wl_pick (.tmp 46) (.const (.bool true)) (.tmp 50) false (.bool true) (fun _ => rfl) rfl rfl rfl ?_
              refine wl_mv (.tmp 51) (.bool true) (fun _ => rfl) rfl rfl ?_
              refine wl_skip rfl ?_
              refine wl_pick (.tmp 52) (.const (.bool true)) (.tmp 53) true (.bool true) (fun _ => rfl) rfl rfl rfl ?_
              refine w_nil ?_
              refine xn_then ?_
              refine w_condT rfl ?_
              refine w_seq ?_
              refine w_reg ?_
              refine wl_build 33 [] [] (.agg #[.int .i64 0, .int .i64 0, .int .i64 0, .int .i64 0, .int .i64 0]) rfl rfl (by kernel_rfl) rfl ?_
              refine wl_stm 33 (.tmp 2) (.tmp 55) k2 0 #[.int .i64 0, .int .i64 0, .int .i64 0, .int .i64 0, .int .i64 0] [.int .i64 0, .int .i64 0, .int .i64 0, .int .i64 0, .int .i64 0] [.int .i64 0, .int .i64 0, .int .i64 0, .int .i64 0, .int .i64 0] Q2 rfl rfl e40_2 rfl rfl sz33 rfl rfl rfl ?_
              intro u41 hS hm9 Qn
              replace Q2 := Qn
              clear Qn
              replace Q1 := hS.other _ _ ne_k1_k2 Q1
              have hmT := (Mk.of (fun j => j = k2) M).same hm9
              replace MK := (MK.trans M).tr hm9 (fun j hj e => by omega)
              clear M hS hm9
              have M : Mo u41 u41 := Mo.refl _
              refine wl_mv (.const (.int .i64 (92))) (.int .i64 (92)) (fun _ => rfl) rfl rfl ?_
              refine w_nil ?_
              refine xn_then ?_
              refine w_ret ?_
              refine xr_then ?_
              have hwh : whE d L = 92 := by
                unfold whE tms
                rw [hf0]
                simp [hf30, hf31, hf32, hdeep]
              exact w_ret2 _ _ (.agg #[.int .i64 0, .int .i64 0, .int .i64 0, .int .i64 0, .int .i64 0]) (.int .i64 (92)) rfl ⟨k2, e40_2, (run_row Q2 33 0 5 [.int .i64 0, .int .i64 0, .int .i64 0, .int .i64 0, .int .i64 0] rfl Try.underlying33 rfl sz33)⟩ rfl ⟨by unfold chk; rw [← hL, er_1 (by rw [hwh]; decide), hwh]; rfl, (MK.trans M).mo (Mo.refl _) (fun _ h => h.elim)⟩
            | false =>
              have hf32p := of_decide_eq_false hf32
              refine wl_bin (fun x y => do eqGuard .gtr 3 (.tmp 49) (.const (.int .i64 (16))) x y; binOp .gtr 3 x y) (.tmp 49) (.const (.int .i64 (16))) (.int .i64 ((d.pg.length : Nat) : Int)) (.int .i64 (16)) (.bool false) (fun _ => rfl) rfl rfl (gtN hf32 _ _ _) rfl ?_
              refine wl_pick (.tmp 46) (.const (.bool true)) (.tmp 50) false (.bool false) (fun _ => rfl) rfl rfl rfl ?_
              refine wl_mv (.tmp 51) (.bool false) (fun _ => rfl) rfl rfl ?_
              refine wl_mv (.tmp 5) (.bool true) (fun _ => rfl) e5x rfl ?_
              refine wl_pick (.tmp 52) (.const (.bool true)) (.tmp 53) false (.bool true) (fun _ => rfl) rfl rfl rfl ?_
              refine w_nil ?_
              refine xn_then ?_
              refine w_condT rfl ?_
              refine w_seq ?_
              refine w_reg ?_
              refine wl_build 33 [] [] (.agg #[.int .i64 0, .int .i64 0, .int .i64 0, .int .i64 0, .int .i64 0]) rfl rfl (by kernel_rfl) rfl ?_
              refine wl_stm 33 (.tmp 2) (.tmp 55) k2 0 #[.int .i64 0, .int .i64 0, .int .i64 0, .int .i64 0, .int .i64 0] [.int .i64 0, .int .i64 0, .int .i64 0, .int .i64 0, .int .i64 0] [.int .i64 0, .int .i64 0, .int .i64 0, .int .i64 0, .int .i64 0] Q2 rfl rfl e40_2 rfl rfl sz33 rfl rfl rfl ?_
              intro u41 hS hm9 Qn
              replace Q2 := Qn
              clear Qn
              replace Q1 := hS.other _ _ ne_k1_k2 Q1
              have hmT := (Mk.of (fun j => j = k2) M).same hm9
              replace MK := (MK.trans M).tr hm9 (fun j hj e => by omega)
              clear M hS hm9
              have M : Mo u41 u41 := Mo.refl _
              refine wl_mv (.const (.int .i64 (92))) (.int .i64 (92)) (fun _ => rfl) rfl rfl ?_
              refine w_nil ?_
              refine xn_then ?_
              refine w_ret ?_
              refine xr_then ?_
              have hwh : whE d L = 92 := by
                unfold whE tms
                rw [hf0]
                simp [hf30, hf31, hf32, hdeep]
              exact w_ret2 _ _ (.agg #[.int .i64 0, .int .i64 0, .int .i64 0, .int .i64 0, .int .i64 0]) (.int .i64 (92)) rfl ⟨k2, e40_2, (run_row Q2 33 0 5 [.int .i64 0, .int .i64 0, .int .i64 0, .int .i64 0, .int .i64 0] rfl Try.underlying33 rfl sz33)⟩ rfl ⟨by unfold chk; rw [← hL, er_1 (by rw [hwh]; decide), hwh]; rfl, (MK.trans M).mo (Mo.refl _) (fun _ h => h.elim)⟩
      | false =>
        rw [hdeep] at e5x
        refine w_reg ?_
        refine wl_un (fun v => Instr.fieldAt 29 v 2) (.tmp 1) (pt k1 0) (pt k1 5) (fun _ => rfl) e40_1 (by kernel_rfl) rfl ?_
        refine wl_load 26 (.tmp 37) (pt k1 5) (.slice d.pt d.tb.length d.ct) rfl rfl (run_one Q1 26 5 rfl Try.underlying26 rfl) rfl ?_
        refine wl_val (.int .i64 ((d.tb.length : Nat) : Int)) (len26 _ _ _ _ _ (by exact rfl) _ _ _ _ _ _) rfl ?_
        cases hf30 : decide (8 < d.tb.length) with
        | true =>
          have hf30p := of_decide_eq_true hf30
          refine wl_bin (fun x y => do eqGuard .gtr 3 (.tmp 39) (.const (.int .i64 (8))) x y; binOp .gtr 3 x y) (.tmp 39) (.const (.int .i64 (8))) (.int .i64 ((d.tb.length : Nat) : Int)) (.int .i64 (8)) (.bool true) (fun _ => rfl) rfl rfl (gtN hf30 _ _ _) rfl ?_
          refine wl_mv (.tmp 40) (.bool true) (fun _ => rfl) rfl rfl ?_
          refine wl_skip rfl ?_
          refine wl_skip rfl ?_
          refine wl_skip rfl ?_
          refine wl_pick (.tmp 41) (.const (.bool true)) (.tmp 44) true (.bool true) (fun _ => rfl) rfl rfl rfl ?_
          refine wl_mv (.tmp 45) (.bool true) (fun _ => rfl) rfl rfl ?_
          refine wl_skip rfl ?_
          refine wl_skip rfl ?_
          refine wl_skip rfl ?_
          refine wl_skip rfl ?_
          refine wl_pick (.tmp 46) (.const (.bool true)) (.tmp 50) true (.bool true) (fun _ => rfl) rfl rfl rfl ?_
          refine wl_mv (.tmp 51) (.bool true) (fun _ => rfl) rfl rfl ?_
          refine wl_skip rfl ?_
          refine wl_pick (.tmp 52) (.const (.bool true)) (.tmp 53) true (.bool true) (fun _ => rfl) rfl rfl rfl ?_
          refine w_nil ?_
          refine xn_then ?_
          refine w_condT rfl ?_
          refine w_seq ?_
          refine w_reg ?_
          refine wl_build 33 [] [] (.agg #[.int .i64 0, .int .i64 0, .int .i64 0, .int .i64 0, .int .i64 0]) rfl rfl (by kernel_rfl) rfl ?_
          refine wl_stm 33 (.tmp 2) (.tmp 55) k2 0 #[.int .i64 0, .int .i64 0, .int .i64 0, .int .i64 0, .int .i64 0] [.int .i64 0, .int .i64 0, .int .i64 0, .int .i64 0, .int .i64 0] [.int .i64 0, .int .i64 0, .int .i64 0, .int .i64 0, .int .i64 0] Q2 rfl rfl e40_2 rfl rfl sz33 rfl rfl rfl ?_
          intro u41 hS hm9 Qn
          replace Q2 := Qn
          clear Qn
          replace Q1 := hS.other _ _ ne_k1_k2 Q1
          have hmT := (Mk.of (fun j => j = k2) M).same hm9
          replace MK := (MK.trans M).tr hm9 (fun j hj e => by omega)
          clear M hS hm9
          have M : Mo u41 u41 := Mo.refl _
          refine wl_mv (.const (.int .i64 (92))) (.int .i64 (92)) (fun _ => rfl) rfl rfl ?_
          refine w_nil ?_
          refine xn_then ?_
          refine w_ret ?_
          refine xr_then ?_
          have hwh : whE d L = 92 := by
            unfold whE tms
            rw [hf0]
            simp [hf30, hdeep]
          exact w_ret2 _ _ (.agg #[.int .i64 0, .int .i64 0, .int .i64 0, .int .i64 0, .int .i64 0]) (.int .i64 (92)) rfl ⟨k2, e40_2, (run_row Q2 33 0 5 [.int .i64 0, .int .i64 0, .int .i64 0, .int .i64 0, .int .i64 0] rfl Try.underlying33 rfl sz33)⟩ rfl ⟨by unfold chk; rw [← hL, er_1 (by rw [hwh]; decide), hwh]; rfl, (MK.trans M).mo (Mo.refl _) (fun _ h => h.elim)⟩
        | false =>
          have hf30p := of_decide_eq_false hf30
          refine wl_bin (fun x y => do eqGuard .gtr 3 (.tmp 39) (.const (.int .i64 (8))) x y; binOp .gtr 3 x y) (.tmp 39) (.const (.int .i64 (8))) (.int .i64 ((d.tb.length : Nat) : Int)) (.int .i64 (8)) (.bool false) (fun _ => rfl) rfl rfl (gtN hf30 _ _ _) rfl ?_
          refine wl_mv (.tmp 40) (.bool false) (fun _ => rfl) rfl rfl ?_
          refine wl_mv (.tmp 4) (.slice pa L.length c) (fun _ => rfl) e40_4 rfl ?_
          refine wl_val (.int .i64 ((L.length : Nat) : Int)) (len37 _ _ _ _ _ (by exact rfl) _ _ _ _ _ _) rfl ?_
          cases hf31 : decide (16 < L.length) with
          | true =>
            have hf31p := of_decide_eq_true hf31
            refine wl_bin (fun x y => do eqGuard .gtr 3 (.tmp 43) (.const (.int .i64 (16))) x y; binOp .gtr 3 x y) (.tmp 43) (.const (.int .i64 (16))) (.int .i64 ((L.length : Nat) : Int)) (.int .i64 (16)) (.bool true) (fun _ => rfl) rfl rfl (gtN hf31 _ _ _) rfl ?_
            refine wl_pick (.tmp 41) (.const (.bool true)) (.tmp 44) false (.bool true) (fun _ => rfl) rfl rfl rfl ?_
            refine wl_mv (.tmp 45) (.bool true) (fun _ => rfl) rfl rfl ?_
            refine wl_skip rfl ?_
            refine wl_skip rfl ?_
            refine wl_skip rfl ?_
            refine wl_skip rfl ?_
            refine wl_pick (.tmp 46) (.const (.bool true)) (.tmp 50) true (.bool true) (fun _ => rfl) rfl rfl rfl ?_
            refine wl_mv (.tmp 51) (.bool true) (fun _ => rfl) rfl rfl ?_
            refine wl_skip rfl ?_
            refine wl_pick (.tmp 52) (.const (.bool true)) (.tmp 53) true (.bool true) (fun _ => rfl) rfl rfl rfl ?_
            refine w_nil ?_
            refine xn_then ?_
            refine w_condT rfl ?_
            refine w_seq ?_
            refine w_reg ?_
            refine wl_build 33 [] [] (.agg #[.int .i64 0, .int .i64 0, .int .i64 0, .int .i64 0, .int .i64 0]) rfl rfl (by kernel_rfl) rfl ?_
            refine wl_stm 33 (.tmp 2) (.tmp 55) k2 0 #[.int .i64 0, .int .i64 0, .int .i64 0, .int .i64 0, .int .i64 0] [.int .i64 0, .int .i64 0, .int .i64 0, .int .i64 0, .int .i64 0] [.int .i64 0, .int .i64 0, .int .i64 0, .int .i64 0, .int .i64 0] Q2 rfl rfl e40_2 rfl rfl sz33 rfl rfl rfl ?_
            intro u41 hS hm9 Qn
            replace Q2 := Qn
            clear Qn
            replace Q1 := hS.other _ _ ne_k1_k2 Q1
            have hmT := (Mk.of (fun j => j = k2) M).same hm9
            replace MK := (MK.trans M).tr hm9 (fun j hj e => by omega)
            clear M hS hm9
            have M : Mo u41 u41 := Mo.refl _
            refine wl_mv (.const (.int .i64 (92))) (.int .i64 (92)) (fun _ => rfl) rfl rfl ?_
            refine w_nil ?_
            refine xn_then ?_
            refine w_ret ?_
            refine xr_then ?_
            have hwh : whE d L = 92 := by
              unfold whE tms
              rw [hf0]
              simp [hf30, hf31, hdeep]
            exact w_ret2 _ _ (.agg #[.int .i64 0, .int .i64 0, .int .i64 0, .int .i64 0, .int .i64 0]) (.int .i64 (92)) rfl ⟨k2, e40_2, (run_row Q2 33 0 5 [.int .i64 0, .int .i64 0, .int .i64 0, .int .i64 0, .int .i64 0] rfl Try.underlying33 rfl sz33)⟩ rfl ⟨by unfold chk; rw [← hL, er_1 (by rw [hwh]; decide), hwh]; rfl, (MK.trans M).mo (Mo.refl _) (fun _ h => h.elim)⟩
          | false =>
            have hf31p := of_decide_eq_false hf31
            refine wl_bin (fun x y => do eqGuard .gtr 3 (.tmp 43) (.const (.int .i64 (16))) x y; binOp .gtr 3 x y) (.tmp 43) (.const (.int .i64 (16))) (.int .i64 ((L.length : Nat) : Int)) (.int .i64 (16)) (.bool false) (fun _ => rfl) rfl rfl (gtN hf31 _ _ _) rfl ?_
            refine wl_pick (.tmp 41) (.const (.bool true)) (.tmp 44) false (.bool false) (fun _ => rfl) rfl rfl rfl ?_
            refine wl_mv (.tmp 45) (.bool false) (fun _ => rfl) rfl rfl ?_
            refine wl_un (fun v => Instr.fieldAt 29 v 3) (.tmp 1) (pt k1 0) (pt k1 6) (fun _ => rfl) e40_1 (by kernel_rfl) rfl ?_
            refine wl_load 27 (.tmp 47) (pt k1 6) (.slice d.pp d.pg.length d.cp) rfl rfl (run_one Q1 27 6 rfl Try.underlying27 rfl) rfl ?_
            refine wl_val (.int .i64 ((d.pg.length : Nat) : Int)) (len27 _ _ _ _ _ (by exact rfl) _ _ _ _ _ _) rfl ?_
            cases hf32 : decide (16 < d.pg.length) with
            | true =>
              have hf32p := of_decide_eq_true hf32
              refine wl_bin (fun x y => do eqGuard .gtr 3 (.tmp 49) (.const (.int .i64 (16))) x y; binOp .gtr 3 x y) (.tmp 49) (.const (.int .i64 (16))) (.int .i64 ((d.pg.length : Nat) : Int)) (.int .i64 (16)) (.bool true) (fun _ => rfl) rfl rfl (gtN hf32 _ _ _) rfl ?_
              refine wl_pick (.tmp 46) (.const (.bool true)) (.tmp 50) false (.bool true) (fun _ => rfl) rfl rfl rfl ?_
              refine wl_mv (.tmp 51) (.bool true) (fun _ => rfl) rfl rfl ?_
              refine wl_skip rfl ?_
              refine wl_pick (.tmp 52) (.const (.bool true)) (.tmp 53) true (.bool true) (fun _ => rfl) rfl rfl rfl ?_
              refine w_nil ?_
              refine xn_then ?_
              refine w_condT rfl ?_
              refine w_seq ?_
              refine w_reg ?_
              refine wl_build 33 [] [] (.agg #[.int .i64 0, .int .i64 0, .int .i64 0, .int .i64 0, .int .i64 0]) rfl rfl (by kernel_rfl) rfl ?_
              refine wl_stm 33 (.tmp 2) (.tmp 55) k2 0 #[.int .i64 0, .int .i64 0, .int .i64 0, .int .i64 0, .int .i64 0] [.int .i64 0, .int .i64 0, .int .i64 0, .int .i64 0, .int .i64 0] [.int .i64 0, .int .i64 0, .int .i64 0, .int .i64 0, .int .i64 0] Q2 rfl rfl e40_2 rfl rfl sz33 rfl rfl rfl ?_
              intro u41 hS hm9 Qn
              replace Q2 := Qn
              clear Qn
              replace Q1 := hS.other _ _ ne_k1_k2 Q1
              have hmT := (Mk.of (fun j => j = k2) M).same hm9
              replace MK := (MK.trans M).tr hm9 (fun j hj e => by omega)
              clear M hS hm9
              have M : Mo u41 u41 := Mo.refl _
              refine wl_mv (.const (.int .i64 (92))) (.int .i64 (92)) (fun _ => rfl) rfl rfl ?_
              refine w_nil ?_
              refine xn_then ?_
              refine w_ret ?_
              refine xr_then ?_
              have hwh : whE d L = 92 := by
                unfold whE tms
                rw [hf0]
                simp [hf30, hf31, hf32, hdeep]
              exact w_ret2 _ _ (.agg #[.int .i64 0, .int .i64 0, .int .i64 0, .int .i64 0, .int .i64 0]) (.int .i64 (92)) rfl ⟨k2, e40_2, (run_row Q2 33 0 5 [.int .i64 0, .int .i64 0, .int .i64 0, .int .i64 0, .int .i64 0] rfl Try.underlying33 rfl sz33)⟩ rfl ⟨by unfold chk; rw [← hL, er_1 (by rw [hwh]; decide), hwh]; rfl, (MK.trans M).mo (Mo.refl _) (fun _ h => h.elim)⟩
            | false =>
              have hf32p := of_decide_eq_false hf32
              refine wl_bin (fun x y => do eqGuard .gtr 3 (.tmp 49) (.const (.int .i64 (16))) x y; binOp .gtr 3 x y) (.tmp 49) (.const (.int .i64 (16))) (.int .i64 ((d.pg.length : Nat) : Int)) (.int .i64 (16)) (.bool false) (fun _ => rfl) rfl rfl (gtN hf32 _ _ _) rfl ?_
              refine wl_pick (.tmp 46) (.const (.bool true)) (.tmp 50) false (.bool false) (fun _ => rfl) rfl rfl rfl ?_
              refine wl_mv (.tmp 51) (.bool false) (fun _ => rfl) rfl rfl ?_
              refine wl_mv (.tmp 5) (.bool false) (fun _ => rfl) e5x rfl ?_
              refine wl_pick (.tmp 52) (.const (.bool true)) (.tmp 53) false (.bool false) (fun _ => rfl) rfl rfl rfl ?_
              refine w_nil ?_
              refine xn_then ?_
              refine w_condF rfl ?_
              refine w_skip ?_
              refine xn_then ?_
              refine w_seq ?_
              refine w_seq ?_
              refine w_reg ?_
              refine wl_mv (.const (.int .i64 (0))) (.int .i64 (0)) (fun _ => rfl) rfl rfl ?_
              refine w_nil ?_
              refine xn_then ?_
              refine w_block ?_
              have hwh : whE d L = 0 := by
                unfold whE tms
                rw [hf0]
                simp [hf30, hf31, hf32, hdeep]
              have hzt := hD.tb.1
              unfold maxLen at hzt
              refine w_loop (fun m l w1 => ∃ i : Nat, m = d.tb.length - i ∧ i ≤ d.tb.length ∧ look l 1 = pt k1 0 ∧ look l 2 = pt k2 0 ∧ look l 4 = .slice pa L.length c ∧ look l 7 = .int .i64 ((i : Nat) : Int) ∧ At w1 k1 (d.cells) ∧ At w1 k2 [.int .i64 0, .int .i64 0, .int .i64 0, .int .i64 0, .int .i64 0] ∧ (∀ j, j < i → tbG d.tb j = none) ∧ Mo u3 w1) _ ⟨0, rfl, Nat.zero_le _, e40_1, e40_2, e40_4, rfl, Q1, Q2, (fun j hj => by omega), M⟩ ?_
              clear Q1 Q2 M
              rintro m l100 wl100 ⟨i, rfl, hi, e100_1, e100_2, e100_4, e100_i, Q1, Q2, hG, M⟩
              by_cases hil : i < d.tb.length
              · skip
                have hid : decide (i < d.tb.length) = true := decide_eq_true hil
                obtain ⟨x, hx⟩ := get_of_lt hil
                refine w_seq ?_
                refine w_seq ?_
                refine w_reg ?_
                refine wl_mv (.tmp 7) (.int .i64 ((i : Nat) : Int)) (fun _ => rfl) e100_i rfl ?_
                refine wl_un (fun v => Instr.fieldAt 29 v 2) (.tmp 1) (pt k1 0) (pt k1 5) (fun _ => rfl) e100_1 (by kernel_rfl) rfl ?_
                refine wl_load 26 (.tmp 57) (pt k1 5) (.slice d.pt d.tb.length d.ct) rfl rfl (run_one Q1 26 5 rfl Try.underlying26 rfl) rfl ?_
                refine wl_val (.int .i64 ((d.tb.length : Nat) : Int)) (len26 _ _ _ _ _ (by exact rfl) _ _ _ _ _ _) rfl ?_
                refine wl_bin (fun x y => do eqGuard .lss 3 (.tmp 56) (.tmp 59) x y; binOp .lss 3 x y) (.tmp 56) (.tmp 59) (.int .i64 ((i : Nat) : Int)) (.int .i64 ((d.tb.length : Nat) : Int)) (.bool true) (fun _ => rfl) rfl rfl (ltN hid _ _ _) rfl ?_
                refine w_nil ?_
                refine xn_then ?_
                refine w_condT rfl ?_
                refine w_skip ?_
                refine xn_then ?_
                refine w_seq ?_
                refine w_block ?_
                refine w_seq ?_
                refine w_reg ?_
                refine wl_load 29 (.tmp 1) (pt k1 0) (.agg (d.cells).toArray) rfl e100_1 (run_row Q1 29 0 7 (d.cells) rfl Try.underlying29 rfl sz29) rfl ?_
                refine wl_mv (.tmp 7) (.int .i64 ((i : Nat) : Int)) (fun _ => rfl) e100_i rfl ?_
                refine wl_call 37 [(.tmp 63), (.tmp 64)] _ [.agg (d.cells).toArray, .int .i64 ((i : Nat) : Int)] (.int .i64 (tbE (tbA d.tb i) x)) rfl rfl (fun _ _ => by kernel_rfl) (rtable_n d (hD.kp M.kp) i x hx) rfl ?_
                intro u101 hq
                replace Q1 := Q1.mo hq
                replace Q2 := Q2.mo hq
                replace M := M.trans hq
                clear hq
                refine wl_mv (.tmp 65) (.int .i64 (tbE (tbA d.tb i) x)) (fun _ => rfl) rfl rfl ?_
                refine w_nil ?_
                refine xn_then ?_
                refine w_seq ?_
                refine w_reg ?_
                refine wl_mv (.tmp 8) (.int .i64 (tbE (tbA d.tb i) x)) (fun _ => rfl) rfl rfl ?_
                cases hf70 : decide (tbE (tbA d.tb i) x = 0) with
                | true =>
                  have hf70p := of_decide_eq_true hf70
                  refine wl_bin (fun x y => do eqGuard .neq 34 (.tmp 66) (.const (.int .i64 (0))) x y; binOp .neq 34 x y) (.tmp 66) (.const (.int .i64 (0))) (.int .i64 (tbE (tbA d.tb i) x)) (.int .i64 (0)) (.bool false) (fun _ => rfl) rfl rfl (ne34 hf70 _ _ _) rfl ?_
                  refine w_nil ?_
                  refine xn_then ?_
                  refine w_condF rfl ?_
                  refine w_skip ?_
                  refine xn_blk ?_
                  refine xn_then ?_
                  refine w_reg ?_
                  refine wl_mv (.tmp 7) (.int .i64 ((i : Nat) : Int)) (fun _ => rfl) e100_i rfl ?_
                  refine wl_bin (fun x y => do eqGuard .add 3 (.tmp 61) (.const (.int .i64 (1))) x y; binOp .add 3 x y) (.tmp 61) (.const (.int .i64 (1))) (.int .i64 ((i : Nat) : Int)) (.int .i64 (1)) (.int .i64 ((i + 1 : Nat) : Int)) (fun _ => rfl) rfl rfl (add1r (k := i) (by omega) _ _ _) rfl ?_
                  refine wl_mv (.tmp 62) (.int .i64 ((i + 1 : Nat) : Int)) (fun _ => rfl) rfl rfl ?_
                  refine w_nil ?_
                  exact xn_loop (d.tb.length - (i + 1)) (by omega) ⟨i + 1, rfl, by omega, e100_1, e100_2, e100_4, rfl, Q1, Q2, fs_step hG ((tbG_of hx).trans (er_0 hf70p)), M⟩
                | false =>
                  have hf70p := of_decide_eq_false hf70
                  refine wl_bin (fun x y => do eqGuard .neq 34 (.tmp 66) (.const (.int .i64 (0))) x y; binOp .neq 34 x y) (.tmp 66) (.const (.int .i64 (0))) (.int .i64 (tbE (tbA d.tb i) x)) (.int .i64 (0)) (.bool true) (fun _ => rfl) rfl rfl (ne34 hf70 _ _ _) rfl ?_
                  refine w_nil ?_
                  refine xn_then ?_
                  refine w_condT rfl ?_
                  refine w_seq ?_
                  refine w_reg ?_
                  refine wl_mv (.tmp 7) (.int .i64 ((i : Nat) : Int)) (fun _ => rfl) e100_i rfl ?_
                  refine wl_build 33 [(0, (.const (.int .i64 (1)))), (3, (.tmp 68))] [(0, .int .i64 (1)), (3, .int .i64 ((i : Nat) : Int))] (.agg #[.int .i64 (1), .int .i64 0, .int .i64 0, .int .i64 ((i : Nat) : Int), .int .i64 0]) rfl rfl (by kernel_rfl) rfl ?_
                  refine wl_mv (.tmp 8) (.int .i64 (tbE (tbA d.tb i) x)) (fun _ => rfl) rfl rfl ?_
                  refine wl_stm 33 (.tmp 2) (.tmp 69) k2 0 #[.int .i64 (1), .int .i64 0, .int .i64 0, .int .i64 ((i : Nat) : Int), .int .i64 0] [.int .i64 0, .int .i64 0, .int .i64 0, .int .i64 0, .int .i64 0] [.int .i64 (1), .int .i64 0, .int .i64 0, .int .i64 ((i : Nat) : Int), .int .i64 0] Q2 rfl rfl e100_2 rfl rfl sz33 rfl rfl rfl ?_
                  intro u102 hS hm9 Qn
                  replace Q2 := Qn
                  clear Qn
                  replace Q1 := hS.other _ _ ne_k1_k2 Q1
                  have hmT := (Mk.of (fun j => j = k2) M).same hm9
                  replace MK := (MK.trans M).tr hm9 (fun j hj e => by omega)
                  clear M hS hm9
                  have M : Mo u102 u102 := Mo.refl _
                  refine wl_mv (.tmp 70) (.int .i64 (tbE (tbA d.tb i) x)) (fun _ => rfl) rfl rfl ?_
                  refine w_nil ?_
                  refine xn_then ?_
                  refine w_ret ?_
                  refine xr_blk ?_
                  refine xr_then ?_
                  refine xr_then ?_
                  refine xr_blk ?_
                  refine xr_then ?_
                  exact w_ret2 _ _ (.agg #[.int .i64 (1), .int .i64 0, .int .i64 0, .int .i64 ((i : Nat) : Int), .int .i64 0]) (.int .i64 (tbE (tbA d.tb i) x)) rfl ⟨k2, e100_2, (run_row Q2 33 0 5 [.int .i64 (1), .int .i64 0, .int .i64 0, .int .i64 ((i : Nat) : Int), .int .i64 0] rfl Try.underlying33 rfl sz33)⟩ rfl ⟨by unfold chk; rw [← hL, er_0 hwh, Option.none_or, show tbR d.tb = some (plc 1 0 0 i 0, tbE (tbA d.tb i) x) from fs_hit hG ((tbG_of hx).trans (er_1 hf70p)) hil]; rfl, (MK.trans M).mo (Mo.refl _) (fun _ h => h.elim)⟩
              · skip
                have hid : decide (i < d.tb.length) = false := decide_eq_false hil
                have hie : i = d.tb.length := by omega
                have htb : tbR d.tb = none := fs_none (by rw [← hie]; exact hG)
                refine w_seq ?_
                refine w_seq ?_
                refine w_reg ?_
                refine wl_mv (.tmp 7) (.int .i64 ((i : Nat) : Int)) (fun _ => rfl) e100_i rfl ?_
                refine wl_un (fun v => Instr.fieldAt 29 v 2) (.tmp 1) (pt k1 0) (pt k1 5) (fun _ => rfl) e100_1 (by kernel_rfl) rfl ?_
                refine wl_load 26 (.tmp 57) (pt k1 5) (.slice d.pt d.tb.length d.ct) rfl rfl (run_one Q1 26 5 rfl Try.underlying26 rfl) rfl ?_
                refine wl_val (.int .i64 ((d.tb.length : Nat) : Int)) (len26 _ _ _ _ _ (by exact rfl) _ _ _ _ _ _) rfl ?_
                refine wl_bin (fun x y => do eqGuard .lss 3 (.tmp 56) (.tmp 59) x y; binOp .lss 3 x y) (.tmp 56) (.tmp 59) (.int .i64 ((i : Nat) : Int)) (.int .i64 ((d.tb.length : Nat) : Int)) (.bool false) (fun _ => rfl) rfl rfl (ltN hid _ _ _) rfl ?_
                refine w_nil ?_
                refine xn_then ?_
                refine w_condF rfl ?_
                refine w_exit ?_
                refine xx_then ?_
                refine xx_then ?_
                refine xx_blk ?_
                refine xn_then ?_
                refine w_seq ?_
                refine w_seq ?_
                refine w_reg ?_
                refine wl_mv (.tmp 4) (.slice pa L.length c) (fun _ => rfl) e100_4 rfl ?_
                cases hf70 : (seR (tbA d.tb d.tb.length) L).isNone with
                | true =>
                  have hse := isnn hf70
                  refine wl_call 38 [(.tmp 72)] _ [.slice pa L.length c] (.tuple #[.agg #[.int .i64 (0), .int .i64 (0), .int .i64 (0), .int .i64 (0), .int .i64 (0)], .int .i64 (0)]) rfl rfl (fun _ _ => by kernel_rfl) (by have h := rsections_n (c := c) (hS.kp M.kp) (fun y hy => (h5 y hy).kp M.kp) hw hz (tbA d.tb d.tb.length); rw [hse] at h; exact h) rfl ?_
                  intro u101 hq
                  replace Q1 := Q1.mo hq
                  replace Q2 := Q2.mo hq
                  replace M := M.trans hq
                  clear hq
                  refine wl_mv (.tmp 73) (.tuple #[.agg #[.int .i64 (0), .int .i64 (0), .int .i64 (0), .int .i64 (0), .int .i64 (0)], .int .i64 (0)]) (fun _ => rfl) rfl rfl ?_
                  refine wl_un (fun v => Instr.extract v 0) (.tmp 71) (.tuple #[.agg #[.int .i64 (0), .int .i64 (0), .int .i64 (0), .int .i64 (0), .int .i64 (0)], .int .i64 (0)]) (.agg #[.int .i64 (0), .int .i64 (0), .int .i64 (0), .int .i64 (0), .int .i64 (0)]) (fun _ => rfl) rfl (by kernel_rfl) rfl ?_
                  refine wl_un (fun v => Instr.extract v 1) (.tmp 71) (.tuple #[.agg #[.int .i64 (0), .int .i64 (0), .int .i64 (0), .int .i64 (0), .int .i64 (0)], .int .i64 (0)]) (.int .i64 (0)) (fun _ => rfl) rfl (by kernel_rfl) rfl ?_
                  refine wl_alloc 33 #[.int .i64 0, .int .i64 0, .int .i64 0, .int .i64 0, .int .i64 0] rfl (fun _ => by kernel_rfl) rfl ?_
                  intro k3 u102 hk hz hq Q3
                  have ne_k1_k3 : k1 ≠ k3 := by have := Q1.lt; omega
                  have ne_k2_k3 : k2 ≠ k3 := by have := Q2.lt; omega
                  have N_k3 : u3.heap.size ≤ k3 := by have := M.size; omega
                  replace Q1 := Q1.mo hq
                  replace Q2 := Q2.mo hq
                  replace M := M.trans hq
                  clear hk hz hq
                  refine wl_st 33 (.tmp 9) (.tmp 74) k3 0 #[.int .i64 (0), .int .i64 (0), .int .i64 (0), .int .i64 (0), .int .i64 (0)] [.int .i64 0, .int .i64 0, .int .i64 0, .int .i64 0, .int .i64 0] [.int .i64 (0), .int .i64 (0), .int .i64 (0), .int .i64 (0), .int .i64 (0)] Q3 rfl rfl rfl rfl rfl sz33 rfl rfl rfl ?_
                  intro u103 hS Qn
                  replace Q3 := Qn
                  clear Qn
                  replace Q1 := hS.other _ _ ne_k1_k3 Q1
                  replace Q2 := hS.other _ _ ne_k2_k3 Q2
                  replace M := hS.mo _ N_k3 M
                  clear hS
                  refine wl_mv (.tmp 75) (.int .i64 (0)) (fun _ => rfl) rfl rfl ?_
                  refine w_nil ?_
                  refine xn_then ?_
                  refine w_seq ?_
                  refine w_reg ?_
                  refine wl_mv (.tmp 10) (.int .i64 (0)) (fun _ => rfl) rfl rfl ?_
                  refine wl_bin (fun x y => do eqGuard .neq 34 (.tmp 76) (.const (.int .i64 (0))) x y; binOp .neq 34 x y) (.tmp 76) (.const (.int .i64 (0))) (.int .i64 (0)) (.int .i64 (0)) (.bool false) (fun _ => rfl) rfl rfl (ne34 (r := true) rfl _ _ _) rfl ?_
                  refine w_nil ?_
                  refine xn_then ?_
                  refine w_condF rfl ?_
                  refine w_skip ?_
                  refine xn_then ?_
                  refine w_seq ?_
                  refine w_seq ?_
                  refine w_reg ?_
                  refine wl_mv (.const (.int .i64 (0))) (.int .i64 (0)) (fun _ => rfl) rfl rfl ?_
                  refine w_nil ?_
                  refine xn_then ?_
                  refine w_block ?_
                  refine w_loop (fun m l w1 => ∃ i : Nat, m = L.length - i ∧ i ≤ L.length ∧ look l 1 = pt k1 0 ∧ look l 2 = pt k2 0 ∧ look l 4 = .slice pa L.length c ∧ look l 11 = .int .i64 ((i : Nat) : Int) ∧ At w1 k1 (d.cells) ∧ At w1 k2 [.int .i64 0, .int .i64 0, .int .i64 0, .int .i64 0, .int .i64 0] ∧ At w1 k3 [.int .i64 (0), .int .i64 (0), .int .i64 (0), .int .i64 (0), .int .i64 (0)] ∧ (∀ j, j < i → foS L (alF d) j = none) ∧ Mo u3 w1) _ ⟨0, rfl, Nat.zero_le _, e100_1, e100_2, e100_4, rfl, Q1, Q2, Q3, (fun j hj => by omega), M⟩ ?_
                  clear Q1 Q2 Q3 M
                  rintro m l140 wl140 ⟨i, rfl, hi, e140_1, e140_2, e140_4, e140_i, Q1, Q2, Q3, hG2, M⟩
                  by_cases hil : i < L.length
                  · skip
                    have hid : decide (i < L.length) = true := decide_eq_true hil
                    obtain ⟨x, hx⟩ := get_of_lt hil
                    obtain ⟨br, or, hpr, hRr⟩ := D.SL.rw hS hx
                    have hIt := (h5 x (List.mem_of_getElem? hx)).it
                    have hEx := (h5 x (List.mem_of_getElem? hx)).ex
                    have hzi := hIt.1
                    unfold maxLen at hzi
                    refine w_seq ?_
                    refine w_seq ?_
                    refine w_reg ?_
                    refine wl_mv (.tmp 11) (.int .i64 ((i : Nat) : Int)) (fun _ => rfl) e140_i rfl ?_
                    refine wl_mv (.tmp 4) (.slice pa L.length c) (fun _ => rfl) e140_4 rfl ?_
                    refine wl_val (.int .i64 ((L.length : Nat) : Int)) (len37 _ _ _ _ _ (by exact rfl) _ _ _ _ _ _) rfl ?_
                    refine wl_bin (fun x y => do eqGuard .lss 3 (.tmp 80) (.tmp 82) x y; binOp .lss 3 x y) (.tmp 80) (.tmp 82) (.int .i64 ((i : Nat) : Int)) (.int .i64 ((L.length : Nat) : Int)) (.bool true) (fun _ => rfl) rfl rfl (ltN hid _ _ _) rfl ?_
                    refine w_nil ?_
                    refine xn_then ?_
                    refine w_condT rfl ?_
                    refine w_skip ?_
                    refine xn_then ?_
                    refine w_seq ?_
                    refine w_block ?_
                    refine w_seq ?_
                    refine w_reg ?_
                    refine wl_mv (.const (.int .i64 (0))) (.int .i64 (0)) (fun _ => rfl) rfl rfl ?_
                    refine w_nil ?_
                    refine xn_then ?_
                    refine w_block ?_
                    refine w_loop (fun m l w1 => ∃ j : Nat, m = x.items.length - j ∧ j ≤ x.items.length ∧ look l 1 = pt k1 0 ∧ look l 2 = pt k2 0 ∧ look l 4 = .slice pa L.length c ∧ look l 11 = .int .i64 ((i : Nat) : Int) ∧ look l 12 = .int .i64 ((j : Nat) : Int) ∧ At w1 k1 (d.cells) ∧ At w1 k2 [.int .i64 0, .int .i64 0, .int .i64 0, .int .i64 0, .int .i64 0] ∧ At w1 k3 [.int .i64 (0), .int .i64 (0), .int .i64 (0), .int .i64 (0), .int .i64 (0)] ∧ (∀ m, m < j → foG L (alF d) i m = none) ∧ Mo u3 w1) _ ⟨0, rfl, Nat.zero_le _, e140_1, e140_2, e140_4, e140_i, rfl, Q1, Q2, Q3, (fun j hj => by omega), M⟩ ?_
                    clear Q1 Q2 Q3 M
                    rintro m l160 wl160 ⟨j, rfl, hj, e160_1, e160_2, e160_4, e160_11, e160_i, Q1, Q2, Q3, hH, M⟩
                    by_cases hjl : j < x.items.length
                    · skip
                      have hjd : decide (j < x.items.length) = true := decide_eq_true hjl
                      obtain ⟨y, hy⟩ := get_of_lt hjl
                      obtain ⟨bt, ot, hpt, hRt⟩ := D.SL.rw hIt hy
                      refine w_seq ?_
                      refine w_seq ?_
                      refine w_reg ?_
                      refine wl_mv (.tmp 12) (.int .i64 ((j : Nat) : Int)) (fun _ => rfl) e160_i rfl ?_
                      refine wl_mv (.tmp 4) (.slice pa L.length c) (fun _ => rfl) e160_4 rfl ?_
                      refine wl_mv (.tmp 11) (.int .i64 ((i : Nat) : Int)) (fun _ => rfl) e160_11 rfl ?_
                      refine wl_bin (fun x y => Instr.indexAt 37 x y) (.tmp 87) (.tmp 88) (.slice pa L.length c) (.int .i64 ((i : Nat) : Int)) (pt br (or + i * 5)) (fun _ => rfl) rfl rfl (ix37 (i := i) hpr hil _) rfl ?_
                      refine wl_un (fun v => Instr.fieldAt 52 v 4) (.tmp 89) (pt br (or + i * 5)) (pt br (or + i * 5 + 4)) (fun _ => rfl) rfl (by kernel_rfl) rfl ?_
                      refine wl_load 22 (.tmp 90) (pt br (or + i * 5 + 4)) (.slice x.pi x.items.length x.ci) rfl rfl (D.run_oneR (hRr.mo M).at' 22 4 rfl Try.underlying22 rfl) rfl ?_
                      refine wl_val (.int .i64 ((x.items.length : Nat) : Int)) (len22 _ _ _ _ _ (by exact rfl) _ _ _ _ _ _) rfl ?_
                      refine wl_bin (fun x y => do eqGuard .lss 3 (.tmp 86) (.tmp 92) x y; binOp .lss 3 x y) (.tmp 86) (.tmp 92) (.int .i64 ((j : Nat) : Int)) (.int .i64 ((x.items.length : Nat) : Int)) (.bool true) (fun _ => rfl) rfl rfl (ltN hjd _ _ _) rfl ?_
                      refine w_nil ?_
                      refine xn_then ?_
                      refine w_condT rfl ?_
                      refine w_skip ?_
                      refine xn_then ?_
                      refine w_seq ?_
                      refine w_block ?_
                      refine w_seq ?_
                      cases hf110 : decide (y.k = 1) with
                      | true =>
                        have hf110p := of_decide_eq_true hf110
                        refine w_any 23 [.inl (.slice pa L.length c), .inl (.int .i64 ((i : Nat) : Int)), .inl (pt br (or + i * 5)), .inl (pt br (or + i * 5 + 4)), .inl (.slice x.pi x.items.length x.ci), .inl (.int .i64 ((j : Nat) : Int)), .inl (pt bt (ot + j * 23)), .inl (pt bt (ot + j * 23 + 1)), .inl (.int .i64 (y.k)), .inl (.bool false), .inl (.bool false), .inl undef, .inl undef, .inl undef, .inl undef, .inl undef, .inl undef, .inl undef, .inl undef, .inl undef, .inl undef, .inl undef, .inl undef] [] (by kernel_rfl) (by kernel_rfl) (by kernel_rfl) (by kernel_rfl) rfl (by kernel_rfl) (by kernel_rfl) late_nil ?_ ?_ ?_
                        · exact Ds.none rfl
                        · refine ea_cons ?_ (ea_cons ?_ (ea_cons ?_ (ea_cons ?_ (ea_cons ?_ (ea_cons ?_ (ea_cons ?_ (ea_cons ?_ (ea_cons ?_ (ea_cons ?_ (ea_cons ?_ (ea_cons ?_ (ea_cons ?_ (ea_cons ?_ (ea_cons ?_ (ea_cons ?_ (ea_cons ?_ (ea_cons ?_ (ea_cons ?_ (ea_cons ?_ (ea_cons ?_ (ea_cons ?_ (ea_cons ?_ (ea_nil)))))))))))))))))))))))
                          · exact og_eq (.slice pa L.length c) rfl (fun f wf hq hd K hK => go_run rfl (wo_mv (.tmp 4) (.slice pa L.length c) (fun _ => rfl) e160_4 (hK _ (Mo.refl _))))
                          · exact og_eq (.int .i64 ((i : Nat) : Int)) rfl (fun f wf hq hd K hK => go_run rfl (wo_mv (.tmp 11) (.int .i64 ((i : Nat) : Int)) (fun _ => rfl) e160_11 (hK _ (Mo.refl _))))
                          · exact og_eq (pt br (or + i * 5)) rfl (fun f wf hq hd K hK => go_run rfl (wo_bin (fun x y => Instr.indexAt 37 x y) (.tmp 96) (.tmp 97) (.slice pa L.length c) (.int .i64 ((i : Nat) : Int)) (pt br (or + i * 5)) (fun _ => rfl) (hd 0 rfl) (hd 1 rfl) (ix37 (i := i) hpr hil _) (hK _ (Mo.refl _))))
                          · exact og_eq (pt br (or + i * 5 + 4)) rfl (fun f wf hq hd K hK => go_run rfl (wo_un (fun v => Instr.fieldAt 52 v 4) (.tmp 98) (pt br (or + i * 5)) (pt br (or + i * 5 + 4)) (fun _ => rfl) (hd 2 rfl) (by kernel_rfl) (hK _ (Mo.refl _))))
                          · exact og_eq (.slice x.pi x.items.length x.ci) rfl (fun f wf hq hd K hK => go_run rfl (wo_load 22 (.tmp 99) (pt br (or + i * 5 + 4)) (.slice x.pi x.items.length x.ci) rfl (hd 3 rfl) (D.run_oneR (hRr.mo (M.trans hq)).at' 22 4 rfl Try.underlying22 rfl) (hK _ (Mo.refl _))))
                          · exact og_eq (.int .i64 ((j : Nat) : Int)) rfl (fun f wf hq hd K hK => go_run rfl (wo_mv (.tmp 12) (.int .i64 ((j : Nat) : Int)) (fun _ => rfl) e160_i (hK _ (Mo.refl _))))
                          · exact og_eq (pt bt (ot + j * 23)) rfl (fun f wf hq hd K hK => go_run rfl (wo_bin (fun x y => Instr.indexAt 22 x y) (.tmp 100) (.tmp 101) (.slice x.pi x.items.length x.ci) (.int .i64 ((j : Nat) : Int)) (pt bt (ot + j * 23)) (fun _ => rfl) (hd 4 rfl) (hd 5 rfl) (ix22 (i := j) hpt hjl _) (hK _ (Mo.refl _))))
                          · exact og_eq (pt bt (ot + j * 23 + 1)) rfl (fun f wf hq hd K hK => go_run rfl (wo_un (fun v => Instr.fieldAt 66 v 1) (.tmp 102) (pt bt (ot + j * 23)) (pt bt (ot + j * 23 + 1)) (fun _ => rfl) (hd 6 rfl) (by kernel_rfl) (hK _ (Mo.refl _))))
                          · exact og_eq (.int .i64 (y.k)) rfl (fun f wf hq hd K hK => go_run rfl (wo_load 3 (.tmp 103) (pt bt (ot + j * 23 + 1)) (.int .i64 (y.k)) rfl (hd 7 rfl) (D.run_oneR (hRt.mo (M.trans hq)).at' 3 1 rfl Try.underlying3 rfl) (hK _ (Mo.refl _))))
                          · exact og_eq (.bool false) rfl (fun f wf hq hd K hK => go_run rfl (wo_bin (fun x y => do eqGuard .neq 3 (.tmp 104) (.const (.int .i64 (1))) x y; binOp .neq 3 x y) (.tmp 104) (.const (.int .i64 (1))) (.int .i64 (y.k)) (.int .i64 (1)) (.bool false) (fun _ => rfl) (hd 8 rfl) rfl (ne3 hf110 _ _ _) (hK _ (Mo.refl _))))
                          · exact og_eq (.bool false) rfl (fun f wf hq hd K hK => go_run rfl (wo_mv (.tmp 105) (.bool false) (fun _ => rfl) (hd 9 rfl) (hK _ (Mo.refl _))))
                          · exact og_eq undef rfl (fun f wf hq hd K hK => go_pass (wnt_g rfl rfl rfl (hd 10 rfl) rfl) (hK _ (Mo.refl _)))
                          · exact og_eq undef rfl (fun f wf hq hd K hK => go_pass (wnt_g rfl rfl rfl (hd 10 rfl) rfl) (hK _ (Mo.refl _)))
                          · exact og_eq undef rfl (fun f wf hq hd K hK => go_pass (wnt_g rfl rfl rfl (hd 10 rfl) rfl) (hK _ (Mo.refl _)))
                          · exact og_eq undef rfl (fun f wf hq hd K hK => go_pass (wnt_g rfl rfl rfl (hd 10 rfl) rfl) (hK _ (Mo.refl _)))
                          · exact og_eq undef rfl (fun f wf hq hd K hK => go_pass (wnt_g rfl rfl rfl (hd 10 rfl) rfl) (hK _ (Mo.refl _)))
                          · exact og_eq undef rfl (fun f wf hq hd K hK => go_pass (wnt_g rfl rfl rfl (hd 10 rfl) rfl) (hK _ (Mo.refl _)))
                          · exact og_eq undef rfl (fun f wf hq hd K hK => go_pass (wnt_g rfl rfl rfl (hd 10 rfl) rfl) (hK _ (Mo.refl _)))
                          · exact og_eq undef rfl (fun f wf hq hd K hK => go_pass (wnt_g rfl rfl rfl (hd 10 rfl) rfl) (hK _ (Mo.refl _)))
                          · exact og_eq undef rfl (fun f wf hq hd K hK => go_pass (wnt_g rfl rfl rfl (hd 10 rfl) rfl) (hK _ (Mo.refl _)))
                          · exact og_eq undef rfl (fun f wf hq hd K hK => go_pass (wnt_g rfl rfl rfl (hd 10 rfl) rfl) (hK _ (Mo.refl _)))
                          · exact og_eq undef rfl (fun f wf hq hd K hK => go_pass (wnt_g rfl rfl rfl (hd 10 rfl) rfl) (hK _ (Mo.refl _)))
                          · exact og_eq undef rfl (fun f wf hq hd K hK => go_pass (wnt_g rfl rfl rfl (hd 10 rfl) rfl) (hK _ (Mo.refl _)))
                        intro kf161 u161 hq hR hne
                        replace Q1 := Q1.mo hq
                        replace Q2 := Q2.mo hq
                        replace Q3 := Q3.mo hq
                        replace M := M.trans hq
                        clear hq hR hne
                        refine wl_skip rfl ?_
                        refine wl_pick (.tmp 106) (.tmp 119) (.const (.bool false)) false (.bool false) (fun _ => rfl) rfl rfl rfl ?_
                        refine w_nil ?_
                        refine xn_then ?_
                        refine w_condF rfl ?_
                        refine w_skip ?_
                        refine xn_blk ?_
                        refine xn_then ?_
                        refine w_reg ?_
                        refine wl_mv (.tmp 12) (.int .i64 ((j : Nat) : Int)) (fun _ => rfl) e160_i rfl ?_
                        refine wl_bin (fun x y => do eqGuard .add 3 (.tmp 94) (.const (.int .i64 (1))) x y; binOp .add 3 x y) (.tmp 94) (.const (.int .i64 (1))) (.int .i64 ((j : Nat) : Int)) (.int .i64 (1)) (.int .i64 ((j + 1 : Nat) : Int)) (fun _ => rfl) rfl rfl (add1r (k := j) (by omega) _ _ _) rfl ?_
                        refine wl_mv (.tmp 95) (.int .i64 ((j + 1 : Nat) : Int)) (fun _ => rfl) rfl rfl ?_
                        refine w_nil ?_
                        exact xn_loop (x.items.length - (j + 1)) (by omega) ⟨j + 1, rfl, by omega, e160_1, e160_2, e160_4, e160_11, rfl, Q1, Q2, Q3, fs_step hH ((foG_of hx hy).trans (by rw [hf110]; rfl)), M⟩
                      | false =>
                        have hf110p := of_decide_eq_false hf110
                        cases hf111 : lck (kno L (alF d) i) y.ex with
                        | true =>
                          refine w_any 23 [.inl (.slice pa L.length c), .inl (.int .i64 ((i : Nat) : Int)), .inl (pt br (or + i * 5)), .inl (pt br (or + i * 5 + 4)), .inl (.slice x.pi x.items.length x.ci), .inl (.int .i64 ((j : Nat) : Int)), .inl (pt bt (ot + j * 23)), .inl (pt bt (ot + j * 23 + 1)), .inl (.int .i64 (y.k)), .inl (.bool true), .inl (.bool true), .inl (.agg (d.cells).toArray), .inl (.slice pa L.length c), .inl (.int .i64 ((i : Nat) : Int)), .inl (.slice pa L.length c), .inl (.int .i64 ((i : Nat) : Int)), .inl (pt br (or + i * 5)), .inl (pt br (or + i * 5 + 4)), .inl (.slice x.pi x.items.length x.ci), .inl (.int .i64 ((j : Nat) : Int)), .inl (pt bt (ot + j * 23)), .inl (pt bt (ot + j * 23 + 6)), .inl (.agg (y.ex.cells).toArray)] [] (by kernel_rfl) (by kernel_rfl) (by kernel_rfl) (by kernel_rfl) rfl (by kernel_rfl) (by kernel_rfl) late_nil ?_ ?_ ?_
                          · exact Ds.none rfl
                          · refine ea_cons ?_ (ea_cons ?_ (ea_cons ?_ (ea_cons ?_ (ea_cons ?_ (ea_cons ?_ (ea_cons ?_ (ea_cons ?_ (ea_cons ?_ (ea_cons ?_ (ea_cons ?_ (ea_cons ?_ (ea_cons ?_ (ea_cons ?_ (ea_cons ?_ (ea_cons ?_ (ea_cons ?_ (ea_cons ?_ (ea_cons ?_ (ea_cons ?_ (ea_cons ?_ (ea_cons ?_ (ea_cons ?_ (ea_nil)))))))))))))))))))))))
                            · exact og_eq (.slice pa L.length c) rfl (fun f wf hq hd K hK => go_run rfl (wo_mv (.tmp 4) (.slice pa L.length c) (fun _ => rfl) e160_4 (hK _ (Mo.refl _))))
                            · exact og_eq (.int .i64 ((i : Nat) : Int)) rfl (fun f wf hq hd K hK => go_run rfl (wo_mv (.tmp 11) (.int .i64 ((i : Nat) : Int)) (fun _ => rfl) e160_11 (hK _ (Mo.refl _))))
                            · exact og_eq (pt br (or + i * 5)) rfl (fun f wf hq hd K hK => go_run rfl (wo_bin (fun x y => Instr.indexAt 37 x y) (.tmp 96) (.tmp 97) (.slice pa L.length c) (.int .i64 ((i : Nat) : Int)) (pt br (or + i * 5)) (fun _ => rfl) (hd 0 rfl) (hd 1 rfl) (ix37 (i := i) hpr hil _) (hK _ (Mo.refl _))))
                            · exact og_eq (pt br (or + i * 5 + 4)) rfl (fun f wf hq hd K hK => go_run rfl (wo_un (fun v => Instr.fieldAt 52 v 4) (.tmp 98) (pt br (or + i * 5)) (pt br (or + i * 5 + 4)) (fun _ => rfl) (hd 2 rfl) (by kernel_rfl) (hK _ (Mo.refl _))))
                            · exact og_eq (.slice x.pi x.items.length x.ci) rfl (fun f wf hq hd K hK => go_run rfl (wo_load 22 (.tmp 99) (pt br (or + i * 5 + 4)) (.slice x.pi x.items.length x.ci) rfl (hd 3 rfl) (D.run_oneR (hRr.mo (M.trans hq)).at' 22 4 rfl Try.underlying22 rfl) (hK _ (Mo.refl _))))
                            · exact og_eq (.int .i64 ((j : Nat) : Int)) rfl (fun f wf hq hd K hK => go_run rfl (wo_mv (.tmp 12) (.int .i64 ((j : Nat) : Int)) (fun _ => rfl) e160_i (hK _ (Mo.refl _))))
                            · exact og_eq (pt bt (ot + j * 23)) rfl (fun f wf hq hd K hK => go_run rfl (wo_bin (fun x y => Instr.indexAt 22 x y) (.tmp 100) (.tmp 101) (.slice x.pi x.items.length x.ci) (.int .i64 ((j : Nat) : Int)) (pt bt (ot + j * 23)) (fun _ => rfl) (hd 4 rfl) (hd 5 rfl) (ix22 (i := j) hpt hjl _) (hK _ (Mo.refl _))))
                            · exact og_eq (pt bt (ot + j * 23 + 1)) rfl (fun f wf hq hd K hK => go_run rfl (wo_un (fun v => Instr.fieldAt 66 v 1) (.tmp 102) (pt bt (ot + j * 23)) (pt bt (ot + j * 23 + 1)) (fun _ => rfl) (hd 6 rfl) (by kernel_rfl) (hK _ (Mo.refl _))))
                            · exact og_eq (.int .i64 (y.k)) rfl (fun f wf hq hd K hK => go_run rfl (wo_load 3 (.tmp 103) (pt bt (ot + j * 23 + 1)) (.int .i64 (y.k)) rfl (hd 7 rfl) (D.run_oneR (hRt.mo (M.trans hq)).at' 3 1 rfl Try.underlying3 rfl) (hK _ (Mo.refl _))))
                            · exact og_eq (.bool true) rfl (fun f wf hq hd K hK => go_run rfl (wo_bin (fun x y => do eqGuard .neq 3 (.tmp 104) (.const (.int .i64 (1))) x y; binOp .neq 3 x y) (.tmp 104) (.const (.int .i64 (1))) (.int .i64 (y.k)) (.int .i64 (1)) (.bool true) (fun _ => rfl) (hd 8 rfl) rfl (ne3 hf110 _ _ _) (hK _ (Mo.refl _))))
                            · exact og_eq (.bool true) rfl (fun f wf hq hd K hK => go_run rfl (wo_mv (.tmp 105) (.bool true) (fun _ => rfl) (hd 9 rfl) (hK _ (Mo.refl _))))
                            · exact og_eq (.agg (d.cells).toArray) rfl (fun f wf hq hd K hK => have Q1 := Q1.mo hq; go_run (wnt_g rfl rfl rfl (hd 10 rfl) rfl) (wo_load 29 (.tmp 1) (pt k1 0) (.agg (d.cells).toArray) rfl e160_1 (run_row Q1 29 0 7 (d.cells) rfl Try.underlying29 rfl sz29) (hK _ (Mo.refl _))))
                            · exact og_eq (.slice pa L.length c) rfl (fun f wf hq hd K hK => go_run (wnt_g rfl rfl rfl (hd 10 rfl) rfl) (wo_mv (.tmp 4) (.slice pa L.length c) (fun _ => rfl) e160_4 (hK _ (Mo.refl _))))
                            · exact og_eq (.int .i64 ((i : Nat) : Int)) rfl (fun f wf hq hd K hK => go_run (wnt_g rfl rfl rfl (hd 10 rfl) rfl) (wo_mv (.tmp 11) (.int .i64 ((i : Nat) : Int)) (fun _ => rfl) e160_11 (hK _ (Mo.refl _))))
                            · exact og_eq (.slice pa L.length c) rfl (fun f wf hq hd K hK => go_run (wnt_g rfl rfl rfl (hd 10 rfl) rfl) (wo_mv (.tmp 4) (.slice pa L.length c) (fun _ => rfl) e160_4 (hK _ (Mo.refl _))))
                            · exact og_eq (.int .i64 ((i : Nat) : Int)) rfl (fun f wf hq hd K hK => go_run (wnt_g rfl rfl rfl (hd 10 rfl) rfl) (wo_mv (.tmp 11) (.int .i64 ((i : Nat) : Int)) (fun _ => rfl) e160_11 (hK _ (Mo.refl _))))
                            · exact og_eq (pt br (or + i * 5)) rfl (fun f wf hq hd K hK => go_run (wnt_g rfl rfl rfl (hd 10 rfl) rfl) (wo_bin (fun x y => Instr.indexAt 37 x y) (.tmp 110) (.tmp 111) (.slice pa L.length c) (.int .i64 ((i : Nat) : Int)) (pt br (or + i * 5)) (fun _ => rfl) (hd 14 rfl) (hd 15 rfl) (ix37 (i := i) hpr hil _) (hK _ (Mo.refl _))))
                            · exact og_eq (pt br (or + i * 5 + 4)) rfl (fun f wf hq hd K hK => go_run (wnt_g rfl rfl rfl (hd 10 rfl) rfl) (wo_un (fun v => Instr.fieldAt 52 v 4) (.tmp 112) (pt br (or + i * 5)) (pt br (or + i * 5 + 4)) (fun _ => rfl) (hd 16 rfl) (by kernel_rfl) (hK _ (Mo.refl _))))
                            · exact og_eq (.slice x.pi x.items.length x.ci) rfl (fun f wf hq hd K hK => go_run (wnt_g rfl rfl rfl (hd 10 rfl) rfl) (wo_load 22 (.tmp 113) (pt br (or + i * 5 + 4)) (.slice x.pi x.items.length x.ci) rfl (hd 17 rfl) (D.run_oneR (hRr.mo (M.trans hq)).at' 22 4 rfl Try.underlying22 rfl) (hK _ (Mo.refl _))))
                            · exact og_eq (.int .i64 ((j : Nat) : Int)) rfl (fun f wf hq hd K hK => go_run (wnt_g rfl rfl rfl (hd 10 rfl) rfl) (wo_mv (.tmp 12) (.int .i64 ((j : Nat) : Int)) (fun _ => rfl) e160_i (hK _ (Mo.refl _))))
                            · exact og_eq (pt bt (ot + j * 23)) rfl (fun f wf hq hd K hK => go_run (wnt_g rfl rfl rfl (hd 10 rfl) rfl) (wo_bin (fun x y => Instr.indexAt 22 x y) (.tmp 114) (.tmp 115) (.slice x.pi x.items.length x.ci) (.int .i64 ((j : Nat) : Int)) (pt bt (ot + j * 23)) (fun _ => rfl) (hd 18 rfl) (hd 19 rfl) (ix22 (i := j) hpt hjl _) (hK _ (Mo.refl _))))
                            · exact og_eq (pt bt (ot + j * 23 + 6)) rfl (fun f wf hq hd K hK => go_run (wnt_g rfl rfl rfl (hd 10 rfl) rfl) (wo_un (fun v => Instr.fieldAt 66 v 5) (.tmp 116) (pt bt (ot + j * 23)) (pt bt (ot + j * 23 + 6)) (fun _ => rfl) (hd 20 rfl) (by kernel_rfl) (hK _ (Mo.refl _))))
                            · exact og_eq (.agg (y.ex.cells).toArray) rfl (fun f wf hq hd K hK => go_run (wnt_g rfl rfl rfl (hd 10 rfl) rfl) (wo_load 64 (.tmp 117) (pt bt (ot + j * 23 + 6)) (.agg (y.ex.cells).toArray) rfl (hd 21 rfl) (D.run_partR (hRt.mo (M.trans hq)).at' 64 6 17 (y.ex.cells) rfl Try.underlying64 rfl sz64) (hK _ (Mo.refl _))))
                          intro kf161 u161 hq hR hne
                          replace Q1 := Q1.mo hq
                          replace Q2 := Q2.mo hq
                          replace Q3 := Q3.mo hq
                          replace M := M.trans hq
                          clear hq hR hne
                          refine wl_call 39 [(.tmp 107), (.tmp 108), (.tmp 109), (.tmp 118)] _ [.agg (d.cells).toArray, .slice pa L.length c, .int .i64 ((i : Nat) : Int), .agg (y.ex.cells).toArray] (.bool true) rfl rfl (fun _ _ => by kernel_rfl) (cB ((lck_congr (fun e => by rw [hL]; exact kno_both (by rw [← hL]; exact hse) (by rw [← hL]; exact hil) e) y.ex).trans hf111) (unknown_n hz hw i hil y.ex (hD.kp M.kp) ((hEx y (List.mem_of_getElem? hy)).kp M.kp) (hS.kp M.kp) (fun y hy => (h5 y hy).kp M.kp))) rfl ?_
                          intro u162 hq
                          replace Q1 := Q1.mo hq
                          replace Q2 := Q2.mo hq
                          replace Q3 := Q3.mo hq
                          replace M := M.trans hq
                          clear hq
                          refine wl_pick (.tmp 106) (.tmp 119) (.const (.bool false)) true (.bool true) (fun _ => rfl) rfl rfl rfl ?_
                          refine w_nil ?_
                          refine xn_then ?_
                          refine w_condT rfl ?_
                          refine w_seq ?_
                          refine w_reg ?_
                          refine wl_mv (.tmp 11) (.int .i64 ((i : Nat) : Int)) (fun _ => rfl) e160_11 rfl ?_
                          refine wl_mv (.tmp 12) (.int .i64 ((j : Nat) : Int)) (fun _ => rfl) e160_i rfl ?_
                          refine wl_build 33 [(0, (.const (.int .i64 (3)))), (1, (.tmp 121)), (2, (.tmp 122))] [(0, .int .i64 (3)), (1, .int .i64 ((i : Nat) : Int)), (2, .int .i64 ((j : Nat) : Int))] (.agg #[.int .i64 (3), .int .i64 ((i : Nat) : Int), .int .i64 ((j : Nat) : Int), .int .i64 0, .int .i64 0]) rfl rfl (by kernel_rfl) rfl ?_
                          refine wl_stm 33 (.tmp 2) (.tmp 123) k2 0 #[.int .i64 (3), .int .i64 ((i : Nat) : Int), .int .i64 ((j : Nat) : Int), .int .i64 0, .int .i64 0] [.int .i64 0, .int .i64 0, .int .i64 0, .int .i64 0, .int .i64 0] [.int .i64 (3), .int .i64 ((i : Nat) : Int), .int .i64 ((j : Nat) : Int), .int .i64 0, .int .i64 0] Q2 rfl rfl e160_2 rfl rfl sz33 rfl rfl rfl ?_
                          intro u163 hS hm9 Qn
                          replace Q2 := Qn
                          clear Qn
                          replace Q1 := hS.other _ _ ne_k1_k2 Q1
                          replace Q3 := hS.other _ _ ne_k2_k3.symm Q3
                          have hmT := (Mk.of (fun j => j = k2) M).same hm9
                          replace MK := (MK.trans M).tr hm9 (fun j hj e => by omega)
                          clear M hS hm9
                          have M : Mo u163 u163 := Mo.refl _
                          refine wl_mv (.const (.int .i64 (91))) (.int .i64 (91)) (fun _ => rfl) rfl rfl ?_
                          refine w_nil ?_
                          refine xn_then ?_
                          refine w_ret ?_
                          refine xr_blk ?_
                          refine xr_then ?_
                          refine xr_then ?_
                          refine xr_blk ?_
                          refine xr_blk ?_
                          refine xr_then ?_
                          refine xr_then ?_
                          refine xr_blk ?_
                          refine xr_then ?_
                          exact w_ret2 _ _ (.agg #[.int .i64 (3), .int .i64 ((i : Nat) : Int), .int .i64 ((j : Nat) : Int), .int .i64 0, .int .i64 0]) (.int .i64 (91)) rfl ⟨k2, e160_2, (run_row Q2 33 0 5 [.int .i64 (3), .int .i64 ((i : Nat) : Int), .int .i64 ((j : Nat) : Int), .int .i64 0, .int .i64 0] rfl Try.underlying33 rfl sz33)⟩ rfl ⟨by unfold chk; rw [← hL, er_0 hwh, Option.none_or, htb, Option.none_or, hse, Option.none_or, show foR L (alF d) = some (plc 3 i j 0 0, 91) from fs_hit hG2 (fs_hit hH ((foG_of hx hy).trans (by rw [hf110, hf111]; rfl)) (by rw [itO_of hx]; exact hjl)) hil]; rfl, (MK.trans M).mo (Mo.refl _) (fun _ h => h.elim)⟩
                        | false =>
                          refine w_any 23 [.inl (.slice pa L.length c), .inl (.int .i64 ((i : Nat) : Int)), .inl (pt br (or + i * 5)), .inl (pt br (or + i * 5 + 4)), .inl (.slice x.pi x.items.length x.ci), .inl (.int .i64 ((j : Nat) : Int)), .inl (pt bt (ot + j * 23)), .inl (pt bt (ot + j * 23 + 1)), .inl (.int .i64 (y.k)), .inl (.bool true), .inl (.bool true), .inl (.agg (d.cells).toArray), .inl (.slice pa L.length c), .inl (.int .i64 ((i : Nat) : Int)), .inl (.slice pa L.length c), .inl (.int .i64 ((i : Nat) : Int)), .inl (pt br (or + i * 5)), .inl (pt br (or + i * 5 + 4)), .inl (.slice x.pi x.items.length x.ci), .inl (.int .i64 ((j : Nat) : Int)), .inl (pt bt (ot + j * 23)), .inl (pt bt (ot + j * 23 + 6)), .inl (.agg (y.ex.cells).toArray)] [] (by kernel_rfl) (by kernel_rfl) (by kernel_rfl) (by kernel_rfl) rfl (by kernel_rfl) (by kernel_rfl) late_nil ?_ ?_ ?_
                          · exact Ds.none rfl
                          · refine ea_cons ?_ (ea_cons ?_ (ea_cons ?_ (ea_cons ?_ (ea_cons ?_ (ea_cons ?_ (ea_cons ?_ (ea_cons ?_ (ea_cons ?_ (ea_cons ?_ (ea_cons ?_ (ea_cons ?_ (ea_cons ?_ (ea_cons ?_ (ea_cons ?_ (ea_cons ?_ (ea_cons ?_ (ea_cons ?_ (ea_cons ?_ (ea_cons ?_ (ea_cons ?_ (ea_cons ?_ (ea_cons ?_ (ea_nil)))))))))))))))))))))))
                            · exact og_eq (.slice pa L.length c) rfl (fun f wf hq hd K hK => go_run rfl (wo_mv (.tmp 4) (.slice pa L.length c) (fun _ => rfl) e160_4 (hK _ (Mo.refl _))))
                            · exact og_eq (.int .i64 ((i : Nat) : Int)) rfl (fun f wf hq hd K hK => go_run rfl (wo_mv (.tmp 11) (.int .i64 ((i : Nat) : Int)) (fun _ => rfl) e160_11 (hK _ (Mo.refl _))))
                            · exact og_eq (pt br (or + i * 5)) rfl (fun f wf hq hd K hK => go_run rfl (wo_bin (fun x y => Instr.indexAt 37 x y) (.tmp 96) (.tmp 97) (.slice pa L.length c) (.int .i64 ((i : Nat) : Int)) (pt br (or + i * 5)) (fun _ => rfl) (hd 0 rfl) (hd 1 rfl) (ix37 (i := i) hpr hil _) (hK _ (Mo.refl _))))
                            · exact og_eq (pt br (or + i * 5 + 4)) rfl (fun f wf hq hd K hK => go_run rfl (wo_un (fun v => Instr.fieldAt 52 v 4) (.tmp 98) (pt br (or + i * 5)) (pt br (or + i * 5 + 4)) (fun _ => rfl) (hd 2 rfl) (by kernel_rfl) (hK _ (Mo.refl _))))
                            · exact og_eq (.slice x.pi x.items.length x.ci) rfl (fun f wf hq hd K hK => go_run rfl (wo_load 22 (.tmp 99) (pt br (or + i * 5 + 4)) (.slice x.pi x.items.length x.ci) rfl (hd 3 rfl) (D.run_oneR (hRr.mo (M.trans hq)).at' 22 4 rfl Try.underlying22 rfl) (hK _ (Mo.refl _))))
                            · exact og_eq (.int .i64 ((j : Nat) : Int)) rfl (fun f wf hq hd K hK => go_run rfl (wo_mv (.tmp 12) (.int .i64 ((j : Nat) : Int)) (fun _ => rfl) e160_i (hK _ (Mo.refl _))))
                            · exact og_eq (pt bt (ot + j * 23)) rfl (fun f wf hq hd K hK => go_run rfl (wo_bin (fun x y => Instr.indexAt 22 x y) (.tmp 100) (.tmp 101) (.slice x.pi x.items.length x.ci) (.int .i64 ((j : Nat) : Int)) (pt bt (ot + j * 23)) (fun _ => rfl) (hd 4 rfl) (hd 5 rfl) (ix22 (i := j) hpt hjl _) (hK _ (Mo.refl _))))
                            · exact og_eq (pt bt (ot + j * 23 + 1)) rfl (fun f wf hq hd K hK => go_run rfl (wo_un (fun v => Instr.fieldAt 66 v 1) (.tmp 102) (pt bt (ot + j * 23)) (pt bt (ot + j * 23 + 1)) (fun _ => rfl) (hd 6 rfl) (by kernel_rfl) (hK _ (Mo.refl _))))
                            · exact og_eq (.int .i64 (y.k)) rfl (fun f wf hq hd K hK => go_run rfl (wo_load 3 (.tmp 103) (pt bt (ot + j * 23 + 1)) (.int .i64 (y.k)) rfl (hd 7 rfl) (D.run_oneR (hRt.mo (M.trans hq)).at' 3 1 rfl Try.underlying3 rfl) (hK _ (Mo.refl _))))
                            · exact og_eq (.bool true) rfl (fun f wf hq hd K hK => go_run rfl (wo_bin (fun x y => do eqGuard .neq 3 (.tmp 104) (.const (.int .i64 (1))) x y; binOp .neq 3 x y) (.tmp 104) (.const (.int .i64 (1))) (.int .i64 (y.k)) (.int .i64 (1)) (.bool true) (fun _ => rfl) (hd 8 rfl) rfl (ne3 hf110 _ _ _) (hK _ (Mo.refl _))))
                            · exact og_eq (.bool true) rfl (fun f wf hq hd K hK => go_run rfl (wo_mv (.tmp 105) (.bool true) (fun _ => rfl) (hd 9 rfl) (hK _ (Mo.refl _))))
                            · exact og_eq (.agg (d.cells).toArray) rfl (fun f wf hq hd K hK => have Q1 := Q1.mo hq; go_run (wnt_g rfl rfl rfl (hd 10 rfl) rfl) (wo_load 29 (.tmp 1) (pt k1 0) (.agg (d.cells).toArray) rfl e160_1 (run_row Q1 29 0 7 (d.cells) rfl Try.underlying29 rfl sz29) (hK _ (Mo.refl _))))
                            · exact og_eq (.slice pa L.length c) rfl (fun f wf hq hd K hK => go_run (wnt_g rfl rfl rfl (hd 10 rfl) rfl) (wo_mv (.tmp 4) (.slice pa L.length c) (fun _ => rfl) e160_4 (hK _ (Mo.refl _))))
                            · exact og_eq (.int .i64 ((i : Nat) : Int)) rfl (fun f wf hq hd K hK => go_run (wnt_g rfl rfl rfl (hd 10 rfl) rfl) (wo_mv (.tmp 11) (.int .i64 ((i : Nat) : Int)) (fun _ => rfl) e160_11 (hK _ (Mo.refl _))))
                            · exact og_eq (.slice pa L.length c) rfl (fun f wf hq hd K hK => go_run (wnt_g rfl rfl rfl (hd 10 rfl) rfl) (wo_mv (.tmp 4) (.slice pa L.length c) (fun _ => rfl) e160_4 (hK _ (Mo.refl _))))
                            · exact og_eq (.int .i64 ((i : Nat) : Int)) rfl (fun f wf hq hd K hK => go_run (wnt_g rfl rfl rfl (hd 10 rfl) rfl) (wo_mv (.tmp 11) (.int .i64 ((i : Nat) : Int)) (fun _ => rfl) e160_11 (hK _ (Mo.refl _))))
                            · exact og_eq (pt br (or + i * 5)) rfl (fun f wf hq hd K hK => go_run (wnt_g rfl rfl rfl (hd 10 rfl) rfl) (wo_bin (fun x y => Instr.indexAt 37 x y) (.tmp 110) (.tmp 111) (.slice pa L.length c) (.int .i64 ((i : Nat) : Int)) (pt br (or + i * 5)) (fun _ => rfl) (hd 14 rfl) (hd 15 rfl) (ix37 (i := i) hpr hil _) (hK _ (Mo.refl _))))
                            · exact og_eq (pt br (or + i * 5 + 4)) rfl (fun f wf hq hd K hK => go_run (wnt_g rfl rfl rfl (hd 10 rfl) rfl) (wo_un (fun v => Instr.fieldAt 52 v 4) (.tmp 112) (pt br (or + i * 5)) (pt br (or + i * 5 + 4)) (fun _ => rfl) (hd 16 rfl) (by kernel_rfl) (hK _ (Mo.refl _))))
                            · exact og_eq (.slice x.pi x.items.length x.ci) rfl (fun f wf hq hd K hK => go_run (wnt_g rfl rfl rfl (hd 10 rfl) rfl) (wo_load 22 (.tmp 113) (pt br (or + i * 5 + 4)) (.slice x.pi x.items.length x.ci) rfl (hd 17 rfl) (D.run_oneR (hRr.mo (M.trans hq)).at' 22 4 rfl Try.underlying22 rfl) (hK _ (Mo.refl _))))
                            · exact og_eq (.int .i64 ((j : Nat) : Int)) rfl (fun f wf hq hd K hK => go_run (wnt_g rfl rfl rfl (hd 10 rfl) rfl) (wo_mv (.tmp 12) (.int .i64 ((j : Nat) : Int)) (fun _ => rfl) e160_i (hK _ (Mo.refl _))))
                            · exact og_eq (pt bt (ot + j * 23)) rfl (fun f wf hq hd K hK => go_run (wnt_g rfl rfl rfl (hd 10 rfl) rfl) (wo_bin (fun x y => Instr.indexAt 22 x y) (.tmp 114) (.tmp 115) (.slice x.pi x.items.length x.ci) (.int .i64 ((j : Nat) : Int)) (pt bt (ot + j * 23)) (fun _ => rfl) (hd 18 rfl) (hd 19 rfl) (ix22 (i := j) hpt hjl _) (hK _ (Mo.refl _))))
                            · exact og_eq (pt bt (ot + j * 23 + 6)) rfl (fun f wf hq hd K hK => go_run (wnt_g rfl rfl rfl (hd 10 rfl) rfl) (wo_un (fun v => Instr.fieldAt 66 v 5) (.tmp 116) (pt bt (ot + j * 23)) (pt bt (ot + j * 23 + 6)) (fun _ => rfl) (hd 20 rfl) (by kernel_rfl) (hK _ (Mo.refl _))))
                            · exact og_eq (.agg (y.ex.cells).toArray) rfl (fun f wf hq hd K hK => go_run (wnt_g rfl rfl rfl (hd 10 rfl) rfl) (wo_load 64 (.tmp 117) (pt bt (ot + j * 23 + 6)) (.agg (y.ex.cells).toArray) rfl (hd 21 rfl) (D.run_partR (hRt.mo (M.trans hq)).at' 64 6 17 (y.ex.cells) rfl Try.underlying64 rfl sz64) (hK _ (Mo.refl _))))
                          intro kf161 u161 hq hR hne
                          replace Q1 := Q1.mo hq
                          replace Q2 := Q2.mo hq
                          replace Q3 := Q3.mo hq
                          replace M := M.trans hq
                          clear hq hR hne
                          refine wl_call 39 [(.tmp 107), (.tmp 108), (.tmp 109), (.tmp 118)] _ [.agg (d.cells).toArray, .slice pa L.length c, .int .i64 ((i : Nat) : Int), .agg (y.ex.cells).toArray] (.bool false) rfl rfl (fun _ _ => by kernel_rfl) (cB ((lck_congr (fun e => by rw [hL]; exact kno_both (by rw [← hL]; exact hse) (by rw [← hL]; exact hil) e) y.ex).trans hf111) (unknown_n hz hw i hil y.ex (hD.kp M.kp) ((hEx y (List.mem_of_getElem? hy)).kp M.kp) (hS.kp M.kp) (fun y hy => (h5 y hy).kp M.kp))) rfl ?_
                          intro u162 hq
                          replace Q1 := Q1.mo hq
                          replace Q2 := Q2.mo hq
                          replace Q3 := Q3.mo hq
                          replace M := M.trans hq
                          clear hq
                          refine wl_pick (.tmp 106) (.tmp 119) (.const (.bool false)) true (.bool false) (fun _ => rfl) rfl rfl rfl ?_
                          refine w_nil ?_
                          refine xn_then ?_
                          refine w_condF rfl ?_
                          refine w_skip ?_
                          refine xn_blk ?_
                          refine xn_then ?_
                          refine w_reg ?_
                          refine wl_mv (.tmp 12) (.int .i64 ((j : Nat) : Int)) (fun _ => rfl) e160_i rfl ?_
                          refine wl_bin (fun x y => do eqGuard .add 3 (.tmp 94) (.const (.int .i64 (1))) x y; binOp .add 3 x y) (.tmp 94) (.const (.int .i64 (1))) (.int .i64 ((j : Nat) : Int)) (.int .i64 (1)) (.int .i64 ((j + 1 : Nat) : Int)) (fun _ => rfl) rfl rfl (add1r (k := j) (by omega) _ _ _) rfl ?_
                          refine wl_mv (.tmp 95) (.int .i64 ((j + 1 : Nat) : Int)) (fun _ => rfl) rfl rfl ?_
                          refine w_nil ?_
                          exact xn_loop (x.items.length - (j + 1)) (by omega) ⟨j + 1, rfl, by omega, e160_1, e160_2, e160_4, e160_11, rfl, Q1, Q2, Q3, fs_step hH ((foG_of hx hy).trans (by rw [hf110, hf111]; rfl)), M⟩
                    · skip
                      have hjd : decide (j < x.items.length) = false := decide_eq_false hjl
                      have hje : j = x.items.length := by omega
                      refine w_seq ?_
                      refine w_seq ?_
                      refine w_reg ?_
                      refine wl_mv (.tmp 12) (.int .i64 ((j : Nat) : Int)) (fun _ => rfl) e160_i rfl ?_
                      refine wl_mv (.tmp 4) (.slice pa L.length c) (fun _ => rfl) e160_4 rfl ?_
                      refine wl_mv (.tmp 11) (.int .i64 ((i : Nat) : Int)) (fun _ => rfl) e160_11 rfl ?_
                      refine wl_bin (fun x y => Instr.indexAt 37 x y) (.tmp 87) (.tmp 88) (.slice pa L.length c) (.int .i64 ((i : Nat) : Int)) (pt br (or + i * 5)) (fun _ => rfl) rfl rfl (ix37 (i := i) hpr hil _) rfl ?_
                      refine wl_un (fun v => Instr.fieldAt 52 v 4) (.tmp 89) (pt br (or + i * 5)) (pt br (or + i * 5 + 4)) (fun _ => rfl) rfl (by kernel_rfl) rfl ?_
                      refine wl_load 22 (.tmp 90) (pt br (or + i * 5 + 4)) (.slice x.pi x.items.length x.ci) rfl rfl (D.run_oneR (hRr.mo M).at' 22 4 rfl Try.underlying22 rfl) rfl ?_
                      refine wl_val (.int .i64 ((x.items.length : Nat) : Int)) (len22 _ _ _ _ _ (by exact rfl) _ _ _ _ _ _) rfl ?_
                      refine wl_bin (fun x y => do eqGuard .lss 3 (.tmp 86) (.tmp 92) x y; binOp .lss 3 x y) (.tmp 86) (.tmp 92) (.int .i64 ((j : Nat) : Int)) (.int .i64 ((x.items.length : Nat) : Int)) (.bool false) (fun _ => rfl) rfl rfl (ltN hjd _ _ _) rfl ?_
                      refine w_nil ?_
                      refine xn_then ?_
                      refine w_condF rfl ?_
                      refine w_exit ?_
                      refine xx_then ?_
                      refine xx_then ?_
                      refine xx_blk ?_
                      refine xn_blk ?_
                      refine xn_then ?_
                      refine w_reg ?_
                      refine wl_mv (.tmp 11) (.int .i64 ((i : Nat) : Int)) (fun _ => rfl) e160_11 rfl ?_
                      refine wl_bin (fun x y => do eqGuard .add 3 (.tmp 84) (.const (.int .i64 (1))) x y; binOp .add 3 x y) (.tmp 84) (.const (.int .i64 (1))) (.int .i64 ((i : Nat) : Int)) (.int .i64 (1)) (.int .i64 ((i + 1 : Nat) : Int)) (fun _ => rfl) rfl rfl (add1r (k := i) (by omega) _ _ _) rfl ?_
                      refine wl_mv (.tmp 85) (.int .i64 ((i + 1 : Nat) : Int)) (fun _ => rfl) rfl rfl ?_
                      refine w_nil ?_
                      exact xn_loop (L.length - (i + 1)) (by omega) ⟨i + 1, rfl, by omega, e160_1, e160_2, e160_4, rfl, Q1, Q2, Q3, fs_step hG2 (fs_none (by rw [itO_of hx, ← hje]; exact hH)), M⟩
                  · skip
                    have hid : decide (i < L.length) = false := decide_eq_false hil
                    have hie : i = L.length := by omega
                    have hfo : foR L (alF d) = none := fs_none (by rw [← hie]; exact hG2)
                    refine w_seq ?_
                    refine w_seq ?_
                    refine w_reg ?_
                    refine wl_mv (.tmp 11) (.int .i64 ((i : Nat) : Int)) (fun _ => rfl) e140_i rfl ?_
                    refine wl_mv (.tmp 4) (.slice pa L.length c) (fun _ => rfl) e140_4 rfl ?_
                    refine wl_val (.int .i64 ((L.length : Nat) : Int)) (len37 _ _ _ _ _ (by exact rfl) _ _ _ _ _ _) rfl ?_
                    refine wl_bin (fun x y => do eqGuard .lss 3 (.tmp 80) (.tmp 82) x y; binOp .lss 3 x y) (.tmp 80) (.tmp 82) (.int .i64 ((i : Nat) : Int)) (.int .i64 ((L.length : Nat) : Int)) (.bool false) (fun _ => rfl) rfl rfl (ltN hid _ _ _) rfl ?_
                    refine w_nil ?_
                    refine xn_then ?_
                    refine w_condF rfl ?_
                    refine w_exit ?_
                    refine xx_then ?_
                    refine xx_then ?_
                    refine xx_blk ?_
                    refine xn_then ?_
                    refine w_seq ?_
                    refine w_seq ?_
                    refine w_reg ?_
                    refine wl_mv (.const (.int .i64 (0))) (.int .i64 (0)) (fun _ => rfl) rfl rfl ?_
                    refine w_nil ?_
                    refine xn_then ?_
                    refine w_block ?_
                    have hzp := hD.pg.1
                    unfold maxLen at hzp
                    refine w_loop (fun m l w1 => ∃ i : Nat, m = d.pg.length - i ∧ i ≤ d.pg.length ∧ look l 1 = pt k1 0 ∧ look l 2 = pt k2 0 ∧ look l 4 = .slice pa L.length c ∧ look l 13 = .int .i64 ((i : Nat) : Int) ∧ At w1 k1 (d.cells) ∧ At w1 k2 [.int .i64 0, .int .i64 0, .int .i64 0, .int .i64 0, .int .i64 0] ∧ At w1 k3 [.int .i64 (0), .int .i64 (0), .int .i64 (0), .int .i64 (0), .int .i64 (0)] ∧ (∀ j, j < i → pgG L (alF d) d.pg j = none) ∧ Mo u3 w1) _ ⟨0, rfl, Nat.zero_le _, e140_1, e140_2, e140_4, rfl, Q1, Q2, Q3, (fun j hj => by omega), M⟩ ?_
                    clear Q1 Q2 Q3 M
                    rintro m l200 wl200 ⟨i, rfl, hi, e200_1, e200_2, e200_4, e200_i, Q1, Q2, Q3, hG3, M⟩
                    by_cases hil : i < d.pg.length
                    · skip
                      have hid : decide (i < d.pg.length) = true := decide_eq_true hil
                      obtain ⟨x, hx⟩ := get_of_lt hil
                      refine w_seq ?_
                      refine w_seq ?_
                      refine w_reg ?_
                      refine wl_mv (.tmp 13) (.int .i64 ((i : Nat) : Int)) (fun _ => rfl) e200_i rfl ?_
                      refine wl_un (fun v => Instr.fieldAt 29 v 3) (.tmp 1) (pt k1 0) (pt k1 6) (fun _ => rfl) e200_1 (by kernel_rfl) rfl ?_
                      refine wl_load 27 (.tmp 125) (pt k1 6) (.slice d.pp d.pg.length d.cp) rfl rfl (run_one Q1 27 6 rfl Try.underlying27 rfl) rfl ?_
                      refine wl_val (.int .i64 ((d.pg.length : Nat) : Int)) (len27 _ _ _ _ _ (by exact rfl) _ _ _ _ _ _) rfl ?_
                      refine wl_bin (fun x y => do eqGuard .lss 3 (.tmp 124) (.tmp 127) x y; binOp .lss 3 x y) (.tmp 124) (.tmp 127) (.int .i64 ((i : Nat) : Int)) (.int .i64 ((d.pg.length : Nat) : Int)) (.bool true) (fun _ => rfl) rfl rfl (ltN hid _ _ _) rfl ?_
                      refine w_nil ?_
                      refine xn_then ?_
                      refine w_condT rfl ?_
                      refine w_skip ?_
                      refine xn_then ?_
                      refine w_seq ?_
                      refine w_block ?_
                      refine w_seq ?_
                      refine w_reg ?_
                      refine wl_load 29 (.tmp 1) (pt k1 0) (.agg (d.cells).toArray) rfl e200_1 (run_row Q1 29 0 7 (d.cells) rfl Try.underlying29 rfl sz29) rfl ?_
                      refine wl_mv (.tmp 4) (.slice pa L.length c) (fun _ => rfl) e200_4 rfl ?_
                      refine wl_mv (.tmp 13) (.int .i64 ((i : Nat) : Int)) (fun _ => rfl) e200_i rfl ?_
                      refine wl_call 40 [(.tmp 131), (.tmp 132), (.tmp 133)] _ [.agg (d.cells).toArray, .slice pa L.length c, .int .i64 ((i : Nat) : Int)] (.int .i64 (pgF L (alF d) d.pg i x)) rfl rfl (fun _ _ => by kernel_rfl) (rpage_n d (hD.kp M.kp) (A := alF d) (hS.kp M.kp) (fun y hy => (h5 y hy).kp M.kp) hw hz h0 (fun e => by rw [hL]; exact kno_both (by rw [← hL]; exact hse) (by rw [← hL]; exact h0) e) (fun nm => by rw [hL]; exact fla_fl (by rw [← hL]; exact hse) nm) (fun nm => by rw [hL]; exact fla_kd d nm) i x hx) rfl ?_
                      intro u201 hq
                      replace Q1 := Q1.mo hq
                      replace Q2 := Q2.mo hq
                      replace Q3 := Q3.mo hq
                      replace M := M.trans hq
                      clear hq
                      refine wl_mv (.tmp 134) (.int .i64 (pgF L (alF d) d.pg i x)) (fun _ => rfl) rfl rfl ?_
                      refine w_nil ?_
                      refine xn_then ?_
                      refine w_seq ?_
                      refine w_reg ?_
                      refine wl_mv (.tmp 14) (.int .i64 (pgF L (alF d) d.pg i x)) (fun _ => rfl) rfl rfl ?_
                      cases hf140 : decide (pgF L (alF d) d.pg i x = 0) with
                      | true =>
                        have hf140p := of_decide_eq_true hf140
                        refine wl_bin (fun x y => do eqGuard .neq 34 (.tmp 135) (.const (.int .i64 (0))) x y; binOp .neq 34 x y) (.tmp 135) (.const (.int .i64 (0))) (.int .i64 (pgF L (alF d) d.pg i x)) (.int .i64 (0)) (.bool false) (fun _ => rfl) rfl rfl (ne34 hf140 _ _ _) rfl ?_
                        refine w_nil ?_
                        refine xn_then ?_
                        refine w_condF rfl ?_
                        refine w_skip ?_
                        refine xn_blk ?_
                        refine xn_then ?_
                        refine w_reg ?_
                        refine wl_mv (.tmp 13) (.int .i64 ((i : Nat) : Int)) (fun _ => rfl) e200_i rfl ?_
                        refine wl_bin (fun x y => do eqGuard .add 3 (.tmp 129) (.const (.int .i64 (1))) x y; binOp .add 3 x y) (.tmp 129) (.const (.int .i64 (1))) (.int .i64 ((i : Nat) : Int)) (.int .i64 (1)) (.int .i64 ((i + 1 : Nat) : Int)) (fun _ => rfl) rfl rfl (add1r (k := i) (by omega) _ _ _) rfl ?_
                        refine wl_mv (.tmp 130) (.int .i64 ((i + 1 : Nat) : Int)) (fun _ => rfl) rfl rfl ?_
                        refine w_nil ?_
                        exact xn_loop (d.pg.length - (i + 1)) (by omega) ⟨i + 1, rfl, by omega, e200_1, e200_2, e200_4, rfl, Q1, Q2, Q3, fs_step hG3 ((pgG_of hx).trans (er_0 hf140p)), M⟩
                      | false =>
                        have hf140p := of_decide_eq_false hf140
                        refine wl_bin (fun x y => do eqGuard .neq 34 (.tmp 135) (.const (.int .i64 (0))) x y; binOp .neq 34 x y) (.tmp 135) (.const (.int .i64 (0))) (.int .i64 (pgF L (alF d) d.pg i x)) (.int .i64 (0)) (.bool true) (fun _ => rfl) rfl rfl (ne34 hf140 _ _ _) rfl ?_
                        refine w_nil ?_
                        refine xn_then ?_
                        refine w_condT rfl ?_
                        refine w_seq ?_
                        refine w_reg ?_
                        refine wl_mv (.tmp 13) (.int .i64 ((i : Nat) : Int)) (fun _ => rfl) e200_i rfl ?_
                        refine wl_build 33 [(0, (.const (.int .i64 (4)))), (4, (.tmp 137))] [(0, .int .i64 (4)), (4, .int .i64 ((i : Nat) : Int))] (.agg #[.int .i64 (4), .int .i64 0, .int .i64 0, .int .i64 0, .int .i64 ((i : Nat) : Int)]) rfl rfl (by kernel_rfl) rfl ?_
                        refine wl_mv (.tmp 14) (.int .i64 (pgF L (alF d) d.pg i x)) (fun _ => rfl) rfl rfl ?_
                        refine wl_stm 33 (.tmp 2) (.tmp 138) k2 0 #[.int .i64 (4), .int .i64 0, .int .i64 0, .int .i64 0, .int .i64 ((i : Nat) : Int)] [.int .i64 0, .int .i64 0, .int .i64 0, .int .i64 0, .int .i64 0] [.int .i64 (4), .int .i64 0, .int .i64 0, .int .i64 0, .int .i64 ((i : Nat) : Int)] Q2 rfl rfl e200_2 rfl rfl sz33 rfl rfl rfl ?_
                        intro u202 hS hm9 Qn
                        replace Q2 := Qn
                        clear Qn
                        replace Q1 := hS.other _ _ ne_k1_k2 Q1
                        replace Q3 := hS.other _ _ ne_k2_k3.symm Q3
                        have hmT := (Mk.of (fun j => j = k2) M).same hm9
                        replace MK := (MK.trans M).tr hm9 (fun j hj e => by omega)
                        clear M hS hm9
                        have M : Mo u202 u202 := Mo.refl _
                        refine wl_mv (.tmp 139) (.int .i64 (pgF L (alF d) d.pg i x)) (fun _ => rfl) rfl rfl ?_
                        refine w_nil ?_
                        refine xn_then ?_
                        refine w_ret ?_
                        refine xr_blk ?_
                        refine xr_then ?_
                        refine xr_then ?_
                        refine xr_blk ?_
                        refine xr_then ?_
                        exact w_ret2 _ _ (.agg #[.int .i64 (4), .int .i64 0, .int .i64 0, .int .i64 0, .int .i64 ((i : Nat) : Int)]) (.int .i64 (pgF L (alF d) d.pg i x)) rfl ⟨k2, e200_2, (run_row Q2 33 0 5 [.int .i64 (4), .int .i64 0, .int .i64 0, .int .i64 0, .int .i64 ((i : Nat) : Int)] rfl Try.underlying33 rfl sz33)⟩ rfl ⟨by unfold chk; rw [← hL, er_0 hwh, Option.none_or, htb, Option.none_or, hse, Option.none_or, hfo, Option.none_or, show pgR L (alF d) d.pg = some (plc 4 0 0 0 i, pgF L (alF d) d.pg i x) from fs_hit hG3 ((pgG_of hx).trans (er_1 hf140p)) hil]; rfl, (MK.trans M).mo (Mo.refl _) (fun _ h => h.elim)⟩
                    · skip
                      have hid : decide (i < d.pg.length) = false := decide_eq_false hil
                      have hie : i = d.pg.length := by omega
                      refine w_seq ?_
                      refine w_seq ?_
                      refine w_reg ?_
                      refine wl_mv (.tmp 13) (.int .i64 ((i : Nat) : Int)) (fun _ => rfl) e200_i rfl ?_
                      refine wl_un (fun v => Instr.fieldAt 29 v 3) (.tmp 1) (pt k1 0) (pt k1 6) (fun _ => rfl) e200_1 (by kernel_rfl) rfl ?_
                      refine wl_load 27 (.tmp 125) (pt k1 6) (.slice d.pp d.pg.length d.cp) rfl rfl (run_one Q1 27 6 rfl Try.underlying27 rfl) rfl ?_
                      refine wl_val (.int .i64 ((d.pg.length : Nat) : Int)) (len27 _ _ _ _ _ (by exact rfl) _ _ _ _ _ _) rfl ?_
                      refine wl_bin (fun x y => do eqGuard .lss 3 (.tmp 124) (.tmp 127) x y; binOp .lss 3 x y) (.tmp 124) (.tmp 127) (.int .i64 ((i : Nat) : Int)) (.int .i64 ((d.pg.length : Nat) : Int)) (.bool false) (fun _ => rfl) rfl rfl (ltN hid _ _ _) rfl ?_
                      refine w_nil ?_
                      refine xn_then ?_
                      refine w_condF rfl ?_
                      refine w_exit ?_
                      refine xx_then ?_
                      refine xx_then ?_
                      refine xx_blk ?_
                      refine xn_then ?_
                      refine w_seq ?_
                      refine w_reg ?_
                      refine wl_build 33 [] [] (.agg #[.int .i64 0, .int .i64 0, .int .i64 0, .int .i64 0, .int .i64 0]) rfl rfl (by kernel_rfl) rfl ?_
                      refine wl_stm 33 (.tmp 2) (.tmp 140) k2 0 #[.int .i64 0, .int .i64 0, .int .i64 0, .int .i64 0, .int .i64 0] [.int .i64 0, .int .i64 0, .int .i64 0, .int .i64 0, .int .i64 0] [.int .i64 0, .int .i64 0, .int .i64 0, .int .i64 0, .int .i64 0] Q2 rfl rfl e200_2 rfl rfl sz33 rfl rfl rfl ?_
                      intro u201 hS hm9 Qn
                      replace Q2 := Qn
                      clear Qn
                      replace Q1 := hS.other _ _ ne_k1_k2 Q1
                      replace Q3 := hS.other _ _ ne_k2_k3.symm Q3
                      have hmT := (Mk.of (fun j => j = k2) M).same hm9
                      replace MK := (MK.trans M).tr hm9 (fun j hj e => by omega)
                      clear M hS hm9
                      have M : Mo u201 u201 := Mo.refl _
                      refine wl_mv (.const (.int .i64 (0))) (.int .i64 (0)) (fun _ => rfl) rfl rfl ?_
                      refine w_nil ?_
                      refine xn_then ?_
                      refine w_ret ?_
                      exact w_ret2 _ _ (.agg #[.int .i64 0, .int .i64 0, .int .i64 0, .int .i64 0, .int .i64 0]) (.int .i64 (0)) rfl ⟨k2, e200_2, (run_row Q2 33 0 5 [.int .i64 0, .int .i64 0, .int .i64 0, .int .i64 0, .int .i64 0] rfl Try.underlying33 rfl sz33)⟩ rfl ⟨by unfold chk; rw [← hL, er_0 hwh, Option.none_or, htb, Option.none_or, hse, Option.none_or, hfo, Option.none_or, show pgR L (alF d) d.pg = none from fs_none (by rw [← hie]; exact hG3)]; rfl, (MK.trans M).mo (Mo.refl _) (fun _ h => h.elim)⟩
                | false =>
                  obtain ⟨k9, s9, i9, t9, p9, e9, hse, hne⟩ := Pk.some (pk_se _ _) hf70
                  refine wl_call 38 [(.tmp 72)] _ [.slice pa L.length c] (.tuple #[.agg #[.int .i64 k9, .int .i64 s9, .int .i64 i9, .int .i64 t9, .int .i64 p9], .int .i64 (e9)]) rfl rfl (fun _ _ => by kernel_rfl) (by have h := rsections_n (c := c) (hS.kp M.kp) (fun y hy => (h5 y hy).kp M.kp) hw hz (tbA d.tb d.tb.length); rw [hse] at h; exact h) rfl ?_
                  intro u101 hq
                  replace Q1 := Q1.mo hq
                  replace Q2 := Q2.mo hq
                  replace M := M.trans hq
                  clear hq
                  refine wl_mv (.tmp 73) (.tuple #[.agg #[.int .i64 k9, .int .i64 s9, .int .i64 i9, .int .i64 t9, .int .i64 p9], .int .i64 (e9)]) (fun _ => rfl) rfl rfl ?_
                  refine wl_un (fun v => Instr.extract v 0) (.tmp 71) (.tuple #[.agg #[.int .i64 k9, .int .i64 s9, .int .i64 i9, .int .i64 t9, .int .i64 p9], .int .i64 (e9)]) (.agg #[.int .i64 k9, .int .i64 s9, .int .i64 i9, .int .i64 t9, .int .i64 p9]) (fun _ => rfl) rfl (by kernel_rfl) rfl ?_
                  refine wl_un (fun v => Instr.extract v 1) (.tmp 71) (.tuple #[.agg #[.int .i64 k9, .int .i64 s9, .int .i64 i9, .int .i64 t9, .int .i64 p9], .int .i64 (e9)]) (.int .i64 (e9)) (fun _ => rfl) rfl (by kernel_rfl) rfl ?_
                  refine wl_alloc 33 #[.int .i64 0, .int .i64 0, .int .i64 0, .int .i64 0, .int .i64 0] rfl (fun _ => by kernel_rfl) rfl ?_
                  intro k3 u102 hk hz hq Q3
                  have ne_k1_k3 : k1 ≠ k3 := by have := Q1.lt; omega
                  have ne_k2_k3 : k2 ≠ k3 := by have := Q2.lt; omega
                  have N_k3 : u3.heap.size ≤ k3 := by have := M.size; omega
                  replace Q1 := Q1.mo hq
                  replace Q2 := Q2.mo hq
                  replace M := M.trans hq
                  clear hk hz hq
                  refine wl_st 33 (.tmp 9) (.tmp 74) k3 0 #[.int .i64 k9, .int .i64 s9, .int .i64 i9, .int .i64 t9, .int .i64 p9] [.int .i64 0, .int .i64 0, .int .i64 0, .int .i64 0, .int .i64 0] [.int .i64 k9, .int .i64 s9, .int .i64 i9, .int .i64 t9, .int .i64 p9] Q3 rfl rfl rfl rfl rfl sz33 rfl rfl rfl ?_
                  intro u103 hS Qn
                  replace Q3 := Qn
                  clear Qn
                  replace Q1 := hS.other _ _ ne_k1_k3 Q1
                  replace Q2 := hS.other _ _ ne_k2_k3 Q2
                  replace M := hS.mo _ N_k3 M
                  clear hS
                  refine wl_mv (.tmp 75) (.int .i64 (e9)) (fun _ => rfl) rfl rfl ?_
                  refine w_nil ?_
                  refine xn_then ?_
                  refine w_seq ?_
                  refine w_reg ?_
                  refine wl_mv (.tmp 10) (.int .i64 (e9)) (fun _ => rfl) rfl rfl ?_
                  refine wl_bin (fun x y => do eqGuard .neq 34 (.tmp 76) (.const (.int .i64 (0))) x y; binOp .neq 34 x y) (.tmp 76) (.const (.int .i64 (0))) (.int .i64 (e9)) (.int .i64 (0)) (.bool true) (fun _ => rfl) rfl rfl (ne34 (decide_eq_false hne) _ _ _) rfl ?_
                  refine w_nil ?_
                  refine xn_then ?_
                  refine w_condT rfl ?_
                  refine w_seq ?_
                  refine w_reg ?_
                  refine wl_load 33 (.tmp 9) (pt k3 0) (.agg #[.int .i64 k9, .int .i64 s9, .int .i64 i9, .int .i64 t9, .int .i64 p9]) rfl rfl (run_row Q3 33 0 5 [.int .i64 k9, .int .i64 s9, .int .i64 i9, .int .i64 t9, .int .i64 p9] rfl Try.underlying33 rfl sz33) rfl ?_
                  refine wl_mv (.tmp 10) (.int .i64 (e9)) (fun _ => rfl) rfl rfl ?_
                  refine wl_stm 33 (.tmp 2) (.tmp 78) k2 0 #[.int .i64 k9, .int .i64 s9, .int .i64 i9, .int .i64 t9, .int .i64 p9] [.int .i64 0, .int .i64 0, .int .i64 0, .int .i64 0, .int .i64 0] [.int .i64 k9, .int .i64 s9, .int .i64 i9, .int .i64 t9, .int .i64 p9] Q2 rfl rfl e100_2 rfl rfl sz33 rfl rfl rfl ?_
                  intro u104 hS hm9 Qn
                  replace Q2 := Qn
                  clear Qn
                  replace Q1 := hS.other _ _ ne_k1_k2 Q1
                  replace Q3 := hS.other _ _ ne_k2_k3.symm Q3
                  have hmT := (Mk.of (fun j => j = k2) M).same hm9
                  replace MK := (MK.trans M).tr hm9 (fun j hj e => by omega)
                  clear M hS hm9
                  have M : Mo u104 u104 := Mo.refl _
                  refine wl_mv (.tmp 79) (.int .i64 (e9)) (fun _ => rfl) rfl rfl ?_
                  refine w_nil ?_
                  refine xn_then ?_
                  refine w_ret ?_
                  refine xr_then ?_
                  exact w_ret2 _ _ (.agg #[.int .i64 k9, .int .i64 s9, .int .i64 i9, .int .i64 t9, .int .i64 p9]) (.int .i64 (e9)) rfl ⟨k2, e100_2, (run_row Q2 33 0 5 [.int .i64 k9, .int .i64 s9, .int .i64 i9, .int .i64 t9, .int .i64 p9] rfl Try.underlying33 rfl sz33)⟩ rfl ⟨by unfold chk; rw [← hL, er_0 hwh, Option.none_or, htb, Option.none_or, hse]; rfl, (MK.trans M).mo (Mo.refl _) (fun _ h => h.elim)⟩
  | false =>
    refine wl_call 36 [(.tmp 18)] _ [.string d.nm] (.bool false) rfl rfl (fun _ _ => by kernel_rfl) (cB hf0 (rmay_n d.nm _)) rfl ?_
    intro u4 hq
    replace Q1 := Q1.mo hq
    replace Q2 := Q2.mo hq
    replace M := M.trans hq
    clear hq
    refine wl_un (fun v => Op.unary .not v) (.tmp 19) (.bool false) (.bool true) (fun _ => rfl) rfl (by kernel_rfl) rfl ?_
    refine w_nil ?_
    refine xn_then ?_
    refine w_condT rfl ?_
    refine w_seq ?_
    refine w_reg ?_
    refine wl_build 33 [] [] (.agg #[.int .i64 0, .int .i64 0, .int .i64 0, .int .i64 0, .int .i64 0]) rfl rfl (by kernel_rfl) rfl ?_
    refine wl_stm 33 (.tmp 2) (.tmp 21) k2 0 #[.int .i64 0, .int .i64 0, .int .i64 0, .int .i64 0, .int .i64 0] [.int .i64 0, .int .i64 0, .int .i64 0, .int .i64 0, .int .i64 0] [.int .i64 0, .int .i64 0, .int .i64 0, .int .i64 0, .int .i64 0] Q2 rfl rfl rfl rfl rfl sz33 rfl rfl rfl ?_
    intro u5 hS hm9 Qn
    replace Q2 := Qn
    clear Qn
    replace Q1 := hS.other _ _ ne_k1_k2 Q1
    have hmT := (Mk.of (fun j => j = k2) M).same hm9
    replace MK := (MK.trans M).tr hm9 (fun j hj e => by omega)
    clear M hS hm9
    have M : Mo u5 u5 := Mo.refl _
    refine wl_mv (.const (.int .i64 (90))) (.int .i64 (90)) (fun _ => rfl) rfl rfl ?_
    refine w_nil ?_
    refine xn_then ?_
    refine w_ret ?_
    refine xr_then ?_
    have hwh : whE d L = 90 := by unfold whE; rw [hf0]; rfl
    exact w_ret2 _ _ (.agg #[.int .i64 0, .int .i64 0, .int .i64 0, .int .i64 0, .int .i64 0]) (.int .i64 (90)) rfl ⟨k2, rfl, (run_row Q2 33 0 5 [.int .i64 0, .int .i64 0, .int .i64 0, .int .i64 0, .int .i64 0] rfl Try.underlying33 rfl sz33)⟩ rfl ⟨by unfold chk; rw [← hL, er_1 (by rw [hwh]; decide), hwh]; rfl, (MK.trans M).mo (Mo.refl _) (fun _ h => h.elim)⟩
end Go.Proofs.Ytbanldffohopiaa
