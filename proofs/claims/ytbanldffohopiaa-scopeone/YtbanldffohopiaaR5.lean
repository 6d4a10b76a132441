/-
  The document's side: tables, sections, items.
-/
import Derived.Test.YtbanldffohopiaaR4
namespace Go.Proofs.Ytbanldffohopiaa
open Go.RowKit D
theorem any_congr {α : Type} {f g : α → Bool} : ∀ {l : List α}, (∀ a ∈ l, f a = g a) → l.any f = l.any g
  | [], _ => rfl
  | x :: l, h => by rw [List.any_cons, List.any_cons, h x (List.mem_cons_self ..), any_congr (fun a ha => h a (List.mem_cons_of_mem _ ha))]
theorem tF_ffi (l : List Tb) (nm : ByteArray) : tF l nm = ffi (fun y => decide (y.nm = nm)) l := by
  unfold tF ffi
  congr 1
  funext i
  unfold tG fiG
  congr 1
  funext x
  by_cases h : x.nm = nm <;> simp [h]
theorem stI_lt {L : List S5} {n i a : Nat} (h : a < n) : stI L n i a = itA (itO L a) (itO L a).length := if_pos h
theorem ar_eq {L : List S5} {n i a : Nat} {nm : ByteArray} (h : a < n) : (decide (nmO L a = nm) || (lk (stI L n i a) nm).isSome) = arP L nm a := by
  unfold arP
  rw [stI_lt h, itA_any, List.take_length]
/-- What is around a section, by what the maps hold then. -/
theorem arn_tkn {L : List S5} (hw : Wf L) {n i : Nat} {x : S5} {nm : ByteArray} (hx : L[n]? = some x) (hn : 0 < n) : arn L n nm = tkn L (stI L n i) x.pr.toNat nm := by
  obtain ⟨R, hR, hU⟩ := anc_step hw hx
  obtain ⟨h1, _, h3⟩ := hw n x hx
  have h4 := h3 hn
  rcases hU with ⟨h, _⟩ | ⟨k, hk, hkl, rfl⟩
  · omega
  · unfold arn tkn
    rw [hR, List.tail_cons, show x.pr.toNat = k by omega]
    exact any_congr (fun a ha => (ar_eq (by have := anc_le L k a ha; omega)).symm)
theorem arn_item {L : List S5} (hw : Wf L) {n i : Nat} {x : S5} {nm : ByteArray} (hx : L[n]? = some x) : tkn L (stI L n i) n nm = ((x.items.take i).any (fun y => decide (y.nm = nm)) || decide (x.nm = nm) || arn L n nm) := by
  obtain ⟨R, hR, hU⟩ := anc_step hw hx
  obtain ⟨h1, _, _⟩ := hw n x hx
  unfold tkn arn
  rw [hR, List.tail_cons, List.any_cons, nmO_of hx, stI_self, itO_of hx, itA_any, Bool.or_comm (decide (x.nm = nm))]
  congr 1
  rcases hU with ⟨_, rfl⟩ | ⟨k, hk, hkl, rfl⟩
  · rfl
  · exact any_congr (fun a ha => ar_eq (by have := anc_le L k a ha; omega))
theorem rtable_n (d : Df) {w : World} (hD : LDf w d) (i : Nat) (x : Tb) (hx : d.tb[i]? = some x) : Calls Try.prog 37 #[.agg (d.cells).toArray, .int .i64 ((i : Nat) : Int)] w fun e w' => e = .returned (.int .i64 (tbE (tbA d.tb i) x)) ∧ Mo w w' := by
  have hil := lt_of_get hx
  obtain ⟨k9, hk9, hkd⟩ := ffi_lt (f := fun y => decide (y.nm = x.nm)) hx (by simp)
  have hdec : (lk (tbA d.tb i) x.nm).isSome = decide ((tF d.tb x.nm).getD 0 < i) := by rw [tF_ffi, hk9, tbA_any]; exact hkd.symm
  obtain ⟨bp, op, hpp, hRp⟩ := D.SL.rw hD.tb hx
  refine w_enter 37 Try.func37 Try.ntmps37 rfl rfl ?_
  have M : Mo w w := Mo.refl _
  refine w_seq ?_
  refine w_reg ?_
  refine wl_box 29 (.tmp 0) (.agg (d.cells).toArray) (((d.cells).toArray)) rfl rfl (fun _ => by kernel_rfl) rfl ?_
  intro k1 u1 hk hz hq Q1
  have N_k1 : w.heap.size ≤ k1 := by have := M.size; omega
  replace M := M.trans hq
  clear hk hz hq
  refine wl_mv (.const (.int .i64 (0))) (.int .i64 (0)) (fun _ => rfl) rfl rfl ?_
  refine w_nil ?_
  refine xn_then ?_
  refine w_seq ?_
  refine w_reg ?_
  refine wl_un (fun v => Instr.fieldAt 29 v 2) (.tmp 2) (pt k1 0) (pt k1 5) (fun _ => rfl) rfl (by kernel_rfl) rfl ?_
  refine wl_load 26 (.tmp 8) (pt k1 5) (.slice d.pt d.tb.length d.ct) rfl rfl (run_one Q1 26 5 rfl Try.underlying26 rfl) rfl ?_
  refine wl_mv (.tmp 1) (.int .i64 ((i : Nat) : Int)) (fun _ => rfl) rfl rfl ?_
  refine wl_bin (fun x y => Instr.indexAt 26 x y) (.tmp 9) (.tmp 10) (.slice d.pt d.tb.length d.ct) (.int .i64 ((i : Nat) : Int)) (pt bp (op + i * 2)) (fun _ => rfl) rfl rfl (ix26 (i := i) hpp hil _) rfl ?_
  refine wl_load 85 (.tmp 11) (pt bp (op + i * 2)) (.agg (x.cells).toArray) rfl rfl (D.run_partR (hRp.mo M).at' 85 0 2 (x.cells) rfl Try.underlying85 rfl sz85) rfl ?_
  refine wl_alloc 85 #[.string ⟨#[]⟩, .slice none 0 0] rfl (fun _ => by kernel_rfl) rfl ?_
  intro k2 u2 hk hz hq Q2
  have ne_k1_k2 : k1 ≠ k2 := by have := Q1.lt; omega
  have N_k2 : w.heap.size ≤ k2 := by have := M.size; omega
  replace Q1 := Q1.mo hq
  replace M := M.trans hq
  clear hk hz hq
  refine wl_st 85 (.tmp 5) (.tmp 12) k2 0 ((x.cells).toArray) [.string ⟨#[]⟩, .slice none 0 0] (x.cells) Q2 rfl rfl rfl rfl rfl sz85 rfl rfl rfl ?_
  intro u3 hS Qn
  replace Q2 := Qn
  clear Qn
  replace Q1 := hS.other _ _ ne_k1_k2 Q1
  replace M := hS.mo _ N_k2 M
  clear hS
  refine w_nil ?_
  refine xn_then ?_
  refine w_seq ?_
  refine w_seq ?_
  refine w_reg ?_
  refine wl_un (fun v => Instr.fieldAt 85 v 0) (.tmp 5) (pt k2 0) (pt k2 0) (fun _ => rfl) rfl (by kernel_rfl) rfl ?_
  refine wl_load 9 (.tmp 13) (pt k2 0) (.string x.nm) rfl rfl (run_one Q2 9 0 rfl Try.underlying9 rfl) rfl ?_
  cases hf0 : may x.nm with
  | true =>
    refine wl_call 36 [(.tmp 14)] _ [.string x.nm] (.bool true) rfl rfl (fun _ _ => by kernel_rfl) (cB hf0 (rmay_n x.nm _)) rfl ?_
    intro u4 hq
    replace Q1 := Q1.mo hq
    replace Q2 := Q2.mo hq
    replace M := M.trans hq
    clear hq
    refine wl_un (fun v => Op.unary .not v) (.tmp 15) (.bool true) (.bool false) (fun _ => rfl) rfl (by kernel_rfl) rfl ?_
    refine w_nil ?_
    refine xn_then ?_
    refine w_condF rfl ?_
    refine w_skip ?_
    refine xn_then ?_
    refine w_seq ?_
    refine w_seq ?_
    refine w_reg ?_
    refine wl_load 29 (.tmp 2) (pt k1 0) (.agg (d.cells).toArray) rfl rfl (run_row Q1 29 0 7 (d.cells) rfl Try.underlying29 rfl sz29) rfl ?_
    refine wl_un (fun v => Instr.fieldAt 85 v 0) (.tmp 5) (pt k2 0) (pt k2 0) (fun _ => rfl) rfl (by kernel_rfl) rfl ?_
    refine wl_load 9 (.tmp 19) (pt k2 0) (.string x.nm) rfl rfl (run_one Q2 9 0 rfl Try.underlying9 rfl) rfl ?_
    refine wl_call 17 [(.tmp 18), (.tmp 20)] _ [.agg (d.cells).toArray, .string x.nm] (.tuple #[.int .i64 (((tF d.tb x.nm).getD 0 : Nat) : Int), .bool ((tF d.tb x.nm).isSome)]) rfl rfl (fun _ _ => by kernel_rfl) (rtab_n d x.nm (hD.kp M.kp)) rfl ?_
    intro u5 hq
    replace Q1 := Q1.mo hq
    replace Q2 := Q2.mo hq
    replace M := M.trans hq
    clear hq
    refine wl_mv (.tmp 21) (.tuple #[.int .i64 (((tF d.tb x.nm).getD 0 : Nat) : Int), .bool ((tF d.tb x.nm).isSome)]) (fun _ => rfl) rfl rfl ?_
    refine wl_un (fun v => Instr.extract v 0) (.tmp 17) (.tuple #[.int .i64 (((tF d.tb x.nm).getD 0 : Nat) : Int), .bool ((tF d.tb x.nm).isSome)]) (.int .i64 (((tF d.tb x.nm).getD 0 : Nat) : Int)) (fun _ => rfl) rfl (by kernel_rfl) rfl ?_
    refine wl_un (fun v => Instr.extract v 1) (.tmp 17) (.tuple #[.int .i64 (((tF d.tb x.nm).getD 0 : Nat) : Int), .bool ((tF d.tb x.nm).isSome)]) (.bool ((tF d.tb x.nm).isSome)) (fun _ => rfl) rfl (by kernel_rfl) rfl ?_
    refine wl_mv (.tmp 22) (.int .i64 (((tF d.tb x.nm).getD 0 : Nat) : Int)) (fun _ => rfl) rfl rfl ?_
    refine wl_mv (.tmp 23) (.bool ((tF d.tb x.nm).isSome)) (fun _ => rfl) rfl rfl ?_
    refine w_nil ?_
    refine xn_then ?_
    refine w_seq ?_
    refine w_reg ?_
    refine wl_mv (.tmp 6) (.int .i64 (((tF d.tb x.nm).getD 0 : Nat) : Int)) (fun _ => rfl) rfl rfl ?_
    refine wl_mv (.tmp 1) (.int .i64 ((i : Nat) : Int)) (fun _ => rfl) rfl rfl ?_
    cases hf1 : decide ((tF d.tb x.nm).getD 0 < i) with
    | true =>
      have hf1p := of_decide_eq_true hf1
      refine wl_bin (fun x y => do eqGuard .lss 3 (.tmp 24) (.tmp 25) x y; binOp .lss 3 x y) (.tmp 24) (.tmp 25) (.int .i64 (((tF d.tb x.nm).getD 0 : Nat) : Int)) (.int .i64 ((i : Nat) : Int)) (.bool true) (fun _ => rfl) rfl rfl (ltN hf1 _ _ _) rfl ?_
      refine w_nil ?_
      refine xn_then ?_
      refine w_condT rfl ?_
      refine w_seq ?_
      refine w_reg ?_
      refine wl_mv (.const (.int .i64 (5))) (.int .i64 (5)) (fun _ => rfl) rfl rfl ?_
      refine w_nil ?_
      refine xn_then ?_
      refine w_ret ?_
      refine xr_then ?_
      exact w_ret1 _ (.int .i64 (5)) rfl rfl ⟨by unfold tbE; rw [hdec, hf0, hf1]; first | done | rfl, M⟩
    | false =>
      have hf1p := of_decide_eq_false hf1
      refine wl_bin (fun x y => do eqGuard .lss 3 (.tmp 24) (.tmp 25) x y; binOp .lss 3 x y) (.tmp 24) (.tmp 25) (.int .i64 (((tF d.tb x.nm).getD 0 : Nat) : Int)) (.int .i64 ((i : Nat) : Int)) (.bool false) (fun _ => rfl) rfl rfl (ltN hf1 _ _ _) rfl ?_
      refine w_nil ?_
      refine xn_then ?_
      refine w_condF rfl ?_
      refine w_skip ?_
      refine xn_then ?_
      refine w_seq ?_
      refine w_seq ?_
      refine w_reg ?_
      refine wl_un (fun v => Instr.fieldAt 85 v 1) (.tmp 5) (pt k2 0) (pt k2 1) (fun _ => rfl) rfl (by kernel_rfl) rfl ?_
      refine wl_load 83 (.tmp 27) (pt k2 1) (.slice x.pa x.st.length x.cap) rfl rfl (run_one Q2 83 1 rfl Try.underlying83 rfl) rfl ?_
      refine wl_val (.int .i64 ((x.st.length : Nat) : Int)) (len83 _ _ _ _ _ (by exact rfl) _ _ _ _ _ _) rfl ?_
      cases hf2 : decide (x.st.length < 1) with
      | true =>
        have hf2p := of_decide_eq_true hf2
        refine wl_bin (fun x y => do eqGuard .lss 3 (.tmp 29) (.const (.int .i64 (1))) x y; binOp .lss 3 x y) (.tmp 29) (.const (.int .i64 (1))) (.int .i64 ((x.st.length : Nat) : Int)) (.int .i64 (1)) (.bool true) (fun _ => rfl) rfl rfl (ltN hf2 _ _ _) rfl ?_
        refine wl_mv (.tmp 30) (.bool true) (fun _ => rfl) rfl rfl ?_
        refine wl_skip rfl ?_
        refine wl_skip rfl ?_
        refine wl_skip rfl ?_
        refine wl_skip rfl ?_
        refine wl_pick (.tmp 31) (.const (.bool true)) (.tmp 35) true (.bool true) (fun _ => rfl) rfl rfl rfl ?_
        refine w_nil ?_
        refine xn_then ?_
        refine w_condT rfl ?_
        refine w_seq ?_
        refine w_reg ?_
        refine wl_mv (.const (.int .i64 (92))) (.int .i64 (92)) (fun _ => rfl) rfl rfl ?_
        refine w_nil ?_
        refine xn_then ?_
        refine w_ret ?_
        refine xr_then ?_
        exact w_ret1 _ (.int .i64 (92)) rfl rfl ⟨by unfold tbE; rw [hdec, hf0, hf1, hf2]; first | done | rfl, M⟩
      | false =>
        have hf2p := of_decide_eq_false hf2
        refine wl_bin (fun x y => do eqGuard .lss 3 (.tmp 29) (.const (.int .i64 (1))) x y; binOp .lss 3 x y) (.tmp 29) (.const (.int .i64 (1))) (.int .i64 ((x.st.length : Nat) : Int)) (.int .i64 (1)) (.bool false) (fun _ => rfl) rfl rfl (ltN hf2 _ _ _) rfl ?_
        refine wl_mv (.tmp 30) (.bool false) (fun _ => rfl) rfl rfl ?_
        refine wl_un (fun v => Instr.fieldAt 85 v 1) (.tmp 5) (pt k2 0) (pt k2 1) (fun _ => rfl) rfl (by kernel_rfl) rfl ?_
        refine wl_load 83 (.tmp 32) (pt k2 1) (.slice x.pa x.st.length x.cap) rfl rfl (run_one Q2 83 1 rfl Try.underlying83 rfl) rfl ?_
        refine wl_val (.int .i64 ((x.st.length : Nat) : Int)) (len83 _ _ _ _ _ (by exact rfl) _ _ _ _ _ _) rfl ?_
        cases hf3 : decide (32 < x.st.length) with
        | true =>
          have hf3p := of_decide_eq_true hf3
          refine wl_bin (fun x y => do eqGuard .gtr 3 (.tmp 34) (.const (.int .i64 (32))) x y; binOp .gtr 3 x y) (.tmp 34) (.const (.int .i64 (32))) (.int .i64 ((x.st.length : Nat) : Int)) (.int .i64 (32)) (.bool true) (fun _ => rfl) rfl rfl (gtN hf3 _ _ _) rfl ?_
          refine wl_pick (.tmp 31) (.const (.bool true)) (.tmp 35) false (.bool true) (fun _ => rfl) rfl rfl rfl ?_
          refine w_nil ?_
          refine xn_then ?_
          refine w_condT rfl ?_
          refine w_seq ?_
          refine w_reg ?_
          refine wl_mv (.const (.int .i64 (92))) (.int .i64 (92)) (fun _ => rfl) rfl rfl ?_
          refine w_nil ?_
          refine xn_then ?_
          refine w_ret ?_
          refine xr_then ?_
          exact w_ret1 _ (.int .i64 (92)) rfl rfl ⟨by unfold tbE; rw [hdec, hf0, hf1, hf2, hf3]; first | done | rfl, M⟩
        | false =>
          have hf3p := of_decide_eq_false hf3
          refine wl_bin (fun x y => do eqGuard .gtr 3 (.tmp 34) (.const (.int .i64 (32))) x y; binOp .gtr 3 x y) (.tmp 34) (.const (.int .i64 (32))) (.int .i64 ((x.st.length : Nat) : Int)) (.int .i64 (32)) (.bool false) (fun _ => rfl) rfl rfl (gtN hf3 _ _ _) rfl ?_
          refine wl_pick (.tmp 31) (.const (.bool true)) (.tmp 35) false (.bool false) (fun _ => rfl) rfl rfl rfl ?_
          refine w_nil ?_
          refine xn_then ?_
          refine w_condF rfl ?_
          refine w_skip ?_
          refine xn_then ?_
          refine w_seq ?_
          refine w_reg ?_
          refine wl_mv (.const (.int .i64 (0))) (.int .i64 (0)) (fun _ => rfl) rfl rfl ?_
          refine w_nil ?_
          refine xn_then ?_
          refine w_ret ?_
          exact w_ret1 _ (.int .i64 (0)) rfl rfl ⟨by unfold tbE; rw [hdec, hf0, hf1, hf2, hf3]; first | done | rfl, M⟩
  | false =>
    refine wl_call 36 [(.tmp 14)] _ [.string x.nm] (.bool false) rfl rfl (fun _ _ => by kernel_rfl) (cB hf0 (rmay_n x.nm _)) rfl ?_
    intro u4 hq
    replace Q1 := Q1.mo hq
    replace Q2 := Q2.mo hq
    replace M := M.trans hq
    clear hq
    refine wl_un (fun v => Op.unary .not v) (.tmp 15) (.bool false) (.bool true) (fun _ => rfl) rfl (by kernel_rfl) rfl ?_
    refine w_nil ?_
    refine xn_then ?_
    refine w_condT rfl ?_
    refine w_seq ?_
    refine w_reg ?_
    refine wl_mv (.const (.int .i64 (90))) (.int .i64 (90)) (fun _ => rfl) rfl rfl ?_
    refine w_nil ?_
    refine xn_then ?_
    refine w_ret ?_
    refine xr_then ?_
    exact w_ret1 _ (.int .i64 (90)) rfl rfl ⟨by unfold tbE; rw [hf0]; first | done | rfl, M⟩
theorem rsection_n {w : World} {pa : Option Addr} {c : Nat} {L : List S5} (hS : SL w 5 S5.cells pa L) (h5 : ∀ x ∈ L, LS5 w x) (hw : Wf L) (hz : L.length ≤ 64) (T : List (ByteArray × Int)) (n : Nat) (x : S5) (hx : L[n]? = some x) : Calls Try.prog 58 #[.slice pa L.length c, .int .i64 ((n : Nat) : Int)] w fun e w' => e = .returned (.int .i64 (seE L ⟨T, stI L n 0, stK L n⟩ n x)) ∧ Mo w w' := by
  have hil := lt_of_get hx
  have hwn := hw n x hx
  obtain ⟨bp, op, hpp, hRp⟩ := D.SL.rw hS hx
  refine w_enter 77 Try.func58 Try.ntmps58 rfl rfl ?_
  have M : Mo w w := Mo.refl _
  refine w_seq ?_
  refine w_reg ?_
  refine wl_mv (.const (.int .i64 (0))) (.int .i64 (0)) (fun _ => rfl) rfl rfl ?_
  refine w_nil ?_
  refine xn_then ?_
  refine w_seq ?_
  refine w_reg ?_
  refine wl_mv (.tmp 0) (.slice pa L.length c) (fun _ => rfl) rfl rfl ?_
  refine wl_mv (.tmp 1) (.int .i64 ((n : Nat) : Int)) (fun _ => rfl) rfl rfl ?_
  refine wl_bin (fun x y => Instr.indexAt 37 x y) (.tmp 8) (.tmp 9) (.slice pa L.length c) (.int .i64 ((n : Nat) : Int)) (pt bp (op + n * 5)) (fun _ => rfl) rfl rfl (ix37 (i := n) hpp hil _) rfl ?_
  refine wl_load 52 (.tmp 10) (pt bp (op + n * 5)) (.agg (x.cells).toArray) rfl rfl (D.run_partR (hRp.mo M).at' 52 0 5 (x.cells) rfl Try.underlying52 rfl sz52) rfl ?_
  refine wl_alloc 52 #[.int .i64 0, .int .i64 0, .string ⟨#[]⟩, .int .i64 0, .slice none 0 0] rfl (fun _ => by kernel_rfl) rfl ?_
  intro k1 u1 hk hz hq Q1
  have N_k1 : w.heap.size ≤ k1 := by have := M.size; omega
  replace M := M.trans hq
  clear hk hz hq
  refine wl_st 52 (.tmp 5) (.tmp 11) k1 0 ((x.cells).toArray) [.int .i64 0, .int .i64 0, .string ⟨#[]⟩, .int .i64 0, .slice none 0 0] (x.cells) Q1 rfl rfl rfl rfl rfl sz52 rfl rfl rfl ?_
  intro u2 hS Qn
  replace Q1 := Qn
  clear Qn
  replace M := hS.mo _ N_k1 M
  clear hS
  refine w_nil ?_
  refine xn_then ?_
  refine w_seq ?_
  refine w_seq ?_
  refine w_reg ?_
  refine wl_mv (.tmp 1) (.int .i64 ((n : Nat) : Int)) (fun _ => rfl) rfl rfl ?_
  cases hf0 : decide (0 < n) with
  | true =>
    have hf0p := of_decide_eq_true hf0
    refine wl_bin (fun x y => do eqGuard .gtr 3 (.tmp 12) (.const (.int .i64 (0))) x y; binOp .gtr 3 x y) (.tmp 12) (.const (.int .i64 (0))) (.int .i64 ((n : Nat) : Int)) (.int .i64 (0)) (.bool true) (fun _ => rfl) rfl rfl (gtN hf0 _ _ _) rfl ?_
    refine wl_mv (.tmp 13) (.bool true) (fun _ => rfl) rfl rfl ?_
    refine wl_un (fun v => Instr.fieldAt 52 v 2) (.tmp 5) (pt k1 0) (pt k1 2) (fun _ => rfl) rfl (by kernel_rfl) rfl ?_
    refine wl_load 9 (.tmp 15) (pt k1 2) (.string x.nm) rfl rfl (run_one Q1 9 2 rfl Try.underlying9 rfl) rfl ?_
    cases hf1 : may x.nm with
    | true =>
      refine wl_call 36 [(.tmp 16)] _ [.string x.nm] (.bool true) rfl rfl (fun _ _ => by kernel_rfl) (cB hf1 (rmay_n x.nm _)) rfl ?_
      intro u3 hq
      replace Q1 := Q1.mo hq
      replace M := M.trans hq
      clear hq
      refine wl_un (fun v => Op.unary .not v) (.tmp 17) (.bool true) (.bool false) (fun _ => rfl) rfl (by kernel_rfl) rfl ?_
      refine wl_pick (.tmp 14) (.tmp 18) (.const (.bool false)) true (.bool false) (fun _ => rfl) rfl rfl rfl ?_
      refine wl_mv (.tmp 19) (.bool false) (fun _ => rfl) rfl rfl ?_
      refine wl_mv (.tmp 1) (.int .i64 ((n : Nat) : Int)) (fun _ => rfl) rfl rfl ?_
      refine wl_bin (fun x y => do eqGuard .eql 3 (.tmp 21) (.const (.int .i64 (0))) x y; binOp .eql 3 x y) (.tmp 21) (.const (.int .i64 (0))) (.int .i64 ((n : Nat) : Int)) (.int .i64 (0)) (.bool false) (fun _ => rfl) rfl rfl (eq3 (decide_eq_false (show ¬ ((n : Nat) : Int) = 0 by omega)) _ _ _) rfl ?_
      refine wl_mv (.tmp 22) (.bool false) (fun _ => rfl) rfl rfl ?_
      refine wl_skip rfl ?_
      refine wl_skip rfl ?_
      refine wl_skip rfl ?_
      refine wl_pick (.tmp 23) (.tmp 26) (.const (.bool false)) false (.bool false) (fun _ => rfl) rfl rfl rfl ?_
      refine wl_pick (.tmp 20) (.const (.bool true)) (.tmp 27) false (.bool false) (fun _ => rfl) rfl rfl rfl ?_
      refine w_nil ?_
      refine xn_then ?_
      refine w_condF rfl ?_
      refine w_skip ?_
      refine xn_then ?_
      refine w_seq ?_
      refine w_seq ?_
      refine w_reg ?_
      refine wl_mv (.tmp 1) (.int .i64 ((n : Nat) : Int)) (fun _ => rfl) rfl rfl ?_
      refine wl_bin (fun x y => do eqGuard .gtr 3 (.tmp 29) (.const (.int .i64 (0))) x y; binOp .gtr 3 x y) (.tmp 29) (.const (.int .i64 (0))) (.int .i64 ((n : Nat) : Int)) (.int .i64 (0)) (.bool true) (fun _ => rfl) rfl rfl (gtN hf0 _ _ _) rfl ?_
      refine w_nil ?_
      refine xn_then ?_
      refine w_condT rfl ?_
      refine w_seq ?_
      have hp3 := hwn.2.2 (by omega)
      have hpn : x.pr = ((x.pr.toNat : Nat) : Int) := by omega
      obtain ⟨k9, hk9, hkd⟩ := ffi_lt (f := kdP x.pr.toNat x.nm) hx (by unfold kdP; simp; omega)
      have hdec : (lk (stK L n x.pr.toNat) x.nm).isSome = decide ((ffi (kdP x.pr.toNat x.nm) L).getD 0 < n) := by unfold stK; rw [kdA_any, hk9]; exact hkd.symm
      have hat := arn_tkn (i := 0) (nm := x.nm) hw hx (by omega)
      refine w_reg ?_
      refine wl_mv (.tmp 0) (.slice pa L.length c) (fun _ => rfl) rfl rfl ?_
      refine wl_un (fun v => Instr.fieldAt 52 v 0) (.tmp 5) (pt k1 0) (pt k1 0) (fun _ => rfl) rfl (by kernel_rfl) rfl ?_
      refine wl_load 3 (.tmp 33) (pt k1 0) (.int .i64 (x.pr)) rfl rfl (run_one Q1 3 0 rfl Try.underlying3 rfl) rfl ?_
      refine wl_un (fun v => Instr.fieldAt 52 v 2) (.tmp 5) (pt k1 0) (pt k1 2) (fun _ => rfl) rfl (by kernel_rfl) rfl ?_
      refine wl_load 9 (.tmp 35) (pt k1 2) (.string x.nm) rfl rfl (run_one Q1 9 2 rfl Try.underlying9 rfl) rfl ?_
      refine wl_call 15 [(.tmp 32), (.tmp 34), (.tmp 36)] _ [.slice pa L.length c, .int .i64 (x.pr), .string x.nm] (.tuple #[.int .i64 (((ffi (kdP x.pr.toNat x.nm) L).getD 0 : Nat) : Int), .bool ((ffi (kdP x.pr.toNat x.nm) L).isSome)]) rfl rfl (fun _ _ => by kernel_rfl) (by rw [hpn]; exact kid_n (hS.kp M.kp) hz x.pr.toNat x.nm) rfl ?_
      intro u4 hq
      replace Q1 := Q1.mo hq
      replace M := M.trans hq
      clear hq
      refine wl_mv (.tmp 37) (.tuple #[.int .i64 (((ffi (kdP x.pr.toNat x.nm) L).getD 0 : Nat) : Int), .bool ((ffi (kdP x.pr.toNat x.nm) L).isSome)]) (fun _ => rfl) rfl rfl ?_
      refine wl_un (fun v => Instr.extract v 0) (.tmp 31) (.tuple #[.int .i64 (((ffi (kdP x.pr.toNat x.nm) L).getD 0 : Nat) : Int), .bool ((ffi (kdP x.pr.toNat x.nm) L).isSome)]) (.int .i64 (((ffi (kdP x.pr.toNat x.nm) L).getD 0 : Nat) : Int)) (fun _ => rfl) rfl (by kernel_rfl) rfl ?_
      refine wl_un (fun v => Instr.extract v 1) (.tmp 31) (.tuple #[.int .i64 (((ffi (kdP x.pr.toNat x.nm) L).getD 0 : Nat) : Int), .bool ((ffi (kdP x.pr.toNat x.nm) L).isSome)]) (.bool ((ffi (kdP x.pr.toNat x.nm) L).isSome)) (fun _ => rfl) rfl (by kernel_rfl) rfl ?_
      refine wl_mv (.tmp 38) (.int .i64 (((ffi (kdP x.pr.toNat x.nm) L).getD 0 : Nat) : Int)) (fun _ => rfl) rfl rfl ?_
      refine wl_mv (.tmp 39) (.bool ((ffi (kdP x.pr.toNat x.nm) L).isSome)) (fun _ => rfl) rfl rfl ?_
      refine w_nil ?_
      refine xn_then ?_
      refine w_seq ?_
      refine w_reg ?_
      refine wl_mv (.tmp 6) (.int .i64 (((ffi (kdP x.pr.toNat x.nm) L).getD 0 : Nat) : Int)) (fun _ => rfl) rfl rfl ?_
      refine wl_mv (.tmp 1) (.int .i64 ((n : Nat) : Int)) (fun _ => rfl) rfl rfl ?_
      cases hf2 : decide ((ffi (kdP x.pr.toNat x.nm) L).getD 0 < n) with
      | true =>
        have hf2p := of_decide_eq_true hf2
        refine wl_bin (fun x y => do eqGuard .lss 3 (.tmp 40) (.tmp 41) x y; binOp .lss 3 x y) (.tmp 40) (.tmp 41) (.int .i64 (((ffi (kdP x.pr.toNat x.nm) L).getD 0 : Nat) : Int)) (.int .i64 ((n : Nat) : Int)) (.bool true) (fun _ => rfl) rfl rfl (ltN hf2 _ _ _) rfl ?_
        refine wl_mv (.tmp 42) (.bool true) (fun _ => rfl) rfl rfl ?_
        refine wl_skip rfl ?_
        refine wl_skip rfl ?_
        refine wl_skip rfl ?_
        refine wl_skip rfl ?_
        refine wl_skip rfl ?_
        refine wl_pick (.tmp 43) (.const (.bool true)) (.tmp 48) true (.bool true) (fun _ => rfl) rfl rfl rfl ?_
        refine w_nil ?_
        refine xn_then ?_
        refine w_condT rfl ?_
        refine w_seq ?_
        refine w_reg ?_
        refine wl_mv (.const (.int .i64 (5))) (.int .i64 (5)) (fun _ => rfl) rfl rfl ?_
        refine w_nil ?_
        refine xn_then ?_
        refine w_ret ?_
        refine xr_then ?_
        exact w_ret1 _ (.int .i64 (5)) rfl rfl ⟨by unfold seE; rw [(show nsE L ⟨T, stI L n 0, stK L n⟩ n x = 5 from by unfold nsE; rw [if_neg (show ¬ n = 0 by omega), hf1]; show (if ((lk (stK L n x.pr.toNat) x.nm).isSome || _) = true then _ else _) = _; rw [hdec, hf2]; rfl)]; rfl, M⟩
      | false =>
        have hf2p := of_decide_eq_false hf2
        refine wl_bin (fun x y => do eqGuard .lss 3 (.tmp 40) (.tmp 41) x y; binOp .lss 3 x y) (.tmp 40) (.tmp 41) (.int .i64 (((ffi (kdP x.pr.toNat x.nm) L).getD 0 : Nat) : Int)) (.int .i64 ((n : Nat) : Int)) (.bool false) (fun _ => rfl) rfl rfl (ltN hf2 _ _ _) rfl ?_
        refine wl_mv (.tmp 42) (.bool false) (fun _ => rfl) rfl rfl ?_
        refine wl_mv (.tmp 0) (.slice pa L.length c) (fun _ => rfl) rfl rfl ?_
        refine wl_mv (.tmp 1) (.int .i64 ((n : Nat) : Int)) (fun _ => rfl) rfl rfl ?_
        refine wl_un (fun v => Instr.fieldAt 52 v 2) (.tmp 5) (pt k1 0) (pt k1 2) (fun _ => rfl) rfl (by kernel_rfl) rfl ?_
        refine wl_load 9 (.tmp 46) (pt k1 2) (.string x.nm) rfl rfl (run_one Q1 9 2 rfl Try.underlying9 rfl) rfl ?_
        cases hf3 : arn L n x.nm with
        | true =>
          refine wl_call 72 [(.tmp 44), (.tmp 45), (.tmp 47)] _ [.slice pa L.length c, .int .i64 ((n : Nat) : Int), .string x.nm] (.bool true) rfl rfl (fun _ _ => by kernel_rfl) (cB hf3 (around_n (hS.kp M.kp) (fun y hy => (h5 y hy).kp M.kp) hw n hil x.nm)) rfl ?_
          intro u5 hq
          replace Q1 := Q1.mo hq
          replace M := M.trans hq
          clear hq
          refine wl_pick (.tmp 43) (.const (.bool true)) (.tmp 48) false (.bool true) (fun _ => rfl) rfl rfl rfl ?_
          refine w_nil ?_
          refine xn_then ?_
          refine w_condT rfl ?_
          refine w_seq ?_
          refine w_reg ?_
          refine wl_mv (.const (.int .i64 (5))) (.int .i64 (5)) (fun _ => rfl) rfl rfl ?_
          refine w_nil ?_
          refine xn_then ?_
          refine w_ret ?_
          refine xr_then ?_
          exact w_ret1 _ (.int .i64 (5)) rfl rfl ⟨by unfold seE; rw [(show nsE L ⟨T, stI L n 0, stK L n⟩ n x = 5 from by unfold nsE; rw [if_neg (show ¬ n = 0 by omega), hf1]; show (if ((lk (stK L n x.pr.toNat) x.nm).isSome || tkn L (stI L n 0) x.pr.toNat x.nm) = true then _ else _) = _; rw [hdec, hf2, ← hat, hf3]; rfl)]; rfl, M⟩
        | false =>
          refine wl_call 72 [(.tmp 44), (.tmp 45), (.tmp 47)] _ [.slice pa L.length c, .int .i64 ((n : Nat) : Int), .string x.nm] (.bool false) rfl rfl (fun _ _ => by kernel_rfl) (cB hf3 (around_n (hS.kp M.kp) (fun y hy => (h5 y hy).kp M.kp) hw n hil x.nm)) rfl ?_
          intro u5 hq
          replace Q1 := Q1.mo hq
          replace M := M.trans hq
          clear hq
          refine wl_pick (.tmp 43) (.const (.bool true)) (.tmp 48) false (.bool false) (fun _ => rfl) rfl rfl rfl ?_
          refine w_nil ?_
          refine xn_then ?_
          refine w_condF rfl ?_
          refine w_skip ?_
          refine xn_then ?_
          refine w_seq ?_
          refine w_seq ?_
          refine w_reg ?_
          refine wl_un (fun v => Instr.fieldAt 52 v 4) (.tmp 5) (pt k1 0) (pt k1 4) (fun _ => rfl) rfl (by kernel_rfl) rfl ?_
          refine wl_load 22 (.tmp 50) (pt k1 4) (.slice x.pi x.items.length x.ci) rfl rfl (run_one Q1 22 4 rfl Try.underlying22 rfl) rfl ?_
          refine wl_val (.int .i64 ((x.items.length : Nat) : Int)) (len22 _ _ _ _ _ (by exact rfl) _ _ _ _ _ _) rfl ?_
          cases hf4 : decide (64 < x.items.length) with
          | true =>
            have hf4p := of_decide_eq_true hf4
            refine wl_bin (fun x y => do eqGuard .gtr 3 (.tmp 52) (.const (.int .i64 (64))) x y; binOp .gtr 3 x y) (.tmp 52) (.const (.int .i64 (64))) (.int .i64 ((x.items.length : Nat) : Int)) (.int .i64 (64)) (.bool true) (fun _ => rfl) rfl rfl (gtN hf4 _ _ _) rfl ?_
            refine wl_mv (.tmp 53) (.bool true) (fun _ => rfl) rfl rfl ?_
            refine wl_skip rfl ?_
            refine wl_skip rfl ?_
            refine wl_skip rfl ?_
            refine wl_skip rfl ?_
            refine wl_skip rfl ?_
            refine wl_skip rfl ?_
            refine wl_skip rfl ?_
            refine wl_pick (.tmp 54) (.const (.bool true)) (.tmp 61) true (.bool true) (fun _ => rfl) rfl rfl rfl ?_
            refine wl_mv (.tmp 62) (.bool true) (fun _ => rfl) rfl rfl ?_
            refine wl_skip rfl ?_
            refine wl_skip rfl ?_
            refine wl_skip rfl ?_
            refine wl_skip rfl ?_
            refine wl_skip rfl ?_
            refine wl_skip rfl ?_
            refine wl_skip rfl ?_
            refine wl_skip rfl ?_
            refine wl_skip rfl ?_
            refine wl_skip rfl ?_
            refine wl_skip rfl ?_
            refine wl_skip rfl ?_
            refine wl_pick (.tmp 63) (.const (.bool true)) (.tmp 75) true (.bool true) (fun _ => rfl) rfl rfl rfl ?_
            refine w_nil ?_
            refine xn_then ?_
            refine w_condT rfl ?_
            refine w_seq ?_
            refine w_reg ?_
            refine wl_mv (.const (.int .i64 (92))) (.int .i64 (92)) (fun _ => rfl) rfl rfl ?_
            refine w_nil ?_
            refine xn_then ?_
            refine w_ret ?_
            refine xr_then ?_
            exact w_ret1 _ (.int .i64 (92)) rfl rfl ⟨by unfold seE; rw [(show nsE L ⟨T, stI L n 0, stK L n⟩ n x = 0 from by unfold nsE; rw [if_neg (show ¬ n = 0 by omega), hf1]; show (if ((lk (stK L n x.pr.toNat) x.nm).isSome || tkn L (stI L n 0) x.pr.toNat x.nm) = true then _ else _) = _; rw [hdec, hf2, ← hat, hf3]; rfl), hf4]; rfl, M⟩
          | false =>
            have hf4p := of_decide_eq_false hf4
            refine wl_bin (fun x y => do eqGuard .gtr 3 (.tmp 52) (.const (.int .i64 (64))) x y; binOp .gtr 3 x y) (.tmp 52) (.const (.int .i64 (64))) (.int .i64 ((x.items.length : Nat) : Int)) (.int .i64 (64)) (.bool false) (fun _ => rfl) rfl rfl (gtN hf4 _ _ _) rfl ?_
            refine wl_mv (.tmp 53) (.bool false) (fun _ => rfl) rfl rfl ?_
            refine wl_mv (.tmp 1) (.int .i64 ((n : Nat) : Int)) (fun _ => rfl) rfl rfl ?_
            refine wl_bin (fun x y => do eqGuard .eql 3 (.tmp 55) (.const (.int .i64 (0))) x y; binOp .eql 3 x y) (.tmp 55) (.const (.int .i64 (0))) (.int .i64 ((n : Nat) : Int)) (.int .i64 (0)) (.bool false) (fun _ => rfl) rfl rfl (eq3 (decide_eq_false (show ¬ ((n : Nat) : Int) = 0 by omega)) _ _ _) rfl ?_
            refine wl_mv (.tmp 56) (.bool false) (fun _ => rfl) rfl rfl ?_
            refine wl_skip rfl ?_
            refine wl_skip rfl ?_
            refine wl_skip rfl ?_
            refine wl_pick (.tmp 57) (.tmp 60) (.const (.bool false)) false (.bool false) (fun _ => rfl) rfl rfl rfl ?_
            refine wl_pick (.tmp 54) (.const (.bool true)) (.tmp 61) false (.bool false) (fun _ => rfl) rfl rfl rfl ?_
            refine wl_mv (.tmp 62) (.bool false) (fun _ => rfl) rfl rfl ?_
            refine wl_mv (.tmp 1) (.int .i64 ((n : Nat) : Int)) (fun _ => rfl) rfl rfl ?_
            refine wl_bin (fun x y => do eqGuard .gtr 3 (.tmp 64) (.const (.int .i64 (0))) x y; binOp .gtr 3 x y) (.tmp 64) (.const (.int .i64 (0))) (.int .i64 ((n : Nat) : Int)) (.int .i64 (0)) (.bool true) (fun _ => rfl) rfl rfl (gtN hf0 _ _ _) rfl ?_
            refine wl_mv (.tmp 65) (.bool true) (fun _ => rfl) rfl rfl ?_
            refine wl_un (fun v => Instr.fieldAt 52 v 3) (.tmp 5) (pt k1 0) (pt k1 3) (fun _ => rfl) rfl (by kernel_rfl) rfl ?_
            refine wl_load 3 (.tmp 67) (pt k1 3) (.int .i64 (x.mx)) rfl rfl (run_one Q1 3 3 rfl Try.underlying3 rfl) rfl ?_
            cases hf5 : decide (x.mx < 1) with
            | true =>
              have hf5p := of_decide_eq_true hf5
              refine wl_bin (fun x y => do eqGuard .lss 3 (.tmp 68) (.const (.int .i64 (1))) x y; binOp .lss 3 x y) (.tmp 68) (.const (.int .i64 (1))) (.int .i64 (x.mx)) (.int .i64 (1)) (.bool true) (fun _ => rfl) rfl rfl (lt3 hf5 _ _ _) rfl ?_
              refine wl_mv (.tmp 69) (.bool true) (fun _ => rfl) rfl rfl ?_
              refine wl_skip rfl ?_
              refine wl_skip rfl ?_
              refine wl_skip rfl ?_
              refine wl_pick (.tmp 70) (.const (.bool true)) (.tmp 73) true (.bool true) (fun _ => rfl) rfl rfl rfl ?_
              refine wl_pick (.tmp 66) (.tmp 74) (.const (.bool false)) true (.bool true) (fun _ => rfl) rfl rfl rfl ?_
              refine wl_pick (.tmp 63) (.const (.bool true)) (.tmp 75) false (.bool true) (fun _ => rfl) rfl rfl rfl ?_
              refine w_nil ?_
              refine xn_then ?_
              refine w_condT rfl ?_
              refine w_seq ?_
              refine w_reg ?_
              refine wl_mv (.const (.int .i64 (92))) (.int .i64 (92)) (fun _ => rfl) rfl rfl ?_
              refine w_nil ?_
              refine xn_then ?_
              refine w_ret ?_
              refine xr_then ?_
              exact w_ret1 _ (.int .i64 (92)) rfl rfl ⟨by unfold seE; rw [(show nsE L ⟨T, stI L n 0, stK L n⟩ n x = 0 from by unfold nsE; rw [if_neg (show ¬ n = 0 by omega), hf1]; show (if ((lk (stK L n x.pr.toNat) x.nm).isSome || tkn L (stI L n 0) x.pr.toNat x.nm) = true then _ else _) = _; rw [hdec, hf2, ← hat, hf3]; rfl), hf4, (show rmE n x = false from by unfold rmE; rw [if_neg (show ¬ n = 0 by omega)]; rw [decide_eq_false (show ¬ 1 ≤ x.mx by omega)]; rfl)]; rfl, M⟩
            | false =>
              have hf5p := of_decide_eq_false hf5
              refine wl_bin (fun x y => do eqGuard .lss 3 (.tmp 68) (.const (.int .i64 (1))) x y; binOp .lss 3 x y) (.tmp 68) (.const (.int .i64 (1))) (.int .i64 (x.mx)) (.int .i64 (1)) (.bool false) (fun _ => rfl) rfl rfl (lt3 hf5 _ _ _) rfl ?_
              refine wl_mv (.tmp 69) (.bool false) (fun _ => rfl) rfl rfl ?_
              refine wl_un (fun v => Instr.fieldAt 52 v 3) (.tmp 5) (pt k1 0) (pt k1 3) (fun _ => rfl) rfl (by kernel_rfl) rfl ?_
              refine wl_load 3 (.tmp 71) (pt k1 3) (.int .i64 (x.mx)) rfl rfl (run_one Q1 3 3 rfl Try.underlying3 rfl) rfl ?_
              cases hf6 : decide (1024 < x.mx) with
              | true =>
                have hf6p := of_decide_eq_true hf6
                refine wl_bin (fun x y => do eqGuard .gtr 3 (.tmp 72) (.const (.int .i64 (1024))) x y; binOp .gtr 3 x y) (.tmp 72) (.const (.int .i64 (1024))) (.int .i64 (x.mx)) (.int .i64 (1024)) (.bool true) (fun _ => rfl) rfl rfl (gt3 hf6 _ _ _) rfl ?_
                refine wl_pick (.tmp 70) (.const (.bool true)) (.tmp 73) false (.bool true) (fun _ => rfl) rfl rfl rfl ?_
                refine wl_pick (.tmp 66) (.tmp 74) (.const (.bool false)) true (.bool true) (fun _ => rfl) rfl rfl rfl ?_
                refine wl_pick (.tmp 63) (.const (.bool true)) (.tmp 75) false (.bool true) (fun _ => rfl) rfl rfl rfl ?_
                refine w_nil ?_
                refine xn_then ?_
                refine w_condT rfl ?_
                refine w_seq ?_
                refine w_reg ?_
                refine wl_mv (.const (.int .i64 (92))) (.int .i64 (92)) (fun _ => rfl) rfl rfl ?_
                refine w_nil ?_
                refine xn_then ?_
                refine w_ret ?_
                refine xr_then ?_
                exact w_ret1 _ (.int .i64 (92)) rfl rfl ⟨by unfold seE; rw [(show nsE L ⟨T, stI L n 0, stK L n⟩ n x = 0 from by unfold nsE; rw [if_neg (show ¬ n = 0 by omega), hf1]; show (if ((lk (stK L n x.pr.toNat) x.nm).isSome || tkn L (stI L n 0) x.pr.toNat x.nm) = true then _ else _) = _; rw [hdec, hf2, ← hat, hf3]; rfl), hf4, (show rmE n x = false from by unfold rmE; rw [if_neg (show ¬ n = 0 by omega)]; rw [decide_eq_false (show ¬ x.mx ≤ 1024 by omega), Bool.and_false])]; rfl, M⟩
              | false =>
                have hf6p := of_decide_eq_false hf6
                refine wl_bin (fun x y => do eqGuard .gtr 3 (.tmp 72) (.const (.int .i64 (1024))) x y; binOp .gtr 3 x y) (.tmp 72) (.const (.int .i64 (1024))) (.int .i64 (x.mx)) (.int .i64 (1024)) (.bool false) (fun _ => rfl) rfl rfl (gt3 hf6 _ _ _) rfl ?_
                refine wl_pick (.tmp 70) (.const (.bool true)) (.tmp 73) false (.bool false) (fun _ => rfl) rfl rfl rfl ?_
                refine wl_pick (.tmp 66) (.tmp 74) (.const (.bool false)) true (.bool false) (fun _ => rfl) rfl rfl rfl ?_
                refine wl_pick (.tmp 63) (.const (.bool true)) (.tmp 75) false (.bool false) (fun _ => rfl) rfl rfl rfl ?_
                refine w_nil ?_
                refine xn_then ?_
                refine w_condF rfl ?_
                refine w_skip ?_
                refine xn_then ?_
                refine w_seq ?_
                refine w_reg ?_
                refine wl_mv (.const (.int .i64 (0))) (.int .i64 (0)) (fun _ => rfl) rfl rfl ?_
                refine w_nil ?_
                refine xn_then ?_
                refine w_ret ?_
                exact w_ret1 _ (.int .i64 (0)) rfl rfl ⟨by unfold seE; rw [(show nsE L ⟨T, stI L n 0, stK L n⟩ n x = 0 from by unfold nsE; rw [if_neg (show ¬ n = 0 by omega), hf1]; show (if ((lk (stK L n x.pr.toNat) x.nm).isSome || tkn L (stI L n 0) x.pr.toNat x.nm) = true then _ else _) = _; rw [hdec, hf2, ← hat, hf3]; rfl), hf4, (show rmE n x = true from by unfold rmE; rw [if_neg (show ¬ n = 0 by omega)]; rw [decide_eq_true (show 1 ≤ x.mx by omega), decide_eq_true (show x.mx ≤ 1024 by omega)]; rfl)]; rfl, M⟩
    | false =>
      refine wl_call 36 [(.tmp 16)] _ [.string x.nm] (.bool false) rfl rfl (fun _ _ => by kernel_rfl) (cB hf1 (rmay_n x.nm _)) rfl ?_
      intro u3 hq
      replace Q1 := Q1.mo hq
      replace M := M.trans hq
      clear hq
      refine wl_un (fun v => Op.unary .not v) (.tmp 17) (.bool false) (.bool true) (fun _ => rfl) rfl (by kernel_rfl) rfl ?_
      refine wl_pick (.tmp 14) (.tmp 18) (.const (.bool false)) true (.bool true) (fun _ => rfl) rfl rfl rfl ?_
      refine wl_mv (.tmp 19) (.bool true) (fun _ => rfl) rfl rfl ?_
      refine wl_skip rfl ?_
      refine wl_skip rfl ?_
      refine wl_skip rfl ?_
      refine wl_skip rfl ?_
      refine wl_skip rfl ?_
      refine wl_skip rfl ?_
      refine wl_skip rfl ?_
      refine wl_pick (.tmp 20) (.const (.bool true)) (.tmp 27) true (.bool true) (fun _ => rfl) rfl rfl rfl ?_
      refine w_nil ?_
      refine xn_then ?_
      refine w_condT rfl ?_
      refine w_seq ?_
      refine w_reg ?_
      refine wl_mv (.const (.int .i64 (90))) (.int .i64 (90)) (fun _ => rfl) rfl rfl ?_
      refine w_nil ?_
      refine xn_then ?_
      refine w_ret ?_
      refine xr_then ?_
      exact w_ret1 _ (.int .i64 (90)) rfl rfl ⟨by unfold seE; rw [(show nsE L ⟨T, stI L n 0, stK L n⟩ n x = 90 from by unfold nsE; rw [if_neg (show ¬ n = 0 by omega), hf1]; rfl)]; rfl, M⟩
  | false =>
    have hf0p := of_decide_eq_false hf0
    refine wl_bin (fun x y => do eqGuard .gtr 3 (.tmp 12) (.const (.int .i64 (0))) x y; binOp .gtr 3 x y) (.tmp 12) (.const (.int .i64 (0))) (.int .i64 ((n : Nat) : Int)) (.int .i64 (0)) (.bool false) (fun _ => rfl) rfl rfl (gtN hf0 _ _ _) rfl ?_
    refine wl_mv (.tmp 13) (.bool false) (fun _ => rfl) rfl rfl ?_
    refine wl_skip rfl ?_
    refine wl_skip rfl ?_
    refine wl_skip rfl ?_
    refine wl_skip rfl ?_
    refine wl_pick (.tmp 14) (.tmp 18) (.const (.bool false)) false (.bool false) (fun _ => rfl) rfl rfl rfl ?_
    refine wl_mv (.tmp 19) (.bool false) (fun _ => rfl) rfl rfl ?_
    refine wl_mv (.tmp 1) (.int .i64 ((n : Nat) : Int)) (fun _ => rfl) rfl rfl ?_
    refine wl_bin (fun x y => do eqGuard .eql 3 (.tmp 21) (.const (.int .i64 (0))) x y; binOp .eql 3 x y) (.tmp 21) (.const (.int .i64 (0))) (.int .i64 ((n : Nat) : Int)) (.int .i64 (0)) (.bool true) (fun _ => rfl) rfl rfl (eq3 (decide_eq_true (show ((n : Nat) : Int) = 0 by omega)) _ _ _) rfl ?_
    refine wl_mv (.tmp 22) (.bool true) (fun _ => rfl) rfl rfl ?_
    refine wl_un (fun v => Instr.fieldAt 52 v 2) (.tmp 5) (pt k1 0) (pt k1 2) (fun _ => rfl) rfl (by kernel_rfl) rfl ?_
    refine wl_load 9 (.tmp 24) (pt k1 2) (.string x.nm) rfl rfl (run_one Q1 9 2 rfl Try.underlying9 rfl) rfl ?_
    cases hf1 : decide (x.nm = ⟨#[]⟩) with
    | true =>
      have hf1p := of_decide_eq_true hf1
      refine wl_bin (fun x y => do eqGuard .neq 9 (.tmp 25) (.const (.string ⟨#[]⟩)) x y; binOp .neq 9 x y) (.tmp 25) (.const (.string ⟨#[]⟩)) (.string x.nm) (.string ⟨#[]⟩) (.bool false) (fun _ => rfl) rfl rfl (sn9 hf1 _ _ _) rfl ?_
      refine wl_pick (.tmp 23) (.tmp 26) (.const (.bool false)) true (.bool false) (fun _ => rfl) rfl rfl rfl ?_
      refine wl_pick (.tmp 20) (.const (.bool true)) (.tmp 27) false (.bool false) (fun _ => rfl) rfl rfl rfl ?_
      refine w_nil ?_
      refine xn_then ?_
      refine w_condF rfl ?_
      refine w_skip ?_
      refine xn_then ?_
      refine w_seq ?_
      refine w_seq ?_
      refine w_reg ?_
      refine wl_mv (.tmp 1) (.int .i64 ((n : Nat) : Int)) (fun _ => rfl) rfl rfl ?_
      refine wl_bin (fun x y => do eqGuard .gtr 3 (.tmp 29) (.const (.int .i64 (0))) x y; binOp .gtr 3 x y) (.tmp 29) (.const (.int .i64 (0))) (.int .i64 ((n : Nat) : Int)) (.int .i64 (0)) (.bool false) (fun _ => rfl) rfl rfl (gtN hf0 _ _ _) rfl ?_
      refine w_nil ?_
      refine xn_then ?_
      refine w_condF rfl ?_
      refine w_skip ?_
      refine xn_then ?_
      refine w_seq ?_
      refine w_seq ?_
      refine w_reg ?_
      refine wl_un (fun v => Instr.fieldAt 52 v 4) (.tmp 5) (pt k1 0) (pt k1 4) (fun _ => rfl) rfl (by kernel_rfl) rfl ?_
      refine wl_load 22 (.tmp 50) (pt k1 4) (.slice x.pi x.items.length x.ci) rfl rfl (run_one Q1 22 4 rfl Try.underlying22 rfl) rfl ?_
      refine wl_val (.int .i64 ((x.items.length : Nat) : Int)) (len22 _ _ _ _ _ (by exact rfl) _ _ _ _ _ _) rfl ?_
      cases hf2 : decide (64 < x.items.length) with
      | true =>
        have hf2p := of_decide_eq_true hf2
        refine wl_bin (fun x y => do eqGuard .gtr 3 (.tmp 52) (.const (.int .i64 (64))) x y; binOp .gtr 3 x y) (.tmp 52) (.const (.int .i64 (64))) (.int .i64 ((x.items.length : Nat) : Int)) (.int .i64 (64)) (.bool true) (fun _ => rfl) rfl rfl (gtN hf2 _ _ _) rfl ?_
        refine wl_mv (.tmp 53) (.bool true) (fun _ => rfl) rfl rfl ?_
        refine wl_skip rfl ?_
        refine wl_skip rfl ?_
        refine wl_skip rfl ?_
        refine wl_skip rfl ?_
        refine wl_skip rfl ?_
        refine wl_skip rfl ?_
        refine wl_skip rfl ?_
        refine wl_pick (.tmp 54) (.const (.bool true)) (.tmp 61) true (.bool true) (fun _ => rfl) rfl rfl rfl ?_
        refine wl_mv (.tmp 62) (.bool true) (fun _ => rfl) rfl rfl ?_
        refine wl_skip rfl ?_
        refine wl_skip rfl ?_
        refine wl_skip rfl ?_
        refine wl_skip rfl ?_
        refine wl_skip rfl ?_
        refine wl_skip rfl ?_
        refine wl_skip rfl ?_
        refine wl_skip rfl ?_
        refine wl_skip rfl ?_
        refine wl_skip rfl ?_
        refine wl_skip rfl ?_
        refine wl_skip rfl ?_
        refine wl_pick (.tmp 63) (.const (.bool true)) (.tmp 75) true (.bool true) (fun _ => rfl) rfl rfl rfl ?_
        refine w_nil ?_
        refine xn_then ?_
        refine w_condT rfl ?_
        refine w_seq ?_
        refine w_reg ?_
        refine wl_mv (.const (.int .i64 (92))) (.int .i64 (92)) (fun _ => rfl) rfl rfl ?_
        refine w_nil ?_
        refine xn_then ?_
        refine w_ret ?_
        refine xr_then ?_
        exact w_ret1 _ (.int .i64 (92)) rfl rfl ⟨by unfold seE; rw [(show nsE L ⟨T, stI L n 0, stK L n⟩ n x = 0 from by unfold nsE; rw [if_pos (show n = 0 by omega), if_pos hf1p]), hf2]; rfl, M⟩
      | false =>
        have hf2p := of_decide_eq_false hf2
        refine wl_bin (fun x y => do eqGuard .gtr 3 (.tmp 52) (.const (.int .i64 (64))) x y; binOp .gtr 3 x y) (.tmp 52) (.const (.int .i64 (64))) (.int .i64 ((x.items.length : Nat) : Int)) (.int .i64 (64)) (.bool false) (fun _ => rfl) rfl rfl (gtN hf2 _ _ _) rfl ?_
        refine wl_mv (.tmp 53) (.bool false) (fun _ => rfl) rfl rfl ?_
        refine wl_mv (.tmp 1) (.int .i64 ((n : Nat) : Int)) (fun _ => rfl) rfl rfl ?_
        refine wl_bin (fun x y => do eqGuard .eql 3 (.tmp 55) (.const (.int .i64 (0))) x y; binOp .eql 3 x y) (.tmp 55) (.const (.int .i64 (0))) (.int .i64 ((n : Nat) : Int)) (.int .i64 (0)) (.bool true) (fun _ => rfl) rfl rfl (eq3 (decide_eq_true (show ((n : Nat) : Int) = 0 by omega)) _ _ _) rfl ?_
        refine wl_mv (.tmp 56) (.bool true) (fun _ => rfl) rfl rfl ?_
        refine wl_un (fun v => Instr.fieldAt 52 v 3) (.tmp 5) (pt k1 0) (pt k1 3) (fun _ => rfl) rfl (by kernel_rfl) rfl ?_
        refine wl_load 3 (.tmp 58) (pt k1 3) (.int .i64 (x.mx)) rfl rfl (run_one Q1 3 3 rfl Try.underlying3 rfl) rfl ?_
        cases hf3 : decide (x.mx = 0) with
        | true =>
          have hf3p := of_decide_eq_true hf3
          refine wl_bin (fun x y => do eqGuard .neq 3 (.tmp 59) (.const (.int .i64 (0))) x y; binOp .neq 3 x y) (.tmp 59) (.const (.int .i64 (0))) (.int .i64 (x.mx)) (.int .i64 (0)) (.bool false) (fun _ => rfl) rfl rfl (ne3 hf3 _ _ _) rfl ?_
          refine wl_pick (.tmp 57) (.tmp 60) (.const (.bool false)) true (.bool false) (fun _ => rfl) rfl rfl rfl ?_
          refine wl_pick (.tmp 54) (.const (.bool true)) (.tmp 61) false (.bool false) (fun _ => rfl) rfl rfl rfl ?_
          refine wl_mv (.tmp 62) (.bool false) (fun _ => rfl) rfl rfl ?_
          refine wl_mv (.tmp 1) (.int .i64 ((n : Nat) : Int)) (fun _ => rfl) rfl rfl ?_
          refine wl_bin (fun x y => do eqGuard .gtr 3 (.tmp 64) (.const (.int .i64 (0))) x y; binOp .gtr 3 x y) (.tmp 64) (.const (.int .i64 (0))) (.int .i64 ((n : Nat) : Int)) (.int .i64 (0)) (.bool false) (fun _ => rfl) rfl rfl (gtN hf0 _ _ _) rfl ?_
          refine wl_mv (.tmp 65) (.bool false) (fun _ => rfl) rfl rfl ?_
          refine wl_skip rfl ?_
          refine wl_skip rfl ?_
          refine wl_skip rfl ?_
          refine wl_skip rfl ?_
          refine wl_skip rfl ?_
          refine wl_skip rfl ?_
          refine wl_skip rfl ?_
          refine wl_skip rfl ?_
          refine wl_pick (.tmp 66) (.tmp 74) (.const (.bool false)) false (.bool false) (fun _ => rfl) rfl rfl rfl ?_
          refine wl_pick (.tmp 63) (.const (.bool true)) (.tmp 75) false (.bool false) (fun _ => rfl) rfl rfl rfl ?_
          refine w_nil ?_
          refine xn_then ?_
          refine w_condF rfl ?_
          refine w_skip ?_
          refine xn_then ?_
          refine w_seq ?_
          refine w_reg ?_
          refine wl_mv (.const (.int .i64 (0))) (.int .i64 (0)) (fun _ => rfl) rfl rfl ?_
          refine w_nil ?_
          refine xn_then ?_
          refine w_ret ?_
          exact w_ret1 _ (.int .i64 (0)) rfl rfl ⟨by unfold seE; rw [(show nsE L ⟨T, stI L n 0, stK L n⟩ n x = 0 from by unfold nsE; rw [if_pos (show n = 0 by omega), if_pos hf1p]), hf2, (show rmE n x = true from by unfold rmE; rw [if_pos (show n = 0 by omega), hf3])]; rfl, M⟩
        | false =>
          have hf3p := of_decide_eq_false hf3
          refine wl_bin (fun x y => do eqGuard .neq 3 (.tmp 59) (.const (.int .i64 (0))) x y; binOp .neq 3 x y) (.tmp 59) (.const (.int .i64 (0))) (.int .i64 (x.mx)) (.int .i64 (0)) (.bool true) (fun _ => rfl) rfl rfl (ne3 hf3 _ _ _) rfl ?_
          refine wl_pick (.tmp 57) (.tmp 60) (.const (.bool false)) true (.bool true) (fun _ => rfl) rfl rfl rfl ?_
          refine wl_pick (.tmp 54) (.const (.bool true)) (.tmp 61) false (.bool true) (fun _ => rfl) rfl rfl rfl ?_
          refine wl_mv (.tmp 62) (.bool true) (fun _ => rfl) rfl rfl ?_
          refine wl_skip rfl ?_
          refine wl_skip rfl ?_
          refine wl_skip rfl ?_
          refine wl_skip rfl ?_
          refine wl_skip rfl ?_
          refine wl_skip rfl ?_
          refine wl_skip rfl ?_
          refine wl_skip rfl ?_
          refine wl_skip rfl ?_
          refine wl_skip rfl ?_
          refine wl_skip rfl ?_
          refine wl_skip rfl ?_
          refine wl_pick (.tmp 63) (.const (.bool true)) (.tmp 75) true (.bool true) (fun _ => rfl) rfl rfl rfl ?_
          refine w_nil ?_
          refine xn_then ?_
          refine w_condT rfl ?_
          refine w_seq ?_
          refine w_reg ?_
          refine wl_mv (.const (.int .i64 (92))) (.int .i64 (92)) (fun _ => rfl) rfl rfl ?_
          refine w_nil ?_
          refine xn_then ?_
          refine w_ret ?_
          refine xr_then ?_
          exact w_ret1 _ (.int .i64 (92)) rfl rfl ⟨by unfold seE; rw [(show nsE L ⟨T, stI L n 0, stK L n⟩ n x = 0 from by unfold nsE; rw [if_pos (show n = 0 by omega), if_pos hf1p]), hf2, (show rmE n x = false from by unfold rmE; rw [if_pos (show n = 0 by omega), hf3])]; rfl, M⟩
    | false =>
      have hf1p := of_decide_eq_false hf1
      refine wl_bin (fun x y => do eqGuard .neq 9 (.tmp 25) (.const (.string ⟨#[]⟩)) x y; binOp .neq 9 x y) (.tmp 25) (.const (.string ⟨#[]⟩)) (.string x.nm) (.string ⟨#[]⟩) (.bool true) (fun _ => rfl) rfl rfl (sn9 hf1 _ _ _) rfl ?_
      refine wl_pick (.tmp 23) (.tmp 26) (.const (.bool false)) true (.bool true) (fun _ => rfl) rfl rfl rfl ?_
      refine wl_pick (.tmp 20) (.const (.bool true)) (.tmp 27) false (.bool true) (fun _ => rfl) rfl rfl rfl ?_
      refine w_nil ?_
      refine xn_then ?_
      refine w_condT rfl ?_
      refine w_seq ?_
      refine w_reg ?_
      refine wl_mv (.const (.int .i64 (90))) (.int .i64 (90)) (fun _ => rfl) rfl rfl ?_
      refine w_nil ?_
      refine xn_then ?_
      refine w_ret ?_
      refine xr_then ?_
      exact w_ret1 _ (.int .i64 (90)) rfl rfl ⟨by unfold seE; rw [(show nsE L ⟨T, stI L n 0, stK L n⟩ n x = 90 from by unfold nsE; rw [if_pos (show n = 0 by omega), if_neg hf1p])]; rfl, M⟩
theorem ritem_n {w : World} {pa : Option Addr} {c : Nat} {L : List S5} (hS : SL w 5 S5.cells pa L) (h5 : ∀ x ∈ L, LS5 w x) (hw : Wf L) (n i : Nat) (x : S5) (y : It) (hx : L[n]? = some x) (hy : x.items[i]? = some y) : Calls Try.prog 59 #[.slice pa L.length c, .int .i64 ((n : Nat) : Int), .int .i64 ((i : Nat) : Int)] w fun e w' => e = .returned (.int .i64 (itE L (stI L n i) n y)) ∧ Mo w w' := by
  have hil := lt_of_get hx
  have hyl := lt_of_get hy
  have hIt := (h5 x (List.mem_of_getElem? hx)).it
  have hti := arn_item (i := i) (nm := y.nm) hw hx
  obtain ⟨bp, op, hpp, hRp⟩ := D.SL.rw hS hx
  obtain ⟨bq, oq, hpq, hRq⟩ := D.SL.rw hIt hy
  refine w_enter 43 Try.func59 Try.ntmps59 rfl rfl ?_
  have M : Mo w w := Mo.refl _
  refine w_seq ?_
  refine w_reg ?_
  refine wl_mv (.const (.int .i64 (0))) (.int .i64 (0)) (fun _ => rfl) rfl rfl ?_
  refine w_nil ?_
  refine xn_then ?_
  refine w_seq ?_
  refine w_reg ?_
  refine wl_mv (.tmp 0) (.slice pa L.length c) (fun _ => rfl) rfl rfl ?_
  refine wl_mv (.tmp 1) (.int .i64 ((n : Nat) : Int)) (fun _ => rfl) rfl rfl ?_
  refine wl_bin (fun x y => Instr.indexAt 37 x y) (.tmp 8) (.tmp 9) (.slice pa L.length c) (.int .i64 ((n : Nat) : Int)) (pt bp (op + n * 5)) (fun _ => rfl) rfl rfl (ix37 (i := n) hpp hil _) rfl ?_
  refine wl_un (fun v => Instr.fieldAt 52 v 4) (.tmp 10) (pt bp (op + n * 5)) (pt bp (op + n * 5 + 4)) (fun _ => rfl) rfl (by kernel_rfl) rfl ?_
  refine wl_load 22 (.tmp 11) (pt bp (op + n * 5 + 4)) (.slice x.pi x.items.length x.ci) rfl rfl (D.run_oneR (hRp.mo M).at' 22 4 rfl Try.underlying22 rfl) rfl ?_
  refine wl_mv (.tmp 2) (.int .i64 ((i : Nat) : Int)) (fun _ => rfl) rfl rfl ?_
  refine wl_bin (fun x y => Instr.indexAt 22 x y) (.tmp 12) (.tmp 13) (.slice x.pi x.items.length x.ci) (.int .i64 ((i : Nat) : Int)) (pt bq (oq + i * 23)) (fun _ => rfl) rfl rfl (ix22 (i := i) hpq hyl _) rfl ?_
  refine wl_un (fun v => Instr.fieldAt 66 v 0) (.tmp 14) (pt bq (oq + i * 23)) (pt bq (oq + i * 23)) (fun _ => rfl) rfl (by kernel_rfl) rfl ?_
  refine wl_load 9 (.tmp 15) (pt bq (oq + i * 23)) (.string y.nm) rfl rfl (D.run_oneR (hRq.mo M).at' 9 0 rfl Try.underlying9 rfl) rfl ?_
  refine wl_mv (.tmp 16) (.string y.nm) (fun _ => rfl) rfl rfl ?_
  refine w_nil ?_
  refine xn_then ?_
  refine w_seq ?_
  refine w_seq ?_
  refine w_reg ?_
  refine wl_mv (.tmp 7) (.string y.nm) (fun _ => rfl) rfl rfl ?_
  cases hf0 : may y.nm with
  | true =>
    refine wl_call 36 [(.tmp 17)] _ [.string y.nm] (.bool true) rfl rfl (fun _ _ => by kernel_rfl) (cB hf0 (rmay_n y.nm _)) rfl ?_
    intro u1 hq
    replace M := M.trans hq
    clear hq
    refine wl_un (fun v => Op.unary .not v) (.tmp 18) (.bool true) (.bool false) (fun _ => rfl) rfl (by kernel_rfl) rfl ?_
    refine w_nil ?_
    refine xn_then ?_
    refine w_condF rfl ?_
    refine w_skip ?_
    refine xn_then ?_
    refine w_seq ?_
    refine w_seq ?_
    refine w_reg ?_
    refine wl_mv (.tmp 0) (.slice pa L.length c) (fun _ => rfl) rfl rfl ?_
    refine wl_mv (.tmp 1) (.int .i64 ((n : Nat) : Int)) (fun _ => rfl) rfl rfl ?_
    refine wl_bin (fun x y => Instr.indexAt 37 x y) (.tmp 20) (.tmp 21) (.slice pa L.length c) (.int .i64 ((n : Nat) : Int)) (pt bp (op + n * 5)) (fun _ => rfl) rfl rfl (ix37 (i := n) hpp hil _) rfl ?_
    refine wl_un (fun v => Instr.fieldAt 52 v 4) (.tmp 22) (pt bp (op + n * 5)) (pt bp (op + n * 5 + 4)) (fun _ => rfl) rfl (by kernel_rfl) rfl ?_
    refine wl_load 22 (.tmp 23) (pt bp (op + n * 5 + 4)) (.slice x.pi x.items.length x.ci) rfl rfl (D.run_oneR (hRp.mo M).at' 22 4 rfl Try.underlying22 rfl) rfl ?_
    refine wl_mv (.tmp 2) (.int .i64 ((i : Nat) : Int)) (fun _ => rfl) rfl rfl ?_
    refine wl_mv (.tmp 7) (.string y.nm) (fun _ => rfl) rfl rfl ?_
    cases hf1 : (x.items.take i).any (fun u => decide (u.nm = y.nm)) with
    | true =>
      refine wl_call 73 [(.tmp 24), (.tmp 25), (.tmp 26)] _ [.slice x.pi x.items.length x.ci, .int .i64 ((i : Nat) : Int), .string y.nm] (.bool true) rfl rfl (fun _ _ => by kernel_rfl) (cB hf1 (rhas_n (hIt.kp M.kp) i (Nat.le_of_lt hyl) y.nm)) rfl ?_
      intro u2 hq
      replace M := M.trans hq
      clear hq
      refine wl_mv (.tmp 27) (.bool true) (fun _ => rfl) rfl rfl ?_
      refine wl_skip rfl ?_
      refine wl_skip rfl ?_
      refine wl_skip rfl ?_
      refine wl_skip rfl ?_
      refine wl_skip rfl ?_
      refine wl_skip rfl ?_
      refine wl_skip rfl ?_
      refine wl_pick (.tmp 28) (.const (.bool true)) (.tmp 35) true (.bool true) (fun _ => rfl) rfl rfl rfl ?_
      refine wl_mv (.tmp 36) (.bool true) (fun _ => rfl) rfl rfl ?_
      refine wl_skip rfl ?_
      refine wl_skip rfl ?_
      refine wl_skip rfl ?_
      refine wl_skip rfl ?_
      refine wl_pick (.tmp 37) (.const (.bool true)) (.tmp 41) true (.bool true) (fun _ => rfl) rfl rfl rfl ?_
      refine w_nil ?_
      refine xn_then ?_
      refine w_condT rfl ?_
      refine w_seq ?_
      refine w_reg ?_
      refine wl_mv (.const (.int .i64 (5))) (.int .i64 (5)) (fun _ => rfl) rfl rfl ?_
      refine w_nil ?_
      refine xn_then ?_
      refine w_ret ?_
      refine xr_then ?_
      exact w_ret1 _ (.int .i64 (5)) rfl rfl ⟨by unfold itE; rw [hf0, hti, hf1]; first | done | rfl, M⟩
    | false =>
      refine wl_call 73 [(.tmp 24), (.tmp 25), (.tmp 26)] _ [.slice x.pi x.items.length x.ci, .int .i64 ((i : Nat) : Int), .string y.nm] (.bool false) rfl rfl (fun _ _ => by kernel_rfl) (cB hf1 (rhas_n (hIt.kp M.kp) i (Nat.le_of_lt hyl) y.nm)) rfl ?_
      intro u2 hq
      replace M := M.trans hq
      clear hq
      refine wl_mv (.tmp 27) (.bool false) (fun _ => rfl) rfl rfl ?_
      refine wl_mv (.tmp 0) (.slice pa L.length c) (fun _ => rfl) rfl rfl ?_
      refine wl_mv (.tmp 1) (.int .i64 ((n : Nat) : Int)) (fun _ => rfl) rfl rfl ?_
      refine wl_bin (fun x y => Instr.indexAt 37 x y) (.tmp 29) (.tmp 30) (.slice pa L.length c) (.int .i64 ((n : Nat) : Int)) (pt bp (op + n * 5)) (fun _ => rfl) rfl rfl (ix37 (i := n) hpp hil _) rfl ?_
      refine wl_un (fun v => Instr.fieldAt 52 v 2) (.tmp 31) (pt bp (op + n * 5)) (pt bp (op + n * 5 + 2)) (fun _ => rfl) rfl (by kernel_rfl) rfl ?_
      refine wl_load 9 (.tmp 32) (pt bp (op + n * 5 + 2)) (.string x.nm) rfl rfl (D.run_oneR (hRp.mo M).at' 9 2 rfl Try.underlying9 rfl) rfl ?_
      refine wl_mv (.tmp 7) (.string y.nm) (fun _ => rfl) rfl rfl ?_
      cases hf2 : decide (x.nm = y.nm) with
      | true =>
        have hf2p := of_decide_eq_true hf2
        refine wl_bin (fun x y => do eqGuard .eql 9 (.tmp 33) (.tmp 34) x y; binOp .eql 9 x y) (.tmp 33) (.tmp 34) (.string x.nm) (.string y.nm) (.bool true) (fun _ => rfl) rfl rfl (s9 hf2 _ _ _) rfl ?_
        refine wl_pick (.tmp 28) (.const (.bool true)) (.tmp 35) false (.bool true) (fun _ => rfl) rfl rfl rfl ?_
        refine wl_mv (.tmp 36) (.bool true) (fun _ => rfl) rfl rfl ?_
        refine wl_skip rfl ?_
        refine wl_skip rfl ?_
        refine wl_skip rfl ?_
        refine wl_skip rfl ?_
        refine wl_pick (.tmp 37) (.const (.bool true)) (.tmp 41) true (.bool true) (fun _ => rfl) rfl rfl rfl ?_
        refine w_nil ?_
        refine xn_then ?_
        refine w_condT rfl ?_
        refine w_seq ?_
        refine w_reg ?_
        refine wl_mv (.const (.int .i64 (5))) (.int .i64 (5)) (fun _ => rfl) rfl rfl ?_
        refine w_nil ?_
        refine xn_then ?_
        refine w_ret ?_
        refine xr_then ?_
        exact w_ret1 _ (.int .i64 (5)) rfl rfl ⟨by unfold itE; rw [hf0, hti, hf1, hf2]; first | done | rfl, M⟩
      | false =>
        have hf2p := of_decide_eq_false hf2
        refine wl_bin (fun x y => do eqGuard .eql 9 (.tmp 33) (.tmp 34) x y; binOp .eql 9 x y) (.tmp 33) (.tmp 34) (.string x.nm) (.string y.nm) (.bool false) (fun _ => rfl) rfl rfl (s9 hf2 _ _ _) rfl ?_
        refine wl_pick (.tmp 28) (.const (.bool true)) (.tmp 35) false (.bool false) (fun _ => rfl) rfl rfl rfl ?_
        refine wl_mv (.tmp 36) (.bool false) (fun _ => rfl) rfl rfl ?_
        refine wl_mv (.tmp 0) (.slice pa L.length c) (fun _ => rfl) rfl rfl ?_
        refine wl_mv (.tmp 1) (.int .i64 ((n : Nat) : Int)) (fun _ => rfl) rfl rfl ?_
        refine wl_mv (.tmp 7) (.string y.nm) (fun _ => rfl) rfl rfl ?_
        cases hf3 : arn L n y.nm with
        | true =>
          refine wl_call 72 [(.tmp 38), (.tmp 39), (.tmp 40)] _ [.slice pa L.length c, .int .i64 ((n : Nat) : Int), .string y.nm] (.bool true) rfl rfl (fun _ _ => by kernel_rfl) (cB hf3 (around_n (hS.kp M.kp) (fun y hy => (h5 y hy).kp M.kp) hw n hil y.nm)) rfl ?_
          intro u3 hq
          replace M := M.trans hq
          clear hq
          refine wl_pick (.tmp 37) (.const (.bool true)) (.tmp 41) false (.bool true) (fun _ => rfl) rfl rfl rfl ?_
          refine w_nil ?_
          refine xn_then ?_
          refine w_condT rfl ?_
          refine w_seq ?_
          refine w_reg ?_
          refine wl_mv (.const (.int .i64 (5))) (.int .i64 (5)) (fun _ => rfl) rfl rfl ?_
          refine w_nil ?_
          refine xn_then ?_
          refine w_ret ?_
          refine xr_then ?_
          exact w_ret1 _ (.int .i64 (5)) rfl rfl ⟨by unfold itE; rw [hf0, hti, hf1, hf2, hf3]; first | done | rfl, M⟩
        | false =>
          refine wl_call 72 [(.tmp 38), (.tmp 39), (.tmp 40)] _ [.slice pa L.length c, .int .i64 ((n : Nat) : Int), .string y.nm] (.bool false) rfl rfl (fun _ _ => by kernel_rfl) (cB hf3 (around_n (hS.kp M.kp) (fun y hy => (h5 y hy).kp M.kp) hw n hil y.nm)) rfl ?_
          intro u3 hq
          replace M := M.trans hq
          clear hq
          refine wl_pick (.tmp 37) (.const (.bool true)) (.tmp 41) false (.bool false) (fun _ => rfl) rfl rfl rfl ?_
          refine w_nil ?_
          refine xn_then ?_
          refine w_condF rfl ?_
          refine w_skip ?_
          refine xn_then ?_
          refine w_seq ?_
          refine w_reg ?_
          refine wl_mv (.const (.int .i64 (0))) (.int .i64 (0)) (fun _ => rfl) rfl rfl ?_
          refine w_nil ?_
          refine xn_then ?_
          refine w_ret ?_
          exact w_ret1 _ (.int .i64 (0)) rfl rfl ⟨by unfold itE; rw [hf0, hti, hf1, hf2, hf3]; first | done | rfl, M⟩
  | false =>
    refine wl_call 36 [(.tmp 17)] _ [.string y.nm] (.bool false) rfl rfl (fun _ _ => by kernel_rfl) (cB hf0 (rmay_n y.nm _)) rfl ?_
    intro u1 hq
    replace M := M.trans hq
    clear hq
    refine wl_un (fun v => Op.unary .not v) (.tmp 18) (.bool false) (.bool true) (fun _ => rfl) rfl (by kernel_rfl) rfl ?_
    refine w_nil ?_
    refine xn_then ?_
    refine w_condT rfl ?_
    refine w_seq ?_
    refine w_reg ?_
    refine wl_mv (.const (.int .i64 (90))) (.int .i64 (90)) (fun _ => rfl) rfl rfl ?_
    refine w_nil ?_
    refine xn_then ?_
    refine w_ret ?_
    refine xr_then ?_
    exact w_ret1 _ (.int .i64 (90)) rfl rfl ⟨by unfold itE; rw [hf0]; rfl, M⟩
theorem rsections_n {w : World} {pa : Option Addr} {c : Nat} {L : List S5} (hS : SL w 5 S5.cells pa L) (h5 : ∀ x ∈ L, LS5 w x) (hw : Wf L) (hz : L.length ≤ 64) (T : List (ByteArray × Int)) : Calls Try.prog 38 #[.slice pa L.length c] w fun e w' => e = .returned (rv (seR T L)) ∧ Mo w w' := by
  refine w_enter 43 Try.func38 Try.ntmps38 rfl rfl ?_
  have M : Mo w w := Mo.refl _
  refine w_seq ?_
  refine w_reg ?_
  refine wl_alloc 33 #[.int .i64 0, .int .i64 0, .int .i64 0, .int .i64 0, .int .i64 0] rfl (fun _ => by kernel_rfl) rfl ?_
  intro k1 u1 hk hz hq Q1
  have N_k1 : w.heap.size ≤ k1 := by have := M.size; omega
  replace M := M.trans hq
  clear hk hz hq
  refine wl_mv (.const (.int .i64 (0))) (.int .i64 (0)) (fun _ => rfl) rfl rfl ?_
  refine w_nil ?_
  refine xn_then ?_
  refine w_seq ?_
  refine w_seq ?_
  refine w_reg ?_
  refine wl_mv (.const (.int .i64 (0))) (.int .i64 (0)) (fun _ => rfl) rfl rfl ?_
  refine w_nil ?_
  refine xn_then ?_
  refine w_block ?_
  refine w_loop (fun m l w1 => ∃ i : Nat, m = L.length - i ∧ i ≤ L.length ∧ look l 0 = .slice pa L.length c ∧ look l 2 = pt k1 0 ∧ look l 4 = .int .i64 ((i : Nat) : Int) ∧ At w1 k1 [.int .i64 0, .int .i64 0, .int .i64 0, .int .i64 0, .int .i64 0] ∧ (∀ j, j < i → seG T L j = none) ∧ Mo w w1) _ ⟨0, rfl, Nat.zero_le _, rfl, rfl, rfl, Q1, (fun j hj => by omega), M⟩ ?_
  clear Q1 M
  rintro m l40 wl40 ⟨i, rfl, hi, e40_0, e40_2, e40_i, Q1, hG, M⟩
  by_cases hil : i < L.length
  · skip
    have hid : decide (i < L.length) = true := decide_eq_true hil
    obtain ⟨x, hx⟩ := get_of_lt hil
    obtain ⟨bp, op, hpp, hRp⟩ := D.SL.rw hS hx
    have hIt := (h5 x (List.mem_of_getElem? hx)).it
    have hzi := hIt.1
    unfold maxLen at hzi
    refine w_seq ?_
    refine w_seq ?_
    refine w_reg ?_
    refine wl_mv (.tmp 4) (.int .i64 ((i : Nat) : Int)) (fun _ => rfl) e40_i rfl ?_
    refine wl_mv (.tmp 0) (.slice pa L.length c) (fun _ => rfl) e40_0 rfl ?_
    refine wl_val (.int .i64 ((L.length : Nat) : Int)) (len37 _ _ _ _ _ (by exact rfl) _ _ _ _ _ _) rfl ?_
    refine wl_bin (fun x y => do eqGuard .lss 3 (.tmp 8) (.tmp 10) x y; binOp .lss 3 x y) (.tmp 8) (.tmp 10) (.int .i64 ((i : Nat) : Int)) (.int .i64 ((L.length : Nat) : Int)) (.bool true) (fun _ => rfl) rfl rfl (ltN hid _ _ _) rfl ?_
    refine w_nil ?_
    refine xn_then ?_
    refine w_condT rfl ?_
    refine w_skip ?_
    refine xn_then ?_
    refine w_seq ?_
    refine w_block ?_
    refine w_seq ?_
    refine w_seq ?_
    refine w_reg ?_
    refine wl_mv (.tmp 0) (.slice pa L.length c) (fun _ => rfl) e40_0 rfl ?_
    refine wl_mv (.tmp 4) (.int .i64 ((i : Nat) : Int)) (fun _ => rfl) e40_i rfl ?_
    refine wl_call 58 [(.tmp 14), (.tmp 15)] _ [.slice pa L.length c, .int .i64 ((i : Nat) : Int)] (.int .i64 (seE L ⟨T, stI L i 0, stK L i⟩ i x)) rfl rfl (fun _ _ => by kernel_rfl) (rsection_n (hS.kp M.kp) (fun y hy => (h5 y hy).kp M.kp) hw hz T i x hx) rfl ?_
    intro u41 hq
    replace Q1 := Q1.mo hq
    replace M := M.trans hq
    clear hq
    refine wl_mv (.tmp 16) (.int .i64 (seE L ⟨T, stI L i 0, stK L i⟩ i x)) (fun _ => rfl) rfl rfl ?_
    refine w_nil ?_
    refine xn_then ?_
    refine w_seq ?_
    refine w_reg ?_
    refine wl_mv (.tmp 5) (.int .i64 (seE L ⟨T, stI L i 0, stK L i⟩ i x)) (fun _ => rfl) rfl rfl ?_
    cases hf30 : decide (seE L ⟨T, stI L i 0, stK L i⟩ i x = 0) with
    | true =>
      have hf30p := of_decide_eq_true hf30
      refine wl_bin (fun x y => do eqGuard .neq 34 (.tmp 17) (.const (.int .i64 (0))) x y; binOp .neq 34 x y) (.tmp 17) (.const (.int .i64 (0))) (.int .i64 (seE L ⟨T, stI L i 0, stK L i⟩ i x)) (.int .i64 (0)) (.bool false) (fun _ => rfl) rfl rfl (ne34 hf30 _ _ _) rfl ?_
      refine w_nil ?_
      refine xn_then ?_
      refine w_condF rfl ?_
      refine w_skip ?_
      refine xn_then ?_
      refine w_seq ?_
      refine w_reg ?_
      refine wl_mv (.const (.int .i64 (0))) (.int .i64 (0)) (fun _ => rfl) rfl rfl ?_
      refine w_nil ?_
      refine xn_then ?_
      refine w_block ?_
      refine w_loop (fun m l w1 => ∃ j : Nat, m = x.items.length - j ∧ j ≤ x.items.length ∧ look l 0 = .slice pa L.length c ∧ look l 2 = pt k1 0 ∧ look l 4 = .int .i64 ((i : Nat) : Int) ∧ look l 6 = .int .i64 ((j : Nat) : Int) ∧ At w1 k1 [.int .i64 0, .int .i64 0, .int .i64 0, .int .i64 0, .int .i64 0] ∧ (∀ m, m < j → ixG L i m = none) ∧ Mo w w1) _ ⟨0, rfl, Nat.zero_le _, e40_0, e40_2, e40_i, rfl, Q1, (fun j hj => by omega), M⟩ ?_
      clear Q1 M
      rintro m l70 wl70 ⟨j, rfl, hj, e70_0, e70_2, e70_4, e70_i, Q1, hH, M⟩
      by_cases hjl : j < x.items.length
      · skip
        have hjd : decide (j < x.items.length) = true := decide_eq_true hjl
        obtain ⟨y, hy⟩ := get_of_lt hjl
        refine w_seq ?_
        refine w_seq ?_
        refine w_reg ?_
        refine wl_mv (.tmp 6) (.int .i64 ((j : Nat) : Int)) (fun _ => rfl) e70_i rfl ?_
        refine wl_mv (.tmp 0) (.slice pa L.length c) (fun _ => rfl) e70_0 rfl ?_
        refine wl_mv (.tmp 4) (.int .i64 ((i : Nat) : Int)) (fun _ => rfl) e70_4 rfl ?_
        refine wl_bin (fun x y => Instr.indexAt 37 x y) (.tmp 23) (.tmp 24) (.slice pa L.length c) (.int .i64 ((i : Nat) : Int)) (pt bp (op + i * 5)) (fun _ => rfl) rfl rfl (ix37 (i := i) hpp hil _) rfl ?_
        refine wl_un (fun v => Instr.fieldAt 52 v 4) (.tmp 25) (pt bp (op + i * 5)) (pt bp (op + i * 5 + 4)) (fun _ => rfl) rfl (by kernel_rfl) rfl ?_
        refine wl_load 22 (.tmp 26) (pt bp (op + i * 5 + 4)) (.slice x.pi x.items.length x.ci) rfl rfl (D.run_oneR (hRp.mo M).at' 22 4 rfl Try.underlying22 rfl) rfl ?_
        refine wl_val (.int .i64 ((x.items.length : Nat) : Int)) (len22 _ _ _ _ _ (by exact rfl) _ _ _ _ _ _) rfl ?_
        refine wl_bin (fun x y => do eqGuard .lss 3 (.tmp 22) (.tmp 28) x y; binOp .lss 3 x y) (.tmp 22) (.tmp 28) (.int .i64 ((j : Nat) : Int)) (.int .i64 ((x.items.length : Nat) : Int)) (.bool true) (fun _ => rfl) rfl rfl (ltN hjd _ _ _) rfl ?_
        refine w_nil ?_
        refine xn_then ?_
        refine w_condT rfl ?_
        refine w_skip ?_
        refine xn_then ?_
        refine w_seq ?_
        refine w_block ?_
        refine w_seq ?_
        refine w_reg ?_
        refine wl_mv (.tmp 0) (.slice pa L.length c) (fun _ => rfl) e70_0 rfl ?_
        refine wl_mv (.tmp 4) (.int .i64 ((i : Nat) : Int)) (fun _ => rfl) e70_4 rfl ?_
        refine wl_mv (.tmp 6) (.int .i64 ((j : Nat) : Int)) (fun _ => rfl) e70_i rfl ?_
        refine wl_call 59 [(.tmp 32), (.tmp 33), (.tmp 34)] _ [.slice pa L.length c, .int .i64 ((i : Nat) : Int), .int .i64 ((j : Nat) : Int)] (.int .i64 (itE L (stI L i j) i y)) rfl rfl (fun _ _ => by kernel_rfl) (ritem_n (hS.kp M.kp) (fun y hy => (h5 y hy).kp M.kp) hw i j x y hx hy) rfl ?_
        intro u71 hq
        replace Q1 := Q1.mo hq
        replace M := M.trans hq
        clear hq
        refine wl_mv (.tmp 35) (.int .i64 (itE L (stI L i j) i y)) (fun _ => rfl) rfl rfl ?_
        refine w_nil ?_
        refine xn_then ?_
        refine w_seq ?_
        refine w_reg ?_
        refine wl_mv (.tmp 7) (.int .i64 (itE L (stI L i j) i y)) (fun _ => rfl) rfl rfl ?_
        cases hf60 : decide (itE L (stI L i j) i y = 0) with
        | true =>
          have hf60p := of_decide_eq_true hf60
          refine wl_bin (fun x y => do eqGuard .neq 34 (.tmp 36) (.const (.int .i64 (0))) x y; binOp .neq 34 x y) (.tmp 36) (.const (.int .i64 (0))) (.int .i64 (itE L (stI L i j) i y)) (.int .i64 (0)) (.bool false) (fun _ => rfl) rfl rfl (ne34 hf60 _ _ _) rfl ?_
          refine w_nil ?_
          refine xn_then ?_
          refine w_condF rfl ?_
          refine w_skip ?_
          refine xn_blk ?_
          refine xn_then ?_
          refine w_reg ?_
          refine wl_mv (.tmp 6) (.int .i64 ((j : Nat) : Int)) (fun _ => rfl) e70_i rfl ?_
          refine wl_bin (fun x y => do eqGuard .add 3 (.tmp 30) (.const (.int .i64 (1))) x y; binOp .add 3 x y) (.tmp 30) (.const (.int .i64 (1))) (.int .i64 ((j : Nat) : Int)) (.int .i64 (1)) (.int .i64 ((j + 1 : Nat) : Int)) (fun _ => rfl) rfl rfl (add1r (k := j) (by omega) _ _ _) rfl ?_
          refine wl_mv (.tmp 31) (.int .i64 ((j + 1 : Nat) : Int)) (fun _ => rfl) rfl rfl ?_
          refine w_nil ?_
          exact xn_loop (x.items.length - (j + 1)) (by omega) ⟨j + 1, rfl, by omega, e70_0, e70_2, e70_4, rfl, Q1, fs_step hH ((ixG_of hx hy).trans (er_0 hf60p)), M⟩
        | false =>
          have hf60p := of_decide_eq_false hf60
          refine wl_bin (fun x y => do eqGuard .neq 34 (.tmp 36) (.const (.int .i64 (0))) x y; binOp .neq 34 x y) (.tmp 36) (.const (.int .i64 (0))) (.int .i64 (itE L (stI L i j) i y)) (.int .i64 (0)) (.bool true) (fun _ => rfl) rfl rfl (ne34 hf60 _ _ _) rfl ?_
          refine w_nil ?_
          refine xn_then ?_
          refine w_condT rfl ?_
          refine w_seq ?_
          refine w_reg ?_
          refine wl_mv (.tmp 4) (.int .i64 ((i : Nat) : Int)) (fun _ => rfl) e70_4 rfl ?_
          refine wl_mv (.tmp 6) (.int .i64 ((j : Nat) : Int)) (fun _ => rfl) e70_i rfl ?_
          refine wl_build 33 [(0, (.const (.int .i64 (3)))), (1, (.tmp 38)), (2, (.tmp 39))] [(0, .int .i64 (3)), (1, .int .i64 ((i : Nat) : Int)), (2, .int .i64 ((j : Nat) : Int))] (.agg #[.int .i64 (3), .int .i64 ((i : Nat) : Int), .int .i64 ((j : Nat) : Int), .int .i64 0, .int .i64 0]) rfl rfl (by kernel_rfl) rfl ?_
          refine wl_mv (.tmp 7) (.int .i64 (itE L (stI L i j) i y)) (fun _ => rfl) rfl rfl ?_
          refine wl_st 33 (.tmp 2) (.tmp 40) k1 0 #[.int .i64 (3), .int .i64 ((i : Nat) : Int), .int .i64 ((j : Nat) : Int), .int .i64 0, .int .i64 0] [.int .i64 0, .int .i64 0, .int .i64 0, .int .i64 0, .int .i64 0] [.int .i64 (3), .int .i64 ((i : Nat) : Int), .int .i64 ((j : Nat) : Int), .int .i64 0, .int .i64 0] Q1 rfl rfl e70_2 rfl rfl sz33 rfl rfl rfl ?_
          intro u72 hS Qn
          replace Q1 := Qn
          clear Qn
          replace M := hS.mo _ N_k1 M
          clear hS
          refine wl_mv (.tmp 41) (.int .i64 (itE L (stI L i j) i y)) (fun _ => rfl) rfl rfl ?_
          refine w_nil ?_
          refine xn_then ?_
          refine w_ret ?_
          refine xr_blk ?_
          refine xr_then ?_
          refine xr_then ?_
          refine xr_blk ?_
          refine xr_blk ?_
          refine xr_then ?_
          refine xr_then ?_
          refine xr_blk ?_
          refine xr_then ?_
          exact w_ret2 _ _ (.agg #[.int .i64 (3), .int .i64 ((i : Nat) : Int), .int .i64 ((j : Nat) : Int), .int .i64 0, .int .i64 0]) (.int .i64 (itE L (stI L i j) i y)) rfl ⟨k1, e70_2, (run_row Q1 33 0 5 [.int .i64 (3), .int .i64 ((i : Nat) : Int), .int .i64 ((j : Nat) : Int), .int .i64 0, .int .i64 0] rfl Try.underlying33 rfl sz33)⟩ rfl ⟨by unfold seR; rw [fs_hit hG ((seG_of hx).trans (by rw [er_0 hf30p, Option.none_or]; exact fs_hit hH ((ixG_of hx hy).trans (er_1 hf60p)) hjl)) hil]; rfl, M⟩
      · skip
        have hjd : decide (j < x.items.length) = false := decide_eq_false hjl
        have hje : j = x.items.length := by omega
        refine w_seq ?_
        refine w_seq ?_
        refine w_reg ?_
        refine wl_mv (.tmp 6) (.int .i64 ((j : Nat) : Int)) (fun _ => rfl) e70_i rfl ?_
        refine wl_mv (.tmp 0) (.slice pa L.length c) (fun _ => rfl) e70_0 rfl ?_
        refine wl_mv (.tmp 4) (.int .i64 ((i : Nat) : Int)) (fun _ => rfl) e70_4 rfl ?_
        refine wl_bin (fun x y => Instr.indexAt 37 x y) (.tmp 23) (.tmp 24) (.slice pa L.length c) (.int .i64 ((i : Nat) : Int)) (pt bp (op + i * 5)) (fun _ => rfl) rfl rfl (ix37 (i := i) hpp hil _) rfl ?_
        refine wl_un (fun v => Instr.fieldAt 52 v 4) (.tmp 25) (pt bp (op + i * 5)) (pt bp (op + i * 5 + 4)) (fun _ => rfl) rfl (by kernel_rfl) rfl ?_
        refine wl_load 22 (.tmp 26) (pt bp (op + i * 5 + 4)) (.slice x.pi x.items.length x.ci) rfl rfl (D.run_oneR (hRp.mo M).at' 22 4 rfl Try.underlying22 rfl) rfl ?_
        refine wl_val (.int .i64 ((x.items.length : Nat) : Int)) (len22 _ _ _ _ _ (by exact rfl) _ _ _ _ _ _) rfl ?_
        refine wl_bin (fun x y => do eqGuard .lss 3 (.tmp 22) (.tmp 28) x y; binOp .lss 3 x y) (.tmp 22) (.tmp 28) (.int .i64 ((j : Nat) : Int)) (.int .i64 ((x.items.length : Nat) : Int)) (.bool false) (fun _ => rfl) rfl rfl (ltN hjd _ _ _) rfl ?_
        refine w_nil ?_
        refine xn_then ?_
        refine w_condF rfl ?_
        refine w_exit ?_
        refine xx_then ?_
        refine xx_then ?_
        refine xx_blk ?_
        refine xn_blk ?_
        refine xn_then ?_
        refine w_reg ?_
        refine wl_mv (.tmp 4) (.int .i64 ((i : Nat) : Int)) (fun _ => rfl) e70_4 rfl ?_
        refine wl_bin (fun x y => do eqGuard .add 3 (.tmp 12) (.const (.int .i64 (1))) x y; binOp .add 3 x y) (.tmp 12) (.const (.int .i64 (1))) (.int .i64 ((i : Nat) : Int)) (.int .i64 (1)) (.int .i64 ((i + 1 : Nat) : Int)) (fun _ => rfl) rfl rfl (add1r (k := i) (by omega) _ _ _) rfl ?_
        refine wl_mv (.tmp 13) (.int .i64 ((i + 1 : Nat) : Int)) (fun _ => rfl) rfl rfl ?_
        refine w_nil ?_
        exact xn_loop (L.length - (i + 1)) (by omega) ⟨i + 1, rfl, by omega, e70_0, e70_2, rfl, Q1, fs_step hG ((seG_of hx).trans (by rw [er_0 hf30p, Option.none_or]; exact fs_none (by rw [← hje]; exact hH))), M⟩
    | false =>
      have hf30p := of_decide_eq_false hf30
      refine wl_bin (fun x y => do eqGuard .neq 34 (.tmp 17) (.const (.int .i64 (0))) x y; binOp .neq 34 x y) (.tmp 17) (.const (.int .i64 (0))) (.int .i64 (seE L ⟨T, stI L i 0, stK L i⟩ i x)) (.int .i64 (0)) (.bool true) (fun _ => rfl) rfl rfl (ne34 hf30 _ _ _) rfl ?_
      refine w_nil ?_
      refine xn_then ?_
      refine w_condT rfl ?_
      refine w_seq ?_
      refine w_reg ?_
      refine wl_mv (.tmp 4) (.int .i64 ((i : Nat) : Int)) (fun _ => rfl) e40_i rfl ?_
      refine wl_build 33 [(0, (.const (.int .i64 (2)))), (1, (.tmp 19))] [(0, .int .i64 (2)), (1, .int .i64 ((i : Nat) : Int))] (.agg #[.int .i64 (2), .int .i64 ((i : Nat) : Int), .int .i64 0, .int .i64 0, .int .i64 0]) rfl rfl (by kernel_rfl) rfl ?_
      refine wl_mv (.tmp 5) (.int .i64 (seE L ⟨T, stI L i 0, stK L i⟩ i x)) (fun _ => rfl) rfl rfl ?_
      refine wl_st 33 (.tmp 2) (.tmp 20) k1 0 #[.int .i64 (2), .int .i64 ((i : Nat) : Int), .int .i64 0, .int .i64 0, .int .i64 0] [.int .i64 0, .int .i64 0, .int .i64 0, .int .i64 0, .int .i64 0] [.int .i64 (2), .int .i64 ((i : Nat) : Int), .int .i64 0, .int .i64 0, .int .i64 0] Q1 rfl rfl e40_2 rfl rfl sz33 rfl rfl rfl ?_
      intro u42 hS Qn
      replace Q1 := Qn
      clear Qn
      replace M := hS.mo _ N_k1 M
      clear hS
      refine wl_mv (.tmp 21) (.int .i64 (seE L ⟨T, stI L i 0, stK L i⟩ i x)) (fun _ => rfl) rfl rfl ?_
      refine w_nil ?_
      refine xn_then ?_
      refine w_ret ?_
      refine xr_then ?_
      refine xr_blk ?_
      refine xr_then ?_
      refine xr_then ?_
      refine xr_blk ?_
      refine xr_then ?_
      exact w_ret2 _ _ (.agg #[.int .i64 (2), .int .i64 ((i : Nat) : Int), .int .i64 0, .int .i64 0, .int .i64 0]) (.int .i64 (seE L ⟨T, stI L i 0, stK L i⟩ i x)) rfl ⟨k1, e40_2, (run_row Q1 33 0 5 [.int .i64 (2), .int .i64 ((i : Nat) : Int), .int .i64 0, .int .i64 0, .int .i64 0] rfl Try.underlying33 rfl sz33)⟩ rfl ⟨by unfold seR; rw [fs_hit hG ((seG_of hx).trans (by rw [er_1 hf30p]; rfl)) hil]; rfl, M⟩
  · skip
    have hid : decide (i < L.length) = false := decide_eq_false hil
    have hie : i = L.length := by omega
    refine w_seq ?_
    refine w_seq ?_
    refine w_reg ?_
    refine wl_mv (.tmp 4) (.int .i64 ((i : Nat) : Int)) (fun _ => rfl) e40_i rfl ?_
    refine wl_mv (.tmp 0) (.slice pa L.length c) (fun _ => rfl) e40_0 rfl ?_
    refine wl_val (.int .i64 ((L.length : Nat) : Int)) (len37 _ _ _ _ _ (by exact rfl) _ _ _ _ _ _) rfl ?_
    refine wl_bin (fun x y => do eqGuard .lss 3 (.tmp 8) (.tmp 10) x y; binOp .lss 3 x y) (.tmp 8) (.tmp 10) (.int .i64 ((i : Nat) : Int)) (.int .i64 ((L.length : Nat) : Int)) (.bool false) (fun _ => rfl) rfl rfl (ltN hid _ _ _) rfl ?_
    refine w_nil ?_
    refine xn_then ?_
    refine w_condF rfl ?_
    refine w_exit ?_
    refine xx_then ?_
    refine xx_then ?_
    refine xx_blk ?_
    refine xn_then ?_
    refine w_seq ?_
    refine w_reg ?_
    refine wl_build 33 [] [] (.agg #[.int .i64 0, .int .i64 0, .int .i64 0, .int .i64 0, .int .i64 0]) rfl rfl (by kernel_rfl) rfl ?_
    refine wl_st 33 (.tmp 2) (.tmp 42) k1 0 #[.int .i64 0, .int .i64 0, .int .i64 0, .int .i64 0, .int .i64 0] [.int .i64 0, .int .i64 0, .int .i64 0, .int .i64 0, .int .i64 0] [.int .i64 0, .int .i64 0, .int .i64 0, .int .i64 0, .int .i64 0] Q1 rfl rfl e40_2 rfl rfl sz33 rfl rfl rfl ?_
    intro u41 hS Qn
    replace Q1 := Qn
    clear Qn
    replace M := hS.mo _ N_k1 M
    clear hS
    refine wl_mv (.const (.int .i64 (0))) (.int .i64 (0)) (fun _ => rfl) rfl rfl ?_
    refine w_nil ?_
    refine xn_then ?_
    refine w_ret ?_
    exact w_ret2 _ _ (.agg #[.int .i64 0, .int .i64 0, .int .i64 0, .int .i64 0, .int .i64 0]) (.int .i64 (0)) rfl ⟨k1, e40_2, (run_row Q1 33 0 5 [.int .i64 0, .int .i64 0, .int .i64 0, .int .i64 0, .int .i64 0] rfl Try.underlying33 rfl sz33)⟩ rfl ⟨by unfold seR; rw [fs_none (by rw [← hie]; exact hG)]; rfl, M⟩
end Go.Proofs.Ytbanldffohopiaa
