/-
  What an expression reads, as the document gathers it. What an item reads, as the document tells it.
-/
import Derived.Test.YthghblgbjgghcaaRdx
namespace Go.Proofs.Ythghblgbjgghcaa
open Go.RowKit D
theorem reads38_n {l : List S5} {pl : Option Addr} {cl : Nat} {w0 : World} (hL : SL w0 5 S5.cells pl l) (hLx : ∀ x ∈ l, LS5 w0 x) (hz : l.length < 400000) (hzI : nI l < 400000) {s : Nat} (hs : s < l.length) : ∀ (x : Ex), LEx w0 x → ∀ {w : World} {pv : Option Addr} {cv : Nat} {L : List Nat}, Kp w0 w → Ror w pv cv L (nI l) → Calls Try.prog 38 #[.slice pl l.length cl, .int .i64 ((s : Nat) : Int), .agg (x.cells).toArray, .slice pv L.length cv] w fun e w' => ∃ (L2 : List Nat) (p2 : Option Addr) (c2 : Nat), e = .returned (.slice p2 L2.length c2) ∧ Ror w' p2 c2 L2 (nI l) ∧ (∀ k, k ∈ L2 ↔ k ∈ L ∨ k ∈ gth l ((s : Nat) : Int) (FM l ((s : Nat) : Int)) x) ∧ Mo w w' := by
  refine Ex.ind2 ?_
  intro x ih hE w pv cv L hK hR
  have hz9 := hE.sl.1
  unfold maxLen at hz9
  refine w_enter 123 Try.func38 Try.ntmps38 rfl rfl ?_
  have M : Mo w w := Mo.refl _
  refine w_seq ?_
  refine w_reg ?_
  refine wl_box 67 (.tmp 2) (.agg (x.cells).toArray) (((x.cells).toArray)) rfl rfl (fun _ => by kernel_rfl) rfl ?_
  intro k1 u1 hk hz hq Q1
  have N_k1 : w.heap.size ≤ k1 := by have := M.size; omega
  replace M := M.trans hq
  clear hk hz hq
  refine wl_mv (.const (.slice none 0 0)) (.slice none 0 0) (fun _ => rfl) rfl rfl ?_
  refine w_nil ?_
  refine xn_then ?_
  refine w_cut (fun lf w1 => ∃ L1 : List Nat, ∃ p1 : Option Addr, ∃ c1 : Nat, look lf 0 = .slice pl l.length cl ∧ look lf 1 = .int .i64 ((s : Nat) : Int) ∧ look lf 3 = .slice p1 L1.length c1 ∧ look lf 6 = pt k1 0 ∧ (Ror w1 p1 c1 L1 (nI l)) ∧ (∀ k, k ∈ L1 ↔ k ∈ L ∨ k ∈ rdN l ((s : Nat) : Int) (FM l ((s : Nat) : Int)) x) ∧ (At w1 k1 (x.cells)) ∧ (Mo w w1)) ?_ ?_
  · skip
    clear Q1 M
    rintro lf200 wl200 ⟨L1, p1, c1, e200_0, e200_1, e200_3, e200_6, hR1, hm1, Q1, M⟩
    clear hR
    refine w_seq ?_
    refine w_seq ?_
    refine w_reg ?_
    refine wl_mv (.const (.int .i64 (0))) (.int .i64 (0)) (fun _ => rfl) rfl rfl ?_
    refine w_nil ?_
    refine xn_then ?_
    refine w_block ?_
    refine w_loop (fun m lf w1 => ∃ i : Nat, ∃ L3 : List Nat, ∃ p3 : Option Addr, ∃ c3 : Nat, m = x.args.length - i ∧ look lf 0 = .slice pl l.length cl ∧ look lf 1 = .int .i64 ((s : Nat) : Int) ∧ look lf 3 = .slice p3 L3.length c3 ∧ look lf 6 = pt k1 0 ∧ look lf 20 = .int .i64 ((i : Nat) : Int) ∧ (i ≤ x.args.length) ∧ (Ror w1 p3 c3 L3 (nI l)) ∧ ((∀ k, k ∈ L3 ↔ k ∈ L ∨ k ∈ rdN l ((s : Nat) : Int) (FM l ((s : Nat) : Int)) x ++ (x.args.take (i)).flatMap (gth l ((s : Nat) : Int) (FM l ((s : Nat) : Int))))) ∧ (At w1 k1 (x.cells)) ∧ (Mo w w1)) _ ⟨0, L1, p1, c1, rfl, e200_0, e200_1, e200_3, e200_6, rfl, Nat.zero_le _, hR1, (fun k => by simpa using hm1 k), Q1, M⟩ ?_
    clear hR1 Q1 M
    rintro m lf40 wl40 ⟨i, L3, p3, c3, rfl, e40_0, e40_1, e40_3, e40_6, e40_20, hi, hR3, hm3, Q1, M⟩
    cases hd2 : decide (i < x.args.length) with
    | true =>
      have hil := of_decide_eq_true hd2
      obtain ⟨a, ha⟩ := get_of_lt hil
      have hma := List.mem_of_getElem? ha
      obtain ⟨ba, oa, hpa, hRa⟩ := D.SL.rw hE.sl ha
      have hRaw := hRa.kp (hK.trans M.kp)
      have M9 := M
      have hRa0 := hRa.kp hK
      refine w_seq ?_
      refine w_seq ?_
      refine w_reg ?_
      refine wl_mv (.tmp 20) (.int .i64 ((i : Nat) : Int)) (fun _ => rfl) e40_20 rfl ?_
      refine wl_un (fun v => Instr.fieldAt 67 v 7) (.tmp 6) (pt k1 0) (pt k1 16) (fun _ => rfl) e40_6 (by kernel_rfl) rfl ?_
      refine wl_load 65 (.tmp 107) (pt k1 16) (.slice x.pa x.args.length x.cap) rfl rfl (run_one Q1 65 16 rfl Try.underlying65 rfl) rfl ?_
      refine wl_val (.int .i64 ((x.args.length : Nat) : Int)) (len65 _ _ _ _ _ (by exact rfl) _ _ _ _ _ _) rfl ?_
      refine wl_bin (fun x y => do eqGuard .lss 3 (.tmp 106) (.tmp 109) x y; binOp .lss 3 x y) (.tmp 106) (.tmp 109) (.int .i64 ((i : Nat) : Int)) (.int .i64 ((x.args.length : Nat) : Int)) (.bool true) (fun _ => rfl) rfl rfl (ltN hd2 _ _ _) rfl ?_
      refine w_nil ?_
      refine xn_then ?_
      refine w_condT rfl ?_
      refine w_skip ?_
      refine xn_then ?_
      refine w_seq ?_
      refine w_block ?_
      refine w_reg ?_
      refine wl_mv (.tmp 0) (.slice pl l.length cl) (fun _ => rfl) e40_0 rfl ?_
      refine wl_mv (.tmp 1) (.int .i64 ((s : Nat) : Int)) (fun _ => rfl) e40_1 rfl ?_
      refine wl_un (fun v => Instr.fieldAt 67 v 7) (.tmp 6) (pt k1 0) (pt k1 16) (fun _ => rfl) e40_6 (by kernel_rfl) rfl ?_
      refine wl_load 65 (.tmp 115) (pt k1 16) (.slice x.pa x.args.length x.cap) rfl rfl (run_one Q1 65 16 rfl Try.underlying65 rfl) rfl ?_
      refine wl_mv (.tmp 20) (.int .i64 ((i : Nat) : Int)) (fun _ => rfl) e40_20 rfl ?_
      refine wl_bin (fun x y => Instr.indexAt 65 x y) (.tmp 116) (.tmp 117) (.slice x.pa x.args.length x.cap) (.int .i64 ((i : Nat) : Int)) (pt ba (oa + i * 17)) (fun _ => rfl) rfl rfl (ix65 (i := i) hpa hil _) rfl ?_
      refine wl_load 67 (.tmp 118) (pt ba (oa + i * 17)) (.agg (a.cells).toArray) rfl rfl (D.run_partR (hRa0.mo M).at' 67 0 17 (a.cells) rfl Try.underlying67 rfl sz67) rfl ?_
      refine wl_mv (.tmp 3) (.slice p3 L3.length c3) (fun _ => rfl) e40_3 rfl ?_
      refine wl_callx 38 [(.tmp 113), (.tmp 114), (.tmp 119), (.tmp 120)] _ [.slice pl l.length cl, .int .i64 ((s : Nat) : Int), .agg (a.cells).toArray, .slice p3 L3.length c3] rfl rfl (fun _ _ => by kernel_rfl) ((ih a hma (hE.ar a hma) (hK.trans M.kp) hR3)) rfl ?_
      rintro e9 u41 ⟨L4, p4, c4, rfl, hR4, hm4, hq⟩
      refine ⟨_, rfl, ?_⟩
      replace Q1 := Q1.mo hq
      replace M := M.trans hq
      clear hq
      refine wl_mv (.tmp 121) (.slice p4 L4.length c4) (fun _ => rfl) rfl rfl ?_
      refine w_nil ?_
      refine xn_blk ?_
      refine xn_then ?_
      refine w_reg ?_
      refine wl_mv (.tmp 20) (.int .i64 ((i : Nat) : Int)) (fun _ => rfl) e40_20 rfl ?_
      refine wl_bin (fun x y => do eqGuard .add 3 (.tmp 111) (.const (.int .i64 (1))) x y; binOp .add 3 x y) (.tmp 111) (.const (.int .i64 (1))) (.int .i64 ((i : Nat) : Int)) (.int .i64 (1)) (.int .i64 ((i + 1 : Nat) : Int)) (fun _ => rfl) rfl rfl (add1r (k := i) (by omega) _ _ _) rfl ?_
      refine wl_mv (.tmp 112) (.int .i64 ((i + 1 : Nat) : Int)) (fun _ => rfl) rfl rfl ?_
      refine w_nil ?_
      exact xn_loop (x.args.length - (i + 1)) (by omega) ⟨i + 1, L4, p4, c4, rfl, e40_0, e40_1, rfl, e40_6, rfl, by omega, hR4, (fun k => by rw [flat_s ha, ← List.append_assoc, List.mem_append, hm4 k, hm3 k, or_assoc]), Q1, M⟩
    | false =>
      have hie : i = x.args.length := by have := of_decide_eq_false hd2; omega
      rw [hie, List.take_length] at hm3
      refine w_seq ?_
      refine w_seq ?_
      refine w_reg ?_
      refine wl_mv (.tmp 20) (.int .i64 ((i : Nat) : Int)) (fun _ => rfl) e40_20 rfl ?_
      refine wl_un (fun v => Instr.fieldAt 67 v 7) (.tmp 6) (pt k1 0) (pt k1 16) (fun _ => rfl) e40_6 (by kernel_rfl) rfl ?_
      refine wl_load 65 (.tmp 107) (pt k1 16) (.slice x.pa x.args.length x.cap) rfl rfl (run_one Q1 65 16 rfl Try.underlying65 rfl) rfl ?_
      refine wl_val (.int .i64 ((x.args.length : Nat) : Int)) (len65 _ _ _ _ _ (by exact rfl) _ _ _ _ _ _) rfl ?_
      refine wl_bin (fun x y => do eqGuard .lss 3 (.tmp 106) (.tmp 109) x y; binOp .lss 3 x y) (.tmp 106) (.tmp 109) (.int .i64 ((i : Nat) : Int)) (.int .i64 ((x.args.length : Nat) : Int)) (.bool false) (fun _ => rfl) rfl rfl (ltN hd2 _ _ _) rfl ?_
      refine w_nil ?_
      refine xn_then ?_
      refine w_condF rfl ?_
      refine w_exit ?_
      refine xx_then ?_
      refine xx_then ?_
      refine xx_blk ?_
      refine xn_then ?_
      refine w_seq ?_
      refine w_reg ?_
      refine wl_mv (.tmp 3) (.slice p3 L3.length c3) (fun _ => rfl) e40_3 rfl ?_
      refine wl_mv (.tmp 122) (.slice p3 L3.length c3) (fun _ => rfl) rfl rfl ?_
      refine w_nil ?_
      refine xn_then ?_
      refine w_ret ?_
      exact w_ret1 _ (.slice p3 L3.length c3) rfl rfl ⟨L3, p3, c3, rfl, hR3, (fun k => by rw [gth_eq]; exact hm3 k), M⟩
  · skip
    refine w_block ?_
    refine w_seq ?_
    refine w_reg ?_
    refine wl_un (fun v => Instr.fieldAt 67 v 0) (.tmp 6) (pt k1 0) (pt k1 0) (fun _ => rfl) rfl (by kernel_rfl) rfl ?_
    refine wl_load 3 (.tmp 22) (pt k1 0) (.int .i64 (x.k)) rfl rfl (run_one Q1 3 0 rfl Try.underlying3 rfl) rfl ?_
    cases hf0 : decide (x.k = 2) with
    | true =>
      have hf0p := of_decide_eq_true hf0
      refine wl_bin (fun x y => do eqGuard .eql 3 (.tmp 23) (.const (.int .i64 (2))) x y; binOp .eql 3 x y) (.tmp 23) (.const (.int .i64 (2))) (.int .i64 (x.k)) (.int .i64 (2)) (.bool true) (fun _ => rfl) rfl rfl (eq3 hf0 _ _ _) rfl ?_
      refine wl_mv (.tmp 24) (.bool true) (fun _ => rfl) rfl rfl ?_
      refine w_nil ?_
      refine xn_then ?_
      refine w_condT rfl ?_
      refine w_seq ?_
      cases ho : fnd l (l.length + 1) ((s : Nat) : Int) x.nm with
      | none =>
        have hrd := rdN_name0 hf0 ho
        refine w_reg ?_
        refine wl_mv (.tmp 0) (.slice pl l.length cl) (fun _ => rfl) rfl rfl ?_
        refine wl_mv (.tmp 1) (.int .i64 ((s : Nat) : Int)) (fun _ => rfl) rfl rfl ?_
        refine wl_un (fun v => Instr.fieldAt 67 v 2) (.tmp 6) (pt k1 0) (pt k1 2) (fun _ => rfl) rfl (by kernel_rfl) rfl ?_
        refine wl_load 9 (.tmp 28) (pt k1 2) (.string x.nm) rfl rfl (run_one Q1 9 2 rfl Try.underlying9 rfl) rfl ?_
        refine wl_callx 61 [(.tmp 26), (.tmp 27), (.tmp 29)] _ [.slice pl l.length cl, .int .i64 ((s : Nat) : Int), .string x.nm] rfl rfl (fun _ _ => by kernel_rfl) ((find61_n (hL.kp (hK.trans M.kp)) (fun y hy => (hLx y hy).kp (hK.trans M.kp)) hz ((s : Nat) : Int) x.nm)) rfl ?_
        rintro e9 u2 ⟨rfl, hq⟩
        refine ⟨_, rfl, ?_⟩
        rw [ho]
        replace Q1 := Q1.mo hq
        replace M := M.trans hq
        clear hq
        refine wl_mv (.tmp 30) (.tuple #[.int .i64 (0), .int .i64 (0), .bool false]) (fun _ => rfl) rfl rfl ?_
        refine wl_un (fun v => Instr.extract v 0) (.tmp 25) (.tuple #[.int .i64 (0), .int .i64 (0), .bool false]) (.int .i64 (0)) (fun _ => rfl) rfl (by kernel_rfl) rfl ?_
        refine wl_un (fun v => Instr.extract v 1) (.tmp 25) (.tuple #[.int .i64 (0), .int .i64 (0), .bool false]) (.int .i64 (0)) (fun _ => rfl) rfl (by kernel_rfl) rfl ?_
        refine wl_un (fun v => Instr.extract v 2) (.tmp 25) (.tuple #[.int .i64 (0), .int .i64 (0), .bool false]) (.bool false) (fun _ => rfl) rfl (by kernel_rfl) rfl ?_
        refine wl_mv (.tmp 31) (.int .i64 (0)) (fun _ => rfl) rfl rfl ?_
        refine wl_mv (.tmp 32) (.int .i64 (0)) (fun _ => rfl) rfl rfl ?_
        refine wl_mv (.tmp 33) (.bool false) (fun _ => rfl) rfl rfl ?_
        refine w_nil ?_
        refine xn_then ?_
        refine w_seq ?_
        refine w_reg ?_
        refine wl_mv (.tmp 11) (.bool false) (fun _ => rfl) rfl rfl ?_
        refine w_nil ?_
        refine xn_then ?_
        refine w_condF rfl ?_
        refine w_skip ?_
        refine xn_blk ?_
        exact xn_cut ⟨L, pv, cv, rfl, rfl, rfl, rfl, (hR.mo M), (fun k => by rw [hrd]; simp), Q1, M⟩
      | some p9 =>
        obtain ⟨t9, j9⟩ := p9
        obtain ⟨y9, hy9, hj9⟩ := fnd_ok _ _ ho
        have hrd := rdN_name hf0 ho
        have hnl : fsn l t9 + j9 < nI l := fsn_lt hy9 hj9
        refine w_reg ?_
        refine wl_mv (.tmp 0) (.slice pl l.length cl) (fun _ => rfl) rfl rfl ?_
        refine wl_mv (.tmp 1) (.int .i64 ((s : Nat) : Int)) (fun _ => rfl) rfl rfl ?_
        refine wl_un (fun v => Instr.fieldAt 67 v 2) (.tmp 6) (pt k1 0) (pt k1 2) (fun _ => rfl) rfl (by kernel_rfl) rfl ?_
        refine wl_load 9 (.tmp 28) (pt k1 2) (.string x.nm) rfl rfl (run_one Q1 9 2 rfl Try.underlying9 rfl) rfl ?_
        refine wl_callx 61 [(.tmp 26), (.tmp 27), (.tmp 29)] _ [.slice pl l.length cl, .int .i64 ((s : Nat) : Int), .string x.nm] rfl rfl (fun _ _ => by kernel_rfl) ((find61_n (hL.kp (hK.trans M.kp)) (fun y hy => (hLx y hy).kp (hK.trans M.kp)) hz ((s : Nat) : Int) x.nm)) rfl ?_
        rintro e9 u2 ⟨rfl, hq⟩
        refine ⟨_, rfl, ?_⟩
        rw [ho]
        replace Q1 := Q1.mo hq
        replace M := M.trans hq
        clear hq
        refine wl_mv (.tmp 30) (.tuple #[.int .i64 ((t9 : Nat) : Int), .int .i64 ((j9 : Nat) : Int), .bool true]) (fun _ => rfl) rfl rfl ?_
        refine wl_un (fun v => Instr.extract v 0) (.tmp 25) (.tuple #[.int .i64 ((t9 : Nat) : Int), .int .i64 ((j9 : Nat) : Int), .bool true]) (.int .i64 ((t9 : Nat) : Int)) (fun _ => rfl) rfl (by kernel_rfl) rfl ?_
        refine wl_un (fun v => Instr.extract v 1) (.tmp 25) (.tuple #[.int .i64 ((t9 : Nat) : Int), .int .i64 ((j9 : Nat) : Int), .bool true]) (.int .i64 ((j9 : Nat) : Int)) (fun _ => rfl) rfl (by kernel_rfl) rfl ?_
        refine wl_un (fun v => Instr.extract v 2) (.tmp 25) (.tuple #[.int .i64 ((t9 : Nat) : Int), .int .i64 ((j9 : Nat) : Int), .bool true]) (.bool true) (fun _ => rfl) rfl (by kernel_rfl) rfl ?_
        refine wl_mv (.tmp 31) (.int .i64 ((t9 : Nat) : Int)) (fun _ => rfl) rfl rfl ?_
        refine wl_mv (.tmp 32) (.int .i64 ((j9 : Nat) : Int)) (fun _ => rfl) rfl rfl ?_
        refine wl_mv (.tmp 33) (.bool true) (fun _ => rfl) rfl rfl ?_
        refine w_nil ?_
        refine xn_then ?_
        refine w_seq ?_
        refine w_reg ?_
        refine wl_mv (.tmp 11) (.bool true) (fun _ => rfl) rfl rfl ?_
        refine w_nil ?_
        refine xn_then ?_
        refine w_condT rfl ?_
        refine w_seq ?_
        refine w_reg ?_
        refine wl_mv (.tmp 0) (.slice pl l.length cl) (fun _ => rfl) rfl rfl ?_
        refine wl_mv (.tmp 9) (.int .i64 ((t9 : Nat) : Int)) (fun _ => rfl) rfl rfl ?_
        refine wl_mv (.tmp 10) (.int .i64 ((j9 : Nat) : Int)) (fun _ => rfl) rfl rfl ?_
        refine wl_callx 11 [(.tmp 36), (.tmp 37), (.tmp 38)] _ [.slice pl l.length cl, .int .i64 ((t9 : Nat) : Int), .int .i64 ((j9 : Nat) : Int)] rfl rfl (fun _ _ => by kernel_rfl) ((num11_n (hL.kp (hK.trans M.kp)) hz hzI hy9 hj9)) rfl ?_
        rintro e9 u3 ⟨rfl, hq⟩
        refine ⟨_, rfl, ?_⟩
        replace Q1 := Q1.mo hq
        replace M := M.trans hq
        clear hq
        refine wl_mv (.tmp 39) (.tuple #[.int .i64 ((fsn l t9 + j9 : Nat) : Int), .bool true]) (fun _ => rfl) rfl rfl ?_
        refine wl_un (fun v => Instr.extract v 0) (.tmp 35) (.tuple #[.int .i64 ((fsn l t9 + j9 : Nat) : Int), .bool true]) (.int .i64 ((fsn l t9 + j9 : Nat) : Int)) (fun _ => rfl) rfl (by kernel_rfl) rfl ?_
        refine wl_un (fun v => Instr.extract v 1) (.tmp 35) (.tuple #[.int .i64 ((fsn l t9 + j9 : Nat) : Int), .bool true]) (.bool true) (fun _ => rfl) rfl (by kernel_rfl) rfl ?_
        refine wl_mv (.tmp 40) (.int .i64 ((fsn l t9 + j9 : Nat) : Int)) (fun _ => rfl) rfl rfl ?_
        refine wl_mv (.tmp 41) (.bool true) (fun _ => rfl) rfl rfl ?_
        refine w_nil ?_
        refine xn_then ?_
        refine w_reg ?_
        refine wl_mv (.tmp 3) (.slice pv L.length cv) (fun _ => rfl) rfl rfl ?_
        refine wl_mv (.tmp 12) (.int .i64 ((fsn l t9 + j9 : Nat) : Int)) (fun _ => rfl) rfl rfl ?_
        refine wl_callx 62 [(.tmp 42), (.tmp 43)] _ [.slice pv L.length cv, .int .i64 ((fsn l t9 + j9 : Nat) : Int)] rfl rfl (fun _ _ => by kernel_rfl) ((put62_n (hR.mo M).li hR.cp (by have := hR.len; omega) hR.up (fsn l t9 + j9))) rfl ?_
        rintro e9 u4 ⟨L2, p2, c2, rfl, hp1, hp2, hp3, hp4, hq⟩
        refine ⟨_, rfl, ?_⟩
        have hR2 := hR.put hnl hp1 hp2 hp3 hp4
        clear hp1 hp2 hp3
        replace Q1 := Q1.mo hq
        replace M := M.trans hq
        clear hq
        refine wl_mv (.tmp 44) (.slice p2 L2.length c2) (fun _ => rfl) rfl rfl ?_
        refine w_nil ?_
        refine xn_blk ?_
        exact xn_cut ⟨L2, p2, c2, rfl, rfl, rfl, rfl, hR2, (fun k => by rw [hrd]; simpa using hp4 k), Q1, M⟩
    | false =>
      have hf0p := of_decide_eq_false hf0
      refine wl_bin (fun x y => do eqGuard .eql 3 (.tmp 23) (.const (.int .i64 (2))) x y; binOp .eql 3 x y) (.tmp 23) (.const (.int .i64 (2))) (.int .i64 (x.k)) (.int .i64 (2)) (.bool false) (fun _ => rfl) rfl rfl (eq3 hf0 _ _ _) rfl ?_
      refine wl_mv (.tmp 24) (.bool false) (fun _ => rfl) rfl rfl ?_
      refine w_nil ?_
      refine xn_then ?_
      refine w_condF rfl ?_
      refine w_seq ?_
      refine w_reg ?_
      refine wl_un (fun v => Instr.fieldAt 67 v 0) (.tmp 6) (pt k1 0) (pt k1 0) (fun _ => rfl) rfl (by kernel_rfl) rfl ?_
      refine wl_load 3 (.tmp 46) (pt k1 0) (.int .i64 (x.k)) rfl rfl (run_one Q1 3 0 rfl Try.underlying3 rfl) rfl ?_
      cases hf1 : decide (x.k = 10) with
      | true =>
        have hf1p := of_decide_eq_true hf1
        refine wl_bin (fun x y => do eqGuard .eql 3 (.tmp 47) (.const (.int .i64 (10))) x y; binOp .eql 3 x y) (.tmp 47) (.const (.int .i64 (10))) (.int .i64 (x.k)) (.int .i64 (10)) (.bool true) (fun _ => rfl) rfl rfl (eq3 hf1 _ _ _) rfl ?_
        refine wl_mv (.tmp 48) (.bool true) (fun _ => rfl) rfl rfl ?_
        refine wl_un (fun v => Instr.fieldAt 67 v 1) (.tmp 6) (pt k1 0) (pt k1 1) (fun _ => rfl) rfl (by kernel_rfl) rfl ?_
        refine wl_load 3 (.tmp 50) (pt k1 1) (.int .i64 (x.op)) rfl rfl (run_one Q1 3 1 rfl Try.underlying3 rfl) rfl ?_
        cases hf2 : decide (x.op = 16) with
        | true =>
          have hf2p := of_decide_eq_true hf2
          refine wl_bin (fun x y => do eqGuard .neq 3 (.tmp 51) (.const (.int .i64 (16))) x y; binOp .neq 3 x y) (.tmp 51) (.const (.int .i64 (16))) (.int .i64 (x.op)) (.int .i64 (16)) (.bool false) (fun _ => rfl) rfl rfl (ne3 hf2 _ _ _) rfl ?_
          refine wl_pick (.tmp 49) (.tmp 52) (.const (.bool false)) true (.bool false) (fun _ => rfl) rfl rfl rfl ?_
          refine wl_mv (.tmp 53) (.bool false) (fun _ => rfl) rfl rfl ?_
          refine w_nil ?_
          refine xn_then ?_
          refine w_condF rfl ?_
          refine w_skip ?_
          refine xn_blk ?_
          have hrd : rdN l ((s : Nat) : Int) (FM l ((s : Nat) : Int)) x = [] := rdN_else hf0 (Or.inr hf2)
          exact xn_cut ⟨L, pv, cv, rfl, rfl, rfl, rfl, (hR.mo M), (fun k => by rw [hrd]; simp), Q1, M⟩
        | false =>
          have hf2p := of_decide_eq_false hf2
          refine wl_bin (fun x y => do eqGuard .neq 3 (.tmp 51) (.const (.int .i64 (16))) x y; binOp .neq 3 x y) (.tmp 51) (.const (.int .i64 (16))) (.int .i64 (x.op)) (.int .i64 (16)) (.bool true) (fun _ => rfl) rfl rfl (ne3 hf2 _ _ _) rfl ?_
          refine wl_pick (.tmp 49) (.tmp 52) (.const (.bool false)) true (.bool true) (fun _ => rfl) rfl rfl rfl ?_
          refine wl_mv (.tmp 53) (.bool true) (fun _ => rfl) rfl rfl ?_
          refine w_nil ?_
          refine xn_then ?_
          refine w_condT rfl ?_
          refine w_seq ?_
          cases ho : kidN l ((s : Nat) : Int) x.se with
          | none =>
            have hrd := rdN_kid0 hf1 hf2 ho
            refine w_reg ?_
            refine wl_mv (.tmp 0) (.slice pl l.length cl) (fun _ => rfl) rfl rfl ?_
            refine wl_mv (.tmp 1) (.int .i64 ((s : Nat) : Int)) (fun _ => rfl) rfl rfl ?_
            refine wl_un (fun v => Instr.fieldAt 67 v 3) (.tmp 6) (pt k1 0) (pt k1 3) (fun _ => rfl) rfl (by kernel_rfl) rfl ?_
            refine wl_load 9 (.tmp 57) (pt k1 3) (.string x.se) rfl rfl (run_one Q1 9 3 rfl Try.underlying9 rfl) rfl ?_
            refine wl_callx 63 [(.tmp 55), (.tmp 56), (.tmp 58)] _ [.slice pl l.length cl, .int .i64 ((s : Nat) : Int), .string x.se] rfl rfl (fun _ _ => by kernel_rfl) ((kid63_n (hL.kp (hK.trans M.kp)) hz hs x.se)) rfl ?_
            rintro e9 u2 ⟨rfl, hq⟩
            refine ⟨_, rfl, ?_⟩
            rw [ho]
            replace Q1 := Q1.mo hq
            replace M := M.trans hq
            clear hq
            refine wl_mv (.tmp 59) (.tuple #[.int .i64 (0), .bool false]) (fun _ => rfl) rfl rfl ?_
            refine wl_un (fun v => Instr.extract v 0) (.tmp 54) (.tuple #[.int .i64 (0), .bool false]) (.int .i64 (0)) (fun _ => rfl) rfl (by kernel_rfl) rfl ?_
            refine wl_un (fun v => Instr.extract v 1) (.tmp 54) (.tuple #[.int .i64 (0), .bool false]) (.bool false) (fun _ => rfl) rfl (by kernel_rfl) rfl ?_
            refine wl_mv (.tmp 60) (.int .i64 (0)) (fun _ => rfl) rfl rfl ?_
            refine wl_mv (.tmp 61) (.bool false) (fun _ => rfl) rfl rfl ?_
            refine w_nil ?_
            refine xn_then ?_
            refine w_seq ?_
            refine w_reg ?_
            refine wl_mv (.tmp 15) (.bool false) (fun _ => rfl) rfl rfl ?_
            refine w_nil ?_
            refine xn_then ?_
            refine w_condF rfl ?_
            refine w_skip ?_
            refine xn_blk ?_
            exact xn_cut ⟨L, pv, cv, rfl, rfl, rfl, rfl, (hR.mo M), (fun k => by rw [hrd]; simp), Q1, M⟩
          | some kd =>
            have hkl := kidN_lt ho
            obtain ⟨y9, hy9⟩ := get_of_lt hkl
            have hym := List.mem_of_getElem? hy9
            have hLi := (hLx y9 hym).it
            have hz8 := hLi.1
            unfold maxLen at hz8
            refine w_reg ?_
            refine wl_mv (.tmp 0) (.slice pl l.length cl) (fun _ => rfl) rfl rfl ?_
            refine wl_mv (.tmp 1) (.int .i64 ((s : Nat) : Int)) (fun _ => rfl) rfl rfl ?_
            refine wl_un (fun v => Instr.fieldAt 67 v 3) (.tmp 6) (pt k1 0) (pt k1 3) (fun _ => rfl) rfl (by kernel_rfl) rfl ?_
            refine wl_load 9 (.tmp 57) (pt k1 3) (.string x.se) rfl rfl (run_one Q1 9 3 rfl Try.underlying9 rfl) rfl ?_
            refine wl_callx 63 [(.tmp 55), (.tmp 56), (.tmp 58)] _ [.slice pl l.length cl, .int .i64 ((s : Nat) : Int), .string x.se] rfl rfl (fun _ _ => by kernel_rfl) ((kid63_n (hL.kp (hK.trans M.kp)) hz hs x.se)) rfl ?_
            rintro e9 u2 ⟨rfl, hq⟩
            refine ⟨_, rfl, ?_⟩
            rw [ho]
            replace Q1 := Q1.mo hq
            replace M := M.trans hq
            clear hq
            refine wl_mv (.tmp 59) (.tuple #[.int .i64 ((kd : Nat) : Int), .bool true]) (fun _ => rfl) rfl rfl ?_
            refine wl_un (fun v => Instr.extract v 0) (.tmp 54) (.tuple #[.int .i64 ((kd : Nat) : Int), .bool true]) (.int .i64 ((kd : Nat) : Int)) (fun _ => rfl) rfl (by kernel_rfl) rfl ?_
            refine wl_un (fun v => Instr.extract v 1) (.tmp 54) (.tuple #[.int .i64 ((kd : Nat) : Int), .bool true]) (.bool true) (fun _ => rfl) rfl (by kernel_rfl) rfl ?_
            refine wl_mv (.tmp 60) (.int .i64 ((kd : Nat) : Int)) (fun _ => rfl) rfl rfl ?_
            refine wl_mv (.tmp 61) (.bool true) (fun _ => rfl) rfl rfl ?_
            refine w_nil ?_
            refine xn_then ?_
            refine w_seq ?_
            refine w_reg ?_
            refine wl_mv (.tmp 15) (.bool true) (fun _ => rfl) rfl rfl ?_
            refine w_nil ?_
            refine xn_then ?_
            refine w_condT rfl ?_
            refine w_seq ?_
            refine w_reg ?_
            refine wl_mv (.const (.int .i64 (0))) (.int .i64 (0)) (fun _ => rfl) rfl rfl ?_
            refine w_nil ?_
            refine xn_then ?_
            refine w_block ?_
            refine w_loop (fun m lf w1 => ∃ i : Nat, m = y9.items.length - i ∧ look lf 0 = .slice pl l.length cl ∧ look lf 1 = .int .i64 ((s : Nat) : Int) ∧ look lf 3 = .slice pv L.length cv ∧ look lf 6 = pt k1 0 ∧ look lf 14 = .int .i64 ((kd : Nat) : Int) ∧ look lf 16 = .int .i64 ((i : Nat) : Int) ∧ (i ≤ y9.items.length) ∧ (∀ z ∈ y9.items.take i, (rdb z.k && decide (z.nm = x.nm)) = false) ∧ (At w1 k1 (x.cells)) ∧ (Mo w w1)) _ ⟨0, rfl, rfl, rfl, rfl, rfl, rfl, rfl, Nat.zero_le _, (fun z hz => by simp at hz), Q1, M⟩ ?_
            clear Q1 M
            rintro m lf40 wl40 ⟨i, rfl, e40_0, e40_1, e40_3, e40_6, e40_14, e40_16, hi, hno, Q1, M⟩
            have hLw := hL.kp hK
            have hIw := hLi.kp hK
            obtain ⟨bp, op, hpp, hRp⟩ := D.SL.rw hLw hy9
            cases hd : decide (i < y9.items.length) with
            | true =>
              have hil := of_decide_eq_true hd
              obtain ⟨z9, hz9i⟩ := get_of_lt hil
              obtain ⟨bq, oq, hpq, hRq⟩ := D.SL.rw hIw hz9i
              refine w_seq ?_
              refine w_seq ?_
              refine w_reg ?_
              refine wl_mv (.tmp 16) (.int .i64 ((i : Nat) : Int)) (fun _ => rfl) e40_16 rfl ?_
              refine wl_mv (.tmp 0) (.slice pl l.length cl) (fun _ => rfl) e40_0 rfl ?_
              refine wl_mv (.tmp 14) (.int .i64 ((kd : Nat) : Int)) (fun _ => rfl) e40_14 rfl ?_
              refine wl_bin (fun x y => Instr.indexAt 22 x y) (.tmp 64) (.tmp 65) (.slice pl l.length cl) (.int .i64 ((kd : Nat) : Int)) (pt bp (op + kd * 5)) (fun _ => rfl) rfl rfl (ix22 (i := kd) hpp hkl _) rfl ?_
              refine wl_un (fun v => Instr.fieldAt 55 v 4) (.tmp 66) (pt bp (op + kd * 5)) (pt bp (op + kd * 5 + 4)) (fun _ => rfl) rfl (by kernel_rfl) rfl ?_
              refine wl_load 39 (.tmp 67) (pt bp (op + kd * 5 + 4)) (.slice y9.pi y9.items.length y9.ci) rfl rfl (D.run_oneR (hRp.mo M).at' 39 4 rfl Try.underlying39 rfl) rfl ?_
              refine wl_val (.int .i64 ((y9.items.length : Nat) : Int)) (len39 _ _ _ _ _ (by exact rfl) _ _ _ _ _ _) rfl ?_
              refine wl_bin (fun x y => do eqGuard .lss 3 (.tmp 63) (.tmp 69) x y; binOp .lss 3 x y) (.tmp 63) (.tmp 69) (.int .i64 ((i : Nat) : Int)) (.int .i64 ((y9.items.length : Nat) : Int)) (.bool true) (fun _ => rfl) rfl rfl (ltN hd _ _ _) rfl ?_
              refine w_nil ?_
              refine xn_then ?_
              refine w_condT rfl ?_
              refine w_skip ?_
              refine xn_then ?_
              refine w_seq ?_
              refine w_block ?_
              refine w_seq ?_
              refine w_reg ?_
              refine wl_mv (.tmp 0) (.slice pl l.length cl) (fun _ => rfl) e40_0 rfl ?_
              refine wl_mv (.tmp 14) (.int .i64 ((kd : Nat) : Int)) (fun _ => rfl) e40_14 rfl ?_
              refine wl_bin (fun x y => Instr.indexAt 22 x y) (.tmp 73) (.tmp 74) (.slice pl l.length cl) (.int .i64 ((kd : Nat) : Int)) (pt bp (op + kd * 5)) (fun _ => rfl) rfl rfl (ix22 (i := kd) hpp hkl _) rfl ?_
              refine wl_un (fun v => Instr.fieldAt 55 v 4) (.tmp 75) (pt bp (op + kd * 5)) (pt bp (op + kd * 5 + 4)) (fun _ => rfl) rfl (by kernel_rfl) rfl ?_
              refine wl_load 39 (.tmp 76) (pt bp (op + kd * 5 + 4)) (.slice y9.pi y9.items.length y9.ci) rfl rfl (D.run_oneR (hRp.mo M).at' 39 4 rfl Try.underlying39 rfl) rfl ?_
              refine wl_mv (.tmp 16) (.int .i64 ((i : Nat) : Int)) (fun _ => rfl) e40_16 rfl ?_
              refine wl_bin (fun x y => Instr.indexAt 39 x y) (.tmp 77) (.tmp 78) (.slice y9.pi y9.items.length y9.ci) (.int .i64 ((i : Nat) : Int)) (pt bq (oq + i * 23)) (fun _ => rfl) rfl rfl (ix39 (i := i) hpq hil _) rfl ?_
              refine wl_load 69 (.tmp 79) (pt bq (oq + i * 23)) (.agg (z9.cells).toArray) rfl rfl (D.run_partR (hRq.mo M).at' 69 0 23 (z9.cells) rfl Try.underlying69 rfl sz69) rfl ?_
              refine wl_alloc 69 #[.string ⟨#[]⟩, .int .i64 0, .int .i64 0, .int .i64 0, .bool false, .int .i64 0, .int .i64 0, .int .i64 0, .string ⟨#[]⟩, .string ⟨#[]⟩, .int .i64 0, .bool false, .int .u64 0, .int .u64 0, .int .u64 0, .int .u64 0, .int .i64 0, .bool false, .string ⟨#[]⟩, .int .i64 0, .int .i64 0, .int .i64 0, .slice none 0 0] rfl (fun _ => by kernel_rfl) rfl ?_
              intro k2 u41 hk hz hq Q2
              have ne_k1_k2 : k1 ≠ k2 := by have := Q1.lt; omega
              have N_k2 : w.heap.size ≤ k2 := by have := M.size; omega
              replace Q1 := Q1.mo hq
              replace M := M.trans hq
              clear hk hz hq
              refine wl_st 69 (.tmp 17) (.tmp 80) k2 0 ((z9.cells).toArray) [.string ⟨#[]⟩, .int .i64 0, .int .i64 0, .int .i64 0, .bool false, .int .i64 0, .int .i64 0, .int .i64 0, .string ⟨#[]⟩, .string ⟨#[]⟩, .int .i64 0, .bool false, .int .u64 0, .int .u64 0, .int .u64 0, .int .u64 0, .int .i64 0, .bool false, .string ⟨#[]⟩, .int .i64 0, .int .i64 0, .int .i64 0, .slice none 0 0] (z9.cells) Q2 rfl rfl rfl rfl rfl sz69 rfl rfl rfl ?_
              intro u42 hS Qn
              replace Q2 := Qn
              clear Qn
              replace Q1 := hS.other _ _ ne_k1_k2 Q1
              replace M := hS.mo _ N_k2 M
              clear hS
              refine w_nil ?_
              refine xn_then ?_
              refine w_seq ?_
              refine w_reg ?_
              refine wl_un (fun v => Instr.fieldAt 69 v 0) (.tmp 17) (pt k2 0) (pt k2 0) (fun _ => rfl) rfl (by kernel_rfl) rfl ?_
              refine wl_load 9 (.tmp 81) (pt k2 0) (.string z9.nm) rfl rfl (run_one Q2 9 0 rfl Try.underlying9 rfl) rfl ?_
              refine wl_un (fun v => Instr.fieldAt 67 v 2) (.tmp 6) (pt k1 0) (pt k1 2) (fun _ => rfl) e40_6 (by kernel_rfl) rfl ?_
              refine wl_load 9 (.tmp 83) (pt k1 2) (.string x.nm) rfl rfl (run_one Q1 9 2 rfl Try.underlying9 rfl) rfl ?_
              cases hf30 : decide (z9.nm = x.nm) with
              | true =>
                have hf30p := of_decide_eq_true hf30
                refine wl_bin (fun x y => do eqGuard .eql 9 (.tmp 82) (.tmp 84) x y; binOp .eql 9 x y) (.tmp 82) (.tmp 84) (.string z9.nm) (.string x.nm) (.bool true) (fun _ => rfl) rfl rfl (s9 hf30 _ _ _) rfl ?_
                refine wl_mv (.tmp 85) (.bool true) (fun _ => rfl) rfl rfl ?_
                refine wl_un (fun v => Instr.fieldAt 69 v 1) (.tmp 17) (pt k2 0) (pt k2 1) (fun _ => rfl) rfl (by kernel_rfl) rfl ?_
                refine wl_load 3 (.tmp 87) (pt k2 1) (.int .i64 (z9.k)) rfl rfl (run_one Q2 3 1 rfl Try.underlying3 rfl) rfl ?_
                cases hf31 : decide (z9.k = 1) with
                | true =>
                  have hf31p := of_decide_eq_true hf31
                  refine wl_bin (fun x y => do eqGuard .eql 3 (.tmp 88) (.const (.int .i64 (1))) x y; binOp .eql 3 x y) (.tmp 88) (.const (.int .i64 (1))) (.int .i64 (z9.k)) (.int .i64 (1)) (.bool true) (fun _ => rfl) rfl rfl (eq3 hf31 _ _ _) rfl ?_
                  refine wl_mv (.tmp 89) (.bool true) (fun _ => rfl) rfl rfl ?_
                  refine wl_skip rfl ?_
                  refine wl_skip rfl ?_
                  refine wl_skip rfl ?_
                  refine wl_pick (.tmp 90) (.const (.bool true)) (.tmp 93) true (.bool true) (fun _ => rfl) rfl rfl rfl ?_
                  refine wl_pick (.tmp 86) (.tmp 94) (.const (.bool false)) true (.bool true) (fun _ => rfl) rfl rfl rfl ?_
                  refine w_nil ?_
                  refine xn_then ?_
                  refine w_condT rfl ?_
                  refine w_seq ?_
                  refine w_reg ?_
                  refine wl_mv (.tmp 0) (.slice pl l.length cl) (fun _ => rfl) e40_0 rfl ?_
                  refine wl_mv (.tmp 14) (.int .i64 ((kd : Nat) : Int)) (fun _ => rfl) e40_14 rfl ?_
                  refine wl_mv (.tmp 16) (.int .i64 ((i : Nat) : Int)) (fun _ => rfl) e40_16 rfl ?_
                  have hrd := rdN_col hf1 hf2 ho hy9 (own_some hz9i (by simp [rdb, hf30, hf31]) hno)
                  have hnl : fsn l kd + i < nI l := fsn_lt hy9 hil
                  refine wl_callx 11 [(.tmp 97), (.tmp 98), (.tmp 99)] _ [.slice pl l.length cl, .int .i64 ((kd : Nat) : Int), .int .i64 ((i : Nat) : Int)] rfl rfl (fun _ _ => by kernel_rfl) ((num11_n (hL.kp (hK.trans M.kp)) hz hzI hy9 hil)) rfl ?_
                  rintro e9 u43 ⟨rfl, hq⟩
                  refine ⟨_, rfl, ?_⟩
                  replace Q1 := Q1.mo hq
                  replace Q2 := Q2.mo hq
                  replace M := M.trans hq
                  clear hq
                  refine wl_mv (.tmp 100) (.tuple #[.int .i64 ((fsn l kd + i : Nat) : Int), .bool true]) (fun _ => rfl) rfl rfl ?_
                  refine wl_un (fun v => Instr.extract v 0) (.tmp 96) (.tuple #[.int .i64 ((fsn l kd + i : Nat) : Int), .bool true]) (.int .i64 ((fsn l kd + i : Nat) : Int)) (fun _ => rfl) rfl (by kernel_rfl) rfl ?_
                  refine wl_un (fun v => Instr.extract v 1) (.tmp 96) (.tuple #[.int .i64 ((fsn l kd + i : Nat) : Int), .bool true]) (.bool true) (fun _ => rfl) rfl (by kernel_rfl) rfl ?_
                  refine wl_mv (.tmp 101) (.int .i64 ((fsn l kd + i : Nat) : Int)) (fun _ => rfl) rfl rfl ?_
                  refine wl_mv (.tmp 102) (.bool true) (fun _ => rfl) rfl rfl ?_
                  refine w_nil ?_
                  refine xn_then ?_
                  refine w_seq ?_
                  refine w_reg ?_
                  refine wl_mv (.tmp 3) (.slice pv L.length cv) (fun _ => rfl) e40_3 rfl ?_
                  refine wl_mv (.tmp 18) (.int .i64 ((fsn l kd + i : Nat) : Int)) (fun _ => rfl) rfl rfl ?_
                  refine wl_callx 62 [(.tmp 103), (.tmp 104)] _ [.slice pv L.length cv, .int .i64 ((fsn l kd + i : Nat) : Int)] rfl rfl (fun _ _ => by kernel_rfl) ((put62_n (hR.mo M).li hR.cp (by have := hR.len; omega) hR.up (fsn l kd + i))) rfl ?_
                  rintro e9 u44 ⟨L2, p2, c2, rfl, hp1, hp2, hp3, hp4, hq⟩
                  refine ⟨_, rfl, ?_⟩
                  have hR2 := hR.put hnl hp1 hp2 hp3 hp4
                  clear hp1 hp2 hp3
                  replace Q1 := Q1.mo hq
                  replace Q2 := Q2.mo hq
                  replace M := M.trans hq
                  clear hq
                  refine wl_mv (.tmp 105) (.slice p2 L2.length c2) (fun _ => rfl) rfl rfl ?_
                  refine w_nil ?_
                  refine xn_then ?_
                  refine w_exit ?_
                  refine xx_out rfl ?_
                  refine xx_then ?_
                  refine xx_then ?_
                  refine xx_blk ?_
                  refine xn_blk ?_
                  exact xn_cut ⟨L2, p2, c2, e40_0, e40_1, rfl, e40_6, hR2, (fun k => by rw [hrd]; simpa using hp4 k), Q1, M⟩
                | false =>
                  have hf31p := of_decide_eq_false hf31
                  refine wl_bin (fun x y => do eqGuard .eql 3 (.tmp 88) (.const (.int .i64 (1))) x y; binOp .eql 3 x y) (.tmp 88) (.const (.int .i64 (1))) (.int .i64 (z9.k)) (.int .i64 (1)) (.bool false) (fun _ => rfl) rfl rfl (eq3 hf31 _ _ _) rfl ?_
                  refine wl_mv (.tmp 89) (.bool false) (fun _ => rfl) rfl rfl ?_
                  refine wl_un (fun v => Instr.fieldAt 69 v 1) (.tmp 17) (pt k2 0) (pt k2 1) (fun _ => rfl) rfl (by kernel_rfl) rfl ?_
                  refine wl_load 3 (.tmp 91) (pt k2 1) (.int .i64 (z9.k)) rfl rfl (run_one Q2 3 1 rfl Try.underlying3 rfl) rfl ?_
                  cases hf32 : decide (z9.k = 2) with
                  | true =>
                    have hf32p := of_decide_eq_true hf32
                    refine wl_bin (fun x y => do eqGuard .eql 3 (.tmp 92) (.const (.int .i64 (2))) x y; binOp .eql 3 x y) (.tmp 92) (.const (.int .i64 (2))) (.int .i64 (z9.k)) (.int .i64 (2)) (.bool true) (fun _ => rfl) rfl rfl (eq3 hf32 _ _ _) rfl ?_
                    refine wl_pick (.tmp 90) (.const (.bool true)) (.tmp 93) false (.bool true) (fun _ => rfl) rfl rfl rfl ?_
                    refine wl_pick (.tmp 86) (.tmp 94) (.const (.bool false)) true (.bool true) (fun _ => rfl) rfl rfl rfl ?_
                    refine w_nil ?_
                    refine xn_then ?_
                    refine w_condT rfl ?_
                    refine w_seq ?_
                    refine w_reg ?_
                    refine wl_mv (.tmp 0) (.slice pl l.length cl) (fun _ => rfl) e40_0 rfl ?_
                    refine wl_mv (.tmp 14) (.int .i64 ((kd : Nat) : Int)) (fun _ => rfl) e40_14 rfl ?_
                    refine wl_mv (.tmp 16) (.int .i64 ((i : Nat) : Int)) (fun _ => rfl) e40_16 rfl ?_
                    have hrd := rdN_col hf1 hf2 ho hy9 (own_some hz9i (by simp [rdb, hf30, hf31, hf32]) hno)
                    have hnl : fsn l kd + i < nI l := fsn_lt hy9 hil
                    refine wl_callx 11 [(.tmp 97), (.tmp 98), (.tmp 99)] _ [.slice pl l.length cl, .int .i64 ((kd : Nat) : Int), .int .i64 ((i : Nat) : Int)] rfl rfl (fun _ _ => by kernel_rfl) ((num11_n (hL.kp (hK.trans M.kp)) hz hzI hy9 hil)) rfl ?_
                    rintro e9 u43 ⟨rfl, hq⟩
                    refine ⟨_, rfl, ?_⟩
                    replace Q1 := Q1.mo hq
                    replace Q2 := Q2.mo hq
                    replace M := M.trans hq
                    clear hq
                    refine wl_mv (.tmp 100) (.tuple #[.int .i64 ((fsn l kd + i : Nat) : Int), .bool true]) (fun _ => rfl) rfl rfl ?_
                    refine wl_un (fun v => Instr.extract v 0) (.tmp 96) (.tuple #[.int .i64 ((fsn l kd + i : Nat) : Int), .bool true]) (.int .i64 ((fsn l kd + i : Nat) : Int)) (fun _ => rfl) rfl (by kernel_rfl) rfl ?_
                    refine wl_un (fun v => Instr.extract v 1) (.tmp 96) (.tuple #[.int .i64 ((fsn l kd + i : Nat) : Int), .bool true]) (.bool true) (fun _ => rfl) rfl (by kernel_rfl) rfl ?_
                    refine wl_mv (.tmp 101) (.int .i64 ((fsn l kd + i : Nat) : Int)) (fun _ => rfl) rfl rfl ?_
                    refine wl_mv (.tmp 102) (.bool true) (fun _ => rfl) rfl rfl ?_
                    refine w_nil ?_
                    refine xn_then ?_
                    refine w_seq ?_
                    refine w_reg ?_
                    refine wl_mv (.tmp 3) (.slice pv L.length cv) (fun _ => rfl) e40_3 rfl ?_
                    refine wl_mv (.tmp 18) (.int .i64 ((fsn l kd + i : Nat) : Int)) (fun _ => rfl) rfl rfl ?_
                    refine wl_callx 62 [(.tmp 103), (.tmp 104)] _ [.slice pv L.length cv, .int .i64 ((fsn l kd + i : Nat) : Int)] rfl rfl (fun _ _ => by kernel_rfl) ((put62_n (hR.mo M).li hR.cp (by have := hR.len; omega) hR.up (fsn l kd + i))) rfl ?_
                    rintro e9 u44 ⟨L2, p2, c2, rfl, hp1, hp2, hp3, hp4, hq⟩
                    refine ⟨_, rfl, ?_⟩
                    have hR2 := hR.put hnl hp1 hp2 hp3 hp4
                    clear hp1 hp2 hp3
                    replace Q1 := Q1.mo hq
                    replace Q2 := Q2.mo hq
                    replace M := M.trans hq
                    clear hq
                    refine wl_mv (.tmp 105) (.slice p2 L2.length c2) (fun _ => rfl) rfl rfl ?_
                    refine w_nil ?_
                    refine xn_then ?_
                    refine w_exit ?_
                    refine xx_out rfl ?_
                    refine xx_then ?_
                    refine xx_then ?_
                    refine xx_blk ?_
                    refine xn_blk ?_
                    exact xn_cut ⟨L2, p2, c2, e40_0, e40_1, rfl, e40_6, hR2, (fun k => by rw [hrd]; simpa using hp4 k), Q1, M⟩
                  | false =>
                    have hf32p := of_decide_eq_false hf32
                    refine wl_bin (fun x y => do eqGuard .eql 3 (.tmp 92) (.const (.int .i64 (2))) x y; binOp .eql 3 x y) (.tmp 92) (.const (.int .i64 (2))) (.int .i64 (z9.k)) (.int .i64 (2)) (.bool false) (fun _ => rfl) rfl rfl (eq3 hf32 _ _ _) rfl ?_
                    refine wl_pick (.tmp 90) (.const (.bool true)) (.tmp 93) false (.bool false) (fun _ => rfl) rfl rfl rfl ?_
                    refine wl_pick (.tmp 86) (.tmp 94) (.const (.bool false)) true (.bool false) (fun _ => rfl) rfl rfl rfl ?_
                    refine w_nil ?_
                    refine xn_then ?_
                    refine w_condF rfl ?_
                    refine w_skip ?_
                    refine xn_blk ?_
                    refine xn_then ?_
                    refine w_reg ?_
                    refine wl_mv (.tmp 16) (.int .i64 ((i : Nat) : Int)) (fun _ => rfl) e40_16 rfl ?_
                    refine wl_bin (fun x y => do eqGuard .add 3 (.tmp 71) (.const (.int .i64 (1))) x y; binOp .add 3 x y) (.tmp 71) (.const (.int .i64 (1))) (.int .i64 ((i : Nat) : Int)) (.int .i64 (1)) (.int .i64 ((i + 1 : Nat) : Int)) (fun _ => rfl) rfl rfl (add1r (k := i) (by omega) _ _ _) rfl ?_
                    refine wl_mv (.tmp 72) (.int .i64 ((i + 1 : Nat) : Int)) (fun _ => rfl) rfl rfl ?_
                    refine w_nil ?_
                    exact xn_loop (y9.items.length - (i + 1)) (by omega) ⟨i + 1, rfl, e40_0, e40_1, e40_3, e40_6, e40_14, rfl, by omega, (fun z hz => by rw [List.take_add_one, hz9i] at hz; rcases List.mem_append.1 hz with q | q; exact hno z q; (simp at q; subst q; simp [rdb, hf30, hf31, hf32])), Q1, M⟩
              | false =>
                have hf30p := of_decide_eq_false hf30
                refine wl_bin (fun x y => do eqGuard .eql 9 (.tmp 82) (.tmp 84) x y; binOp .eql 9 x y) (.tmp 82) (.tmp 84) (.string z9.nm) (.string x.nm) (.bool false) (fun _ => rfl) rfl rfl (s9 hf30 _ _ _) rfl ?_
                refine wl_mv (.tmp 85) (.bool false) (fun _ => rfl) rfl rfl ?_
                refine wl_skip rfl ?_
                refine wl_skip rfl ?_
                refine wl_skip rfl ?_
                refine wl_skip rfl ?_
                refine wl_skip rfl ?_
                refine wl_skip rfl ?_
                refine wl_skip rfl ?_
                refine wl_skip rfl ?_
                refine wl_pick (.tmp 86) (.tmp 94) (.const (.bool false)) false (.bool false) (fun _ => rfl) rfl rfl rfl ?_
                refine w_nil ?_
                refine xn_then ?_
                refine w_condF rfl ?_
                refine w_skip ?_
                refine xn_blk ?_
                refine xn_then ?_
                refine w_reg ?_
                refine wl_mv (.tmp 16) (.int .i64 ((i : Nat) : Int)) (fun _ => rfl) e40_16 rfl ?_
                refine wl_bin (fun x y => do eqGuard .add 3 (.tmp 71) (.const (.int .i64 (1))) x y; binOp .add 3 x y) (.tmp 71) (.const (.int .i64 (1))) (.int .i64 ((i : Nat) : Int)) (.int .i64 (1)) (.int .i64 ((i + 1 : Nat) : Int)) (fun _ => rfl) rfl rfl (add1r (k := i) (by omega) _ _ _) rfl ?_
                refine wl_mv (.tmp 72) (.int .i64 ((i + 1 : Nat) : Int)) (fun _ => rfl) rfl rfl ?_
                refine w_nil ?_
                exact xn_loop (y9.items.length - (i + 1)) (by omega) ⟨i + 1, rfl, e40_0, e40_1, e40_3, e40_6, e40_14, rfl, by omega, (fun z hz => by rw [List.take_add_one, hz9i] at hz; rcases List.mem_append.1 hz with q | q; exact hno z q; (simp at q; subst q; simp [rdb, hf30])), Q1, M⟩
            | false =>
              have hie : i = y9.items.length := by have := of_decide_eq_false hd; omega
              rw [hie, List.take_length] at hno
              have hrd := rdN_col0 hf1 hf2 ho hy9 (own_none hno)
              refine w_seq ?_
              refine w_seq ?_
              refine w_reg ?_
              refine wl_mv (.tmp 16) (.int .i64 ((i : Nat) : Int)) (fun _ => rfl) e40_16 rfl ?_
              refine wl_mv (.tmp 0) (.slice pl l.length cl) (fun _ => rfl) e40_0 rfl ?_
              refine wl_mv (.tmp 14) (.int .i64 ((kd : Nat) : Int)) (fun _ => rfl) e40_14 rfl ?_
              refine wl_bin (fun x y => Instr.indexAt 22 x y) (.tmp 64) (.tmp 65) (.slice pl l.length cl) (.int .i64 ((kd : Nat) : Int)) (pt bp (op + kd * 5)) (fun _ => rfl) rfl rfl (ix22 (i := kd) hpp hkl _) rfl ?_
              refine wl_un (fun v => Instr.fieldAt 55 v 4) (.tmp 66) (pt bp (op + kd * 5)) (pt bp (op + kd * 5 + 4)) (fun _ => rfl) rfl (by kernel_rfl) rfl ?_
              refine wl_load 39 (.tmp 67) (pt bp (op + kd * 5 + 4)) (.slice y9.pi y9.items.length y9.ci) rfl rfl (D.run_oneR (hRp.mo M).at' 39 4 rfl Try.underlying39 rfl) rfl ?_
              refine wl_val (.int .i64 ((y9.items.length : Nat) : Int)) (len39 _ _ _ _ _ (by exact rfl) _ _ _ _ _ _) rfl ?_
              refine wl_bin (fun x y => do eqGuard .lss 3 (.tmp 63) (.tmp 69) x y; binOp .lss 3 x y) (.tmp 63) (.tmp 69) (.int .i64 ((i : Nat) : Int)) (.int .i64 ((y9.items.length : Nat) : Int)) (.bool false) (fun _ => rfl) rfl rfl (ltN hd _ _ _) rfl ?_
              refine w_nil ?_
              refine xn_then ?_
              refine w_condF rfl ?_
              refine w_exit ?_
              refine xx_then ?_
              refine xx_then ?_
              refine xx_blk ?_
              refine xn_blk ?_
              exact xn_cut ⟨L, pv, cv, e40_0, e40_1, e40_3, e40_6, (hR.mo M), (fun k => by rw [hrd]; simp), Q1, M⟩
      | false =>
        have hf1p := of_decide_eq_false hf1
        refine wl_bin (fun x y => do eqGuard .eql 3 (.tmp 47) (.const (.int .i64 (10))) x y; binOp .eql 3 x y) (.tmp 47) (.const (.int .i64 (10))) (.int .i64 (x.k)) (.int .i64 (10)) (.bool false) (fun _ => rfl) rfl rfl (eq3 hf1 _ _ _) rfl ?_
        refine wl_mv (.tmp 48) (.bool false) (fun _ => rfl) rfl rfl ?_
        refine wl_skip rfl ?_
        refine wl_skip rfl ?_
        refine wl_skip rfl ?_
        refine wl_pick (.tmp 49) (.tmp 52) (.const (.bool false)) false (.bool false) (fun _ => rfl) rfl rfl rfl ?_
        refine wl_mv (.tmp 53) (.bool false) (fun _ => rfl) rfl rfl ?_
        refine w_nil ?_
        refine xn_then ?_
        refine w_condF rfl ?_
        refine w_skip ?_
        refine xn_blk ?_
        have hrd : rdN l ((s : Nat) : Int) (FM l ((s : Nat) : Int)) x = [] := rdN_else hf0 (Or.inl hf1)
        exact xn_cut ⟨L, pv, cv, rfl, rfl, rfl, rfl, (hR.mo M), (fun k => by rw [hrd]; simp), Q1, M⟩
end Go.Proofs.Ythghblgbjgghcaa
namespace Go.Proofs.Ythghblgbjgghcaa
open Go.RowKit D
theorem nat_ext : ∀ (xs ys : List Nat), xs.Pairwise (· < ·) → ys.Pairwise (· < ·) → (∀ x, x ∈ xs ↔ x ∈ ys) → xs = ys := fun xs ys hx hy h => by
  have e := incr_ext (xs.map (fun k : Nat => (k : Int))) (ys.map (fun k : Nat => (k : Int))) (List.pairwise_map.2 (hx.imp (fun q => by omega))) (List.pairwise_map.2 (hy.imp (fun q => by omega))) (fun z => by simp only [List.mem_map, h])
  have := congrArg (List.map Int.toNat) e
  simpa [List.map_map, Function.comp_def] using this
theorem ris_one {L : List Nat} {n : Nat} {p : Nat → Bool} (h : L.Pairwise (· < ·)) (hm : ∀ k, k ∈ L ↔ k < n ∧ p k = true) : L = ris n p := nat_ext _ _ h (ris_up n p) (fun k => (hm k).trans mem_ris.symm)
theorem row_RA {l : List S5} {s j nn : Nat} {y : S5} {z : It} (hy : l[s]? = some y) (hz : y.items[j]? = some z) (hn : fsn l s + j = nn) : row (RA l) nn = rdI l s (FM l s) z := by
  subst hn; exact row_eq (RA_get (lt_of_get hy) (by rw [itn_eq hy]; exact hz))
theorem reads16_n {w : World} {l : List S5} {pl : Option Addr} {cl : Nat} (hL : SL w 5 S5.cells pl l) (hLx : ∀ x ∈ l, LS5 w x) (hz : l.length < 400000) (hzI : nI l < 400000) {m : Nat} (hm : m < nI l) : Calls Try.prog 16 #[.slice pl l.length cl, .int .i64 ((m : Nat) : Int)] w fun e w' => ∃ (pa : Option Addr) (cap : Nat), e = .returned (.slice pa (row (RA l) m).length cap) ∧ Li w' pa (row (RA l) m) ∧ Mo w w' := by
  refine w_enter 41 Try.func16 Try.ntmps16 rfl rfl ?_
  have M : Mo w w := Mo.refl _
  refine w_seq ?_
  refine w_reg ?_
  refine wl_mv (.const (.slice none 0 0)) (.slice none 0 0) (fun _ => rfl) rfl rfl ?_
  refine w_nil ?_
  refine xn_then ?_
  refine w_seq ?_
  refine w_reg ?_
  refine wl_mv (.tmp 0) (.slice pl l.length cl) (fun _ => rfl) rfl rfl ?_
  refine wl_mv (.tmp 1) (.int .i64 ((m : Nat) : Int)) (fun _ => rfl) rfl rfl ?_
  refine wl_callx 13 [(.tmp 9), (.tmp 10)] _ [.slice pl l.length cl, .int .i64 ((m : Nat) : Int)] rfl rfl (fun _ _ => by kernel_rfl) ((of13_n (hL.kp M.kp) hz hzI hm)) rfl ?_
  rintro e9 u1 ⟨s, j, y, z, rfl, hy, hzj, hfs, hq⟩
  refine ⟨_, rfl, ?_⟩
  have hsl := lt_of_get hy
  have hjl := lt_of_get hzj
  have hym := List.mem_of_getElem? hy
  have hzm := List.mem_of_getElem? hzj
  have hrow := row_RA hy hzj hfs
  have hLi := (hLx y hym).it
  replace M := M.trans hq
  clear hq
  obtain ⟨bp, op, hpp, hRp⟩ := D.SL.rw hL hy
  obtain ⟨bq, oq, hpq, hRq⟩ := D.SL.rw hLi hzj
  refine wl_mv (.tmp 11) (.tuple #[.int .i64 ((s : Nat) : Int), .int .i64 ((j : Nat) : Int), .bool true]) (fun _ => rfl) rfl rfl ?_
  refine wl_un (fun v => Instr.extract v 0) (.tmp 8) (.tuple #[.int .i64 ((s : Nat) : Int), .int .i64 ((j : Nat) : Int), .bool true]) (.int .i64 ((s : Nat) : Int)) (fun _ => rfl) rfl (by kernel_rfl) rfl ?_
  refine wl_un (fun v => Instr.extract v 1) (.tmp 8) (.tuple #[.int .i64 ((s : Nat) : Int), .int .i64 ((j : Nat) : Int), .bool true]) (.int .i64 ((j : Nat) : Int)) (fun _ => rfl) rfl (by kernel_rfl) rfl ?_
  refine wl_un (fun v => Instr.extract v 2) (.tmp 8) (.tuple #[.int .i64 ((s : Nat) : Int), .int .i64 ((j : Nat) : Int), .bool true]) (.bool true) (fun _ => rfl) rfl (by kernel_rfl) rfl ?_
  refine wl_mv (.tmp 12) (.int .i64 ((s : Nat) : Int)) (fun _ => rfl) rfl rfl ?_
  refine wl_mv (.tmp 13) (.int .i64 ((j : Nat) : Int)) (fun _ => rfl) rfl rfl ?_
  refine wl_mv (.tmp 14) (.bool true) (fun _ => rfl) rfl rfl ?_
  refine w_nil ?_
  refine xn_then ?_
  refine w_seq ?_
  refine w_seq ?_
  refine w_reg ?_
  refine wl_mv (.tmp 7) (.bool true) (fun _ => rfl) rfl rfl ?_
  refine wl_un (fun v => Op.unary .not v) (.tmp 15) (.bool true) (.bool false) (fun _ => rfl) rfl (by kernel_rfl) rfl ?_
  refine wl_mv (.tmp 16) (.bool false) (fun _ => rfl) rfl rfl ?_
  refine wl_mv (.tmp 0) (.slice pl l.length cl) (fun _ => rfl) rfl rfl ?_
  refine wl_mv (.tmp 5) (.int .i64 ((s : Nat) : Int)) (fun _ => rfl) rfl rfl ?_
  refine wl_bin (fun x y => Instr.indexAt 22 x y) (.tmp 18) (.tmp 19) (.slice pl l.length cl) (.int .i64 ((s : Nat) : Int)) (pt bp (op + s * 5)) (fun _ => rfl) rfl rfl (ix22 (i := s) hpp hsl _) rfl ?_
  refine wl_un (fun v => Instr.fieldAt 55 v 4) (.tmp 20) (pt bp (op + s * 5)) (pt bp (op + s * 5 + 4)) (fun _ => rfl) rfl (by kernel_rfl) rfl ?_
  refine wl_load 39 (.tmp 21) (pt bp (op + s * 5 + 4)) (.slice y.pi y.items.length y.ci) rfl rfl (D.run_oneR (hRp.mo M).at' 39 4 rfl Try.underlying39 rfl) rfl ?_
  refine wl_mv (.tmp 6) (.int .i64 ((j : Nat) : Int)) (fun _ => rfl) rfl rfl ?_
  refine wl_bin (fun x y => Instr.indexAt 39 x y) (.tmp 22) (.tmp 23) (.slice y.pi y.items.length y.ci) (.int .i64 ((j : Nat) : Int)) (pt bq (oq + j * 23)) (fun _ => rfl) rfl rfl (ix39 (i := j) hpq hjl _) rfl ?_
  refine wl_un (fun v => Instr.fieldAt 69 v 1) (.tmp 24) (pt bq (oq + j * 23)) (pt bq (oq + j * 23 + 1)) (fun _ => rfl) rfl (by kernel_rfl) rfl ?_
  refine wl_load 3 (.tmp 25) (pt bq (oq + j * 23 + 1)) (.int .i64 (z.k)) rfl rfl (D.run_oneR (hRq.mo M).at' 3 1 rfl Try.underlying3 rfl) rfl ?_
  cases hf0 : decide (z.k = 1) with
  | true =>
    have hf0p := of_decide_eq_true hf0
    refine wl_bin (fun x y => do eqGuard .eql 3 (.tmp 26) (.const (.int .i64 (1))) x y; binOp .eql 3 x y) (.tmp 26) (.const (.int .i64 (1))) (.int .i64 (z.k)) (.int .i64 (1)) (.bool true) (fun _ => rfl) rfl rfl (eq3 hf0 _ _ _) rfl ?_
    refine wl_pick (.tmp 17) (.const (.bool true)) (.tmp 27) false (.bool true) (fun _ => rfl) rfl rfl rfl ?_
    refine w_nil ?_
    refine xn_then ?_
    refine w_condT rfl ?_
    refine w_seq ?_
    refine w_reg ?_
    refine wl_mv (.const (.slice none 0 0)) (.slice none 0 0) (fun _ => rfl) rfl rfl ?_
    refine w_nil ?_
    refine xn_then ?_
    refine w_ret ?_
    refine xr_then ?_
    exact w_ret1 _ (.slice none 0 0) rfl rfl ⟨none, 0, by rw [hrow, rdI, if_pos (of_decide_eq_true hf0)]; rfl, by rw [hrow, rdI, if_pos (of_decide_eq_true hf0)]; exact Li.nil _, M⟩
  | false =>
    have hf0p := of_decide_eq_false hf0
    refine wl_bin (fun x y => do eqGuard .eql 3 (.tmp 26) (.const (.int .i64 (1))) x y; binOp .eql 3 x y) (.tmp 26) (.const (.int .i64 (1))) (.int .i64 (z.k)) (.int .i64 (1)) (.bool false) (fun _ => rfl) rfl rfl (eq3 hf0 _ _ _) rfl ?_
    refine wl_pick (.tmp 17) (.const (.bool true)) (.tmp 27) false (.bool false) (fun _ => rfl) rfl rfl rfl ?_
    refine w_nil ?_
    refine xn_then ?_
    refine w_condF rfl ?_
    refine w_skip ?_
    refine xn_then ?_
    refine w_seq ?_
    refine w_reg ?_
    refine wl_mv (.tmp 0) (.slice pl l.length cl) (fun _ => rfl) rfl rfl ?_
    refine wl_mv (.tmp 5) (.int .i64 ((s : Nat) : Int)) (fun _ => rfl) rfl rfl ?_
    refine wl_mv (.tmp 0) (.slice pl l.length cl) (fun _ => rfl) rfl rfl ?_
    refine wl_mv (.tmp 5) (.int .i64 ((s : Nat) : Int)) (fun _ => rfl) rfl rfl ?_
    refine wl_bin (fun x y => Instr.indexAt 22 x y) (.tmp 31) (.tmp 32) (.slice pl l.length cl) (.int .i64 ((s : Nat) : Int)) (pt bp (op + s * 5)) (fun _ => rfl) rfl rfl (ix22 (i := s) hpp hsl _) rfl ?_
    refine wl_un (fun v => Instr.fieldAt 55 v 4) (.tmp 33) (pt bp (op + s * 5)) (pt bp (op + s * 5 + 4)) (fun _ => rfl) rfl (by kernel_rfl) rfl ?_
    refine wl_load 39 (.tmp 34) (pt bp (op + s * 5 + 4)) (.slice y.pi y.items.length y.ci) rfl rfl (D.run_oneR (hRp.mo M).at' 39 4 rfl Try.underlying39 rfl) rfl ?_
    refine wl_mv (.tmp 6) (.int .i64 ((j : Nat) : Int)) (fun _ => rfl) rfl rfl ?_
    refine wl_bin (fun x y => Instr.indexAt 39 x y) (.tmp 35) (.tmp 36) (.slice y.pi y.items.length y.ci) (.int .i64 ((j : Nat) : Int)) (pt bq (oq + j * 23)) (fun _ => rfl) rfl rfl (ix39 (i := j) hpq hjl _) rfl ?_
    refine wl_un (fun v => Instr.fieldAt 69 v 5) (.tmp 37) (pt bq (oq + j * 23)) (pt bq (oq + j * 23 + 6)) (fun _ => rfl) rfl (by kernel_rfl) rfl ?_
    refine wl_load 67 (.tmp 38) (pt bq (oq + j * 23 + 6)) (.agg (z.ex.cells).toArray) rfl rfl (D.run_partR (hRq.mo M).at' 67 6 17 (z.ex.cells) rfl Try.underlying67 rfl sz67) rfl ?_
    refine wl_callx 38 [(.tmp 29), (.tmp 30), (.tmp 39), (.const (.slice none 0 0))] _ [.slice pl l.length cl, .int .i64 ((s : Nat) : Int), .agg (z.ex.cells).toArray, .slice none 0 0] rfl rfl (fun _ _ => by kernel_rfl) ((reads38_n (pv := none) (cv := 0) (L := []) hL hLx hz hzI hsl z.ex ((hLx y hym).ex z hzm) M.kp (Ror.nil _ _))) rfl ?_
    rintro e9 u2 ⟨L2, p2, c2, rfl, hR2, hm2, hq⟩
    refine ⟨_, rfl, ?_⟩
    replace M := M.trans hq
    clear hq
    have hL2 : L2 = row (RA l) m := by rw [hrow, rdI, if_neg (of_decide_eq_false hf0)]; exact ris_one hR2.up (fun k => ⟨fun hk => ⟨hR2.lt k hk, decide_eq_true (((hm2 k).1 hk).elim (fun q => by cases q) id)⟩, fun hk => (hm2 k).2 (Or.inr (of_decide_eq_true hk.2))⟩)
    subst hL2
    refine wl_mv (.tmp 40) (.slice p2 (row (RA l) m).length c2) (fun _ => rfl) rfl rfl ?_
    refine w_nil ?_
    refine xn_then ?_
    refine w_ret ?_
    exact w_ret1 _ (.slice p2 (row (RA l) m).length c2) rfl rfl ⟨p2, c2, rfl, hR2.li, M⟩
theorem reads16_neg {w : World} {l : List S5} {pl : Option Addr} {cl : Nat} {n : Int} (hn : n < 0) : Calls Try.prog 16 #[.slice pl l.length cl, .int .i64 n] w fun e w' => e = .returned (.slice none 0 0) ∧ Mo w w' := by
  refine w_enter 41 Try.func16 Try.ntmps16 rfl rfl ?_
  have M : Mo w w := Mo.refl _
  refine w_seq ?_
  refine w_reg ?_
  refine wl_mv (.const (.slice none 0 0)) (.slice none 0 0) (fun _ => rfl) rfl rfl ?_
  refine w_nil ?_
  refine xn_then ?_
  refine w_seq ?_
  refine w_reg ?_
  refine wl_mv (.tmp 0) (.slice pl l.length cl) (fun _ => rfl) rfl rfl ?_
  refine wl_mv (.tmp 1) (.int .i64 (n)) (fun _ => rfl) rfl rfl ?_
  refine wl_callx 13 [(.tmp 9), (.tmp 10)] _ [.slice pl l.length cl, .int .i64 (n)] rfl rfl (fun _ _ => by kernel_rfl) ((of13_neg hn)) rfl ?_
  rintro e9 u1 ⟨rfl, hq⟩
  refine ⟨_, rfl, ?_⟩
  replace M := M.trans hq
  clear hq
  refine wl_mv (.tmp 11) (.tuple #[.int .i64 (0), .int .i64 (0), .bool false]) (fun _ => rfl) rfl rfl ?_
  refine wl_un (fun v => Instr.extract v 0) (.tmp 8) (.tuple #[.int .i64 (0), .int .i64 (0), .bool false]) (.int .i64 (0)) (fun _ => rfl) rfl (by kernel_rfl) rfl ?_
  refine wl_un (fun v => Instr.extract v 1) (.tmp 8) (.tuple #[.int .i64 (0), .int .i64 (0), .bool false]) (.int .i64 (0)) (fun _ => rfl) rfl (by kernel_rfl) rfl ?_
  refine wl_un (fun v => Instr.extract v 2) (.tmp 8) (.tuple #[.int .i64 (0), .int .i64 (0), .bool false]) (.bool false) (fun _ => rfl) rfl (by kernel_rfl) rfl ?_
  refine wl_mv (.tmp 12) (.int .i64 (0)) (fun _ => rfl) rfl rfl ?_
  refine wl_mv (.tmp 13) (.int .i64 (0)) (fun _ => rfl) rfl rfl ?_
  refine wl_mv (.tmp 14) (.bool false) (fun _ => rfl) rfl rfl ?_
  refine w_nil ?_
  refine xn_then ?_
  refine w_seq ?_
  refine w_seq ?_
  refine w_reg ?_
  refine wl_mv (.tmp 7) (.bool false) (fun _ => rfl) rfl rfl ?_
  refine wl_un (fun v => Op.unary .not v) (.tmp 15) (.bool false) (.bool true) (fun _ => rfl) rfl (by kernel_rfl) rfl ?_
  refine wl_mv (.tmp 16) (.bool true) (fun _ => rfl) rfl rfl ?_
  refine wl_skip rfl ?_
  refine wl_skip rfl ?_
  refine wl_skip rfl ?_
  refine wl_skip rfl ?_
  refine wl_skip rfl ?_
  refine wl_skip rfl ?_
  refine wl_skip rfl ?_
  refine wl_skip rfl ?_
  refine wl_skip rfl ?_
  refine wl_skip rfl ?_
  refine wl_pick (.tmp 17) (.const (.bool true)) (.tmp 27) true (.bool true) (fun _ => rfl) rfl rfl rfl ?_
  refine w_nil ?_
  refine xn_then ?_
  refine w_condT rfl ?_
  refine w_seq ?_
  refine w_reg ?_
  refine wl_mv (.const (.slice none 0 0)) (.slice none 0 0) (fun _ => rfl) rfl rfl ?_
  refine w_nil ?_
  refine xn_then ?_
  refine w_ret ?_
  refine xr_then ?_
  exact w_ret1 _ (.slice none 0 0) rfl rfl ⟨rfl, M⟩
theorem reads16_out {w : World} {l : List S5} {pl : Option Addr} {cl : Nat} (hL : SL w 5 S5.cells pl l) (hz : l.length < 400000) {nn : Nat} (hm : nI l ≤ nn) (hn : nn ≤ 9223372036854775807) : Calls Try.prog 16 #[.slice pl l.length cl, .int .i64 ((nn : Nat) : Int)] w fun e w' => e = .returned (.slice none 0 0) ∧ Mo w w' := by
  refine w_enter 41 Try.func16 Try.ntmps16 rfl rfl ?_
  have M : Mo w w := Mo.refl _
  refine w_seq ?_
  refine w_reg ?_
  refine wl_mv (.const (.slice none 0 0)) (.slice none 0 0) (fun _ => rfl) rfl rfl ?_
  refine w_nil ?_
  refine xn_then ?_
  refine w_seq ?_
  refine w_reg ?_
  refine wl_mv (.tmp 0) (.slice pl l.length cl) (fun _ => rfl) rfl rfl ?_
  refine wl_mv (.tmp 1) (.int .i64 ((nn : Nat) : Int)) (fun _ => rfl) rfl rfl ?_
  refine wl_callx 13 [(.tmp 9), (.tmp 10)] _ [.slice pl l.length cl, .int .i64 ((nn : Nat) : Int)] rfl rfl (fun _ _ => by kernel_rfl) ((of13_out (hL.kp M.kp) hz hm hn)) rfl ?_
  rintro e9 u1 ⟨rfl, hq⟩
  refine ⟨_, rfl, ?_⟩
  replace M := M.trans hq
  clear hq
  refine wl_mv (.tmp 11) (.tuple #[.int .i64 (0), .int .i64 (0), .bool false]) (fun _ => rfl) rfl rfl ?_
  refine wl_un (fun v => Instr.extract v 0) (.tmp 8) (.tuple #[.int .i64 (0), .int .i64 (0), .bool false]) (.int .i64 (0)) (fun _ => rfl) rfl (by kernel_rfl) rfl ?_
  refine wl_un (fun v => Instr.extract v 1) (.tmp 8) (.tuple #[.int .i64 (0), .int .i64 (0), .bool false]) (.int .i64 (0)) (fun _ => rfl) rfl (by kernel_rfl) rfl ?_
  refine wl_un (fun v => Instr.extract v 2) (.tmp 8) (.tuple #[.int .i64 (0), .int .i64 (0), .bool false]) (.bool false) (fun _ => rfl) rfl (by kernel_rfl) rfl ?_
  refine wl_mv (.tmp 12) (.int .i64 (0)) (fun _ => rfl) rfl rfl ?_
  refine wl_mv (.tmp 13) (.int .i64 (0)) (fun _ => rfl) rfl rfl ?_
  refine wl_mv (.tmp 14) (.bool false) (fun _ => rfl) rfl rfl ?_
  refine w_nil ?_
  refine xn_then ?_
  refine w_seq ?_
  refine w_seq ?_
  refine w_reg ?_
  refine wl_mv (.tmp 7) (.bool false) (fun _ => rfl) rfl rfl ?_
  refine wl_un (fun v => Op.unary .not v) (.tmp 15) (.bool false) (.bool true) (fun _ => rfl) rfl (by kernel_rfl) rfl ?_
  refine wl_mv (.tmp 16) (.bool true) (fun _ => rfl) rfl rfl ?_
  refine wl_skip rfl ?_
  refine wl_skip rfl ?_
  refine wl_skip rfl ?_
  refine wl_skip rfl ?_
  refine wl_skip rfl ?_
  refine wl_skip rfl ?_
  refine wl_skip rfl ?_
  refine wl_skip rfl ?_
  refine wl_skip rfl ?_
  refine wl_skip rfl ?_
  refine wl_pick (.tmp 17) (.const (.bool true)) (.tmp 27) true (.bool true) (fun _ => rfl) rfl rfl rfl ?_
  refine w_nil ?_
  refine xn_then ?_
  refine w_condT rfl ?_
  refine w_seq ?_
  refine w_reg ?_
  refine wl_mv (.const (.slice none 0 0)) (.slice none 0 0) (fun _ => rfl) rfl rfl ?_
  refine w_nil ?_
  refine xn_then ?_
  refine w_ret ?_
  refine xr_then ?_
  exact w_ret1 _ (.slice none 0 0) rfl rfl ⟨rfl, M⟩
end Go.Proofs.Ythghblgbjgghcaa
