/-
  TypesStay.
-/
import Derived.Test.YtepfokoepibkcaaS3
import Derived.Test.YtepfokoepibkcaaRy
namespace Go.Proofs.Ytepfokoepibkcaa
open Go.RowKit D
theorem sz49 : (Try.prog.info? 49).map (·.size) = some 1 := by kernel_rfl
theorem sz46 : (Try.prog.info? 46).map (·.size) = some 1 := by kernel_rfl
section
variable {P : Program} {o : Oper} {n : Nat} {l : List (Nat × Value)} {w : World} {Q : Exit → Act → World → Prop} {K : Act → World → Prop}
theorem wo_bs (ty : TypeId) (m : Nat) (xs : List (Nat × Operand)) (ps : List (Nat × Value)) (cs : Array Value) (e : TypeId) (ho : o.op = .buildSlice ty m xs.toArray) (hx : xs.map (fun p => (p.1, evl n l p.2)) = ps)
    (h : ∀ w, (Instr.buildSlice ty m ps.toArray).run P w = .ok (.slice (some ⟨w.heap.size, 0, none⟩) m m) (w.alloc (.cells cs e)))
    (hk : ∀ k w', w.heap.size = k → Mo w w' → At w' k cs.toList → K (fr n (ext l o.dst (.slice (some ⟨k, 0, none⟩) m m))) w') : WO P o n l w K Q := by
  subst hx
  refine ⟨o_val (.slice (some ⟨w.heap.size, 0, none⟩) m m) (w' := w.alloc (.cells cs e)) ?_ (hk _ _ rfl ((Mo.refl _).alloc _ _) (At.new w cs e))⟩
  simp [execOp, ho, h]
end
theorem stay_n {d : Df} {x : Ex} {nm : ByteArray} {w : World} (hD : LDf w d) (hL : LEx w x) (hB : FB d) (hz : nd x ≤ 4000000) (hzi : d.rt.items.length < 4000000) (hzt : d.tb.length < 4000000) (hzk : d.rt.kids.length < 4000000) (hun : nm.size + 1 ≤ 9223372036854775807) : Calls Try.prog 6 #[.agg (d.cells).toArray, .agg (x.cells).toArray, .string nm] w fun e w' => e = .returned (.bool true) ∧ Mo w w' := by
  have hDr := hD.rt
  refine w_enter 102 Try.func6 Try.ntmps6 rfl rfl ?_
  have M : Mo w w := Mo.refl _
  refine w_seq ?_
  refine w_reg ?_
  refine wl_box 52 (.tmp 0) (.agg (d.cells).toArray) (((d.cells).toArray)) rfl rfl (fun _ => by kernel_rfl) rfl ?_
  intro k1 u1 hk hz hq Q1
  have N_k1 : w.heap.size ≤ k1 := by have := M.size; omega
  replace M := M.trans hq
  clear hk hz hq
  refine wl_box 38 (.tmp 1) (.agg (x.cells).toArray) (((x.cells).toArray)) rfl rfl (fun _ => by kernel_rfl) rfl ?_
  intro k2 u2 hk hz hq Q2
  have ne_k1_k2 : k1 ≠ k2 := by have := Q1.lt; omega
  have N_k2 : w.heap.size ≤ k2 := by have := M.size; omega
  replace Q1 := Q1.mo hq
  replace M := M.trans hq
  clear hk hz hq
  refine wl_box 9 (.tmp 2) (.string nm) (#[.string nm]) rfl rfl (fun _ => by kernel_rfl) rfl ?_
  intro k3 u3 hk hz hq Q3
  have ne_k1_k3 : k1 ≠ k3 := by have := Q1.lt; omega
  have ne_k2_k3 : k2 ≠ k3 := by have := Q2.lt; omega
  have N_k3 : w.heap.size ≤ k3 := by have := M.size; omega
  replace Q1 := Q1.mo hq
  replace Q2 := Q2.mo hq
  replace M := M.trans hq
  clear hk hz hq
  refine wl_mv (.const (.bool false)) (.bool false) (fun _ => rfl) rfl rfl ?_
  refine w_nil ?_
  refine xn_then ?_
  refine w_seq ?_
  refine w_reg ?_
  refine wl_load 52 (.tmp 3) (pt k1 0) (.agg (d.cells).toArray) rfl rfl (run_row Q1 52 0 7 (d.cells) rfl Try.underlying52 rfl sz52) rfl ?_
  refine wl_load 38 (.tmp 4) (pt k2 0) (.agg (x.cells).toArray) rfl rfl (run_row Q2 38 0 17 (x.cells) rfl Try.underlying38 rfl sz38) rfl ?_
  refine wl_call 17 [(.tmp 15), (.const (.int .i64 (0))), (.tmp 16)] _ [.agg (d.cells).toArray, .int .i64 (0), .agg (x.cells).toArray] (.tuple #[.int .i64 ((knd d 0 x).1), .int .i64 ((knd d 0 x).2)]) rfl rfl (fun _ _ => by kernel_rfl) (kind_n (hD.kp M.kp) (hL.kp M.kp) hB hz 0) rfl ?_
  intro u4 hq
  replace Q1 := Q1.mo hq
  replace Q2 := Q2.mo hq
  replace Q3 := Q3.mo hq
  replace M := M.trans hq
  clear hq
  refine wl_mv (.tmp 17) (.tuple #[.int .i64 ((knd d 0 x).1), .int .i64 ((knd d 0 x).2)]) (fun _ => rfl) rfl rfl ?_
  refine wl_un (fun v => Instr.extract v 0) (.tmp 14) (.tuple #[.int .i64 ((knd d 0 x).1), .int .i64 ((knd d 0 x).2)]) (.int .i64 ((knd d 0 x).1)) (fun _ => rfl) rfl (by kernel_rfl) rfl ?_
  refine wl_un (fun v => Instr.extract v 1) (.tmp 14) (.tuple #[.int .i64 ((knd d 0 x).1), .int .i64 ((knd d 0 x).2)]) (.int .i64 ((knd d 0 x).2)) (fun _ => rfl) rfl (by kernel_rfl) rfl ?_
  refine wl_mv (.tmp 18) (.int .i64 ((knd d 0 x).1)) (fun _ => rfl) rfl rfl ?_
  refine wl_mv (.tmp 19) (.int .i64 ((knd d 0 x).2)) (fun _ => rfl) rfl rfl ?_
  refine w_nil ?_
  refine xn_then ?_
  refine w_seq ?_
  refine w_seq ?_
  refine w_reg ?_
  refine wl_call 7 [] _ [] (.bool true) rfl rfl (fun _ _ => by kernel_rfl) (begun_n _) rfl ?_
  intro u5 hq
  replace Q1 := Q1.mo hq
  replace Q2 := Q2.mo hq
  replace Q3 := Q3.mo hq
  replace M := M.trans hq
  clear hq
  refine wl_un (fun v => Op.unary .not v) (.tmp 20) (.bool true) (.bool false) (fun _ => rfl) rfl (by kernel_rfl) rfl ?_
  refine wl_mv (.tmp 21) (.bool false) (fun _ => rfl) rfl rfl ?_
  refine wl_mv (.tmp 8) (.int .i64 ((knd d 0 x).2)) (fun _ => rfl) rfl rfl ?_
  cases hf0 : decide ((knd d 0 x).2 = 0) with
  | true =>
    have hf0p := of_decide_eq_true hf0
    refine wl_bin (fun x y => do eqGuard .neq 32 (.tmp 23) (.const (.int .i64 (0))) x y; binOp .neq 32 x y) (.tmp 23) (.const (.int .i64 (0))) (.int .i64 ((knd d 0 x).2)) (.int .i64 (0)) (.bool false) (fun _ => rfl) rfl rfl (ne34 hf0 _ _ _) rfl ?_
    refine wl_pick (.tmp 22) (.const (.bool true)) (.tmp 24) false (.bool false) (fun _ => rfl) rfl rfl rfl ?_
    refine wl_mv (.tmp 25) (.bool false) (fun _ => rfl) rfl rfl ?_
    refine wl_load 9 (.tmp 5) (pt k3 0) (.string nm) rfl rfl (run_one Q3 9 0 rfl Try.underlying9 rfl) rfl ?_
    refine wl_callx 21 [(.tmp 27)] _ [.string nm] rfl rfl (fun _ _ => by kernel_rfl) (free_n nm _) rfl ?_
    rintro e9 u6 ⟨b9, rfl, hq⟩
    refine ⟨_, rfl, ?_⟩
    replace Q1 := Q1.mo hq
    replace Q2 := Q2.mo hq
    replace Q3 := Q3.mo hq
    replace M := M.trans hq
    clear hq
    cases b9 with
    | true =>
      refine wl_un (fun v => Op.unary .not v) (.tmp 28) (.bool true) (.bool false) (fun _ => rfl) rfl (by kernel_rfl) rfl ?_
      refine wl_pick (.tmp 26) (.const (.bool true)) (.tmp 29) false (.bool false) (fun _ => rfl) rfl rfl rfl ?_
      refine w_nil ?_
      refine xn_then ?_
      refine w_condF rfl ?_
      refine w_skip ?_
      refine xn_then ?_
      refine w_seq ?_
      refine w_seq ?_
      refine w_reg ?_
      refine wl_load 38 (.tmp 4) (pt k2 0) (.agg (x.cells).toArray) rfl rfl (run_row Q2 38 0 17 (x.cells) rfl Try.underlying38 rfl sz38) rfl ?_
      refine wl_callx 15 [(.tmp 32)] _ [.agg (x.cells).toArray] rfl rfl (fun _ _ => by kernel_rfl) (reads_n x (hL.kp M.kp) hz) rfl ?_
      rintro e9 u7 ⟨pr1, cr1, rfl, hSR1, hq⟩
      refine ⟨_, rfl, ?_⟩
      replace Q1 := Q1.mo hq
      replace Q2 := Q2.mo hq
      replace Q3 := Q3.mo hq
      replace M := M.trans hq
      clear hq
      refine wl_val (.int .i64 (((rds x).length : Nat) : Int)) (len40 _ _ _ _ _ (by exact rfl) _ _ _ _ _ _) rfl ?_
      refine wl_mv (.const (.int .i64 (0))) (.int .i64 (0)) (fun _ => rfl) rfl rfl ?_
      refine w_nil ?_
      refine xn_then ?_
      refine w_block ?_
      have hz9 := hSR1.1
      unfold maxLen at hz9
      have Mw := M
      clear M
      have M : Mo u7 u7 := Mo.refl _
      refine w_loop (fun m l w1 => ∃ i : Nat, m = (rds x).length - i ∧ i ≤ (rds x).length ∧ look l 3 = pt k1 0 ∧ look l 4 = pt k2 0 ∧ look l 5 = pt k3 0 ∧ look l 7 = .int .i64 ((knd d 0 x).1) ∧ look l 8 = .int .i64 ((knd d 0 x).2) ∧ look l 33 = .slice pr1 (rds x).length cr1 ∧ look l 34 = .int .i64 (((rds x).length : Nat) : Int) ∧ look l 35 = .int .i64 ((i : Nat) : Int) ∧ At w1 k1 (d.cells) ∧ At w1 k2 (x.cells) ∧ At w1 k3 [.string nm] ∧ (((rds x).take i).any (fun q : Rd => decide (q.2 = nm) || decide (q.1 = nm)) = false) ∧ Mo u7 w1) _ ⟨0, rfl, Nat.zero_le _, rfl, rfl, rfl, rfl, rfl, rfl, rfl, rfl, Q1, Q2, Q3, rfl, M⟩ ?_
      clear Q1 Q2 Q3 M
      rintro m l40 wl40 ⟨i, rfl, hi, e40_3, e40_4, e40_5, e40_7, e40_8, e40_33, e40_34, e40_i, Q1, Q2, Q3, hT, M⟩
      by_cases hil : i < (rds x).length
      · skip
        have hid : decide (i < (rds x).length) = true := decide_eq_true hil
        obtain ⟨y, hy⟩ := get_of_lt hil
        obtain ⟨bp, op, hpp, hRp⟩ := D.SL.rw hSR1 hy
        refine w_seq ?_
        refine w_reg ?_
        refine wl_bin (fun x y => do eqGuard .lss 3 (.tmp 35) (.tmp 34) x y; binOp .lss 3 x y) (.tmp 35) (.tmp 34) (.int .i64 ((i : Nat) : Int)) (.int .i64 (((rds x).length : Nat) : Int)) (.bool true) (fun _ => rfl) e40_i e40_34 (ltN hid _ _ _) rfl ?_
        refine w_nil ?_
        refine xn_then ?_
        refine w_seq ?_
        refine w_condT rfl ?_
        refine w_skip ?_
        refine xn_then ?_
        refine w_seq ?_
        refine w_block ?_
        refine w_seq ?_
        refine w_reg ?_
        refine wl_bin (fun x y => Instr.indexAt 40 x y) (.tmp 33) (.tmp 35) (.slice pr1 (rds x).length cr1) (.int .i64 ((i : Nat) : Int)) (pt bp (op + i * 2)) (fun _ => rfl) e40_33 e40_i (ix40 (i := i) hpp hil _) rfl ?_
        refine wl_load 42 (.tmp 37) (pt bp (op + i * 2)) (.agg #[.string y.1, .string y.2]) rfl rfl (D.run_partR (hRp.mo M).at' 42 0 2 [.string y.1, .string y.2] rfl Try.underlying42 rfl sz42) rfl ?_
        refine wl_alloc 42 #[.string ⟨#[]⟩, .string ⟨#[]⟩] rfl (fun _ => by kernel_rfl) rfl ?_
        intro k4 u41 hk hz hq Q4
        have ne_k1_k4 : k1 ≠ k4 := by have := Q1.lt; omega
        have ne_k2_k4 : k2 ≠ k4 := by have := Q2.lt; omega
        have ne_k3_k4 : k3 ≠ k4 := by have := Q3.lt; omega
        have N_k4 : u7.heap.size ≤ k4 := by have := M.size; omega
        replace Q1 := Q1.mo hq
        replace Q2 := Q2.mo hq
        replace Q3 := Q3.mo hq
        replace M := M.trans hq
        clear hk hz hq
        refine wl_st 42 (.tmp 10) (.tmp 38) k4 0 #[.string y.1, .string y.2] [.string ⟨#[]⟩, .string ⟨#[]⟩] [.string y.1, .string y.2] Q4 rfl rfl rfl rfl rfl sz42 rfl rfl rfl ?_
        intro u42 hS Qn
        replace Q4 := Qn
        clear Qn
        replace Q1 := hS.other _ _ ne_k1_k4 Q1
        replace Q2 := hS.other _ _ ne_k2_k4 Q2
        replace Q3 := hS.other _ _ ne_k3_k4 Q3
        replace M := hS.mo _ N_k4 M
        clear hS
        refine w_nil ?_
        refine xn_then ?_
        refine w_seq ?_
        refine w_reg ?_
        refine wl_un (fun v => Instr.fieldAt 42 v 1) (.tmp 10) (pt k4 0) (pt k4 1) (fun _ => rfl) rfl (by kernel_rfl) rfl ?_
        refine wl_load 9 (.tmp 39) (pt k4 1) (.string y.2) rfl rfl (run_one Q4 9 1 rfl Try.underlying9 rfl) rfl ?_
        refine wl_load 9 (.tmp 5) (pt k3 0) (.string nm) rfl e40_5 (run_one Q3 9 0 rfl Try.underlying9 rfl) rfl ?_
        cases hf30 : decide (y.2 = nm) with
        | true =>
          have hf30p := of_decide_eq_true hf30
          refine wl_bin (fun x y => do eqGuard .eql 9 (.tmp 40) (.tmp 41) x y; binOp .eql 9 x y) (.tmp 40) (.tmp 41) (.string y.2) (.string nm) (.bool true) (fun _ => rfl) rfl rfl (s9 hf30 _ _ _) rfl ?_
          refine wl_mv (.tmp 42) (.bool true) (fun _ => rfl) rfl rfl ?_
          refine wl_skip rfl ?_
          refine wl_skip rfl ?_
          refine wl_skip rfl ?_
          refine wl_skip rfl ?_
          refine wl_pick (.tmp 43) (.const (.bool true)) (.tmp 47) true (.bool true) (fun _ => rfl) rfl rfl rfl ?_
          refine w_nil ?_
          refine xn_then ?_
          refine w_condT rfl ?_
          refine w_seq ?_
          refine w_reg ?_
          refine wl_mv (.const (.bool true)) (.bool true) (fun _ => rfl) rfl rfl ?_
          refine w_nil ?_
          refine xn_then ?_
          refine w_ret ?_
          refine xr_blk ?_
          refine xr_then ?_
          refine xr_then ?_
          refine xr_blk ?_
          refine xr_then ?_
          exact w_ret1 _ (.bool true) rfl rfl ⟨rfl, Mw.trans M⟩
        | false =>
          have hf30p := of_decide_eq_false hf30
          refine wl_bin (fun x y => do eqGuard .eql 9 (.tmp 40) (.tmp 41) x y; binOp .eql 9 x y) (.tmp 40) (.tmp 41) (.string y.2) (.string nm) (.bool false) (fun _ => rfl) rfl rfl (s9 hf30 _ _ _) rfl ?_
          refine wl_mv (.tmp 42) (.bool false) (fun _ => rfl) rfl rfl ?_
          refine wl_un (fun v => Instr.fieldAt 42 v 0) (.tmp 10) (pt k4 0) (pt k4 0) (fun _ => rfl) rfl (by kernel_rfl) rfl ?_
          refine wl_load 9 (.tmp 44) (pt k4 0) (.string y.1) rfl rfl (run_one Q4 9 0 rfl Try.underlying9 rfl) rfl ?_
          refine wl_load 9 (.tmp 5) (pt k3 0) (.string nm) rfl e40_5 (run_one Q3 9 0 rfl Try.underlying9 rfl) rfl ?_
          cases hf31 : decide (y.1 = nm) with
          | true =>
            have hf31p := of_decide_eq_true hf31
            refine wl_bin (fun x y => do eqGuard .eql 9 (.tmp 45) (.tmp 46) x y; binOp .eql 9 x y) (.tmp 45) (.tmp 46) (.string y.1) (.string nm) (.bool true) (fun _ => rfl) rfl rfl (s9 hf31 _ _ _) rfl ?_
            refine wl_pick (.tmp 43) (.const (.bool true)) (.tmp 47) false (.bool true) (fun _ => rfl) rfl rfl rfl ?_
            refine w_nil ?_
            refine xn_then ?_
            refine w_condT rfl ?_
            refine w_seq ?_
            refine w_reg ?_
            refine wl_mv (.const (.bool true)) (.bool true) (fun _ => rfl) rfl rfl ?_
            refine w_nil ?_
            refine xn_then ?_
            refine w_ret ?_
            refine xr_blk ?_
            refine xr_then ?_
            refine xr_then ?_
            refine xr_blk ?_
            refine xr_then ?_
            exact w_ret1 _ (.bool true) rfl rfl ⟨rfl, Mw.trans M⟩
          | false =>
            have hf31p := of_decide_eq_false hf31
            refine wl_bin (fun x y => do eqGuard .eql 9 (.tmp 45) (.tmp 46) x y; binOp .eql 9 x y) (.tmp 45) (.tmp 46) (.string y.1) (.string nm) (.bool false) (fun _ => rfl) rfl rfl (s9 hf31 _ _ _) rfl ?_
            refine wl_pick (.tmp 43) (.const (.bool true)) (.tmp 47) false (.bool false) (fun _ => rfl) rfl rfl rfl ?_
            refine w_nil ?_
            refine xn_then ?_
            refine w_condF rfl ?_
            refine w_skip ?_
            refine xn_blk ?_
            refine xn_then ?_
            refine w_reg ?_
            refine wl_bin (fun x y => do eqGuard .add 3 (.tmp 35) (.const (.int .i64 (1))) x y; binOp .add 3 x y) (.tmp 35) (.const (.int .i64 (1))) (.int .i64 ((i : Nat) : Int)) (.int .i64 (1)) (.int .i64 ((i + 1 : Nat) : Int)) (fun _ => rfl) e40_i rfl (add1r (k := i) (by omega) _ _ _) rfl ?_
            refine wl_mv (.tmp 49) (.int .i64 ((i + 1 : Nat) : Int)) (fun _ => rfl) rfl rfl ?_
            refine w_nil ?_
            exact xn_loop ((rds x).length - (i + 1)) (by omega) ⟨i + 1, rfl, by omega, e40_3, e40_4, e40_5, e40_7, e40_8, e40_33, e40_34, rfl, Q1, Q2, Q3, any_take (f := (fun q : Rd => decide (q.2 = nm) || decide (q.1 = nm))) hT hy (by show (decide (y.2 = nm) || decide (y.1 = nm)) = false; rw [hf30, hf31]; rfl), M⟩
      · skip
        have hid : decide (i < (rds x).length) = false := decide_eq_false hil
        have hie : i = (rds x).length := by omega
        have hTr := any_all hT hie
        replace M := Mw.trans M
        refine w_seq ?_
        refine w_reg ?_
        refine wl_bin (fun x y => do eqGuard .lss 3 (.tmp 35) (.tmp 34) x y; binOp .lss 3 x y) (.tmp 35) (.tmp 34) (.int .i64 ((i : Nat) : Int)) (.int .i64 (((rds x).length : Nat) : Int)) (.bool false) (fun _ => rfl) e40_i e40_34 (ltN hid _ _ _) rfl ?_
        refine w_nil ?_
        refine xn_then ?_
        refine w_seq ?_
        refine w_condF rfl ?_
        refine w_exit ?_
        refine xx_then ?_
        refine xx_then ?_
        refine xx_blk ?_
        refine xn_then ?_
        refine w_seq ?_
        refine w_reg ?_
        refine wl_load 52 (.tmp 3) (pt k1 0) (.agg (d.cells).toArray) rfl e40_3 (run_row Q1 52 0 7 (d.cells) rfl Try.underlying52 rfl sz52) rfl ?_
        refine wl_alloc 52 #[.string ⟨#[]⟩, .string ⟨#[]⟩, .int .i64 0, .slice none 0 0, .slice none 0 0, .slice none 0 0, .slice none 0 0] rfl (fun _ => by kernel_rfl) rfl ?_
        intro k4 u41 hk hz hq Q4
        have ne_k1_k4 : k1 ≠ k4 := by have := Q1.lt; omega
        have ne_k2_k4 : k2 ≠ k4 := by have := Q2.lt; omega
        have ne_k3_k4 : k3 ≠ k4 := by have := Q3.lt; omega
        have N_k4 : w.heap.size ≤ k4 := by have := M.size; omega
        replace Q1 := Q1.mo hq
        replace Q2 := Q2.mo hq
        replace Q3 := Q3.mo hq
        replace M := M.trans hq
        clear hk hz hq
        refine wl_st 52 (.tmp 11) (.tmp 50) k4 0 ((d.cells).toArray) [.string ⟨#[]⟩, .string ⟨#[]⟩, .int .i64 0, .slice none 0 0, .slice none 0 0, .slice none 0 0, .slice none 0 0] (d.cells) Q4 rfl rfl rfl rfl rfl sz52 rfl rfl rfl ?_
        intro u42 hS Qn
        replace Q4 := Qn
        clear Qn
        replace Q1 := hS.other _ _ ne_k1_k4 Q1
        replace Q2 := hS.other _ _ ne_k2_k4 Q2
        replace Q3 := hS.other _ _ ne_k3_k4 Q3
        replace M := hS.mo _ N_k4 M
        clear hS
        refine w_nil ?_
        refine xn_then ?_
        refine w_seq ?_
        have lt_k1_1 : k1 < u42.heap.size := Q1.2.2
        have lt_k2_1 : k2 < u42.heap.size := Q2.2.2
        have lt_k3_1 : k3 < u42.heap.size := Q3.2.2
        have lt_k4_1 : k4 < u42.heap.size := Q4.2.2
        have sz_1 := M.size
        have hsm : Smos [vq (pt k1 1), vq (pt k1 3), vq (.slice d.rt.pi d.rt.items.length d.rt.ci), fun u w9 => ∃ pa cap, u = .slice pa (d.rt.items).length cap ∧ w9.ownsRow u42.heap.size 67 23 (.slice pa (d.rt.items).length cap) (d.rt.items).length ((d.rt.items).flatMap It.cells), vq (.string nm), vq (.agg #[.int .i64 (3), .int .i64 0]), vq (.agg #[.string nm, .int .i64 (1), .int .i64 (3), .int .i64 0, .bool false, .int .i64 0, .int .i64 0, .int .i64 0, .string ⟨#[]⟩, .string ⟨#[]⟩, .int .i64 0, .bool false, .int .u64 0, .int .u64 0, .int .u64 0, .int .u64 0, .int .i64 0, .bool false, .string ⟨#[]⟩, .int .i64 0, .int .i64 0, .int .i64 0, .slice none 0 0]), fun u w9 => ∃ k, u = .slice (some ⟨k, 0, none⟩) 1 1 ∧ At w9 k [.string nm, .int .i64 (1), .int .i64 (3), .int .i64 0, .bool false, .int .i64 0, .int .i64 0, .int .i64 0, .string ⟨#[]⟩, .string ⟨#[]⟩, .int .i64 0, .bool false, .int .u64 0, .int .u64 0, .int .u64 0, .int .u64 0, .int .i64 0, .bool false, .string ⟨#[]⟩, .int .i64 0, .int .i64 0, .int .i64 0, .slice none 0 0]] := smos_cons (smo_vq _) (smos_cons (smo_vq _) (smos_cons (smo_vq _) (smos_cons (fun u a b ⟨pa, cap, h1, h2⟩ m => ⟨pa, cap, h1, own_mo h2 m⟩) (smos_cons (smo_vq _) (smos_cons (smo_vq _) (smos_cons (smo_vq _) (smos_cons (fun u a b ⟨k, h1, h2⟩ m => ⟨k, h1, h2.mo m⟩) (smos_nil))))))))
        have hgr : ∀ a b : World, Mo u42 a → Mo a b → Mo u42 b := fun _ _ h m => h.trans m
        refine w_ogc 8 (fun w9 => Mo u42 w9) [vq (pt k1 1), vq (pt k1 3), vq (.slice d.rt.pi d.rt.items.length d.rt.ci), fun u w9 => ∃ pa cap, u = .slice pa (d.rt.items).length cap ∧ w9.ownsRow u42.heap.size 67 23 (.slice pa (d.rt.items).length cap) (d.rt.items).length ((d.rt.items).flatMap It.cells), vq (.string nm), vq (.agg #[.int .i64 (3), .int .i64 0]), vq (.agg #[.string nm, .int .i64 (1), .int .i64 (3), .int .i64 0, .bool false, .int .i64 0, .int .i64 0, .int .i64 0, .string ⟨#[]⟩, .string ⟨#[]⟩, .int .i64 0, .bool false, .int .u64 0, .int .u64 0, .int .u64 0, .int .u64 0, .int .i64 0, .bool false, .string ⟨#[]⟩, .int .i64 0, .int .i64 0, .int .i64 0, .slice none 0 0]), fun u w9 => ∃ k, u = .slice (some ⟨k, 0, none⟩) 1 1 ∧ At w9 k [.string nm, .int .i64 (1), .int .i64 (3), .int .i64 0, .bool false, .int .i64 0, .int .i64 0, .int .i64 0, .string ⟨#[]⟩, .string ⟨#[]⟩, .int .i64 0, .bool false, .int .u64 0, .int .u64 0, .int .u64 0, .int .u64 0, .int .i64 0, .bool false, .string ⟨#[]⟩, .int .i64 0, .int .i64 0, .int .i64 0, .slice none 0 0]] [] (by kernel_rfl) (by kernel_rfl) (by kernel_rfl) (by kernel_rfl) rfl (by kernel_rfl) (by kernel_rfl) latec_nil ((Mo.refl _).drew) ?_ ?_
        · refine ea_cons ?_ (ea_cons ?_ (ea_cons ?_ (ea_cons ?_ (ea_cons ?_ (ea_cons ?_ (ea_cons ?_ (ea_cons ?_ (ea_nil))))))))
          · exact oc_eq (pt k1 1) rfl hgr hsm (fun f wf hG9 hd K hK => go_run rfl (wo_un (fun v => Instr.fieldAt 52 v 1) (.tmp 3) (pt k1 0) (pt k1 1) (fun _ => rfl) e40_3 (by kernel_rfl) (hK _ (Mo.refl _))))
          · exact oc_eq (pt k1 3) rfl hgr hsm (fun f wf hG9 hd K hK => go_run rfl (wo_un (fun v => Instr.fieldAt 48 v 2) (.tmp 51) (pt k1 1) (pt k1 3) (fun _ => rfl) (hd 0 rfl) (by kernel_rfl) (hK _ (Mo.refl _))))
          · exact oc_eq (.slice d.rt.pi d.rt.items.length d.rt.ci) rfl hgr hsm (fun f wf hG9 hd K hK => have Q1 := Q1.mo hG9; go_run rfl (wo_load 45 (.tmp 52) (pt k1 3) (.slice d.rt.pi d.rt.items.length d.rt.ci) rfl (hd 1 rfl) (run_one Q1 45 3 rfl Try.underlying45 rfl) (hK _ (Mo.refl _))))
          · refine ⟨fun f wf hG9 hd K hK => ?_⟩
            refine go_run rfl (wo_callx 22 [(.tmp 53)] _ [.slice d.rt.pi (d.rt.items).length d.rt.ci] rfl (li1 (hd 2 rfl)) (fun _ _ => by kernel_rfl) (clo22_n d.rt.pi d.rt.ci (d.rt.items) (hDr.it.kp (M.trans hG9).kp) (Nat.le_of_lt hzi)) ?_)
            rintro e9 w9 ⟨pa, cap, rfl, q2, q1⟩
            exact ⟨_, rfl, hK _ w9 (hG9.trans q1) ⟨pa, cap, rfl, own_base q2 hG9.size⟩ (fun j u _ hr9 => hsm j u _ _ hr9 q1)⟩
          · exact oc_eq (.string nm) rfl hgr hsm (fun f wf hG9 hd K hK => have Q3 := Q3.mo hG9; go_run rfl (wo_load 9 (.tmp 5) (pt k3 0) (.string nm) rfl e40_5 (run_one Q3 9 0 rfl Try.underlying9 rfl) (hK _ (Mo.refl _))))
          · exact oc_eq (.agg #[.int .i64 (3), .int .i64 0]) rfl hgr hsm (fun f wf hG9 hd K hK => go_run rfl (wo_build 30 [(0, (.const (.int .i64 (3))))] [(0, .int .i64 (3))] (.agg #[.int .i64 (3), .int .i64 0]) rfl rfl (by kernel_rfl) (hK _ (Mo.refl _))))
          · exact oc_eq (.agg #[.string nm, .int .i64 (1), .int .i64 (3), .int .i64 0, .bool false, .int .i64 0, .int .i64 0, .int .i64 0, .string ⟨#[]⟩, .string ⟨#[]⟩, .int .i64 0, .bool false, .int .u64 0, .int .u64 0, .int .u64 0, .int .u64 0, .int .i64 0, .bool false, .string ⟨#[]⟩, .int .i64 0, .int .i64 0, .int .i64 0, .slice none 0 0]) rfl hgr hsm (fun f wf hG9 hd K hK => go_run rfl (wo_build 67 [(0, (.tmp 55)), (1, (.const (.int .i64 (1)))), (2, (.tmp 56))] [(0, .string nm), (1, .int .i64 (1)), (2, .agg #[.int .i64 (3), .int .i64 0])] (.agg #[.string nm, .int .i64 (1), .int .i64 (3), .int .i64 0, .bool false, .int .i64 0, .int .i64 0, .int .i64 0, .string ⟨#[]⟩, .string ⟨#[]⟩, .int .i64 0, .bool false, .int .u64 0, .int .u64 0, .int .u64 0, .int .u64 0, .int .i64 0, .bool false, .string ⟨#[]⟩, .int .i64 0, .int .i64 0, .int .i64 0, .slice none 0 0]) rfl (lp3 (hd 4 rfl) rfl (hd 5 rfl)) (by kernel_rfl) (hK _ (Mo.refl _))))
          · refine ⟨fun f wf hG9 hd K hK => ?_⟩
            refine go_run rfl (wo_bs 45 1 [(0, (.tmp 57))] [(0, .agg #[.string nm, .int .i64 (1), .int .i64 (3), .int .i64 0, .bool false, .int .i64 0, .int .i64 0, .int .i64 0, .string ⟨#[]⟩, .string ⟨#[]⟩, .int .i64 0, .bool false, .int .u64 0, .int .u64 0, .int .u64 0, .int .u64 0, .int .i64 0, .bool false, .string ⟨#[]⟩, .int .i64 0, .int .i64 0, .int .i64 0, .slice none 0 0])] #[.string nm, .int .i64 (1), .int .i64 (3), .int .i64 0, .bool false, .int .i64 0, .int .i64 0, .int .i64 0, .string ⟨#[]⟩, .string ⟨#[]⟩, .int .i64 0, .bool false, .int .u64 0, .int .u64 0, .int .u64 0, .int .u64 0, .int .i64 0, .bool false, .string ⟨#[]⟩, .int .i64 0, .int .i64 0, .int .i64 0, .slice none 0 0] 67 rfl (lp1 (hd 6 rfl)) (fun _ => by kernel_rfl) ?_)
            intro k9 w9 _ q1 q2
            exact hK _ w9 (hG9.trans q1) ⟨k9, rfl, q2⟩ (fun j u _ hr9 => hsm j u _ _ hr9 q1)
        intro f9 u43 hq hR9
        obtain ⟨pA1, cA1, eA1, hA1⟩ := hR9 3 rfl
        obtain ⟨kB1, eB1, hB1⟩ := hR9 7 rfl
        replace Q1 := Q1.mo hq
        replace Q2 := Q2.mo hq
        replace Q3 := Q3.mo hq
        replace Q4 := Q4.mo hq
        replace M := M.trans hq
        refine wl_app Try.underlying45 inf67 rfl (by decide) (.tmp 54) (.tmp 58) u42.heap.size (.slice pA1 (d.rt.items).length cA1) (d.rt.items).length ((d.rt.items).flatMap It.cells) kB1 1 1 (tIt nm).cells rfl eA1 eB1 hA1 (It.len _) hB1 (one67 _) (by decide) (by unfold maxLen; omega) (by omega) hq.size rfl ?_
        intro v1 u44 hO1 m4 _
        have hcx1 : ((d.rt.items) ++ [tIt nm]).length = (d.rt.items).length + 1 := by simp
        have hcy1 : ((d.rt.items) ++ [tIt nm]).flatMap It.cells = (d.rt.items).flatMap It.cells ++ (tIt nm).cells := by simp
        rw [← hcx1, ← hcy1] at hO1
        obtain ⟨pZ1, cZ1, rfl, _⟩ := own_form hO1
        have hgeT : ∀ k, Value.ownBlock (.slice pA1 (d.rt.items).length cA1) = some k → u42.heap.size ≤ k := fun k e => (own_lt hA1 e).2
        replace Q1 := m4.at Q1 (fun e => by have := hgeT _ e; have := lt_k1_1; omega)
        replace Q2 := m4.at Q2 (fun e => by have := hgeT _ e; have := lt_k2_1; omega)
        replace Q3 := m4.at Q3 (fun e => by have := hgeT _ e; have := lt_k3_1; omega)
        replace Q4 := m4.at Q4 (fun e => by have := hgeT _ e; have := lt_k4_1; omega)
        replace M := m4.mo M (fun k e => by have := hgeT k e; have := sz_1; omega)
        clear hsm hgr hq m4 hgeT
        refine wl_un (fun v => Instr.fieldAt 52 v 1) (.tmp 11) (pt k4 0) (pt k4 1) (fun _ => rfl) rfl (by kernel_rfl) rfl ?_
        refine wl_un (fun v => Instr.fieldAt 48 v 2) (.tmp 60) (pt k4 1) (pt k4 3) (fun _ => rfl) rfl (by kernel_rfl) rfl ?_
        refine wl_stm1 45 (.tmp 61) (.tmp 59) k4 3 (.slice pZ1 ((d.rt.items) ++ [tIt nm]).length cZ1) (d.cells) [.string d.nm, .string d.rt.nm, .int .i64 d.rt.mx, .slice pZ1 ((d.rt.items) ++ [tIt nm]).length cZ1, .slice d.rt.pk d.rt.kids.length d.rt.ck, .slice d.pt d.tb.length d.ct, .slice d.pp d.pg.length d.cp] Q4 rfl rfl rfl rfl rfl sz45 rfl rfl rfl rfl ?_
        intro u45 hS m5 Qn
        replace Q4 := Qn
        clear Qn
        replace Q1 := hS.other _ _ ne_k1_k4 Q1
        replace Q2 := hS.other _ _ ne_k2_k4 Q2
        replace Q3 := hS.other _ _ ne_k3_k4 Q3
        replace hO1 := own_mk hO1 m5 (fun k e e2 => by have := (own_lt hO1 e).2; have := lt_k4_1; omega)
        replace M := hS.mo _ N_k4 M
        clear hS m5
        refine w_nil ?_
        refine xn_then ?_
        refine w_seq ?_
        have lt_k1_2 : k1 < u45.heap.size := Q1.2.2
        have lt_k2_2 : k2 < u45.heap.size := Q2.2.2
        have lt_k3_2 : k3 < u45.heap.size := Q3.2.2
        have lt_k4_2 : k4 < u45.heap.size := Q4.2.2
        have lt_hO1_2 := fun k e => (own_lt (k := k) hO1 e).1
        have sz_2 := M.size
        have hsm : Smos [vq (pt k1 5), vq (.slice d.pt d.tb.length d.ct), fun u w9 => ∃ pa cap, u = .slice pa (d.tb).length cap ∧ w9.ownsRow u45.heap.size 71 2 (.slice pa (d.tb).length cap) (d.tb).length ((d.tb).flatMap Tb.cells), vq (.string nm), vq (.agg #[.string nm, .slice none 0 0]), fun u w9 => ∃ k, u = .slice (some ⟨k, 0, none⟩) 1 1 ∧ At w9 k [.string nm, .slice none 0 0]] := smos_cons (smo_vq _) (smos_cons (smo_vq _) (smos_cons (fun u a b ⟨pa, cap, h1, h2⟩ m => ⟨pa, cap, h1, own_mo h2 m⟩) (smos_cons (smo_vq _) (smos_cons (smo_vq _) (smos_cons (fun u a b ⟨k, h1, h2⟩ m => ⟨k, h1, h2.mo m⟩) (smos_nil))))))
        have hgr : ∀ a b : World, Mo u45 a → Mo a b → Mo u45 b := fun _ _ h m => h.trans m
        refine w_ogc 6 (fun w9 => Mo u45 w9) [vq (pt k1 5), vq (.slice d.pt d.tb.length d.ct), fun u w9 => ∃ pa cap, u = .slice pa (d.tb).length cap ∧ w9.ownsRow u45.heap.size 71 2 (.slice pa (d.tb).length cap) (d.tb).length ((d.tb).flatMap Tb.cells), vq (.string nm), vq (.agg #[.string nm, .slice none 0 0]), fun u w9 => ∃ k, u = .slice (some ⟨k, 0, none⟩) 1 1 ∧ At w9 k [.string nm, .slice none 0 0]] [] (by kernel_rfl) (by kernel_rfl) (by kernel_rfl) (by kernel_rfl) rfl (by kernel_rfl) (by kernel_rfl) latec_nil ((Mo.refl _).drew) ?_ ?_
        · refine ea_cons ?_ (ea_cons ?_ (ea_cons ?_ (ea_cons ?_ (ea_cons ?_ (ea_cons ?_ (ea_nil))))))
          · exact oc_eq (pt k1 5) rfl hgr hsm (fun f wf hG9 hd K hK => go_run rfl (wo_un (fun v => Instr.fieldAt 52 v 2) (.tmp 3) (pt k1 0) (pt k1 5) (fun _ => rfl) e40_3 (by kernel_rfl) (hK _ (Mo.refl _))))
          · exact oc_eq (.slice d.pt d.tb.length d.ct) rfl hgr hsm (fun f wf hG9 hd K hK => have Q1 := Q1.mo hG9; go_run rfl (wo_load 49 (.tmp 62) (pt k1 5) (.slice d.pt d.tb.length d.ct) rfl (hd 0 rfl) (run_one Q1 49 5 rfl Try.underlying49 rfl) (hK _ (Mo.refl _))))
          · refine ⟨fun f wf hG9 hd K hK => ?_⟩
            refine go_run rfl (wo_callx 23 [(.tmp 63)] _ [.slice d.pt (d.tb).length d.ct] rfl (li1 (hd 1 rfl)) (fun _ _ => by kernel_rfl) (clo23_n d.pt d.ct (d.tb) (hD.tb.kp (M.trans hG9).kp) (Nat.le_of_lt hzt)) ?_)
            rintro e9 w9 ⟨pa, cap, rfl, q2, q1⟩
            exact ⟨_, rfl, hK _ w9 (hG9.trans q1) ⟨pa, cap, rfl, own_base q2 hG9.size⟩ (fun j u _ hr9 => hsm j u _ _ hr9 q1)⟩
          · exact oc_eq (.string nm) rfl hgr hsm (fun f wf hG9 hd K hK => have Q3 := Q3.mo hG9; go_run rfl (wo_load 9 (.tmp 5) (pt k3 0) (.string nm) rfl e40_5 (run_one Q3 9 0 rfl Try.underlying9 rfl) (hK _ (Mo.refl _))))
          · exact oc_eq (.agg #[.string nm, .slice none 0 0]) rfl hgr hsm (fun f wf hG9 hd K hK => go_run rfl (wo_build 71 [(0, (.tmp 65))] [(0, .string nm)] (.agg #[.string nm, .slice none 0 0]) rfl (lp1 (hd 3 rfl)) (by kernel_rfl) (hK _ (Mo.refl _))))
          · refine ⟨fun f wf hG9 hd K hK => ?_⟩
            refine go_run rfl (wo_bs 49 1 [(0, (.tmp 66))] [(0, .agg #[.string nm, .slice none 0 0])] #[.string nm, .slice none 0 0] 71 rfl (lp1 (hd 4 rfl)) (fun _ => by kernel_rfl) ?_)
            intro k9 w9 _ q1 q2
            exact hK _ w9 (hG9.trans q1) ⟨k9, rfl, q2⟩ (fun j u _ hr9 => hsm j u _ _ hr9 q1)
        intro f9 u46 hq hR9
        obtain ⟨pA2, cA2, eA2, hA2⟩ := hR9 2 rfl
        obtain ⟨kB2, eB2, hB2⟩ := hR9 5 rfl
        replace Q1 := Q1.mo hq
        replace Q2 := Q2.mo hq
        replace Q3 := Q3.mo hq
        replace Q4 := Q4.mo hq
        replace hO1 := own_mo hO1 hq
        replace M := M.trans hq
        refine wl_app Try.underlying49 inf71 rfl (by decide) (.tmp 64) (.tmp 67) u45.heap.size (.slice pA2 (d.tb).length cA2) (d.tb).length ((d.tb).flatMap Tb.cells) kB2 1 1 ((⟨nm, none, 0, []⟩ : Tb)).cells rfl eA2 eB2 hA2 (Tb.len _) hB2 (one71 _) (by decide) (by unfold maxLen; omega) (by omega) hq.size rfl ?_
        intro v2 u47 hO2 m4 _
        have hcx2 : ((d.tb) ++ [(⟨nm, none, 0, []⟩ : Tb)]).length = (d.tb).length + 1 := by simp
        have hcy2 : ((d.tb) ++ [(⟨nm, none, 0, []⟩ : Tb)]).flatMap Tb.cells = (d.tb).flatMap Tb.cells ++ ((⟨nm, none, 0, []⟩ : Tb)).cells := by simp
        rw [← hcx2, ← hcy2] at hO2
        obtain ⟨pZ2, cZ2, rfl, _⟩ := own_form hO2
        have hgeT : ∀ k, Value.ownBlock (.slice pA2 (d.tb).length cA2) = some k → u45.heap.size ≤ k := fun k e => (own_lt hA2 e).2
        replace Q1 := m4.at Q1 (fun e => by have := hgeT _ e; have := lt_k1_2; omega)
        replace Q2 := m4.at Q2 (fun e => by have := hgeT _ e; have := lt_k2_2; omega)
        replace Q3 := m4.at Q3 (fun e => by have := hgeT _ e; have := lt_k3_2; omega)
        replace Q4 := m4.at Q4 (fun e => by have := hgeT _ e; have := lt_k4_2; omega)
        replace hO1 := own_mk hO1 m4 (fun k e e2 => by have := hgeT _ e2; have := lt_hO1_2 k e; omega)
        replace M := m4.mo M (fun k e => by have := hgeT k e; have := sz_2; omega)
        clear hsm hgr hq m4 hgeT
        refine wl_un (fun v => Instr.fieldAt 52 v 2) (.tmp 11) (pt k4 0) (pt k4 5) (fun _ => rfl) rfl (by kernel_rfl) rfl ?_
        refine wl_stm1 49 (.tmp 69) (.tmp 68) k4 5 (.slice pZ2 ((d.tb) ++ [(⟨nm, none, 0, []⟩ : Tb)]).length cZ2) [.string d.nm, .string d.rt.nm, .int .i64 d.rt.mx, .slice pZ1 ((d.rt.items) ++ [tIt nm]).length cZ1, .slice d.rt.pk d.rt.kids.length d.rt.ck, .slice d.pt d.tb.length d.ct, .slice d.pp d.pg.length d.cp] [.string d.nm, .string d.rt.nm, .int .i64 d.rt.mx, .slice pZ1 ((d.rt.items) ++ [tIt nm]).length cZ1, .slice d.rt.pk d.rt.kids.length d.rt.ck, .slice pZ2 ((d.tb) ++ [(⟨nm, none, 0, []⟩ : Tb)]).length cZ2, .slice d.pp d.pg.length d.cp] Q4 rfl rfl rfl rfl rfl sz49 rfl rfl rfl rfl ?_
        intro u48 hS m5 Qn
        replace Q4 := Qn
        clear Qn
        replace Q1 := hS.other _ _ ne_k1_k4 Q1
        replace Q2 := hS.other _ _ ne_k2_k4 Q2
        replace Q3 := hS.other _ _ ne_k3_k4 Q3
        replace hO1 := own_mk hO1 m5 (fun k e e2 => by have := (own_lt hO1 e).2; have := lt_k4_1; omega)
        replace hO2 := own_mk hO2 m5 (fun k e e2 => by have := (own_lt hO2 e).2; have := lt_k4_2; omega)
        replace M := hS.mo _ N_k4 M
        clear hS m5
        refine w_nil ?_
        refine xn_then ?_
        refine w_seq ?_
        refine w_seq ?_
        refine w_reg ?_
        refine wl_load 52 (.tmp 3) (pt k1 0) (.agg (d.cells).toArray) rfl e40_3 (run_row Q1 52 0 7 (d.cells) rfl Try.underlying52 rfl sz52) rfl ?_
        refine wl_callx 18 [(.tmp 70)] _ [.agg (d.cells).toArray] rfl rfl (fun _ _ => by kernel_rfl) (rFlat_n d (hD.kp M.kp)) rfl ?_
        rintro e9 u49 ⟨pf, cf, rfl, _, hq⟩
        refine ⟨_, rfl, ?_⟩
        replace Q1 := Q1.mo hq
        replace Q2 := Q2.mo hq
        replace Q3 := Q3.mo hq
        replace Q4 := Q4.mo hq
        replace hO1 := own_mo hO1 hq
        replace hO2 := own_mo hO2 hq
        replace M := M.trans hq
        clear hq
        refine wl_val (.int .i64 (((fla d).length : Nat) : Int)) (len55 _ _ _ _ _ (by exact rfl) _ _ _ _ _ _) rfl ?_
        cases hf30 : decide ((fla d).length < 64) with
        | true =>
          have hf30p := of_decide_eq_true hf30
          refine wl_bin (fun x y => do eqGuard .lss 3 (.tmp 72) (.const (.int .i64 (64))) x y; binOp .lss 3 x y) (.tmp 72) (.const (.int .i64 (64))) (.int .i64 (((fla d).length : Nat) : Int)) (.int .i64 (64)) (.bool true) (fun _ => rfl) rfl rfl (ltN hf30 _ _ _) rfl ?_
          refine w_nil ?_
          refine xn_then ?_
          refine w_condT rfl ?_
          have lt_k1_3 : k1 < u49.heap.size := Q1.2.2
          have lt_k2_3 : k2 < u49.heap.size := Q2.2.2
          have lt_k3_3 : k3 < u49.heap.size := Q3.2.2
          have lt_k4_3 : k4 < u49.heap.size := Q4.2.2
          have lt_hO1_3 := fun k e => (own_lt (k := k) hO1 e).1
          have lt_hO2_3 := fun k e => (own_lt (k := k) hO2 e).1
          have sz_3 := M.size
          have hsm : Smos [vq (pt k1 1), vq (pt k1 4), vq (.slice d.rt.pk d.rt.kids.length d.rt.ck), fun u w9 => ∃ pa cap, u = .slice pa (d.rt.kids).length cap ∧ w9.ownsRow u49.heap.size 48 4 (.slice pa (d.rt.kids).length cap) (d.rt.kids).length ((d.rt.kids).flatMap Se.cells), vq (.string nm), vq (.string (und nm)), vq (.agg #[.string (und nm), .int .i64 0, .slice none 0 0, .slice none 0 0]), fun u w9 => ∃ k, u = .slice (some ⟨k, 0, none⟩) 1 1 ∧ At w9 k [.string (und nm), .int .i64 0, .slice none 0 0, .slice none 0 0]] := smos_cons (smo_vq _) (smos_cons (smo_vq _) (smos_cons (smo_vq _) (smos_cons (fun u a b ⟨pa, cap, h1, h2⟩ m => ⟨pa, cap, h1, own_mo h2 m⟩) (smos_cons (smo_vq _) (smos_cons (smo_vq _) (smos_cons (smo_vq _) (smos_cons (fun u a b ⟨k, h1, h2⟩ m => ⟨k, h1, h2.mo m⟩) (smos_nil))))))))
          have hgr : ∀ a b : World, Mo u49 a → Mo a b → Mo u49 b := fun _ _ h m => h.trans m
          refine w_ogc 8 (fun w9 => Mo u49 w9) [vq (pt k1 1), vq (pt k1 4), vq (.slice d.rt.pk d.rt.kids.length d.rt.ck), fun u w9 => ∃ pa cap, u = .slice pa (d.rt.kids).length cap ∧ w9.ownsRow u49.heap.size 48 4 (.slice pa (d.rt.kids).length cap) (d.rt.kids).length ((d.rt.kids).flatMap Se.cells), vq (.string nm), vq (.string (und nm)), vq (.agg #[.string (und nm), .int .i64 0, .slice none 0 0, .slice none 0 0]), fun u w9 => ∃ k, u = .slice (some ⟨k, 0, none⟩) 1 1 ∧ At w9 k [.string (und nm), .int .i64 0, .slice none 0 0, .slice none 0 0]] [] (by kernel_rfl) (by kernel_rfl) (by kernel_rfl) (by kernel_rfl) rfl (by kernel_rfl) (by kernel_rfl) latec_nil ((Mo.refl _).drew) ?_ ?_
          · refine ea_cons ?_ (ea_cons ?_ (ea_cons ?_ (ea_cons ?_ (ea_cons ?_ (ea_cons ?_ (ea_cons ?_ (ea_cons ?_ (ea_nil))))))))
            · exact oc_eq (pt k1 1) rfl hgr hsm (fun f wf hG9 hd K hK => go_run rfl (wo_un (fun v => Instr.fieldAt 52 v 1) (.tmp 3) (pt k1 0) (pt k1 1) (fun _ => rfl) e40_3 (by kernel_rfl) (hK _ (Mo.refl _))))
            · exact oc_eq (pt k1 4) rfl hgr hsm (fun f wf hG9 hd K hK => go_run rfl (wo_un (fun v => Instr.fieldAt 48 v 3) (.tmp 74) (pt k1 1) (pt k1 4) (fun _ => rfl) (hd 0 rfl) (by kernel_rfl) (hK _ (Mo.refl _))))
            · exact oc_eq (.slice d.rt.pk d.rt.kids.length d.rt.ck) rfl hgr hsm (fun f wf hG9 hd K hK => have Q1 := Q1.mo hG9; go_run rfl (wo_load 46 (.tmp 75) (pt k1 4) (.slice d.rt.pk d.rt.kids.length d.rt.ck) rfl (hd 1 rfl) (run_one Q1 46 4 rfl Try.underlying46 rfl) (hK _ (Mo.refl _))))
            · refine ⟨fun f wf hG9 hd K hK => ?_⟩
              refine go_run rfl (wo_callx 24 [(.tmp 76)] _ [.slice d.rt.pk (d.rt.kids).length d.rt.ck] rfl (li1 (hd 2 rfl)) (fun _ _ => by kernel_rfl) (clo24_n d.rt.pk d.rt.ck (d.rt.kids) (hDr.kd.kp (M.trans hG9).kp) (Nat.le_of_lt hzk)) ?_)
              rintro e9 w9 ⟨pa, cap, rfl, q2, q1⟩
              exact ⟨_, rfl, hK _ w9 (hG9.trans q1) ⟨pa, cap, rfl, own_base q2 hG9.size⟩ (fun j u _ hr9 => hsm j u _ _ hr9 q1)⟩
            · exact oc_eq (.string nm) rfl hgr hsm (fun f wf hG9 hd K hK => have Q3 := Q3.mo hG9; go_run rfl (wo_load 9 (.tmp 5) (pt k3 0) (.string nm) rfl e40_5 (run_one Q3 9 0 rfl Try.underlying9 rfl) (hK _ (Mo.refl _))))
            · exact oc_eq (.string (und nm)) rfl hgr hsm (fun f wf hG9 hd K hK => go_run rfl (wo_bin (fun x y => do eqGuard .add 9 (.tmp 78) (.const (.string ⟨#[95]⟩)) x y; binOp .add 9 x y) (.tmp 78) (.const (.string ⟨#[95]⟩)) (.string nm) (.string ⟨#[95]⟩) (.string (und nm)) (fun _ => rfl) (hd 4 rfl) rfl (cat9 hun _ _ _) (hK _ (Mo.refl _))))
            · exact oc_eq (.agg #[.string (und nm), .int .i64 0, .slice none 0 0, .slice none 0 0]) rfl hgr hsm (fun f wf hG9 hd K hK => go_run rfl (wo_build 48 [(0, (.tmp 79))] [(0, .string (und nm))] (.agg #[.string (und nm), .int .i64 0, .slice none 0 0, .slice none 0 0]) rfl (lp1 (hd 5 rfl)) (by kernel_rfl) (hK _ (Mo.refl _))))
            · refine ⟨fun f wf hG9 hd K hK => ?_⟩
              refine go_run rfl (wo_bs 46 1 [(0, (.tmp 80))] [(0, .agg #[.string (und nm), .int .i64 0, .slice none 0 0, .slice none 0 0])] #[.string (und nm), .int .i64 0, .slice none 0 0, .slice none 0 0] 48 rfl (lp1 (hd 6 rfl)) (fun _ => by kernel_rfl) ?_)
              intro k9 w9 _ q1 q2
              exact hK _ w9 (hG9.trans q1) ⟨k9, rfl, q2⟩ (fun j u _ hr9 => hsm j u _ _ hr9 q1)
          intro f9 u50 hq hR9
          obtain ⟨pA3, cA3, eA3, hA3⟩ := hR9 3 rfl
          obtain ⟨kB3, eB3, hB3⟩ := hR9 7 rfl
          replace Q1 := Q1.mo hq
          replace Q2 := Q2.mo hq
          replace Q3 := Q3.mo hq
          replace Q4 := Q4.mo hq
          replace hO1 := own_mo hO1 hq
          replace hO2 := own_mo hO2 hq
          replace M := M.trans hq
          refine wl_app Try.underlying46 inf48 rfl (by decide) (.tmp 77) (.tmp 81) u49.heap.size (.slice pA3 (d.rt.kids).length cA3) (d.rt.kids).length ((d.rt.kids).flatMap Se.cells) kB3 1 1 (uSe (und nm)).cells rfl eA3 eB3 hA3 (Se.len _) hB3 (one48 _) (by decide) (by unfold maxLen; omega) (by omega) hq.size rfl ?_
          intro v3 u51 hO3 m4 _
          have hcx3 : ((d.rt.kids) ++ [uSe (und nm)]).length = (d.rt.kids).length + 1 := by simp
          have hcy3 : ((d.rt.kids) ++ [uSe (und nm)]).flatMap Se.cells = (d.rt.kids).flatMap Se.cells ++ (uSe (und nm)).cells := by simp
          rw [← hcx3, ← hcy3] at hO3
          obtain ⟨pZ3, cZ3, rfl, _⟩ := own_form hO3
          have hgeT : ∀ k, Value.ownBlock (.slice pA3 (d.rt.kids).length cA3) = some k → u49.heap.size ≤ k := fun k e => (own_lt hA3 e).2
          replace Q1 := m4.at Q1 (fun e => by have := hgeT _ e; have := lt_k1_3; omega)
          replace Q2 := m4.at Q2 (fun e => by have := hgeT _ e; have := lt_k2_3; omega)
          replace Q3 := m4.at Q3 (fun e => by have := hgeT _ e; have := lt_k3_3; omega)
          replace Q4 := m4.at Q4 (fun e => by have := hgeT _ e; have := lt_k4_3; omega)
          replace hO1 := own_mk hO1 m4 (fun k e e2 => by have := hgeT _ e2; have := lt_hO1_3 k e; omega)
          replace hO2 := own_mk hO2 m4 (fun k e e2 => by have := hgeT _ e2; have := lt_hO2_3 k e; omega)
          replace M := m4.mo M (fun k e => by have := hgeT k e; have := sz_3; omega)
          clear hsm hgr hq m4 hgeT
          refine wl_un (fun v => Instr.fieldAt 52 v 1) (.tmp 11) (pt k4 0) (pt k4 1) (fun _ => rfl) rfl (by kernel_rfl) rfl ?_
          refine wl_un (fun v => Instr.fieldAt 48 v 3) (.tmp 83) (pt k4 1) (pt k4 4) (fun _ => rfl) rfl (by kernel_rfl) rfl ?_
          refine wl_stm1 46 (.tmp 84) (.tmp 82) k4 4 (.slice pZ3 ((d.rt.kids) ++ [uSe (und nm)]).length cZ3) [.string d.nm, .string d.rt.nm, .int .i64 d.rt.mx, .slice pZ1 ((d.rt.items) ++ [tIt nm]).length cZ1, .slice d.rt.pk d.rt.kids.length d.rt.ck, .slice pZ2 ((d.tb) ++ [(⟨nm, none, 0, []⟩ : Tb)]).length cZ2, .slice d.pp d.pg.length d.cp] [.string d.nm, .string d.rt.nm, .int .i64 d.rt.mx, .slice pZ1 ((d.rt.items) ++ [tIt nm]).length cZ1, .slice pZ3 ((d.rt.kids) ++ [uSe (und nm)]).length cZ3, .slice pZ2 ((d.tb) ++ [(⟨nm, none, 0, []⟩ : Tb)]).length cZ2, .slice d.pp d.pg.length d.cp] Q4 rfl rfl rfl rfl rfl sz46 rfl rfl rfl rfl ?_
          intro u52 hS m5 Qn
          replace Q4 := Qn
          clear Qn
          replace Q1 := hS.other _ _ ne_k1_k4 Q1
          replace Q2 := hS.other _ _ ne_k2_k4 Q2
          replace Q3 := hS.other _ _ ne_k3_k4 Q3
          replace hO1 := own_mk hO1 m5 (fun k e e2 => by have := (own_lt hO1 e).2; have := lt_k4_1; omega)
          replace hO2 := own_mk hO2 m5 (fun k e e2 => by have := (own_lt hO2 e).2; have := lt_k4_2; omega)
          replace hO3 := own_mk hO3 m5 (fun k e e2 => by have := (own_lt hO3 e).2; have := lt_k4_3; omega)
          replace M := hS.mo _ N_k4 M
          clear hS m5
          refine w_nil ?_
          refine xn_then ?_
          refine w_seq ?_
          refine w_seq ?_
          refine w_reg ?_
          refine wl_load 38 (.tmp 4) (pt k2 0) (.agg (x.cells).toArray) rfl e40_4 (run_row Q2 38 0 17 (x.cells) rfl Try.underlying38 rfl sz38) rfl ?_
          refine wl_callx 15 [(.tmp 85)] _ [.agg (x.cells).toArray] rfl rfl (fun _ _ => by kernel_rfl) (reads_n x (hL.kp M.kp) hz) rfl ?_
          rintro e9 u53 ⟨pr2, cr2, rfl, hSR2, hq⟩
          refine ⟨_, rfl, ?_⟩
          replace Q1 := Q1.mo hq
          replace Q2 := Q2.mo hq
          replace Q3 := Q3.mo hq
          replace Q4 := Q4.mo hq
          replace hO1 := own_mo hO1 hq
          replace hO2 := own_mo hO2 hq
          replace hO3 := own_mo hO3 hq
          replace M := M.trans hq
          clear hq
          refine wl_mf (.func 26) [] [(.tmp 5)] [] [pt k3 0] rfl rfl (li1 e40_5) rfl ?_
          cases hf31 : (rds x).any (fun q : Rd => decide (q.1 = und nm)) with
          | true =>
            refine wl_callx 25 [(.tmp 86), (.tmp 87)] _ [.slice pr2 (rds x).length cr2, .func (.func 26) #[] #[pt k3 0]] rfl rfl (fun _ _ => by kernel_rfl) (cB hf31 (conf_n Q3 hun hSR2)) rfl ?_
            rintro e9 u54 ⟨rfl, hq⟩
            refine ⟨_, rfl, ?_⟩
            replace Q1 := Q1.mo hq
            replace Q2 := Q2.mo hq
            replace Q3 := Q3.mo hq
            replace Q4 := Q4.mo hq
            replace hO1 := own_mo hO1 hq
            replace hO2 := own_mo hO2 hq
            replace hO3 := own_mo hO3 hq
            replace M := M.trans hq
            clear hq
            refine w_nil ?_
            refine xn_then ?_
            refine w_condT rfl ?_
            refine w_seq ?_
            refine w_reg ?_
            refine wl_mv (.const (.bool true)) (.bool true) (fun _ => rfl) rfl rfl ?_
            refine w_nil ?_
            refine xn_then ?_
            refine w_ret ?_
            refine xr_then ?_
            exact w_ret1 _ (.bool true) rfl rfl ⟨rfl, M⟩
          | false =>
            refine wl_callx 25 [(.tmp 86), (.tmp 87)] _ [.slice pr2 (rds x).length cr2, .func (.func 26) #[] #[pt k3 0]] rfl rfl (fun _ _ => by kernel_rfl) (cB hf31 (conf_n Q3 hun hSR2)) rfl ?_
            rintro e9 u54 ⟨rfl, hq⟩
            refine ⟨_, rfl, ?_⟩
            replace Q1 := Q1.mo hq
            replace Q2 := Q2.mo hq
            replace Q3 := Q3.mo hq
            replace Q4 := Q4.mo hq
            replace hO1 := own_mo hO1 hq
            replace hO2 := own_mo hO2 hq
            replace hO3 := own_mo hO3 hq
            replace M := M.trans hq
            clear hq
            refine w_nil ?_
            refine xn_then ?_
            refine w_condF rfl ?_
            refine w_skip ?_
            refine xn_then ?_
            refine w_seq ?_
            refine w_reg ?_
            refine wl_load 52 (.tmp 11) (pt k4 0) (.agg #[.string d.nm, .string d.rt.nm, .int .i64 d.rt.mx, .slice pZ1 ((d.rt.items) ++ [tIt nm]).length cZ1, .slice pZ3 ((d.rt.kids) ++ [uSe (und nm)]).length cZ3, .slice pZ2 ((d.tb) ++ [(⟨nm, none, 0, []⟩ : Tb)]).length cZ2, .slice d.pp d.pg.length d.cp]) rfl rfl (run_row Q4 52 0 7 [.string d.nm, .string d.rt.nm, .int .i64 d.rt.mx, .slice pZ1 ((d.rt.items) ++ [tIt nm]).length cZ1, .slice pZ3 ((d.rt.kids) ++ [uSe (und nm)]).length cZ3, .slice pZ2 ((d.tb) ++ [(⟨nm, none, 0, []⟩ : Tb)]).length cZ2, .slice d.pp d.pg.length d.cp] rfl Try.underlying52 rfl sz52) rfl ?_
            refine wl_load 38 (.tmp 4) (pt k2 0) (.agg (x.cells).toArray) rfl e40_4 (run_row Q2 38 0 17 (x.cells) rfl Try.underlying38 rfl sz38) rfl ?_
            have hsI := own_sl (cells := It.cells) It.len (by simp [maxLen]; omega) hO1
            have hsT := own_sl (cells := Tb.cells) Tb.len (by simp [maxLen]; omega) hO2
            have hsK := own_sl (cells := Se.cells) Se.len (by simp [maxLen]; omega) hO3
            have hLd : LDf u54 (dmo d nm pZ1 cZ1 pZ3 cZ3 (d.rt.kids ++ [uSe (und nm)]) pZ2 cZ2 (d.tb ++ [(⟨nm, none, 0, []⟩ : Tb)])) := ld_more hD M.kp (Or.inr rfl) hsI hsK hsT
            have hFb : FB (dmo d nm pZ1 cZ1 pZ3 cZ3 (d.rt.kids ++ [uSe (und nm)]) pZ2 cZ2 (d.tb ++ [(⟨nm, none, 0, []⟩ : Tb)])) := fb_more d nm pZ1 cZ1 pZ3 cZ3 (d.rt.kids ++ [uSe (und nm)]) pZ2 cZ2 (d.tb ++ [(⟨nm, none, 0, []⟩ : Tb)]) (Or.inr rfl) hB hzi
            have hkm : knd (dmo d nm pZ1 cZ1 pZ3 cZ3 (d.rt.kids ++ [uSe (und nm)]) pZ2 cZ2 (d.tb ++ [(⟨nm, none, 0, []⟩ : Tb)])) 0 x = knd d 0 x := knd_more (Or.inr rfl) (nrd_of hTr hf31) hf0p
            refine wl_call 17 [(.tmp 90), (.const (.int .i64 (0))), (.tmp 91)] _ [.agg #[.string d.nm, .string d.rt.nm, .int .i64 d.rt.mx, .slice pZ1 ((d.rt.items) ++ [tIt nm]).length cZ1, .slice pZ3 ((d.rt.kids) ++ [uSe (und nm)]).length cZ3, .slice pZ2 ((d.tb) ++ [(⟨nm, none, 0, []⟩ : Tb)]).length cZ2, .slice d.pp d.pg.length d.cp], .int .i64 (0), .agg (x.cells).toArray] (.tuple #[.int .i64 ((knd d 0 x).1), .int .i64 ((knd d 0 x).2)]) rfl rfl (fun _ _ => by kernel_rfl) ((hkm ▸ kind_n hLd (hL.kp M.kp) hFb hz 0)) rfl ?_
            intro u55 hq
            replace Q1 := Q1.mo hq
            replace Q2 := Q2.mo hq
            replace Q3 := Q3.mo hq
            replace Q4 := Q4.mo hq
            replace hO1 := own_mo hO1 hq
            replace hO2 := own_mo hO2 hq
            replace hO3 := own_mo hO3 hq
            replace M := M.trans hq
            clear hq
            refine wl_mv (.tmp 92) (.tuple #[.int .i64 ((knd d 0 x).1), .int .i64 ((knd d 0 x).2)]) (fun _ => rfl) rfl rfl ?_
            refine wl_un (fun v => Instr.extract v 0) (.tmp 89) (.tuple #[.int .i64 ((knd d 0 x).1), .int .i64 ((knd d 0 x).2)]) (.int .i64 ((knd d 0 x).1)) (fun _ => rfl) rfl (by kernel_rfl) rfl ?_
            refine wl_un (fun v => Instr.extract v 1) (.tmp 89) (.tuple #[.int .i64 ((knd d 0 x).1), .int .i64 ((knd d 0 x).2)]) (.int .i64 ((knd d 0 x).2)) (fun _ => rfl) rfl (by kernel_rfl) rfl ?_
            refine wl_mv (.tmp 93) (.int .i64 ((knd d 0 x).1)) (fun _ => rfl) rfl rfl ?_
            refine wl_mv (.tmp 94) (.int .i64 ((knd d 0 x).2)) (fun _ => rfl) rfl rfl ?_
            refine w_nil ?_
            refine xn_then ?_
            refine w_seq ?_
            refine w_reg ?_
            refine wl_mv (.tmp 7) (.int .i64 ((knd d 0 x).1)) (fun _ => rfl) e40_7 rfl ?_
            refine wl_mv (.tmp 12) (.int .i64 ((knd d 0 x).1)) (fun _ => rfl) rfl rfl ?_
            refine wl_bin (fun x y => do eqGuard .eql 3 (.tmp 95) (.tmp 96) x y; binOp .eql 3 x y) (.tmp 95) (.tmp 96) (.int .i64 ((knd d 0 x).1)) (.int .i64 ((knd d 0 x).1)) (.bool true) (fun _ => rfl) rfl rfl (eq3 (decide_eq_true rfl) _ _ _) rfl ?_
            refine wl_mv (.tmp 97) (.bool true) (fun _ => rfl) rfl rfl ?_
            refine wl_mv (.tmp 13) (.int .i64 ((knd d 0 x).2)) (fun _ => rfl) rfl rfl ?_
            refine wl_bin (fun x y => do eqGuard .eql 32 (.tmp 99) (.const (.int .i64 (0))) x y; binOp .eql 32 x y) (.tmp 99) (.const (.int .i64 (0))) (.int .i64 ((knd d 0 x).2)) (.int .i64 (0)) (.bool true) (fun _ => rfl) rfl rfl (eq34 hf0 _ _ _) rfl ?_
            refine wl_pick (.tmp 98) (.tmp 100) (.const (.bool false)) true (.bool true) (fun _ => rfl) rfl rfl rfl ?_
            refine wl_mv (.tmp 101) (.bool true) (fun _ => rfl) rfl rfl ?_
            refine w_nil ?_
            refine xn_then ?_
            refine w_ret ?_
            exact w_ret1 _ (.bool true) rfl rfl ⟨rfl, M⟩
        | false =>
          have hf30p := of_decide_eq_false hf30
          refine wl_bin (fun x y => do eqGuard .lss 3 (.tmp 72) (.const (.int .i64 (64))) x y; binOp .lss 3 x y) (.tmp 72) (.const (.int .i64 (64))) (.int .i64 (((fla d).length : Nat) : Int)) (.int .i64 (64)) (.bool false) (fun _ => rfl) rfl rfl (ltN hf30 _ _ _) rfl ?_
          refine w_nil ?_
          refine xn_then ?_
          refine w_condF rfl ?_
          refine w_skip ?_
          refine xn_then ?_
          refine w_seq ?_
          refine w_seq ?_
          refine w_reg ?_
          refine wl_load 38 (.tmp 4) (pt k2 0) (.agg (x.cells).toArray) rfl e40_4 (run_row Q2 38 0 17 (x.cells) rfl Try.underlying38 rfl sz38) rfl ?_
          refine wl_callx 15 [(.tmp 85)] _ [.agg (x.cells).toArray] rfl rfl (fun _ _ => by kernel_rfl) (reads_n x (hL.kp M.kp) hz) rfl ?_
          rintro e9 u50 ⟨pr2, cr2, rfl, hSR2, hq⟩
          refine ⟨_, rfl, ?_⟩
          replace Q1 := Q1.mo hq
          replace Q2 := Q2.mo hq
          replace Q3 := Q3.mo hq
          replace Q4 := Q4.mo hq
          replace hO1 := own_mo hO1 hq
          replace hO2 := own_mo hO2 hq
          replace M := M.trans hq
          clear hq
          refine wl_mf (.func 26) [] [(.tmp 5)] [] [pt k3 0] rfl rfl (li1 e40_5) rfl ?_
          cases hf31 : (rds x).any (fun q : Rd => decide (q.1 = und nm)) with
          | true =>
            refine wl_callx 25 [(.tmp 86), (.tmp 87)] _ [.slice pr2 (rds x).length cr2, .func (.func 26) #[] #[pt k3 0]] rfl rfl (fun _ _ => by kernel_rfl) (cB hf31 (conf_n Q3 hun hSR2)) rfl ?_
            rintro e9 u51 ⟨rfl, hq⟩
            refine ⟨_, rfl, ?_⟩
            replace Q1 := Q1.mo hq
            replace Q2 := Q2.mo hq
            replace Q3 := Q3.mo hq
            replace Q4 := Q4.mo hq
            replace hO1 := own_mo hO1 hq
            replace hO2 := own_mo hO2 hq
            replace M := M.trans hq
            clear hq
            refine w_nil ?_
            refine xn_then ?_
            refine w_condT rfl ?_
            refine w_seq ?_
            refine w_reg ?_
            refine wl_mv (.const (.bool true)) (.bool true) (fun _ => rfl) rfl rfl ?_
            refine w_nil ?_
            refine xn_then ?_
            refine w_ret ?_
            refine xr_then ?_
            exact w_ret1 _ (.bool true) rfl rfl ⟨rfl, M⟩
          | false =>
            refine wl_callx 25 [(.tmp 86), (.tmp 87)] _ [.slice pr2 (rds x).length cr2, .func (.func 26) #[] #[pt k3 0]] rfl rfl (fun _ _ => by kernel_rfl) (cB hf31 (conf_n Q3 hun hSR2)) rfl ?_
            rintro e9 u51 ⟨rfl, hq⟩
            refine ⟨_, rfl, ?_⟩
            replace Q1 := Q1.mo hq
            replace Q2 := Q2.mo hq
            replace Q3 := Q3.mo hq
            replace Q4 := Q4.mo hq
            replace hO1 := own_mo hO1 hq
            replace hO2 := own_mo hO2 hq
            replace M := M.trans hq
            clear hq
            refine w_nil ?_
            refine xn_then ?_
            refine w_condF rfl ?_
            refine w_skip ?_
            refine xn_then ?_
            refine w_seq ?_
            refine w_reg ?_
            refine wl_load 52 (.tmp 11) (pt k4 0) (.agg #[.string d.nm, .string d.rt.nm, .int .i64 d.rt.mx, .slice pZ1 ((d.rt.items) ++ [tIt nm]).length cZ1, .slice d.rt.pk d.rt.kids.length d.rt.ck, .slice pZ2 ((d.tb) ++ [(⟨nm, none, 0, []⟩ : Tb)]).length cZ2, .slice d.pp d.pg.length d.cp]) rfl rfl (run_row Q4 52 0 7 [.string d.nm, .string d.rt.nm, .int .i64 d.rt.mx, .slice pZ1 ((d.rt.items) ++ [tIt nm]).length cZ1, .slice d.rt.pk d.rt.kids.length d.rt.ck, .slice pZ2 ((d.tb) ++ [(⟨nm, none, 0, []⟩ : Tb)]).length cZ2, .slice d.pp d.pg.length d.cp] rfl Try.underlying52 rfl sz52) rfl ?_
            refine wl_load 38 (.tmp 4) (pt k2 0) (.agg (x.cells).toArray) rfl e40_4 (run_row Q2 38 0 17 (x.cells) rfl Try.underlying38 rfl sz38) rfl ?_
            have hsI := own_sl (cells := It.cells) It.len (by simp [maxLen]; omega) hO1
            have hsT := own_sl (cells := Tb.cells) Tb.len (by simp [maxLen]; omega) hO2
            have hsK := hDr.kd.kp M.kp
            have hLd : LDf u51 (dmo d nm pZ1 cZ1 d.rt.pk d.rt.ck d.rt.kids pZ2 cZ2 (d.tb ++ [(⟨nm, none, 0, []⟩ : Tb)])) := ld_more hD M.kp (Or.inl rfl) hsI hsK hsT
            have hFb : FB (dmo d nm pZ1 cZ1 d.rt.pk d.rt.ck d.rt.kids pZ2 cZ2 (d.tb ++ [(⟨nm, none, 0, []⟩ : Tb)])) := fb_more d nm pZ1 cZ1 d.rt.pk d.rt.ck d.rt.kids pZ2 cZ2 (d.tb ++ [(⟨nm, none, 0, []⟩ : Tb)]) (Or.inl rfl) hB hzi
            have hkm : knd (dmo d nm pZ1 cZ1 d.rt.pk d.rt.ck d.rt.kids pZ2 cZ2 (d.tb ++ [(⟨nm, none, 0, []⟩ : Tb)])) 0 x = knd d 0 x := knd_more (Or.inl rfl) (nrd_of hTr hf31) hf0p
            refine wl_call 17 [(.tmp 90), (.const (.int .i64 (0))), (.tmp 91)] _ [.agg #[.string d.nm, .string d.rt.nm, .int .i64 d.rt.mx, .slice pZ1 ((d.rt.items) ++ [tIt nm]).length cZ1, .slice d.rt.pk d.rt.kids.length d.rt.ck, .slice pZ2 ((d.tb) ++ [(⟨nm, none, 0, []⟩ : Tb)]).length cZ2, .slice d.pp d.pg.length d.cp], .int .i64 (0), .agg (x.cells).toArray] (.tuple #[.int .i64 ((knd d 0 x).1), .int .i64 ((knd d 0 x).2)]) rfl rfl (fun _ _ => by kernel_rfl) ((hkm ▸ kind_n hLd (hL.kp M.kp) hFb hz 0)) rfl ?_
            intro u52 hq
            replace Q1 := Q1.mo hq
            replace Q2 := Q2.mo hq
            replace Q3 := Q3.mo hq
            replace Q4 := Q4.mo hq
            replace hO1 := own_mo hO1 hq
            replace hO2 := own_mo hO2 hq
            replace M := M.trans hq
            clear hq
            refine wl_mv (.tmp 92) (.tuple #[.int .i64 ((knd d 0 x).1), .int .i64 ((knd d 0 x).2)]) (fun _ => rfl) rfl rfl ?_
            refine wl_un (fun v => Instr.extract v 0) (.tmp 89) (.tuple #[.int .i64 ((knd d 0 x).1), .int .i64 ((knd d 0 x).2)]) (.int .i64 ((knd d 0 x).1)) (fun _ => rfl) rfl (by kernel_rfl) rfl ?_
            refine wl_un (fun v => Instr.extract v 1) (.tmp 89) (.tuple #[.int .i64 ((knd d 0 x).1), .int .i64 ((knd d 0 x).2)]) (.int .i64 ((knd d 0 x).2)) (fun _ => rfl) rfl (by kernel_rfl) rfl ?_
            refine wl_mv (.tmp 93) (.int .i64 ((knd d 0 x).1)) (fun _ => rfl) rfl rfl ?_
            refine wl_mv (.tmp 94) (.int .i64 ((knd d 0 x).2)) (fun _ => rfl) rfl rfl ?_
            refine w_nil ?_
            refine xn_then ?_
            refine w_seq ?_
            refine w_reg ?_
            refine wl_mv (.tmp 7) (.int .i64 ((knd d 0 x).1)) (fun _ => rfl) e40_7 rfl ?_
            refine wl_mv (.tmp 12) (.int .i64 ((knd d 0 x).1)) (fun _ => rfl) rfl rfl ?_
            refine wl_bin (fun x y => do eqGuard .eql 3 (.tmp 95) (.tmp 96) x y; binOp .eql 3 x y) (.tmp 95) (.tmp 96) (.int .i64 ((knd d 0 x).1)) (.int .i64 ((knd d 0 x).1)) (.bool true) (fun _ => rfl) rfl rfl (eq3 (decide_eq_true rfl) _ _ _) rfl ?_
            refine wl_mv (.tmp 97) (.bool true) (fun _ => rfl) rfl rfl ?_
            refine wl_mv (.tmp 13) (.int .i64 ((knd d 0 x).2)) (fun _ => rfl) rfl rfl ?_
            refine wl_bin (fun x y => do eqGuard .eql 32 (.tmp 99) (.const (.int .i64 (0))) x y; binOp .eql 32 x y) (.tmp 99) (.const (.int .i64 (0))) (.int .i64 ((knd d 0 x).2)) (.int .i64 (0)) (.bool true) (fun _ => rfl) rfl rfl (eq34 hf0 _ _ _) rfl ?_
            refine wl_pick (.tmp 98) (.tmp 100) (.const (.bool false)) true (.bool true) (fun _ => rfl) rfl rfl rfl ?_
            refine wl_mv (.tmp 101) (.bool true) (fun _ => rfl) rfl rfl ?_
            refine w_nil ?_
            refine xn_then ?_
            refine w_ret ?_
            exact w_ret1 _ (.bool true) rfl rfl ⟨rfl, M⟩
    | false =>
      refine wl_un (fun v => Op.unary .not v) (.tmp 28) (.bool false) (.bool true) (fun _ => rfl) rfl (by kernel_rfl) rfl ?_
      refine wl_pick (.tmp 26) (.const (.bool true)) (.tmp 29) false (.bool true) (fun _ => rfl) rfl rfl rfl ?_
      refine w_nil ?_
      refine xn_then ?_
      refine w_condT rfl ?_
      refine w_seq ?_
      refine w_reg ?_
      refine wl_call 7 [] _ [] (.bool true) rfl rfl (fun _ _ => by kernel_rfl) (begun_n _) rfl ?_
      intro u7 hq
      replace Q1 := Q1.mo hq
      replace Q2 := Q2.mo hq
      replace Q3 := Q3.mo hq
      replace M := M.trans hq
      clear hq
      refine wl_mv (.tmp 31) (.bool true) (fun _ => rfl) rfl rfl ?_
      refine w_nil ?_
      refine xn_then ?_
      refine w_ret ?_
      refine xr_then ?_
      exact w_ret1 _ (.bool true) rfl rfl ⟨rfl, M⟩
  | false =>
    have hf0p := of_decide_eq_false hf0
    refine wl_bin (fun x y => do eqGuard .neq 32 (.tmp 23) (.const (.int .i64 (0))) x y; binOp .neq 32 x y) (.tmp 23) (.const (.int .i64 (0))) (.int .i64 ((knd d 0 x).2)) (.int .i64 (0)) (.bool true) (fun _ => rfl) rfl rfl (ne34 hf0 _ _ _) rfl ?_
    refine wl_pick (.tmp 22) (.const (.bool true)) (.tmp 24) false (.bool true) (fun _ => rfl) rfl rfl rfl ?_
    refine wl_mv (.tmp 25) (.bool true) (fun _ => rfl) rfl rfl ?_
    refine wl_skip rfl ?_
    refine wl_skip rfl ?_
    refine wl_skip rfl ?_
    refine wl_pick (.tmp 26) (.const (.bool true)) (.tmp 29) true (.bool true) (fun _ => rfl) rfl rfl rfl ?_
    refine w_nil ?_
    refine xn_then ?_
    refine w_condT rfl ?_
    refine w_seq ?_
    refine w_reg ?_
    refine wl_call 7 [] _ [] (.bool true) rfl rfl (fun _ _ => by kernel_rfl) (begun_n _) rfl ?_
    intro u6 hq
    replace Q1 := Q1.mo hq
    replace Q2 := Q2.mo hq
    replace Q3 := Q3.mo hq
    replace M := M.trans hq
    clear hq
    refine wl_mv (.tmp 31) (.bool true) (fun _ => rfl) rfl rfl ?_
    refine w_nil ?_
    refine xn_then ?_
    refine w_ret ?_
    refine xr_then ?_
    exact w_ret1 _ (.bool true) rfl rfl ⟨rfl, M⟩
end Go.Proofs.Ytepfokoepibkcaa
