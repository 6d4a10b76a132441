/-
  The walk through an expression; what is read.
-/
import Derived.Test.YtepfokoepibkcaaRt
namespace Go.Proofs.Ytepfokoepibkcaa
open Go.RowKit D
theorem visit_n {w0 : World} {kM kO kA kV mb : Nat} : ∀ (x : Ex), LEx w0 x → ∀ {S : Nat → Prop} {w : World} {L : List Rd}, VS w0 S w kM kO kA kV mb L → L.length + nd x ≤ 4000000 → Calls Try.prog 34 #[.agg (x.cells).toArray, pt kA 0, pt kV 0] w fun e w' => e = .returned (.tuple #[]) ∧ VR w0 S w kM kO kA kV mb w' (vis x L) := by
  refine Ex.ind2 ?_
  intro x ih hL S w L hV hz
  have aA := hV.aA
  have aV := hV.aV
  refine w_enter 35 Try.func34 Try.ntmps34 rfl rfl ?_
  have M : Mo w w := Mo.refl _
  refine w_seq ?_
  refine w_reg ?_
  refine wl_box 38 (.tmp 0) (.agg (x.cells).toArray) (((x.cells).toArray)) rfl rfl (fun _ => by kernel_rfl) rfl ?_
  intro k1 u1 hk hz hq Q1
  have ne_kA_k1 : kA ≠ k1 := by have := aA.lt; omega
  have ne_kV_k1 : kV ≠ k1 := by have := aV.lt; omega
  have N_k1 : w.heap.size ≤ k1 := by have := M.size; omega
  replace aA := aA.mo hq
  replace aV := aV.mo hq
  replace M := M.trans hq
  clear hk hz hq
  refine w_nil ?_
  refine xn_then ?_
  refine w_seq ?_
  refine w_seq ?_
  refine w_reg ?_
  refine wl_un (fun v => Instr.fieldAt 38 v 0) (.tmp 3) (pt k1 0) (pt k1 0) (fun _ => rfl) rfl (by kernel_rfl) rfl ?_
  refine wl_load 3 (.tmp 6) (pt k1 0) (.int .i64 (x.k)) rfl rfl (run_one Q1 3 0 rfl Try.underlying3 rfl) rfl ?_
  refine w_nil ?_
  refine xn_then ?_
  refine w_block ?_
  refine w_seq ?_
  refine w_reg ?_
  cases hf0 : decide (x.k = 2) with
  | true =>
    have hf0p := of_decide_eq_true hf0
    refine wl_bin (fun x y => do eqGuard .eql 3 (.tmp 7) (.const (.int .i64 (2))) x y; binOp .eql 3 x y) (.tmp 7) (.const (.int .i64 (2))) (.int .i64 (x.k)) (.int .i64 (2)) (.bool true) (fun _ => rfl) rfl rfl (eq3 hf0 _ _ _) rfl ?_
    refine wl_mv (.tmp 9) (.bool true) (fun _ => rfl) rfl rfl ?_
    refine w_nil ?_
    refine xn_then ?_
    refine w_condT rfl ?_
    refine w_reg ?_
    refine wl_load 85 (.tmp 1) (pt kA 0) (.func (.func 33) #[] #[pt kM 0, pt kO 0]) rfl rfl (run_one aA 85 0 rfl Try.underlying85 rfl) rfl ?_
    refine wl_un (fun v => Instr.fieldAt 38 v 2) (.tmp 3) (pt k1 0) (pt k1 2) (fun _ => rfl) rfl (by kernel_rfl) rfl ?_
    refine wl_load 9 (.tmp 11) (pt k1 2) (.string x.nm) rfl rfl (run_one Q1 9 2 rfl Try.underlying9 rfl) rfl ?_
    refine wl_build 42 [(1, (.tmp 12))] [(1, .string x.nm)] (.agg #[.string ⟨#[]⟩, .string x.nm]) rfl rfl (by kernel_rfl) rfl ?_
    refine wl_callv 33 (.tmp 10) #[] #[pt kM 0, pt kO 0] [(.tmp 13)] _ [.agg #[.string ⟨#[]⟩, .string x.nm]] [.agg #[.string ⟨#[]⟩, .string x.nm], pt kM 0, pt kO 0] rfl rfl rfl rfl (fun _ _ => by kernel_rfl) (add_n (hV.mo M).st (⟨#[]⟩, x.nm) (by have := nd_pos x; omega) (hV.mo M).kp.size) rfl ?_
    rintro e9 u2 ⟨rfl, S1, hs1, m9, hl9⟩
    refine ⟨_, rfl, ?_⟩
    have hR := VR.tr (Mk.of S M) (fun _ _ s => s) ((hV.mo M).call hs1 m9 hl9)
    replace Q1 := m9.at Q1 (fun s => by have := hV.st.lt _ s; omega)
    clear M
    have M : Mo u2 u2 := Mo.refl _
    refine w_nil ?_
    refine xn_blk ?_
    refine xn_then ?_
    refine w_seq ?_
    refine w_reg ?_
    refine wl_un (fun v => Instr.fieldAt 38 v 7) (.tmp 3) (pt k1 0) (pt k1 16) (fun _ => rfl) rfl (by kernel_rfl) rfl ?_
    refine wl_load 36 (.tmp 24) (pt k1 16) (.slice x.pa x.args.length x.cap) rfl rfl (run_one Q1 36 16 rfl Try.underlying36 rfl) rfl ?_
    refine wl_val (.int .i64 ((x.args.length : Nat) : Int)) (len36 _ _ _ _ _ (by exact rfl) _ _ _ _ _ _) rfl ?_
    refine wl_mv (.const (.int .i64 (0))) (.int .i64 (0)) (fun _ => rfl) rfl rfl ?_
    refine w_nil ?_
    refine xn_then ?_
    refine w_block ?_
    have hz9 := hL.sl.1
    unfold maxLen at hz9
    have hE : VR w0 S w kM kO kA kV mb u2 ((ownR x.k x.nm x.se).foldl ins L) := by rw [ownR, if_pos hf0p]; exact hR.mo M
    refine w_loop (fun m l w1 => ∃ i : Nat, m = x.args.length - i ∧ i ≤ x.args.length ∧ look l 2 = pt kV 0 ∧ look l 25 = .slice x.pa x.args.length x.cap ∧ look l 26 = .int .i64 ((x.args.length : Nat) : Int) ∧ look l 27 = .int .i64 ((i : Nat) : Int) ∧ VR w0 S w kM kO kA kV mb w1 ((x.args.take i).foldl (fun o a => vis a o) ((ownR x.k x.nm x.se).foldl ins L))) _ ⟨0, rfl, Nat.zero_le _, rfl, rfl, rfl, rfl, hE⟩ ?_
    clear Q1 M
    rintro m l40 wl40 ⟨i, rfl, hi, e40_2, e40_25, e40_26, e40_i, hE⟩
    by_cases hil : i < x.args.length
    · skip
      have hid : decide (i < x.args.length) = true := decide_eq_true hil
      obtain ⟨S1, hV1, hm1, hl1⟩ := hE
      have M : Mo wl40 wl40 := Mo.refl _
      obtain ⟨a, ha⟩ := get_of_lt hil
      have hma := List.mem_of_getElem? ha
      have hS1 := hL.sl.kp hV1.kp
      have aV := hV1.aV
      obtain ⟨bp, op, hpp, hRp⟩ := D.SL.rw hS1 ha
      refine w_seq ?_
      refine w_reg ?_
      refine wl_bin (fun x y => do eqGuard .lss 3 (.tmp 27) (.tmp 26) x y; binOp .lss 3 x y) (.tmp 27) (.tmp 26) (.int .i64 ((i : Nat) : Int)) (.int .i64 ((x.args.length : Nat) : Int)) (.bool true) (fun _ => rfl) e40_i e40_26 (ltN hid _ _ _) rfl ?_
      refine w_nil ?_
      refine xn_then ?_
      refine w_seq ?_
      refine w_condT rfl ?_
      refine w_skip ?_
      refine xn_then ?_
      refine w_seq ?_
      refine w_block ?_
      refine w_seq ?_
      refine w_reg ?_
      refine wl_bin (fun x y => Instr.indexAt 36 x y) (.tmp 25) (.tmp 27) (.slice x.pa x.args.length x.cap) (.int .i64 ((i : Nat) : Int)) (pt bp (op + i * 17)) (fun _ => rfl) e40_25 e40_i (ix36 (i := i) hpp hil _) rfl ?_
      refine wl_load 38 (.tmp 29) (pt bp (op + i * 17)) (.agg (a.cells).toArray) rfl rfl (D.run_partR (hRp.mo M).at' 38 0 17 (a.cells) rfl Try.underlying38 rfl sz38) rfl ?_
      refine wl_alloc 38 #[.int .i64 0, .int .i64 0, .string ⟨#[]⟩, .string ⟨#[]⟩, .int .i64 0, .bool false, .int .u64 0, .int .u64 0, .int .u64 0, .int .u64 0, .int .i64 0, .bool false, .string ⟨#[]⟩, .int .i64 0, .int .i64 0, .int .i64 0, .slice none 0 0] rfl (fun _ => by kernel_rfl) rfl ?_
      intro k2 u41 hk hz hq Q2
      have ne_kV_k2 : kV ≠ k2 := by have := aV.lt; omega
      have N_k2 : wl40.heap.size ≤ k2 := by have := M.size; omega
      replace aV := aV.mo hq
      replace M := M.trans hq
      clear hk hz hq
      refine wl_st 38 (.tmp 5) (.tmp 30) k2 0 ((a.cells).toArray) [.int .i64 0, .int .i64 0, .string ⟨#[]⟩, .string ⟨#[]⟩, .int .i64 0, .bool false, .int .u64 0, .int .u64 0, .int .u64 0, .int .u64 0, .int .i64 0, .bool false, .string ⟨#[]⟩, .int .i64 0, .int .i64 0, .int .i64 0, .slice none 0 0] (a.cells) Q2 rfl rfl rfl rfl rfl sz38 rfl rfl rfl ?_
      intro u42 hS Qn
      replace Q2 := Qn
      clear Qn
      replace aV := hS.other _ _ ne_kV_k2 aV
      replace M := hS.mo _ N_k2 M
      clear hS
      refine w_nil ?_
      refine xn_then ?_
      refine w_reg ?_
      refine wl_load 86 (.tmp 2) (pt kV 0) (.func (.func 34) #[] #[pt kA 0, pt kV 0]) rfl e40_2 (run_one aV 86 0 rfl Try.underlying86 rfl) rfl ?_
      refine wl_load 38 (.tmp 5) (pt k2 0) (.agg (a.cells).toArray) rfl rfl (run_row Q2 38 0 17 (a.cells) rfl Try.underlying38 rfl sz38) rfl ?_
      refine wl_callv 34 (.tmp 31) #[] #[pt kA 0, pt kV 0] [(.tmp 32)] _ [.agg (a.cells).toArray] [.agg (a.cells).toArray, pt kA 0, pt kV 0] rfl rfl rfl rfl (fun _ _ => by kernel_rfl) (ih a hma (hL.ar a hma) (hV1.mo M) (vb hz ha)) rfl ?_
      rintro e9 u43 ⟨rfl, hR9⟩
      refine ⟨_, rfl, ?_⟩
      have hE2 := VR.tr (hm1.trans M) hl1 hR9
      refine w_nil ?_
      refine xn_blk ?_
      refine xn_then ?_
      refine w_reg ?_
      refine wl_bin (fun x y => do eqGuard .add 3 (.tmp 27) (.const (.int .i64 (1))) x y; binOp .add 3 x y) (.tmp 27) (.const (.int .i64 (1))) (.int .i64 ((i : Nat) : Int)) (.int .i64 (1)) (.int .i64 ((i + 1 : Nat) : Int)) (fun _ => rfl) e40_i rfl (add1r (k := i) (by omega) _ _ _) rfl ?_
      refine wl_mv (.tmp 34) (.int .i64 ((i + 1 : Nat) : Int)) (fun _ => rfl) rfl rfl ?_
      refine w_nil ?_
      exact xn_loop (x.args.length - (i + 1)) (by omega) ⟨i + 1, rfl, by omega, e40_2, e40_25, e40_26, rfl, by rw [foldl_s ha]; exact hE2⟩
    · skip
      have hid : decide (i < x.args.length) = false := decide_eq_false hil
      have hie : i = x.args.length := by omega
      have M : Mo wl40 wl40 := Mo.refl _
      refine w_seq ?_
      refine w_reg ?_
      refine wl_bin (fun x y => do eqGuard .lss 3 (.tmp 27) (.tmp 26) x y; binOp .lss 3 x y) (.tmp 27) (.tmp 26) (.int .i64 ((i : Nat) : Int)) (.int .i64 ((x.args.length : Nat) : Int)) (.bool false) (fun _ => rfl) e40_i e40_26 (ltN hid _ _ _) rfl ?_
      refine w_nil ?_
      refine xn_then ?_
      refine w_seq ?_
      refine w_condF rfl ?_
      refine w_exit ?_
      refine xx_then ?_
      refine xx_then ?_
      refine xx_blk ?_
      exact w_end0 rfl ⟨rfl, by rw [vis_eq]; rw [hie, List.take_length] at hE; exact hE.mo M⟩
  | false =>
    have hf0p := of_decide_eq_false hf0
    refine wl_bin (fun x y => do eqGuard .eql 3 (.tmp 7) (.const (.int .i64 (2))) x y; binOp .eql 3 x y) (.tmp 7) (.const (.int .i64 (2))) (.int .i64 (x.k)) (.int .i64 (2)) (.bool false) (fun _ => rfl) rfl rfl (eq3 hf0 _ _ _) rfl ?_
    refine wl_mv (.tmp 9) (.bool false) (fun _ => rfl) rfl rfl ?_
    refine w_nil ?_
    refine xn_then ?_
    refine w_condF rfl ?_
    refine w_seq ?_
    refine w_reg ?_
    cases hf1 : decide (x.k = 10) with
    | true =>
      have hf1p := of_decide_eq_true hf1
      refine wl_bin (fun x y => do eqGuard .eql 3 (.tmp 7) (.const (.int .i64 (10))) x y; binOp .eql 3 x y) (.tmp 7) (.const (.int .i64 (10))) (.int .i64 (x.k)) (.int .i64 (10)) (.bool true) (fun _ => rfl) rfl rfl (eq3 hf1 _ _ _) rfl ?_
      refine wl_mv (.tmp 16) (.bool true) (fun _ => rfl) rfl rfl ?_
      refine w_nil ?_
      refine xn_then ?_
      refine w_condT rfl ?_
      refine w_reg ?_
      refine wl_load 85 (.tmp 1) (pt kA 0) (.func (.func 33) #[] #[pt kM 0, pt kO 0]) rfl rfl (run_one aA 85 0 rfl Try.underlying85 rfl) rfl ?_
      refine wl_un (fun v => Instr.fieldAt 38 v 3) (.tmp 3) (pt k1 0) (pt k1 3) (fun _ => rfl) rfl (by kernel_rfl) rfl ?_
      refine wl_load 9 (.tmp 18) (pt k1 3) (.string x.se) rfl rfl (run_one Q1 9 3 rfl Try.underlying9 rfl) rfl ?_
      refine wl_un (fun v => Instr.fieldAt 38 v 2) (.tmp 3) (pt k1 0) (pt k1 2) (fun _ => rfl) rfl (by kernel_rfl) rfl ?_
      refine wl_load 9 (.tmp 20) (pt k1 2) (.string x.nm) rfl rfl (run_one Q1 9 2 rfl Try.underlying9 rfl) rfl ?_
      refine wl_build 42 [(0, (.tmp 19)), (1, (.tmp 21))] [(0, .string x.se), (1, .string x.nm)] (.agg #[.string x.se, .string x.nm]) rfl rfl (by kernel_rfl) rfl ?_
      refine wl_callv 33 (.tmp 17) #[] #[pt kM 0, pt kO 0] [(.tmp 22)] _ [.agg #[.string x.se, .string x.nm]] [.agg #[.string x.se, .string x.nm], pt kM 0, pt kO 0] rfl rfl rfl rfl (fun _ _ => by kernel_rfl) (add_n (hV.mo M).st (x.se, x.nm) (by have := nd_pos x; omega) (hV.mo M).kp.size) rfl ?_
      rintro e9 u2 ⟨rfl, S1, hs1, m9, hl9⟩
      refine ⟨_, rfl, ?_⟩
      have hR := VR.tr (Mk.of S M) (fun _ _ s => s) ((hV.mo M).call hs1 m9 hl9)
      replace Q1 := m9.at Q1 (fun s => by have := hV.st.lt _ s; omega)
      clear M
      have M : Mo u2 u2 := Mo.refl _
      refine w_nil ?_
      refine xn_blk ?_
      refine xn_then ?_
      refine w_seq ?_
      refine w_reg ?_
      refine wl_un (fun v => Instr.fieldAt 38 v 7) (.tmp 3) (pt k1 0) (pt k1 16) (fun _ => rfl) rfl (by kernel_rfl) rfl ?_
      refine wl_load 36 (.tmp 24) (pt k1 16) (.slice x.pa x.args.length x.cap) rfl rfl (run_one Q1 36 16 rfl Try.underlying36 rfl) rfl ?_
      refine wl_val (.int .i64 ((x.args.length : Nat) : Int)) (len36 _ _ _ _ _ (by exact rfl) _ _ _ _ _ _) rfl ?_
      refine wl_mv (.const (.int .i64 (0))) (.int .i64 (0)) (fun _ => rfl) rfl rfl ?_
      refine w_nil ?_
      refine xn_then ?_
      refine w_block ?_
      have hz9 := hL.sl.1
      unfold maxLen at hz9
      have hE : VR w0 S w kM kO kA kV mb u2 ((ownR x.k x.nm x.se).foldl ins L) := by rw [ownR, if_neg hf0p, if_pos hf1p]; exact hR.mo M
      refine w_loop (fun m l w1 => ∃ i : Nat, m = x.args.length - i ∧ i ≤ x.args.length ∧ look l 2 = pt kV 0 ∧ look l 25 = .slice x.pa x.args.length x.cap ∧ look l 26 = .int .i64 ((x.args.length : Nat) : Int) ∧ look l 27 = .int .i64 ((i : Nat) : Int) ∧ VR w0 S w kM kO kA kV mb w1 ((x.args.take i).foldl (fun o a => vis a o) ((ownR x.k x.nm x.se).foldl ins L))) _ ⟨0, rfl, Nat.zero_le _, rfl, rfl, rfl, rfl, hE⟩ ?_
      clear Q1 M
      rintro m l40 wl40 ⟨i, rfl, hi, e40_2, e40_25, e40_26, e40_i, hE⟩
      by_cases hil : i < x.args.length
      · skip
        have hid : decide (i < x.args.length) = true := decide_eq_true hil
        obtain ⟨S1, hV1, hm1, hl1⟩ := hE
        have M : Mo wl40 wl40 := Mo.refl _
        obtain ⟨a, ha⟩ := get_of_lt hil
        have hma := List.mem_of_getElem? ha
        have hS1 := hL.sl.kp hV1.kp
        have aV := hV1.aV
        obtain ⟨bp, op, hpp, hRp⟩ := D.SL.rw hS1 ha
        refine w_seq ?_
        refine w_reg ?_
        refine wl_bin (fun x y => do eqGuard .lss 3 (.tmp 27) (.tmp 26) x y; binOp .lss 3 x y) (.tmp 27) (.tmp 26) (.int .i64 ((i : Nat) : Int)) (.int .i64 ((x.args.length : Nat) : Int)) (.bool true) (fun _ => rfl) e40_i e40_26 (ltN hid _ _ _) rfl ?_
        refine w_nil ?_
        refine xn_then ?_
        refine w_seq ?_
        refine w_condT rfl ?_
        refine w_skip ?_
        refine xn_then ?_
        refine w_seq ?_
        refine w_block ?_
        refine w_seq ?_
        refine w_reg ?_
        refine wl_bin (fun x y => Instr.indexAt 36 x y) (.tmp 25) (.tmp 27) (.slice x.pa x.args.length x.cap) (.int .i64 ((i : Nat) : Int)) (pt bp (op + i * 17)) (fun _ => rfl) e40_25 e40_i (ix36 (i := i) hpp hil _) rfl ?_
        refine wl_load 38 (.tmp 29) (pt bp (op + i * 17)) (.agg (a.cells).toArray) rfl rfl (D.run_partR (hRp.mo M).at' 38 0 17 (a.cells) rfl Try.underlying38 rfl sz38) rfl ?_
        refine wl_alloc 38 #[.int .i64 0, .int .i64 0, .string ⟨#[]⟩, .string ⟨#[]⟩, .int .i64 0, .bool false, .int .u64 0, .int .u64 0, .int .u64 0, .int .u64 0, .int .i64 0, .bool false, .string ⟨#[]⟩, .int .i64 0, .int .i64 0, .int .i64 0, .slice none 0 0] rfl (fun _ => by kernel_rfl) rfl ?_
        intro k2 u41 hk hz hq Q2
        have ne_kV_k2 : kV ≠ k2 := by have := aV.lt; omega
        have N_k2 : wl40.heap.size ≤ k2 := by have := M.size; omega
        replace aV := aV.mo hq
        replace M := M.trans hq
        clear hk hz hq
        refine wl_st 38 (.tmp 5) (.tmp 30) k2 0 ((a.cells).toArray) [.int .i64 0, .int .i64 0, .string ⟨#[]⟩, .string ⟨#[]⟩, .int .i64 0, .bool false, .int .u64 0, .int .u64 0, .int .u64 0, .int .u64 0, .int .i64 0, .bool false, .string ⟨#[]⟩, .int .i64 0, .int .i64 0, .int .i64 0, .slice none 0 0] (a.cells) Q2 rfl rfl rfl rfl rfl sz38 rfl rfl rfl ?_
        intro u42 hS Qn
        replace Q2 := Qn
        clear Qn
        replace aV := hS.other _ _ ne_kV_k2 aV
        replace M := hS.mo _ N_k2 M
        clear hS
        refine w_nil ?_
        refine xn_then ?_
        refine w_reg ?_
        refine wl_load 86 (.tmp 2) (pt kV 0) (.func (.func 34) #[] #[pt kA 0, pt kV 0]) rfl e40_2 (run_one aV 86 0 rfl Try.underlying86 rfl) rfl ?_
        refine wl_load 38 (.tmp 5) (pt k2 0) (.agg (a.cells).toArray) rfl rfl (run_row Q2 38 0 17 (a.cells) rfl Try.underlying38 rfl sz38) rfl ?_
        refine wl_callv 34 (.tmp 31) #[] #[pt kA 0, pt kV 0] [(.tmp 32)] _ [.agg (a.cells).toArray] [.agg (a.cells).toArray, pt kA 0, pt kV 0] rfl rfl rfl rfl (fun _ _ => by kernel_rfl) (ih a hma (hL.ar a hma) (hV1.mo M) (vb hz ha)) rfl ?_
        rintro e9 u43 ⟨rfl, hR9⟩
        refine ⟨_, rfl, ?_⟩
        have hE2 := VR.tr (hm1.trans M) hl1 hR9
        refine w_nil ?_
        refine xn_blk ?_
        refine xn_then ?_
        refine w_reg ?_
        refine wl_bin (fun x y => do eqGuard .add 3 (.tmp 27) (.const (.int .i64 (1))) x y; binOp .add 3 x y) (.tmp 27) (.const (.int .i64 (1))) (.int .i64 ((i : Nat) : Int)) (.int .i64 (1)) (.int .i64 ((i + 1 : Nat) : Int)) (fun _ => rfl) e40_i rfl (add1r (k := i) (by omega) _ _ _) rfl ?_
        refine wl_mv (.tmp 34) (.int .i64 ((i + 1 : Nat) : Int)) (fun _ => rfl) rfl rfl ?_
        refine w_nil ?_
        exact xn_loop (x.args.length - (i + 1)) (by omega) ⟨i + 1, rfl, by omega, e40_2, e40_25, e40_26, rfl, by rw [foldl_s ha]; exact hE2⟩
      · skip
        have hid : decide (i < x.args.length) = false := decide_eq_false hil
        have hie : i = x.args.length := by omega
        have M : Mo wl40 wl40 := Mo.refl _
        refine w_seq ?_
        refine w_reg ?_
        refine wl_bin (fun x y => do eqGuard .lss 3 (.tmp 27) (.tmp 26) x y; binOp .lss 3 x y) (.tmp 27) (.tmp 26) (.int .i64 ((i : Nat) : Int)) (.int .i64 ((x.args.length : Nat) : Int)) (.bool false) (fun _ => rfl) e40_i e40_26 (ltN hid _ _ _) rfl ?_
        refine w_nil ?_
        refine xn_then ?_
        refine w_seq ?_
        refine w_condF rfl ?_
        refine w_exit ?_
        refine xx_then ?_
        refine xx_then ?_
        refine xx_blk ?_
        exact w_end0 rfl ⟨rfl, by rw [vis_eq]; rw [hie, List.take_length] at hE; exact hE.mo M⟩
    | false =>
      have hf1p := of_decide_eq_false hf1
      refine wl_bin (fun x y => do eqGuard .eql 3 (.tmp 7) (.const (.int .i64 (10))) x y; binOp .eql 3 x y) (.tmp 7) (.const (.int .i64 (10))) (.int .i64 (x.k)) (.int .i64 (10)) (.bool false) (fun _ => rfl) rfl rfl (eq3 hf1 _ _ _) rfl ?_
      refine wl_mv (.tmp 16) (.bool false) (fun _ => rfl) rfl rfl ?_
      refine w_nil ?_
      refine xn_then ?_
      refine w_condF rfl ?_
      refine w_skip ?_
      refine xn_blk ?_
      refine xn_then ?_
      refine w_seq ?_
      refine w_reg ?_
      refine wl_un (fun v => Instr.fieldAt 38 v 7) (.tmp 3) (pt k1 0) (pt k1 16) (fun _ => rfl) rfl (by kernel_rfl) rfl ?_
      refine wl_load 36 (.tmp 24) (pt k1 16) (.slice x.pa x.args.length x.cap) rfl rfl (run_one Q1 36 16 rfl Try.underlying36 rfl) rfl ?_
      refine wl_val (.int .i64 ((x.args.length : Nat) : Int)) (len36 _ _ _ _ _ (by exact rfl) _ _ _ _ _ _) rfl ?_
      refine wl_mv (.const (.int .i64 (0))) (.int .i64 (0)) (fun _ => rfl) rfl rfl ?_
      refine w_nil ?_
      refine xn_then ?_
      refine w_block ?_
      have hz9 := hL.sl.1
      unfold maxLen at hz9
      have hE : VR w0 S w kM kO kA kV mb u1 ((ownR x.k x.nm x.se).foldl ins L) := by rw [ownR, if_neg hf0p, if_neg hf1p]; exact VR.of hV M
      refine w_loop (fun m l w1 => ∃ i : Nat, m = x.args.length - i ∧ i ≤ x.args.length ∧ look l 2 = pt kV 0 ∧ look l 25 = .slice x.pa x.args.length x.cap ∧ look l 26 = .int .i64 ((x.args.length : Nat) : Int) ∧ look l 27 = .int .i64 ((i : Nat) : Int) ∧ VR w0 S w kM kO kA kV mb w1 ((x.args.take i).foldl (fun o a => vis a o) ((ownR x.k x.nm x.se).foldl ins L))) _ ⟨0, rfl, Nat.zero_le _, rfl, rfl, rfl, rfl, hE⟩ ?_
      clear aA aV Q1 M
      rintro m l40 wl40 ⟨i, rfl, hi, e40_2, e40_25, e40_26, e40_i, hE⟩
      by_cases hil : i < x.args.length
      · skip
        have hid : decide (i < x.args.length) = true := decide_eq_true hil
        obtain ⟨S1, hV1, hm1, hl1⟩ := hE
        have M : Mo wl40 wl40 := Mo.refl _
        obtain ⟨a, ha⟩ := get_of_lt hil
        have hma := List.mem_of_getElem? ha
        have hS1 := hL.sl.kp hV1.kp
        have aV := hV1.aV
        obtain ⟨bp, op, hpp, hRp⟩ := D.SL.rw hS1 ha
        refine w_seq ?_
        refine w_reg ?_
        refine wl_bin (fun x y => do eqGuard .lss 3 (.tmp 27) (.tmp 26) x y; binOp .lss 3 x y) (.tmp 27) (.tmp 26) (.int .i64 ((i : Nat) : Int)) (.int .i64 ((x.args.length : Nat) : Int)) (.bool true) (fun _ => rfl) e40_i e40_26 (ltN hid _ _ _) rfl ?_
        refine w_nil ?_
        refine xn_then ?_
        refine w_seq ?_
        refine w_condT rfl ?_
        refine w_skip ?_
        refine xn_then ?_
        refine w_seq ?_
        refine w_block ?_
        refine w_seq ?_
        refine w_reg ?_
        refine wl_bin (fun x y => Instr.indexAt 36 x y) (.tmp 25) (.tmp 27) (.slice x.pa x.args.length x.cap) (.int .i64 ((i : Nat) : Int)) (pt bp (op + i * 17)) (fun _ => rfl) e40_25 e40_i (ix36 (i := i) hpp hil _) rfl ?_
        refine wl_load 38 (.tmp 29) (pt bp (op + i * 17)) (.agg (a.cells).toArray) rfl rfl (D.run_partR (hRp.mo M).at' 38 0 17 (a.cells) rfl Try.underlying38 rfl sz38) rfl ?_
        refine wl_alloc 38 #[.int .i64 0, .int .i64 0, .string ⟨#[]⟩, .string ⟨#[]⟩, .int .i64 0, .bool false, .int .u64 0, .int .u64 0, .int .u64 0, .int .u64 0, .int .i64 0, .bool false, .string ⟨#[]⟩, .int .i64 0, .int .i64 0, .int .i64 0, .slice none 0 0] rfl (fun _ => by kernel_rfl) rfl ?_
        intro k2 u41 hk hz hq Q2
        have ne_kV_k2 : kV ≠ k2 := by have := aV.lt; omega
        have N_k2 : wl40.heap.size ≤ k2 := by have := M.size; omega
        replace aV := aV.mo hq
        replace M := M.trans hq
        clear hk hz hq
        refine wl_st 38 (.tmp 5) (.tmp 30) k2 0 ((a.cells).toArray) [.int .i64 0, .int .i64 0, .string ⟨#[]⟩, .string ⟨#[]⟩, .int .i64 0, .bool false, .int .u64 0, .int .u64 0, .int .u64 0, .int .u64 0, .int .i64 0, .bool false, .string ⟨#[]⟩, .int .i64 0, .int .i64 0, .int .i64 0, .slice none 0 0] (a.cells) Q2 rfl rfl rfl rfl rfl sz38 rfl rfl rfl ?_
        intro u42 hS Qn
        replace Q2 := Qn
        clear Qn
        replace aV := hS.other _ _ ne_kV_k2 aV
        replace M := hS.mo _ N_k2 M
        clear hS
        refine w_nil ?_
        refine xn_then ?_
        refine w_reg ?_
        refine wl_load 86 (.tmp 2) (pt kV 0) (.func (.func 34) #[] #[pt kA 0, pt kV 0]) rfl e40_2 (run_one aV 86 0 rfl Try.underlying86 rfl) rfl ?_
        refine wl_load 38 (.tmp 5) (pt k2 0) (.agg (a.cells).toArray) rfl rfl (run_row Q2 38 0 17 (a.cells) rfl Try.underlying38 rfl sz38) rfl ?_
        refine wl_callv 34 (.tmp 31) #[] #[pt kA 0, pt kV 0] [(.tmp 32)] _ [.agg (a.cells).toArray] [.agg (a.cells).toArray, pt kA 0, pt kV 0] rfl rfl rfl rfl (fun _ _ => by kernel_rfl) (ih a hma (hL.ar a hma) (hV1.mo M) (vb hz ha)) rfl ?_
        rintro e9 u43 ⟨rfl, hR9⟩
        refine ⟨_, rfl, ?_⟩
        have hE2 := VR.tr (hm1.trans M) hl1 hR9
        refine w_nil ?_
        refine xn_blk ?_
        refine xn_then ?_
        refine w_reg ?_
        refine wl_bin (fun x y => do eqGuard .add 3 (.tmp 27) (.const (.int .i64 (1))) x y; binOp .add 3 x y) (.tmp 27) (.const (.int .i64 (1))) (.int .i64 ((i : Nat) : Int)) (.int .i64 (1)) (.int .i64 ((i + 1 : Nat) : Int)) (fun _ => rfl) e40_i rfl (add1r (k := i) (by omega) _ _ _) rfl ?_
        refine wl_mv (.tmp 34) (.int .i64 ((i + 1 : Nat) : Int)) (fun _ => rfl) rfl rfl ?_
        refine w_nil ?_
        exact xn_loop (x.args.length - (i + 1)) (by omega) ⟨i + 1, rfl, by omega, e40_2, e40_25, e40_26, rfl, by rw [foldl_s ha]; exact hE2⟩
      · skip
        have hid : decide (i < x.args.length) = false := decide_eq_false hil
        have hie : i = x.args.length := by omega
        have M : Mo wl40 wl40 := Mo.refl _
        refine w_seq ?_
        refine w_reg ?_
        refine wl_bin (fun x y => do eqGuard .lss 3 (.tmp 27) (.tmp 26) x y; binOp .lss 3 x y) (.tmp 27) (.tmp 26) (.int .i64 ((i : Nat) : Int)) (.int .i64 ((x.args.length : Nat) : Int)) (.bool false) (fun _ => rfl) e40_i e40_26 (ltN hid _ _ _) rfl ?_
        refine w_nil ?_
        refine xn_then ?_
        refine w_seq ?_
        refine w_condF rfl ?_
        refine w_exit ?_
        refine xx_then ?_
        refine xx_then ?_
        refine xx_blk ?_
        exact w_end0 rfl ⟨rfl, by rw [vis_eq]; rw [hie, List.take_length] at hE; exact hE.mo M⟩
theorem reads_n (x : Ex) {w : World} (hL : LEx w x) (hz : nd x ≤ 4000000) : Calls Try.prog 15 #[.agg (x.cells).toArray] w fun e w' => ∃ pa cap, e = .returned (.slice pa (rds x).length cap) ∧ SL w' 2 rdc pa (rds x) ∧ Mo w w' := by
  refine w_enter 14 Try.func15 Try.ntmps15 rfl rfl ?_
  have M : Mo w w := Mo.refl _
  refine w_seq ?_
  refine w_reg ?_
  refine wl_box 38 (.tmp 0) (.agg (x.cells).toArray) (((x.cells).toArray)) rfl rfl (fun _ => by kernel_rfl) rfl ?_
  intro k1 u1 hk hz hq Q1
  have N_k1 : w.heap.size ≤ k1 := by have := M.size; omega
  replace M := M.trans hq
  clear hk hz hq
  refine wl_mv (.const (.slice none 0 0)) (.slice none 0 0) (fun _ => rfl) rfl rfl ?_
  refine w_nil ?_
  refine xn_then ?_
  refine w_seq ?_
  refine w_reg ?_
  refine wl_alloc 40 #[.slice none 0 0] rfl (fun _ => by kernel_rfl) rfl ?_
  intro k2 u2 hk hz hq Q2
  have ne_k1_k2 : k1 ≠ k2 := by have := Q1.lt; omega
  have N_k2 : w.heap.size ≤ k2 := by have := M.size; omega
  replace Q1 := Q1.mo hq
  replace M := M.trans hq
  clear hk hz hq
  refine w_nil ?_
  refine xn_then ?_
  refine w_seq ?_
  refine w_reg ?_
  refine wl_mmR rfl rfl ?_
  intro mb u3 hk hz9 hq hOM
  have hmb : w.heap.size ≤ mb := by have := M.size; omega
  replace Q1 := Q1.mo hq
  replace Q2 := Q2.mo hq
  have M0 := M.trans hq
  clear M
  have M : Mo u3 u3 := Mo.refl _
  clear hk hz9 hq
  refine wl_alloc 84 #[.map none] rfl (fun _ => by kernel_rfl) rfl ?_
  intro k3 u4 hk hz hq Q3
  have ne_k1_k3 : k1 ≠ k3 := by have := Q1.lt; omega
  have ne_k2_k3 : k2 ≠ k3 := by have := Q2.lt; omega
  have N_k3 : u3.heap.size ≤ k3 := by have := M.size; omega
  replace Q1 := Q1.mo hq
  replace Q2 := Q2.mo hq
  replace M := M.trans hq
  clear hk hz hq
  refine wl_st1 84 (.tmp 4) (.tmp 7) k3 0 (.map (some mb)) [.map none] [.map (some mb)] Q3 rfl rfl rfl rfl rfl sz84 rfl rfl rfl rfl ?_
  intro u5 hS Qn
  replace Q3 := Qn
  clear Qn
  replace Q1 := hS.other _ _ ne_k1_k3 Q1
  replace Q2 := hS.other _ _ ne_k2_k3 Q2
  replace M := hS.mo _ N_k3 M
  clear hS
  refine w_nil ?_
  refine xn_then ?_
  refine w_seq ?_
  refine w_reg ?_
  refine wl_mf (.func 33) [] [(.tmp 4), (.tmp 3)] [] [pt k3 0, pt k2 0] rfl rfl rfl rfl ?_
  refine wl_alloc 85 #[.nilFunc] rfl (fun _ => by kernel_rfl) rfl ?_
  intro k4 u6 hk hz hq Q4
  have ne_k1_k4 : k1 ≠ k4 := by have := Q1.lt; omega
  have ne_k2_k4 : k2 ≠ k4 := by have := Q2.lt; omega
  have ne_k3_k4 : k3 ≠ k4 := by have := Q3.lt; omega
  have N_k4 : u3.heap.size ≤ k4 := by have := M.size; omega
  replace Q1 := Q1.mo hq
  replace Q2 := Q2.mo hq
  replace Q3 := Q3.mo hq
  replace M := M.trans hq
  clear hk hz hq
  refine wl_st1 85 (.tmp 5) (.tmp 8) k4 0 (.func (.func 33) #[] #[pt k3 0, pt k2 0]) [.nilFunc] [.func (.func 33) #[] #[pt k3 0, pt k2 0]] Q4 rfl rfl rfl rfl rfl sz85 rfl rfl rfl rfl ?_
  intro u7 hS Qn
  replace Q4 := Qn
  clear Qn
  replace Q1 := hS.other _ _ ne_k1_k4 Q1
  replace Q2 := hS.other _ _ ne_k2_k4 Q2
  replace Q3 := hS.other _ _ ne_k3_k4 Q3
  replace M := hS.mo _ N_k4 M
  clear hS
  refine w_nil ?_
  refine xn_then ?_
  refine w_seq ?_
  refine w_reg ?_
  refine wl_alloc 86 #[.nilFunc] rfl (fun _ => by kernel_rfl) rfl ?_
  intro k5 u8 hk hz hq Q5
  have ne_k1_k5 : k1 ≠ k5 := by have := Q1.lt; omega
  have ne_k2_k5 : k2 ≠ k5 := by have := Q2.lt; omega
  have ne_k3_k5 : k3 ≠ k5 := by have := Q3.lt; omega
  have ne_k4_k5 : k4 ≠ k5 := by have := Q4.lt; omega
  have N_k5 : u3.heap.size ≤ k5 := by have := M.size; omega
  replace Q1 := Q1.mo hq
  replace Q2 := Q2.mo hq
  replace Q3 := Q3.mo hq
  replace Q4 := Q4.mo hq
  replace M := M.trans hq
  clear hk hz hq
  refine w_nil ?_
  refine xn_then ?_
  refine w_seq ?_
  refine w_reg ?_
  refine wl_mf (.func 34) [] [(.tmp 5), (.tmp 6)] [] [pt k4 0, pt k5 0] rfl rfl rfl rfl ?_
  refine wl_st1 86 (.tmp 6) (.tmp 9) k5 0 (.func (.func 34) #[] #[pt k4 0, pt k5 0]) [.nilFunc] [.func (.func 34) #[] #[pt k4 0, pt k5 0]] Q5 rfl rfl rfl rfl rfl sz86 rfl rfl rfl rfl ?_
  intro u9 hS Qn
  replace Q5 := Qn
  clear Qn
  replace Q1 := hS.other _ _ ne_k1_k5 Q1
  replace Q2 := hS.other _ _ ne_k2_k5 Q2
  replace Q3 := hS.other _ _ ne_k3_k5 Q3
  replace Q4 := hS.other _ _ ne_k4_k5 Q4
  replace M := hS.mo _ N_k5 M
  clear hS
  refine w_nil ?_
  refine xn_then ?_
  refine w_seq ?_
  refine w_reg ?_
  refine wl_load 86 (.tmp 6) (pt k5 0) (.func (.func 34) #[] #[pt k4 0, pt k5 0]) rfl rfl (run_one Q5 86 0 rfl Try.underlying86 rfl) rfl ?_
  refine wl_load 38 (.tmp 1) (pt k1 0) (.agg (x.cells).toArray) rfl rfl (run_row Q1 38 0 17 (x.cells) rfl Try.underlying38 rfl sz38) rfl ?_
  have hO2 := hOM.mo M
  have hst : ST (fun k => k = k2 ∨ k = mb) u9 w.heap.size k3 k2 mb [] := ⟨Q3, fun e => e.elim (fun e => ne_k2_k3 e.symm) (at_ne Q3 hO2), hO2, Or.inr rfl, Or.inl rfl, ⟨.slice none 0 0, Q2, ⟨rfl, Or.inl ⟨rfl, rfl⟩⟩, fun k e => by cases e⟩, fun k e => e.elim (fun e => e ▸ N_k2) (fun e => e ▸ hmb), fun k e => e.elim (fun e => e ▸ Q2.2.2) (fun e => e ▸ hO2.lt)⟩
  have hV : VS w (fun k => k = k2 ∨ k = mb) u9 k3 k2 k4 k5 mb [] := ⟨hst, Q4, fun e => e.elim (fun e => ne_k2_k4 e.symm) (at_ne Q4 hO2), Q5, fun e => e.elim (fun e => ne_k2_k5 e.symm) (at_ne Q5 hO2), (M0.trans M).kp⟩
  refine wl_callv 34 (.tmp 10) #[] #[pt k4 0, pt k5 0] [(.tmp 11)] _ [.agg (x.cells).toArray] [.agg (x.cells).toArray, pt k4 0, pt k5 0] rfl rfl rfl rfl (fun _ _ => by kernel_rfl) (visit_n x hL hV (by simpa using hz)) rfl ?_
  rintro e9 u10 ⟨rfl, S1, hV1, hm1, hl1⟩
  refine ⟨_, rfl, ?_⟩
  obtain ⟨v, aO, hown, _⟩ := hV1.st.ow
  obtain ⟨pv, cv, rfl, _⟩ := own_form hown
  have hMo := hm1.mo (M0.trans M) (fun k e => e.elim (fun e => e ▸ N_k2) (fun e => e ▸ hmb))
  clear M
  have M : Mo u10 u10 := Mo.refl _
  refine w_nil ?_
  refine xn_then ?_
  refine w_seq ?_
  refine w_reg ?_
  refine wl_load 40 (.tmp 3) (pt k2 0) (.slice pv (vis x []).length cv) rfl rfl (run_one aO 40 0 rfl Try.underlying40 rfl) rfl ?_
  refine wl_mv (.tmp 13) (.slice pv (vis x []).length cv) (fun _ => rfl) rfl rfl ?_
  refine w_nil ?_
  refine xn_then ?_
  refine w_ret ?_
  exact w_ret1 _ (.slice pv (vis x []).length cv) rfl rfl ⟨pv, cv, by rw [vis_nil], by rw [← vis_nil]; exact (own_sl (cells := rdc) (fun _ => rfl) (by have := vis_len x []; unfold maxLen; simp at this; omega) hown).kp M.kp, hMo.trans M⟩
end Go.Proofs.Ytepfokoepibkcaa
