/-
  The law.
-/
import Derived.Test.YtepfokoepibkcaaGreatC4
import Derived.Test.YtepfokoepibkcaaGreatQa
import Derived.Test.YtepfokoepibkcaaGreatEq
namespace Go.Proofs.YtepfokoepibkcaaGreat
open Go.RowKit D
theorem begun_n (w : World) : Calls Tryz.prog 7 #[] w fun e w' => e = .returned (.bool true) ∧ Mo w w' :=
  (E.e_begun w).mono fun _ _ h => ⟨h.1, ⟨h.2.2.1, h.2.2.2.1, h.2.2.2.2.1, h.2.1, h.2.2.2.2.2.1⟩, h.2.2.2.2.2.2⟩
theorem lines_n {d : Df} {w : World} (hD : LDf w d) (hB : FB d) (hW : ∀ p ∈ d.pg, AB p.wh) (hT : ∀ y ∈ d.tb, ∀ s ∈ y.st, DB s.a ∧ True) : Calls Tryz.prog 4 #[.agg (d.cells).toArray] w fun e w' => e = .returned (.bool true) ∧ Mo w w' := by
  refine w_enter 106 Tryz.func4 Tryz.ntmps4 rfl rfl ?_
  have M : Mo w w := Mo.refl _
  refine w_seq ?_
  refine w_reg ?_
  refine wl_box 29 (.tmp 0) (.agg (d.cells).toArray) (((d.cells).toArray)) rfl rfl (fun _ => by kernel_rfl) rfl ?_
  intro k1 u1 hk hz hq Q1
  have N_k1 : w.heap.size ≤ k1 := by have := M.size; omega
  replace M := M.trans hq
  clear hk hz hq
  refine wl_mv (.const (.bool false)) (.bool false) (fun _ => rfl) rfl rfl ?_
  refine w_nil ?_
  refine xn_then ?_
  refine w_seq ?_
  refine w_reg ?_
  refine wl_load 29 (.tmp 1) (pt k1 0) (.agg (d.cells).toArray) rfl rfl (run_row Q1 29 0 7 (d.cells) rfl Tryz.underlying29 rfl sz29) rfl ?_
  refine wl_callx 5 [(.tmp 16)] _ [.agg (d.cells).toArray] rfl rfl (fun _ _ => by kernel_rfl) (tcheck_n (hD.kp M.kp) hB hW hT) rfl ?_
  rintro e9 u2 ⟨p0, p1, p2, p3, p4, r, rfl, hTk, hq⟩
  refine ⟨_, rfl, ?_⟩
  replace Q1 := Q1.mo hq
  replace M := M.trans hq
  clear hq
  refine wl_mv (.tmp 17) (.tuple #[.agg #[.int .i64 p0, .int .i64 p1, .int .i64 p2, .int .i64 p3, .int .i64 p4], .int .i64 (r)]) (fun _ => rfl) rfl rfl ?_
  refine wl_un (fun v => Instr.extract v 0) (.tmp 15) (.tuple #[.agg #[.int .i64 p0, .int .i64 p1, .int .i64 p2, .int .i64 p3, .int .i64 p4], .int .i64 (r)]) (.agg #[.int .i64 p0, .int .i64 p1, .int .i64 p2, .int .i64 p3, .int .i64 p4]) (fun _ => rfl) rfl (by kernel_rfl) rfl ?_
  refine wl_un (fun v => Instr.extract v 1) (.tmp 15) (.tuple #[.agg #[.int .i64 p0, .int .i64 p1, .int .i64 p2, .int .i64 p3, .int .i64 p4], .int .i64 (r)]) (.int .i64 (r)) (fun _ => rfl) rfl (by kernel_rfl) rfl ?_
  refine wl_alloc 31 #[.int .i64 0, .int .i64 0, .int .i64 0, .int .i64 0, .int .i64 0] rfl (fun _ => by kernel_rfl) rfl ?_
  intro k2 u3 hk hz hq Q2
  have ne_k1_k2 : k1 ≠ k2 := by have := Q1.lt; omega
  have N_k2 : w.heap.size ≤ k2 := by have := M.size; omega
  replace Q1 := Q1.mo hq
  replace M := M.trans hq
  clear hk hz hq
  refine wl_st 31 (.tmp 3) (.tmp 18) k2 0 #[.int .i64 p0, .int .i64 p1, .int .i64 p2, .int .i64 p3, .int .i64 p4] [.int .i64 0, .int .i64 0, .int .i64 0, .int .i64 0, .int .i64 0] [.int .i64 p0, .int .i64 p1, .int .i64 p2, .int .i64 p3, .int .i64 p4] Q2 rfl rfl rfl rfl rfl sz31 rfl rfl rfl ?_
  intro u4 hS Qn
  replace Q2 := Qn
  clear Qn
  replace Q1 := hS.other _ _ ne_k1_k2 Q1
  replace M := hS.mo _ N_k2 M
  clear hS
  refine wl_mv (.tmp 19) (.int .i64 (r)) (fun _ => rfl) rfl rfl ?_
  refine w_nil ?_
  refine xn_then ?_
  refine w_seq ?_
  refine w_seq ?_
  refine w_reg ?_
  refine wl_call 7 [] _ [] (.bool true) rfl rfl (fun _ _ => by kernel_rfl) (begun_n _) rfl ?_
  intro u5 hq
  replace Q1 := Q1.mo hq
  replace Q2 := Q2.mo hq
  replace M := M.trans hq
  clear hq
  refine wl_un (fun v => Op.unary .not v) (.tmp 20) (.bool true) (.bool false) (fun _ => rfl) rfl (by kernel_rfl) rfl ?_
  refine wl_mv (.tmp 21) (.bool false) (fun _ => rfl) rfl rfl ?_
  refine wl_mv (.tmp 4) (.int .i64 (r)) (fun _ => rfl) rfl rfl ?_
  cases hf0 : decide (r = 0) with
  | true =>
    have hf0p := of_decide_eq_true hf0
    refine wl_bin (fun x y => do eqGuard .neq 32 (.tmp 23) (.const (.int .i64 (0))) x y; binOp .neq 32 x y) (.tmp 23) (.const (.int .i64 (0))) (.int .i64 (r)) (.int .i64 (0)) (.bool false) (fun _ => rfl) rfl rfl (ne34 hf0 _ _ _) rfl ?_
    refine wl_pick (.tmp 22) (.const (.bool true)) (.tmp 24) false (.bool false) (fun _ => rfl) rfl rfl rfl ?_
    refine w_nil ?_
    refine xn_then ?_
    refine w_condF rfl ?_
    refine w_skip ?_
    refine xn_then ?_
    refine w_seq ?_
    refine w_seq ?_
    refine w_reg ?_
    refine wl_load 29 (.tmp 1) (pt k1 0) (.agg (d.cells).toArray) rfl rfl (run_row Q1 29 0 7 (d.cells) rfl Tryz.underlying29 rfl sz29) rfl ?_
    refine wl_callx 8 [(.tmp 27)] _ [.agg (d.cells).toArray] rfl rfl (fun _ _ => by kernel_rfl) (rFlat_n d (hD.kp M.kp)) rfl ?_
    rintro e9 u6 ⟨pa, cap, rfl, hSF, hq⟩
    refine ⟨_, rfl, ?_⟩
    replace Q1 := Q1.mo hq
    replace Q2 := Q2.mo hq
    replace M := M.trans hq
    clear hq
    obtain ⟨hTi, hTp⟩ := hTk hf0p
    obtain ⟨L, hL⟩ : ∃ L, L = fla d := ⟨_, rfl⟩
    rw [← hL] at hSF hTi ⊢
    have hl64 : L.length ≤ 64 := by rw [hL]; exact fla_len d
    have hLS : ∀ x ∈ L, LS5 w x := fun x hx => flt_ls d.rt hD.rt [] _ _ (fun _ h => by cases h) x (by rw [hL] at hx; exact hx)
    have hAL : ∀ x ∈ L, ∀ y ∈ x.items, AB y.ex := fun x hx => (hB x (by rw [hL] at hx; exact hx)).2
    obtain ⟨wF, hwF⟩ : ∃ wF : World, wF = u6 := ⟨_, rfl⟩
    have MF : Mo w wF := by rw [hwF]; exact M
    rw [← hwF] at hSF
    have M2 : Mo wF u6 := by rw [hwF]; exact Mo.refl _
    clear M
    have M : Mo wF u6 := M2
    clear M2
    have hDF := hD.kp MF.kp
    refine wl_val (.int .i64 ((L.length : Nat) : Int)) (len37 _ _ _ _ _ (by exact rfl) _ _ _ _ _ _) rfl ?_
    refine wl_mv (.const (.int .i64 (0))) (.int .i64 (0)) (fun _ => rfl) rfl rfl ?_
    refine w_nil ?_
    refine xn_then ?_
    refine w_block ?_
    refine w_loop (fun m l w1 => ∃ i : Nat, m = L.length - i ∧ i ≤ L.length ∧ look l 1 = pt k1 0 ∧ look l 28 = .slice pa L.length cap ∧ look l 29 = .int .i64 ((L.length : Nat) : Int) ∧ look l 30 = .int .i64 ((i : Nat) : Int) ∧ At w1 k1 (d.cells) ∧ Mo wF w1) _ ⟨0, rfl, Nat.zero_le _, rfl, rfl, rfl, rfl, Q1, M⟩ ?_
    clear Q1 Q2 M
    rintro m l40 wl40 ⟨i, rfl, hi, e40_1, e40_28, e40_29, e40_i, Q1, M⟩
    by_cases hil : i < L.length
    · skip
      have hid : decide (i < L.length) = true := decide_eq_true hil
      obtain ⟨x, hx⟩ := get_of_lt hil
      have hmx := List.mem_of_getElem? hx
      obtain ⟨bp, op, hpp, hRp⟩ := D.SL.rw hSF hx
      have hS2 := (hLS x hmx).it.kp MF.kp
      refine w_seq ?_
      refine w_reg ?_
      refine wl_bin (fun x y => do eqGuard .lss 3 (.tmp 30) (.tmp 29) x y; binOp .lss 3 x y) (.tmp 30) (.tmp 29) (.int .i64 ((i : Nat) : Int)) (.int .i64 ((L.length : Nat) : Int)) (.bool true) (fun _ => rfl) e40_i e40_29 (ltN hid _ _ _) rfl ?_
      refine w_nil ?_
      refine xn_then ?_
      refine w_seq ?_
      refine w_condT rfl ?_
      refine w_skip ?_
      refine xn_then ?_
      refine w_seq ?_
      refine w_block ?_
      refine w_seq ?_
      refine w_reg ?_
      refine wl_mv (.tmp 30) (.int .i64 ((i : Nat) : Int)) (fun _ => rfl) e40_i rfl ?_
      refine wl_bin (fun x y => Instr.indexAt 37 x y) (.tmp 28) (.tmp 30) (.slice pa L.length cap) (.int .i64 ((i : Nat) : Int)) (pt bp (op + i * 5)) (fun _ => rfl) e40_28 e40_i (ix37 (i := i) hpp hil _) rfl ?_
      refine wl_load 40 (.tmp 33) (pt bp (op + i * 5)) (.agg (x.cells).toArray) rfl rfl (D.run_partR (hRp.mo M).at' 40 0 5 (x.cells) rfl Tryz.underlying40 rfl sz40) rfl ?_
      refine wl_alloc 40 #[.int .i64 0, .int .i64 0, .string ⟨#[]⟩, .int .i64 0, .slice none 0 0] rfl (fun _ => by kernel_rfl) rfl ?_
      intro k3 u41 hk hz hq Q3
      have ne_k1_k3 : k1 ≠ k3 := by have := Q1.lt; omega
      have N_k3 : wF.heap.size ≤ k3 := by have := M.size; omega
      replace Q1 := Q1.mo hq
      replace M := M.trans hq
      clear hk hz hq
      refine wl_mv (.tmp 32) (.int .i64 ((i : Nat) : Int)) (fun _ => rfl) rfl rfl ?_
      refine wl_st 40 (.tmp 6) (.tmp 34) k3 0 ((x.cells).toArray) [.int .i64 0, .int .i64 0, .string ⟨#[]⟩, .int .i64 0, .slice none 0 0] (x.cells) Q3 rfl rfl rfl rfl rfl sz40 rfl rfl rfl ?_
      intro u42 hS Qn
      replace Q3 := Qn
      clear Qn
      replace Q1 := hS.other _ _ ne_k1_k3 Q1
      replace M := hS.mo _ N_k3 M
      clear hS
      refine w_nil ?_
      refine xn_then ?_
      refine w_seq ?_
      refine w_reg ?_
      refine wl_un (fun v => Instr.fieldAt 40 v 4) (.tmp 6) (pt k3 0) (pt k3 4) (fun _ => rfl) rfl (by kernel_rfl) rfl ?_
      refine wl_load 22 (.tmp 35) (pt k3 4) (.slice x.pi x.items.length x.ci) rfl rfl (run_one Q3 22 4 rfl Tryz.underlying22 rfl) rfl ?_
      refine wl_val (.int .i64 ((x.items.length : Nat) : Int)) (len22 _ _ _ _ _ (by exact rfl) _ _ _ _ _ _) rfl ?_
      refine wl_mv (.const (.int .i64 (0))) (.int .i64 (0)) (fun _ => rfl) rfl rfl ?_
      refine w_nil ?_
      refine xn_then ?_
      refine w_block ?_
      have hz8 := hS2.1
      unfold maxLen at hz8
      refine w_loop (fun m l w1 => ∃ j : Nat, m = x.items.length - j ∧ j ≤ x.items.length ∧ look l 1 = pt k1 0 ∧ look l 5 = .int .i64 ((i : Nat) : Int) ∧ look l 28 = .slice pa L.length cap ∧ look l 29 = .int .i64 ((L.length : Nat) : Int) ∧ look l 30 = .int .i64 ((i : Nat) : Int) ∧ look l 36 = .slice x.pi x.items.length x.ci ∧ look l 37 = .int .i64 ((x.items.length : Nat) : Int) ∧ look l 38 = .int .i64 ((j : Nat) : Int) ∧ At w1 k1 (d.cells) ∧ Mo wF w1) _ ⟨0, rfl, Nat.zero_le _, e40_1, rfl, e40_28, e40_29, e40_i, rfl, rfl, rfl, Q1, M⟩ ?_
      clear Q1 Q3 M
      rintro m l60 wl60 ⟨j, rfl, hj, e60_1, e60_5, e60_28, e60_29, e60_30, e60_36, e60_37, e60_i, Q1, M⟩
      by_cases hjl : j < x.items.length
      · skip
        have hjd : decide (j < x.items.length) = true := decide_eq_true hjl
        obtain ⟨y, hy⟩ := get_of_lt hjl
        have hmy := List.mem_of_getElem? hy
        obtain ⟨bq, oq, hpq, hRq⟩ := D.SL.rw hS2 hy
        have hkn : knd d ((i : Nat) : Int) y.ex = kdK d L i y.ex := by rw [hL]; exact knd_of (by rw [← hL]; exact hil)
        have hx2 : y.k = 2 → (knd d ((i : Nat) : Int) y.ex).2 = 0 ∧ (knd d ((i : Nat) : Int) y.ex).1 = y.tk := fun h => by rw [hkn]; exact itC_2 (hTi i x hx y hmy) h
        have hx3 : y.k = 3 → (knd d ((i : Nat) : Int) y.ex).2 = 0 ∧ (knd d ((i : Nat) : Int) y.ex).1 = 2 := fun h => by rw [hkn]; exact itC_3 (hTi i x hx y hmy) h
        refine w_seq ?_
        refine w_reg ?_
        refine wl_bin (fun x y => do eqGuard .lss 3 (.tmp 38) (.tmp 37) x y; binOp .lss 3 x y) (.tmp 38) (.tmp 37) (.int .i64 ((j : Nat) : Int)) (.int .i64 ((x.items.length : Nat) : Int)) (.bool true) (fun _ => rfl) e60_i e60_37 (ltN hjd _ _ _) rfl ?_
        refine w_nil ?_
        refine xn_then ?_
        refine w_seq ?_
        refine w_condT rfl ?_
        refine w_skip ?_
        refine xn_then ?_
        refine w_seq ?_
        refine w_block ?_
        refine w_seq ?_
        refine w_reg ?_
        refine wl_bin (fun x y => Instr.indexAt 22 x y) (.tmp 36) (.tmp 38) (.slice x.pi x.items.length x.ci) (.int .i64 ((j : Nat) : Int)) (pt bq (oq + j * 23)) (fun _ => rfl) e60_36 e60_i (ix22 (i := j) hpq hjl _) rfl ?_
        refine wl_load 54 (.tmp 40) (pt bq (oq + j * 23)) (.agg (y.cells).toArray) rfl rfl (D.run_partR (hRq.mo M).at' 54 0 23 (y.cells) rfl Tryz.underlying54 rfl sz54) rfl ?_
        refine wl_alloc 54 #[.string ⟨#[]⟩, .int .i64 0, .int .i64 0, .int .i64 0, .bool false, .int .i64 0, .int .i64 0, .int .i64 0, .string ⟨#[]⟩, .string ⟨#[]⟩, .int .i64 0, .bool false, .int .u64 0, .int .u64 0, .int .u64 0, .int .u64 0, .int .i64 0, .bool false, .string ⟨#[]⟩, .int .i64 0, .int .i64 0, .int .i64 0, .slice none 0 0] rfl (fun _ => by kernel_rfl) rfl ?_
        intro k4 u61 hk hz hq Q4
        have ne_k1_k4 : k1 ≠ k4 := by have := Q1.lt; omega
        have N_k4 : wF.heap.size ≤ k4 := by have := M.size; omega
        replace Q1 := Q1.mo hq
        replace M := M.trans hq
        clear hk hz hq
        refine wl_st 54 (.tmp 8) (.tmp 41) k4 0 ((y.cells).toArray) [.string ⟨#[]⟩, .int .i64 0, .int .i64 0, .int .i64 0, .bool false, .int .i64 0, .int .i64 0, .int .i64 0, .string ⟨#[]⟩, .string ⟨#[]⟩, .int .i64 0, .bool false, .int .u64 0, .int .u64 0, .int .u64 0, .int .u64 0, .int .i64 0, .bool false, .string ⟨#[]⟩, .int .i64 0, .int .i64 0, .int .i64 0, .slice none 0 0] (y.cells) Q4 rfl rfl rfl rfl rfl sz54 rfl rfl rfl ?_
        intro u62 hS Qn
        replace Q4 := Qn
        clear Qn
        replace Q1 := hS.other _ _ ne_k1_k4 Q1
        replace M := hS.mo _ N_k4 M
        clear hS
        refine w_nil ?_
        refine xn_then ?_
        refine w_seq ?_
        refine w_reg ?_
        refine wl_load 29 (.tmp 1) (pt k1 0) (.agg (d.cells).toArray) rfl e60_1 (run_row Q1 29 0 7 (d.cells) rfl Tryz.underlying29 rfl sz29) rfl ?_
        refine wl_mv (.tmp 5) (.int .i64 ((i : Nat) : Int)) (fun _ => rfl) e60_5 rfl ?_
        refine wl_un (fun v => Instr.fieldAt 54 v 5) (.tmp 8) (pt k4 0) (pt k4 6) (fun _ => rfl) rfl (by kernel_rfl) rfl ?_
        refine wl_load 52 (.tmp 45) (pt k4 6) (.agg #[.int .i64 y.ex.k, .int .i64 y.ex.op, .string y.ex.nm, .string y.ex.se, .int .i64 y.ex.v.k, .bool y.ex.v.d.b, .int .u64 y.ex.v.d.n0, .int .u64 y.ex.v.d.n1, .int .u64 y.ex.v.d.n2, .int .u64 y.ex.v.d.n3, .int .i64 y.ex.v.d.s, .bool y.ex.v.f, .string y.ex.v.t, .int .i64 y.ex.v.e, .int .i64 y.ex.sc, .int .i64 y.ex.po, .slice y.ex.pa y.ex.args.length y.ex.cap]) rfl rfl (run_row Q4 52 6 17 [.int .i64 y.ex.k, .int .i64 y.ex.op, .string y.ex.nm, .string y.ex.se, .int .i64 y.ex.v.k, .bool y.ex.v.d.b, .int .u64 y.ex.v.d.n0, .int .u64 y.ex.v.d.n1, .int .u64 y.ex.v.d.n2, .int .u64 y.ex.v.d.n3, .int .i64 y.ex.v.d.s, .bool y.ex.v.f, .string y.ex.v.t, .int .i64 y.ex.v.e, .int .i64 y.ex.sc, .int .i64 y.ex.po, .slice y.ex.pa y.ex.args.length y.ex.cap] rfl Tryz.underlying52 rfl sz52) rfl ?_
        refine wl_call 9 [(.tmp 43), (.tmp 44), (.tmp 46)] _ [.agg (d.cells).toArray, .int .i64 ((i : Nat) : Int), .agg #[.int .i64 y.ex.k, .int .i64 y.ex.op, .string y.ex.nm, .string y.ex.se, .int .i64 y.ex.v.k, .bool y.ex.v.d.b, .int .u64 y.ex.v.d.n0, .int .u64 y.ex.v.d.n1, .int .u64 y.ex.v.d.n2, .int .u64 y.ex.v.d.n3, .int .i64 y.ex.v.d.s, .bool y.ex.v.f, .string y.ex.v.t, .int .i64 y.ex.v.e, .int .i64 y.ex.sc, .int .i64 y.ex.po, .slice y.ex.pa y.ex.args.length y.ex.cap]] (.tuple #[.int .i64 ((knd d ((i : Nat) : Int) y.ex).1), .int .i64 ((knd d ((i : Nat) : Int) y.ex).2)]) rfl rfl (fun _ _ => by kernel_rfl) (kind_n (hDF.kp M.kp) (((hLS x hmx).ex y hmy).kp (MF.trans M).kp) hB (hAL x hmx y hmy) ((i : Nat) : Int)) rfl ?_
        intro u63 hq
        replace Q1 := Q1.mo hq
        replace Q4 := Q4.mo hq
        replace M := M.trans hq
        clear hq
        refine wl_mv (.tmp 47) (.tuple #[.int .i64 ((knd d ((i : Nat) : Int) y.ex).1), .int .i64 ((knd d ((i : Nat) : Int) y.ex).2)]) (fun _ => rfl) rfl rfl ?_
        refine wl_un (fun v => Instr.extract v 0) (.tmp 42) (.tuple #[.int .i64 ((knd d ((i : Nat) : Int) y.ex).1), .int .i64 ((knd d ((i : Nat) : Int) y.ex).2)]) (.int .i64 ((knd d ((i : Nat) : Int) y.ex).1)) (fun _ => rfl) rfl (by kernel_rfl) rfl ?_
        refine wl_un (fun v => Instr.extract v 1) (.tmp 42) (.tuple #[.int .i64 ((knd d ((i : Nat) : Int) y.ex).1), .int .i64 ((knd d ((i : Nat) : Int) y.ex).2)]) (.int .i64 ((knd d ((i : Nat) : Int) y.ex).2)) (fun _ => rfl) rfl (by kernel_rfl) rfl ?_
        refine wl_mv (.tmp 48) (.int .i64 ((knd d ((i : Nat) : Int) y.ex).1)) (fun _ => rfl) rfl rfl ?_
        refine wl_mv (.tmp 49) (.int .i64 ((knd d ((i : Nat) : Int) y.ex).2)) (fun _ => rfl) rfl rfl ?_
        refine w_nil ?_
        refine xn_then ?_
        refine w_seq ?_
        refine w_reg ?_
        refine wl_un (fun v => Instr.fieldAt 54 v 1) (.tmp 8) (pt k4 0) (pt k4 1) (fun _ => rfl) rfl (by kernel_rfl) rfl ?_
        refine wl_load 3 (.tmp 50) (pt k4 1) (.int .i64 (y.k)) rfl rfl (run_one Q4 3 1 rfl Tryz.underlying3 rfl) rfl ?_
        cases hf60 : decide (y.k = 2) with
        | true =>
          have hf60p := of_decide_eq_true hf60
          refine wl_bin (fun x y => do eqGuard .eql 3 (.tmp 51) (.const (.int .i64 (2))) x y; binOp .eql 3 x y) (.tmp 51) (.const (.int .i64 (2))) (.int .i64 (y.k)) (.int .i64 (2)) (.bool true) (fun _ => rfl) rfl rfl (eq3 hf60 _ _ _) rfl ?_
          refine wl_mv (.tmp 52) (.bool true) (fun _ => rfl) rfl rfl ?_
          refine wl_mv (.tmp 10) (.int .i64 ((knd d ((i : Nat) : Int) y.ex).2)) (fun _ => rfl) rfl rfl ?_
          refine wl_bin (fun x y => do eqGuard .neq 32 (.tmp 54) (.const (.int .i64 (0))) x y; binOp .neq 32 x y) (.tmp 54) (.const (.int .i64 (0))) (.int .i64 ((knd d ((i : Nat) : Int) y.ex).2)) (.int .i64 (0)) (.bool false) (fun _ => rfl) rfl rfl (ne34 (decide_eq_true (hx2 hf60p).1) _ _ _) rfl ?_
          refine wl_mv (.tmp 55) (.bool false) (fun _ => rfl) rfl rfl ?_
          refine wl_mv (.tmp 9) (.int .i64 ((knd d ((i : Nat) : Int) y.ex).1)) (fun _ => rfl) rfl rfl ?_
          refine wl_un (fun v => Instr.fieldAt 54 v 2) (.tmp 8) (pt k4 0) (pt k4 2) (fun _ => rfl) rfl (by kernel_rfl) rfl ?_
          refine wl_un (fun v => Instr.fieldAt 42 v 0) (.tmp 58) (pt k4 2) (pt k4 2) (fun _ => rfl) rfl (by kernel_rfl) rfl ?_
          refine wl_load 3 (.tmp 59) (pt k4 2) (.int .i64 (y.tk)) rfl rfl (run_one Q4 3 2 rfl Tryz.underlying3 rfl) rfl ?_
          refine wl_bin (fun x y => do eqGuard .neq 3 (.tmp 57) (.tmp 60) x y; binOp .neq 3 x y) (.tmp 57) (.tmp 60) (.int .i64 ((knd d ((i : Nat) : Int) y.ex).1)) (.int .i64 (y.tk)) (.bool false) (fun _ => rfl) rfl rfl (ne3 (decide_eq_true (hx2 hf60p).2) _ _ _) rfl ?_
          refine wl_pick (.tmp 56) (.const (.bool true)) (.tmp 61) false (.bool false) (fun _ => rfl) rfl rfl rfl ?_
          refine wl_pick (.tmp 53) (.tmp 62) (.const (.bool false)) true (.bool false) (fun _ => rfl) rfl rfl rfl ?_
          refine wl_mv (.tmp 63) (.bool false) (fun _ => rfl) rfl rfl ?_
          refine wl_un (fun v => Instr.fieldAt 54 v 1) (.tmp 8) (pt k4 0) (pt k4 1) (fun _ => rfl) rfl (by kernel_rfl) rfl ?_
          refine wl_load 3 (.tmp 65) (pt k4 1) (.int .i64 (y.k)) rfl rfl (run_one Q4 3 1 rfl Tryz.underlying3 rfl) rfl ?_
          refine wl_bin (fun x y => do eqGuard .eql 3 (.tmp 66) (.const (.int .i64 (3))) x y; binOp .eql 3 x y) (.tmp 66) (.const (.int .i64 (3))) (.int .i64 (y.k)) (.int .i64 (3)) (.bool false) (fun _ => rfl) rfl rfl (eq3 (decide_eq_false (by omega)) _ _ _) rfl ?_
          refine wl_mv (.tmp 67) (.bool false) (fun _ => rfl) rfl rfl ?_
          refine wl_skip rfl ?_
          refine wl_skip rfl ?_
          refine wl_skip rfl ?_
          refine wl_skip rfl ?_
          refine wl_skip rfl ?_
          refine wl_skip rfl ?_
          refine wl_pick (.tmp 68) (.tmp 74) (.const (.bool false)) false (.bool false) (fun _ => rfl) rfl rfl rfl ?_
          refine wl_pick (.tmp 64) (.const (.bool true)) (.tmp 75) false (.bool false) (fun _ => rfl) rfl rfl rfl ?_
          refine w_nil ?_
          refine xn_then ?_
          refine w_condF rfl ?_
          refine w_skip ?_
          refine xn_blk ?_
          refine xn_then ?_
          refine w_reg ?_
          refine wl_bin (fun x y => do eqGuard .add 3 (.tmp 38) (.const (.int .i64 (1))) x y; binOp .add 3 x y) (.tmp 38) (.const (.int .i64 (1))) (.int .i64 ((j : Nat) : Int)) (.int .i64 (1)) (.int .i64 ((j + 1 : Nat) : Int)) (fun _ => rfl) e60_i rfl (add1r (k := j) (by omega) _ _ _) rfl ?_
          refine wl_mv (.tmp 77) (.int .i64 ((j + 1 : Nat) : Int)) (fun _ => rfl) rfl rfl ?_
          refine w_nil ?_
          exact xn_loop (x.items.length - (j + 1)) (by omega) ⟨j + 1, rfl, by omega, e60_1, e60_5, e60_28, e60_29, e60_30, e60_36, e60_37, rfl, Q1, M⟩
        | false =>
          have hf60p := of_decide_eq_false hf60
          refine wl_bin (fun x y => do eqGuard .eql 3 (.tmp 51) (.const (.int .i64 (2))) x y; binOp .eql 3 x y) (.tmp 51) (.const (.int .i64 (2))) (.int .i64 (y.k)) (.int .i64 (2)) (.bool false) (fun _ => rfl) rfl rfl (eq3 hf60 _ _ _) rfl ?_
          refine wl_mv (.tmp 52) (.bool false) (fun _ => rfl) rfl rfl ?_
          refine wl_skip rfl ?_
          refine wl_skip rfl ?_
          refine wl_skip rfl ?_
          refine wl_skip rfl ?_
          refine wl_skip rfl ?_
          refine wl_skip rfl ?_
          refine wl_skip rfl ?_
          refine wl_skip rfl ?_
          refine wl_skip rfl ?_
          refine wl_pick (.tmp 53) (.tmp 62) (.const (.bool false)) false (.bool false) (fun _ => rfl) rfl rfl rfl ?_
          refine wl_mv (.tmp 63) (.bool false) (fun _ => rfl) rfl rfl ?_
          refine wl_un (fun v => Instr.fieldAt 54 v 1) (.tmp 8) (pt k4 0) (pt k4 1) (fun _ => rfl) rfl (by kernel_rfl) rfl ?_
          refine wl_load 3 (.tmp 65) (pt k4 1) (.int .i64 (y.k)) rfl rfl (run_one Q4 3 1 rfl Tryz.underlying3 rfl) rfl ?_
          cases hf61 : decide (y.k = 3) with
          | true =>
            have hf61p := of_decide_eq_true hf61
            refine wl_bin (fun x y => do eqGuard .eql 3 (.tmp 66) (.const (.int .i64 (3))) x y; binOp .eql 3 x y) (.tmp 66) (.const (.int .i64 (3))) (.int .i64 (y.k)) (.int .i64 (3)) (.bool true) (fun _ => rfl) rfl rfl (eq3 hf61 _ _ _) rfl ?_
            refine wl_mv (.tmp 67) (.bool true) (fun _ => rfl) rfl rfl ?_
            refine wl_mv (.tmp 10) (.int .i64 ((knd d ((i : Nat) : Int) y.ex).2)) (fun _ => rfl) rfl rfl ?_
            refine wl_bin (fun x y => do eqGuard .neq 32 (.tmp 69) (.const (.int .i64 (0))) x y; binOp .neq 32 x y) (.tmp 69) (.const (.int .i64 (0))) (.int .i64 ((knd d ((i : Nat) : Int) y.ex).2)) (.int .i64 (0)) (.bool false) (fun _ => rfl) rfl rfl (ne34 (decide_eq_true (hx3 hf61p).1) _ _ _) rfl ?_
            refine wl_mv (.tmp 70) (.bool false) (fun _ => rfl) rfl rfl ?_
            refine wl_mv (.tmp 9) (.int .i64 ((knd d ((i : Nat) : Int) y.ex).1)) (fun _ => rfl) rfl rfl ?_
            refine wl_bin (fun x y => do eqGuard .neq 3 (.tmp 72) (.const (.int .i64 (2))) x y; binOp .neq 3 x y) (.tmp 72) (.const (.int .i64 (2))) (.int .i64 ((knd d ((i : Nat) : Int) y.ex).1)) (.int .i64 (2)) (.bool false) (fun _ => rfl) rfl rfl (ne3 (decide_eq_true (hx3 hf61p).2) _ _ _) rfl ?_
            refine wl_pick (.tmp 71) (.const (.bool true)) (.tmp 73) false (.bool false) (fun _ => rfl) rfl rfl rfl ?_
            refine wl_pick (.tmp 68) (.tmp 74) (.const (.bool false)) true (.bool false) (fun _ => rfl) rfl rfl rfl ?_
            refine wl_pick (.tmp 64) (.const (.bool true)) (.tmp 75) false (.bool false) (fun _ => rfl) rfl rfl rfl ?_
            refine w_nil ?_
            refine xn_then ?_
            refine w_condF rfl ?_
            refine w_skip ?_
            refine xn_blk ?_
            refine xn_then ?_
            refine w_reg ?_
            refine wl_bin (fun x y => do eqGuard .add 3 (.tmp 38) (.const (.int .i64 (1))) x y; binOp .add 3 x y) (.tmp 38) (.const (.int .i64 (1))) (.int .i64 ((j : Nat) : Int)) (.int .i64 (1)) (.int .i64 ((j + 1 : Nat) : Int)) (fun _ => rfl) e60_i rfl (add1r (k := j) (by omega) _ _ _) rfl ?_
            refine wl_mv (.tmp 77) (.int .i64 ((j + 1 : Nat) : Int)) (fun _ => rfl) rfl rfl ?_
            refine w_nil ?_
            exact xn_loop (x.items.length - (j + 1)) (by omega) ⟨j + 1, rfl, by omega, e60_1, e60_5, e60_28, e60_29, e60_30, e60_36, e60_37, rfl, Q1, M⟩
          | false =>
            have hf61p := of_decide_eq_false hf61
            refine wl_bin (fun x y => do eqGuard .eql 3 (.tmp 66) (.const (.int .i64 (3))) x y; binOp .eql 3 x y) (.tmp 66) (.const (.int .i64 (3))) (.int .i64 (y.k)) (.int .i64 (3)) (.bool false) (fun _ => rfl) rfl rfl (eq3 hf61 _ _ _) rfl ?_
            refine wl_mv (.tmp 67) (.bool false) (fun _ => rfl) rfl rfl ?_
            refine wl_skip rfl ?_
            refine wl_skip rfl ?_
            refine wl_skip rfl ?_
            refine wl_skip rfl ?_
            refine wl_skip rfl ?_
            refine wl_skip rfl ?_
            refine wl_pick (.tmp 68) (.tmp 74) (.const (.bool false)) false (.bool false) (fun _ => rfl) rfl rfl rfl ?_
            refine wl_pick (.tmp 64) (.const (.bool true)) (.tmp 75) false (.bool false) (fun _ => rfl) rfl rfl rfl ?_
            refine w_nil ?_
            refine xn_then ?_
            refine w_condF rfl ?_
            refine w_skip ?_
            refine xn_blk ?_
            refine xn_then ?_
            refine w_reg ?_
            refine wl_bin (fun x y => do eqGuard .add 3 (.tmp 38) (.const (.int .i64 (1))) x y; binOp .add 3 x y) (.tmp 38) (.const (.int .i64 (1))) (.int .i64 ((j : Nat) : Int)) (.int .i64 (1)) (.int .i64 ((j + 1 : Nat) : Int)) (fun _ => rfl) e60_i rfl (add1r (k := j) (by omega) _ _ _) rfl ?_
            refine wl_mv (.tmp 77) (.int .i64 ((j + 1 : Nat) : Int)) (fun _ => rfl) rfl rfl ?_
            refine w_nil ?_
            exact xn_loop (x.items.length - (j + 1)) (by omega) ⟨j + 1, rfl, by omega, e60_1, e60_5, e60_28, e60_29, e60_30, e60_36, e60_37, rfl, Q1, M⟩
      · skip
        have hjd : decide (j < x.items.length) = false := decide_eq_false hjl
        have hje : j = x.items.length := by omega
        refine w_seq ?_
        refine w_reg ?_
        refine wl_bin (fun x y => do eqGuard .lss 3 (.tmp 38) (.tmp 37) x y; binOp .lss 3 x y) (.tmp 38) (.tmp 37) (.int .i64 ((j : Nat) : Int)) (.int .i64 ((x.items.length : Nat) : Int)) (.bool false) (fun _ => rfl) e60_i e60_37 (ltN hjd _ _ _) rfl ?_
        refine w_nil ?_
        refine xn_then ?_
        refine w_seq ?_
        refine w_condF rfl ?_
        refine w_exit ?_
        refine xx_then ?_
        refine xx_then ?_
        refine xx_blk ?_
        refine xn_blk ?_
        refine xn_then ?_
        refine w_reg ?_
        refine wl_bin (fun x y => do eqGuard .add 3 (.tmp 30) (.const (.int .i64 (1))) x y; binOp .add 3 x y) (.tmp 30) (.const (.int .i64 (1))) (.int .i64 ((i : Nat) : Int)) (.int .i64 (1)) (.int .i64 ((i + 1 : Nat) : Int)) (fun _ => rfl) e60_30 rfl (add1r (k := i) (by omega) _ _ _) rfl ?_
        refine wl_mv (.tmp 78) (.int .i64 ((i + 1 : Nat) : Int)) (fun _ => rfl) rfl rfl ?_
        refine w_nil ?_
        exact xn_loop (L.length - (i + 1)) (by omega) ⟨i + 1, rfl, by omega, e60_1, e60_28, e60_29, rfl, Q1, M⟩
    · skip
      have hid : decide (i < L.length) = false := decide_eq_false hil
      have hie : i = L.length := by omega
      refine w_seq ?_
      refine w_reg ?_
      refine wl_bin (fun x y => do eqGuard .lss 3 (.tmp 30) (.tmp 29) x y; binOp .lss 3 x y) (.tmp 30) (.tmp 29) (.int .i64 ((i : Nat) : Int)) (.int .i64 ((L.length : Nat) : Int)) (.bool false) (fun _ => rfl) e40_i e40_29 (ltN hid _ _ _) rfl ?_
      refine w_nil ?_
      refine xn_then ?_
      refine w_seq ?_
      refine w_condF rfl ?_
      refine w_exit ?_
      refine xx_then ?_
      refine xx_then ?_
      refine xx_blk ?_
      refine xn_then ?_
      refine w_seq ?_
      refine w_seq ?_
      refine w_reg ?_
      refine wl_un (fun v => Instr.fieldAt 29 v 3) (.tmp 1) (pt k1 0) (pt k1 6) (fun _ => rfl) e40_1 (by kernel_rfl) rfl ?_
      refine wl_load 27 (.tmp 79) (pt k1 6) (.slice d.pp d.pg.length d.cp) rfl rfl (run_one Q1 27 6 rfl Tryz.underlying27 rfl) rfl ?_
      refine wl_val (.int .i64 ((d.pg.length : Nat) : Int)) (len27 _ _ _ _ _ (by exact rfl) _ _ _ _ _ _) rfl ?_
      refine wl_mv (.const (.int .i64 (0))) (.int .i64 (0)) (fun _ => rfl) rfl rfl ?_
      refine w_nil ?_
      refine xn_then ?_
      refine w_block ?_
      have hz9 := hDF.pg.1
      unfold maxLen at hz9
      refine w_loop (fun m l w1 => ∃ i : Nat, m = d.pg.length - i ∧ i ≤ d.pg.length ∧ look l 1 = pt k1 0 ∧ look l 80 = .slice d.pp d.pg.length d.cp ∧ look l 81 = .int .i64 ((d.pg.length : Nat) : Int) ∧ look l 82 = .int .i64 ((i : Nat) : Int) ∧ At w1 k1 (d.cells) ∧ Mo wF w1) _ ⟨0, rfl, Nat.zero_le _, e40_1, rfl, rfl, rfl, Q1, M⟩ ?_
      clear Q1 M
      rintro m l90 wl90 ⟨i, rfl, hi, e90_1, e90_80, e90_81, e90_i, Q1, M⟩
      by_cases hil : i < d.pg.length
      · skip
        have hid : decide (i < d.pg.length) = true := decide_eq_true hil
        obtain ⟨p, hp⟩ := get_of_lt hil
        have hmp := List.mem_of_getElem? hp
        obtain ⟨br, or, hpr, hRr⟩ := D.SL.rw hDF.pg hp
        have hkn : knd d 0 p.wh = kdK d L 0 p.wh := by rw [hL]; exact knd_of (n := 0) (fla_pos d)
        have hxp : ¬ p.wh.k = 0 → (knd d 0 p.wh).2 = 0 ∧ (knd d 0 p.wh).1 = 2 := fun h => by rw [hkn]; exact whC_0 (by rw [hL]; exact hTp p hmp) h
        refine w_seq ?_
        refine w_reg ?_
        refine wl_bin (fun x y => do eqGuard .lss 3 (.tmp 82) (.tmp 81) x y; binOp .lss 3 x y) (.tmp 82) (.tmp 81) (.int .i64 ((i : Nat) : Int)) (.int .i64 ((d.pg.length : Nat) : Int)) (.bool true) (fun _ => rfl) e90_i e90_81 (ltN hid _ _ _) rfl ?_
        refine w_nil ?_
        refine xn_then ?_
        refine w_seq ?_
        refine w_condT rfl ?_
        refine w_skip ?_
        refine xn_then ?_
        refine w_seq ?_
        refine w_block ?_
        refine w_seq ?_
        refine w_reg ?_
        refine wl_bin (fun x y => Instr.indexAt 27 x y) (.tmp 80) (.tmp 82) (.slice d.pp d.pg.length d.cp) (.int .i64 ((i : Nat) : Int)) (pt br (or + i * 19)) (fun _ => rfl) e90_80 e90_i (ix27 (i := i) hpr hil _) rfl ?_
        refine wl_load 59 (.tmp 84) (pt br (or + i * 19)) (.agg (p.cells).toArray) rfl rfl (D.run_partR (hRr.mo M).at' 59 0 19 (p.cells) rfl Tryz.underlying59 rfl sz59) rfl ?_
        refine wl_alloc 59 #[.string ⟨#[]⟩, .int .i64 0, .int .i64 0, .string ⟨#[]⟩, .string ⟨#[]⟩, .int .i64 0, .bool false, .int .u64 0, .int .u64 0, .int .u64 0, .int .u64 0, .int .i64 0, .bool false, .string ⟨#[]⟩, .int .i64 0, .int .i64 0, .int .i64 0, .slice none 0 0, .slice none 0 0] rfl (fun _ => by kernel_rfl) rfl ?_
        intro k3 u91 hk hz hq Q3
        have ne_k1_k3 : k1 ≠ k3 := by have := Q1.lt; omega
        have N_k3 : wF.heap.size ≤ k3 := by have := M.size; omega
        replace Q1 := Q1.mo hq
        replace M := M.trans hq
        clear hk hz hq
        refine wl_st 59 (.tmp 12) (.tmp 85) k3 0 ((p.cells).toArray) [.string ⟨#[]⟩, .int .i64 0, .int .i64 0, .string ⟨#[]⟩, .string ⟨#[]⟩, .int .i64 0, .bool false, .int .u64 0, .int .u64 0, .int .u64 0, .int .u64 0, .int .i64 0, .bool false, .string ⟨#[]⟩, .int .i64 0, .int .i64 0, .int .i64 0, .slice none 0 0, .slice none 0 0] (p.cells) Q3 rfl rfl rfl rfl rfl sz59 rfl rfl rfl ?_
        intro u92 hS Qn
        replace Q3 := Qn
        clear Qn
        replace Q1 := hS.other _ _ ne_k1_k3 Q1
        replace M := hS.mo _ N_k3 M
        clear hS
        refine w_nil ?_
        refine xn_then ?_
        refine w_seq ?_
        refine w_reg ?_
        refine wl_load 29 (.tmp 1) (pt k1 0) (.agg (d.cells).toArray) rfl e90_1 (run_row Q1 29 0 7 (d.cells) rfl Tryz.underlying29 rfl sz29) rfl ?_
        refine wl_un (fun v => Instr.fieldAt 59 v 1) (.tmp 12) (pt k3 0) (pt k3 1) (fun _ => rfl) rfl (by kernel_rfl) rfl ?_
        refine wl_load 52 (.tmp 88) (pt k3 1) (.agg #[.int .i64 p.wh.k, .int .i64 p.wh.op, .string p.wh.nm, .string p.wh.se, .int .i64 p.wh.v.k, .bool p.wh.v.d.b, .int .u64 p.wh.v.d.n0, .int .u64 p.wh.v.d.n1, .int .u64 p.wh.v.d.n2, .int .u64 p.wh.v.d.n3, .int .i64 p.wh.v.d.s, .bool p.wh.v.f, .string p.wh.v.t, .int .i64 p.wh.v.e, .int .i64 p.wh.sc, .int .i64 p.wh.po, .slice p.wh.pa p.wh.args.length p.wh.cap]) rfl rfl (run_row Q3 52 1 17 [.int .i64 p.wh.k, .int .i64 p.wh.op, .string p.wh.nm, .string p.wh.se, .int .i64 p.wh.v.k, .bool p.wh.v.d.b, .int .u64 p.wh.v.d.n0, .int .u64 p.wh.v.d.n1, .int .u64 p.wh.v.d.n2, .int .u64 p.wh.v.d.n3, .int .i64 p.wh.v.d.s, .bool p.wh.v.f, .string p.wh.v.t, .int .i64 p.wh.v.e, .int .i64 p.wh.sc, .int .i64 p.wh.po, .slice p.wh.pa p.wh.args.length p.wh.cap] rfl Tryz.underlying52 rfl sz52) rfl ?_
        refine wl_call 9 [(.tmp 87), (.const (.int .i64 (0))), (.tmp 89)] _ [.agg (d.cells).toArray, .int .i64 (0), .agg #[.int .i64 p.wh.k, .int .i64 p.wh.op, .string p.wh.nm, .string p.wh.se, .int .i64 p.wh.v.k, .bool p.wh.v.d.b, .int .u64 p.wh.v.d.n0, .int .u64 p.wh.v.d.n1, .int .u64 p.wh.v.d.n2, .int .u64 p.wh.v.d.n3, .int .i64 p.wh.v.d.s, .bool p.wh.v.f, .string p.wh.v.t, .int .i64 p.wh.v.e, .int .i64 p.wh.sc, .int .i64 p.wh.po, .slice p.wh.pa p.wh.args.length p.wh.cap]] (.tuple #[.int .i64 ((knd d 0 p.wh).1), .int .i64 ((knd d 0 p.wh).2)]) rfl rfl (fun _ _ => by kernel_rfl) (kind_n (hDF.kp M.kp) ((hDF.wh p hmp).kp M.kp) hB (hW p hmp) 0) rfl ?_
        intro u93 hq
        replace Q1 := Q1.mo hq
        replace Q3 := Q3.mo hq
        replace M := M.trans hq
        clear hq
        refine wl_mv (.tmp 90) (.tuple #[.int .i64 ((knd d 0 p.wh).1), .int .i64 ((knd d 0 p.wh).2)]) (fun _ => rfl) rfl rfl ?_
        refine wl_un (fun v => Instr.extract v 0) (.tmp 86) (.tuple #[.int .i64 ((knd d 0 p.wh).1), .int .i64 ((knd d 0 p.wh).2)]) (.int .i64 ((knd d 0 p.wh).1)) (fun _ => rfl) rfl (by kernel_rfl) rfl ?_
        refine wl_un (fun v => Instr.extract v 1) (.tmp 86) (.tuple #[.int .i64 ((knd d 0 p.wh).1), .int .i64 ((knd d 0 p.wh).2)]) (.int .i64 ((knd d 0 p.wh).2)) (fun _ => rfl) rfl (by kernel_rfl) rfl ?_
        refine wl_mv (.tmp 91) (.int .i64 ((knd d 0 p.wh).1)) (fun _ => rfl) rfl rfl ?_
        refine wl_mv (.tmp 92) (.int .i64 ((knd d 0 p.wh).2)) (fun _ => rfl) rfl rfl ?_
        refine w_nil ?_
        refine xn_then ?_
        refine w_seq ?_
        refine w_reg ?_
        refine wl_un (fun v => Instr.fieldAt 59 v 1) (.tmp 12) (pt k3 0) (pt k3 1) (fun _ => rfl) rfl (by kernel_rfl) rfl ?_
        refine wl_un (fun v => Instr.fieldAt 52 v 0) (.tmp 93) (pt k3 1) (pt k3 1) (fun _ => rfl) rfl (by kernel_rfl) rfl ?_
        refine wl_load 3 (.tmp 94) (pt k3 1) (.int .i64 (p.wh.k)) rfl rfl (run_one Q3 3 1 rfl Tryz.underlying3 rfl) rfl ?_
        cases hf90 : decide (p.wh.k = 0) with
        | true =>
          have hf90p := of_decide_eq_true hf90
          refine wl_bin (fun x y => do eqGuard .neq 3 (.tmp 95) (.const (.int .i64 (0))) x y; binOp .neq 3 x y) (.tmp 95) (.const (.int .i64 (0))) (.int .i64 (p.wh.k)) (.int .i64 (0)) (.bool false) (fun _ => rfl) rfl rfl (ne3 hf90 _ _ _) rfl ?_
          refine wl_mv (.tmp 96) (.bool false) (fun _ => rfl) rfl rfl ?_
          refine wl_skip rfl ?_
          refine wl_skip rfl ?_
          refine wl_skip rfl ?_
          refine wl_skip rfl ?_
          refine wl_skip rfl ?_
          refine wl_skip rfl ?_
          refine wl_pick (.tmp 97) (.tmp 103) (.const (.bool false)) false (.bool false) (fun _ => rfl) rfl rfl rfl ?_
          refine w_nil ?_
          refine xn_then ?_
          refine w_condF rfl ?_
          refine w_skip ?_
          refine xn_blk ?_
          refine xn_then ?_
          refine w_reg ?_
          refine wl_bin (fun x y => do eqGuard .add 3 (.tmp 82) (.const (.int .i64 (1))) x y; binOp .add 3 x y) (.tmp 82) (.const (.int .i64 (1))) (.int .i64 ((i : Nat) : Int)) (.int .i64 (1)) (.int .i64 ((i + 1 : Nat) : Int)) (fun _ => rfl) e90_i rfl (add1r (k := i) (by omega) _ _ _) rfl ?_
          refine wl_mv (.tmp 105) (.int .i64 ((i + 1 : Nat) : Int)) (fun _ => rfl) rfl rfl ?_
          refine w_nil ?_
          exact xn_loop (d.pg.length - (i + 1)) (by omega) ⟨i + 1, rfl, by omega, e90_1, e90_80, e90_81, rfl, Q1, M⟩
        | false =>
          have hf90p := of_decide_eq_false hf90
          refine wl_bin (fun x y => do eqGuard .neq 3 (.tmp 95) (.const (.int .i64 (0))) x y; binOp .neq 3 x y) (.tmp 95) (.const (.int .i64 (0))) (.int .i64 (p.wh.k)) (.int .i64 (0)) (.bool true) (fun _ => rfl) rfl rfl (ne3 hf90 _ _ _) rfl ?_
          refine wl_mv (.tmp 96) (.bool true) (fun _ => rfl) rfl rfl ?_
          refine wl_mv (.tmp 14) (.int .i64 ((knd d 0 p.wh).2)) (fun _ => rfl) rfl rfl ?_
          refine wl_bin (fun x y => do eqGuard .neq 32 (.tmp 98) (.const (.int .i64 (0))) x y; binOp .neq 32 x y) (.tmp 98) (.const (.int .i64 (0))) (.int .i64 ((knd d 0 p.wh).2)) (.int .i64 (0)) (.bool false) (fun _ => rfl) rfl rfl (ne34 (decide_eq_true (hxp hf90p).1) _ _ _) rfl ?_
          refine wl_mv (.tmp 99) (.bool false) (fun _ => rfl) rfl rfl ?_
          refine wl_mv (.tmp 13) (.int .i64 ((knd d 0 p.wh).1)) (fun _ => rfl) rfl rfl ?_
          refine wl_bin (fun x y => do eqGuard .neq 3 (.tmp 101) (.const (.int .i64 (2))) x y; binOp .neq 3 x y) (.tmp 101) (.const (.int .i64 (2))) (.int .i64 ((knd d 0 p.wh).1)) (.int .i64 (2)) (.bool false) (fun _ => rfl) rfl rfl (ne3 (decide_eq_true (hxp hf90p).2) _ _ _) rfl ?_
          refine wl_pick (.tmp 100) (.const (.bool true)) (.tmp 102) false (.bool false) (fun _ => rfl) rfl rfl rfl ?_
          refine wl_pick (.tmp 97) (.tmp 103) (.const (.bool false)) true (.bool false) (fun _ => rfl) rfl rfl rfl ?_
          refine w_nil ?_
          refine xn_then ?_
          refine w_condF rfl ?_
          refine w_skip ?_
          refine xn_blk ?_
          refine xn_then ?_
          refine w_reg ?_
          refine wl_bin (fun x y => do eqGuard .add 3 (.tmp 82) (.const (.int .i64 (1))) x y; binOp .add 3 x y) (.tmp 82) (.const (.int .i64 (1))) (.int .i64 ((i : Nat) : Int)) (.int .i64 (1)) (.int .i64 ((i + 1 : Nat) : Int)) (fun _ => rfl) e90_i rfl (add1r (k := i) (by omega) _ _ _) rfl ?_
          refine wl_mv (.tmp 105) (.int .i64 ((i + 1 : Nat) : Int)) (fun _ => rfl) rfl rfl ?_
          refine w_nil ?_
          exact xn_loop (d.pg.length - (i + 1)) (by omega) ⟨i + 1, rfl, by omega, e90_1, e90_80, e90_81, rfl, Q1, M⟩
      · skip
        have hid : decide (i < d.pg.length) = false := decide_eq_false hil
        have hie : i = d.pg.length := by omega
        refine w_seq ?_
        refine w_reg ?_
        refine wl_bin (fun x y => do eqGuard .lss 3 (.tmp 82) (.tmp 81) x y; binOp .lss 3 x y) (.tmp 82) (.tmp 81) (.int .i64 ((i : Nat) : Int)) (.int .i64 ((d.pg.length : Nat) : Int)) (.bool false) (fun _ => rfl) e90_i e90_81 (ltN hid _ _ _) rfl ?_
        refine w_nil ?_
        refine xn_then ?_
        refine w_seq ?_
        refine w_condF rfl ?_
        refine w_exit ?_
        refine xx_then ?_
        refine xx_then ?_
        refine xx_blk ?_
        refine xn_then ?_
        refine w_seq ?_
        refine w_reg ?_
        refine wl_mv (.const (.bool true)) (.bool true) (fun _ => rfl) rfl rfl ?_
        refine w_nil ?_
        refine xn_then ?_
        refine w_ret ?_
        exact w_ret1 _ (.bool true) rfl rfl ⟨rfl, MF.trans M⟩
  | false =>
    have hf0p := of_decide_eq_false hf0
    refine wl_bin (fun x y => do eqGuard .neq 32 (.tmp 23) (.const (.int .i64 (0))) x y; binOp .neq 32 x y) (.tmp 23) (.const (.int .i64 (0))) (.int .i64 (r)) (.int .i64 (0)) (.bool true) (fun _ => rfl) rfl rfl (ne34 hf0 _ _ _) rfl ?_
    refine wl_pick (.tmp 22) (.const (.bool true)) (.tmp 24) false (.bool true) (fun _ => rfl) rfl rfl rfl ?_
    refine w_nil ?_
    refine xn_then ?_
    refine w_condT rfl ?_
    refine w_seq ?_
    refine w_reg ?_
    refine wl_call 7 [] _ [] (.bool true) rfl rfl (fun _ _ => by kernel_rfl) (begun_n _) rfl ?_
    intro u6 hq
    replace Q1 := Q1.mo hq
    replace Q2 := Q2.mo hq
    replace M := M.trans hq
    clear hq
    refine wl_mv (.tmp 26) (.bool true) (fun _ => rfl) rfl rfl ?_
    refine w_nil ?_
    refine xn_then ?_
    refine w_ret ?_
    refine xr_then ?_
    exact w_ret1 _ (.bool true) rfl rfl ⟨rfl, M⟩
end Go.Proofs.YtepfokoepibkcaaGreat
