/-
  What is wrong with an item, with a When. decimal.Cmp answers. What is wrong with a table: some answer.
-/
import Derived.Test.YtepfokoepibkcaaGreatK9
import Derived.Test.YtepfokoepibkcaaGreatAa
namespace Go.Proofs.YtepfokoepibkcaaGreat
open Go.RowKit D
/-- What is wrong with an expression that must be of a kind. -/
def wnK (d : Df) (L : List S5) (s : Nat) (k : Int) (x : Ex) : Int := if (kdK d L s x).2 = 0 ∧ ¬ (kdK d L s x).1 = k then 100 else (kdK d L s x).2
def whC (d : Df) (L : List S5) (s : Nat) (x : Ex) : Int := if x.k = 0 then 0 else wnK d L s 2 x
def lnC (d : Df) (L : List S5) (s : Nat) (y : It) : Int := if tyc y.tk y.ts = 0 then (if y.tk = 1 ∧ isp y.po = false then 22 else wnK d L s y.tk y.ex) else tyc y.tk y.ts
def itC (d : Df) (L : List S5) (s : Nat) (y : It) : Int := if y.k = 1 then tyc y.tk y.ts else if y.k = 2 then lnC d L s y else if y.k = 3 then wnK d L s 2 y.ex else 100
theorem wnK_0 {d : Df} {L : List S5} {s : Nat} {k : Int} {x : Ex} (h : wnK d L s k x = 0) : (kdK d L s x).2 = 0 ∧ (kdK d L s x).1 = k := by
  unfold wnK at h
  split at h
  · exact absurd h (by decide)
  · rename_i q
    refine ⟨h, ?_⟩
    by_cases e : (kdK d L s x).1 = k
    · exact e
    · exact absurd ⟨h, e⟩ q
theorem itC_2 {d : Df} {L : List S5} {s : Nat} {y : It} (h : itC d L s y = 0) (hk : y.k = 2) : (kdK d L s y.ex).2 = 0 ∧ (kdK d L s y.ex).1 = y.tk := by
  unfold itC at h
  rw [if_neg (by omega), if_pos hk] at h
  unfold lnC at h
  split at h
  · split at h
    · exact absurd h (by decide)
    · exact wnK_0 h
  · contradiction
theorem itC_3 {d : Df} {L : List S5} {s : Nat} {y : It} (h : itC d L s y = 0) (hk : y.k = 3) : (kdK d L s y.ex).2 = 0 ∧ (kdK d L s y.ex).1 = 2 := by
  unfold itC at h
  rw [if_neg (by omega), if_neg (by omega), if_pos hk] at h
  exact wnK_0 h
theorem whC_0 {d : Df} {L : List S5} {s : Nat} {x : Ex} (h : whC d L s x = 0) (hk : ¬ x.k = 0) : (kdK d L s x).2 = 0 ∧ (kdK d L s x).1 = 2 := by
  unfold whC at h
  rw [if_neg hk] at h
  exact wnK_0 h
theorem wnK_key {R L : List S5} (h : R.map key5 = L.map key5) (d : Df) (s : Nat) (k : Int) {x x' : Ex} (he : ek x' = ek x) : wnK d R s k x' = wnK d L s k x := by
  unfold wnK; rw [kdK_key h, kdK_ek he]
theorem itC_key {R L : List S5} (h : R.map key5 = L.map key5) (d : Df) (s : Nat) {y y' : It} (he : kx y' = kx y) : itC d R s y' = itC d L s y := by
  simp only [kx, Prod.mk.injEq] at he
  obtain ⟨_, h2, h3, h4, h5, h6⟩ := he
  unfold itC lnC
  rw [h2, h3, h4, h5, wnK_key h d s 2 h6, wnK_key h d s y.tk h6]
theorem whC_key {R L : List S5} (h : R.map key5 = L.map key5) (d : Df) (s : Nat) (x : Ex) : whC d R s x = whC d L s x := by
  unfold whC; rw [wnK_key h d s 2 rfl]
theorem wnK_n {w : World} {d : Df} {sp : Option Addr} {L : List S5} {s : Nat} (hR : RD w d sp L s) (sc : Nat) (k : Int) {x : Ex} (hL : LEx w x) (hB : AB x) : Calls Tryz.prog 28 #[.agg (rdr d sp L sc s).toArray, .int .i64 k, .agg (x.cells).toArray] w fun e w' => e = .returned (.int .i64 (wnK d L s k x)) ∧ Mo w w' := by
  refine w_enter 23 Tryz.func28 Tryz.ntmps28 rfl rfl ?_
  have M : Mo w w := Mo.refl _
  refine w_seq ?_
  refine w_reg ?_
  refine wl_box 65 (.tmp 0) (.agg (rdr d sp L sc s).toArray) (((rdr d sp L sc s).toArray)) rfl rfl (fun _ => by kernel_rfl) rfl ?_
  intro k1 u1 hk hz hq Q1
  have N_k1 : w.heap.size ≤ k1 := by have := M.size; omega
  replace M := M.trans hq
  clear hk hz hq
  refine wl_box 52 (.tmp 2) (.agg (x.cells).toArray) (((x.cells).toArray)) rfl rfl (fun _ => by kernel_rfl) rfl ?_
  intro k2 u2 hk hz hq Q2
  have ne_k1_k2 : k1 ≠ k2 := by have := Q1.lt; omega
  have N_k2 : w.heap.size ≤ k2 := by have := M.size; omega
  replace Q1 := Q1.mo hq
  replace M := M.trans hq
  clear hk hz hq
  refine wl_mv (.const (.int .i64 (0))) (.int .i64 (0)) (fun _ => rfl) rfl rfl ?_
  refine w_nil ?_
  refine xn_then ?_
  refine w_seq ?_
  refine w_reg ?_
  refine wl_load 65 (.tmp 3) (pt k1 0) (.agg (rdr d sp L sc s).toArray) rfl rfl (run_row Q1 65 0 9 (rdr d sp L sc s) rfl Tryz.underlying65 rfl sz65) rfl ?_
  refine wl_load 52 (.tmp 5) (pt k2 0) (.agg (x.cells).toArray) rfl rfl (run_row Q2 52 0 17 (x.cells) rfl Tryz.underlying52 rfl sz52) rfl ?_
  refine wl_call 21 [(.tmp 10), (.tmp 11)] _ [.agg (rdr d sp L sc s).toArray, .agg (x.cells).toArray] (.tuple #[.int .i64 ((kdK d L s x).1), .int .i64 ((kdK d L s x).2)]) rfl rfl (fun _ _ => by kernel_rfl) (kdK_n sc x (hL.kp M.kp) (hR.kp M.kp) hB) rfl ?_
  intro u3 hq
  replace Q1 := Q1.mo hq
  replace Q2 := Q2.mo hq
  replace M := M.trans hq
  clear hq
  refine wl_mv (.tmp 12) (.tuple #[.int .i64 ((kdK d L s x).1), .int .i64 ((kdK d L s x).2)]) (fun _ => rfl) rfl rfl ?_
  refine wl_un (fun v => Instr.extract v 0) (.tmp 9) (.tuple #[.int .i64 ((kdK d L s x).1), .int .i64 ((kdK d L s x).2)]) (.int .i64 ((kdK d L s x).1)) (fun _ => rfl) rfl (by kernel_rfl) rfl ?_
  refine wl_un (fun v => Instr.extract v 1) (.tmp 9) (.tuple #[.int .i64 ((kdK d L s x).1), .int .i64 ((kdK d L s x).2)]) (.int .i64 ((kdK d L s x).2)) (fun _ => rfl) rfl (by kernel_rfl) rfl ?_
  refine wl_mv (.tmp 13) (.int .i64 ((kdK d L s x).1)) (fun _ => rfl) rfl rfl ?_
  refine wl_mv (.tmp 14) (.int .i64 ((kdK d L s x).2)) (fun _ => rfl) rfl rfl ?_
  refine w_nil ?_
  refine xn_then ?_
  refine w_seq ?_
  refine w_seq ?_
  refine w_reg ?_
  refine wl_mv (.tmp 8) (.int .i64 ((kdK d L s x).2)) (fun _ => rfl) rfl rfl ?_
  cases hf0 : decide ((kdK d L s x).2 = 0) with
  | true =>
    have hf0p := of_decide_eq_true hf0
    refine wl_bin (fun x y => do eqGuard .eql 32 (.tmp 15) (.const (.int .i64 (0))) x y; binOp .eql 32 x y) (.tmp 15) (.const (.int .i64 (0))) (.int .i64 ((kdK d L s x).2)) (.int .i64 (0)) (.bool true) (fun _ => rfl) rfl rfl (eq34 hf0 _ _ _) rfl ?_
    refine wl_mv (.tmp 16) (.bool true) (fun _ => rfl) rfl rfl ?_
    refine wl_mv (.tmp 7) (.int .i64 ((kdK d L s x).1)) (fun _ => rfl) rfl rfl ?_
    refine wl_mv (.tmp 1) (.int .i64 (k)) (fun _ => rfl) rfl rfl ?_
    cases hf1 : decide ((kdK d L s x).1 = k) with
    | true =>
      have hf1p := of_decide_eq_true hf1
      refine wl_bin (fun x y => do eqGuard .neq 3 (.tmp 18) (.tmp 19) x y; binOp .neq 3 x y) (.tmp 18) (.tmp 19) (.int .i64 ((kdK d L s x).1)) (.int .i64 (k)) (.bool false) (fun _ => rfl) rfl rfl (ne3 hf1 _ _ _) rfl ?_
      refine wl_pick (.tmp 17) (.tmp 20) (.const (.bool false)) true (.bool false) (fun _ => rfl) rfl rfl rfl ?_
      refine w_nil ?_
      refine xn_then ?_
      refine w_condF rfl ?_
      refine w_skip ?_
      refine xn_then ?_
      refine w_seq ?_
      refine w_reg ?_
      refine wl_mv (.tmp 8) (.int .i64 ((kdK d L s x).2)) (fun _ => rfl) rfl rfl ?_
      refine wl_mv (.tmp 22) (.int .i64 ((kdK d L s x).2)) (fun _ => rfl) rfl rfl ?_
      refine w_nil ?_
      refine xn_then ?_
      refine w_ret ?_
      exact w_ret1 _ (.int .i64 ((kdK d L s x).2)) rfl rfl ⟨by unfold wnK; rw [if_neg (fun h => h.2 hf1p)], M⟩
    | false =>
      have hf1p := of_decide_eq_false hf1
      refine wl_bin (fun x y => do eqGuard .neq 3 (.tmp 18) (.tmp 19) x y; binOp .neq 3 x y) (.tmp 18) (.tmp 19) (.int .i64 ((kdK d L s x).1)) (.int .i64 (k)) (.bool true) (fun _ => rfl) rfl rfl (ne3 hf1 _ _ _) rfl ?_
      refine wl_pick (.tmp 17) (.tmp 20) (.const (.bool false)) true (.bool true) (fun _ => rfl) rfl rfl rfl ?_
      refine w_nil ?_
      refine xn_then ?_
      refine w_condT rfl ?_
      refine w_seq ?_
      refine w_reg ?_
      refine wl_mv (.const (.int .i64 (100))) (.int .i64 (100)) (fun _ => rfl) rfl rfl ?_
      refine w_nil ?_
      refine xn_then ?_
      refine w_ret ?_
      refine xr_then ?_
      exact w_ret1 _ (.int .i64 (100)) rfl rfl ⟨by unfold wnK; rw [if_pos ⟨hf0p, hf1p⟩], M⟩
  | false =>
    have hf0p := of_decide_eq_false hf0
    refine wl_bin (fun x y => do eqGuard .eql 32 (.tmp 15) (.const (.int .i64 (0))) x y; binOp .eql 32 x y) (.tmp 15) (.const (.int .i64 (0))) (.int .i64 ((kdK d L s x).2)) (.int .i64 (0)) (.bool false) (fun _ => rfl) rfl rfl (eq34 hf0 _ _ _) rfl ?_
    refine wl_mv (.tmp 16) (.bool false) (fun _ => rfl) rfl rfl ?_
    refine wl_skip rfl ?_
    refine wl_skip rfl ?_
    refine wl_skip rfl ?_
    refine wl_pick (.tmp 17) (.tmp 20) (.const (.bool false)) false (.bool false) (fun _ => rfl) rfl rfl rfl ?_
    refine w_nil ?_
    refine xn_then ?_
    refine w_condF rfl ?_
    refine w_skip ?_
    refine xn_then ?_
    refine w_seq ?_
    refine w_reg ?_
    refine wl_mv (.tmp 8) (.int .i64 ((kdK d L s x).2)) (fun _ => rfl) rfl rfl ?_
    refine wl_mv (.tmp 22) (.int .i64 ((kdK d L s x).2)) (fun _ => rfl) rfl rfl ?_
    refine w_nil ?_
    refine xn_then ?_
    refine w_ret ?_
    exact w_ret1 _ (.int .i64 ((kdK d L s x).2)) rfl rfl ⟨by unfold wnK; rw [if_neg (fun h => hf0p h.1)], M⟩
theorem whC_n {w : World} {d : Df} {sp : Option Addr} {L : List S5} {s : Nat} (hR : RD w d sp L s) (sc : Nat) {x : Ex} (hL : LEx w x) (hB : AB x) : Calls Tryz.prog 13 #[.agg (rdr d sp L sc s).toArray, .agg (x.cells).toArray] w fun e w' => e = .returned (.int .i64 (whC d L s x)) ∧ Mo w w' := by
  refine w_enter 11 Tryz.func13 Tryz.ntmps13 rfl rfl ?_
  have M : Mo w w := Mo.refl _
  refine w_seq ?_
  refine w_reg ?_
  refine wl_box 65 (.tmp 0) (.agg (rdr d sp L sc s).toArray) (((rdr d sp L sc s).toArray)) rfl rfl (fun _ => by kernel_rfl) rfl ?_
  intro k1 u1 hk hz hq Q1
  have N_k1 : w.heap.size ≤ k1 := by have := M.size; omega
  replace M := M.trans hq
  clear hk hz hq
  refine wl_box 52 (.tmp 1) (.agg (x.cells).toArray) (((x.cells).toArray)) rfl rfl (fun _ => by kernel_rfl) rfl ?_
  intro k2 u2 hk hz hq Q2
  have ne_k1_k2 : k1 ≠ k2 := by have := Q1.lt; omega
  have N_k2 : w.heap.size ≤ k2 := by have := M.size; omega
  replace Q1 := Q1.mo hq
  replace M := M.trans hq
  clear hk hz hq
  refine wl_mv (.const (.int .i64 (0))) (.int .i64 (0)) (fun _ => rfl) rfl rfl ?_
  refine w_nil ?_
  refine xn_then ?_
  refine w_seq ?_
  refine w_seq ?_
  refine w_reg ?_
  refine wl_un (fun v => Instr.fieldAt 52 v 0) (.tmp 3) (pt k2 0) (pt k2 0) (fun _ => rfl) rfl (by kernel_rfl) rfl ?_
  refine wl_load 3 (.tmp 5) (pt k2 0) (.int .i64 (x.k)) rfl rfl (run_one Q2 3 0 rfl Tryz.underlying3 rfl) rfl ?_
  cases hf0 : decide (x.k = 0) with
  | true =>
    have hf0p := of_decide_eq_true hf0
    refine wl_bin (fun x y => do eqGuard .eql 3 (.tmp 6) (.const (.int .i64 (0))) x y; binOp .eql 3 x y) (.tmp 6) (.const (.int .i64 (0))) (.int .i64 (x.k)) (.int .i64 (0)) (.bool true) (fun _ => rfl) rfl rfl (eq3 hf0 _ _ _) rfl ?_
    refine w_nil ?_
    refine xn_then ?_
    refine w_condT rfl ?_
    refine w_seq ?_
    refine w_reg ?_
    refine wl_mv (.const (.int .i64 (0))) (.int .i64 (0)) (fun _ => rfl) rfl rfl ?_
    refine w_nil ?_
    refine xn_then ?_
    refine w_ret ?_
    refine xr_then ?_
    exact w_ret1 _ (.int .i64 (0)) rfl rfl ⟨by unfold whC; rw [if_pos hf0p], M⟩
  | false =>
    have hf0p := of_decide_eq_false hf0
    refine wl_bin (fun x y => do eqGuard .eql 3 (.tmp 6) (.const (.int .i64 (0))) x y; binOp .eql 3 x y) (.tmp 6) (.const (.int .i64 (0))) (.int .i64 (x.k)) (.int .i64 (0)) (.bool false) (fun _ => rfl) rfl rfl (eq3 hf0 _ _ _) rfl ?_
    refine w_nil ?_
    refine xn_then ?_
    refine w_condF rfl ?_
    refine w_skip ?_
    refine xn_then ?_
    refine w_seq ?_
    refine w_reg ?_
    refine wl_load 65 (.tmp 2) (pt k1 0) (.agg (rdr d sp L sc s).toArray) rfl rfl (run_row Q1 65 0 9 (rdr d sp L sc s) rfl Tryz.underlying65 rfl sz65) rfl ?_
    refine wl_load 52 (.tmp 3) (pt k2 0) (.agg (x.cells).toArray) rfl rfl (run_row Q2 52 0 17 (x.cells) rfl Tryz.underlying52 rfl sz52) rfl ?_
    refine wl_call 28 [(.tmp 8), (.const (.int .i64 (2))), (.tmp 9)] _ [.agg (rdr d sp L sc s).toArray, .int .i64 (2), .agg (x.cells).toArray] (.int .i64 (wnK d L s 2 x)) rfl rfl (fun _ _ => by kernel_rfl) (wnK_n (hR.kp M.kp) sc 2 (hL.kp M.kp) hB) rfl ?_
    intro u3 hq
    replace Q1 := Q1.mo hq
    replace Q2 := Q2.mo hq
    replace M := M.trans hq
    clear hq
    refine wl_mv (.tmp 10) (.int .i64 (wnK d L s 2 x)) (fun _ => rfl) rfl rfl ?_
    refine w_nil ?_
    refine xn_then ?_
    refine w_ret ?_
    exact w_ret1 _ (.int .i64 (wnK d L s 2 x)) rfl rfl ⟨by unfold whC; rw [if_neg hf0p], M⟩
theorem lnC_n {w : World} {d : Df} {sp : Option Addr} {L : List S5} {s : Nat} (hR : RD w d sp L s) (sc : Nat) {y : It} (hL : LEx w y.ex) (hB : AB y.ex) : Calls Tryz.prog 27 #[.agg (rdr d sp L sc s).toArray, .agg (y.cells).toArray] w fun e w' => e = .returned (.int .i64 (lnC d L s y)) ∧ Mo w w' := by
  refine w_enter 29 Tryz.func27 Tryz.ntmps27 rfl rfl ?_
  have M : Mo w w := Mo.refl _
  refine w_seq ?_
  refine w_reg ?_
  refine wl_box 65 (.tmp 0) (.agg (rdr d sp L sc s).toArray) (((rdr d sp L sc s).toArray)) rfl rfl (fun _ => by kernel_rfl) rfl ?_
  intro k1 u1 hk hz hq Q1
  have N_k1 : w.heap.size ≤ k1 := by have := M.size; omega
  replace M := M.trans hq
  clear hk hz hq
  refine wl_box 54 (.tmp 1) (.agg (y.cells).toArray) (((y.cells).toArray)) rfl rfl (fun _ => by kernel_rfl) rfl ?_
  intro k2 u2 hk hz hq Q2
  have ne_k1_k2 : k1 ≠ k2 := by have := Q1.lt; omega
  have N_k2 : w.heap.size ≤ k2 := by have := M.size; omega
  replace Q1 := Q1.mo hq
  replace M := M.trans hq
  clear hk hz hq
  refine wl_mv (.const (.int .i64 (0))) (.int .i64 (0)) (fun _ => rfl) rfl rfl ?_
  refine w_nil ?_
  refine xn_then ?_
  refine w_seq ?_
  refine w_seq ?_
  refine w_reg ?_
  refine wl_un (fun v => Instr.fieldAt 54 v 2) (.tmp 3) (pt k2 0) (pt k2 2) (fun _ => rfl) rfl (by kernel_rfl) rfl ?_
  refine wl_load 42 (.tmp 6) (pt k2 2) (.agg #[.int .i64 y.tk, .int .i64 y.ts]) rfl rfl (run_row Q2 42 2 2 [.int .i64 y.tk, .int .i64 y.ts] rfl Tryz.underlying42 rfl sz42) rfl ?_
  refine wl_call 26 [(.tmp 7)] _ [.agg #[.int .i64 y.tk, .int .i64 y.ts]] (.int .i64 (tyc y.tk y.ts)) rfl rfl (fun _ _ => by kernel_rfl) (typ_n y.tk y.ts _) rfl ?_
  intro u3 hq
  replace Q1 := Q1.mo hq
  replace Q2 := Q2.mo hq
  replace M := M.trans hq
  clear hq
  refine wl_mv (.tmp 8) (.int .i64 (tyc y.tk y.ts)) (fun _ => rfl) rfl rfl ?_
  refine w_nil ?_
  refine xn_then ?_
  refine w_seq ?_
  refine w_reg ?_
  refine wl_mv (.tmp 5) (.int .i64 (tyc y.tk y.ts)) (fun _ => rfl) rfl rfl ?_
  cases hf0 : decide (tyc y.tk y.ts = 0) with
  | true =>
    have hf0p := of_decide_eq_true hf0
    refine wl_bin (fun x y => do eqGuard .neq 32 (.tmp 9) (.const (.int .i64 (0))) x y; binOp .neq 32 x y) (.tmp 9) (.const (.int .i64 (0))) (.int .i64 (tyc y.tk y.ts)) (.int .i64 (0)) (.bool false) (fun _ => rfl) rfl rfl (ne34 hf0 _ _ _) rfl ?_
    refine w_nil ?_
    refine xn_then ?_
    refine w_condF rfl ?_
    refine w_skip ?_
    refine xn_then ?_
    refine w_seq ?_
    refine w_seq ?_
    refine w_reg ?_
    refine wl_un (fun v => Instr.fieldAt 54 v 2) (.tmp 3) (pt k2 0) (pt k2 2) (fun _ => rfl) rfl (by kernel_rfl) rfl ?_
    refine wl_un (fun v => Instr.fieldAt 42 v 0) (.tmp 12) (pt k2 2) (pt k2 2) (fun _ => rfl) rfl (by kernel_rfl) rfl ?_
    refine wl_load 3 (.tmp 13) (pt k2 2) (.int .i64 (y.tk)) rfl rfl (run_one Q2 3 2 rfl Tryz.underlying3 rfl) rfl ?_
    cases hf1 : decide (y.tk = 1) with
    | true =>
      have hf1p := of_decide_eq_true hf1
      refine wl_bin (fun x y => do eqGuard .eql 3 (.tmp 14) (.const (.int .i64 (1))) x y; binOp .eql 3 x y) (.tmp 14) (.const (.int .i64 (1))) (.int .i64 (y.tk)) (.int .i64 (1)) (.bool true) (fun _ => rfl) rfl rfl (eq3 hf1 _ _ _) rfl ?_
      refine wl_mv (.tmp 15) (.bool true) (fun _ => rfl) rfl rfl ?_
      refine wl_un (fun v => Instr.fieldAt 54 v 4) (.tmp 3) (pt k2 0) (pt k2 5) (fun _ => rfl) rfl (by kernel_rfl) rfl ?_
      refine wl_load 3 (.tmp 17) (pt k2 5) (.int .i64 (y.po)) rfl rfl (run_one Q2 3 5 rfl Tryz.underlying3 rfl) rfl ?_
      cases hf2 : isp y.po with
      | true =>
        refine wl_call 49 [(.tmp 18)] _ [.int .i64 (y.po)] (.bool true) rfl rfl (fun _ _ => by kernel_rfl) (cB hf2 (isp_n y.po _)) rfl ?_
        intro u4 hq
        replace Q1 := Q1.mo hq
        replace Q2 := Q2.mo hq
        replace M := M.trans hq
        clear hq
        refine wl_un (fun v => Op.unary .not v) (.tmp 19) (.bool true) (.bool false) (fun _ => rfl) rfl (by kernel_rfl) rfl ?_
        refine wl_pick (.tmp 16) (.tmp 20) (.const (.bool false)) true (.bool false) (fun _ => rfl) rfl rfl rfl ?_
        refine w_nil ?_
        refine xn_then ?_
        refine w_condF rfl ?_
        refine w_skip ?_
        refine xn_then ?_
        refine w_seq ?_
        refine w_reg ?_
        refine wl_load 65 (.tmp 2) (pt k1 0) (.agg (rdr d sp L sc s).toArray) rfl rfl (run_row Q1 65 0 9 (rdr d sp L sc s) rfl Tryz.underlying65 rfl sz65) rfl ?_
        refine wl_un (fun v => Instr.fieldAt 54 v 2) (.tmp 3) (pt k2 0) (pt k2 2) (fun _ => rfl) rfl (by kernel_rfl) rfl ?_
        refine wl_un (fun v => Instr.fieldAt 42 v 0) (.tmp 23) (pt k2 2) (pt k2 2) (fun _ => rfl) rfl (by kernel_rfl) rfl ?_
        refine wl_load 3 (.tmp 24) (pt k2 2) (.int .i64 (y.tk)) rfl rfl (run_one Q2 3 2 rfl Tryz.underlying3 rfl) rfl ?_
        refine wl_un (fun v => Instr.fieldAt 54 v 5) (.tmp 3) (pt k2 0) (pt k2 6) (fun _ => rfl) rfl (by kernel_rfl) rfl ?_
        refine wl_load 52 (.tmp 26) (pt k2 6) (.agg (y.ex.cells).toArray) rfl rfl (run_row Q2 52 6 17 (y.ex.cells) rfl Tryz.underlying52 rfl sz52) rfl ?_
        refine wl_call 28 [(.tmp 22), (.tmp 25), (.tmp 27)] _ [.agg (rdr d sp L sc s).toArray, .int .i64 (y.tk), .agg (y.ex.cells).toArray] (.int .i64 (wnK d L s y.tk y.ex)) rfl rfl (fun _ _ => by kernel_rfl) (wnK_n (hR.kp M.kp) sc y.tk (hL.kp M.kp) hB) rfl ?_
        intro u5 hq
        replace Q1 := Q1.mo hq
        replace Q2 := Q2.mo hq
        replace M := M.trans hq
        clear hq
        refine wl_mv (.tmp 28) (.int .i64 (wnK d L s y.tk y.ex)) (fun _ => rfl) rfl rfl ?_
        refine w_nil ?_
        refine xn_then ?_
        refine w_ret ?_
        exact w_ret1 _ (.int .i64 (wnK d L s y.tk y.ex)) rfl rfl ⟨by unfold lnC; rw [if_pos hf0p, if_neg (fun h => by rw [hf2] at h; cases h.2)], M⟩
      | false =>
        refine wl_call 49 [(.tmp 18)] _ [.int .i64 (y.po)] (.bool false) rfl rfl (fun _ _ => by kernel_rfl) (cB hf2 (isp_n y.po _)) rfl ?_
        intro u4 hq
        replace Q1 := Q1.mo hq
        replace Q2 := Q2.mo hq
        replace M := M.trans hq
        clear hq
        refine wl_un (fun v => Op.unary .not v) (.tmp 19) (.bool false) (.bool true) (fun _ => rfl) rfl (by kernel_rfl) rfl ?_
        refine wl_pick (.tmp 16) (.tmp 20) (.const (.bool false)) true (.bool true) (fun _ => rfl) rfl rfl rfl ?_
        refine w_nil ?_
        refine xn_then ?_
        refine w_condT rfl ?_
        refine w_seq ?_
        refine w_reg ?_
        refine wl_mv (.const (.int .i64 (22))) (.int .i64 (22)) (fun _ => rfl) rfl rfl ?_
        refine w_nil ?_
        refine xn_then ?_
        refine w_ret ?_
        refine xr_then ?_
        exact w_ret1 _ (.int .i64 (22)) rfl rfl ⟨by unfold lnC; rw [if_pos hf0p, if_pos ⟨hf1p, hf2⟩], M⟩
    | false =>
      have hf1p := of_decide_eq_false hf1
      refine wl_bin (fun x y => do eqGuard .eql 3 (.tmp 14) (.const (.int .i64 (1))) x y; binOp .eql 3 x y) (.tmp 14) (.const (.int .i64 (1))) (.int .i64 (y.tk)) (.int .i64 (1)) (.bool false) (fun _ => rfl) rfl rfl (eq3 hf1 _ _ _) rfl ?_
      refine wl_mv (.tmp 15) (.bool false) (fun _ => rfl) rfl rfl ?_
      refine wl_skip rfl ?_
      refine wl_skip rfl ?_
      refine wl_skip rfl ?_
      refine wl_skip rfl ?_
      refine wl_pick (.tmp 16) (.tmp 20) (.const (.bool false)) false (.bool false) (fun _ => rfl) rfl rfl rfl ?_
      refine w_nil ?_
      refine xn_then ?_
      refine w_condF rfl ?_
      refine w_skip ?_
      refine xn_then ?_
      refine w_seq ?_
      refine w_reg ?_
      refine wl_load 65 (.tmp 2) (pt k1 0) (.agg (rdr d sp L sc s).toArray) rfl rfl (run_row Q1 65 0 9 (rdr d sp L sc s) rfl Tryz.underlying65 rfl sz65) rfl ?_
      refine wl_un (fun v => Instr.fieldAt 54 v 2) (.tmp 3) (pt k2 0) (pt k2 2) (fun _ => rfl) rfl (by kernel_rfl) rfl ?_
      refine wl_un (fun v => Instr.fieldAt 42 v 0) (.tmp 23) (pt k2 2) (pt k2 2) (fun _ => rfl) rfl (by kernel_rfl) rfl ?_
      refine wl_load 3 (.tmp 24) (pt k2 2) (.int .i64 (y.tk)) rfl rfl (run_one Q2 3 2 rfl Tryz.underlying3 rfl) rfl ?_
      refine wl_un (fun v => Instr.fieldAt 54 v 5) (.tmp 3) (pt k2 0) (pt k2 6) (fun _ => rfl) rfl (by kernel_rfl) rfl ?_
      refine wl_load 52 (.tmp 26) (pt k2 6) (.agg (y.ex.cells).toArray) rfl rfl (run_row Q2 52 6 17 (y.ex.cells) rfl Tryz.underlying52 rfl sz52) rfl ?_
      refine wl_call 28 [(.tmp 22), (.tmp 25), (.tmp 27)] _ [.agg (rdr d sp L sc s).toArray, .int .i64 (y.tk), .agg (y.ex.cells).toArray] (.int .i64 (wnK d L s y.tk y.ex)) rfl rfl (fun _ _ => by kernel_rfl) (wnK_n (hR.kp M.kp) sc y.tk (hL.kp M.kp) hB) rfl ?_
      intro u4 hq
      replace Q1 := Q1.mo hq
      replace Q2 := Q2.mo hq
      replace M := M.trans hq
      clear hq
      refine wl_mv (.tmp 28) (.int .i64 (wnK d L s y.tk y.ex)) (fun _ => rfl) rfl rfl ?_
      refine w_nil ?_
      refine xn_then ?_
      refine w_ret ?_
      exact w_ret1 _ (.int .i64 (wnK d L s y.tk y.ex)) rfl rfl ⟨by unfold lnC; rw [if_pos hf0p, if_neg (fun h => hf1p h.1)], M⟩
  | false =>
    have hf0p := of_decide_eq_false hf0
    refine wl_bin (fun x y => do eqGuard .neq 32 (.tmp 9) (.const (.int .i64 (0))) x y; binOp .neq 32 x y) (.tmp 9) (.const (.int .i64 (0))) (.int .i64 (tyc y.tk y.ts)) (.int .i64 (0)) (.bool true) (fun _ => rfl) rfl rfl (ne34 hf0 _ _ _) rfl ?_
    refine w_nil ?_
    refine xn_then ?_
    refine w_condT rfl ?_
    refine w_seq ?_
    refine w_reg ?_
    refine wl_mv (.tmp 5) (.int .i64 (tyc y.tk y.ts)) (fun _ => rfl) rfl rfl ?_
    refine wl_mv (.tmp 11) (.int .i64 (tyc y.tk y.ts)) (fun _ => rfl) rfl rfl ?_
    refine w_nil ?_
    refine xn_then ?_
    refine w_ret ?_
    refine xr_then ?_
    exact w_ret1 _ (.int .i64 (tyc y.tk y.ts)) rfl rfl ⟨by unfold lnC; rw [if_neg hf0p], M⟩
theorem itC_n {w : World} {d : Df} {sp : Option Addr} {L : List S5} {s : Nat} (hR : RD w d sp L s) (sc : Nat) {y : It} (hL : LEx w y.ex) (hB : AB y.ex) : Calls Tryz.prog 12 #[.agg (rdr d sp L sc s).toArray, .agg (y.cells).toArray] w fun e w' => e = .returned (.int .i64 (itC d L s y)) ∧ Mo w w' := by
  refine w_enter 23 Tryz.func12 Tryz.ntmps12 rfl rfl ?_
  have M : Mo w w := Mo.refl _
  refine w_seq ?_
  refine w_reg ?_
  refine wl_box 65 (.tmp 0) (.agg (rdr d sp L sc s).toArray) (((rdr d sp L sc s).toArray)) rfl rfl (fun _ => by kernel_rfl) rfl ?_
  intro k1 u1 hk hz hq Q1
  have N_k1 : w.heap.size ≤ k1 := by have := M.size; omega
  replace M := M.trans hq
  clear hk hz hq
  refine wl_box 54 (.tmp 1) (.agg (y.cells).toArray) (((y.cells).toArray)) rfl rfl (fun _ => by kernel_rfl) rfl ?_
  intro k2 u2 hk hz hq Q2
  have ne_k1_k2 : k1 ≠ k2 := by have := Q1.lt; omega
  have N_k2 : w.heap.size ≤ k2 := by have := M.size; omega
  replace Q1 := Q1.mo hq
  replace M := M.trans hq
  clear hk hz hq
  refine wl_mv (.const (.int .i64 (0))) (.int .i64 (0)) (fun _ => rfl) rfl rfl ?_
  refine w_nil ?_
  refine xn_then ?_
  refine w_seq ?_
  refine w_seq ?_
  refine w_reg ?_
  refine wl_un (fun v => Instr.fieldAt 54 v 1) (.tmp 3) (pt k2 0) (pt k2 1) (fun _ => rfl) rfl (by kernel_rfl) rfl ?_
  refine wl_load 3 (.tmp 5) (pt k2 1) (.int .i64 (y.k)) rfl rfl (run_one Q2 3 1 rfl Tryz.underlying3 rfl) rfl ?_
  refine w_nil ?_
  refine xn_then ?_
  refine w_block ?_
  refine w_seq ?_
  refine w_reg ?_
  cases hf0 : decide (y.k = 1) with
  | true =>
    have hf0p := of_decide_eq_true hf0
    refine wl_bin (fun x y => do eqGuard .eql 3 (.tmp 6) (.const (.int .i64 (1))) x y; binOp .eql 3 x y) (.tmp 6) (.const (.int .i64 (1))) (.int .i64 (y.k)) (.int .i64 (1)) (.bool true) (fun _ => rfl) rfl rfl (eq3 hf0 _ _ _) rfl ?_
    refine wl_mv (.tmp 8) (.bool true) (fun _ => rfl) rfl rfl ?_
    refine w_nil ?_
    refine xn_then ?_
    refine w_condT rfl ?_
    refine w_seq ?_
    refine w_reg ?_
    refine wl_un (fun v => Instr.fieldAt 54 v 2) (.tmp 3) (pt k2 0) (pt k2 2) (fun _ => rfl) rfl (by kernel_rfl) rfl ?_
    refine wl_load 42 (.tmp 9) (pt k2 2) (.agg #[.int .i64 y.tk, .int .i64 y.ts]) rfl rfl (run_row Q2 42 2 2 [.int .i64 y.tk, .int .i64 y.ts] rfl Tryz.underlying42 rfl sz42) rfl ?_
    refine wl_call 26 [(.tmp 10)] _ [.agg #[.int .i64 y.tk, .int .i64 y.ts]] (.int .i64 (tyc y.tk y.ts)) rfl rfl (fun _ _ => by kernel_rfl) (typ_n y.tk y.ts _) rfl ?_
    intro u3 hq
    replace Q1 := Q1.mo hq
    replace Q2 := Q2.mo hq
    replace M := M.trans hq
    clear hq
    refine wl_mv (.tmp 11) (.int .i64 (tyc y.tk y.ts)) (fun _ => rfl) rfl rfl ?_
    refine w_nil ?_
    refine xn_then ?_
    refine w_ret ?_
    refine xr_blk ?_
    refine xr_then ?_
    exact w_ret1 _ (.int .i64 (tyc y.tk y.ts)) rfl rfl ⟨by unfold itC; rw [if_pos hf0p], M⟩
  | false =>
    have hf0p := of_decide_eq_false hf0
    refine wl_bin (fun x y => do eqGuard .eql 3 (.tmp 6) (.const (.int .i64 (1))) x y; binOp .eql 3 x y) (.tmp 6) (.const (.int .i64 (1))) (.int .i64 (y.k)) (.int .i64 (1)) (.bool false) (fun _ => rfl) rfl rfl (eq3 hf0 _ _ _) rfl ?_
    refine wl_mv (.tmp 8) (.bool false) (fun _ => rfl) rfl rfl ?_
    refine w_nil ?_
    refine xn_then ?_
    refine w_condF rfl ?_
    refine w_seq ?_
    refine w_reg ?_
    cases hf1 : decide (y.k = 2) with
    | true =>
      have hf1p := of_decide_eq_true hf1
      refine wl_bin (fun x y => do eqGuard .eql 3 (.tmp 6) (.const (.int .i64 (2))) x y; binOp .eql 3 x y) (.tmp 6) (.const (.int .i64 (2))) (.int .i64 (y.k)) (.int .i64 (2)) (.bool true) (fun _ => rfl) rfl rfl (eq3 hf1 _ _ _) rfl ?_
      refine wl_mv (.tmp 13) (.bool true) (fun _ => rfl) rfl rfl ?_
      refine w_nil ?_
      refine xn_then ?_
      refine w_condT rfl ?_
      refine w_seq ?_
      refine w_reg ?_
      refine wl_load 65 (.tmp 2) (pt k1 0) (.agg (rdr d sp L sc s).toArray) rfl rfl (run_row Q1 65 0 9 (rdr d sp L sc s) rfl Tryz.underlying65 rfl sz65) rfl ?_
      refine wl_load 54 (.tmp 3) (pt k2 0) (.agg (y.cells).toArray) rfl rfl (run_row Q2 54 0 23 (y.cells) rfl Tryz.underlying54 rfl sz54) rfl ?_
      refine wl_call 27 [(.tmp 14), (.tmp 15)] _ [.agg (rdr d sp L sc s).toArray, .agg (y.cells).toArray] (.int .i64 (lnC d L s y)) rfl rfl (fun _ _ => by kernel_rfl) (lnC_n (hR.kp M.kp) sc (hL.kp M.kp) hB) rfl ?_
      intro u3 hq
      replace Q1 := Q1.mo hq
      replace Q2 := Q2.mo hq
      replace M := M.trans hq
      clear hq
      refine wl_mv (.tmp 16) (.int .i64 (lnC d L s y)) (fun _ => rfl) rfl rfl ?_
      refine w_nil ?_
      refine xn_then ?_
      refine w_ret ?_
      refine xr_blk ?_
      refine xr_then ?_
      exact w_ret1 _ (.int .i64 (lnC d L s y)) rfl rfl ⟨by unfold itC; rw [if_neg hf0p, if_pos hf1p], M⟩
    | false =>
      have hf1p := of_decide_eq_false hf1
      refine wl_bin (fun x y => do eqGuard .eql 3 (.tmp 6) (.const (.int .i64 (2))) x y; binOp .eql 3 x y) (.tmp 6) (.const (.int .i64 (2))) (.int .i64 (y.k)) (.int .i64 (2)) (.bool false) (fun _ => rfl) rfl rfl (eq3 hf1 _ _ _) rfl ?_
      refine wl_mv (.tmp 13) (.bool false) (fun _ => rfl) rfl rfl ?_
      refine w_nil ?_
      refine xn_then ?_
      refine w_condF rfl ?_
      refine w_seq ?_
      refine w_reg ?_
      cases hf2 : decide (y.k = 3) with
      | true =>
        have hf2p := of_decide_eq_true hf2
        refine wl_bin (fun x y => do eqGuard .eql 3 (.tmp 6) (.const (.int .i64 (3))) x y; binOp .eql 3 x y) (.tmp 6) (.const (.int .i64 (3))) (.int .i64 (y.k)) (.int .i64 (3)) (.bool true) (fun _ => rfl) rfl rfl (eq3 hf2 _ _ _) rfl ?_
        refine wl_mv (.tmp 18) (.bool true) (fun _ => rfl) rfl rfl ?_
        refine w_nil ?_
        refine xn_then ?_
        refine w_condT rfl ?_
        refine w_seq ?_
        refine w_reg ?_
        refine wl_load 65 (.tmp 2) (pt k1 0) (.agg (rdr d sp L sc s).toArray) rfl rfl (run_row Q1 65 0 9 (rdr d sp L sc s) rfl Tryz.underlying65 rfl sz65) rfl ?_
        refine wl_un (fun v => Instr.fieldAt 54 v 5) (.tmp 3) (pt k2 0) (pt k2 6) (fun _ => rfl) rfl (by kernel_rfl) rfl ?_
        refine wl_load 52 (.tmp 20) (pt k2 6) (.agg (y.ex.cells).toArray) rfl rfl (run_row Q2 52 6 17 (y.ex.cells) rfl Tryz.underlying52 rfl sz52) rfl ?_
        refine wl_call 28 [(.tmp 19), (.const (.int .i64 (2))), (.tmp 21)] _ [.agg (rdr d sp L sc s).toArray, .int .i64 (2), .agg (y.ex.cells).toArray] (.int .i64 (wnK d L s 2 y.ex)) rfl rfl (fun _ _ => by kernel_rfl) (wnK_n (hR.kp M.kp) sc 2 (hL.kp M.kp) hB) rfl ?_
        intro u3 hq
        replace Q1 := Q1.mo hq
        replace Q2 := Q2.mo hq
        replace M := M.trans hq
        clear hq
        refine wl_mv (.tmp 22) (.int .i64 (wnK d L s 2 y.ex)) (fun _ => rfl) rfl rfl ?_
        refine w_nil ?_
        refine xn_then ?_
        refine w_ret ?_
        refine xr_blk ?_
        refine xr_then ?_
        exact w_ret1 _ (.int .i64 (wnK d L s 2 y.ex)) rfl rfl ⟨by unfold itC; rw [if_neg hf0p, if_neg hf1p, if_pos hf2p], M⟩
      | false =>
        have hf2p := of_decide_eq_false hf2
        refine wl_bin (fun x y => do eqGuard .eql 3 (.tmp 6) (.const (.int .i64 (3))) x y; binOp .eql 3 x y) (.tmp 6) (.const (.int .i64 (3))) (.int .i64 (y.k)) (.int .i64 (3)) (.bool false) (fun _ => rfl) rfl rfl (eq3 hf2 _ _ _) rfl ?_
        refine wl_mv (.tmp 18) (.bool false) (fun _ => rfl) rfl rfl ?_
        refine w_nil ?_
        refine xn_then ?_
        refine w_condF rfl ?_
        refine w_skip ?_
        refine xn_blk ?_
        refine xn_then ?_
        refine w_seq ?_
        refine w_reg ?_
        refine wl_mv (.const (.int .i64 (100))) (.int .i64 (100)) (fun _ => rfl) rfl rfl ?_
        refine w_nil ?_
        refine xn_then ?_
        refine w_ret ?_
        exact w_ret1 _ (.int .i64 (100)) rfl rfl ⟨by unfold itC; rw [if_neg hf0p, if_neg hf1p, if_neg hf2p], M⟩
end Go.Proofs.YtepfokoepibkcaaGreat
namespace Go.Proofs.YtepfokoepibkcaaGreat
open Go.RowKit D
/-- A decimal whose limbs are such. -/
structure DB (d : Dc) : Prop where
  n0 : 0 ≤ d.n0 ∧ d.n0 < 18446744073709551616
  n1 : 0 ≤ d.n1 ∧ d.n1 < 18446744073709551616
  n2 : 0 ≤ d.n2 ∧ d.n2 < 18446744073709551616
  n3 : 0 ≤ d.n3 ∧ d.n3 < 18446744073709551616
def nvl (d : Dc) : Int := d.n0 + d.n1 * 18446744073709551616 + d.n2 * 340282366920938463463374607431768211456 + d.n3 * 6277101735386680763835789423207666416102355444464034512896
theorem DB.of {d : Dc} (h : DB d) : 0 ≤ nvl d ∧ nvl d < MM ∧ (.agg d.cells.toArray : Value) = dc d.b (nvl d) d.s := by
  obtain ⟨h0, h1, h2, h3⟩ := h
  refine ⟨by unfold nvl; omega, by unfold nvl MM; omega, ?_⟩
  have e0 : l0 (nvl d) = d.n0 := by unfold l0 nvl; omega
  have e1 : l1 (nvl d) = d.n1 := by unfold l1 nvl; omega
  have e2 : l2 (nvl d) = d.n2 := by unfold l2 nvl; omega
  have e3 : l3 (nvl d) = d.n3 := by unfold l3 nvl; omega
  unfold dc
  rw [e0, e1, e2, e3]
  rfl
theorem ck_sc {b : Bool} {n s : Int} (h : ck b n s = 0) : 0 ≤ s ∧ s ≤ 18 := by
  unfold ck at h
  split at h
  · rename_i q
    have : sc s = true := by simp at q; exact q.1
    unfold sc at this
    simp at this
    omega
  · cases h
/-- What Cmp answers. -/
def cpr (a b : Dc) : Int := if ck a.b (nvl a) a.s = 0 ∧ ck b.b (nvl b) b.s = 0 then (if cm (sg a.b (nvl a)) (sg b.b (nvl b)) = 0 then (if a.b = true then -(cm (nvl a * 10 ^ (max a.s b.s - a.s).toNat) (nvl b * 10 ^ (max a.s b.s - b.s).toNat)) else cm (nvl a * 10 ^ (max a.s b.s - a.s).toNat) (nvl b * 10 ^ (max a.s b.s - b.s).toNat)) else cm (sg a.b (nvl a)) (sg b.b (nvl b))) else 0
theorem cmp_n {a b : Dc} (ha : DB a) (hb : DB b) (w : World) : Calls Tryz.prog 23 #[.agg a.cells.toArray, .agg b.cells.toArray] w fun e w' => e = .returned (.int .i64 (cpr a b)) ∧ Mo w w' := by
  obtain ⟨hn0, hn, ea⟩ := ha.of
  obtain ⟨hm0, hm, eb⟩ := hb.of
  rw [ea, eb]
  unfold cpr
  by_cases h : ck a.b (nvl a) a.s = 0 ∧ ck b.b (nvl b) b.s = 0
  · rw [if_pos h]
    obtain ⟨h1, h2⟩ := h
    by_cases ho : cm (sg a.b (nvl a)) (sg b.b (nvl b)) = 0
    · rw [if_pos ho]
      have q1 := ck_sc h1
      have q2 := ck_sc h2
      cases hab : a.b with
      | false =>
        rw [hab] at h1 ho
        rw [if_neg (by decide)]
        exact dcmp_pos false b.b _ _ a.s b.s w hn0 hn hm0 hm h1 h2 (max a.s b.s) _ _ rfl (by omega) (by omega) (by omega) (by omega) rfl ho
      | true =>
        rw [hab] at h1 ho
        rw [if_pos rfl]
        exact dcmp_neg true b.b _ _ a.s b.s w hn0 hn hm0 hm h1 h2 (max a.s b.s) _ _ rfl (by omega) (by omega) (by omega) (by omega) rfl ho
    · rw [if_neg ho]
      exact dcmp_ne a.b b.b _ _ a.s b.s w hn0 hn hm0 hm h1 h2 ho
  · rw [if_neg h]
    exact dcmp_no a.b b.b _ _ a.s b.s w hn0 hn hm0 hm h
end Go.Proofs.YtepfokoepibkcaaGreat
namespace Go.Proofs.YtepfokoepibkcaaGreat
open Go.RowKit D
/-- A step's numbers. -/
def dj (y : Sp3) (j : Nat) : Dc := if j = 0 then y.a else if j = 1 then y.b else y.c
theorem ix80 (y : Sp3) {j : Nat} (h : j < 3) (w : World) : (Instr.index 80 (.agg y.cells.toArray) (.int .i64 (j : Int))).run Tryz.prog w = .ok (.agg (dj y j).cells.toArray) w := by
  have e0 : (Instr.index 80 (.agg y.cells.toArray) (.int .i64 ((0 : Nat) : Int))).run Tryz.prog w = .ok (.agg (dj y 0).cells.toArray) w := by kernel_rfl
  have e1 : (Instr.index 80 (.agg y.cells.toArray) (.int .i64 ((1 : Nat) : Int))).run Tryz.prog w = .ok (.agg (dj y 1).cells.toArray) w := by kernel_rfl
  have e2 : (Instr.index 80 (.agg y.cells.toArray) (.int .i64 ((2 : Nat) : Int))).run Tryz.prog w = .ok (.agg (dj y 2).cells.toArray) w := by kernel_rfl
  have hj : j = 0 ∨ j = 1 ∨ j = 2 := by omega
  rcases hj with rfl | rfl | rfl
  · exact e0
  · exact e1
  · exact e2
theorem sub1r {k : Nat} (hk : k ≤ 9223372036854775806) (x y : Operand) (w : World) : (do eqGuard .sub 3 x y (.int .i64 ((k + 1 : Nat) : Int)) (.int .i64 1); binOp .sub 3 (.int .i64 ((k + 1 : Nat) : Int)) (.int .i64 1)).run Tryz.prog w = .ok (.int .i64 (k : Int)) w := by
  have e : (do eqGuard .sub 3 x y (.int .i64 ((k + 1 : Nat) : Int)) (.int .i64 1); binOp .sub 3 (.int .i64 ((k + 1 : Nat) : Int)) (.int .i64 1)).run Tryz.prog w = .ok (.int .i64 (IntKind.i64.wrap (((k + 1 : Nat) : Int) - 1))) w := by kernel_rfl
  have h2 : IntKind.i64.wrap (((k + 1 : Nat) : Int) - 1) = (k : Int) := by rw [IntKind.wrap_i64]; omega
  rw [e, h2]
theorem sz79 : (Tryz.prog.info? 79).map (·.size) = some 18 := by kernel_rfl
theorem ix60 {pa : Option Addr} {b off i n c : Nat} (hp : pa = some ⟨b, off, none⟩) (h : i < n) (w : World) : (Instr.indexAt 60 (.slice pa n c) (.int .i64 (i : Int))).run Tryz.prog w = .ok (pt b (off + i * 18)) w := by
  subst hp
  have e : (Instr.indexAt 60 (.slice (some ⟨b, off, none⟩) n c) (.int .i64 (i : Int))).run Tryz.prog w = .ok (.pointer (some ((⟨b, off, none⟩ : Addr).add (i * 18)))) w := by simp [go_sem, h]
  rw [e, Addr.add_mid]
theorem len60 (ρ : Operand → Value) (x : Operand) (p : Option Addr) (m c : Nat) (hx : ρ x = .slice p m c) (dst : Option Tmp) (type : TypeId) (pos : String) (after : Array Edge) (guard : Option (Nat × Bool)) (w : World) : (execOp ρ { dst, op := .call { callee := .builtin .len, args := #[x], argTypes := #[60] }, type, pos, after, guard }).run Tryz.prog w = .ok (.value (.int .i64 (m : Int))) w := by
  simp [go_sem, hx]
theorem table_c {x : Tb} {w : World} (hS : SL w 18 Sp3.cells x.pa x.st) (hT : ∀ y ∈ x.st, DB y.a ∧ True) : Calls Tryz.prog 10 #[.agg (x.cells).toArray] w fun e w' => (∃ r : Int, e = .returned (.int .i64 r)) ∧ Mo w w' := by
  refine w_enter 55 Tryz.func10 Tryz.ntmps10 rfl rfl ?_
  have M : Mo w w := Mo.refl _
  refine w_seq ?_
  refine w_reg ?_
  refine wl_box 62 (.tmp 0) (.agg (x.cells).toArray) (((x.cells).toArray)) rfl rfl (fun _ => by kernel_rfl) rfl ?_
  intro k1 u1 hk hz hq Q1
  have N_k1 : w.heap.size ≤ k1 := by have := M.size; omega
  replace M := M.trans hq
  clear hk hz hq
  refine wl_mv (.const (.int .i64 (0))) (.int .i64 (0)) (fun _ => rfl) rfl rfl ?_
  refine w_nil ?_
  refine xn_then ?_
  refine w_seq ?_
  refine w_seq ?_
  refine w_reg ?_
  refine wl_un (fun v => Instr.fieldAt 62 v 1) (.tmp 1) (pt k1 0) (pt k1 1) (fun _ => rfl) rfl (by kernel_rfl) rfl ?_
  refine wl_load 60 (.tmp 9) (pt k1 1) (.slice x.pa x.st.length x.cap) rfl rfl (run_one Q1 60 1 rfl Tryz.underlying60 rfl) rfl ?_
  refine wl_val (.int .i64 ((x.st.length : Nat) : Int)) (len60 _ _ _ _ _ (by exact rfl) _ _ _ _ _ _) rfl ?_
  refine wl_mv (.const (.int .i64 (0))) (.int .i64 (0)) (fun _ => rfl) rfl rfl ?_
  refine w_nil ?_
  refine xn_then ?_
  refine w_block ?_
  have hz9 := hS.1
  unfold maxLen at hz9
  refine w_loop (fun m l w1 => ∃ i : Nat, m = x.st.length - i ∧ i ≤ x.st.length ∧ look l 1 = pt k1 0 ∧ look l 10 = .slice x.pa x.st.length x.cap ∧ look l 11 = .int .i64 ((x.st.length : Nat) : Int) ∧ look l 12 = .int .i64 ((i : Nat) : Int) ∧ At w1 k1 (x.cells) ∧ Mo w w1) _ ⟨0, rfl, Nat.zero_le _, rfl, rfl, rfl, rfl, Q1, M⟩ ?_
  clear Q1 M
  rintro m l40 wl40 ⟨i, rfl, hi, e40_1, e40_10, e40_11, e40_i, Q1, M⟩
  by_cases hil : i < x.st.length
  · skip
    have hid : decide (i < x.st.length) = true := decide_eq_true hil
    obtain ⟨y, hy⟩ := get_of_lt hil
    have hmy := List.mem_of_getElem? hy
    obtain ⟨bp, op, hpp, hRp⟩ := D.SL.rw hS hy
    refine w_seq ?_
    refine w_reg ?_
    refine wl_bin (fun x y => do eqGuard .lss 3 (.tmp 12) (.tmp 11) x y; binOp .lss 3 x y) (.tmp 12) (.tmp 11) (.int .i64 ((i : Nat) : Int)) (.int .i64 ((x.st.length : Nat) : Int)) (.bool true) (fun _ => rfl) e40_i e40_11 (ltN hid _ _ _) rfl ?_
    refine w_nil ?_
    refine xn_then ?_
    refine w_seq ?_
    refine w_condT rfl ?_
    refine w_skip ?_
    refine xn_then ?_
    refine w_seq ?_
    refine w_block ?_
    refine w_seq ?_
    refine w_reg ?_
    refine wl_bin (fun x y => Instr.indexAt 60 x y) (.tmp 10) (.tmp 12) (.slice x.pa x.st.length x.cap) (.int .i64 ((i : Nat) : Int)) (pt bp (op + i * 18)) (fun _ => rfl) e40_10 e40_i (ix60 (i := i) hpp hil _) rfl ?_
    refine wl_load 79 (.tmp 14) (pt bp (op + i * 18)) (.agg (y.cells).toArray) rfl rfl (D.run_partR (hRp.mo M).at' 79 0 18 (y.cells) rfl Tryz.underlying79 rfl sz79) rfl ?_
    refine wl_alloc 79 #[.bool false, .int .u64 0, .int .u64 0, .int .u64 0, .int .u64 0, .int .i64 0, .bool false, .int .u64 0, .int .u64 0, .int .u64 0, .int .u64 0, .int .i64 0, .bool false, .int .u64 0, .int .u64 0, .int .u64 0, .int .u64 0, .int .i64 0] rfl (fun _ => by kernel_rfl) rfl ?_
    intro k2 u41 hk hz hq Q2
    have ne_k1_k2 : k1 ≠ k2 := by have := Q1.lt; omega
    have N_k2 : w.heap.size ≤ k2 := by have := M.size; omega
    replace Q1 := Q1.mo hq
    replace M := M.trans hq
    clear hk hz hq
    refine wl_st 79 (.tmp 4) (.tmp 15) k2 0 ((y.cells).toArray) [.bool false, .int .u64 0, .int .u64 0, .int .u64 0, .int .u64 0, .int .i64 0, .bool false, .int .u64 0, .int .u64 0, .int .u64 0, .int .u64 0, .int .i64 0, .bool false, .int .u64 0, .int .u64 0, .int .u64 0, .int .u64 0, .int .i64 0] (y.cells) Q2 rfl rfl rfl rfl rfl sz79 rfl rfl rfl ?_
    intro u42 hS Qn
    replace Q2 := Qn
    clear Qn
    replace Q1 := hS.other _ _ ne_k1_k2 Q1
    replace M := hS.mo _ N_k2 M
    clear hS
    refine w_nil ?_
    refine xn_then ?_
    refine w_seq ?_
    refine w_reg ?_
    refine wl_un (fun v => Instr.fieldAt 79 v 0) (.tmp 4) (pt k2 0) (pt k2 0) (fun _ => rfl) rfl (by kernel_rfl) rfl ?_
    refine wl_load 47 (.tmp 16) (pt k2 0) (.agg #[.bool y.a.b, .int .u64 y.a.n0, .int .u64 y.a.n1, .int .u64 y.a.n2, .int .u64 y.a.n3, .int .i64 y.a.s]) rfl rfl (run_row Q2 47 0 6 [.bool y.a.b, .int .u64 y.a.n0, .int .u64 y.a.n1, .int .u64 y.a.n2, .int .u64 y.a.n3, .int .i64 y.a.s] rfl Tryz.underlying47 rfl sz47) rfl ?_
    refine wl_un (fun v => Instr.fieldAt 79 v 1) (.tmp 4) (pt k2 0) (pt k2 6) (fun _ => rfl) rfl (by kernel_rfl) rfl ?_
    refine wl_load 47 (.tmp 18) (pt k2 6) (.agg #[.bool y.b.b, .int .u64 y.b.n0, .int .u64 y.b.n1, .int .u64 y.b.n2, .int .u64 y.b.n3, .int .i64 y.b.s]) rfl rfl (run_row Q2 47 6 6 [.bool y.b.b, .int .u64 y.b.n0, .int .u64 y.b.n1, .int .u64 y.b.n2, .int .u64 y.b.n3, .int .i64 y.b.s] rfl Tryz.underlying47 rfl sz47) rfl ?_
    refine wl_un (fun v => Instr.fieldAt 79 v 2) (.tmp 4) (pt k2 0) (pt k2 12) (fun _ => rfl) rfl (by kernel_rfl) rfl ?_
    refine wl_load 47 (.tmp 20) (pt k2 12) (.agg #[.bool y.c.b, .int .u64 y.c.n0, .int .u64 y.c.n1, .int .u64 y.c.n2, .int .u64 y.c.n3, .int .i64 y.c.s]) rfl rfl (run_row Q2 47 12 6 [.bool y.c.b, .int .u64 y.c.n0, .int .u64 y.c.n1, .int .u64 y.c.n2, .int .u64 y.c.n3, .int .i64 y.c.s] rfl Tryz.underlying47 rfl sz47) rfl ?_
    refine wl_build 80 [(0, (.tmp 17)), (1, (.tmp 19)), (2, (.tmp 21))] [(0, .agg #[.bool y.a.b, .int .u64 y.a.n0, .int .u64 y.a.n1, .int .u64 y.a.n2, .int .u64 y.a.n3, .int .i64 y.a.s]), (1, .agg #[.bool y.b.b, .int .u64 y.b.n0, .int .u64 y.b.n1, .int .u64 y.b.n2, .int .u64 y.b.n3, .int .i64 y.b.s]), (2, .agg #[.bool y.c.b, .int .u64 y.c.n0, .int .u64 y.c.n1, .int .u64 y.c.n2, .int .u64 y.c.n3, .int .i64 y.c.s])] (.agg #[.bool y.a.b, .int .u64 y.a.n0, .int .u64 y.a.n1, .int .u64 y.a.n2, .int .u64 y.a.n3, .int .i64 y.a.s, .bool y.b.b, .int .u64 y.b.n0, .int .u64 y.b.n1, .int .u64 y.b.n2, .int .u64 y.b.n3, .int .i64 y.b.s, .bool y.c.b, .int .u64 y.c.n0, .int .u64 y.c.n1, .int .u64 y.c.n2, .int .u64 y.c.n3, .int .i64 y.c.s]) rfl rfl (by kernel_rfl) rfl ?_
    refine wl_mv (.const (.int .i64 (0))) (.int .i64 (0)) (fun _ => rfl) rfl rfl ?_
    refine w_nil ?_
    refine xn_then ?_
    refine w_block ?_
    refine w_loop (fun m l w1 => ∃ j : Nat, m = 3 - j ∧ j ≤ 3 ∧ look l 1 = pt k1 0 ∧ look l 10 = .slice x.pa x.st.length x.cap ∧ look l 11 = .int .i64 ((x.st.length : Nat) : Int) ∧ look l 12 = .int .i64 ((i : Nat) : Int) ∧ look l 22 = .agg #[.bool y.a.b, .int .u64 y.a.n0, .int .u64 y.a.n1, .int .u64 y.a.n2, .int .u64 y.a.n3, .int .i64 y.a.s, .bool y.b.b, .int .u64 y.b.n0, .int .u64 y.b.n1, .int .u64 y.b.n2, .int .u64 y.b.n3, .int .i64 y.b.s, .bool y.c.b, .int .u64 y.c.n0, .int .u64 y.c.n1, .int .u64 y.c.n2, .int .u64 y.c.n3, .int .i64 y.c.s] ∧ look l 23 = .int .i64 ((j : Nat) : Int) ∧ At w1 k1 (x.cells) ∧ Mo w w1) _ ⟨0, rfl, Nat.zero_le _, e40_1, e40_10, e40_11, e40_i, rfl, rfl, Q1, M⟩ ?_
    clear Q1 Q2 M
    rintro m l60 wl60 ⟨j, rfl, hj, e60_1, e60_10, e60_11, e60_12, e60_22, e60_i, Q1, M⟩
    by_cases hjl : j < 3
    · skip
      have hjd : decide (j < 3) = true := decide_eq_true hjl
      refine w_seq ?_
      refine w_reg ?_
      refine wl_bin (fun x y => do eqGuard .lss 3 (.tmp 23) (.const (.int .i64 (3))) x y; binOp .lss 3 x y) (.tmp 23) (.const (.int .i64 (3))) (.int .i64 ((j : Nat) : Int)) (.int .i64 (3)) (.bool true) (fun _ => rfl) e60_i rfl (ltN hjd _ _ _) rfl ?_
      refine w_nil ?_
      refine xn_then ?_
      refine w_seq ?_
      refine w_condT rfl ?_
      refine w_skip ?_
      refine xn_then ?_
      refine w_seq ?_
      refine w_block ?_
      refine w_seq ?_
      refine w_reg ?_
      refine wl_bin (fun x y => Instr.index 80 x y) (.tmp 22) (.tmp 23) (.agg #[.bool y.a.b, .int .u64 y.a.n0, .int .u64 y.a.n1, .int .u64 y.a.n2, .int .u64 y.a.n3, .int .i64 y.a.s, .bool y.b.b, .int .u64 y.b.n0, .int .u64 y.b.n1, .int .u64 y.b.n2, .int .u64 y.b.n3, .int .i64 y.b.s, .bool y.c.b, .int .u64 y.c.n0, .int .u64 y.c.n1, .int .u64 y.c.n2, .int .u64 y.c.n3, .int .i64 y.c.s]) (.int .i64 ((j : Nat) : Int)) (.agg ((dj y j).cells).toArray) (fun _ => rfl) e60_22 e60_i (ix80 y hjl _) rfl ?_
      refine wl_alloc 47 #[.bool false, .int .u64 0, .int .u64 0, .int .u64 0, .int .u64 0, .int .i64 0] rfl (fun _ => by kernel_rfl) rfl ?_
      intro k3 u61 hk hz hq Q3
      have ne_k1_k3 : k1 ≠ k3 := by have := Q1.lt; omega
      have N_k3 : w.heap.size ≤ k3 := by have := M.size; omega
      replace Q1 := Q1.mo hq
      replace M := M.trans hq
      clear hk hz hq
      refine wl_st 47 (.tmp 6) (.tmp 25) k3 0 (((dj y j).cells).toArray) [.bool false, .int .u64 0, .int .u64 0, .int .u64 0, .int .u64 0, .int .i64 0] ((dj y j).cells) Q3 rfl rfl rfl rfl rfl sz47 rfl rfl rfl ?_
      intro u62 hS Qn
      replace Q3 := Qn
      clear Qn
      replace Q1 := hS.other _ _ ne_k1_k3 Q1
      replace M := hS.mo _ N_k3 M
      clear hS
      refine w_nil ?_
      refine xn_then ?_
      refine w_seq ?_
      refine w_reg ?_
      refine wl_load 47 (.tmp 6) (pt k3 0) (.agg ((dj y j).cells).toArray) rfl rfl (run_row Q3 47 0 6 ((dj y j).cells) rfl Tryz.underlying47 rfl sz47) rfl ?_
      refine wl_call 22 [(.tmp 26)] _ [.agg ((dj y j).cells).toArray] (.int .i64 (dcc (dj y j).b (dj y j).n0 (dj y j).n1 (dj y j).n2 (dj y j).n3 (dj y j).s)) rfl rfl (fun _ _ => by kernel_rfl) (dchk_n (dj y j).b (dj y j).n0 (dj y j).n1 (dj y j).n2 (dj y j).n3 (dj y j).s _) rfl ?_
      intro u63 hq
      replace Q1 := Q1.mo hq
      replace Q3 := Q3.mo hq
      replace M := M.trans hq
      clear hq
      refine wl_mv (.tmp 27) (.int .i64 (dcc (dj y j).b (dj y j).n0 (dj y j).n1 (dj y j).n2 (dj y j).n3 (dj y j).s)) (fun _ => rfl) rfl rfl ?_
      refine w_nil ?_
      refine xn_then ?_
      refine w_seq ?_
      refine w_reg ?_
      refine wl_mv (.tmp 7) (.int .i64 (dcc (dj y j).b (dj y j).n0 (dj y j).n1 (dj y j).n2 (dj y j).n3 (dj y j).s)) (fun _ => rfl) rfl rfl ?_
      cases hf60 : decide (dcc (dj y j).b (dj y j).n0 (dj y j).n1 (dj y j).n2 (dj y j).n3 (dj y j).s = 0) with
      | true =>
        have hf60p := of_decide_eq_true hf60
        refine wl_bin (fun x y => do eqGuard .neq 32 (.tmp 28) (.const (.int .i64 (0))) x y; binOp .neq 32 x y) (.tmp 28) (.const (.int .i64 (0))) (.int .i64 (dcc (dj y j).b (dj y j).n0 (dj y j).n1 (dj y j).n2 (dj y j).n3 (dj y j).s)) (.int .i64 (0)) (.bool false) (fun _ => rfl) rfl rfl (ne34 hf60 _ _ _) rfl ?_
        refine w_nil ?_
        refine xn_then ?_
        refine w_condF rfl ?_
        refine w_skip ?_
        refine xn_blk ?_
        refine xn_then ?_
        refine w_reg ?_
        refine wl_bin (fun x y => do eqGuard .add 3 (.tmp 23) (.const (.int .i64 (1))) x y; binOp .add 3 x y) (.tmp 23) (.const (.int .i64 (1))) (.int .i64 ((j : Nat) : Int)) (.int .i64 (1)) (.int .i64 ((j + 1 : Nat) : Int)) (fun _ => rfl) e60_i rfl (add1r (k := j) (by omega) _ _ _) rfl ?_
        refine wl_mv (.tmp 31) (.int .i64 ((j + 1 : Nat) : Int)) (fun _ => rfl) rfl rfl ?_
        refine w_nil ?_
        exact xn_loop (3 - (j + 1)) (by omega) ⟨j + 1, rfl, by omega, e60_1, e60_10, e60_11, e60_12, e60_22, rfl, Q1, M⟩
      | false =>
        have hf60p := of_decide_eq_false hf60
        refine wl_bin (fun x y => do eqGuard .neq 32 (.tmp 28) (.const (.int .i64 (0))) x y; binOp .neq 32 x y) (.tmp 28) (.const (.int .i64 (0))) (.int .i64 (dcc (dj y j).b (dj y j).n0 (dj y j).n1 (dj y j).n2 (dj y j).n3 (dj y j).s)) (.int .i64 (0)) (.bool true) (fun _ => rfl) rfl rfl (ne34 hf60 _ _ _) rfl ?_
        refine w_nil ?_
        refine xn_then ?_
        refine w_condT rfl ?_
        refine w_seq ?_
        refine w_reg ?_
        refine wl_mv (.tmp 7) (.int .i64 (dcc (dj y j).b (dj y j).n0 (dj y j).n1 (dj y j).n2 (dj y j).n3 (dj y j).s)) (fun _ => rfl) rfl rfl ?_
        refine wl_mv (.tmp 30) (.int .i64 (dcc (dj y j).b (dj y j).n0 (dj y j).n1 (dj y j).n2 (dj y j).n3 (dj y j).s)) (fun _ => rfl) rfl rfl ?_
        refine w_nil ?_
        refine xn_then ?_
        refine w_ret ?_
        refine xr_blk ?_
        refine xr_then ?_
        refine xr_then ?_
        refine xr_blk ?_
        refine xr_blk ?_
        refine xr_then ?_
        refine xr_then ?_
        refine xr_blk ?_
        refine xr_then ?_
        exact w_ret1 _ (.int .i64 (dcc (dj y j).b (dj y j).n0 (dj y j).n1 (dj y j).n2 (dj y j).n3 (dj y j).s)) rfl rfl ⟨⟨_, rfl⟩, M⟩
    · skip
      have hjd : decide (j < 3) = false := decide_eq_false hjl
      have hje : j = 3 := by omega
      refine w_seq ?_
      refine w_reg ?_
      refine wl_bin (fun x y => do eqGuard .lss 3 (.tmp 23) (.const (.int .i64 (3))) x y; binOp .lss 3 x y) (.tmp 23) (.const (.int .i64 (3))) (.int .i64 ((j : Nat) : Int)) (.int .i64 (3)) (.bool false) (fun _ => rfl) e60_i rfl (ltN hjd _ _ _) rfl ?_
      refine w_nil ?_
      refine xn_then ?_
      refine w_seq ?_
      refine w_condF rfl ?_
      refine w_exit ?_
      refine xx_then ?_
      refine xx_then ?_
      refine xx_blk ?_
      refine xn_blk ?_
      refine xn_then ?_
      refine w_reg ?_
      refine wl_bin (fun x y => do eqGuard .add 3 (.tmp 12) (.const (.int .i64 (1))) x y; binOp .add 3 x y) (.tmp 12) (.const (.int .i64 (1))) (.int .i64 ((i : Nat) : Int)) (.int .i64 (1)) (.int .i64 ((i + 1 : Nat) : Int)) (fun _ => rfl) e60_12 rfl (add1r (k := i) (by omega) _ _ _) rfl ?_
      refine wl_mv (.tmp 32) (.int .i64 ((i + 1 : Nat) : Int)) (fun _ => rfl) rfl rfl ?_
      refine w_nil ?_
      exact xn_loop (x.st.length - (i + 1)) (by omega) ⟨i + 1, rfl, by omega, e60_1, e60_10, e60_11, rfl, Q1, M⟩
  · skip
    have hid : decide (i < x.st.length) = false := decide_eq_false hil
    have hie : i = x.st.length := by omega
    refine w_seq ?_
    refine w_reg ?_
    refine wl_bin (fun x y => do eqGuard .lss 3 (.tmp 12) (.tmp 11) x y; binOp .lss 3 x y) (.tmp 12) (.tmp 11) (.int .i64 ((i : Nat) : Int)) (.int .i64 ((x.st.length : Nat) : Int)) (.bool false) (fun _ => rfl) e40_i e40_11 (ltN hid _ _ _) rfl ?_
    refine w_nil ?_
    refine xn_then ?_
    refine w_seq ?_
    refine w_condF rfl ?_
    refine w_exit ?_
    refine xx_then ?_
    refine xx_then ?_
    refine xx_blk ?_
    refine xn_then ?_
    refine w_seq ?_
    refine w_seq ?_
    refine w_reg ?_
    refine wl_mv (.const (.int .i64 (1))) (.int .i64 (1)) (fun _ => rfl) rfl rfl ?_
    refine w_nil ?_
    refine xn_then ?_
    refine w_block ?_
    refine w_loop (fun m l w1 => ∃ i : Nat, m = x.st.length - i ∧ i ≤ x.st.length ∧ look l 1 = pt k1 0 ∧ look l 8 = .int .i64 ((i + 1 : Nat) : Int) ∧ At w1 k1 (x.cells) ∧ Mo w w1) _ ⟨0, rfl, Nat.zero_le _, e40_1, rfl, Q1, M⟩ ?_
    clear Q1 M
    rintro m l80 wl80 ⟨i, rfl, hi, e80_1, e80_i, Q1, M⟩
    by_cases hil : i + 1 < x.st.length
    · skip
      have hid : decide (i + 1 < x.st.length) = true := decide_eq_true hil
      obtain ⟨y1, hy1⟩ := get_of_lt hil
      have hm1 := List.mem_of_getElem? hy1
      obtain ⟨bp, op, hpp, hRp⟩ := D.SL.rw hS hy1
      have hil0 : i < x.st.length := by omega
      obtain ⟨y0, hy0⟩ := get_of_lt hil0
      have hm0 := List.mem_of_getElem? hy0
      obtain ⟨bq, oq, hpq, hRq⟩ := D.SL.rw hS hy0
      refine w_seq ?_
      refine w_seq ?_
      refine w_reg ?_
      refine wl_mv (.tmp 8) (.int .i64 ((i + 1 : Nat) : Int)) (fun _ => rfl) e80_i rfl ?_
      refine wl_un (fun v => Instr.fieldAt 62 v 1) (.tmp 1) (pt k1 0) (pt k1 1) (fun _ => rfl) e80_1 (by kernel_rfl) rfl ?_
      refine wl_load 60 (.tmp 34) (pt k1 1) (.slice x.pa x.st.length x.cap) rfl rfl (run_one Q1 60 1 rfl Tryz.underlying60 rfl) rfl ?_
      refine wl_val (.int .i64 ((x.st.length : Nat) : Int)) (len60 _ _ _ _ _ (by exact rfl) _ _ _ _ _ _) rfl ?_
      refine wl_bin (fun x y => do eqGuard .lss 3 (.tmp 33) (.tmp 36) x y; binOp .lss 3 x y) (.tmp 33) (.tmp 36) (.int .i64 ((i + 1 : Nat) : Int)) (.int .i64 ((x.st.length : Nat) : Int)) (.bool true) (fun _ => rfl) rfl rfl (ltN hid _ _ _) rfl ?_
      refine w_nil ?_
      refine xn_then ?_
      refine w_condT rfl ?_
      refine w_skip ?_
      refine xn_then ?_
      refine w_seq ?_
      refine w_block ?_
      refine w_seq ?_
      cases hf80 : decide (cpr y1.a y0.a ≤ 0) with
      | true =>
        have hf80p := of_decide_eq_true hf80
        refine w_any 13 [.inl (pt k1 1), .inl (.slice x.pa x.st.length x.cap), .inl (.int .i64 ((i + 1 : Nat) : Int)), .inl (pt bp (op + (i + 1) * 18)), .inl (pt bp (op + (i + 1) * 18)), .inl (.agg (y1.a.cells).toArray), .inl (pt k1 1), .inl (.slice x.pa x.st.length x.cap), .inl (.int .i64 ((i + 1 : Nat) : Int)), .inl (.int .i64 ((i : Nat) : Int)), .inl (pt bq (oq + i * 18)), .inl (pt bq (oq + i * 18)), .inl (.agg (y0.a.cells).toArray)] [] (by kernel_rfl) (by kernel_rfl) (by kernel_rfl) (by kernel_rfl) rfl (by kernel_rfl) (by kernel_rfl) late_nil ?_ ?_ ?_
        · exact Ds.none rfl
        · refine ea_cons ?_ (ea_cons ?_ (ea_cons ?_ (ea_cons ?_ (ea_cons ?_ (ea_cons ?_ (ea_cons ?_ (ea_cons ?_ (ea_cons ?_ (ea_cons ?_ (ea_cons ?_ (ea_cons ?_ (ea_cons ?_ (ea_nil)))))))))))))
          · exact og_eq (pt k1 1) rfl (fun f wf hq hd K hK => go_run rfl (wo_un (fun v => Instr.fieldAt 62 v 1) (.tmp 1) (pt k1 0) (pt k1 1) (fun _ => rfl) e80_1 (by kernel_rfl) (hK _ (Mo.refl _))))
          · exact og_eq (.slice x.pa x.st.length x.cap) rfl (fun f wf hq hd K hK => have Q1 := Q1.mo hq; go_run rfl (wo_load 60 (.tmp 40) (pt k1 1) (.slice x.pa x.st.length x.cap) rfl (hd 0 rfl) (run_one Q1 60 1 rfl Tryz.underlying60 rfl) (hK _ (Mo.refl _))))
          · exact og_eq (.int .i64 ((i + 1 : Nat) : Int)) rfl (fun f wf hq hd K hK => go_run rfl (wo_mv (.tmp 8) (.int .i64 ((i + 1 : Nat) : Int)) (fun _ => rfl) e80_i (hK _ (Mo.refl _))))
          · exact og_eq (pt bp (op + (i + 1) * 18)) rfl (fun f wf hq hd K hK => go_run rfl (wo_bin (fun x y => Instr.indexAt 60 x y) (.tmp 41) (.tmp 42) (.slice x.pa x.st.length x.cap) (.int .i64 ((i + 1 : Nat) : Int)) (pt bp (op + (i + 1) * 18)) (fun _ => rfl) (hd 1 rfl) (hd 2 rfl) (ix60 (i := i + 1) hpp hil _) (hK _ (Mo.refl _))))
          · exact og_eq (pt bp (op + (i + 1) * 18)) rfl (fun f wf hq hd K hK => go_run rfl (wo_un (fun v => Instr.fieldAt 79 v 0) (.tmp 43) (pt bp (op + (i + 1) * 18)) (pt bp (op + (i + 1) * 18)) (fun _ => rfl) (hd 3 rfl) (by kernel_rfl) (hK _ (Mo.refl _))))
          · exact og_eq (.agg (y1.a.cells).toArray) rfl (fun f wf hq hd K hK => go_run rfl (wo_load 47 (.tmp 44) (pt bp (op + (i + 1) * 18)) (.agg (y1.a.cells).toArray) rfl (hd 4 rfl) (D.run_partR (hRp.mo (M.trans hq)).at' 47 0 6 (y1.a.cells) rfl Tryz.underlying47 rfl sz47) (hK _ (Mo.refl _))))
          · exact og_eq (pt k1 1) rfl (fun f wf hq hd K hK => go_run rfl (wo_un (fun v => Instr.fieldAt 62 v 1) (.tmp 1) (pt k1 0) (pt k1 1) (fun _ => rfl) e80_1 (by kernel_rfl) (hK _ (Mo.refl _))))
          · exact og_eq (.slice x.pa x.st.length x.cap) rfl (fun f wf hq hd K hK => have Q1 := Q1.mo hq; go_run rfl (wo_load 60 (.tmp 46) (pt k1 1) (.slice x.pa x.st.length x.cap) rfl (hd 6 rfl) (run_one Q1 60 1 rfl Tryz.underlying60 rfl) (hK _ (Mo.refl _))))
          · exact og_eq (.int .i64 ((i + 1 : Nat) : Int)) rfl (fun f wf hq hd K hK => go_run rfl (wo_mv (.tmp 8) (.int .i64 ((i + 1 : Nat) : Int)) (fun _ => rfl) e80_i (hK _ (Mo.refl _))))
          · exact og_eq (.int .i64 ((i : Nat) : Int)) rfl (fun f wf hq hd K hK => go_run rfl (wo_bin (fun x y => do eqGuard .sub 3 (.tmp 48) (.const (.int .i64 (1))) x y; binOp .sub 3 x y) (.tmp 48) (.const (.int .i64 (1))) (.int .i64 ((i + 1 : Nat) : Int)) (.int .i64 (1)) (.int .i64 ((i : Nat) : Int)) (fun _ => rfl) (hd 8 rfl) rfl (sub1r (k := i) (by omega) _ _ _) (hK _ (Mo.refl _))))
          · exact og_eq (pt bq (oq + i * 18)) rfl (fun f wf hq hd K hK => go_run rfl (wo_bin (fun x y => Instr.indexAt 60 x y) (.tmp 47) (.tmp 49) (.slice x.pa x.st.length x.cap) (.int .i64 ((i : Nat) : Int)) (pt bq (oq + i * 18)) (fun _ => rfl) (hd 7 rfl) (hd 9 rfl) (ix60 (i := i) hpq hil0 _) (hK _ (Mo.refl _))))
          · exact og_eq (pt bq (oq + i * 18)) rfl (fun f wf hq hd K hK => go_run rfl (wo_un (fun v => Instr.fieldAt 79 v 0) (.tmp 50) (pt bq (oq + i * 18)) (pt bq (oq + i * 18)) (fun _ => rfl) (hd 10 rfl) (by kernel_rfl) (hK _ (Mo.refl _))))
          · exact og_eq (.agg (y0.a.cells).toArray) rfl (fun f wf hq hd K hK => go_run rfl (wo_load 47 (.tmp 51) (pt bq (oq + i * 18)) (.agg (y0.a.cells).toArray) rfl (hd 11 rfl) (D.run_partR (hRq.mo (M.trans hq)).at' 47 0 6 (y0.a.cells) rfl Tryz.underlying47 rfl sz47) (hK _ (Mo.refl _))))
        intro kf81 u81 hq hR hne
        replace Q1 := Q1.mo hq
        replace M := M.trans hq
        clear hq hR hne
        refine wl_call 23 [(.tmp 45), (.tmp 52)] _ [.agg (y1.a.cells).toArray, .agg (y0.a.cells).toArray] (.int .i64 (cpr y1.a y0.a)) rfl rfl (fun _ _ => by kernel_rfl) (cmp_n (hT y1 hm1).1 (hT y0 hm0).1 _) rfl ?_
        intro u82 hq
        replace Q1 := Q1.mo hq
        replace M := M.trans hq
        clear hq
        refine wl_bin (fun x y => do eqGuard .leq 3 (.tmp 53) (.const (.int .i64 (0))) x y; binOp .leq 3 x y) (.tmp 53) (.const (.int .i64 (0))) (.int .i64 (cpr y1.a y0.a)) (.int .i64 (0)) (.bool true) (fun _ => rfl) rfl rfl (le3 hf80 _ _ _) rfl ?_
        refine w_nil ?_
        refine xn_then ?_
        refine w_condT rfl ?_
        refine w_seq ?_
        refine w_reg ?_
        refine wl_mv (.const (.int .i64 (100))) (.int .i64 (100)) (fun _ => rfl) rfl rfl ?_
        refine w_nil ?_
        refine xn_then ?_
        refine w_ret ?_
        refine xr_blk ?_
        refine xr_then ?_
        refine xr_then ?_
        refine xr_blk ?_
        refine xr_then ?_
        exact w_ret1 _ (.int .i64 (100)) rfl rfl ⟨⟨_, rfl⟩, M⟩
      | false =>
        have hf80p := of_decide_eq_false hf80
        refine w_any 13 [.inl (pt k1 1), .inl (.slice x.pa x.st.length x.cap), .inl (.int .i64 ((i + 1 : Nat) : Int)), .inl (pt bp (op + (i + 1) * 18)), .inl (pt bp (op + (i + 1) * 18)), .inl (.agg (y1.a.cells).toArray), .inl (pt k1 1), .inl (.slice x.pa x.st.length x.cap), .inl (.int .i64 ((i + 1 : Nat) : Int)), .inl (.int .i64 ((i : Nat) : Int)), .inl (pt bq (oq + i * 18)), .inl (pt bq (oq + i * 18)), .inl (.agg (y0.a.cells).toArray)] [] (by kernel_rfl) (by kernel_rfl) (by kernel_rfl) (by kernel_rfl) rfl (by kernel_rfl) (by kernel_rfl) late_nil ?_ ?_ ?_
        · exact Ds.none rfl
        · refine ea_cons ?_ (ea_cons ?_ (ea_cons ?_ (ea_cons ?_ (ea_cons ?_ (ea_cons ?_ (ea_cons ?_ (ea_cons ?_ (ea_cons ?_ (ea_cons ?_ (ea_cons ?_ (ea_cons ?_ (ea_cons ?_ (ea_nil)))))))))))))
          · exact og_eq (pt k1 1) rfl (fun f wf hq hd K hK => go_run rfl (wo_un (fun v => Instr.fieldAt 62 v 1) (.tmp 1) (pt k1 0) (pt k1 1) (fun _ => rfl) e80_1 (by kernel_rfl) (hK _ (Mo.refl _))))
          · exact og_eq (.slice x.pa x.st.length x.cap) rfl (fun f wf hq hd K hK => have Q1 := Q1.mo hq; go_run rfl (wo_load 60 (.tmp 40) (pt k1 1) (.slice x.pa x.st.length x.cap) rfl (hd 0 rfl) (run_one Q1 60 1 rfl Tryz.underlying60 rfl) (hK _ (Mo.refl _))))
          · exact og_eq (.int .i64 ((i + 1 : Nat) : Int)) rfl (fun f wf hq hd K hK => go_run rfl (wo_mv (.tmp 8) (.int .i64 ((i + 1 : Nat) : Int)) (fun _ => rfl) e80_i (hK _ (Mo.refl _))))
          · exact og_eq (pt bp (op + (i + 1) * 18)) rfl (fun f wf hq hd K hK => go_run rfl (wo_bin (fun x y => Instr.indexAt 60 x y) (.tmp 41) (.tmp 42) (.slice x.pa x.st.length x.cap) (.int .i64 ((i + 1 : Nat) : Int)) (pt bp (op + (i + 1) * 18)) (fun _ => rfl) (hd 1 rfl) (hd 2 rfl) (ix60 (i := i + 1) hpp hil _) (hK _ (Mo.refl _))))
          · exact og_eq (pt bp (op + (i + 1) * 18)) rfl (fun f wf hq hd K hK => go_run rfl (wo_un (fun v => Instr.fieldAt 79 v 0) (.tmp 43) (pt bp (op + (i + 1) * 18)) (pt bp (op + (i + 1) * 18)) (fun _ => rfl) (hd 3 rfl) (by kernel_rfl) (hK _ (Mo.refl _))))
          · exact og_eq (.agg (y1.a.cells).toArray) rfl (fun f wf hq hd K hK => go_run rfl (wo_load 47 (.tmp 44) (pt bp (op + (i + 1) * 18)) (.agg (y1.a.cells).toArray) rfl (hd 4 rfl) (D.run_partR (hRp.mo (M.trans hq)).at' 47 0 6 (y1.a.cells) rfl Tryz.underlying47 rfl sz47) (hK _ (Mo.refl _))))
          · exact og_eq (pt k1 1) rfl (fun f wf hq hd K hK => go_run rfl (wo_un (fun v => Instr.fieldAt 62 v 1) (.tmp 1) (pt k1 0) (pt k1 1) (fun _ => rfl) e80_1 (by kernel_rfl) (hK _ (Mo.refl _))))
          · exact og_eq (.slice x.pa x.st.length x.cap) rfl (fun f wf hq hd K hK => have Q1 := Q1.mo hq; go_run rfl (wo_load 60 (.tmp 46) (pt k1 1) (.slice x.pa x.st.length x.cap) rfl (hd 6 rfl) (run_one Q1 60 1 rfl Tryz.underlying60 rfl) (hK _ (Mo.refl _))))
          · exact og_eq (.int .i64 ((i + 1 : Nat) : Int)) rfl (fun f wf hq hd K hK => go_run rfl (wo_mv (.tmp 8) (.int .i64 ((i + 1 : Nat) : Int)) (fun _ => rfl) e80_i (hK _ (Mo.refl _))))
          · exact og_eq (.int .i64 ((i : Nat) : Int)) rfl (fun f wf hq hd K hK => go_run rfl (wo_bin (fun x y => do eqGuard .sub 3 (.tmp 48) (.const (.int .i64 (1))) x y; binOp .sub 3 x y) (.tmp 48) (.const (.int .i64 (1))) (.int .i64 ((i + 1 : Nat) : Int)) (.int .i64 (1)) (.int .i64 ((i : Nat) : Int)) (fun _ => rfl) (hd 8 rfl) rfl (sub1r (k := i) (by omega) _ _ _) (hK _ (Mo.refl _))))
          · exact og_eq (pt bq (oq + i * 18)) rfl (fun f wf hq hd K hK => go_run rfl (wo_bin (fun x y => Instr.indexAt 60 x y) (.tmp 47) (.tmp 49) (.slice x.pa x.st.length x.cap) (.int .i64 ((i : Nat) : Int)) (pt bq (oq + i * 18)) (fun _ => rfl) (hd 7 rfl) (hd 9 rfl) (ix60 (i := i) hpq hil0 _) (hK _ (Mo.refl _))))
          · exact og_eq (pt bq (oq + i * 18)) rfl (fun f wf hq hd K hK => go_run rfl (wo_un (fun v => Instr.fieldAt 79 v 0) (.tmp 50) (pt bq (oq + i * 18)) (pt bq (oq + i * 18)) (fun _ => rfl) (hd 10 rfl) (by kernel_rfl) (hK _ (Mo.refl _))))
          · exact og_eq (.agg (y0.a.cells).toArray) rfl (fun f wf hq hd K hK => go_run rfl (wo_load 47 (.tmp 51) (pt bq (oq + i * 18)) (.agg (y0.a.cells).toArray) rfl (hd 11 rfl) (D.run_partR (hRq.mo (M.trans hq)).at' 47 0 6 (y0.a.cells) rfl Tryz.underlying47 rfl sz47) (hK _ (Mo.refl _))))
        intro kf81 u81 hq hR hne
        replace Q1 := Q1.mo hq
        replace M := M.trans hq
        clear hq hR hne
        refine wl_call 23 [(.tmp 45), (.tmp 52)] _ [.agg (y1.a.cells).toArray, .agg (y0.a.cells).toArray] (.int .i64 (cpr y1.a y0.a)) rfl rfl (fun _ _ => by kernel_rfl) (cmp_n (hT y1 hm1).1 (hT y0 hm0).1 _) rfl ?_
        intro u82 hq
        replace Q1 := Q1.mo hq
        replace M := M.trans hq
        clear hq
        refine wl_bin (fun x y => do eqGuard .leq 3 (.tmp 53) (.const (.int .i64 (0))) x y; binOp .leq 3 x y) (.tmp 53) (.const (.int .i64 (0))) (.int .i64 (cpr y1.a y0.a)) (.int .i64 (0)) (.bool false) (fun _ => rfl) rfl rfl (le3 hf80 _ _ _) rfl ?_
        refine w_nil ?_
        refine xn_then ?_
        refine w_condF rfl ?_
        refine w_skip ?_
        refine xn_blk ?_
        refine xn_then ?_
        refine w_reg ?_
        refine wl_mv (.tmp 8) (.int .i64 ((i + 1 : Nat) : Int)) (fun _ => rfl) e80_i rfl ?_
        refine wl_bin (fun x y => do eqGuard .add 3 (.tmp 38) (.const (.int .i64 (1))) x y; binOp .add 3 x y) (.tmp 38) (.const (.int .i64 (1))) (.int .i64 ((i + 1 : Nat) : Int)) (.int .i64 (1)) (.int .i64 ((i + 1 + 1 : Nat) : Int)) (fun _ => rfl) rfl rfl (add1r (k := i + 1) (by omega) _ _ _) rfl ?_
        refine wl_mv (.tmp 39) (.int .i64 ((i + 1 + 1 : Nat) : Int)) (fun _ => rfl) rfl rfl ?_
        refine w_nil ?_
        exact xn_loop (x.st.length - (i + 1)) (by omega) ⟨i + 1, rfl, by omega, e80_1, rfl, Q1, M⟩
    · skip
      have hid : decide (i + 1 < x.st.length) = false := decide_eq_false hil
      refine w_seq ?_
      refine w_seq ?_
      refine w_reg ?_
      refine wl_mv (.tmp 8) (.int .i64 ((i + 1 : Nat) : Int)) (fun _ => rfl) e80_i rfl ?_
      refine wl_un (fun v => Instr.fieldAt 62 v 1) (.tmp 1) (pt k1 0) (pt k1 1) (fun _ => rfl) e80_1 (by kernel_rfl) rfl ?_
      refine wl_load 60 (.tmp 34) (pt k1 1) (.slice x.pa x.st.length x.cap) rfl rfl (run_one Q1 60 1 rfl Tryz.underlying60 rfl) rfl ?_
      refine wl_val (.int .i64 ((x.st.length : Nat) : Int)) (len60 _ _ _ _ _ (by exact rfl) _ _ _ _ _ _) rfl ?_
      refine wl_bin (fun x y => do eqGuard .lss 3 (.tmp 33) (.tmp 36) x y; binOp .lss 3 x y) (.tmp 33) (.tmp 36) (.int .i64 ((i + 1 : Nat) : Int)) (.int .i64 ((x.st.length : Nat) : Int)) (.bool false) (fun _ => rfl) rfl rfl (ltN hid _ _ _) rfl ?_
      refine w_nil ?_
      refine xn_then ?_
      refine w_condF rfl ?_
      refine w_exit ?_
      refine xx_then ?_
      refine xx_then ?_
      refine xx_blk ?_
      refine xn_then ?_
      refine w_seq ?_
      refine w_reg ?_
      refine wl_mv (.const (.int .i64 (0))) (.int .i64 (0)) (fun _ => rfl) rfl rfl ?_
      refine w_nil ?_
      refine xn_then ?_
      refine w_ret ?_
      exact w_ret1 _ (.int .i64 (0)) rfl rfl ⟨⟨_, rfl⟩, M⟩
end Go.Proofs.YtepfokoepibkcaaGreat
