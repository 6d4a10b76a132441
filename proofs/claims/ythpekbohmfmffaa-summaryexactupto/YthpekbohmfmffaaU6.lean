/-
  A part of the proof.
-/
import Derived.Test.YthpekbohmfmffaaRows
import Derived.Test.YthpekbohmfmffaaNum
import Derived.ProofKit
import Derived.OpenShut
import Derived.Lib.SmallJoins
import Derived.ChangeSame
import Derived.Test.YthpekbohmfmffaaDec0
import Derived.WideKeyArgs
import Derived.Deep.Strs
import Derived.Maps.AppendAt
import Derived.Deep.AppendLies
import Derived.Test.YthpekbohmfmffaaU5
/-
  The document's two: two summaries as one.
-/
namespace Go.Proofs.Ythpekbohmfmffaa
open Go.RowKit
theorem w_cut {P : Program} {n : Nat} {l : List (Nat × Value)} {w : World} {Q : Exit → Act → World → Prop} {x y : Code} (I : List (Nat × Value) → World → Prop) (h2 : ∀ l w, I l w → WC P y Q n l w) (h : WC P x (Exit.then (fun a w' => ∃ l', a = fr n l' ∧ I l' w') Q) n l w) : WC P (Code.seq x y) Q n l w :=
  w_seq ⟨wp_mono h.out fun e a w' hq => by
    cases e with
    | normal => obtain ⟨l', rfl, hI⟩ := hq; exact (h2 l' w' hI).out
    | _ => exact hq⟩
theorem xn_cut {n : Nat} {l : List (Nat × Value)} {w : World} {Q : Exit → Act → World → Prop} {I : List (Nat × Value) → World → Prop} (h : I l w) : WX (Exit.then (fun a w' => ∃ l', a = fr n l' ∧ I l' w') Q) .normal n l w := ⟨⟨l, rfl, h⟩⟩
theorem w_cut2 {P : Program} {n : Nat} {l : List (Nat × Value)} {w : World} {Q : Exit → Act → World → Prop} {x y z : Code} (I : List (Nat × Value) → World → Prop) (h2 : ∀ l w, I l w → WC P z Q n l w) (h : (∀ l w, I l w → WC P z Q n l w) → WC P (Code.seq x (Code.seq y z)) Q n l w) : WC P (Code.seq x (Code.seq y z)) Q n l w := h h2
theorem les_A {a b : Int} (h : b = 0) : les a b = a := by
  unfold les
  by_cases c : a = 0
  · rw [if_pos c]; omega
  · rw [if_neg c, if_pos h]
theorem les_B {a b : Int} (h : a = 0) : les a b = b := by unfold les; rw [if_pos h]
theorem les_C {a b : Int} (h1 : ¬ b = 0) (h2 : ¬ a = 0) (h : b < a) : les a b = b := by unfold les; rw [if_neg h2, if_neg h1]; omega
theorem les_D {a b : Int} (h1 : ¬ b = 0) (h2 : ¬ a = 0) (h : ¬ b < a) : les a b = a := by unfold les; rw [if_neg h2, if_neg h1]; omega
section
variable {w : World}
theorem two_n (r f k d er tt : Int) (so mb : Bool) (mn ms : Int) (xb : Bool) (xn xs : Int) (r2 f2 kb d2 e2 tt2 : Int) (so2 mb2 : Bool) (mn2 ms2 : Int) (xb2 : Bool) (xn2 xs2 : Int) (hm : D3.ok ⟨mb, mn, ms⟩) (hx : D3.ok ⟨xb, xn, xs⟩) (hm2 : D3.ok ⟨mb2, mn2, ms2⟩) (hx2 : D3.ok ⟨xb2, xn2, xs2⟩) (hz : so = false → (⟨mb, mn, ms⟩ : D3) = d0 ∧ (⟨xb, xn, xs⟩ : D3) = d0) : Calls Try.prog 30 #[sm r (f) (k) (d) (er) (tt) so mb (mn) (ms) xb (xn) (xs), sm r2 (f2) (kb) (d2) (e2) (tt2) so2 mb2 (mn2) (ms2) xb2 (xn2) (xs2)] w fun e w' => e = .returned (smv (jn ⟨r, f, k, d, er, tt, so, ⟨mb, mn, ms⟩, ⟨xb, xn, xs⟩⟩ ⟨r2, f2, kb, d2, e2, tt2, so2, ⟨mb2, mn2, ms2⟩, ⟨xb2, xn2, xs2⟩⟩)) ∧ Mo w w' := by
  refine w_enter 94 Try.func30 Try.ntmps30 rfl rfl ?_
  have M : Mo w w := Mo.refl _
  refine w_seq ?_
  refine w_reg ?_
  refine wl_box 33 (.tmp 0) (.agg #[.int .i64 (r), .int .i64 (f), .int .i64 (k), .int .i64 (d), .int .i64 (er), .int .u64 (l0 (tt)), .int .u64 (l1 (tt)), .int .u64 (l2 (tt)), .int .u64 (l3 (tt)), .int .u64 (l4 (tt)), .bool so, .bool mb, .int .u64 (l0 (mn)), .int .u64 (l1 (mn)), .int .u64 (l2 (mn)), .int .u64 (l3 (mn)), .int .i64 (ms), .bool xb, .int .u64 (l0 (xn)), .int .u64 (l1 (xn)), .int .u64 (l2 (xn)), .int .u64 (l3 (xn)), .int .i64 (xs)]) (#[.int .i64 (r), .int .i64 (f), .int .i64 (k), .int .i64 (d), .int .i64 (er), .int .u64 (l0 (tt)), .int .u64 (l1 (tt)), .int .u64 (l2 (tt)), .int .u64 (l3 (tt)), .int .u64 (l4 (tt)), .bool so, .bool mb, .int .u64 (l0 (mn)), .int .u64 (l1 (mn)), .int .u64 (l2 (mn)), .int .u64 (l3 (mn)), .int .i64 (ms), .bool xb, .int .u64 (l0 (xn)), .int .u64 (l1 (xn)), .int .u64 (l2 (xn)), .int .u64 (l3 (xn)), .int .i64 (xs)]) rfl rfl (fun _ => by kernel_rfl) rfl ?_
  intro k1 w1 hk hz hq Q1
  have N_k1 : w.heap.size ≤ k1 := by have := M.size; omega
  replace M := M.trans hq
  clear hk hz hq
  refine wl_box 33 (.tmp 1) (.agg #[.int .i64 (r2), .int .i64 (f2), .int .i64 (kb), .int .i64 (d2), .int .i64 (e2), .int .u64 (l0 (tt2)), .int .u64 (l1 (tt2)), .int .u64 (l2 (tt2)), .int .u64 (l3 (tt2)), .int .u64 (l4 (tt2)), .bool so2, .bool mb2, .int .u64 (l0 (mn2)), .int .u64 (l1 (mn2)), .int .u64 (l2 (mn2)), .int .u64 (l3 (mn2)), .int .i64 (ms2), .bool xb2, .int .u64 (l0 (xn2)), .int .u64 (l1 (xn2)), .int .u64 (l2 (xn2)), .int .u64 (l3 (xn2)), .int .i64 (xs2)]) (#[.int .i64 (r2), .int .i64 (f2), .int .i64 (kb), .int .i64 (d2), .int .i64 (e2), .int .u64 (l0 (tt2)), .int .u64 (l1 (tt2)), .int .u64 (l2 (tt2)), .int .u64 (l3 (tt2)), .int .u64 (l4 (tt2)), .bool so2, .bool mb2, .int .u64 (l0 (mn2)), .int .u64 (l1 (mn2)), .int .u64 (l2 (mn2)), .int .u64 (l3 (mn2)), .int .i64 (ms2), .bool xb2, .int .u64 (l0 (xn2)), .int .u64 (l1 (xn2)), .int .u64 (l2 (xn2)), .int .u64 (l3 (xn2)), .int .i64 (xs2)]) rfl rfl (fun _ => by kernel_rfl) rfl ?_
  intro k2 w2 hk hz hq Q2
  have ne_k1_k2 : k1 ≠ k2 := by have := Q1.lt; omega
  have N_k2 : w.heap.size ≤ k2 := by have := M.size; omega
  replace Q1 := Q1.mo hq
  replace M := M.trans hq
  clear hk hz hq
  refine wl_alloc 33 #[.int .i64 0, .int .i64 0, .int .i64 0, .int .i64 0, .int .i64 0, .int .u64 0, .int .u64 0, .int .u64 0, .int .u64 0, .int .u64 0, .bool false, .bool false, .int .u64 0, .int .u64 0, .int .u64 0, .int .u64 0, .int .i64 0, .bool false, .int .u64 0, .int .u64 0, .int .u64 0, .int .u64 0, .int .i64 0] rfl (fun _ => by kernel_rfl) rfl ?_
  intro k3 w3 hk hz hq Q3
  have ne_k1_k3 : k1 ≠ k3 := by have := Q1.lt; omega
  have ne_k2_k3 : k2 ≠ k3 := by have := Q2.lt; omega
  have N_k3 : w.heap.size ≤ k3 := by have := M.size; omega
  replace Q1 := Q1.mo hq
  replace Q2 := Q2.mo hq
  replace M := M.trans hq
  clear hk hz hq
  refine w_nil ?_
  refine xn_then ?_
  refine w_seq ?_
  refine w_reg ?_
  refine wl_load 33 (.tmp 2) (pt k1 0) (.agg #[.int .i64 (r), .int .i64 (f), .int .i64 (k), .int .i64 (d), .int .i64 (er), .int .u64 (l0 (tt)), .int .u64 (l1 (tt)), .int .u64 (l2 (tt)), .int .u64 (l3 (tt)), .int .u64 (l4 (tt)), .bool so, .bool mb, .int .u64 (l0 (mn)), .int .u64 (l1 (mn)), .int .u64 (l2 (mn)), .int .u64 (l3 (mn)), .int .i64 (ms), .bool xb, .int .u64 (l0 (xn)), .int .u64 (l1 (xn)), .int .u64 (l2 (xn)), .int .u64 (l3 (xn)), .int .i64 (xs)]) rfl rfl (run_row Q1 33 0 23 [.int .i64 (r), .int .i64 (f), .int .i64 (k), .int .i64 (d), .int .i64 (er), .int .u64 (l0 (tt)), .int .u64 (l1 (tt)), .int .u64 (l2 (tt)), .int .u64 (l3 (tt)), .int .u64 (l4 (tt)), .bool so, .bool mb, .int .u64 (l0 (mn)), .int .u64 (l1 (mn)), .int .u64 (l2 (mn)), .int .u64 (l3 (mn)), .int .i64 (ms), .bool xb, .int .u64 (l0 (xn)), .int .u64 (l1 (xn)), .int .u64 (l2 (xn)), .int .u64 (l3 (xn)), .int .i64 (xs)] rfl Try.underlying33 rfl sz33) rfl ?_
  refine wl_alloc 33 #[.int .i64 0, .int .i64 0, .int .i64 0, .int .i64 0, .int .i64 0, .int .u64 0, .int .u64 0, .int .u64 0, .int .u64 0, .int .u64 0, .bool false, .bool false, .int .u64 0, .int .u64 0, .int .u64 0, .int .u64 0, .int .i64 0, .bool false, .int .u64 0, .int .u64 0, .int .u64 0, .int .u64 0, .int .i64 0] rfl (fun _ => by kernel_rfl) rfl ?_
  intro k4 w4 hk hz hq Q4
  have ne_k1_k4 : k1 ≠ k4 := by have := Q1.lt; omega
  have ne_k2_k4 : k2 ≠ k4 := by have := Q2.lt; omega
  have ne_k3_k4 : k3 ≠ k4 := by have := Q3.lt; omega
  have N_k4 : w.heap.size ≤ k4 := by have := M.size; omega
  replace Q1 := Q1.mo hq
  replace Q2 := Q2.mo hq
  replace Q3 := Q3.mo hq
  replace M := M.trans hq
  clear hk hz hq
  refine wl_st 33 (.tmp 5) (.tmp 6) k4 0 #[.int .i64 (r), .int .i64 (f), .int .i64 (k), .int .i64 (d), .int .i64 (er), .int .u64 (l0 (tt)), .int .u64 (l1 (tt)), .int .u64 (l2 (tt)), .int .u64 (l3 (tt)), .int .u64 (l4 (tt)), .bool so, .bool mb, .int .u64 (l0 (mn)), .int .u64 (l1 (mn)), .int .u64 (l2 (mn)), .int .u64 (l3 (mn)), .int .i64 (ms), .bool xb, .int .u64 (l0 (xn)), .int .u64 (l1 (xn)), .int .u64 (l2 (xn)), .int .u64 (l3 (xn)), .int .i64 (xs)] [.int .i64 0, .int .i64 0, .int .i64 0, .int .i64 0, .int .i64 0, .int .u64 0, .int .u64 0, .int .u64 0, .int .u64 0, .int .u64 0, .bool false, .bool false, .int .u64 0, .int .u64 0, .int .u64 0, .int .u64 0, .int .i64 0, .bool false, .int .u64 0, .int .u64 0, .int .u64 0, .int .u64 0, .int .i64 0] [.int .i64 (r), .int .i64 (f), .int .i64 (k), .int .i64 (d), .int .i64 (er), .int .u64 (l0 (tt)), .int .u64 (l1 (tt)), .int .u64 (l2 (tt)), .int .u64 (l3 (tt)), .int .u64 (l4 (tt)), .bool so, .bool mb, .int .u64 (l0 (mn)), .int .u64 (l1 (mn)), .int .u64 (l2 (mn)), .int .u64 (l3 (mn)), .int .i64 (ms), .bool xb, .int .u64 (l0 (xn)), .int .u64 (l1 (xn)), .int .u64 (l2 (xn)), .int .u64 (l3 (xn)), .int .i64 (xs)] Q4 rfl rfl rfl rfl rfl sz33 rfl rfl rfl ?_
  intro w5 hS Qn
  replace Q4 := Qn
  clear Qn
  replace Q1 := hS.other _ _ ne_k1_k4 Q1
  replace Q2 := hS.other _ _ ne_k2_k4 Q2
  replace Q3 := hS.other _ _ ne_k3_k4 Q3
  replace M := hS.mo _ N_k4 M
  clear hS
  refine w_nil ?_
  refine xn_then ?_
  refine w_seq ?_
  refine w_reg ?_
  refine wl_un (fun v => Instr.fieldAt 33 v 0) (.tmp 5) (pt k4 0) (pt k4 0) (fun _ => rfl) rfl (by kernel_rfl) rfl ?_
  refine wl_load 3 (.tmp 7) (pt k4 0) (.int .i64 (r)) rfl rfl (run_one Q4 3 0 rfl Try.underlying3 rfl) rfl ?_
  refine wl_un (fun v => Instr.fieldAt 33 v 0) (.tmp 3) (pt k2 0) (pt k2 0) (fun _ => rfl) rfl (by kernel_rfl) rfl ?_
  refine wl_load 3 (.tmp 9) (pt k2 0) (.int .i64 (r2)) rfl rfl (run_one Q2 3 0 rfl Try.underlying3 rfl) rfl ?_
  refine wl_bin (fun x y => do eqGuard .add 3 (.tmp 8) (.tmp 10) x y; binOp .add 3 x y) (.tmp 8) (.tmp 10) (.int .i64 (r)) (.int .i64 (r2)) (.int .i64 (w64 (r + r2))) (fun _ => rfl) rfl rfl (addW _ _ _ _ _) rfl ?_
  refine wl_un (fun v => Instr.fieldAt 33 v 0) (.tmp 5) (pt k4 0) (pt k4 0) (fun _ => rfl) rfl (by kernel_rfl) rfl ?_
  refine wl_st1 3 (.tmp 12) (.tmp 11) k4 0 (.int .i64 (w64 (r + r2))) [.int .i64 (r), .int .i64 (f), .int .i64 (k), .int .i64 (d), .int .i64 (er), .int .u64 (l0 (tt)), .int .u64 (l1 (tt)), .int .u64 (l2 (tt)), .int .u64 (l3 (tt)), .int .u64 (l4 (tt)), .bool so, .bool mb, .int .u64 (l0 (mn)), .int .u64 (l1 (mn)), .int .u64 (l2 (mn)), .int .u64 (l3 (mn)), .int .i64 (ms), .bool xb, .int .u64 (l0 (xn)), .int .u64 (l1 (xn)), .int .u64 (l2 (xn)), .int .u64 (l3 (xn)), .int .i64 (xs)] [.int .i64 (w64 (r + r2)), .int .i64 (f), .int .i64 (k), .int .i64 (d), .int .i64 (er), .int .u64 (l0 (tt)), .int .u64 (l1 (tt)), .int .u64 (l2 (tt)), .int .u64 (l3 (tt)), .int .u64 (l4 (tt)), .bool so, .bool mb, .int .u64 (l0 (mn)), .int .u64 (l1 (mn)), .int .u64 (l2 (mn)), .int .u64 (l3 (mn)), .int .i64 (ms), .bool xb, .int .u64 (l0 (xn)), .int .u64 (l1 (xn)), .int .u64 (l2 (xn)), .int .u64 (l3 (xn)), .int .i64 (xs)] Q4 rfl rfl rfl rfl rfl sz3 rfl rfl rfl rfl ?_
  intro w6 hS Qn
  replace Q4 := Qn
  clear Qn
  replace Q1 := hS.other _ _ ne_k1_k4 Q1
  replace Q2 := hS.other _ _ ne_k2_k4 Q2
  replace Q3 := hS.other _ _ ne_k3_k4 Q3
  replace M := hS.mo _ N_k4 M
  clear hS
  refine w_nil ?_
  refine xn_then ?_
  refine w_seq ?_
  refine w_reg ?_
  refine wl_un (fun v => Instr.fieldAt 33 v 1) (.tmp 5) (pt k4 0) (pt k4 1) (fun _ => rfl) rfl (by kernel_rfl) rfl ?_
  refine wl_load 3 (.tmp 13) (pt k4 1) (.int .i64 (f)) rfl rfl (run_one Q4 3 1 rfl Try.underlying3 rfl) rfl ?_
  refine wl_un (fun v => Instr.fieldAt 33 v 1) (.tmp 3) (pt k2 0) (pt k2 1) (fun _ => rfl) rfl (by kernel_rfl) rfl ?_
  refine wl_load 3 (.tmp 15) (pt k2 1) (.int .i64 (f2)) rfl rfl (run_one Q2 3 1 rfl Try.underlying3 rfl) rfl ?_
  refine wl_bin (fun x y => do eqGuard .add 3 (.tmp 14) (.tmp 16) x y; binOp .add 3 x y) (.tmp 14) (.tmp 16) (.int .i64 (f)) (.int .i64 (f2)) (.int .i64 (w64 (f + f2))) (fun _ => rfl) rfl rfl (addW _ _ _ _ _) rfl ?_
  refine wl_un (fun v => Instr.fieldAt 33 v 1) (.tmp 5) (pt k4 0) (pt k4 1) (fun _ => rfl) rfl (by kernel_rfl) rfl ?_
  refine wl_st1 3 (.tmp 18) (.tmp 17) k4 1 (.int .i64 (w64 (f + f2))) [.int .i64 (w64 (r + r2)), .int .i64 (f), .int .i64 (k), .int .i64 (d), .int .i64 (er), .int .u64 (l0 (tt)), .int .u64 (l1 (tt)), .int .u64 (l2 (tt)), .int .u64 (l3 (tt)), .int .u64 (l4 (tt)), .bool so, .bool mb, .int .u64 (l0 (mn)), .int .u64 (l1 (mn)), .int .u64 (l2 (mn)), .int .u64 (l3 (mn)), .int .i64 (ms), .bool xb, .int .u64 (l0 (xn)), .int .u64 (l1 (xn)), .int .u64 (l2 (xn)), .int .u64 (l3 (xn)), .int .i64 (xs)] [.int .i64 (w64 (r + r2)), .int .i64 (w64 (f + f2)), .int .i64 (k), .int .i64 (d), .int .i64 (er), .int .u64 (l0 (tt)), .int .u64 (l1 (tt)), .int .u64 (l2 (tt)), .int .u64 (l3 (tt)), .int .u64 (l4 (tt)), .bool so, .bool mb, .int .u64 (l0 (mn)), .int .u64 (l1 (mn)), .int .u64 (l2 (mn)), .int .u64 (l3 (mn)), .int .i64 (ms), .bool xb, .int .u64 (l0 (xn)), .int .u64 (l1 (xn)), .int .u64 (l2 (xn)), .int .u64 (l3 (xn)), .int .i64 (xs)] Q4 rfl rfl rfl rfl rfl sz3 rfl rfl rfl rfl ?_
  intro w7 hS Qn
  replace Q4 := Qn
  clear Qn
  replace Q1 := hS.other _ _ ne_k1_k4 Q1
  replace Q2 := hS.other _ _ ne_k2_k4 Q2
  replace Q3 := hS.other _ _ ne_k3_k4 Q3
  replace M := hS.mo _ N_k4 M
  clear hS
  refine w_nil ?_
  refine xn_then ?_
  refine w_seq ?_
  refine w_reg ?_
  refine wl_un (fun v => Instr.fieldAt 33 v 2) (.tmp 5) (pt k4 0) (pt k4 2) (fun _ => rfl) rfl (by kernel_rfl) rfl ?_
  refine wl_load 3 (.tmp 19) (pt k4 2) (.int .i64 (k)) rfl rfl (run_one Q4 3 2 rfl Try.underlying3 rfl) rfl ?_
  refine wl_un (fun v => Instr.fieldAt 33 v 2) (.tmp 3) (pt k2 0) (pt k2 2) (fun _ => rfl) rfl (by kernel_rfl) rfl ?_
  refine wl_load 3 (.tmp 21) (pt k2 2) (.int .i64 (kb)) rfl rfl (run_one Q2 3 2 rfl Try.underlying3 rfl) rfl ?_
  refine wl_bin (fun x y => do eqGuard .add 3 (.tmp 20) (.tmp 22) x y; binOp .add 3 x y) (.tmp 20) (.tmp 22) (.int .i64 (k)) (.int .i64 (kb)) (.int .i64 (w64 (k + kb))) (fun _ => rfl) rfl rfl (addW _ _ _ _ _) rfl ?_
  refine wl_un (fun v => Instr.fieldAt 33 v 2) (.tmp 5) (pt k4 0) (pt k4 2) (fun _ => rfl) rfl (by kernel_rfl) rfl ?_
  refine wl_st1 3 (.tmp 24) (.tmp 23) k4 2 (.int .i64 (w64 (k + kb))) [.int .i64 (w64 (r + r2)), .int .i64 (w64 (f + f2)), .int .i64 (k), .int .i64 (d), .int .i64 (er), .int .u64 (l0 (tt)), .int .u64 (l1 (tt)), .int .u64 (l2 (tt)), .int .u64 (l3 (tt)), .int .u64 (l4 (tt)), .bool so, .bool mb, .int .u64 (l0 (mn)), .int .u64 (l1 (mn)), .int .u64 (l2 (mn)), .int .u64 (l3 (mn)), .int .i64 (ms), .bool xb, .int .u64 (l0 (xn)), .int .u64 (l1 (xn)), .int .u64 (l2 (xn)), .int .u64 (l3 (xn)), .int .i64 (xs)] [.int .i64 (w64 (r + r2)), .int .i64 (w64 (f + f2)), .int .i64 (w64 (k + kb)), .int .i64 (d), .int .i64 (er), .int .u64 (l0 (tt)), .int .u64 (l1 (tt)), .int .u64 (l2 (tt)), .int .u64 (l3 (tt)), .int .u64 (l4 (tt)), .bool so, .bool mb, .int .u64 (l0 (mn)), .int .u64 (l1 (mn)), .int .u64 (l2 (mn)), .int .u64 (l3 (mn)), .int .i64 (ms), .bool xb, .int .u64 (l0 (xn)), .int .u64 (l1 (xn)), .int .u64 (l2 (xn)), .int .u64 (l3 (xn)), .int .i64 (xs)] Q4 rfl rfl rfl rfl rfl sz3 rfl rfl rfl rfl ?_
  intro w8 hS Qn
  replace Q4 := Qn
  clear Qn
  replace Q1 := hS.other _ _ ne_k1_k4 Q1
  replace Q2 := hS.other _ _ ne_k2_k4 Q2
  replace Q3 := hS.other _ _ ne_k3_k4 Q3
  replace M := hS.mo _ N_k4 M
  clear hS
  refine w_nil ?_
  refine xn_then ?_
  refine w_seq ?_
  refine w_reg ?_
  refine wl_un (fun v => Instr.fieldAt 33 v 3) (.tmp 5) (pt k4 0) (pt k4 3) (fun _ => rfl) rfl (by kernel_rfl) rfl ?_
  refine wl_load 3 (.tmp 25) (pt k4 3) (.int .i64 (d)) rfl rfl (run_one Q4 3 3 rfl Try.underlying3 rfl) rfl ?_
  refine wl_un (fun v => Instr.fieldAt 33 v 3) (.tmp 3) (pt k2 0) (pt k2 3) (fun _ => rfl) rfl (by kernel_rfl) rfl ?_
  refine wl_load 3 (.tmp 27) (pt k2 3) (.int .i64 (d2)) rfl rfl (run_one Q2 3 3 rfl Try.underlying3 rfl) rfl ?_
  refine wl_bin (fun x y => do eqGuard .add 3 (.tmp 26) (.tmp 28) x y; binOp .add 3 x y) (.tmp 26) (.tmp 28) (.int .i64 (d)) (.int .i64 (d2)) (.int .i64 (w64 (d + d2))) (fun _ => rfl) rfl rfl (addW _ _ _ _ _) rfl ?_
  refine wl_un (fun v => Instr.fieldAt 33 v 3) (.tmp 5) (pt k4 0) (pt k4 3) (fun _ => rfl) rfl (by kernel_rfl) rfl ?_
  refine wl_st1 3 (.tmp 30) (.tmp 29) k4 3 (.int .i64 (w64 (d + d2))) [.int .i64 (w64 (r + r2)), .int .i64 (w64 (f + f2)), .int .i64 (w64 (k + kb)), .int .i64 (d), .int .i64 (er), .int .u64 (l0 (tt)), .int .u64 (l1 (tt)), .int .u64 (l2 (tt)), .int .u64 (l3 (tt)), .int .u64 (l4 (tt)), .bool so, .bool mb, .int .u64 (l0 (mn)), .int .u64 (l1 (mn)), .int .u64 (l2 (mn)), .int .u64 (l3 (mn)), .int .i64 (ms), .bool xb, .int .u64 (l0 (xn)), .int .u64 (l1 (xn)), .int .u64 (l2 (xn)), .int .u64 (l3 (xn)), .int .i64 (xs)] [.int .i64 (w64 (r + r2)), .int .i64 (w64 (f + f2)), .int .i64 (w64 (k + kb)), .int .i64 (w64 (d + d2)), .int .i64 (er), .int .u64 (l0 (tt)), .int .u64 (l1 (tt)), .int .u64 (l2 (tt)), .int .u64 (l3 (tt)), .int .u64 (l4 (tt)), .bool so, .bool mb, .int .u64 (l0 (mn)), .int .u64 (l1 (mn)), .int .u64 (l2 (mn)), .int .u64 (l3 (mn)), .int .i64 (ms), .bool xb, .int .u64 (l0 (xn)), .int .u64 (l1 (xn)), .int .u64 (l2 (xn)), .int .u64 (l3 (xn)), .int .i64 (xs)] Q4 rfl rfl rfl rfl rfl sz3 rfl rfl rfl rfl ?_
  intro w9 hS Qn
  replace Q4 := Qn
  clear Qn
  replace Q1 := hS.other _ _ ne_k1_k4 Q1
  replace Q2 := hS.other _ _ ne_k2_k4 Q2
  replace Q3 := hS.other _ _ ne_k3_k4 Q3
  replace M := hS.mo _ N_k4 M
  clear hS
  refine w_nil ?_
  refine xn_then ?_
  refine w_cut (fun l w1 => look l 2 = pt k1 0 ∧ look l 3 = pt k2 0 ∧ look l 4 = pt k3 0 ∧ look l 5 = pt k4 0 ∧ At w1 k1 [.int .i64 (r), .int .i64 (f), .int .i64 (k), .int .i64 (d), .int .i64 (er), .int .u64 (l0 (tt)), .int .u64 (l1 (tt)), .int .u64 (l2 (tt)), .int .u64 (l3 (tt)), .int .u64 (l4 (tt)), .bool so, .bool mb, .int .u64 (l0 (mn)), .int .u64 (l1 (mn)), .int .u64 (l2 (mn)), .int .u64 (l3 (mn)), .int .i64 (ms), .bool xb, .int .u64 (l0 (xn)), .int .u64 (l1 (xn)), .int .u64 (l2 (xn)), .int .u64 (l3 (xn)), .int .i64 (xs)] ∧ At w1 k2 [.int .i64 (r2), .int .i64 (f2), .int .i64 (kb), .int .i64 (d2), .int .i64 (e2), .int .u64 (l0 (tt2)), .int .u64 (l1 (tt2)), .int .u64 (l2 (tt2)), .int .u64 (l3 (tt2)), .int .u64 (l4 (tt2)), .bool so2, .bool mb2, .int .u64 (l0 (mn2)), .int .u64 (l1 (mn2)), .int .u64 (l2 (mn2)), .int .u64 (l3 (mn2)), .int .i64 (ms2), .bool xb2, .int .u64 (l0 (xn2)), .int .u64 (l1 (xn2)), .int .u64 (l2 (xn2)), .int .u64 (l3 (xn2)), .int .i64 (xs2)] ∧ At w1 k3 [.int .i64 0, .int .i64 0, .int .i64 0, .int .i64 0, .int .i64 0, .int .u64 0, .int .u64 0, .int .u64 0, .int .u64 0, .int .u64 0, .bool false, .bool false, .int .u64 0, .int .u64 0, .int .u64 0, .int .u64 0, .int .i64 0, .bool false, .int .u64 0, .int .u64 0, .int .u64 0, .int .u64 0, .int .i64 0] ∧ At w1 k4 [.int .i64 (w64 (r + r2)), .int .i64 (w64 (f + f2)), .int .i64 (w64 (k + kb)), .int .i64 (w64 (d + d2)), .int .i64 (les er e2), .int .u64 (l0 (tt)), .int .u64 (l1 (tt)), .int .u64 (l2 (tt)), .int .u64 (l3 (tt)), .int .u64 (l4 (tt)), .bool so, .bool mb, .int .u64 (l0 (mn)), .int .u64 (l1 (mn)), .int .u64 (l2 (mn)), .int .u64 (l3 (mn)), .int .i64 (ms), .bool xb, .int .u64 (l0 (xn)), .int .u64 (l1 (xn)), .int .u64 (l2 (xn)), .int .u64 (l3 (xn)), .int .i64 (xs)] ∧ Mo w w1) ?_ ?_
  · skip
    rintro l9 w9 ⟨g2, g3, g4, g5, Q1, Q2, Q3, Q4, M⟩
    refine w_seq ?_
    refine w_reg ?_
    refine wl_un (fun v => Instr.fieldAt 33 v 5) (.tmp 2) (pt k1 0) (pt k1 5) (fun _ => rfl) g2 (by kernel_rfl) rfl ?_
    refine wl_load 31 (.tmp 49) (pt k1 5) (.agg #[.int .u64 (l0 (tt)), .int .u64 (l1 (tt)), .int .u64 (l2 (tt)), .int .u64 (l3 (tt)), .int .u64 (l4 (tt))]) rfl rfl (run_row Q1 31 5 5 [.int .u64 (l0 (tt)), .int .u64 (l1 (tt)), .int .u64 (l2 (tt)), .int .u64 (l3 (tt)), .int .u64 (l4 (tt))] rfl Try.underlying31 rfl sz31) rfl ?_
    refine wl_un (fun v => Instr.fieldAt 33 v 5) (.tmp 3) (pt k2 0) (pt k2 5) (fun _ => rfl) g3 (by kernel_rfl) rfl ?_
    refine wl_load 31 (.tmp 51) (pt k2 5) (.agg #[.int .u64 (l0 (tt2)), .int .u64 (l1 (tt2)), .int .u64 (l2 (tt2)), .int .u64 (l3 (tt2)), .int .u64 (l4 (tt2))]) rfl rfl (run_row Q2 31 5 5 [.int .u64 (l0 (tt2)), .int .u64 (l1 (tt2)), .int .u64 (l2 (tt2)), .int .u64 (l3 (tt2)), .int .u64 (l4 (tt2))] rfl Try.underlying31 rfl sz31) rfl ?_
    refine wl_call 20 [(.tmp 50), (.tmp 52)] _ [.agg #[.int .u64 (l0 (tt)), .int .u64 (l1 (tt)), .int .u64 (l2 (tt)), .int .u64 (l3 (tt)), .int .u64 (l4 (tt))], .agg #[.int .u64 (l0 (tt2)), .int .u64 (l1 (tt2)), .int .u64 (l2 (tt2)), .int .u64 (l3 (tt2)), .int .u64 (l4 (tt2))]] (.agg #[.int .u64 (l0 (tt + tt2)), .int .u64 (l1 (tt + tt2)), .int .u64 (l2 (tt + tt2)), .int .u64 (l3 (tt + tt2)), .int .u64 (l4 (tt + tt2))]) rfl rfl (fun _ _ => by kernel_rfl) (raddw_n tt tt2) rfl ?_
    intro w51 hq
    replace Q1 := Q1.mo hq
    replace Q2 := Q2.mo hq
    replace Q3 := Q3.mo hq
    replace Q4 := Q4.mo hq
    replace M := M.trans hq
    clear hq
    refine wl_un (fun v => Instr.fieldAt 33 v 5) (.tmp 5) (pt k4 0) (pt k4 5) (fun _ => rfl) g5 (by kernel_rfl) rfl ?_
    refine wl_st 31 (.tmp 54) (.tmp 53) k4 5 #[.int .u64 (l0 (tt + tt2)), .int .u64 (l1 (tt + tt2)), .int .u64 (l2 (tt + tt2)), .int .u64 (l3 (tt + tt2)), .int .u64 (l4 (tt + tt2))] [.int .i64 (w64 (r + r2)), .int .i64 (w64 (f + f2)), .int .i64 (w64 (k + kb)), .int .i64 (w64 (d + d2)), .int .i64 (les er e2), .int .u64 (l0 (tt)), .int .u64 (l1 (tt)), .int .u64 (l2 (tt)), .int .u64 (l3 (tt)), .int .u64 (l4 (tt)), .bool so, .bool mb, .int .u64 (l0 (mn)), .int .u64 (l1 (mn)), .int .u64 (l2 (mn)), .int .u64 (l3 (mn)), .int .i64 (ms), .bool xb, .int .u64 (l0 (xn)), .int .u64 (l1 (xn)), .int .u64 (l2 (xn)), .int .u64 (l3 (xn)), .int .i64 (xs)] [.int .i64 (w64 (r + r2)), .int .i64 (w64 (f + f2)), .int .i64 (w64 (k + kb)), .int .i64 (w64 (d + d2)), .int .i64 (les er e2), .int .u64 (l0 (tt + tt2)), .int .u64 (l1 (tt + tt2)), .int .u64 (l2 (tt + tt2)), .int .u64 (l3 (tt + tt2)), .int .u64 (l4 (tt + tt2)), .bool so, .bool mb, .int .u64 (l0 (mn)), .int .u64 (l1 (mn)), .int .u64 (l2 (mn)), .int .u64 (l3 (mn)), .int .i64 (ms), .bool xb, .int .u64 (l0 (xn)), .int .u64 (l1 (xn)), .int .u64 (l2 (xn)), .int .u64 (l3 (xn)), .int .i64 (xs)] Q4 rfl rfl rfl rfl rfl sz31 rfl rfl rfl ?_
    intro w52 hS Qn
    replace Q4 := Qn
    clear Qn
    replace Q1 := hS.other _ _ ne_k1_k4 Q1
    replace Q2 := hS.other _ _ ne_k2_k4 Q2
    replace Q3 := hS.other _ _ ne_k3_k4 Q3
    replace M := hS.mo _ N_k4 M
    clear hS
    refine w_nil ?_
    refine xn_then ?_
    refine w_seq ?_
    refine w_seq ?_
    cases so with
    | true =>
      refine w_reg ?_
      refine wl_un (fun v => Instr.fieldAt 33 v 6) (.tmp 2) (pt k1 0) (pt k1 10) (fun _ => rfl) g2 (by kernel_rfl) rfl ?_
      refine wl_load 4 (.tmp 55) (pt k1 10) (.bool true) rfl rfl (run_one Q1 4 10 rfl Try.underlying4 rfl) rfl ?_
      refine wl_un (fun v => Op.unary .not v) (.tmp 56) (.bool true) (.bool false) (fun _ => rfl) rfl (by kernel_rfl) rfl ?_
      refine w_nil ?_
      refine xn_then ?_
      refine w_condF rfl ?_
      refine w_skip ?_
      refine xn_then ?_
      refine w_seq ?_
      refine w_seq ?_
      refine w_reg ?_
      refine wl_un (fun v => Instr.fieldAt 33 v 6) (.tmp 3) (pt k2 0) (pt k2 10) (fun _ => rfl) g3 (by kernel_rfl) rfl ?_
      refine wl_load 4 (.tmp 62) (pt k2 10) (.bool so2) rfl rfl (run_one Q2 4 10 rfl Try.underlying4 rfl) rfl ?_
      refine w_nil ?_
      refine xn_then ?_
      cases so2 with
      | true =>
        refine w_condT rfl ?_
        refine w_seq ?_
        refine w_seq ?_
        cases hf20 : decide (cmpv ⟨mb2, mn2, ms2⟩ ⟨mb, mn, ms⟩ < 0) with
        | true =>
          have hf20p := of_decide_eq_true hf20
          refine w_reg ?_
          refine wl_un (fun v => Instr.fieldAt 33 v 6) (.tmp 2) (pt k1 0) (pt k1 10) (fun _ => rfl) g2 (by kernel_rfl) rfl ?_
          refine wl_load 4 (.tmp 64) (pt k1 10) (.bool true) rfl rfl (run_one Q1 4 10 rfl Try.underlying4 rfl) rfl ?_
          refine wl_un (fun v => Op.unary .not v) (.tmp 65) (.bool true) (.bool false) (fun _ => rfl) rfl (by kernel_rfl) rfl ?_
          refine wl_mv (.tmp 66) (.bool false) (fun _ => rfl) rfl rfl ?_
          refine wl_un (fun v => Instr.fieldAt 33 v 7) (.tmp 3) (pt k2 0) (pt k2 11) (fun _ => rfl) g3 (by kernel_rfl) rfl ?_
          refine wl_load 26 (.tmp 68) (pt k2 11) (.agg #[.bool mb2, .int .u64 (l0 (mn2)), .int .u64 (l1 (mn2)), .int .u64 (l2 (mn2)), .int .u64 (l3 (mn2)), .int .i64 (ms2)]) rfl rfl (run_row Q2 26 11 6 [.bool mb2, .int .u64 (l0 (mn2)), .int .u64 (l1 (mn2)), .int .u64 (l2 (mn2)), .int .u64 (l3 (mn2)), .int .i64 (ms2)] rfl Try.underlying26 rfl sz26) rfl ?_
          refine wl_un (fun v => Instr.fieldAt 33 v 7) (.tmp 2) (pt k1 0) (pt k1 11) (fun _ => rfl) g2 (by kernel_rfl) rfl ?_
          refine wl_load 26 (.tmp 70) (pt k1 11) (.agg #[.bool mb, .int .u64 (l0 (mn)), .int .u64 (l1 (mn)), .int .u64 (l2 (mn)), .int .u64 (l3 (mn)), .int .i64 (ms)]) rfl rfl (run_row Q1 26 11 6 [.bool mb, .int .u64 (l0 (mn)), .int .u64 (l1 (mn)), .int .u64 (l2 (mn)), .int .u64 (l3 (mn)), .int .i64 (ms)] rfl Try.underlying26 rfl sz26) rfl ?_
          refine wl_call 42 [(.tmp 69), (.tmp 71)] _ [.agg #[.bool mb2, .int .u64 (l0 (mn2)), .int .u64 (l1 (mn2)), .int .u64 (l2 (mn2)), .int .u64 (l3 (mn2)), .int .i64 (ms2)], .agg #[.bool mb, .int .u64 (l0 (mn)), .int .u64 (l1 (mn)), .int .u64 (l2 (mn)), .int .u64 (l3 (mn)), .int .i64 (ms)]] (.int .i64 (cmpv ⟨mb2, mn2, ms2⟩ ⟨mb, mn, ms⟩)) rfl rfl (fun _ _ => by kernel_rfl) (rcmp_d ⟨mb2, mn2, ms2⟩ ⟨mb, mn, ms⟩ hm2 hm _) rfl ?_
          intro w53 hq
          replace Q1 := Q1.mo hq
          replace Q2 := Q2.mo hq
          replace Q3 := Q3.mo hq
          replace Q4 := Q4.mo hq
          replace M := M.trans hq
          clear hq
          refine wl_bin (fun x y => do eqGuard .lss 3 (.tmp 72) (.const (.int .i64 (0))) x y; binOp .lss 3 x y) (.tmp 72) (.const (.int .i64 (0))) (.int .i64 (cmpv ⟨mb2, mn2, ms2⟩ ⟨mb, mn, ms⟩)) (.int .i64 (0)) (.bool true) (fun _ => rfl) rfl rfl (ltI hf20 _ _ _) rfl ?_
          refine wl_pick (.tmp 67) (.const (.bool true)) (.tmp 73) false (.bool true) (fun _ => rfl) rfl rfl rfl ?_
          refine w_nil ?_
          refine xn_then ?_
          refine w_condT rfl ?_
          refine w_reg ?_
          refine wl_un (fun v => Instr.fieldAt 33 v 7) (.tmp 3) (pt k2 0) (pt k2 11) (fun _ => rfl) g3 (by kernel_rfl) rfl ?_
          refine wl_load 26 (.tmp 75) (pt k2 11) (.agg #[.bool mb2, .int .u64 (l0 (mn2)), .int .u64 (l1 (mn2)), .int .u64 (l2 (mn2)), .int .u64 (l3 (mn2)), .int .i64 (ms2)]) rfl rfl (run_row Q2 26 11 6 [.bool mb2, .int .u64 (l0 (mn2)), .int .u64 (l1 (mn2)), .int .u64 (l2 (mn2)), .int .u64 (l3 (mn2)), .int .i64 (ms2)] rfl Try.underlying26 rfl sz26) rfl ?_
          refine wl_un (fun v => Instr.fieldAt 33 v 7) (.tmp 5) (pt k4 0) (pt k4 11) (fun _ => rfl) g5 (by kernel_rfl) rfl ?_
          refine wl_st 26 (.tmp 77) (.tmp 76) k4 11 #[.bool mb2, .int .u64 (l0 (mn2)), .int .u64 (l1 (mn2)), .int .u64 (l2 (mn2)), .int .u64 (l3 (mn2)), .int .i64 (ms2)] [.int .i64 (w64 (r + r2)), .int .i64 (w64 (f + f2)), .int .i64 (w64 (k + kb)), .int .i64 (w64 (d + d2)), .int .i64 (les er e2), .int .u64 (l0 (tt + tt2)), .int .u64 (l1 (tt + tt2)), .int .u64 (l2 (tt + tt2)), .int .u64 (l3 (tt + tt2)), .int .u64 (l4 (tt + tt2)), .bool true, .bool mb, .int .u64 (l0 (mn)), .int .u64 (l1 (mn)), .int .u64 (l2 (mn)), .int .u64 (l3 (mn)), .int .i64 (ms), .bool xb, .int .u64 (l0 (xn)), .int .u64 (l1 (xn)), .int .u64 (l2 (xn)), .int .u64 (l3 (xn)), .int .i64 (xs)] [.int .i64 (w64 (r + r2)), .int .i64 (w64 (f + f2)), .int .i64 (w64 (k + kb)), .int .i64 (w64 (d + d2)), .int .i64 (les er e2), .int .u64 (l0 (tt + tt2)), .int .u64 (l1 (tt + tt2)), .int .u64 (l2 (tt + tt2)), .int .u64 (l3 (tt + tt2)), .int .u64 (l4 (tt + tt2)), .bool true, .bool mb2, .int .u64 (l0 (mn2)), .int .u64 (l1 (mn2)), .int .u64 (l2 (mn2)), .int .u64 (l3 (mn2)), .int .i64 (ms2), .bool xb, .int .u64 (l0 (xn)), .int .u64 (l1 (xn)), .int .u64 (l2 (xn)), .int .u64 (l3 (xn)), .int .i64 (xs)] Q4 rfl rfl rfl rfl rfl sz26 rfl rfl rfl ?_
          intro w54 hS Qn
          replace Q4 := Qn
          clear Qn
          replace Q1 := hS.other _ _ ne_k1_k4 Q1
          replace Q2 := hS.other _ _ ne_k2_k4 Q2
          replace Q3 := hS.other _ _ ne_k3_k4 Q3
          replace M := hS.mo _ N_k4 M
          clear hS
          refine w_nil ?_
          refine xn_then ?_
          refine w_seq ?_
          refine w_seq ?_
          cases hf21 : decide (0 < cmpv ⟨xb2, xn2, xs2⟩ ⟨xb, xn, xs⟩) with
          | true =>
            have hf21p := of_decide_eq_true hf21
            refine w_reg ?_
            refine wl_un (fun v => Instr.fieldAt 33 v 6) (.tmp 2) (pt k1 0) (pt k1 10) (fun _ => rfl) g2 (by kernel_rfl) rfl ?_
            refine wl_load 4 (.tmp 78) (pt k1 10) (.bool true) rfl rfl (run_one Q1 4 10 rfl Try.underlying4 rfl) rfl ?_
            refine wl_un (fun v => Op.unary .not v) (.tmp 79) (.bool true) (.bool false) (fun _ => rfl) rfl (by kernel_rfl) rfl ?_
            refine wl_mv (.tmp 80) (.bool false) (fun _ => rfl) rfl rfl ?_
            refine wl_un (fun v => Instr.fieldAt 33 v 8) (.tmp 3) (pt k2 0) (pt k2 17) (fun _ => rfl) g3 (by kernel_rfl) rfl ?_
            refine wl_load 26 (.tmp 82) (pt k2 17) (.agg #[.bool xb2, .int .u64 (l0 (xn2)), .int .u64 (l1 (xn2)), .int .u64 (l2 (xn2)), .int .u64 (l3 (xn2)), .int .i64 (xs2)]) rfl rfl (run_row Q2 26 17 6 [.bool xb2, .int .u64 (l0 (xn2)), .int .u64 (l1 (xn2)), .int .u64 (l2 (xn2)), .int .u64 (l3 (xn2)), .int .i64 (xs2)] rfl Try.underlying26 rfl sz26) rfl ?_
            refine wl_un (fun v => Instr.fieldAt 33 v 8) (.tmp 2) (pt k1 0) (pt k1 17) (fun _ => rfl) g2 (by kernel_rfl) rfl ?_
            refine wl_load 26 (.tmp 84) (pt k1 17) (.agg #[.bool xb, .int .u64 (l0 (xn)), .int .u64 (l1 (xn)), .int .u64 (l2 (xn)), .int .u64 (l3 (xn)), .int .i64 (xs)]) rfl rfl (run_row Q1 26 17 6 [.bool xb, .int .u64 (l0 (xn)), .int .u64 (l1 (xn)), .int .u64 (l2 (xn)), .int .u64 (l3 (xn)), .int .i64 (xs)] rfl Try.underlying26 rfl sz26) rfl ?_
            refine wl_call 42 [(.tmp 83), (.tmp 85)] _ [.agg #[.bool xb2, .int .u64 (l0 (xn2)), .int .u64 (l1 (xn2)), .int .u64 (l2 (xn2)), .int .u64 (l3 (xn2)), .int .i64 (xs2)], .agg #[.bool xb, .int .u64 (l0 (xn)), .int .u64 (l1 (xn)), .int .u64 (l2 (xn)), .int .u64 (l3 (xn)), .int .i64 (xs)]] (.int .i64 (cmpv ⟨xb2, xn2, xs2⟩ ⟨xb, xn, xs⟩)) rfl rfl (fun _ _ => by kernel_rfl) (rcmp_d ⟨xb2, xn2, xs2⟩ ⟨xb, xn, xs⟩ hx2 hx _) rfl ?_
            intro w55 hq
            replace Q1 := Q1.mo hq
            replace Q2 := Q2.mo hq
            replace Q3 := Q3.mo hq
            replace Q4 := Q4.mo hq
            replace M := M.trans hq
            clear hq
            refine wl_bin (fun x y => do eqGuard .gtr 3 (.tmp 86) (.const (.int .i64 (0))) x y; binOp .gtr 3 x y) (.tmp 86) (.const (.int .i64 (0))) (.int .i64 (cmpv ⟨xb2, xn2, xs2⟩ ⟨xb, xn, xs⟩)) (.int .i64 (0)) (.bool true) (fun _ => rfl) rfl rfl (gtI hf21 _ _ _) rfl ?_
            refine wl_pick (.tmp 81) (.const (.bool true)) (.tmp 87) false (.bool true) (fun _ => rfl) rfl rfl rfl ?_
            refine w_nil ?_
            refine xn_then ?_
            refine w_condT rfl ?_
            refine w_reg ?_
            refine wl_un (fun v => Instr.fieldAt 33 v 8) (.tmp 3) (pt k2 0) (pt k2 17) (fun _ => rfl) g3 (by kernel_rfl) rfl ?_
            refine wl_load 26 (.tmp 89) (pt k2 17) (.agg #[.bool xb2, .int .u64 (l0 (xn2)), .int .u64 (l1 (xn2)), .int .u64 (l2 (xn2)), .int .u64 (l3 (xn2)), .int .i64 (xs2)]) rfl rfl (run_row Q2 26 17 6 [.bool xb2, .int .u64 (l0 (xn2)), .int .u64 (l1 (xn2)), .int .u64 (l2 (xn2)), .int .u64 (l3 (xn2)), .int .i64 (xs2)] rfl Try.underlying26 rfl sz26) rfl ?_
            refine wl_un (fun v => Instr.fieldAt 33 v 8) (.tmp 5) (pt k4 0) (pt k4 17) (fun _ => rfl) g5 (by kernel_rfl) rfl ?_
            refine wl_st 26 (.tmp 91) (.tmp 90) k4 17 #[.bool xb2, .int .u64 (l0 (xn2)), .int .u64 (l1 (xn2)), .int .u64 (l2 (xn2)), .int .u64 (l3 (xn2)), .int .i64 (xs2)] [.int .i64 (w64 (r + r2)), .int .i64 (w64 (f + f2)), .int .i64 (w64 (k + kb)), .int .i64 (w64 (d + d2)), .int .i64 (les er e2), .int .u64 (l0 (tt + tt2)), .int .u64 (l1 (tt + tt2)), .int .u64 (l2 (tt + tt2)), .int .u64 (l3 (tt + tt2)), .int .u64 (l4 (tt + tt2)), .bool true, .bool mb2, .int .u64 (l0 (mn2)), .int .u64 (l1 (mn2)), .int .u64 (l2 (mn2)), .int .u64 (l3 (mn2)), .int .i64 (ms2), .bool xb, .int .u64 (l0 (xn)), .int .u64 (l1 (xn)), .int .u64 (l2 (xn)), .int .u64 (l3 (xn)), .int .i64 (xs)] [.int .i64 (w64 (r + r2)), .int .i64 (w64 (f + f2)), .int .i64 (w64 (k + kb)), .int .i64 (w64 (d + d2)), .int .i64 (les er e2), .int .u64 (l0 (tt + tt2)), .int .u64 (l1 (tt + tt2)), .int .u64 (l2 (tt + tt2)), .int .u64 (l3 (tt + tt2)), .int .u64 (l4 (tt + tt2)), .bool true, .bool mb2, .int .u64 (l0 (mn2)), .int .u64 (l1 (mn2)), .int .u64 (l2 (mn2)), .int .u64 (l3 (mn2)), .int .i64 (ms2), .bool xb2, .int .u64 (l0 (xn2)), .int .u64 (l1 (xn2)), .int .u64 (l2 (xn2)), .int .u64 (l3 (xn2)), .int .i64 (xs2)] Q4 rfl rfl rfl rfl rfl sz26 rfl rfl rfl ?_
            intro w56 hS Qn
            replace Q4 := Qn
            clear Qn
            replace Q1 := hS.other _ _ ne_k1_k4 Q1
            replace Q2 := hS.other _ _ ne_k2_k4 Q2
            replace Q3 := hS.other _ _ ne_k3_k4 Q3
            replace M := hS.mo _ N_k4 M
            clear hS
            refine w_nil ?_
            refine xn_then ?_
            refine w_reg ?_
            refine wl_un (fun v => Instr.fieldAt 33 v 6) (.tmp 5) (pt k4 0) (pt k4 10) (fun _ => rfl) g5 (by kernel_rfl) rfl ?_
            refine wl_st1 4 (.tmp 92) (.const (.bool true)) k4 10 (.bool true) [.int .i64 (w64 (r + r2)), .int .i64 (w64 (f + f2)), .int .i64 (w64 (k + kb)), .int .i64 (w64 (d + d2)), .int .i64 (les er e2), .int .u64 (l0 (tt + tt2)), .int .u64 (l1 (tt + tt2)), .int .u64 (l2 (tt + tt2)), .int .u64 (l3 (tt + tt2)), .int .u64 (l4 (tt + tt2)), .bool true, .bool mb2, .int .u64 (l0 (mn2)), .int .u64 (l1 (mn2)), .int .u64 (l2 (mn2)), .int .u64 (l3 (mn2)), .int .i64 (ms2), .bool xb2, .int .u64 (l0 (xn2)), .int .u64 (l1 (xn2)), .int .u64 (l2 (xn2)), .int .u64 (l3 (xn2)), .int .i64 (xs2)] [.int .i64 (w64 (r + r2)), .int .i64 (w64 (f + f2)), .int .i64 (w64 (k + kb)), .int .i64 (w64 (d + d2)), .int .i64 (les er e2), .int .u64 (l0 (tt + tt2)), .int .u64 (l1 (tt + tt2)), .int .u64 (l2 (tt + tt2)), .int .u64 (l3 (tt + tt2)), .int .u64 (l4 (tt + tt2)), .bool true, .bool mb2, .int .u64 (l0 (mn2)), .int .u64 (l1 (mn2)), .int .u64 (l2 (mn2)), .int .u64 (l3 (mn2)), .int .i64 (ms2), .bool xb2, .int .u64 (l0 (xn2)), .int .u64 (l1 (xn2)), .int .u64 (l2 (xn2)), .int .u64 (l3 (xn2)), .int .i64 (xs2)] Q4 rfl rfl rfl rfl rfl sz4 rfl rfl rfl rfl ?_
            intro w57 hS Qn
            replace Q4 := Qn
            clear Qn
            replace Q1 := hS.other _ _ ne_k1_k4 Q1
            replace Q2 := hS.other _ _ ne_k2_k4 Q2
            replace Q3 := hS.other _ _ ne_k3_k4 Q3
            replace M := hS.mo _ N_k4 M
            clear hS
            refine w_nil ?_
            refine xn_then ?_
            refine w_seq ?_
            refine w_reg ?_
            refine wl_load 33 (.tmp 5) (pt k4 0) (.agg #[.int .i64 (w64 (r + r2)), .int .i64 (w64 (f + f2)), .int .i64 (w64 (k + kb)), .int .i64 (w64 (d + d2)), .int .i64 (les er e2), .int .u64 (l0 (tt + tt2)), .int .u64 (l1 (tt + tt2)), .int .u64 (l2 (tt + tt2)), .int .u64 (l3 (tt + tt2)), .int .u64 (l4 (tt + tt2)), .bool true, .bool mb2, .int .u64 (l0 (mn2)), .int .u64 (l1 (mn2)), .int .u64 (l2 (mn2)), .int .u64 (l3 (mn2)), .int .i64 (ms2), .bool xb2, .int .u64 (l0 (xn2)), .int .u64 (l1 (xn2)), .int .u64 (l2 (xn2)), .int .u64 (l3 (xn2)), .int .i64 (xs2)]) rfl g5 (run_row Q4 33 0 23 [.int .i64 (w64 (r + r2)), .int .i64 (w64 (f + f2)), .int .i64 (w64 (k + kb)), .int .i64 (w64 (d + d2)), .int .i64 (les er e2), .int .u64 (l0 (tt + tt2)), .int .u64 (l1 (tt + tt2)), .int .u64 (l2 (tt + tt2)), .int .u64 (l3 (tt + tt2)), .int .u64 (l4 (tt + tt2)), .bool true, .bool mb2, .int .u64 (l0 (mn2)), .int .u64 (l1 (mn2)), .int .u64 (l2 (mn2)), .int .u64 (l3 (mn2)), .int .i64 (ms2), .bool xb2, .int .u64 (l0 (xn2)), .int .u64 (l1 (xn2)), .int .u64 (l2 (xn2)), .int .u64 (l3 (xn2)), .int .i64 (xs2)] rfl Try.underlying33 rfl sz33) rfl ?_
            refine wl_st 33 (.tmp 4) (.tmp 93) k3 0 #[.int .i64 (w64 (r + r2)), .int .i64 (w64 (f + f2)), .int .i64 (w64 (k + kb)), .int .i64 (w64 (d + d2)), .int .i64 (les er e2), .int .u64 (l0 (tt + tt2)), .int .u64 (l1 (tt + tt2)), .int .u64 (l2 (tt + tt2)), .int .u64 (l3 (tt + tt2)), .int .u64 (l4 (tt + tt2)), .bool true, .bool mb2, .int .u64 (l0 (mn2)), .int .u64 (l1 (mn2)), .int .u64 (l2 (mn2)), .int .u64 (l3 (mn2)), .int .i64 (ms2), .bool xb2, .int .u64 (l0 (xn2)), .int .u64 (l1 (xn2)), .int .u64 (l2 (xn2)), .int .u64 (l3 (xn2)), .int .i64 (xs2)] [.int .i64 0, .int .i64 0, .int .i64 0, .int .i64 0, .int .i64 0, .int .u64 0, .int .u64 0, .int .u64 0, .int .u64 0, .int .u64 0, .bool false, .bool false, .int .u64 0, .int .u64 0, .int .u64 0, .int .u64 0, .int .i64 0, .bool false, .int .u64 0, .int .u64 0, .int .u64 0, .int .u64 0, .int .i64 0] [.int .i64 (w64 (r + r2)), .int .i64 (w64 (f + f2)), .int .i64 (w64 (k + kb)), .int .i64 (w64 (d + d2)), .int .i64 (les er e2), .int .u64 (l0 (tt + tt2)), .int .u64 (l1 (tt + tt2)), .int .u64 (l2 (tt + tt2)), .int .u64 (l3 (tt + tt2)), .int .u64 (l4 (tt + tt2)), .bool true, .bool mb2, .int .u64 (l0 (mn2)), .int .u64 (l1 (mn2)), .int .u64 (l2 (mn2)), .int .u64 (l3 (mn2)), .int .i64 (ms2), .bool xb2, .int .u64 (l0 (xn2)), .int .u64 (l1 (xn2)), .int .u64 (l2 (xn2)), .int .u64 (l3 (xn2)), .int .i64 (xs2)] Q3 rfl rfl g4 rfl rfl sz33 rfl rfl rfl ?_
            intro w58 hS Qn
            replace Q3 := Qn
            clear Qn
            replace Q1 := hS.other _ _ ne_k1_k3 Q1
            replace Q2 := hS.other _ _ ne_k2_k3 Q2
            replace Q4 := hS.other _ _ ne_k3_k4.symm Q4
            replace M := hS.mo _ N_k3 M
            clear hS
            refine w_nil ?_
            refine xn_then ?_
            refine w_ret ?_
            exact w_ret1 _ (.agg #[.int .i64 (w64 (r + r2)), .int .i64 (w64 (f + f2)), .int .i64 (w64 (k + kb)), .int .i64 (w64 (d + d2)), .int .i64 (les er e2), .int .u64 (l0 (tt + tt2)), .int .u64 (l1 (tt + tt2)), .int .u64 (l2 (tt + tt2)), .int .u64 (l3 (tt + tt2)), .int .u64 (l4 (tt + tt2)), .bool true, .bool mb2, .int .u64 (l0 (mn2)), .int .u64 (l1 (mn2)), .int .u64 (l2 (mn2)), .int .u64 (l3 (mn2)), .int .i64 (ms2), .bool xb2, .int .u64 (l0 (xn2)), .int .u64 (l1 (xn2)), .int .u64 (l2 (xn2)), .int .u64 (l3 (xn2)), .int .i64 (xs2)]) rfl ⟨k3, g4, (run_row Q3 33 0 23 [.int .i64 (w64 (r + r2)), .int .i64 (w64 (f + f2)), .int .i64 (w64 (k + kb)), .int .i64 (w64 (d + d2)), .int .i64 (les er e2), .int .u64 (l0 (tt + tt2)), .int .u64 (l1 (tt + tt2)), .int .u64 (l2 (tt + tt2)), .int .u64 (l3 (tt + tt2)), .int .u64 (l4 (tt + tt2)), .bool true, .bool mb2, .int .u64 (l0 (mn2)), .int .u64 (l1 (mn2)), .int .u64 (l2 (mn2)), .int .u64 (l3 (mn2)), .int .i64 (ms2), .bool xb2, .int .u64 (l0 (xn2)), .int .u64 (l1 (xn2)), .int .u64 (l2 (xn2)), .int .u64 (l3 (xn2)), .int .i64 (xs2)] rfl Try.underlying33 rfl sz33)⟩ ⟨by unfold jn str; simp only [if_true, if_pos hf20p, if_pos hf21p], M⟩
          | false =>
            have hf21p := of_decide_eq_false hf21
            refine w_reg ?_
            refine wl_un (fun v => Instr.fieldAt 33 v 6) (.tmp 2) (pt k1 0) (pt k1 10) (fun _ => rfl) g2 (by kernel_rfl) rfl ?_
            refine wl_load 4 (.tmp 78) (pt k1 10) (.bool true) rfl rfl (run_one Q1 4 10 rfl Try.underlying4 rfl) rfl ?_
            refine wl_un (fun v => Op.unary .not v) (.tmp 79) (.bool true) (.bool false) (fun _ => rfl) rfl (by kernel_rfl) rfl ?_
            refine wl_mv (.tmp 80) (.bool false) (fun _ => rfl) rfl rfl ?_
            refine wl_un (fun v => Instr.fieldAt 33 v 8) (.tmp 3) (pt k2 0) (pt k2 17) (fun _ => rfl) g3 (by kernel_rfl) rfl ?_
            refine wl_load 26 (.tmp 82) (pt k2 17) (.agg #[.bool xb2, .int .u64 (l0 (xn2)), .int .u64 (l1 (xn2)), .int .u64 (l2 (xn2)), .int .u64 (l3 (xn2)), .int .i64 (xs2)]) rfl rfl (run_row Q2 26 17 6 [.bool xb2, .int .u64 (l0 (xn2)), .int .u64 (l1 (xn2)), .int .u64 (l2 (xn2)), .int .u64 (l3 (xn2)), .int .i64 (xs2)] rfl Try.underlying26 rfl sz26) rfl ?_
            refine wl_un (fun v => Instr.fieldAt 33 v 8) (.tmp 2) (pt k1 0) (pt k1 17) (fun _ => rfl) g2 (by kernel_rfl) rfl ?_
            refine wl_load 26 (.tmp 84) (pt k1 17) (.agg #[.bool xb, .int .u64 (l0 (xn)), .int .u64 (l1 (xn)), .int .u64 (l2 (xn)), .int .u64 (l3 (xn)), .int .i64 (xs)]) rfl rfl (run_row Q1 26 17 6 [.bool xb, .int .u64 (l0 (xn)), .int .u64 (l1 (xn)), .int .u64 (l2 (xn)), .int .u64 (l3 (xn)), .int .i64 (xs)] rfl Try.underlying26 rfl sz26) rfl ?_
            refine wl_call 42 [(.tmp 83), (.tmp 85)] _ [.agg #[.bool xb2, .int .u64 (l0 (xn2)), .int .u64 (l1 (xn2)), .int .u64 (l2 (xn2)), .int .u64 (l3 (xn2)), .int .i64 (xs2)], .agg #[.bool xb, .int .u64 (l0 (xn)), .int .u64 (l1 (xn)), .int .u64 (l2 (xn)), .int .u64 (l3 (xn)), .int .i64 (xs)]] (.int .i64 (cmpv ⟨xb2, xn2, xs2⟩ ⟨xb, xn, xs⟩)) rfl rfl (fun _ _ => by kernel_rfl) (rcmp_d ⟨xb2, xn2, xs2⟩ ⟨xb, xn, xs⟩ hx2 hx _) rfl ?_
            intro w55 hq
            replace Q1 := Q1.mo hq
            replace Q2 := Q2.mo hq
            replace Q3 := Q3.mo hq
            replace Q4 := Q4.mo hq
            replace M := M.trans hq
            clear hq
            refine wl_bin (fun x y => do eqGuard .gtr 3 (.tmp 86) (.const (.int .i64 (0))) x y; binOp .gtr 3 x y) (.tmp 86) (.const (.int .i64 (0))) (.int .i64 (cmpv ⟨xb2, xn2, xs2⟩ ⟨xb, xn, xs⟩)) (.int .i64 (0)) (.bool false) (fun _ => rfl) rfl rfl (gtI hf21 _ _ _) rfl ?_
            refine wl_pick (.tmp 81) (.const (.bool true)) (.tmp 87) false (.bool false) (fun _ => rfl) rfl rfl rfl ?_
            refine w_nil ?_
            refine xn_then ?_
            refine w_condF rfl ?_
            refine w_skip ?_
            refine xn_then ?_
            refine w_reg ?_
            refine wl_un (fun v => Instr.fieldAt 33 v 6) (.tmp 5) (pt k4 0) (pt k4 10) (fun _ => rfl) g5 (by kernel_rfl) rfl ?_
            refine wl_st1 4 (.tmp 92) (.const (.bool true)) k4 10 (.bool true) [.int .i64 (w64 (r + r2)), .int .i64 (w64 (f + f2)), .int .i64 (w64 (k + kb)), .int .i64 (w64 (d + d2)), .int .i64 (les er e2), .int .u64 (l0 (tt + tt2)), .int .u64 (l1 (tt + tt2)), .int .u64 (l2 (tt + tt2)), .int .u64 (l3 (tt + tt2)), .int .u64 (l4 (tt + tt2)), .bool true, .bool mb2, .int .u64 (l0 (mn2)), .int .u64 (l1 (mn2)), .int .u64 (l2 (mn2)), .int .u64 (l3 (mn2)), .int .i64 (ms2), .bool xb, .int .u64 (l0 (xn)), .int .u64 (l1 (xn)), .int .u64 (l2 (xn)), .int .u64 (l3 (xn)), .int .i64 (xs)] [.int .i64 (w64 (r + r2)), .int .i64 (w64 (f + f2)), .int .i64 (w64 (k + kb)), .int .i64 (w64 (d + d2)), .int .i64 (les er e2), .int .u64 (l0 (tt + tt2)), .int .u64 (l1 (tt + tt2)), .int .u64 (l2 (tt + tt2)), .int .u64 (l3 (tt + tt2)), .int .u64 (l4 (tt + tt2)), .bool true, .bool mb2, .int .u64 (l0 (mn2)), .int .u64 (l1 (mn2)), .int .u64 (l2 (mn2)), .int .u64 (l3 (mn2)), .int .i64 (ms2), .bool xb, .int .u64 (l0 (xn)), .int .u64 (l1 (xn)), .int .u64 (l2 (xn)), .int .u64 (l3 (xn)), .int .i64 (xs)] Q4 rfl rfl rfl rfl rfl sz4 rfl rfl rfl rfl ?_
            intro w56 hS Qn
            replace Q4 := Qn
            clear Qn
            replace Q1 := hS.other _ _ ne_k1_k4 Q1
            replace Q2 := hS.other _ _ ne_k2_k4 Q2
            replace Q3 := hS.other _ _ ne_k3_k4 Q3
            replace M := hS.mo _ N_k4 M
            clear hS
            refine w_nil ?_
            refine xn_then ?_
            refine w_seq ?_
            refine w_reg ?_
            refine wl_load 33 (.tmp 5) (pt k4 0) (.agg #[.int .i64 (w64 (r + r2)), .int .i64 (w64 (f + f2)), .int .i64 (w64 (k + kb)), .int .i64 (w64 (d + d2)), .int .i64 (les er e2), .int .u64 (l0 (tt + tt2)), .int .u64 (l1 (tt + tt2)), .int .u64 (l2 (tt + tt2)), .int .u64 (l3 (tt + tt2)), .int .u64 (l4 (tt + tt2)), .bool true, .bool mb2, .int .u64 (l0 (mn2)), .int .u64 (l1 (mn2)), .int .u64 (l2 (mn2)), .int .u64 (l3 (mn2)), .int .i64 (ms2), .bool xb, .int .u64 (l0 (xn)), .int .u64 (l1 (xn)), .int .u64 (l2 (xn)), .int .u64 (l3 (xn)), .int .i64 (xs)]) rfl g5 (run_row Q4 33 0 23 [.int .i64 (w64 (r + r2)), .int .i64 (w64 (f + f2)), .int .i64 (w64 (k + kb)), .int .i64 (w64 (d + d2)), .int .i64 (les er e2), .int .u64 (l0 (tt + tt2)), .int .u64 (l1 (tt + tt2)), .int .u64 (l2 (tt + tt2)), .int .u64 (l3 (tt + tt2)), .int .u64 (l4 (tt + tt2)), .bool true, .bool mb2, .int .u64 (l0 (mn2)), .int .u64 (l1 (mn2)), .int .u64 (l2 (mn2)), .int .u64 (l3 (mn2)), .int .i64 (ms2), .bool xb, .int .u64 (l0 (xn)), .int .u64 (l1 (xn)), .int .u64 (l2 (xn)), .int .u64 (l3 (xn)), .int .i64 (xs)] rfl Try.underlying33 rfl sz33) rfl ?_
            refine wl_st 33 (.tmp 4) (.tmp 93) k3 0 #[.int .i64 (w64 (r + r2)), .int .i64 (w64 (f + f2)), .int .i64 (w64 (k + kb)), .int .i64 (w64 (d + d2)), .int .i64 (les er e2), .int .u64 (l0 (tt + tt2)), .int .u64 (l1 (tt + tt2)), .int .u64 (l2 (tt + tt2)), .int .u64 (l3 (tt + tt2)), .int .u64 (l4 (tt + tt2)), .bool true, .bool mb2, .int .u64 (l0 (mn2)), .int .u64 (l1 (mn2)), .int .u64 (l2 (mn2)), .int .u64 (l3 (mn2)), .int .i64 (ms2), .bool xb, .int .u64 (l0 (xn)), .int .u64 (l1 (xn)), .int .u64 (l2 (xn)), .int .u64 (l3 (xn)), .int .i64 (xs)] [.int .i64 0, .int .i64 0, .int .i64 0, .int .i64 0, .int .i64 0, .int .u64 0, .int .u64 0, .int .u64 0, .int .u64 0, .int .u64 0, .bool false, .bool false, .int .u64 0, .int .u64 0, .int .u64 0, .int .u64 0, .int .i64 0, .bool false, .int .u64 0, .int .u64 0, .int .u64 0, .int .u64 0, .int .i64 0] [.int .i64 (w64 (r + r2)), .int .i64 (w64 (f + f2)), .int .i64 (w64 (k + kb)), .int .i64 (w64 (d + d2)), .int .i64 (les er e2), .int .u64 (l0 (tt + tt2)), .int .u64 (l1 (tt + tt2)), .int .u64 (l2 (tt + tt2)), .int .u64 (l3 (tt + tt2)), .int .u64 (l4 (tt + tt2)), .bool true, .bool mb2, .int .u64 (l0 (mn2)), .int .u64 (l1 (mn2)), .int .u64 (l2 (mn2)), .int .u64 (l3 (mn2)), .int .i64 (ms2), .bool xb, .int .u64 (l0 (xn)), .int .u64 (l1 (xn)), .int .u64 (l2 (xn)), .int .u64 (l3 (xn)), .int .i64 (xs)] Q3 rfl rfl g4 rfl rfl sz33 rfl rfl rfl ?_
            intro w57 hS Qn
            replace Q3 := Qn
            clear Qn
            replace Q1 := hS.other _ _ ne_k1_k3 Q1
            replace Q2 := hS.other _ _ ne_k2_k3 Q2
            replace Q4 := hS.other _ _ ne_k3_k4.symm Q4
            replace M := hS.mo _ N_k3 M
            clear hS
            refine w_nil ?_
            refine xn_then ?_
            refine w_ret ?_
            exact w_ret1 _ (.agg #[.int .i64 (w64 (r + r2)), .int .i64 (w64 (f + f2)), .int .i64 (w64 (k + kb)), .int .i64 (w64 (d + d2)), .int .i64 (les er e2), .int .u64 (l0 (tt + tt2)), .int .u64 (l1 (tt + tt2)), .int .u64 (l2 (tt + tt2)), .int .u64 (l3 (tt + tt2)), .int .u64 (l4 (tt + tt2)), .bool true, .bool mb2, .int .u64 (l0 (mn2)), .int .u64 (l1 (mn2)), .int .u64 (l2 (mn2)), .int .u64 (l3 (mn2)), .int .i64 (ms2), .bool xb, .int .u64 (l0 (xn)), .int .u64 (l1 (xn)), .int .u64 (l2 (xn)), .int .u64 (l3 (xn)), .int .i64 (xs)]) rfl ⟨k3, g4, (run_row Q3 33 0 23 [.int .i64 (w64 (r + r2)), .int .i64 (w64 (f + f2)), .int .i64 (w64 (k + kb)), .int .i64 (w64 (d + d2)), .int .i64 (les er e2), .int .u64 (l0 (tt + tt2)), .int .u64 (l1 (tt + tt2)), .int .u64 (l2 (tt + tt2)), .int .u64 (l3 (tt + tt2)), .int .u64 (l4 (tt + tt2)), .bool true, .bool mb2, .int .u64 (l0 (mn2)), .int .u64 (l1 (mn2)), .int .u64 (l2 (mn2)), .int .u64 (l3 (mn2)), .int .i64 (ms2), .bool xb, .int .u64 (l0 (xn)), .int .u64 (l1 (xn)), .int .u64 (l2 (xn)), .int .u64 (l3 (xn)), .int .i64 (xs)] rfl Try.underlying33 rfl sz33)⟩ ⟨by unfold jn str; simp only [if_true, if_pos hf20p, if_neg hf21p], M⟩
        | false =>
          have hf20p := of_decide_eq_false hf20
          refine w_reg ?_
          refine wl_un (fun v => Instr.fieldAt 33 v 6) (.tmp 2) (pt k1 0) (pt k1 10) (fun _ => rfl) g2 (by kernel_rfl) rfl ?_
          refine wl_load 4 (.tmp 64) (pt k1 10) (.bool true) rfl rfl (run_one Q1 4 10 rfl Try.underlying4 rfl) rfl ?_
          refine wl_un (fun v => Op.unary .not v) (.tmp 65) (.bool true) (.bool false) (fun _ => rfl) rfl (by kernel_rfl) rfl ?_
          refine wl_mv (.tmp 66) (.bool false) (fun _ => rfl) rfl rfl ?_
          refine wl_un (fun v => Instr.fieldAt 33 v 7) (.tmp 3) (pt k2 0) (pt k2 11) (fun _ => rfl) g3 (by kernel_rfl) rfl ?_
          refine wl_load 26 (.tmp 68) (pt k2 11) (.agg #[.bool mb2, .int .u64 (l0 (mn2)), .int .u64 (l1 (mn2)), .int .u64 (l2 (mn2)), .int .u64 (l3 (mn2)), .int .i64 (ms2)]) rfl rfl (run_row Q2 26 11 6 [.bool mb2, .int .u64 (l0 (mn2)), .int .u64 (l1 (mn2)), .int .u64 (l2 (mn2)), .int .u64 (l3 (mn2)), .int .i64 (ms2)] rfl Try.underlying26 rfl sz26) rfl ?_
          refine wl_un (fun v => Instr.fieldAt 33 v 7) (.tmp 2) (pt k1 0) (pt k1 11) (fun _ => rfl) g2 (by kernel_rfl) rfl ?_
          refine wl_load 26 (.tmp 70) (pt k1 11) (.agg #[.bool mb, .int .u64 (l0 (mn)), .int .u64 (l1 (mn)), .int .u64 (l2 (mn)), .int .u64 (l3 (mn)), .int .i64 (ms)]) rfl rfl (run_row Q1 26 11 6 [.bool mb, .int .u64 (l0 (mn)), .int .u64 (l1 (mn)), .int .u64 (l2 (mn)), .int .u64 (l3 (mn)), .int .i64 (ms)] rfl Try.underlying26 rfl sz26) rfl ?_
          refine wl_call 42 [(.tmp 69), (.tmp 71)] _ [.agg #[.bool mb2, .int .u64 (l0 (mn2)), .int .u64 (l1 (mn2)), .int .u64 (l2 (mn2)), .int .u64 (l3 (mn2)), .int .i64 (ms2)], .agg #[.bool mb, .int .u64 (l0 (mn)), .int .u64 (l1 (mn)), .int .u64 (l2 (mn)), .int .u64 (l3 (mn)), .int .i64 (ms)]] (.int .i64 (cmpv ⟨mb2, mn2, ms2⟩ ⟨mb, mn, ms⟩)) rfl rfl (fun _ _ => by kernel_rfl) (rcmp_d ⟨mb2, mn2, ms2⟩ ⟨mb, mn, ms⟩ hm2 hm _) rfl ?_
          intro w53 hq
          replace Q1 := Q1.mo hq
          replace Q2 := Q2.mo hq
          replace Q3 := Q3.mo hq
          replace Q4 := Q4.mo hq
          replace M := M.trans hq
          clear hq
          refine wl_bin (fun x y => do eqGuard .lss 3 (.tmp 72) (.const (.int .i64 (0))) x y; binOp .lss 3 x y) (.tmp 72) (.const (.int .i64 (0))) (.int .i64 (cmpv ⟨mb2, mn2, ms2⟩ ⟨mb, mn, ms⟩)) (.int .i64 (0)) (.bool false) (fun _ => rfl) rfl rfl (ltI hf20 _ _ _) rfl ?_
          refine wl_pick (.tmp 67) (.const (.bool true)) (.tmp 73) false (.bool false) (fun _ => rfl) rfl rfl rfl ?_
          refine w_nil ?_
          refine xn_then ?_
          refine w_condF rfl ?_
          refine w_skip ?_
          refine xn_then ?_
          refine w_seq ?_
          refine w_seq ?_
          cases hf21 : decide (0 < cmpv ⟨xb2, xn2, xs2⟩ ⟨xb, xn, xs⟩) with
          | true =>
            have hf21p := of_decide_eq_true hf21
            refine w_reg ?_
            refine wl_un (fun v => Instr.fieldAt 33 v 6) (.tmp 2) (pt k1 0) (pt k1 10) (fun _ => rfl) g2 (by kernel_rfl) rfl ?_
            refine wl_load 4 (.tmp 78) (pt k1 10) (.bool true) rfl rfl (run_one Q1 4 10 rfl Try.underlying4 rfl) rfl ?_
            refine wl_un (fun v => Op.unary .not v) (.tmp 79) (.bool true) (.bool false) (fun _ => rfl) rfl (by kernel_rfl) rfl ?_
            refine wl_mv (.tmp 80) (.bool false) (fun _ => rfl) rfl rfl ?_
            refine wl_un (fun v => Instr.fieldAt 33 v 8) (.tmp 3) (pt k2 0) (pt k2 17) (fun _ => rfl) g3 (by kernel_rfl) rfl ?_
            refine wl_load 26 (.tmp 82) (pt k2 17) (.agg #[.bool xb2, .int .u64 (l0 (xn2)), .int .u64 (l1 (xn2)), .int .u64 (l2 (xn2)), .int .u64 (l3 (xn2)), .int .i64 (xs2)]) rfl rfl (run_row Q2 26 17 6 [.bool xb2, .int .u64 (l0 (xn2)), .int .u64 (l1 (xn2)), .int .u64 (l2 (xn2)), .int .u64 (l3 (xn2)), .int .i64 (xs2)] rfl Try.underlying26 rfl sz26) rfl ?_
            refine wl_un (fun v => Instr.fieldAt 33 v 8) (.tmp 2) (pt k1 0) (pt k1 17) (fun _ => rfl) g2 (by kernel_rfl) rfl ?_
            refine wl_load 26 (.tmp 84) (pt k1 17) (.agg #[.bool xb, .int .u64 (l0 (xn)), .int .u64 (l1 (xn)), .int .u64 (l2 (xn)), .int .u64 (l3 (xn)), .int .i64 (xs)]) rfl rfl (run_row Q1 26 17 6 [.bool xb, .int .u64 (l0 (xn)), .int .u64 (l1 (xn)), .int .u64 (l2 (xn)), .int .u64 (l3 (xn)), .int .i64 (xs)] rfl Try.underlying26 rfl sz26) rfl ?_
            refine wl_call 42 [(.tmp 83), (.tmp 85)] _ [.agg #[.bool xb2, .int .u64 (l0 (xn2)), .int .u64 (l1 (xn2)), .int .u64 (l2 (xn2)), .int .u64 (l3 (xn2)), .int .i64 (xs2)], .agg #[.bool xb, .int .u64 (l0 (xn)), .int .u64 (l1 (xn)), .int .u64 (l2 (xn)), .int .u64 (l3 (xn)), .int .i64 (xs)]] (.int .i64 (cmpv ⟨xb2, xn2, xs2⟩ ⟨xb, xn, xs⟩)) rfl rfl (fun _ _ => by kernel_rfl) (rcmp_d ⟨xb2, xn2, xs2⟩ ⟨xb, xn, xs⟩ hx2 hx _) rfl ?_
            intro w54 hq
            replace Q1 := Q1.mo hq
            replace Q2 := Q2.mo hq
            replace Q3 := Q3.mo hq
            replace Q4 := Q4.mo hq
            replace M := M.trans hq
            clear hq
            refine wl_bin (fun x y => do eqGuard .gtr 3 (.tmp 86) (.const (.int .i64 (0))) x y; binOp .gtr 3 x y) (.tmp 86) (.const (.int .i64 (0))) (.int .i64 (cmpv ⟨xb2, xn2, xs2⟩ ⟨xb, xn, xs⟩)) (.int .i64 (0)) (.bool true) (fun _ => rfl) rfl rfl (gtI hf21 _ _ _) rfl ?_
            refine wl_pick (.tmp 81) (.const (.bool true)) (.tmp 87) false (.bool true) (fun _ => rfl) rfl rfl rfl ?_
            refine w_nil ?_
            refine xn_then ?_
            refine w_condT rfl ?_
            refine w_reg ?_
            refine wl_un (fun v => Instr.fieldAt 33 v 8) (.tmp 3) (pt k2 0) (pt k2 17) (fun _ => rfl) g3 (by kernel_rfl) rfl ?_
            refine wl_load 26 (.tmp 89) (pt k2 17) (.agg #[.bool xb2, .int .u64 (l0 (xn2)), .int .u64 (l1 (xn2)), .int .u64 (l2 (xn2)), .int .u64 (l3 (xn2)), .int .i64 (xs2)]) rfl rfl (run_row Q2 26 17 6 [.bool xb2, .int .u64 (l0 (xn2)), .int .u64 (l1 (xn2)), .int .u64 (l2 (xn2)), .int .u64 (l3 (xn2)), .int .i64 (xs2)] rfl Try.underlying26 rfl sz26) rfl ?_
            refine wl_un (fun v => Instr.fieldAt 33 v 8) (.tmp 5) (pt k4 0) (pt k4 17) (fun _ => rfl) g5 (by kernel_rfl) rfl ?_
            refine wl_st 26 (.tmp 91) (.tmp 90) k4 17 #[.bool xb2, .int .u64 (l0 (xn2)), .int .u64 (l1 (xn2)), .int .u64 (l2 (xn2)), .int .u64 (l3 (xn2)), .int .i64 (xs2)] [.int .i64 (w64 (r + r2)), .int .i64 (w64 (f + f2)), .int .i64 (w64 (k + kb)), .int .i64 (w64 (d + d2)), .int .i64 (les er e2), .int .u64 (l0 (tt + tt2)), .int .u64 (l1 (tt + tt2)), .int .u64 (l2 (tt + tt2)), .int .u64 (l3 (tt + tt2)), .int .u64 (l4 (tt + tt2)), .bool true, .bool mb, .int .u64 (l0 (mn)), .int .u64 (l1 (mn)), .int .u64 (l2 (mn)), .int .u64 (l3 (mn)), .int .i64 (ms), .bool xb, .int .u64 (l0 (xn)), .int .u64 (l1 (xn)), .int .u64 (l2 (xn)), .int .u64 (l3 (xn)), .int .i64 (xs)] [.int .i64 (w64 (r + r2)), .int .i64 (w64 (f + f2)), .int .i64 (w64 (k + kb)), .int .i64 (w64 (d + d2)), .int .i64 (les er e2), .int .u64 (l0 (tt + tt2)), .int .u64 (l1 (tt + tt2)), .int .u64 (l2 (tt + tt2)), .int .u64 (l3 (tt + tt2)), .int .u64 (l4 (tt + tt2)), .bool true, .bool mb, .int .u64 (l0 (mn)), .int .u64 (l1 (mn)), .int .u64 (l2 (mn)), .int .u64 (l3 (mn)), .int .i64 (ms), .bool xb2, .int .u64 (l0 (xn2)), .int .u64 (l1 (xn2)), .int .u64 (l2 (xn2)), .int .u64 (l3 (xn2)), .int .i64 (xs2)] Q4 rfl rfl rfl rfl rfl sz26 rfl rfl rfl ?_
            intro w55 hS Qn
            replace Q4 := Qn
            clear Qn
            replace Q1 := hS.other _ _ ne_k1_k4 Q1
            replace Q2 := hS.other _ _ ne_k2_k4 Q2
            replace Q3 := hS.other _ _ ne_k3_k4 Q3
            replace M := hS.mo _ N_k4 M
            clear hS
            refine w_nil ?_
            refine xn_then ?_
            refine w_reg ?_
            refine wl_un (fun v => Instr.fieldAt 33 v 6) (.tmp 5) (pt k4 0) (pt k4 10) (fun _ => rfl) g5 (by kernel_rfl) rfl ?_
            refine wl_st1 4 (.tmp 92) (.const (.bool true)) k4 10 (.bool true) [.int .i64 (w64 (r + r2)), .int .i64 (w64 (f + f2)), .int .i64 (w64 (k + kb)), .int .i64 (w64 (d + d2)), .int .i64 (les er e2), .int .u64 (l0 (tt + tt2)), .int .u64 (l1 (tt + tt2)), .int .u64 (l2 (tt + tt2)), .int .u64 (l3 (tt + tt2)), .int .u64 (l4 (tt + tt2)), .bool true, .bool mb, .int .u64 (l0 (mn)), .int .u64 (l1 (mn)), .int .u64 (l2 (mn)), .int .u64 (l3 (mn)), .int .i64 (ms), .bool xb2, .int .u64 (l0 (xn2)), .int .u64 (l1 (xn2)), .int .u64 (l2 (xn2)), .int .u64 (l3 (xn2)), .int .i64 (xs2)] [.int .i64 (w64 (r + r2)), .int .i64 (w64 (f + f2)), .int .i64 (w64 (k + kb)), .int .i64 (w64 (d + d2)), .int .i64 (les er e2), .int .u64 (l0 (tt + tt2)), .int .u64 (l1 (tt + tt2)), .int .u64 (l2 (tt + tt2)), .int .u64 (l3 (tt + tt2)), .int .u64 (l4 (tt + tt2)), .bool true, .bool mb, .int .u64 (l0 (mn)), .int .u64 (l1 (mn)), .int .u64 (l2 (mn)), .int .u64 (l3 (mn)), .int .i64 (ms), .bool xb2, .int .u64 (l0 (xn2)), .int .u64 (l1 (xn2)), .int .u64 (l2 (xn2)), .int .u64 (l3 (xn2)), .int .i64 (xs2)] Q4 rfl rfl rfl rfl rfl sz4 rfl rfl rfl rfl ?_
            intro w56 hS Qn
            replace Q4 := Qn
            clear Qn
            replace Q1 := hS.other _ _ ne_k1_k4 Q1
            replace Q2 := hS.other _ _ ne_k2_k4 Q2
            replace Q3 := hS.other _ _ ne_k3_k4 Q3
            replace M := hS.mo _ N_k4 M
            clear hS
            refine w_nil ?_
            refine xn_then ?_
            refine w_seq ?_
            refine w_reg ?_
            refine wl_load 33 (.tmp 5) (pt k4 0) (.agg #[.int .i64 (w64 (r + r2)), .int .i64 (w64 (f + f2)), .int .i64 (w64 (k + kb)), .int .i64 (w64 (d + d2)), .int .i64 (les er e2), .int .u64 (l0 (tt + tt2)), .int .u64 (l1 (tt + tt2)), .int .u64 (l2 (tt + tt2)), .int .u64 (l3 (tt + tt2)), .int .u64 (l4 (tt + tt2)), .bool true, .bool mb, .int .u64 (l0 (mn)), .int .u64 (l1 (mn)), .int .u64 (l2 (mn)), .int .u64 (l3 (mn)), .int .i64 (ms), .bool xb2, .int .u64 (l0 (xn2)), .int .u64 (l1 (xn2)), .int .u64 (l2 (xn2)), .int .u64 (l3 (xn2)), .int .i64 (xs2)]) rfl g5 (run_row Q4 33 0 23 [.int .i64 (w64 (r + r2)), .int .i64 (w64 (f + f2)), .int .i64 (w64 (k + kb)), .int .i64 (w64 (d + d2)), .int .i64 (les er e2), .int .u64 (l0 (tt + tt2)), .int .u64 (l1 (tt + tt2)), .int .u64 (l2 (tt + tt2)), .int .u64 (l3 (tt + tt2)), .int .u64 (l4 (tt + tt2)), .bool true, .bool mb, .int .u64 (l0 (mn)), .int .u64 (l1 (mn)), .int .u64 (l2 (mn)), .int .u64 (l3 (mn)), .int .i64 (ms), .bool xb2, .int .u64 (l0 (xn2)), .int .u64 (l1 (xn2)), .int .u64 (l2 (xn2)), .int .u64 (l3 (xn2)), .int .i64 (xs2)] rfl Try.underlying33 rfl sz33) rfl ?_
            refine wl_st 33 (.tmp 4) (.tmp 93) k3 0 #[.int .i64 (w64 (r + r2)), .int .i64 (w64 (f + f2)), .int .i64 (w64 (k + kb)), .int .i64 (w64 (d + d2)), .int .i64 (les er e2), .int .u64 (l0 (tt + tt2)), .int .u64 (l1 (tt + tt2)), .int .u64 (l2 (tt + tt2)), .int .u64 (l3 (tt + tt2)), .int .u64 (l4 (tt + tt2)), .bool true, .bool mb, .int .u64 (l0 (mn)), .int .u64 (l1 (mn)), .int .u64 (l2 (mn)), .int .u64 (l3 (mn)), .int .i64 (ms), .bool xb2, .int .u64 (l0 (xn2)), .int .u64 (l1 (xn2)), .int .u64 (l2 (xn2)), .int .u64 (l3 (xn2)), .int .i64 (xs2)] [.int .i64 0, .int .i64 0, .int .i64 0, .int .i64 0, .int .i64 0, .int .u64 0, .int .u64 0, .int .u64 0, .int .u64 0, .int .u64 0, .bool false, .bool false, .int .u64 0, .int .u64 0, .int .u64 0, .int .u64 0, .int .i64 0, .bool false, .int .u64 0, .int .u64 0, .int .u64 0, .int .u64 0, .int .i64 0] [.int .i64 (w64 (r + r2)), .int .i64 (w64 (f + f2)), .int .i64 (w64 (k + kb)), .int .i64 (w64 (d + d2)), .int .i64 (les er e2), .int .u64 (l0 (tt + tt2)), .int .u64 (l1 (tt + tt2)), .int .u64 (l2 (tt + tt2)), .int .u64 (l3 (tt + tt2)), .int .u64 (l4 (tt + tt2)), .bool true, .bool mb, .int .u64 (l0 (mn)), .int .u64 (l1 (mn)), .int .u64 (l2 (mn)), .int .u64 (l3 (mn)), .int .i64 (ms), .bool xb2, .int .u64 (l0 (xn2)), .int .u64 (l1 (xn2)), .int .u64 (l2 (xn2)), .int .u64 (l3 (xn2)), .int .i64 (xs2)] Q3 rfl rfl g4 rfl rfl sz33 rfl rfl rfl ?_
            intro w57 hS Qn
            replace Q3 := Qn
            clear Qn
            replace Q1 := hS.other _ _ ne_k1_k3 Q1
            replace Q2 := hS.other _ _ ne_k2_k3 Q2
            replace Q4 := hS.other _ _ ne_k3_k4.symm Q4
            replace M := hS.mo _ N_k3 M
            clear hS
            refine w_nil ?_
            refine xn_then ?_
            refine w_ret ?_
            exact w_ret1 _ (.agg #[.int .i64 (w64 (r + r2)), .int .i64 (w64 (f + f2)), .int .i64 (w64 (k + kb)), .int .i64 (w64 (d + d2)), .int .i64 (les er e2), .int .u64 (l0 (tt + tt2)), .int .u64 (l1 (tt + tt2)), .int .u64 (l2 (tt + tt2)), .int .u64 (l3 (tt + tt2)), .int .u64 (l4 (tt + tt2)), .bool true, .bool mb, .int .u64 (l0 (mn)), .int .u64 (l1 (mn)), .int .u64 (l2 (mn)), .int .u64 (l3 (mn)), .int .i64 (ms), .bool xb2, .int .u64 (l0 (xn2)), .int .u64 (l1 (xn2)), .int .u64 (l2 (xn2)), .int .u64 (l3 (xn2)), .int .i64 (xs2)]) rfl ⟨k3, g4, (run_row Q3 33 0 23 [.int .i64 (w64 (r + r2)), .int .i64 (w64 (f + f2)), .int .i64 (w64 (k + kb)), .int .i64 (w64 (d + d2)), .int .i64 (les er e2), .int .u64 (l0 (tt + tt2)), .int .u64 (l1 (tt + tt2)), .int .u64 (l2 (tt + tt2)), .int .u64 (l3 (tt + tt2)), .int .u64 (l4 (tt + tt2)), .bool true, .bool mb, .int .u64 (l0 (mn)), .int .u64 (l1 (mn)), .int .u64 (l2 (mn)), .int .u64 (l3 (mn)), .int .i64 (ms), .bool xb2, .int .u64 (l0 (xn2)), .int .u64 (l1 (xn2)), .int .u64 (l2 (xn2)), .int .u64 (l3 (xn2)), .int .i64 (xs2)] rfl Try.underlying33 rfl sz33)⟩ ⟨by unfold jn str; simp only [if_true, if_neg hf20p, if_pos hf21p], M⟩
          | false =>
            have hf21p := of_decide_eq_false hf21
            refine w_reg ?_
            refine wl_un (fun v => Instr.fieldAt 33 v 6) (.tmp 2) (pt k1 0) (pt k1 10) (fun _ => rfl) g2 (by kernel_rfl) rfl ?_
            refine wl_load 4 (.tmp 78) (pt k1 10) (.bool true) rfl rfl (run_one Q1 4 10 rfl Try.underlying4 rfl) rfl ?_
            refine wl_un (fun v => Op.unary .not v) (.tmp 79) (.bool true) (.bool false) (fun _ => rfl) rfl (by kernel_rfl) rfl ?_
            refine wl_mv (.tmp 80) (.bool false) (fun _ => rfl) rfl rfl ?_
            refine wl_un (fun v => Instr.fieldAt 33 v 8) (.tmp 3) (pt k2 0) (pt k2 17) (fun _ => rfl) g3 (by kernel_rfl) rfl ?_
            refine wl_load 26 (.tmp 82) (pt k2 17) (.agg #[.bool xb2, .int .u64 (l0 (xn2)), .int .u64 (l1 (xn2)), .int .u64 (l2 (xn2)), .int .u64 (l3 (xn2)), .int .i64 (xs2)]) rfl rfl (run_row Q2 26 17 6 [.bool xb2, .int .u64 (l0 (xn2)), .int .u64 (l1 (xn2)), .int .u64 (l2 (xn2)), .int .u64 (l3 (xn2)), .int .i64 (xs2)] rfl Try.underlying26 rfl sz26) rfl ?_
            refine wl_un (fun v => Instr.fieldAt 33 v 8) (.tmp 2) (pt k1 0) (pt k1 17) (fun _ => rfl) g2 (by kernel_rfl) rfl ?_
            refine wl_load 26 (.tmp 84) (pt k1 17) (.agg #[.bool xb, .int .u64 (l0 (xn)), .int .u64 (l1 (xn)), .int .u64 (l2 (xn)), .int .u64 (l3 (xn)), .int .i64 (xs)]) rfl rfl (run_row Q1 26 17 6 [.bool xb, .int .u64 (l0 (xn)), .int .u64 (l1 (xn)), .int .u64 (l2 (xn)), .int .u64 (l3 (xn)), .int .i64 (xs)] rfl Try.underlying26 rfl sz26) rfl ?_
            refine wl_call 42 [(.tmp 83), (.tmp 85)] _ [.agg #[.bool xb2, .int .u64 (l0 (xn2)), .int .u64 (l1 (xn2)), .int .u64 (l2 (xn2)), .int .u64 (l3 (xn2)), .int .i64 (xs2)], .agg #[.bool xb, .int .u64 (l0 (xn)), .int .u64 (l1 (xn)), .int .u64 (l2 (xn)), .int .u64 (l3 (xn)), .int .i64 (xs)]] (.int .i64 (cmpv ⟨xb2, xn2, xs2⟩ ⟨xb, xn, xs⟩)) rfl rfl (fun _ _ => by kernel_rfl) (rcmp_d ⟨xb2, xn2, xs2⟩ ⟨xb, xn, xs⟩ hx2 hx _) rfl ?_
            intro w54 hq
            replace Q1 := Q1.mo hq
            replace Q2 := Q2.mo hq
            replace Q3 := Q3.mo hq
            replace Q4 := Q4.mo hq
            replace M := M.trans hq
            clear hq
            refine wl_bin (fun x y => do eqGuard .gtr 3 (.tmp 86) (.const (.int .i64 (0))) x y; binOp .gtr 3 x y) (.tmp 86) (.const (.int .i64 (0))) (.int .i64 (cmpv ⟨xb2, xn2, xs2⟩ ⟨xb, xn, xs⟩)) (.int .i64 (0)) (.bool false) (fun _ => rfl) rfl rfl (gtI hf21 _ _ _) rfl ?_
            refine wl_pick (.tmp 81) (.const (.bool true)) (.tmp 87) false (.bool false) (fun _ => rfl) rfl rfl rfl ?_
            refine w_nil ?_
            refine xn_then ?_
            refine w_condF rfl ?_
            refine w_skip ?_
            refine xn_then ?_
            refine w_reg ?_
            refine wl_un (fun v => Instr.fieldAt 33 v 6) (.tmp 5) (pt k4 0) (pt k4 10) (fun _ => rfl) g5 (by kernel_rfl) rfl ?_
            refine wl_st1 4 (.tmp 92) (.const (.bool true)) k4 10 (.bool true) [.int .i64 (w64 (r + r2)), .int .i64 (w64 (f + f2)), .int .i64 (w64 (k + kb)), .int .i64 (w64 (d + d2)), .int .i64 (les er e2), .int .u64 (l0 (tt + tt2)), .int .u64 (l1 (tt + tt2)), .int .u64 (l2 (tt + tt2)), .int .u64 (l3 (tt + tt2)), .int .u64 (l4 (tt + tt2)), .bool true, .bool mb, .int .u64 (l0 (mn)), .int .u64 (l1 (mn)), .int .u64 (l2 (mn)), .int .u64 (l3 (mn)), .int .i64 (ms), .bool xb, .int .u64 (l0 (xn)), .int .u64 (l1 (xn)), .int .u64 (l2 (xn)), .int .u64 (l3 (xn)), .int .i64 (xs)] [.int .i64 (w64 (r + r2)), .int .i64 (w64 (f + f2)), .int .i64 (w64 (k + kb)), .int .i64 (w64 (d + d2)), .int .i64 (les er e2), .int .u64 (l0 (tt + tt2)), .int .u64 (l1 (tt + tt2)), .int .u64 (l2 (tt + tt2)), .int .u64 (l3 (tt + tt2)), .int .u64 (l4 (tt + tt2)), .bool true, .bool mb, .int .u64 (l0 (mn)), .int .u64 (l1 (mn)), .int .u64 (l2 (mn)), .int .u64 (l3 (mn)), .int .i64 (ms), .bool xb, .int .u64 (l0 (xn)), .int .u64 (l1 (xn)), .int .u64 (l2 (xn)), .int .u64 (l3 (xn)), .int .i64 (xs)] Q4 rfl rfl rfl rfl rfl sz4 rfl rfl rfl rfl ?_
            intro w55 hS Qn
            replace Q4 := Qn
            clear Qn
            replace Q1 := hS.other _ _ ne_k1_k4 Q1
            replace Q2 := hS.other _ _ ne_k2_k4 Q2
            replace Q3 := hS.other _ _ ne_k3_k4 Q3
            replace M := hS.mo _ N_k4 M
            clear hS
            refine w_nil ?_
            refine xn_then ?_
            refine w_seq ?_
            refine w_reg ?_
            refine wl_load 33 (.tmp 5) (pt k4 0) (.agg #[.int .i64 (w64 (r + r2)), .int .i64 (w64 (f + f2)), .int .i64 (w64 (k + kb)), .int .i64 (w64 (d + d2)), .int .i64 (les er e2), .int .u64 (l0 (tt + tt2)), .int .u64 (l1 (tt + tt2)), .int .u64 (l2 (tt + tt2)), .int .u64 (l3 (tt + tt2)), .int .u64 (l4 (tt + tt2)), .bool true, .bool mb, .int .u64 (l0 (mn)), .int .u64 (l1 (mn)), .int .u64 (l2 (mn)), .int .u64 (l3 (mn)), .int .i64 (ms), .bool xb, .int .u64 (l0 (xn)), .int .u64 (l1 (xn)), .int .u64 (l2 (xn)), .int .u64 (l3 (xn)), .int .i64 (xs)]) rfl g5 (run_row Q4 33 0 23 [.int .i64 (w64 (r + r2)), .int .i64 (w64 (f + f2)), .int .i64 (w64 (k + kb)), .int .i64 (w64 (d + d2)), .int .i64 (les er e2), .int .u64 (l0 (tt + tt2)), .int .u64 (l1 (tt + tt2)), .int .u64 (l2 (tt + tt2)), .int .u64 (l3 (tt + tt2)), .int .u64 (l4 (tt + tt2)), .bool true, .bool mb, .int .u64 (l0 (mn)), .int .u64 (l1 (mn)), .int .u64 (l2 (mn)), .int .u64 (l3 (mn)), .int .i64 (ms), .bool xb, .int .u64 (l0 (xn)), .int .u64 (l1 (xn)), .int .u64 (l2 (xn)), .int .u64 (l3 (xn)), .int .i64 (xs)] rfl Try.underlying33 rfl sz33) rfl ?_
            refine wl_st 33 (.tmp 4) (.tmp 93) k3 0 #[.int .i64 (w64 (r + r2)), .int .i64 (w64 (f + f2)), .int .i64 (w64 (k + kb)), .int .i64 (w64 (d + d2)), .int .i64 (les er e2), .int .u64 (l0 (tt + tt2)), .int .u64 (l1 (tt + tt2)), .int .u64 (l2 (tt + tt2)), .int .u64 (l3 (tt + tt2)), .int .u64 (l4 (tt + tt2)), .bool true, .bool mb, .int .u64 (l0 (mn)), .int .u64 (l1 (mn)), .int .u64 (l2 (mn)), .int .u64 (l3 (mn)), .int .i64 (ms), .bool xb, .int .u64 (l0 (xn)), .int .u64 (l1 (xn)), .int .u64 (l2 (xn)), .int .u64 (l3 (xn)), .int .i64 (xs)] [.int .i64 0, .int .i64 0, .int .i64 0, .int .i64 0, .int .i64 0, .int .u64 0, .int .u64 0, .int .u64 0, .int .u64 0, .int .u64 0, .bool false, .bool false, .int .u64 0, .int .u64 0, .int .u64 0, .int .u64 0, .int .i64 0, .bool false, .int .u64 0, .int .u64 0, .int .u64 0, .int .u64 0, .int .i64 0] [.int .i64 (w64 (r + r2)), .int .i64 (w64 (f + f2)), .int .i64 (w64 (k + kb)), .int .i64 (w64 (d + d2)), .int .i64 (les er e2), .int .u64 (l0 (tt + tt2)), .int .u64 (l1 (tt + tt2)), .int .u64 (l2 (tt + tt2)), .int .u64 (l3 (tt + tt2)), .int .u64 (l4 (tt + tt2)), .bool true, .bool mb, .int .u64 (l0 (mn)), .int .u64 (l1 (mn)), .int .u64 (l2 (mn)), .int .u64 (l3 (mn)), .int .i64 (ms), .bool xb, .int .u64 (l0 (xn)), .int .u64 (l1 (xn)), .int .u64 (l2 (xn)), .int .u64 (l3 (xn)), .int .i64 (xs)] Q3 rfl rfl g4 rfl rfl sz33 rfl rfl rfl ?_
            intro w56 hS Qn
            replace Q3 := Qn
            clear Qn
            replace Q1 := hS.other _ _ ne_k1_k3 Q1
            replace Q2 := hS.other _ _ ne_k2_k3 Q2
            replace Q4 := hS.other _ _ ne_k3_k4.symm Q4
            replace M := hS.mo _ N_k3 M
            clear hS
            refine w_nil ?_
            refine xn_then ?_
            refine w_ret ?_
            exact w_ret1 _ (.agg #[.int .i64 (w64 (r + r2)), .int .i64 (w64 (f + f2)), .int .i64 (w64 (k + kb)), .int .i64 (w64 (d + d2)), .int .i64 (les er e2), .int .u64 (l0 (tt + tt2)), .int .u64 (l1 (tt + tt2)), .int .u64 (l2 (tt + tt2)), .int .u64 (l3 (tt + tt2)), .int .u64 (l4 (tt + tt2)), .bool true, .bool mb, .int .u64 (l0 (mn)), .int .u64 (l1 (mn)), .int .u64 (l2 (mn)), .int .u64 (l3 (mn)), .int .i64 (ms), .bool xb, .int .u64 (l0 (xn)), .int .u64 (l1 (xn)), .int .u64 (l2 (xn)), .int .u64 (l3 (xn)), .int .i64 (xs)]) rfl ⟨k3, g4, (run_row Q3 33 0 23 [.int .i64 (w64 (r + r2)), .int .i64 (w64 (f + f2)), .int .i64 (w64 (k + kb)), .int .i64 (w64 (d + d2)), .int .i64 (les er e2), .int .u64 (l0 (tt + tt2)), .int .u64 (l1 (tt + tt2)), .int .u64 (l2 (tt + tt2)), .int .u64 (l3 (tt + tt2)), .int .u64 (l4 (tt + tt2)), .bool true, .bool mb, .int .u64 (l0 (mn)), .int .u64 (l1 (mn)), .int .u64 (l2 (mn)), .int .u64 (l3 (mn)), .int .i64 (ms), .bool xb, .int .u64 (l0 (xn)), .int .u64 (l1 (xn)), .int .u64 (l2 (xn)), .int .u64 (l3 (xn)), .int .i64 (xs)] rfl Try.underlying33 rfl sz33)⟩ ⟨by unfold jn str; simp only [if_true, if_neg hf20p, if_neg hf21p], M⟩
      | false =>
        refine w_condF rfl ?_
        refine w_skip ?_
        refine xn_then ?_
        refine w_seq ?_
        refine w_reg ?_
        refine wl_load 33 (.tmp 5) (pt k4 0) (.agg #[.int .i64 (w64 (r + r2)), .int .i64 (w64 (f + f2)), .int .i64 (w64 (k + kb)), .int .i64 (w64 (d + d2)), .int .i64 (les er e2), .int .u64 (l0 (tt + tt2)), .int .u64 (l1 (tt + tt2)), .int .u64 (l2 (tt + tt2)), .int .u64 (l3 (tt + tt2)), .int .u64 (l4 (tt + tt2)), .bool true, .bool mb, .int .u64 (l0 (mn)), .int .u64 (l1 (mn)), .int .u64 (l2 (mn)), .int .u64 (l3 (mn)), .int .i64 (ms), .bool xb, .int .u64 (l0 (xn)), .int .u64 (l1 (xn)), .int .u64 (l2 (xn)), .int .u64 (l3 (xn)), .int .i64 (xs)]) rfl g5 (run_row Q4 33 0 23 [.int .i64 (w64 (r + r2)), .int .i64 (w64 (f + f2)), .int .i64 (w64 (k + kb)), .int .i64 (w64 (d + d2)), .int .i64 (les er e2), .int .u64 (l0 (tt + tt2)), .int .u64 (l1 (tt + tt2)), .int .u64 (l2 (tt + tt2)), .int .u64 (l3 (tt + tt2)), .int .u64 (l4 (tt + tt2)), .bool true, .bool mb, .int .u64 (l0 (mn)), .int .u64 (l1 (mn)), .int .u64 (l2 (mn)), .int .u64 (l3 (mn)), .int .i64 (ms), .bool xb, .int .u64 (l0 (xn)), .int .u64 (l1 (xn)), .int .u64 (l2 (xn)), .int .u64 (l3 (xn)), .int .i64 (xs)] rfl Try.underlying33 rfl sz33) rfl ?_
        refine wl_st 33 (.tmp 4) (.tmp 93) k3 0 #[.int .i64 (w64 (r + r2)), .int .i64 (w64 (f + f2)), .int .i64 (w64 (k + kb)), .int .i64 (w64 (d + d2)), .int .i64 (les er e2), .int .u64 (l0 (tt + tt2)), .int .u64 (l1 (tt + tt2)), .int .u64 (l2 (tt + tt2)), .int .u64 (l3 (tt + tt2)), .int .u64 (l4 (tt + tt2)), .bool true, .bool mb, .int .u64 (l0 (mn)), .int .u64 (l1 (mn)), .int .u64 (l2 (mn)), .int .u64 (l3 (mn)), .int .i64 (ms), .bool xb, .int .u64 (l0 (xn)), .int .u64 (l1 (xn)), .int .u64 (l2 (xn)), .int .u64 (l3 (xn)), .int .i64 (xs)] [.int .i64 0, .int .i64 0, .int .i64 0, .int .i64 0, .int .i64 0, .int .u64 0, .int .u64 0, .int .u64 0, .int .u64 0, .int .u64 0, .bool false, .bool false, .int .u64 0, .int .u64 0, .int .u64 0, .int .u64 0, .int .i64 0, .bool false, .int .u64 0, .int .u64 0, .int .u64 0, .int .u64 0, .int .i64 0] [.int .i64 (w64 (r + r2)), .int .i64 (w64 (f + f2)), .int .i64 (w64 (k + kb)), .int .i64 (w64 (d + d2)), .int .i64 (les er e2), .int .u64 (l0 (tt + tt2)), .int .u64 (l1 (tt + tt2)), .int .u64 (l2 (tt + tt2)), .int .u64 (l3 (tt + tt2)), .int .u64 (l4 (tt + tt2)), .bool true, .bool mb, .int .u64 (l0 (mn)), .int .u64 (l1 (mn)), .int .u64 (l2 (mn)), .int .u64 (l3 (mn)), .int .i64 (ms), .bool xb, .int .u64 (l0 (xn)), .int .u64 (l1 (xn)), .int .u64 (l2 (xn)), .int .u64 (l3 (xn)), .int .i64 (xs)] Q3 rfl rfl g4 rfl rfl sz33 rfl rfl rfl ?_
        intro w53 hS Qn
        replace Q3 := Qn
        clear Qn
        replace Q1 := hS.other _ _ ne_k1_k3 Q1
        replace Q2 := hS.other _ _ ne_k2_k3 Q2
        replace Q4 := hS.other _ _ ne_k3_k4.symm Q4
        replace M := hS.mo _ N_k3 M
        clear hS
        refine w_nil ?_
        refine xn_then ?_
        refine w_ret ?_
        exact w_ret1 _ (.agg #[.int .i64 (w64 (r + r2)), .int .i64 (w64 (f + f2)), .int .i64 (w64 (k + kb)), .int .i64 (w64 (d + d2)), .int .i64 (les er e2), .int .u64 (l0 (tt + tt2)), .int .u64 (l1 (tt + tt2)), .int .u64 (l2 (tt + tt2)), .int .u64 (l3 (tt + tt2)), .int .u64 (l4 (tt + tt2)), .bool true, .bool mb, .int .u64 (l0 (mn)), .int .u64 (l1 (mn)), .int .u64 (l2 (mn)), .int .u64 (l3 (mn)), .int .i64 (ms), .bool xb, .int .u64 (l0 (xn)), .int .u64 (l1 (xn)), .int .u64 (l2 (xn)), .int .u64 (l3 (xn)), .int .i64 (xs)]) rfl ⟨k3, g4, (run_row Q3 33 0 23 [.int .i64 (w64 (r + r2)), .int .i64 (w64 (f + f2)), .int .i64 (w64 (k + kb)), .int .i64 (w64 (d + d2)), .int .i64 (les er e2), .int .u64 (l0 (tt + tt2)), .int .u64 (l1 (tt + tt2)), .int .u64 (l2 (tt + tt2)), .int .u64 (l3 (tt + tt2)), .int .u64 (l4 (tt + tt2)), .bool true, .bool mb, .int .u64 (l0 (mn)), .int .u64 (l1 (mn)), .int .u64 (l2 (mn)), .int .u64 (l3 (mn)), .int .i64 (ms), .bool xb, .int .u64 (l0 (xn)), .int .u64 (l1 (xn)), .int .u64 (l2 (xn)), .int .u64 (l3 (xn)), .int .i64 (xs)] rfl Try.underlying33 rfl sz33)⟩ ⟨rfl, M⟩
    | false =>
      refine w_reg ?_
      refine wl_un (fun v => Instr.fieldAt 33 v 6) (.tmp 2) (pt k1 0) (pt k1 10) (fun _ => rfl) g2 (by kernel_rfl) rfl ?_
      refine wl_load 4 (.tmp 55) (pt k1 10) (.bool false) rfl rfl (run_one Q1 4 10 rfl Try.underlying4 rfl) rfl ?_
      refine wl_un (fun v => Op.unary .not v) (.tmp 56) (.bool false) (.bool true) (fun _ => rfl) rfl (by kernel_rfl) rfl ?_
      refine w_nil ?_
      refine xn_then ?_
      refine w_condT rfl ?_
      refine w_reg ?_
      refine wl_build 26 [] [] (.agg #[.bool false, .int .u64 0, .int .u64 0, .int .u64 0, .int .u64 0, .int .i64 0]) rfl rfl (by kernel_rfl) rfl ?_
      refine wl_build 26 [] [] (.agg #[.bool false, .int .u64 0, .int .u64 0, .int .u64 0, .int .u64 0, .int .i64 0]) rfl rfl (by kernel_rfl) rfl ?_
      refine wl_un (fun v => Instr.fieldAt 33 v 7) (.tmp 5) (pt k4 0) (pt k4 11) (fun _ => rfl) g5 (by kernel_rfl) rfl ?_
      refine wl_st 26 (.tmp 60) (.tmp 58) k4 11 #[.bool false, .int .u64 0, .int .u64 0, .int .u64 0, .int .u64 0, .int .i64 0] [.int .i64 (w64 (r + r2)), .int .i64 (w64 (f + f2)), .int .i64 (w64 (k + kb)), .int .i64 (w64 (d + d2)), .int .i64 (les er e2), .int .u64 (l0 (tt + tt2)), .int .u64 (l1 (tt + tt2)), .int .u64 (l2 (tt + tt2)), .int .u64 (l3 (tt + tt2)), .int .u64 (l4 (tt + tt2)), .bool false, .bool mb, .int .u64 (l0 (mn)), .int .u64 (l1 (mn)), .int .u64 (l2 (mn)), .int .u64 (l3 (mn)), .int .i64 (ms), .bool xb, .int .u64 (l0 (xn)), .int .u64 (l1 (xn)), .int .u64 (l2 (xn)), .int .u64 (l3 (xn)), .int .i64 (xs)] [.int .i64 (w64 (r + r2)), .int .i64 (w64 (f + f2)), .int .i64 (w64 (k + kb)), .int .i64 (w64 (d + d2)), .int .i64 (les er e2), .int .u64 (l0 (tt + tt2)), .int .u64 (l1 (tt + tt2)), .int .u64 (l2 (tt + tt2)), .int .u64 (l3 (tt + tt2)), .int .u64 (l4 (tt + tt2)), .bool false, .bool false, .int .u64 0, .int .u64 0, .int .u64 0, .int .u64 0, .int .i64 0, .bool xb, .int .u64 (l0 (xn)), .int .u64 (l1 (xn)), .int .u64 (l2 (xn)), .int .u64 (l3 (xn)), .int .i64 (xs)] Q4 rfl rfl rfl rfl rfl sz26 rfl rfl rfl ?_
      intro w53 hS Qn
      replace Q4 := Qn
      clear Qn
      replace Q1 := hS.other _ _ ne_k1_k4 Q1
      replace Q2 := hS.other _ _ ne_k2_k4 Q2
      replace Q3 := hS.other _ _ ne_k3_k4 Q3
      replace M := hS.mo _ N_k4 M
      clear hS
      refine wl_un (fun v => Instr.fieldAt 33 v 8) (.tmp 5) (pt k4 0) (pt k4 17) (fun _ => rfl) g5 (by kernel_rfl) rfl ?_
      refine wl_st 26 (.tmp 61) (.tmp 59) k4 17 #[.bool false, .int .u64 0, .int .u64 0, .int .u64 0, .int .u64 0, .int .i64 0] [.int .i64 (w64 (r + r2)), .int .i64 (w64 (f + f2)), .int .i64 (w64 (k + kb)), .int .i64 (w64 (d + d2)), .int .i64 (les er e2), .int .u64 (l0 (tt + tt2)), .int .u64 (l1 (tt + tt2)), .int .u64 (l2 (tt + tt2)), .int .u64 (l3 (tt + tt2)), .int .u64 (l4 (tt + tt2)), .bool false, .bool false, .int .u64 0, .int .u64 0, .int .u64 0, .int .u64 0, .int .i64 0, .bool xb, .int .u64 (l0 (xn)), .int .u64 (l1 (xn)), .int .u64 (l2 (xn)), .int .u64 (l3 (xn)), .int .i64 (xs)] [.int .i64 (w64 (r + r2)), .int .i64 (w64 (f + f2)), .int .i64 (w64 (k + kb)), .int .i64 (w64 (d + d2)), .int .i64 (les er e2), .int .u64 (l0 (tt + tt2)), .int .u64 (l1 (tt + tt2)), .int .u64 (l2 (tt + tt2)), .int .u64 (l3 (tt + tt2)), .int .u64 (l4 (tt + tt2)), .bool false, .bool false, .int .u64 0, .int .u64 0, .int .u64 0, .int .u64 0, .int .i64 0, .bool false, .int .u64 0, .int .u64 0, .int .u64 0, .int .u64 0, .int .i64 0] Q4 rfl rfl rfl rfl rfl sz26 rfl rfl rfl ?_
      intro w54 hS Qn
      replace Q4 := Qn
      clear Qn
      replace Q1 := hS.other _ _ ne_k1_k4 Q1
      replace Q2 := hS.other _ _ ne_k2_k4 Q2
      replace Q3 := hS.other _ _ ne_k3_k4 Q3
      replace M := hS.mo _ N_k4 M
      clear hS
      refine w_nil ?_
      refine xn_then ?_
      refine w_seq ?_
      refine w_seq ?_
      refine w_reg ?_
      refine wl_un (fun v => Instr.fieldAt 33 v 6) (.tmp 3) (pt k2 0) (pt k2 10) (fun _ => rfl) g3 (by kernel_rfl) rfl ?_
      refine wl_load 4 (.tmp 62) (pt k2 10) (.bool so2) rfl rfl (run_one Q2 4 10 rfl Try.underlying4 rfl) rfl ?_
      refine w_nil ?_
      refine xn_then ?_
      cases so2 with
      | true =>
        refine w_condT rfl ?_
        refine w_seq ?_
        refine w_seq ?_
        refine w_reg ?_
        refine wl_un (fun v => Instr.fieldAt 33 v 6) (.tmp 2) (pt k1 0) (pt k1 10) (fun _ => rfl) g2 (by kernel_rfl) rfl ?_
        refine wl_load 4 (.tmp 64) (pt k1 10) (.bool false) rfl rfl (run_one Q1 4 10 rfl Try.underlying4 rfl) rfl ?_
        refine wl_un (fun v => Op.unary .not v) (.tmp 65) (.bool false) (.bool true) (fun _ => rfl) rfl (by kernel_rfl) rfl ?_
        refine wl_mv (.tmp 66) (.bool true) (fun _ => rfl) rfl rfl ?_
        refine wl_skip rfl ?_
        refine wl_skip rfl ?_
        refine wl_skip rfl ?_
        refine wl_skip rfl ?_
        refine wl_skip rfl ?_
        refine wl_skip rfl ?_
        refine wl_pick (.tmp 67) (.const (.bool true)) (.tmp 73) true (.bool true) (fun _ => rfl) rfl rfl rfl ?_
        refine w_nil ?_
        refine xn_then ?_
        refine w_condT rfl ?_
        refine w_reg ?_
        refine wl_un (fun v => Instr.fieldAt 33 v 7) (.tmp 3) (pt k2 0) (pt k2 11) (fun _ => rfl) g3 (by kernel_rfl) rfl ?_
        refine wl_load 26 (.tmp 75) (pt k2 11) (.agg #[.bool mb2, .int .u64 (l0 (mn2)), .int .u64 (l1 (mn2)), .int .u64 (l2 (mn2)), .int .u64 (l3 (mn2)), .int .i64 (ms2)]) rfl rfl (run_row Q2 26 11 6 [.bool mb2, .int .u64 (l0 (mn2)), .int .u64 (l1 (mn2)), .int .u64 (l2 (mn2)), .int .u64 (l3 (mn2)), .int .i64 (ms2)] rfl Try.underlying26 rfl sz26) rfl ?_
        refine wl_un (fun v => Instr.fieldAt 33 v 7) (.tmp 5) (pt k4 0) (pt k4 11) (fun _ => rfl) g5 (by kernel_rfl) rfl ?_
        refine wl_st 26 (.tmp 77) (.tmp 76) k4 11 #[.bool mb2, .int .u64 (l0 (mn2)), .int .u64 (l1 (mn2)), .int .u64 (l2 (mn2)), .int .u64 (l3 (mn2)), .int .i64 (ms2)] [.int .i64 (w64 (r + r2)), .int .i64 (w64 (f + f2)), .int .i64 (w64 (k + kb)), .int .i64 (w64 (d + d2)), .int .i64 (les er e2), .int .u64 (l0 (tt + tt2)), .int .u64 (l1 (tt + tt2)), .int .u64 (l2 (tt + tt2)), .int .u64 (l3 (tt + tt2)), .int .u64 (l4 (tt + tt2)), .bool false, .bool false, .int .u64 0, .int .u64 0, .int .u64 0, .int .u64 0, .int .i64 0, .bool false, .int .u64 0, .int .u64 0, .int .u64 0, .int .u64 0, .int .i64 0] [.int .i64 (w64 (r + r2)), .int .i64 (w64 (f + f2)), .int .i64 (w64 (k + kb)), .int .i64 (w64 (d + d2)), .int .i64 (les er e2), .int .u64 (l0 (tt + tt2)), .int .u64 (l1 (tt + tt2)), .int .u64 (l2 (tt + tt2)), .int .u64 (l3 (tt + tt2)), .int .u64 (l4 (tt + tt2)), .bool false, .bool mb2, .int .u64 (l0 (mn2)), .int .u64 (l1 (mn2)), .int .u64 (l2 (mn2)), .int .u64 (l3 (mn2)), .int .i64 (ms2), .bool false, .int .u64 0, .int .u64 0, .int .u64 0, .int .u64 0, .int .i64 0] Q4 rfl rfl rfl rfl rfl sz26 rfl rfl rfl ?_
        intro w55 hS Qn
        replace Q4 := Qn
        clear Qn
        replace Q1 := hS.other _ _ ne_k1_k4 Q1
        replace Q2 := hS.other _ _ ne_k2_k4 Q2
        replace Q3 := hS.other _ _ ne_k3_k4 Q3
        replace M := hS.mo _ N_k4 M
        clear hS
        refine w_nil ?_
        refine xn_then ?_
        refine w_seq ?_
        refine w_seq ?_
        refine w_reg ?_
        refine wl_un (fun v => Instr.fieldAt 33 v 6) (.tmp 2) (pt k1 0) (pt k1 10) (fun _ => rfl) g2 (by kernel_rfl) rfl ?_
        refine wl_load 4 (.tmp 78) (pt k1 10) (.bool false) rfl rfl (run_one Q1 4 10 rfl Try.underlying4 rfl) rfl ?_
        refine wl_un (fun v => Op.unary .not v) (.tmp 79) (.bool false) (.bool true) (fun _ => rfl) rfl (by kernel_rfl) rfl ?_
        refine wl_mv (.tmp 80) (.bool true) (fun _ => rfl) rfl rfl ?_
        refine wl_skip rfl ?_
        refine wl_skip rfl ?_
        refine wl_skip rfl ?_
        refine wl_skip rfl ?_
        refine wl_skip rfl ?_
        refine wl_skip rfl ?_
        refine wl_pick (.tmp 81) (.const (.bool true)) (.tmp 87) true (.bool true) (fun _ => rfl) rfl rfl rfl ?_
        refine w_nil ?_
        refine xn_then ?_
        refine w_condT rfl ?_
        refine w_reg ?_
        refine wl_un (fun v => Instr.fieldAt 33 v 8) (.tmp 3) (pt k2 0) (pt k2 17) (fun _ => rfl) g3 (by kernel_rfl) rfl ?_
        refine wl_load 26 (.tmp 89) (pt k2 17) (.agg #[.bool xb2, .int .u64 (l0 (xn2)), .int .u64 (l1 (xn2)), .int .u64 (l2 (xn2)), .int .u64 (l3 (xn2)), .int .i64 (xs2)]) rfl rfl (run_row Q2 26 17 6 [.bool xb2, .int .u64 (l0 (xn2)), .int .u64 (l1 (xn2)), .int .u64 (l2 (xn2)), .int .u64 (l3 (xn2)), .int .i64 (xs2)] rfl Try.underlying26 rfl sz26) rfl ?_
        refine wl_un (fun v => Instr.fieldAt 33 v 8) (.tmp 5) (pt k4 0) (pt k4 17) (fun _ => rfl) g5 (by kernel_rfl) rfl ?_
        refine wl_st 26 (.tmp 91) (.tmp 90) k4 17 #[.bool xb2, .int .u64 (l0 (xn2)), .int .u64 (l1 (xn2)), .int .u64 (l2 (xn2)), .int .u64 (l3 (xn2)), .int .i64 (xs2)] [.int .i64 (w64 (r + r2)), .int .i64 (w64 (f + f2)), .int .i64 (w64 (k + kb)), .int .i64 (w64 (d + d2)), .int .i64 (les er e2), .int .u64 (l0 (tt + tt2)), .int .u64 (l1 (tt + tt2)), .int .u64 (l2 (tt + tt2)), .int .u64 (l3 (tt + tt2)), .int .u64 (l4 (tt + tt2)), .bool false, .bool mb2, .int .u64 (l0 (mn2)), .int .u64 (l1 (mn2)), .int .u64 (l2 (mn2)), .int .u64 (l3 (mn2)), .int .i64 (ms2), .bool false, .int .u64 0, .int .u64 0, .int .u64 0, .int .u64 0, .int .i64 0] [.int .i64 (w64 (r + r2)), .int .i64 (w64 (f + f2)), .int .i64 (w64 (k + kb)), .int .i64 (w64 (d + d2)), .int .i64 (les er e2), .int .u64 (l0 (tt + tt2)), .int .u64 (l1 (tt + tt2)), .int .u64 (l2 (tt + tt2)), .int .u64 (l3 (tt + tt2)), .int .u64 (l4 (tt + tt2)), .bool false, .bool mb2, .int .u64 (l0 (mn2)), .int .u64 (l1 (mn2)), .int .u64 (l2 (mn2)), .int .u64 (l3 (mn2)), .int .i64 (ms2), .bool xb2, .int .u64 (l0 (xn2)), .int .u64 (l1 (xn2)), .int .u64 (l2 (xn2)), .int .u64 (l3 (xn2)), .int .i64 (xs2)] Q4 rfl rfl rfl rfl rfl sz26 rfl rfl rfl ?_
        intro w56 hS Qn
        replace Q4 := Qn
        clear Qn
        replace Q1 := hS.other _ _ ne_k1_k4 Q1
        replace Q2 := hS.other _ _ ne_k2_k4 Q2
        replace Q3 := hS.other _ _ ne_k3_k4 Q3
        replace M := hS.mo _ N_k4 M
        clear hS
        refine w_nil ?_
        refine xn_then ?_
        refine w_reg ?_
        refine wl_un (fun v => Instr.fieldAt 33 v 6) (.tmp 5) (pt k4 0) (pt k4 10) (fun _ => rfl) g5 (by kernel_rfl) rfl ?_
        refine wl_st1 4 (.tmp 92) (.const (.bool true)) k4 10 (.bool true) [.int .i64 (w64 (r + r2)), .int .i64 (w64 (f + f2)), .int .i64 (w64 (k + kb)), .int .i64 (w64 (d + d2)), .int .i64 (les er e2), .int .u64 (l0 (tt + tt2)), .int .u64 (l1 (tt + tt2)), .int .u64 (l2 (tt + tt2)), .int .u64 (l3 (tt + tt2)), .int .u64 (l4 (tt + tt2)), .bool false, .bool mb2, .int .u64 (l0 (mn2)), .int .u64 (l1 (mn2)), .int .u64 (l2 (mn2)), .int .u64 (l3 (mn2)), .int .i64 (ms2), .bool xb2, .int .u64 (l0 (xn2)), .int .u64 (l1 (xn2)), .int .u64 (l2 (xn2)), .int .u64 (l3 (xn2)), .int .i64 (xs2)] [.int .i64 (w64 (r + r2)), .int .i64 (w64 (f + f2)), .int .i64 (w64 (k + kb)), .int .i64 (w64 (d + d2)), .int .i64 (les er e2), .int .u64 (l0 (tt + tt2)), .int .u64 (l1 (tt + tt2)), .int .u64 (l2 (tt + tt2)), .int .u64 (l3 (tt + tt2)), .int .u64 (l4 (tt + tt2)), .bool true, .bool mb2, .int .u64 (l0 (mn2)), .int .u64 (l1 (mn2)), .int .u64 (l2 (mn2)), .int .u64 (l3 (mn2)), .int .i64 (ms2), .bool xb2, .int .u64 (l0 (xn2)), .int .u64 (l1 (xn2)), .int .u64 (l2 (xn2)), .int .u64 (l3 (xn2)), .int .i64 (xs2)] Q4 rfl rfl rfl rfl rfl sz4 rfl rfl rfl rfl ?_
        intro w57 hS Qn
        replace Q4 := Qn
        clear Qn
        replace Q1 := hS.other _ _ ne_k1_k4 Q1
        replace Q2 := hS.other _ _ ne_k2_k4 Q2
        replace Q3 := hS.other _ _ ne_k3_k4 Q3
        replace M := hS.mo _ N_k4 M
        clear hS
        refine w_nil ?_
        refine xn_then ?_
        refine w_seq ?_
        refine w_reg ?_
        refine wl_load 33 (.tmp 5) (pt k4 0) (.agg #[.int .i64 (w64 (r + r2)), .int .i64 (w64 (f + f2)), .int .i64 (w64 (k + kb)), .int .i64 (w64 (d + d2)), .int .i64 (les er e2), .int .u64 (l0 (tt + tt2)), .int .u64 (l1 (tt + tt2)), .int .u64 (l2 (tt + tt2)), .int .u64 (l3 (tt + tt2)), .int .u64 (l4 (tt + tt2)), .bool true, .bool mb2, .int .u64 (l0 (mn2)), .int .u64 (l1 (mn2)), .int .u64 (l2 (mn2)), .int .u64 (l3 (mn2)), .int .i64 (ms2), .bool xb2, .int .u64 (l0 (xn2)), .int .u64 (l1 (xn2)), .int .u64 (l2 (xn2)), .int .u64 (l3 (xn2)), .int .i64 (xs2)]) rfl g5 (run_row Q4 33 0 23 [.int .i64 (w64 (r + r2)), .int .i64 (w64 (f + f2)), .int .i64 (w64 (k + kb)), .int .i64 (w64 (d + d2)), .int .i64 (les er e2), .int .u64 (l0 (tt + tt2)), .int .u64 (l1 (tt + tt2)), .int .u64 (l2 (tt + tt2)), .int .u64 (l3 (tt + tt2)), .int .u64 (l4 (tt + tt2)), .bool true, .bool mb2, .int .u64 (l0 (mn2)), .int .u64 (l1 (mn2)), .int .u64 (l2 (mn2)), .int .u64 (l3 (mn2)), .int .i64 (ms2), .bool xb2, .int .u64 (l0 (xn2)), .int .u64 (l1 (xn2)), .int .u64 (l2 (xn2)), .int .u64 (l3 (xn2)), .int .i64 (xs2)] rfl Try.underlying33 rfl sz33) rfl ?_
        refine wl_st 33 (.tmp 4) (.tmp 93) k3 0 #[.int .i64 (w64 (r + r2)), .int .i64 (w64 (f + f2)), .int .i64 (w64 (k + kb)), .int .i64 (w64 (d + d2)), .int .i64 (les er e2), .int .u64 (l0 (tt + tt2)), .int .u64 (l1 (tt + tt2)), .int .u64 (l2 (tt + tt2)), .int .u64 (l3 (tt + tt2)), .int .u64 (l4 (tt + tt2)), .bool true, .bool mb2, .int .u64 (l0 (mn2)), .int .u64 (l1 (mn2)), .int .u64 (l2 (mn2)), .int .u64 (l3 (mn2)), .int .i64 (ms2), .bool xb2, .int .u64 (l0 (xn2)), .int .u64 (l1 (xn2)), .int .u64 (l2 (xn2)), .int .u64 (l3 (xn2)), .int .i64 (xs2)] [.int .i64 0, .int .i64 0, .int .i64 0, .int .i64 0, .int .i64 0, .int .u64 0, .int .u64 0, .int .u64 0, .int .u64 0, .int .u64 0, .bool false, .bool false, .int .u64 0, .int .u64 0, .int .u64 0, .int .u64 0, .int .i64 0, .bool false, .int .u64 0, .int .u64 0, .int .u64 0, .int .u64 0, .int .i64 0] [.int .i64 (w64 (r + r2)), .int .i64 (w64 (f + f2)), .int .i64 (w64 (k + kb)), .int .i64 (w64 (d + d2)), .int .i64 (les er e2), .int .u64 (l0 (tt + tt2)), .int .u64 (l1 (tt + tt2)), .int .u64 (l2 (tt + tt2)), .int .u64 (l3 (tt + tt2)), .int .u64 (l4 (tt + tt2)), .bool true, .bool mb2, .int .u64 (l0 (mn2)), .int .u64 (l1 (mn2)), .int .u64 (l2 (mn2)), .int .u64 (l3 (mn2)), .int .i64 (ms2), .bool xb2, .int .u64 (l0 (xn2)), .int .u64 (l1 (xn2)), .int .u64 (l2 (xn2)), .int .u64 (l3 (xn2)), .int .i64 (xs2)] Q3 rfl rfl g4 rfl rfl sz33 rfl rfl rfl ?_
        intro w58 hS Qn
        replace Q3 := Qn
        clear Qn
        replace Q1 := hS.other _ _ ne_k1_k3 Q1
        replace Q2 := hS.other _ _ ne_k2_k3 Q2
        replace Q4 := hS.other _ _ ne_k3_k4.symm Q4
        replace M := hS.mo _ N_k3 M
        clear hS
        refine w_nil ?_
        refine xn_then ?_
        refine w_ret ?_
        exact w_ret1 _ (.agg #[.int .i64 (w64 (r + r2)), .int .i64 (w64 (f + f2)), .int .i64 (w64 (k + kb)), .int .i64 (w64 (d + d2)), .int .i64 (les er e2), .int .u64 (l0 (tt + tt2)), .int .u64 (l1 (tt + tt2)), .int .u64 (l2 (tt + tt2)), .int .u64 (l3 (tt + tt2)), .int .u64 (l4 (tt + tt2)), .bool true, .bool mb2, .int .u64 (l0 (mn2)), .int .u64 (l1 (mn2)), .int .u64 (l2 (mn2)), .int .u64 (l3 (mn2)), .int .i64 (ms2), .bool xb2, .int .u64 (l0 (xn2)), .int .u64 (l1 (xn2)), .int .u64 (l2 (xn2)), .int .u64 (l3 (xn2)), .int .i64 (xs2)]) rfl ⟨k3, g4, (run_row Q3 33 0 23 [.int .i64 (w64 (r + r2)), .int .i64 (w64 (f + f2)), .int .i64 (w64 (k + kb)), .int .i64 (w64 (d + d2)), .int .i64 (les er e2), .int .u64 (l0 (tt + tt2)), .int .u64 (l1 (tt + tt2)), .int .u64 (l2 (tt + tt2)), .int .u64 (l3 (tt + tt2)), .int .u64 (l4 (tt + tt2)), .bool true, .bool mb2, .int .u64 (l0 (mn2)), .int .u64 (l1 (mn2)), .int .u64 (l2 (mn2)), .int .u64 (l3 (mn2)), .int .i64 (ms2), .bool xb2, .int .u64 (l0 (xn2)), .int .u64 (l1 (xn2)), .int .u64 (l2 (xn2)), .int .u64 (l3 (xn2)), .int .i64 (xs2)] rfl Try.underlying33 rfl sz33)⟩ ⟨rfl, M⟩
      | false =>
        refine w_condF rfl ?_
        refine w_skip ?_
        refine xn_then ?_
        refine w_seq ?_
        refine w_reg ?_
        refine wl_load 33 (.tmp 5) (pt k4 0) (.agg #[.int .i64 (w64 (r + r2)), .int .i64 (w64 (f + f2)), .int .i64 (w64 (k + kb)), .int .i64 (w64 (d + d2)), .int .i64 (les er e2), .int .u64 (l0 (tt + tt2)), .int .u64 (l1 (tt + tt2)), .int .u64 (l2 (tt + tt2)), .int .u64 (l3 (tt + tt2)), .int .u64 (l4 (tt + tt2)), .bool false, .bool false, .int .u64 0, .int .u64 0, .int .u64 0, .int .u64 0, .int .i64 0, .bool false, .int .u64 0, .int .u64 0, .int .u64 0, .int .u64 0, .int .i64 0]) rfl g5 (run_row Q4 33 0 23 [.int .i64 (w64 (r + r2)), .int .i64 (w64 (f + f2)), .int .i64 (w64 (k + kb)), .int .i64 (w64 (d + d2)), .int .i64 (les er e2), .int .u64 (l0 (tt + tt2)), .int .u64 (l1 (tt + tt2)), .int .u64 (l2 (tt + tt2)), .int .u64 (l3 (tt + tt2)), .int .u64 (l4 (tt + tt2)), .bool false, .bool false, .int .u64 0, .int .u64 0, .int .u64 0, .int .u64 0, .int .i64 0, .bool false, .int .u64 0, .int .u64 0, .int .u64 0, .int .u64 0, .int .i64 0] rfl Try.underlying33 rfl sz33) rfl ?_
        refine wl_st 33 (.tmp 4) (.tmp 93) k3 0 #[.int .i64 (w64 (r + r2)), .int .i64 (w64 (f + f2)), .int .i64 (w64 (k + kb)), .int .i64 (w64 (d + d2)), .int .i64 (les er e2), .int .u64 (l0 (tt + tt2)), .int .u64 (l1 (tt + tt2)), .int .u64 (l2 (tt + tt2)), .int .u64 (l3 (tt + tt2)), .int .u64 (l4 (tt + tt2)), .bool false, .bool false, .int .u64 0, .int .u64 0, .int .u64 0, .int .u64 0, .int .i64 0, .bool false, .int .u64 0, .int .u64 0, .int .u64 0, .int .u64 0, .int .i64 0] [.int .i64 0, .int .i64 0, .int .i64 0, .int .i64 0, .int .i64 0, .int .u64 0, .int .u64 0, .int .u64 0, .int .u64 0, .int .u64 0, .bool false, .bool false, .int .u64 0, .int .u64 0, .int .u64 0, .int .u64 0, .int .i64 0, .bool false, .int .u64 0, .int .u64 0, .int .u64 0, .int .u64 0, .int .i64 0] [.int .i64 (w64 (r + r2)), .int .i64 (w64 (f + f2)), .int .i64 (w64 (k + kb)), .int .i64 (w64 (d + d2)), .int .i64 (les er e2), .int .u64 (l0 (tt + tt2)), .int .u64 (l1 (tt + tt2)), .int .u64 (l2 (tt + tt2)), .int .u64 (l3 (tt + tt2)), .int .u64 (l4 (tt + tt2)), .bool false, .bool false, .int .u64 0, .int .u64 0, .int .u64 0, .int .u64 0, .int .i64 0, .bool false, .int .u64 0, .int .u64 0, .int .u64 0, .int .u64 0, .int .i64 0] Q3 rfl rfl g4 rfl rfl sz33 rfl rfl rfl ?_
        intro w55 hS Qn
        replace Q3 := Qn
        clear Qn
        replace Q1 := hS.other _ _ ne_k1_k3 Q1
        replace Q2 := hS.other _ _ ne_k2_k3 Q2
        replace Q4 := hS.other _ _ ne_k3_k4.symm Q4
        replace M := hS.mo _ N_k3 M
        clear hS
        refine w_nil ?_
        refine xn_then ?_
        refine w_ret ?_
        exact w_ret1 _ (.agg #[.int .i64 (w64 (r + r2)), .int .i64 (w64 (f + f2)), .int .i64 (w64 (k + kb)), .int .i64 (w64 (d + d2)), .int .i64 (les er e2), .int .u64 (l0 (tt + tt2)), .int .u64 (l1 (tt + tt2)), .int .u64 (l2 (tt + tt2)), .int .u64 (l3 (tt + tt2)), .int .u64 (l4 (tt + tt2)), .bool false, .bool false, .int .u64 0, .int .u64 0, .int .u64 0, .int .u64 0, .int .i64 0, .bool false, .int .u64 0, .int .u64 0, .int .u64 0, .int .u64 0, .int .i64 0]) rfl ⟨k3, g4, (run_row Q3 33 0 23 [.int .i64 (w64 (r + r2)), .int .i64 (w64 (f + f2)), .int .i64 (w64 (k + kb)), .int .i64 (w64 (d + d2)), .int .i64 (les er e2), .int .u64 (l0 (tt + tt2)), .int .u64 (l1 (tt + tt2)), .int .u64 (l2 (tt + tt2)), .int .u64 (l3 (tt + tt2)), .int .u64 (l4 (tt + tt2)), .bool false, .bool false, .int .u64 0, .int .u64 0, .int .u64 0, .int .u64 0, .int .i64 0, .bool false, .int .u64 0, .int .u64 0, .int .u64 0, .int .u64 0, .int .i64 0] rfl Try.underlying33 rfl sz33)⟩ ⟨by obtain ⟨z1, z2⟩ := hz rfl; cases z1; cases z2; rfl, M⟩
  · skip
    refine w_seq ?_
    cases hf0 : decide (e2 = 0) with
    | true =>
      have hf0p := of_decide_eq_true hf0
      refine w_reg ?_
      refine wl_un (fun v => Instr.fieldAt 33 v 4) (.tmp 3) (pt k2 0) (pt k2 4) (fun _ => rfl) rfl (by kernel_rfl) rfl ?_
      refine wl_load 3 (.tmp 31) (pt k2 4) (.int .i64 (e2)) rfl rfl (run_one Q2 3 4 rfl Try.underlying3 rfl) rfl ?_
      refine wl_bin (fun x y => do eqGuard .neq 3 (.tmp 32) (.const (.int .i64 (0))) x y; binOp .neq 3 x y) (.tmp 32) (.const (.int .i64 (0))) (.int .i64 (e2)) (.int .i64 (0)) (.bool false) (fun _ => rfl) rfl rfl (neI hf0 _ _ _) rfl ?_
      refine wl_mv (.tmp 33) (.bool false) (fun _ => rfl) rfl rfl ?_
      refine wl_skip rfl ?_
      refine wl_skip rfl ?_
      refine wl_skip rfl ?_
      refine wl_skip rfl ?_
      refine wl_skip rfl ?_
      refine wl_skip rfl ?_
      refine wl_skip rfl ?_
      refine wl_skip rfl ?_
      refine wl_skip rfl ?_
      refine wl_skip rfl ?_
      refine wl_pick (.tmp 34) (.tmp 44) (.const (.bool false)) false (.bool false) (fun _ => rfl) rfl rfl rfl ?_
      refine w_nil ?_
      refine xn_then ?_
      refine w_condF rfl ?_
      refine w_skip ?_
      exact xn_cut ⟨rfl, rfl, rfl, rfl, Q1, Q2, Q3, by rw [les_A hf0p]; exact Q4, M⟩
    | false =>
      have hf0p := of_decide_eq_false hf0
      cases hf1 : decide (er = 0) with
      | true =>
        have hf1p := of_decide_eq_true hf1
        refine w_reg ?_
        refine wl_un (fun v => Instr.fieldAt 33 v 4) (.tmp 3) (pt k2 0) (pt k2 4) (fun _ => rfl) rfl (by kernel_rfl) rfl ?_
        refine wl_load 3 (.tmp 31) (pt k2 4) (.int .i64 (e2)) rfl rfl (run_one Q2 3 4 rfl Try.underlying3 rfl) rfl ?_
        refine wl_bin (fun x y => do eqGuard .neq 3 (.tmp 32) (.const (.int .i64 (0))) x y; binOp .neq 3 x y) (.tmp 32) (.const (.int .i64 (0))) (.int .i64 (e2)) (.int .i64 (0)) (.bool true) (fun _ => rfl) rfl rfl (neI hf0 _ _ _) rfl ?_
        refine wl_mv (.tmp 33) (.bool true) (fun _ => rfl) rfl rfl ?_
        refine wl_un (fun v => Instr.fieldAt 33 v 4) (.tmp 2) (pt k1 0) (pt k1 4) (fun _ => rfl) rfl (by kernel_rfl) rfl ?_
        refine wl_load 3 (.tmp 35) (pt k1 4) (.int .i64 (er)) rfl rfl (run_one Q1 3 4 rfl Try.underlying3 rfl) rfl ?_
        refine wl_bin (fun x y => do eqGuard .eql 3 (.tmp 36) (.const (.int .i64 (0))) x y; binOp .eql 3 x y) (.tmp 36) (.const (.int .i64 (0))) (.int .i64 (er)) (.int .i64 (0)) (.bool true) (fun _ => rfl) rfl rfl (eqI hf1 _ _ _) rfl ?_
        refine wl_mv (.tmp 37) (.bool true) (fun _ => rfl) rfl rfl ?_
        refine wl_skip rfl ?_
        refine wl_skip rfl ?_
        refine wl_skip rfl ?_
        refine wl_skip rfl ?_
        refine wl_skip rfl ?_
        refine wl_pick (.tmp 38) (.const (.bool true)) (.tmp 43) true (.bool true) (fun _ => rfl) rfl rfl rfl ?_
        refine wl_pick (.tmp 34) (.tmp 44) (.const (.bool false)) true (.bool true) (fun _ => rfl) rfl rfl rfl ?_
        refine w_nil ?_
        refine xn_then ?_
        refine w_condT rfl ?_
        refine w_reg ?_
        refine wl_un (fun v => Instr.fieldAt 33 v 4) (.tmp 3) (pt k2 0) (pt k2 4) (fun _ => rfl) rfl (by kernel_rfl) rfl ?_
        refine wl_load 3 (.tmp 46) (pt k2 4) (.int .i64 (e2)) rfl rfl (run_one Q2 3 4 rfl Try.underlying3 rfl) rfl ?_
        refine wl_un (fun v => Instr.fieldAt 33 v 4) (.tmp 5) (pt k4 0) (pt k4 4) (fun _ => rfl) rfl (by kernel_rfl) rfl ?_
        refine wl_st1 3 (.tmp 48) (.tmp 47) k4 4 (.int .i64 (e2)) [.int .i64 (w64 (r + r2)), .int .i64 (w64 (f + f2)), .int .i64 (w64 (k + kb)), .int .i64 (w64 (d + d2)), .int .i64 (er), .int .u64 (l0 (tt)), .int .u64 (l1 (tt)), .int .u64 (l2 (tt)), .int .u64 (l3 (tt)), .int .u64 (l4 (tt)), .bool so, .bool mb, .int .u64 (l0 (mn)), .int .u64 (l1 (mn)), .int .u64 (l2 (mn)), .int .u64 (l3 (mn)), .int .i64 (ms), .bool xb, .int .u64 (l0 (xn)), .int .u64 (l1 (xn)), .int .u64 (l2 (xn)), .int .u64 (l3 (xn)), .int .i64 (xs)] [.int .i64 (w64 (r + r2)), .int .i64 (w64 (f + f2)), .int .i64 (w64 (k + kb)), .int .i64 (w64 (d + d2)), .int .i64 (e2), .int .u64 (l0 (tt)), .int .u64 (l1 (tt)), .int .u64 (l2 (tt)), .int .u64 (l3 (tt)), .int .u64 (l4 (tt)), .bool so, .bool mb, .int .u64 (l0 (mn)), .int .u64 (l1 (mn)), .int .u64 (l2 (mn)), .int .u64 (l3 (mn)), .int .i64 (ms), .bool xb, .int .u64 (l0 (xn)), .int .u64 (l1 (xn)), .int .u64 (l2 (xn)), .int .u64 (l3 (xn)), .int .i64 (xs)] Q4 rfl rfl rfl rfl rfl sz3 rfl rfl rfl rfl ?_
        intro w10 hS Qn
        replace Q4 := Qn
        clear Qn
        replace Q1 := hS.other _ _ ne_k1_k4 Q1
        replace Q2 := hS.other _ _ ne_k2_k4 Q2
        replace Q3 := hS.other _ _ ne_k3_k4 Q3
        replace M := hS.mo _ N_k4 M
        clear hS
        refine w_nil ?_
        exact xn_cut ⟨rfl, rfl, rfl, rfl, Q1, Q2, Q3, by rw [les_B hf1p]; exact Q4, M⟩
      | false =>
        have hf1p := of_decide_eq_false hf1
        cases hf2 : decide (e2 < er) with
        | true =>
          have hf2p := of_decide_eq_true hf2
          refine w_reg ?_
          refine wl_un (fun v => Instr.fieldAt 33 v 4) (.tmp 3) (pt k2 0) (pt k2 4) (fun _ => rfl) rfl (by kernel_rfl) rfl ?_
          refine wl_load 3 (.tmp 31) (pt k2 4) (.int .i64 (e2)) rfl rfl (run_one Q2 3 4 rfl Try.underlying3 rfl) rfl ?_
          refine wl_bin (fun x y => do eqGuard .neq 3 (.tmp 32) (.const (.int .i64 (0))) x y; binOp .neq 3 x y) (.tmp 32) (.const (.int .i64 (0))) (.int .i64 (e2)) (.int .i64 (0)) (.bool true) (fun _ => rfl) rfl rfl (neI hf0 _ _ _) rfl ?_
          refine wl_mv (.tmp 33) (.bool true) (fun _ => rfl) rfl rfl ?_
          refine wl_un (fun v => Instr.fieldAt 33 v 4) (.tmp 2) (pt k1 0) (pt k1 4) (fun _ => rfl) rfl (by kernel_rfl) rfl ?_
          refine wl_load 3 (.tmp 35) (pt k1 4) (.int .i64 (er)) rfl rfl (run_one Q1 3 4 rfl Try.underlying3 rfl) rfl ?_
          refine wl_bin (fun x y => do eqGuard .eql 3 (.tmp 36) (.const (.int .i64 (0))) x y; binOp .eql 3 x y) (.tmp 36) (.const (.int .i64 (0))) (.int .i64 (er)) (.int .i64 (0)) (.bool false) (fun _ => rfl) rfl rfl (eqI hf1 _ _ _) rfl ?_
          refine wl_mv (.tmp 37) (.bool false) (fun _ => rfl) rfl rfl ?_
          refine wl_un (fun v => Instr.fieldAt 33 v 4) (.tmp 3) (pt k2 0) (pt k2 4) (fun _ => rfl) rfl (by kernel_rfl) rfl ?_
          refine wl_load 3 (.tmp 39) (pt k2 4) (.int .i64 (e2)) rfl rfl (run_one Q2 3 4 rfl Try.underlying3 rfl) rfl ?_
          refine wl_un (fun v => Instr.fieldAt 33 v 4) (.tmp 2) (pt k1 0) (pt k1 4) (fun _ => rfl) rfl (by kernel_rfl) rfl ?_
          refine wl_load 3 (.tmp 41) (pt k1 4) (.int .i64 (er)) rfl rfl (run_one Q1 3 4 rfl Try.underlying3 rfl) rfl ?_
          refine wl_bin (fun x y => do eqGuard .lss 3 (.tmp 40) (.tmp 42) x y; binOp .lss 3 x y) (.tmp 40) (.tmp 42) (.int .i64 (e2)) (.int .i64 (er)) (.bool true) (fun _ => rfl) rfl rfl (ltI hf2 _ _ _) rfl ?_
          refine wl_pick (.tmp 38) (.const (.bool true)) (.tmp 43) false (.bool true) (fun _ => rfl) rfl rfl rfl ?_
          refine wl_pick (.tmp 34) (.tmp 44) (.const (.bool false)) true (.bool true) (fun _ => rfl) rfl rfl rfl ?_
          refine w_nil ?_
          refine xn_then ?_
          refine w_condT rfl ?_
          refine w_reg ?_
          refine wl_un (fun v => Instr.fieldAt 33 v 4) (.tmp 3) (pt k2 0) (pt k2 4) (fun _ => rfl) rfl (by kernel_rfl) rfl ?_
          refine wl_load 3 (.tmp 46) (pt k2 4) (.int .i64 (e2)) rfl rfl (run_one Q2 3 4 rfl Try.underlying3 rfl) rfl ?_
          refine wl_un (fun v => Instr.fieldAt 33 v 4) (.tmp 5) (pt k4 0) (pt k4 4) (fun _ => rfl) rfl (by kernel_rfl) rfl ?_
          refine wl_st1 3 (.tmp 48) (.tmp 47) k4 4 (.int .i64 (e2)) [.int .i64 (w64 (r + r2)), .int .i64 (w64 (f + f2)), .int .i64 (w64 (k + kb)), .int .i64 (w64 (d + d2)), .int .i64 (er), .int .u64 (l0 (tt)), .int .u64 (l1 (tt)), .int .u64 (l2 (tt)), .int .u64 (l3 (tt)), .int .u64 (l4 (tt)), .bool so, .bool mb, .int .u64 (l0 (mn)), .int .u64 (l1 (mn)), .int .u64 (l2 (mn)), .int .u64 (l3 (mn)), .int .i64 (ms), .bool xb, .int .u64 (l0 (xn)), .int .u64 (l1 (xn)), .int .u64 (l2 (xn)), .int .u64 (l3 (xn)), .int .i64 (xs)] [.int .i64 (w64 (r + r2)), .int .i64 (w64 (f + f2)), .int .i64 (w64 (k + kb)), .int .i64 (w64 (d + d2)), .int .i64 (e2), .int .u64 (l0 (tt)), .int .u64 (l1 (tt)), .int .u64 (l2 (tt)), .int .u64 (l3 (tt)), .int .u64 (l4 (tt)), .bool so, .bool mb, .int .u64 (l0 (mn)), .int .u64 (l1 (mn)), .int .u64 (l2 (mn)), .int .u64 (l3 (mn)), .int .i64 (ms), .bool xb, .int .u64 (l0 (xn)), .int .u64 (l1 (xn)), .int .u64 (l2 (xn)), .int .u64 (l3 (xn)), .int .i64 (xs)] Q4 rfl rfl rfl rfl rfl sz3 rfl rfl rfl rfl ?_
          intro w10 hS Qn
          replace Q4 := Qn
          clear Qn
          replace Q1 := hS.other _ _ ne_k1_k4 Q1
          replace Q2 := hS.other _ _ ne_k2_k4 Q2
          replace Q3 := hS.other _ _ ne_k3_k4 Q3
          replace M := hS.mo _ N_k4 M
          clear hS
          refine w_nil ?_
          exact xn_cut ⟨rfl, rfl, rfl, rfl, Q1, Q2, Q3, by rw [les_C hf0p hf1p hf2p]; exact Q4, M⟩
        | false =>
          have hf2p := of_decide_eq_false hf2
          refine w_reg ?_
          refine wl_un (fun v => Instr.fieldAt 33 v 4) (.tmp 3) (pt k2 0) (pt k2 4) (fun _ => rfl) rfl (by kernel_rfl) rfl ?_
          refine wl_load 3 (.tmp 31) (pt k2 4) (.int .i64 (e2)) rfl rfl (run_one Q2 3 4 rfl Try.underlying3 rfl) rfl ?_
          refine wl_bin (fun x y => do eqGuard .neq 3 (.tmp 32) (.const (.int .i64 (0))) x y; binOp .neq 3 x y) (.tmp 32) (.const (.int .i64 (0))) (.int .i64 (e2)) (.int .i64 (0)) (.bool true) (fun _ => rfl) rfl rfl (neI hf0 _ _ _) rfl ?_
          refine wl_mv (.tmp 33) (.bool true) (fun _ => rfl) rfl rfl ?_
          refine wl_un (fun v => Instr.fieldAt 33 v 4) (.tmp 2) (pt k1 0) (pt k1 4) (fun _ => rfl) rfl (by kernel_rfl) rfl ?_
          refine wl_load 3 (.tmp 35) (pt k1 4) (.int .i64 (er)) rfl rfl (run_one Q1 3 4 rfl Try.underlying3 rfl) rfl ?_
          refine wl_bin (fun x y => do eqGuard .eql 3 (.tmp 36) (.const (.int .i64 (0))) x y; binOp .eql 3 x y) (.tmp 36) (.const (.int .i64 (0))) (.int .i64 (er)) (.int .i64 (0)) (.bool false) (fun _ => rfl) rfl rfl (eqI hf1 _ _ _) rfl ?_
          refine wl_mv (.tmp 37) (.bool false) (fun _ => rfl) rfl rfl ?_
          refine wl_un (fun v => Instr.fieldAt 33 v 4) (.tmp 3) (pt k2 0) (pt k2 4) (fun _ => rfl) rfl (by kernel_rfl) rfl ?_
          refine wl_load 3 (.tmp 39) (pt k2 4) (.int .i64 (e2)) rfl rfl (run_one Q2 3 4 rfl Try.underlying3 rfl) rfl ?_
          refine wl_un (fun v => Instr.fieldAt 33 v 4) (.tmp 2) (pt k1 0) (pt k1 4) (fun _ => rfl) rfl (by kernel_rfl) rfl ?_
          refine wl_load 3 (.tmp 41) (pt k1 4) (.int .i64 (er)) rfl rfl (run_one Q1 3 4 rfl Try.underlying3 rfl) rfl ?_
          refine wl_bin (fun x y => do eqGuard .lss 3 (.tmp 40) (.tmp 42) x y; binOp .lss 3 x y) (.tmp 40) (.tmp 42) (.int .i64 (e2)) (.int .i64 (er)) (.bool false) (fun _ => rfl) rfl rfl (ltI hf2 _ _ _) rfl ?_
          refine wl_pick (.tmp 38) (.const (.bool true)) (.tmp 43) false (.bool false) (fun _ => rfl) rfl rfl rfl ?_
          refine wl_pick (.tmp 34) (.tmp 44) (.const (.bool false)) true (.bool false) (fun _ => rfl) rfl rfl rfl ?_
          refine w_nil ?_
          refine xn_then ?_
          refine w_condF rfl ?_
          refine w_skip ?_
          exact xn_cut ⟨rfl, rfl, rfl, rfl, Q1, Q2, Q3, by rw [les_D hf0p hf1p hf2p]; exact Q4, M⟩
theorem rtwo_n (S T : Sm) (hS : S.ok) (hT : T.ok) (hz : S.so = false → S.mn = d0 ∧ S.mx = d0) : Calls Try.prog 30 #[smv S, smv T] w fun e w' => e = .returned (smv (jn S T)) ∧ Mo w w' := by
  obtain ⟨r, f, k, d, er, tt, so, ⟨mb, mn, ms⟩, ⟨xb, xn, xs⟩⟩ := S
  obtain ⟨r2, f2, kb, d2, e2, tt2, so2, ⟨mb2, mn2, ms2⟩, ⟨xb2, xn2, xs2⟩⟩ := T
  exact two_n r f k d er tt so mb mn ms xb xn xs r2 f2 kb d2 e2 tt2 so2 mb2 mn2 ms2 xb2 xn2 xs2 hS.1 hS.2 hT.1 hT.2 hz
end
end Go.Proofs.Ythpekbohmfmffaa
/-
  The same is the same: values.
-/
namespace Go.Proofs.Ythpekbohmfmffaa
open Go.RowKit
theorem ht28 : Try.prog.underlying 28 = some (.struct (Try.prog.fieldsOf 28)) := by kernel_rfl
theorem hp28 : Try.prog.stoodInHeld 28 = false := by kernel_rfl
theorem fo28 : (Try.prog.fieldsOf 28).toList.map (fun f => (f.name, f.type, f.offset)) = [("Kind", 3, 0), ("Num", 26, 1), ("Flag", 4, 7), ("Text", 9, 8), ("Err", 3, 9)] := by kernel_rfl
theorem p28_0 (x0 x1 x2 x3 x4 x5 x6 x7 x8 x9 : Value) (w : World) : (part 3 #[x0, x1, x2, x3, x4, x5, x6, x7, x8, x9] 0).run Try.prog w = .ok x0 w := by kernel_rfl
theorem p28_1 (x0 x1 x2 x3 x4 x5 x6 x7 x8 x9 : Value) (w : World) : (part 26 #[x0, x1, x2, x3, x4, x5, x6, x7, x8, x9] 1).run Try.prog w = .ok (.agg #[x1, x2, x3, x4, x5, x6]) w := by kernel_rfl
theorem p28_7 (x0 x1 x2 x3 x4 x5 x6 x7 x8 x9 : Value) (w : World) : (part 4 #[x0, x1, x2, x3, x4, x5, x6, x7, x8, x9] 7).run Try.prog w = .ok x7 w := by kernel_rfl
theorem p28_8 (x0 x1 x2 x3 x4 x5 x6 x7 x8 x9 : Value) (w : World) : (part 9 #[x0, x1, x2, x3, x4, x5, x6, x7, x8, x9] 8).run Try.prog w = .ok x8 w := by kernel_rfl
theorem p28_9 (x0 x1 x2 x3 x4 x5 x6 x7 x8 x9 : Value) (w : World) : (part 3 #[x0, x1, x2, x3, x4, x5, x6, x7, x8, x9] 9).run Try.prog w = .ok x9 w := by kernel_rfl
theorem eq26s (d : Nat) (b : Bool) (n0 n1 n2 n3 s : Int) (w : World) : (Op.equalIn (d + 1 + 1 + 1) 26 (.agg #[.bool b, .int .u64 n0, .int .u64 n1, .int .u64 n2, .int .u64 n3, .int .i64 s]) (.agg #[.bool b, .int .u64 n0, .int .u64 n1, .int .u64 n2, .int .u64 n3, .int .i64 s])).run Try.prog w = .ok true w := by
  rw [run_equalIn_struct w (d + 1 + 1) 26 _ _ ht40 hp40]
  have h := fo40
  generalize (Try.prog.fieldsOf 26).toList = L at h
  have hl : L.length = 3 := by have := congrArg List.length h; simpa using this
  match L, hl with
  | [f0, f1, f2], _ =>
    simp at h
    obtain ⟨⟨a0, a1, a2⟩, ⟨b0, b1, b2⟩, ⟨c0, c1, c2⟩⟩ := h
    have q1 : (Op.equalIn (d + 1 + 1) 4 (.bool b) (.bool b)).run Try.prog w = .ok true w := by
      have : (Op.equalIn (d + 1 + 1) 4 (.bool b) (.bool b)).run Try.prog w = .ok (b == b) w := by kernel_rfl
      rw [this]; simp
    have q2 := eq4d d n0 n1 n2 n3 n0 n1 n2 n3 w
    have q3 : (Op.equalIn (d + 1 + 1) 3 (.int .i64 s) (.int .i64 s)).run Try.prog w = .ok true w := by rw [run_equalIn_int w (d + 1) 3 .i64 .i64 s s Try.underlying3]; simp
    simp at q2
    simp [Op.eqFields, a0, a1, a2, b0, b1, b2, c0, c1, c2, Sem.run_bind, pt40, pt41, pt45, Result.andThen_ok, q1, q2, q3, Sem.run_pure]
theorem eqstr (d : Nat) (t : ByteArray) (w : World) : (Op.equalIn (d + 1) 9 (.string t) (.string t)).run Try.prog w = .ok true w := by
  have : (Op.equalIn (d + 1) 9 (.string t) (.string t)).run Try.prog w = .ok (t == t) w := by kernel_rfl
  have h2 : (t == t) = true := by
    obtain ⟨a⟩ := t
    show (a == a) = true
    exact beq_self_eq_true a
  rw [this, h2]
theorem eq28s (K : Int) (b : Bool) (n0 n1 n2 n3 s : Int) (fl : Bool) (t : ByteArray) (er : Int) (w : World) : (Op.equalIn 10000 28 (.agg #[.int .i64 K, .bool b, .int .u64 n0, .int .u64 n1, .int .u64 n2, .int .u64 n3, .int .i64 s, .bool fl, .string t, .int .i64 er]) (.agg #[.int .i64 K, .bool b, .int .u64 n0, .int .u64 n1, .int .u64 n2, .int .u64 n3, .int .i64 s, .bool fl, .string t, .int .i64 er])).run Try.prog w = .ok true w := by
  rw [show (10000 : Nat) = 9999 + 1 from rfl, run_equalIn_struct w 9999 28 _ _ ht28 hp28]
  have h := fo28
  generalize (Try.prog.fieldsOf 28).toList = L at h
  have hl : L.length = 5 := by have := congrArg List.length h; simpa using this
  match L, hl with
  | [f0, f1, f2, f3, f4], _ =>
    simp at h
    obtain ⟨⟨a0, a1, a2⟩, ⟨b0, b1, b2⟩, ⟨c0, c1, c2⟩, ⟨g0, g1, g2⟩, ⟨i0, i1, i2⟩⟩ := h
    have qi : ∀ x : Int, (Op.equalIn 9999 3 (.int .i64 x) (.int .i64 x)).run Try.prog w = .ok true w := fun x => by rw [run_equalIn_int w 9998 3 .i64 .i64 x x Try.underlying3]; simp
    have q2 := eq26s 9996 b n0 n1 n2 n3 s w
    have q3 : (Op.equalIn 9999 4 (.bool fl) (.bool fl)).run Try.prog w = .ok true w := by
      have : (Op.equalIn 9999 4 (.bool fl) (.bool fl)).run Try.prog w = .ok (fl == fl) w := by kernel_rfl
      rw [this]; simp
    have q4 := eqstr 9998 t w
    simp [Op.eqFields, a0, a1, a2, b0, b1, b2, c0, c1, c2, g0, g1, g2, i0, i1, i2, Sem.run_bind, p28_0, p28_1, p28_7, p28_8, p28_9, Result.andThen_ok, qi, q2, q3, q4, Sem.run_pure]
theorem gt28 : Try.prog.eqGuardType Try.prog.depth 28 = false := by kernel_rfl
theorem eqv_run (K : Int) (b : Bool) (n0 n1 n2 n3 s : Int) (fl : Bool) (t : ByteArray) (er : Int) (x y : Operand) (w : World) : (do eqGuard .eql 28 x y (.agg #[.int .i64 K, .bool b, .int .u64 n0, .int .u64 n1, .int .u64 n2, .int .u64 n3, .int .i64 s, .bool fl, .string t, .int .i64 er]) (.agg #[.int .i64 K, .bool b, .int .u64 n0, .int .u64 n1, .int .u64 n2, .int .u64 n3, .int .i64 s, .bool fl, .string t, .int .i64 er]); binOp .eql 28 (.agg #[.int .i64 K, .bool b, .int .u64 n0, .int .u64 n1, .int .u64 n2, .int .u64 n3, .int .i64 s, .bool fl, .string t, .int .i64 er]) (.agg #[.int .i64 K, .bool b, .int .u64 n0, .int .u64 n1, .int .u64 n2, .int .u64 n3, .int .i64 s, .bool fl, .string t, .int .i64 er])).run Try.prog w = .ok (.bool true) w :=
  eqa_run gt28 (eq28s K b n0 n1 n2 n3 s fl t er w) x y
end Go.Proofs.Ythpekbohmfmffaa
/-
  The document's Join; == of summaries; SummaryJoins: the law's walk.
-/
namespace Go.Proofs.Ythpekbohmfmffaa
open Go.RowKit
theorem rg_mo {w w' : World} {b o : Nat} {cs : List Value} (h : w.rangeAt b o cs) (hb : b < w.heap.size) (m : Mo w w') : w'.rangeAt b o cs := fun j v hv => (m.cell b _ hb).trans (h j v hv)
def Zn (S : Sm) : Prop := S.so = false → S.mn = d0 ∧ S.mx = d0
theorem jn_z {S T : Sm} (h : Zn S) : Zn (jn S T) := by
  unfold jn str Zn
  cases hT : T.so with
  | false => simp only [Bool.false_eq_true, if_false]; exact h
  | true =>
    simp only [if_true]
    split
    · intro q; cases q
    · intro q; cases q
theorem fold_z : ∀ (L : List Sm) {S : Sm}, Zn S → Zn (L.foldl jn S)
  | [], _, h => h
  | _ :: L, _, h => fold_z L (jn_z h)
theorem sm0_z : Zn sm0 := fun _ => ⟨rfl, rfl⟩
section
variable {w : World}
theorem rjoin_n (L : List Sm) (p : Option Addr) (cap : Nat) (hL : ∀ T ∈ L, T.ok) (hSS : SS w p L) (hn : L.length ≤ 900000000000000000) : Calls Try.prog 13 #[.slice p L.length cap] w fun e w' => e = .returned (smv (L.foldl jn sm0)) ∧ Mo w w' := by
  refine w_enter 18 Try.func13 Try.ntmps13 rfl rfl ?_
  have M : Mo w w := Mo.refl _
  refine w_seq ?_
  refine w_reg ?_
  refine wl_alloc 33 #[.int .i64 0, .int .i64 0, .int .i64 0, .int .i64 0, .int .i64 0, .int .u64 0, .int .u64 0, .int .u64 0, .int .u64 0, .int .u64 0, .bool false, .bool false, .int .u64 0, .int .u64 0, .int .u64 0, .int .u64 0, .int .i64 0, .bool false, .int .u64 0, .int .u64 0, .int .u64 0, .int .u64 0, .int .i64 0] rfl (fun _ => by kernel_rfl) rfl ?_
  intro k1 w1 hk hz hq Q1
  have N_k1 : w.heap.size ≤ k1 := by have := M.size; omega
  replace M := M.trans hq
  clear hk hz hq
  refine w_nil ?_
  refine xn_then ?_
  refine w_seq ?_
  refine w_reg ?_
  refine wl_alloc 33 #[.int .i64 0, .int .i64 0, .int .i64 0, .int .i64 0, .int .i64 0, .int .u64 0, .int .u64 0, .int .u64 0, .int .u64 0, .int .u64 0, .bool false, .bool false, .int .u64 0, .int .u64 0, .int .u64 0, .int .u64 0, .int .i64 0, .bool false, .int .u64 0, .int .u64 0, .int .u64 0, .int .u64 0, .int .i64 0] rfl (fun _ => by kernel_rfl) rfl ?_
  intro k2 w2 hk hz hq Q2
  have ne_k1_k2 : k1 ≠ k2 := by have := Q1.lt; omega
  have N_k2 : w.heap.size ≤ k2 := by have := M.size; omega
  replace Q1 := Q1.mo hq
  replace M := M.trans hq
  clear hk hz hq
  refine w_nil ?_
  refine xn_then ?_
  refine w_seq ?_
  refine w_seq ?_
  refine w_reg ?_
  refine wl_mv (.const (.int .i64 (0))) (.int .i64 (0)) (fun _ => rfl) rfl rfl ?_
  refine w_nil ?_
  refine xn_then ?_
  refine w_block ?_
  refine w_loop (fun m l wc => ∃ (i : Nat), m + i = L.length ∧ look l 0 = .slice p L.length cap ∧ look l 2 = pt k1 0 ∧ look l 3 = pt k2 0 ∧ look l 4 = .int .i64 (i : Int) ∧ At wc k1 (sml sm0) ∧ At wc k2 (sml ((L.take i).foldl jn sm0)) ∧ Mo w wc) L.length ⟨0, by omega, rfl, rfl, rfl, rfl, Q1, Q2, M⟩ ?_
  clear M Q1 Q2
  rintro m l wc ⟨i, hm, g0, g2, g3, g4, Q1, Q2, M⟩
  have hS : ((L.take i).foldl jn sm0).ok := fold_ok _ sm0_ok (fun U hU => hL U (List.mem_of_mem_take hU))
  have hz : Zn ((L.take i).foldl jn sm0) := fold_z _ sm0_z
  obtain ⟨S, eS⟩ : ∃ X, (L.take i).foldl jn sm0 = X := ⟨_, rfl⟩
  rw [eS] at Q2 hS hz
  refine w_seq ?_
  refine w_seq ?_
  cases hf0 : decide (i < L.length) with
  | true =>
    have hf0p := of_decide_eq_true hf0
    refine w_reg ?_
    refine wl_mv (.tmp 4) (.int .i64 ((i : Nat) : Int)) (fun _ => rfl) g4 rfl ?_
    refine wl_mv (.tmp 0) (.slice p L.length cap) (fun _ => rfl) g0 rfl ?_
    refine wl_val (.int .i64 ((L.length : Int))) (len36 _ _ _ _ _ (by exact rfl) _ _ _ _ _ _) rfl ?_
    refine wl_bin (fun x y => do eqGuard .lss 3 (.tmp 5) (.tmp 7) x y; binOp .lss 3 x y) (.tmp 5) (.tmp 7) (.int .i64 ((i : Nat) : Int)) (.int .i64 ((L.length : Int))) (.bool true) (fun _ => rfl) rfl rfl (ltN hf0 _ _ _) rfl ?_
    refine w_nil ?_
    refine xn_then ?_
    refine w_condT rfl ?_
    refine w_skip ?_
    refine xn_then ?_
    refine w_seq ?_
    refine w_block ?_
    obtain ⟨T, hTi⟩ : ∃ T, L[i]? = some T := ⟨L[i]'(by omega), List.getElem?_eq_getElem _⟩
    have hT := hL T (List.mem_of_getElem? hTi)
    obtain ⟨b, off, hpb, hbl, hrg⟩ := (hSS.mo M) _ T hTi
    refine w_any 6 [.inl (.agg #[.int .i64 (S.r), .int .i64 (S.f), .int .i64 (S.k), .int .i64 (S.d), .int .i64 (S.e), .int .u64 (l0 (S.tt)), .int .u64 (l1 (S.tt)), .int .u64 (l2 (S.tt)), .int .u64 (l3 (S.tt)), .int .u64 (l4 (S.tt)), .bool S.so, .bool S.mn.b, .int .u64 (l0 (S.mn.n)), .int .u64 (l1 (S.mn.n)), .int .u64 (l2 (S.mn.n)), .int .u64 (l3 (S.mn.n)), .int .i64 (S.mn.s), .bool S.mx.b, .int .u64 (l0 (S.mx.n)), .int .u64 (l1 (S.mx.n)), .int .u64 (l2 (S.mx.n)), .int .u64 (l3 (S.mx.n)), .int .i64 (S.mx.s)]), .inl (.slice p L.length cap), .inl (.int .i64 ((i : Nat) : Int)), .inl (pt b (off + i * 23)), .inl (.agg #[.int .i64 (T.r), .int .i64 (T.f), .int .i64 (T.k), .int .i64 (T.d), .int .i64 (T.e), .int .u64 (l0 (T.tt)), .int .u64 (l1 (T.tt)), .int .u64 (l2 (T.tt)), .int .u64 (l3 (T.tt)), .int .u64 (l4 (T.tt)), .bool T.so, .bool T.mn.b, .int .u64 (l0 (T.mn.n)), .int .u64 (l1 (T.mn.n)), .int .u64 (l2 (T.mn.n)), .int .u64 (l3 (T.mn.n)), .int .i64 (T.mn.s), .bool T.mx.b, .int .u64 (l0 (T.mx.n)), .int .u64 (l1 (T.mx.n)), .int .u64 (l2 (T.mx.n)), .int .u64 (l3 (T.mx.n)), .int .i64 (T.mx.s)]), .inl (.agg #[.int .i64 ((jn S T).r), .int .i64 ((jn S T).f), .int .i64 ((jn S T).k), .int .i64 ((jn S T).d), .int .i64 ((jn S T).e), .int .u64 (l0 ((jn S T).tt)), .int .u64 (l1 ((jn S T).tt)), .int .u64 (l2 ((jn S T).tt)), .int .u64 (l3 ((jn S T).tt)), .int .u64 (l4 ((jn S T).tt)), .bool (jn S T).so, .bool (jn S T).mn.b, .int .u64 (l0 ((jn S T).mn.n)), .int .u64 (l1 ((jn S T).mn.n)), .int .u64 (l2 ((jn S T).mn.n)), .int .u64 (l3 ((jn S T).mn.n)), .int .i64 ((jn S T).mn.s), .bool (jn S T).mx.b, .int .u64 (l0 ((jn S T).mx.n)), .int .u64 (l1 ((jn S T).mx.n)), .int .u64 (l2 ((jn S T).mx.n)), .int .u64 (l3 ((jn S T).mx.n)), .int .i64 ((jn S T).mx.s)])] [] (by kernel_rfl) (by kernel_rfl) (by kernel_rfl) (by kernel_rfl) rfl (by kernel_rfl) (by kernel_rfl) late_nil ?_ ?_ ?_
    · exact Ds.none rfl
    · refine ea_cons ?_ (ea_cons ?_ (ea_cons ?_ (ea_cons ?_ (ea_cons ?_ (ea_cons ?_ (ea_nil))))))
      · exact og_eq (.agg #[.int .i64 (S.r), .int .i64 (S.f), .int .i64 (S.k), .int .i64 (S.d), .int .i64 (S.e), .int .u64 (l0 (S.tt)), .int .u64 (l1 (S.tt)), .int .u64 (l2 (S.tt)), .int .u64 (l3 (S.tt)), .int .u64 (l4 (S.tt)), .bool S.so, .bool S.mn.b, .int .u64 (l0 (S.mn.n)), .int .u64 (l1 (S.mn.n)), .int .u64 (l2 (S.mn.n)), .int .u64 (l3 (S.mn.n)), .int .i64 (S.mn.s), .bool S.mx.b, .int .u64 (l0 (S.mx.n)), .int .u64 (l1 (S.mx.n)), .int .u64 (l2 (S.mx.n)), .int .u64 (l3 (S.mx.n)), .int .i64 (S.mx.s)]) rfl (fun f wf hq hd K hK => have Q2 := Q2.mo hq; go_run rfl (wo_load 33 (.tmp 3) (pt k2 0) (.agg #[.int .i64 (S.r), .int .i64 (S.f), .int .i64 (S.k), .int .i64 (S.d), .int .i64 (S.e), .int .u64 (l0 (S.tt)), .int .u64 (l1 (S.tt)), .int .u64 (l2 (S.tt)), .int .u64 (l3 (S.tt)), .int .u64 (l4 (S.tt)), .bool S.so, .bool S.mn.b, .int .u64 (l0 (S.mn.n)), .int .u64 (l1 (S.mn.n)), .int .u64 (l2 (S.mn.n)), .int .u64 (l3 (S.mn.n)), .int .i64 (S.mn.s), .bool S.mx.b, .int .u64 (l0 (S.mx.n)), .int .u64 (l1 (S.mx.n)), .int .u64 (l2 (S.mx.n)), .int .u64 (l3 (S.mx.n)), .int .i64 (S.mx.s)]) rfl g3 (run_row Q2 33 0 23 [.int .i64 (S.r), .int .i64 (S.f), .int .i64 (S.k), .int .i64 (S.d), .int .i64 (S.e), .int .u64 (l0 (S.tt)), .int .u64 (l1 (S.tt)), .int .u64 (l2 (S.tt)), .int .u64 (l3 (S.tt)), .int .u64 (l4 (S.tt)), .bool S.so, .bool S.mn.b, .int .u64 (l0 (S.mn.n)), .int .u64 (l1 (S.mn.n)), .int .u64 (l2 (S.mn.n)), .int .u64 (l3 (S.mn.n)), .int .i64 (S.mn.s), .bool S.mx.b, .int .u64 (l0 (S.mx.n)), .int .u64 (l1 (S.mx.n)), .int .u64 (l2 (S.mx.n)), .int .u64 (l3 (S.mx.n)), .int .i64 (S.mx.s)] rfl Try.underlying33 rfl sz33) (hK _ (Mo.refl _))))
      · exact og_eq (.slice p L.length cap) rfl (fun f wf hq hd K hK => go_run rfl (wo_mv (.tmp 0) (.slice p L.length cap) (fun _ => rfl) g0 (hK _ (Mo.refl _))))
      · exact og_eq (.int .i64 ((i : Nat) : Int)) rfl (fun f wf hq hd K hK => go_run rfl (wo_mv (.tmp 4) (.int .i64 ((i : Nat) : Int)) (fun _ => rfl) g4 (hK _ (Mo.refl _))))
      · exact og_eq (pt b (off + i * 23)) rfl (fun f wf hq hd K hK => go_run rfl (wo_bin (fun x y => Instr.indexAt 36 x y) (.tmp 12) (.tmp 13) (.slice p L.length cap) (.int .i64 ((i : Nat) : Int)) (pt b (off + i * 23)) (fun _ => rfl) (hd 1 rfl) (hd 2 rfl) (by rw [hpb]; exact ix36 b off i _ _ (by omega) _) (hK _ (Mo.refl _))))
      · exact og_eq (.agg #[.int .i64 (T.r), .int .i64 (T.f), .int .i64 (T.k), .int .i64 (T.d), .int .i64 (T.e), .int .u64 (l0 (T.tt)), .int .u64 (l1 (T.tt)), .int .u64 (l2 (T.tt)), .int .u64 (l3 (T.tt)), .int .u64 (l4 (T.tt)), .bool T.so, .bool T.mn.b, .int .u64 (l0 (T.mn.n)), .int .u64 (l1 (T.mn.n)), .int .u64 (l2 (T.mn.n)), .int .u64 (l3 (T.mn.n)), .int .i64 (T.mn.s), .bool T.mx.b, .int .u64 (l0 (T.mx.n)), .int .u64 (l1 (T.mx.n)), .int .u64 (l2 (T.mx.n)), .int .u64 (l3 (T.mx.n)), .int .i64 (T.mx.s)]) rfl (fun f wf hq hd K hK => go_run rfl (wo_load 33 (.tmp 14) (pt b (off + i * 23)) (.agg #[.int .i64 (T.r), .int .i64 (T.f), .int .i64 (T.k), .int .i64 (T.d), .int .i64 (T.e), .int .u64 (l0 (T.tt)), .int .u64 (l1 (T.tt)), .int .u64 (l2 (T.tt)), .int .u64 (l3 (T.tt)), .int .u64 (l4 (T.tt)), .bool T.so, .bool T.mn.b, .int .u64 (l0 (T.mn.n)), .int .u64 (l1 (T.mn.n)), .int .u64 (l2 (T.mn.n)), .int .u64 (l3 (T.mn.n)), .int .i64 (T.mn.s), .bool T.mx.b, .int .u64 (l0 (T.mx.n)), .int .u64 (l1 (T.mx.n)), .int .u64 (l2 (T.mx.n)), .int .u64 (l3 (T.mx.n)), .int .i64 (T.mx.s)]) rfl (hd 3 rfl) (SS.load (rg_mo hrg hbl hq)) (hK _ (Mo.refl _))))
      · exact og_eq (.agg #[.int .i64 ((jn S T).r), .int .i64 ((jn S T).f), .int .i64 ((jn S T).k), .int .i64 ((jn S T).d), .int .i64 ((jn S T).e), .int .u64 (l0 ((jn S T).tt)), .int .u64 (l1 ((jn S T).tt)), .int .u64 (l2 ((jn S T).tt)), .int .u64 (l3 ((jn S T).tt)), .int .u64 (l4 ((jn S T).tt)), .bool (jn S T).so, .bool (jn S T).mn.b, .int .u64 (l0 ((jn S T).mn.n)), .int .u64 (l1 ((jn S T).mn.n)), .int .u64 (l2 ((jn S T).mn.n)), .int .u64 (l3 ((jn S T).mn.n)), .int .i64 ((jn S T).mn.s), .bool (jn S T).mx.b, .int .u64 (l0 ((jn S T).mx.n)), .int .u64 (l1 ((jn S T).mx.n)), .int .u64 (l2 ((jn S T).mx.n)), .int .u64 (l3 ((jn S T).mx.n)), .int .i64 ((jn S T).mx.s)]) rfl (fun f wf hq hd K hK => go_run rfl (wo_call 30 [(.tmp 11), (.tmp 15)] _ [.agg #[.int .i64 (S.r), .int .i64 (S.f), .int .i64 (S.k), .int .i64 (S.d), .int .i64 (S.e), .int .u64 (l0 (S.tt)), .int .u64 (l1 (S.tt)), .int .u64 (l2 (S.tt)), .int .u64 (l3 (S.tt)), .int .u64 (l4 (S.tt)), .bool S.so, .bool S.mn.b, .int .u64 (l0 (S.mn.n)), .int .u64 (l1 (S.mn.n)), .int .u64 (l2 (S.mn.n)), .int .u64 (l3 (S.mn.n)), .int .i64 (S.mn.s), .bool S.mx.b, .int .u64 (l0 (S.mx.n)), .int .u64 (l1 (S.mx.n)), .int .u64 (l2 (S.mx.n)), .int .u64 (l3 (S.mx.n)), .int .i64 (S.mx.s)], .agg #[.int .i64 (T.r), .int .i64 (T.f), .int .i64 (T.k), .int .i64 (T.d), .int .i64 (T.e), .int .u64 (l0 (T.tt)), .int .u64 (l1 (T.tt)), .int .u64 (l2 (T.tt)), .int .u64 (l3 (T.tt)), .int .u64 (l4 (T.tt)), .bool T.so, .bool T.mn.b, .int .u64 (l0 (T.mn.n)), .int .u64 (l1 (T.mn.n)), .int .u64 (l2 (T.mn.n)), .int .u64 (l3 (T.mn.n)), .int .i64 (T.mn.s), .bool T.mx.b, .int .u64 (l0 (T.mx.n)), .int .u64 (l1 (T.mx.n)), .int .u64 (l2 (T.mx.n)), .int .u64 (l3 (T.mx.n)), .int .i64 (T.mx.s)]] (.agg #[.int .i64 ((jn S T).r), .int .i64 ((jn S T).f), .int .i64 ((jn S T).k), .int .i64 ((jn S T).d), .int .i64 ((jn S T).e), .int .u64 (l0 ((jn S T).tt)), .int .u64 (l1 ((jn S T).tt)), .int .u64 (l2 ((jn S T).tt)), .int .u64 (l3 ((jn S T).tt)), .int .u64 (l4 ((jn S T).tt)), .bool (jn S T).so, .bool (jn S T).mn.b, .int .u64 (l0 ((jn S T).mn.n)), .int .u64 (l1 ((jn S T).mn.n)), .int .u64 (l2 ((jn S T).mn.n)), .int .u64 (l3 ((jn S T).mn.n)), .int .i64 ((jn S T).mn.s), .bool (jn S T).mx.b, .int .u64 (l0 ((jn S T).mx.n)), .int .u64 (l1 ((jn S T).mx.n)), .int .u64 (l2 ((jn S T).mx.n)), .int .u64 (l3 ((jn S T).mx.n)), .int .i64 ((jn S T).mx.s)]) rfl (li2 (hd 0 rfl) (hd 4 rfl)) (fun _ _ => by kernel_rfl) (rtwo_n S T hS hT hz) hK))
    intro kf11 w11 hq hR hne
    replace Q1 := Q1.mo hq
    replace Q2 := Q2.mo hq
    replace M := M.trans hq
    clear hq hR hne
    refine wl_st 33 (.tmp 3) (.tmp 16) k2 0 #[.int .i64 ((jn S T).r), .int .i64 ((jn S T).f), .int .i64 ((jn S T).k), .int .i64 ((jn S T).d), .int .i64 ((jn S T).e), .int .u64 (l0 ((jn S T).tt)), .int .u64 (l1 ((jn S T).tt)), .int .u64 (l2 ((jn S T).tt)), .int .u64 (l3 ((jn S T).tt)), .int .u64 (l4 ((jn S T).tt)), .bool (jn S T).so, .bool (jn S T).mn.b, .int .u64 (l0 ((jn S T).mn.n)), .int .u64 (l1 ((jn S T).mn.n)), .int .u64 (l2 ((jn S T).mn.n)), .int .u64 (l3 ((jn S T).mn.n)), .int .i64 ((jn S T).mn.s), .bool (jn S T).mx.b, .int .u64 (l0 ((jn S T).mx.n)), .int .u64 (l1 ((jn S T).mx.n)), .int .u64 (l2 ((jn S T).mx.n)), .int .u64 (l3 ((jn S T).mx.n)), .int .i64 ((jn S T).mx.s)] [.int .i64 (S.r), .int .i64 (S.f), .int .i64 (S.k), .int .i64 (S.d), .int .i64 (S.e), .int .u64 (l0 (S.tt)), .int .u64 (l1 (S.tt)), .int .u64 (l2 (S.tt)), .int .u64 (l3 (S.tt)), .int .u64 (l4 (S.tt)), .bool S.so, .bool S.mn.b, .int .u64 (l0 (S.mn.n)), .int .u64 (l1 (S.mn.n)), .int .u64 (l2 (S.mn.n)), .int .u64 (l3 (S.mn.n)), .int .i64 (S.mn.s), .bool S.mx.b, .int .u64 (l0 (S.mx.n)), .int .u64 (l1 (S.mx.n)), .int .u64 (l2 (S.mx.n)), .int .u64 (l3 (S.mx.n)), .int .i64 (S.mx.s)] [.int .i64 ((jn S T).r), .int .i64 ((jn S T).f), .int .i64 ((jn S T).k), .int .i64 ((jn S T).d), .int .i64 ((jn S T).e), .int .u64 (l0 ((jn S T).tt)), .int .u64 (l1 ((jn S T).tt)), .int .u64 (l2 ((jn S T).tt)), .int .u64 (l3 ((jn S T).tt)), .int .u64 (l4 ((jn S T).tt)), .bool (jn S T).so, .bool (jn S T).mn.b, .int .u64 (l0 ((jn S T).mn.n)), .int .u64 (l1 ((jn S T).mn.n)), .int .u64 (l2 ((jn S T).mn.n)), .int .u64 (l3 ((jn S T).mn.n)), .int .i64 ((jn S T).mn.s), .bool (jn S T).mx.b, .int .u64 (l0 ((jn S T).mx.n)), .int .u64 (l1 ((jn S T).mx.n)), .int .u64 (l2 ((jn S T).mx.n)), .int .u64 (l3 ((jn S T).mx.n)), .int .i64 ((jn S T).mx.s)] Q2 rfl rfl g3 rfl rfl sz33 rfl rfl rfl ?_
    intro w12 hS Qn
    replace Q2 := Qn
    clear Qn
    replace Q1 := hS.other _ _ ne_k1_k2 Q1
    replace M := hS.mo _ N_k2 M
    clear hS
    refine w_nil ?_
    refine xn_blk ?_
    refine xn_then ?_
    refine w_reg ?_
    refine wl_mv (.tmp 4) (.int .i64 ((i : Nat) : Int)) (fun _ => rfl) g4 rfl ?_
    refine wl_bin (fun x y => do eqGuard .add 3 (.tmp 9) (.const (.int .i64 (1))) x y; binOp .add 3 x y) (.tmp 9) (.const (.int .i64 (1))) (.int .i64 ((i : Nat) : Int)) (.int .i64 (1)) (.int .i64 ((i + 1 : Nat) : Int)) (fun _ => rfl) rfl rfl (add1N (by omega) _ _ _) rfl ?_
    refine wl_mv (.tmp 10) (.int .i64 ((i + 1 : Nat) : Int)) (fun _ => rfl) rfl rfl ?_
    refine w_nil ?_
    exact xn_loop (m - 1) (by omega) ⟨i + 1, by omega, g0, g2, g3, rfl, Q1, by rw [fold_take hTi, eS]; exact Q2, M⟩
  | false =>
    have hf0p := of_decide_eq_false hf0
    refine w_reg ?_
    refine wl_mv (.tmp 4) (.int .i64 ((i : Nat) : Int)) (fun _ => rfl) g4 rfl ?_
    refine wl_mv (.tmp 0) (.slice p L.length cap) (fun _ => rfl) g0 rfl ?_
    refine wl_val (.int .i64 ((L.length : Int))) (len36 _ _ _ _ _ (by exact rfl) _ _ _ _ _ _) rfl ?_
    refine wl_bin (fun x y => do eqGuard .lss 3 (.tmp 5) (.tmp 7) x y; binOp .lss 3 x y) (.tmp 5) (.tmp 7) (.int .i64 ((i : Nat) : Int)) (.int .i64 ((L.length : Int))) (.bool false) (fun _ => rfl) rfl rfl (ltN hf0 _ _ _) rfl ?_
    refine w_nil ?_
    refine xn_then ?_
    refine w_condF rfl ?_
    refine w_exit ?_
    refine xx_then ?_
    refine xx_then ?_
    have hi3 : i = L.length := by omega
    rw [hi3, List.take_length] at eS
    refine xx_blk ?_
    refine xn_then ?_
    refine w_seq ?_
    refine w_reg ?_
    refine wl_load 33 (.tmp 3) (pt k2 0) (.agg #[.int .i64 (S.r), .int .i64 (S.f), .int .i64 (S.k), .int .i64 (S.d), .int .i64 (S.e), .int .u64 (l0 (S.tt)), .int .u64 (l1 (S.tt)), .int .u64 (l2 (S.tt)), .int .u64 (l3 (S.tt)), .int .u64 (l4 (S.tt)), .bool S.so, .bool S.mn.b, .int .u64 (l0 (S.mn.n)), .int .u64 (l1 (S.mn.n)), .int .u64 (l2 (S.mn.n)), .int .u64 (l3 (S.mn.n)), .int .i64 (S.mn.s), .bool S.mx.b, .int .u64 (l0 (S.mx.n)), .int .u64 (l1 (S.mx.n)), .int .u64 (l2 (S.mx.n)), .int .u64 (l3 (S.mx.n)), .int .i64 (S.mx.s)]) rfl g3 (run_row Q2 33 0 23 [.int .i64 (S.r), .int .i64 (S.f), .int .i64 (S.k), .int .i64 (S.d), .int .i64 (S.e), .int .u64 (l0 (S.tt)), .int .u64 (l1 (S.tt)), .int .u64 (l2 (S.tt)), .int .u64 (l3 (S.tt)), .int .u64 (l4 (S.tt)), .bool S.so, .bool S.mn.b, .int .u64 (l0 (S.mn.n)), .int .u64 (l1 (S.mn.n)), .int .u64 (l2 (S.mn.n)), .int .u64 (l3 (S.mn.n)), .int .i64 (S.mn.s), .bool S.mx.b, .int .u64 (l0 (S.mx.n)), .int .u64 (l1 (S.mx.n)), .int .u64 (l2 (S.mx.n)), .int .u64 (l3 (S.mx.n)), .int .i64 (S.mx.s)] rfl Try.underlying33 rfl sz33) rfl ?_
    refine wl_st 33 (.tmp 2) (.tmp 17) k1 0 #[.int .i64 (S.r), .int .i64 (S.f), .int .i64 (S.k), .int .i64 (S.d), .int .i64 (S.e), .int .u64 (l0 (S.tt)), .int .u64 (l1 (S.tt)), .int .u64 (l2 (S.tt)), .int .u64 (l3 (S.tt)), .int .u64 (l4 (S.tt)), .bool S.so, .bool S.mn.b, .int .u64 (l0 (S.mn.n)), .int .u64 (l1 (S.mn.n)), .int .u64 (l2 (S.mn.n)), .int .u64 (l3 (S.mn.n)), .int .i64 (S.mn.s), .bool S.mx.b, .int .u64 (l0 (S.mx.n)), .int .u64 (l1 (S.mx.n)), .int .u64 (l2 (S.mx.n)), .int .u64 (l3 (S.mx.n)), .int .i64 (S.mx.s)] [.int .i64 (sm0.r), .int .i64 (sm0.f), .int .i64 (sm0.k), .int .i64 (sm0.d), .int .i64 (sm0.e), .int .u64 (l0 (sm0.tt)), .int .u64 (l1 (sm0.tt)), .int .u64 (l2 (sm0.tt)), .int .u64 (l3 (sm0.tt)), .int .u64 (l4 (sm0.tt)), .bool sm0.so, .bool sm0.mn.b, .int .u64 (l0 (sm0.mn.n)), .int .u64 (l1 (sm0.mn.n)), .int .u64 (l2 (sm0.mn.n)), .int .u64 (l3 (sm0.mn.n)), .int .i64 (sm0.mn.s), .bool sm0.mx.b, .int .u64 (l0 (sm0.mx.n)), .int .u64 (l1 (sm0.mx.n)), .int .u64 (l2 (sm0.mx.n)), .int .u64 (l3 (sm0.mx.n)), .int .i64 (sm0.mx.s)] [.int .i64 (S.r), .int .i64 (S.f), .int .i64 (S.k), .int .i64 (S.d), .int .i64 (S.e), .int .u64 (l0 (S.tt)), .int .u64 (l1 (S.tt)), .int .u64 (l2 (S.tt)), .int .u64 (l3 (S.tt)), .int .u64 (l4 (S.tt)), .bool S.so, .bool S.mn.b, .int .u64 (l0 (S.mn.n)), .int .u64 (l1 (S.mn.n)), .int .u64 (l2 (S.mn.n)), .int .u64 (l3 (S.mn.n)), .int .i64 (S.mn.s), .bool S.mx.b, .int .u64 (l0 (S.mx.n)), .int .u64 (l1 (S.mx.n)), .int .u64 (l2 (S.mx.n)), .int .u64 (l3 (S.mx.n)), .int .i64 (S.mx.s)] Q1 rfl rfl g2 rfl rfl sz33 rfl rfl rfl ?_
    intro w11 hS Qn
    replace Q1 := Qn
    clear Qn
    replace Q2 := hS.other _ _ ne_k1_k2.symm Q2
    replace M := hS.mo _ N_k1 M
    clear hS
    refine w_nil ?_
    refine xn_then ?_
    refine w_ret ?_
    exact w_ret1 _ (.agg #[.int .i64 (S.r), .int .i64 (S.f), .int .i64 (S.k), .int .i64 (S.d), .int .i64 (S.e), .int .u64 (l0 (S.tt)), .int .u64 (l1 (S.tt)), .int .u64 (l2 (S.tt)), .int .u64 (l3 (S.tt)), .int .u64 (l4 (S.tt)), .bool S.so, .bool S.mn.b, .int .u64 (l0 (S.mn.n)), .int .u64 (l1 (S.mn.n)), .int .u64 (l2 (S.mn.n)), .int .u64 (l3 (S.mn.n)), .int .i64 (S.mn.s), .bool S.mx.b, .int .u64 (l0 (S.mx.n)), .int .u64 (l1 (S.mx.n)), .int .u64 (l2 (S.mx.n)), .int .u64 (l3 (S.mx.n)), .int .i64 (S.mx.s)]) rfl ⟨k1, g2, (run_row Q1 33 0 23 [.int .i64 (S.r), .int .i64 (S.f), .int .i64 (S.k), .int .i64 (S.d), .int .i64 (S.e), .int .u64 (l0 (S.tt)), .int .u64 (l1 (S.tt)), .int .u64 (l2 (S.tt)), .int .u64 (l3 (S.tt)), .int .u64 (l4 (S.tt)), .bool S.so, .bool S.mn.b, .int .u64 (l0 (S.mn.n)), .int .u64 (l1 (S.mn.n)), .int .u64 (l2 (S.mn.n)), .int .u64 (l3 (S.mn.n)), .int .i64 (S.mn.s), .bool S.mx.b, .int .u64 (l0 (S.mx.n)), .int .u64 (l1 (S.mx.n)), .int .u64 (l2 (S.mx.n)), .int .u64 (l3 (S.mx.n)), .int .i64 (S.mx.s)] rfl Try.underlying33 rfl sz33)⟩ ⟨by rw [eS], M⟩
end
theorem ht33 : Try.prog.underlying 33 = some (.struct (Try.prog.fieldsOf 33)) := by kernel_rfl
theorem hp33 : Try.prog.stoodInHeld 33 = false := by kernel_rfl
theorem fo33 : (Try.prog.fieldsOf 33).toList.map (fun f => (f.name, f.type, f.offset)) = [("Rows", 3, 0), ("Filled", 3, 1), ("Blank", 3, 2), ("Bad", 3, 3), ("Err", 3, 4), ("Total", 31, 5), ("Some", 4, 10), ("Min", 26, 11), ("Max", 26, 17)] := by kernel_rfl
theorem p33_0 (x0 x1 x2 x3 x4 x5 x6 x7 x8 x9 x10 x11 x12 x13 x14 x15 x16 x17 x18 x19 x20 x21 x22 : Value) (w : World) : (part 3 #[x0, x1, x2, x3, x4, x5, x6, x7, x8, x9, x10, x11, x12, x13, x14, x15, x16, x17, x18, x19, x20, x21, x22] 0).run Try.prog w = .ok x0 w := by kernel_rfl
theorem p33_1 (x0 x1 x2 x3 x4 x5 x6 x7 x8 x9 x10 x11 x12 x13 x14 x15 x16 x17 x18 x19 x20 x21 x22 : Value) (w : World) : (part 3 #[x0, x1, x2, x3, x4, x5, x6, x7, x8, x9, x10, x11, x12, x13, x14, x15, x16, x17, x18, x19, x20, x21, x22] 1).run Try.prog w = .ok x1 w := by kernel_rfl
theorem p33_2 (x0 x1 x2 x3 x4 x5 x6 x7 x8 x9 x10 x11 x12 x13 x14 x15 x16 x17 x18 x19 x20 x21 x22 : Value) (w : World) : (part 3 #[x0, x1, x2, x3, x4, x5, x6, x7, x8, x9, x10, x11, x12, x13, x14, x15, x16, x17, x18, x19, x20, x21, x22] 2).run Try.prog w = .ok x2 w := by kernel_rfl
theorem p33_3 (x0 x1 x2 x3 x4 x5 x6 x7 x8 x9 x10 x11 x12 x13 x14 x15 x16 x17 x18 x19 x20 x21 x22 : Value) (w : World) : (part 3 #[x0, x1, x2, x3, x4, x5, x6, x7, x8, x9, x10, x11, x12, x13, x14, x15, x16, x17, x18, x19, x20, x21, x22] 3).run Try.prog w = .ok x3 w := by kernel_rfl
theorem p33_4 (x0 x1 x2 x3 x4 x5 x6 x7 x8 x9 x10 x11 x12 x13 x14 x15 x16 x17 x18 x19 x20 x21 x22 : Value) (w : World) : (part 3 #[x0, x1, x2, x3, x4, x5, x6, x7, x8, x9, x10, x11, x12, x13, x14, x15, x16, x17, x18, x19, x20, x21, x22] 4).run Try.prog w = .ok x4 w := by kernel_rfl
theorem p33_5 (x0 x1 x2 x3 x4 x5 x6 x7 x8 x9 x10 x11 x12 x13 x14 x15 x16 x17 x18 x19 x20 x21 x22 : Value) (w : World) : (part 31 #[x0, x1, x2, x3, x4, x5, x6, x7, x8, x9, x10, x11, x12, x13, x14, x15, x16, x17, x18, x19, x20, x21, x22] 5).run Try.prog w = .ok (.agg #[x5, x6, x7, x8, x9]) w := by kernel_rfl
theorem p33_10 (x0 x1 x2 x3 x4 x5 x6 x7 x8 x9 x10 x11 x12 x13 x14 x15 x16 x17 x18 x19 x20 x21 x22 : Value) (w : World) : (part 4 #[x0, x1, x2, x3, x4, x5, x6, x7, x8, x9, x10, x11, x12, x13, x14, x15, x16, x17, x18, x19, x20, x21, x22] 10).run Try.prog w = .ok x10 w := by kernel_rfl
theorem p33_11 (x0 x1 x2 x3 x4 x5 x6 x7 x8 x9 x10 x11 x12 x13 x14 x15 x16 x17 x18 x19 x20 x21 x22 : Value) (w : World) : (part 26 #[x0, x1, x2, x3, x4, x5, x6, x7, x8, x9, x10, x11, x12, x13, x14, x15, x16, x17, x18, x19, x20, x21, x22] 11).run Try.prog w = .ok (.agg #[x11, x12, x13, x14, x15, x16]) w := by kernel_rfl
theorem p33_17 (x0 x1 x2 x3 x4 x5 x6 x7 x8 x9 x10 x11 x12 x13 x14 x15 x16 x17 x18 x19 x20 x21 x22 : Value) (w : World) : (part 26 #[x0, x1, x2, x3, x4, x5, x6, x7, x8, x9, x10, x11, x12, x13, x14, x15, x16, x17, x18, x19, x20, x21, x22] 17).run Try.prog w = .ok (.agg #[x17, x18, x19, x20, x21, x22]) w := by kernel_rfl
theorem eq33s (r f k d er tt : Int) (so mb : Bool) (mn ms : Int) (xb : Bool) (xn xs : Int) (w : World) : (Op.equalIn 10000 33 (sm r (f) (k) (d) (er) (tt) so mb (mn) (ms) xb (xn) (xs)) (sm r (f) (k) (d) (er) (tt) so mb (mn) (ms) xb (xn) (xs))).run Try.prog w = .ok true w := by
  rw [show (10000 : Nat) = 9999 + 1 from rfl, run_equalIn_struct w 9999 33 _ _ ht33 hp33]
  have h := fo33
  generalize (Try.prog.fieldsOf 33).toList = L at h
  have hl : L.length = 9 := by have := congrArg List.length h; simpa using this
  match L, hl with
  | [f0, f1, f2, f3, f4, f5, f6, f7, f8], _ =>
    simp at h
    obtain ⟨⟨a0, b0, c0⟩, ⟨a1, b1, c1⟩, ⟨a2, b2, c2⟩, ⟨a3, b3, c3⟩, ⟨a4, b4, c4⟩, ⟨a5, b5, c5⟩, ⟨a6, b6, c6⟩, ⟨a7, b7, c7⟩, ⟨a8, b8, c8⟩⟩ := h
    have qi : ∀ x : Int, (Op.equalIn 9999 3 (.int .i64 x) (.int .i64 x)).run Try.prog w = .ok true w := fun x => by rw [run_equalIn_int w 9998 3 .i64 .i64 x x Try.underlying3]; simp
    have q5 := eq5s 9997 (l0 tt) (l1 tt) (l2 tt) (l3 tt) (l4 tt) w
    have q6 := eq26s 9996 mb (l0 mn) (l1 mn) (l2 mn) (l3 mn) ms w
    have q7 := eq26s 9996 xb (l0 xn) (l1 xn) (l2 xn) (l3 xn) xs w
    have q3 : (Op.equalIn 9999 4 (.bool so) (.bool so)).run Try.prog w = .ok true w := by
      have : (Op.equalIn 9999 4 (.bool so) (.bool so)).run Try.prog w = .ok (so == so) w := by kernel_rfl
      rw [this]; simp
    simp [Op.eqFields, a0, b0, c0, a1, b1, c1, a2, b2, c2, a3, b3, c3, a4, b4, c4, a5, b5, c5, a6, b6, c6, a7, b7, c7, a8, b8, c8, Sem.run_bind, p33_0, p33_1, p33_2, p33_3, p33_4, p33_5, p33_10, p33_11, p33_17, Result.andThen_ok, qi, q5, q6, q7, q3, Sem.run_pure]
theorem gt33 : Try.prog.eqGuardType Try.prog.depth 33 = false := by kernel_rfl
theorem eqs_run (S : Sm) (x y : Operand) (w : World) : (do eqGuard .eql 33 x y (smv S) (smv S); binOp .eql 33 (smv S) (smv S)).run Try.prog w = .ok (.bool true) w :=
  eqa_run gt33 (eq33s S.r S.f S.k S.d S.e S.tt S.so S.mn.b S.mn.n S.mn.s S.mx.b S.mx.n S.mx.s w) x y
section
variable {w : World}
theorem joins_n (L : List Sm) (p : Option Addr) (cap : Nat) (hL : ∀ T ∈ L, T.ok) (hSS : SS w p L) (hn : L.length ≤ 900000000000000000) : Calls Try.prog 4 #[.slice p L.length cap] w fun e w' => e = .returned (.bool true) ∧ Mo w w' := by
  refine w_enter 11 Try.func4 Try.ntmps4 rfl rfl ?_
  have M : Mo w w := Mo.refl _
  refine w_seq ?_
  refine w_reg ?_
  refine wl_mv (.const (.bool false)) (.bool false) (fun _ => rfl) rfl rfl ?_
  refine w_nil ?_
  refine xn_then ?_
  refine w_seq ?_
  refine w_reg ?_
  refine wl_call 9 [] _ [] (.bool true) rfl rfl (fun _ _ => by kernel_rfl) (live_n) rfl ?_
  intro w1 hq
  replace M := M.trans hq
  clear hq
  refine wl_mv (.tmp 3) (.bool true) (fun _ => rfl) rfl rfl ?_
  refine wl_mv (.tmp 0) (.slice p L.length cap) (fun _ => rfl) rfl rfl ?_
  refine wl_call 12 [(.tmp 5)] _ [.slice p L.length cap] (.agg #[.int .i64 ((L.foldl jn sm0).r), .int .i64 ((L.foldl jn sm0).f), .int .i64 ((L.foldl jn sm0).k), .int .i64 ((L.foldl jn sm0).d), .int .i64 ((L.foldl jn sm0).e), .int .u64 (l0 ((L.foldl jn sm0).tt)), .int .u64 (l1 ((L.foldl jn sm0).tt)), .int .u64 (l2 ((L.foldl jn sm0).tt)), .int .u64 (l3 ((L.foldl jn sm0).tt)), .int .u64 (l4 ((L.foldl jn sm0).tt)), .bool (L.foldl jn sm0).so, .bool (L.foldl jn sm0).mn.b, .int .u64 (l0 ((L.foldl jn sm0).mn.n)), .int .u64 (l1 ((L.foldl jn sm0).mn.n)), .int .u64 (l2 ((L.foldl jn sm0).mn.n)), .int .u64 (l3 ((L.foldl jn sm0).mn.n)), .int .i64 ((L.foldl jn sm0).mn.s), .bool (L.foldl jn sm0).mx.b, .int .u64 (l0 ((L.foldl jn sm0).mx.n)), .int .u64 (l1 ((L.foldl jn sm0).mx.n)), .int .u64 (l2 ((L.foldl jn sm0).mx.n)), .int .u64 (l3 ((L.foldl jn sm0).mx.n)), .int .i64 ((L.foldl jn sm0).mx.s)]) rfl rfl (fun _ _ => by kernel_rfl) (join_n L p cap hL (hSS.mo M) hn) rfl ?_
  intro w2 hq
  replace M := M.trans hq
  clear hq
  refine wl_mv (.tmp 0) (.slice p L.length cap) (fun _ => rfl) rfl rfl ?_
  refine wl_call 13 [(.tmp 7)] _ [.slice p L.length cap] (.agg #[.int .i64 ((L.foldl jn sm0).r), .int .i64 ((L.foldl jn sm0).f), .int .i64 ((L.foldl jn sm0).k), .int .i64 ((L.foldl jn sm0).d), .int .i64 ((L.foldl jn sm0).e), .int .u64 (l0 ((L.foldl jn sm0).tt)), .int .u64 (l1 ((L.foldl jn sm0).tt)), .int .u64 (l2 ((L.foldl jn sm0).tt)), .int .u64 (l3 ((L.foldl jn sm0).tt)), .int .u64 (l4 ((L.foldl jn sm0).tt)), .bool (L.foldl jn sm0).so, .bool (L.foldl jn sm0).mn.b, .int .u64 (l0 ((L.foldl jn sm0).mn.n)), .int .u64 (l1 ((L.foldl jn sm0).mn.n)), .int .u64 (l2 ((L.foldl jn sm0).mn.n)), .int .u64 (l3 ((L.foldl jn sm0).mn.n)), .int .i64 ((L.foldl jn sm0).mn.s), .bool (L.foldl jn sm0).mx.b, .int .u64 (l0 ((L.foldl jn sm0).mx.n)), .int .u64 (l1 ((L.foldl jn sm0).mx.n)), .int .u64 (l2 ((L.foldl jn sm0).mx.n)), .int .u64 (l3 ((L.foldl jn sm0).mx.n)), .int .i64 ((L.foldl jn sm0).mx.s)]) rfl rfl (fun _ _ => by kernel_rfl) (rjoin_n L p cap hL (hSS.mo M) hn) rfl ?_
  intro w3 hq
  replace M := M.trans hq
  clear hq
  refine wl_bin (fun x y => do eqGuard .eql 33 (.tmp 6) (.tmp 8) x y; binOp .eql 33 x y) (.tmp 6) (.tmp 8) (.agg #[.int .i64 ((L.foldl jn sm0).r), .int .i64 ((L.foldl jn sm0).f), .int .i64 ((L.foldl jn sm0).k), .int .i64 ((L.foldl jn sm0).d), .int .i64 ((L.foldl jn sm0).e), .int .u64 (l0 ((L.foldl jn sm0).tt)), .int .u64 (l1 ((L.foldl jn sm0).tt)), .int .u64 (l2 ((L.foldl jn sm0).tt)), .int .u64 (l3 ((L.foldl jn sm0).tt)), .int .u64 (l4 ((L.foldl jn sm0).tt)), .bool (L.foldl jn sm0).so, .bool (L.foldl jn sm0).mn.b, .int .u64 (l0 ((L.foldl jn sm0).mn.n)), .int .u64 (l1 ((L.foldl jn sm0).mn.n)), .int .u64 (l2 ((L.foldl jn sm0).mn.n)), .int .u64 (l3 ((L.foldl jn sm0).mn.n)), .int .i64 ((L.foldl jn sm0).mn.s), .bool (L.foldl jn sm0).mx.b, .int .u64 (l0 ((L.foldl jn sm0).mx.n)), .int .u64 (l1 ((L.foldl jn sm0).mx.n)), .int .u64 (l2 ((L.foldl jn sm0).mx.n)), .int .u64 (l3 ((L.foldl jn sm0).mx.n)), .int .i64 ((L.foldl jn sm0).mx.s)]) (.agg #[.int .i64 ((L.foldl jn sm0).r), .int .i64 ((L.foldl jn sm0).f), .int .i64 ((L.foldl jn sm0).k), .int .i64 ((L.foldl jn sm0).d), .int .i64 ((L.foldl jn sm0).e), .int .u64 (l0 ((L.foldl jn sm0).tt)), .int .u64 (l1 ((L.foldl jn sm0).tt)), .int .u64 (l2 ((L.foldl jn sm0).tt)), .int .u64 (l3 ((L.foldl jn sm0).tt)), .int .u64 (l4 ((L.foldl jn sm0).tt)), .bool (L.foldl jn sm0).so, .bool (L.foldl jn sm0).mn.b, .int .u64 (l0 ((L.foldl jn sm0).mn.n)), .int .u64 (l1 ((L.foldl jn sm0).mn.n)), .int .u64 (l2 ((L.foldl jn sm0).mn.n)), .int .u64 (l3 ((L.foldl jn sm0).mn.n)), .int .i64 ((L.foldl jn sm0).mn.s), .bool (L.foldl jn sm0).mx.b, .int .u64 (l0 ((L.foldl jn sm0).mx.n)), .int .u64 (l1 ((L.foldl jn sm0).mx.n)), .int .u64 (l2 ((L.foldl jn sm0).mx.n)), .int .u64 (l3 ((L.foldl jn sm0).mx.n)), .int .i64 ((L.foldl jn sm0).mx.s)]) (.bool true) (fun _ => rfl) rfl rfl (eqs_run (L.foldl jn sm0) _ _ _) rfl ?_
  refine wl_pick (.tmp 4) (.tmp 9) (.const (.bool false)) true (.bool true) (fun _ => rfl) rfl rfl rfl ?_
  refine wl_mv (.tmp 10) (.bool true) (fun _ => rfl) rfl rfl ?_
  refine w_nil ?_
  refine xn_then ?_
  refine w_ret ?_
  exact w_ret1 _ (.bool true) rfl rfl ⟨rfl, M⟩
end
end Go.Proofs.Ythpekbohmfmffaa
/-
  An array of four limbs that came in: how it is opened and shut.
-/
namespace Go.Proofs.Ythpekbohmfmffaa
open Go.ChangeShapes Go.WideShapes Go.ChangeAt Go.RowKit
theorem Try.own : ownKnob Try.prog.godebug = none := by kernel_rfl
theorem Try.cl22 : Try.prog.cellsOf 22 = 1 := by kernel_rfl
theorem Try.cl24 : Try.prog.cellsOf 24 = 4 := by kernel_rfl
theorem wf_u1 {x : Int} (h : (Lit.int .u64 x).wf = true) : U1 x := by
  simp [Lit.wf, IntKind.min, IntKind.max, IntKind.signed, IntKind.bits] at h
  exact ⟨by omega, by omega⟩
set_option maxRecDepth 100000 in
theorem open_nat {H : Type} {enc : TypeId × Value → H} {W : World} {base : Nat} {v : Value} {d : DataW H} {p : List MemPlace} (hv : Value.okWide Try.prog W .any base 24 v) (h : DataW.Trod enc Try.prog W 0 (fun _ => true) true 24 v d p) :
    ∃ x0 x1 x2 x3 : Int, v = .agg #[.int .u64 x0, .int .u64 x1, .int .u64 x2, .int .u64 x3] ∧ d = .agg [.lit (.int .u64 x0), .lit (.int .u64 x1), .lit (.int .u64 x2), .lit (.int .u64 x3)] ∧ p = [] ∧ U4 x0 x1 x2 x3 ∧
      ∀ (W' : World) (sp : Nat → Bool), DataW.Trod enc Try.prog W' 0 sp true 24 v d [] := by
  obtain ⟨cs, rfl, hsz, _⟩ : ∃ cs, v = .agg cs ∧ cs.size = Try.prog.cellsOf 24 ∧ Row.okWide Try.prog W .any base 24 cs := by
    simpa [Value.okWide, Try.underlying24] using hv
  rw [Try.cl24] at hsz
  obtain ⟨c0, c1, c2, c3, rfl⟩ := Go.Joins.array4 hsz
  obtain ⟨fuel, hf⟩ := h
  obtain ⟨xs, m, rfl, hx, _, hn, hi⟩ := DataW.trod_array Try.underlying24 hf
  have i0 := hi 0 (by decide)
  have i1 := hi 1 (by decide)
  have i2 := hi 2 (by decide)
  have i3 := hi 3 (by decide)
  simp only [Try.cl22, Value.cells] at i0 i1 i2 i3
  obtain ⟨y0, y1, y2, y3, rfl⟩ : ∃ y0 y1 y2 y3, xs = [y0, y1, y2, y3] := by
    match xs, hn with
    | [a, b, c, d], _ => exact ⟨a, b, c, d, rfl⟩
  simp at i0 i1 i2 i3
  obtain ⟨x0, e0, rfl, w0⟩ := DataW.trod_int Try.underlying22 i0
  obtain ⟨x1, e1, rfl, w1⟩ := DataW.trod_int Try.underlying22 i1
  obtain ⟨x2, e2, rfl, w2⟩ := DataW.trod_int Try.underlying22 i2
  obtain ⟨x3, e3, rfl, w3⟩ := DataW.trod_int Try.underlying22 i3
  simp at e0 e1 e2 e3
  subst e0 e1 e2 e3
  simp at hx
  obtain ⟨rfl, rfl⟩ := hx
  refine ⟨x0, x1, x2, x3, rfl, rfl, rfl, ⟨wf_u1 w0, wf_u1 w1, wf_u1 w2, wf_u1 w3⟩, fun W' sp => ⟨2, ?_⟩⟩
  simp [DataW.trod, Value.cells, Try.underlying24, Try.underlying22, Try.cl24, Try.cl22, w0, w1, w2, w3, show List.range 4 = [0, 1, 2, 3] from rfl]
end Go.Proofs.Ythpekbohmfmffaa
/-
  A decimal that came in: how it is opened and shut.
-/
namespace Go.Proofs.Ythpekbohmfmffaa
open Go.ChangeShapes Go.WideShapes Go.ChangeAt Go.RowKit
theorem Try.cl40 : Try.prog.cellsOf 26 = 6 := by kernel_rfl
theorem Try.cl4 : Try.prog.cellsOf 4 = 1 := by kernel_rfl
theorem Try.cl3 : Try.prog.cellsOf 3 = 1 := by kernel_rfl
theorem wf_i1 {x : Int} (h : (Lit.int .i64 x).wf = true) : -9223372036854775808 ≤ x ∧ x < 9223372036854775808 := by
  simp [Lit.wf, IntKind.min, IntKind.max, IntKind.signed, IntKind.bits] at h
  exact ⟨by omega, by omega⟩
set_option maxRecDepth 100000 in
theorem open_dec {H : Type} {enc : TypeId × Value → H} {W : World} {base : Nat} {v : Value} {d : DataW H} {p : List MemPlace} (hv : Value.okWide Try.prog W .any base 26 v) (h : DataW.Trod enc Try.prog W 0 (fun _ => true) true 26 v d p) :
    ∃ (b : Bool) (x0 x1 x2 x3 s : Int), v = .agg #[.bool b, .int .u64 x0, .int .u64 x1, .int .u64 x2, .int .u64 x3, .int .i64 s] ∧ p = [] ∧ U4 x0 x1 x2 x3 ∧ (-9223372036854775808 ≤ s ∧ s < 9223372036854775808) ∧
      ∀ (W' : World) (sp : Nat → Bool), DataW.Trod enc Try.prog W' 0 sp true 26 v d [] := by
  obtain ⟨cs, rfl, hsz, _⟩ : ∃ cs, v = .agg cs ∧ cs.size = Try.prog.cellsOf 26 ∧ Row.okWide Try.prog W .any base 26 cs := by
    simpa [Value.okWide, Try.underlying26] using hv
  rw [Try.cl40] at hsz
  obtain ⟨c0, c1, c2, c3, c4, c5, rfl⟩ : ∃ c0 c1 c2 c3 c4 c5, cs = #[c0, c1, c2, c3, c4, c5] := by
    obtain ⟨l⟩ := cs
    match l, hsz with
    | [a, b, c, d, e, f], _ => exact ⟨a, b, c, d, e, f, rfl⟩
  obtain ⟨fuel, hf⟩ := h
  obtain ⟨xs, n, rfl, hx, _, hlen, hi⟩ := DataW.trod_struct Try.underlying26 hf
  obtain ⟨y0, y1, y2, rfl⟩ : ∃ y0 y1 y2, xs = [y0, y1, y2] := by
    match xs, hlen with
    | [a, b, c], _ => exact ⟨a, b, c, rfl⟩
  have i0 := hi 0 _ rfl
  have i1 := hi 1 _ rfl
  have i2 := hi 2 _ rfl
  simp [Try.cl4, Try.cl24, Try.cl3, Value.cells] at i0 i1 i2
  obtain ⟨b, e0, rfl⟩ := DataW.trod_bool Try.underlying4 i0
  obtain ⟨s, e5, rfl, w5⟩ := DataW.trod_int Try.underlying3 i2
  obtain ⟨zs, m, rfl, hz, _, hn, hj⟩ := DataW.trod_array Try.underlying24 i1
  have j0 := hj 0 (by decide)
  have j1 := hj 1 (by decide)
  have j2 := hj 2 (by decide)
  have j3 := hj 3 (by decide)
  simp only [Try.cl22] at j0 j1 j2 j3
  obtain ⟨z0, z1, z2, z3, rfl⟩ : ∃ z0 z1 z2 z3, zs = [z0, z1, z2, z3] := by
    match zs, hn with
    | [a, b, c, d], _ => exact ⟨a, b, c, d, rfl⟩
  simp at j0 j1 j2 j3
  obtain ⟨x0, e1, rfl, w0⟩ := DataW.trod_int Try.underlying22 j0
  obtain ⟨x1, e2, rfl, w1⟩ := DataW.trod_int Try.underlying22 j1
  obtain ⟨x2, e3, rfl, w2⟩ := DataW.trod_int Try.underlying22 j2
  obtain ⟨x3, e4, rfl, w3⟩ := DataW.trod_int Try.underlying22 j3
  simp at e0 e1 e2 e3 e4 e5
  subst e0 e1 e2 e3 e4 e5
  subst hz
  simp at hx
  obtain ⟨rfl, rfl⟩ := hx
  refine ⟨b, x0, x1, x2, x3, s, rfl, rfl, ⟨wf_u1 w0, wf_u1 w1, wf_u1 w2, wf_u1 w3⟩, wf_i1 w5, fun W' sp => ⟨3, ?_⟩⟩
  simp [DataW.trod, Value.cells, Try.underlying26, Try.underlying24, Try.underlying22, Try.underlying4, Try.underlying3, Try.cl40, Try.cl24, Try.cl22, Try.cl4, Try.cl3, w0, w1, w2, w3, w5, show List.range 4 = [0, 1, 2, 3] from rfl]
end Go.Proofs.Ythpekbohmfmffaa
/-
  A whole number and a decimal that came in.
-/
namespace Go.Proofs.Ythpekbohmfmffaa
open Go.ChangeShapes Go.WideShapes Go.ChangeAt Go.RowKit
set_option maxRecDepth 100000 in
theorem open_i64 {H : Type} {enc : TypeId × Value → H} {W : World} {base : Nat} {T : TypeId} {v : Value} {d : DataW H} {p : List MemPlace} (hu : Try.prog.underlying T = some (.int .i64)) (hv : Value.okWide Try.prog W .any base T v) (h : DataW.Trod enc Try.prog W 0 (fun _ => true) true T v d p) :
    ∃ x : Int, v = .int .i64 x ∧ p = [] ∧ (-9223372036854775808 ≤ x ∧ x < 9223372036854775808) ∧
      ∀ (W' : World) (sp : Nat → Bool), DataW.Trod enc Try.prog W' 0 sp true T v d [] := by
  obtain ⟨n, rfl, rfl, rfl, hw⟩ := open_int hu hv h
  exact ⟨n, rfl, rfl, wf_i1 hw, fun W' sp => shut_int hu hw⟩
theorem dc_vl {b : Bool} {s x0 x1 x2 x3 : Int} (h : U4 x0 x1 x2 x3) : dc b (vl x0 x1 x2 x3) s = .agg #[.bool b, .int .u64 x0, .int .u64 x1, .int .u64 x2, .int .u64 x3, .int .i64 s] := by
  have := nv_vl h
  simp at this
  obtain ⟨a, b, c, d⟩ := this
  unfold dc
  rw [a, b, c, d]
end Go.Proofs.Ythpekbohmfmffaa
/-
  A wide number that came in.
-/
namespace Go.Proofs.Ythpekbohmfmffaa
open Go.ChangeShapes Go.WideShapes Go.ChangeAt
open Go.RowKit
theorem Try.cl31 : Try.prog.cellsOf 31 = 5 := by kernel_rfl
def vl5 (a b c d e : Int) : Int := a + 18446744073709551616 * b + 340282366920938463463374607431768211456 * c + 6277101735386680763835789423207666416102355444464034512896 * d + 115792089237316195423570985008687907853269984665640564039457584007913129639936 * e
theorem wv_vl {a b c d e : Int} (ha : U1 a) (hb : U1 b) (hc : U1 c) (hd : U1 d) (he : U1 e) : wv (vl5 a b c d e) = .agg #[.int .u64 a, .int .u64 b, .int .u64 c, .int .u64 d, .int .u64 e] := by
  unfold U1 at ha hb hc hd he
  have e0 : l0 (vl5 a b c d e) = a := by unfold vl5 l0; omega
  have e1 : l1 (vl5 a b c d e) = b := by unfold vl5 l1; omega
  have e2 : l2 (vl5 a b c d e) = c := by unfold vl5 l2; omega
  have e3 : l3 (vl5 a b c d e) = d := by unfold vl5 l3; omega
  have e4 : l4 (vl5 a b c d e) = e := by unfold vl5 l4; omega
  unfold wv
  rw [e0, e1, e2, e3, e4]
set_option maxRecDepth 100000 in
theorem open_wide {H : Type} {enc : TypeId × Value → H} {W : World} {base : Nat} {v : Value} {d : DataW H} {p : List MemPlace} (hv : Value.okWide Try.prog W .any base 31 v) (h : DataW.Trod enc Try.prog W 0 (fun _ => true) true 31 v d p) :
    ∃ z : Int, v = wv z ∧ p = [] ∧ ∀ (W' : World) (sp : Nat → Bool), DataW.Trod enc Try.prog W' 0 sp true 31 v d [] := by
  obtain ⟨cs, rfl, hsz, _⟩ : ∃ cs, v = .agg cs ∧ cs.size = Try.prog.cellsOf 31 ∧ Row.okWide Try.prog W .any base 31 cs := by
    simpa [Value.okWide, Try.underlying31] using hv
  rw [Try.cl31] at hsz
  obtain ⟨c0, c1, c2, c3, c4, rfl⟩ : ∃ c0 c1 c2 c3 c4, cs = #[c0, c1, c2, c3, c4] := by
    obtain ⟨l⟩ := cs
    match l, hsz with
    | [a, b, c, d, e], _ => exact ⟨a, b, c, d, e, rfl⟩
  obtain ⟨fuel, hf⟩ := h
  obtain ⟨xs, m, rfl, hx, _, hn, hi⟩ := DataW.trod_array Try.underlying31 hf
  have i0 := hi 0 (by decide)
  have i1 := hi 1 (by decide)
  have i2 := hi 2 (by decide)
  have i3 := hi 3 (by decide)
  have i4 := hi 4 (by decide)
  simp only [Try.cl22, Value.cells] at i0 i1 i2 i3 i4
  obtain ⟨y0, y1, y2, y3, y4, rfl⟩ : ∃ y0 y1 y2 y3 y4, xs = [y0, y1, y2, y3, y4] := by
    match xs, hn with
    | [a, b, c, d, e], _ => exact ⟨a, b, c, d, e, rfl⟩
  simp at i0 i1 i2 i3 i4
  obtain ⟨x0, e0, rfl, w0⟩ := DataW.trod_int Try.underlying22 i0
  obtain ⟨x1, e1, rfl, w1⟩ := DataW.trod_int Try.underlying22 i1
  obtain ⟨x2, e2, rfl, w2⟩ := DataW.trod_int Try.underlying22 i2
  obtain ⟨x3, e3, rfl, w3⟩ := DataW.trod_int Try.underlying22 i3
  obtain ⟨x4, e4, rfl, w4⟩ := DataW.trod_int Try.underlying22 i4
  simp at e0 e1 e2 e3 e4
  subst e0 e1 e2 e3 e4
  simp at hx
  obtain ⟨rfl, rfl⟩ := hx
  refine ⟨vl5 x0 x1 x2 x3 x4, (wv_vl (wf_u1 w0) (wf_u1 w1) (wf_u1 w2) (wf_u1 w3) (wf_u1 w4)).symm, rfl, fun W' sp => ⟨2, ?_⟩⟩
  simp [DataW.trod, Value.cells, Try.underlying31, Try.underlying22, Try.cl31, Try.cl22, w0, w1, w2, w3, w4, show List.range 5 = [0, 1, 2, 3, 4] from rfl]
end Go.Proofs.Ythpekbohmfmffaa
/-
  A summary that came in.
-/
namespace Go.Proofs.Ythpekbohmfmffaa
open Go.ChangeShapes Go.WideShapes Go.ChangeAt
open Go.RowKit
theorem Try.laidOut : laidOutB Try.prog = true := by kernel_rfl
theorem trodAll_stays {H : Type} {enc : TypeId × Value → H} {W W' : World} {sp' : Nat → Bool} : ∀ {ts : List TypeId} {vs : List Value} {ds : List (DataW H)} {ps : List MemPlace}, (∀ t ∈ ts, Try.prog.readableRec t = true ∧ t < Try.prog.types.size) → DataW.TrodAll enc Try.prog W 0 (fun _ => true) true ts vs ds ps → (∀ p ∈ ps, W.sameAt W' p) → (∀ p ∈ ps, sp' p.block = true) → DataW.TrodAll enc Try.prog W' 0 sp' true ts vs ds ps
  | [], [], [], _, _, h, _, _ => h
  | _ :: _, _ :: _, _ :: _, _, hT, ⟨p, q, h1, h2, e⟩, hm, hs => ⟨p, q, WideElems.Trod_stays Try.laidOut (hT _ (List.mem_cons.2 (Or.inl rfl))).1 (hT _ (List.mem_cons.2 (Or.inl rfl))).2 h1 (fun x hx => hm x (by rw [e]; exact List.mem_append_left _ hx)) (fun x hx => hs x (by rw [e]; exact List.mem_append_left _ hx)),
      trodAll_stays (fun t ht => hT t (List.mem_cons.2 (Or.inr ht))) h2 (fun x hx => hm x (by rw [e]; exact List.mem_append_right _ hx)) (fun x hx => hs x (by rw [e]; exact List.mem_append_right _ hx)), e⟩
section
variable {H : Type} {enc : TypeId × Value → H} {W : World} {sp : Nat → Bool} {fuel : Nat} {cs : List Value} {x : DataW H × List MemPlace}
theorem cut4 (h : DataW.trod enc Try.prog W 0 sp true fuel 24 cs = some x) : ∃ n : Int, (0 ≤ n ∧ n < MM) ∧ cs = [.int .u64 (l0 n), .int .u64 (l1 n), .int .u64 (l2 n), .int .u64 (l3 n)] := by
  obtain ⟨xs, m, rfl, _, hlen, hn, hi⟩ := DataW.trod_array Try.underlying24 h
  rw [Try.cl24] at hlen
  obtain ⟨c0, c1, c2, c3, rfl⟩ : ∃ c0 c1 c2 c3, cs = [c0, c1, c2, c3] := by
    match cs, hlen with
    | [a, b, c, d], _ => exact ⟨a, b, c, d, rfl⟩
  obtain ⟨y0, y1, y2, y3, rfl⟩ : ∃ y0 y1 y2 y3, xs = [y0, y1, y2, y3] := by
    match xs, hn with
    | [a, b, c, d], _ => exact ⟨a, b, c, d, rfl⟩
  have i0 := hi 0 (by decide)
  have i1 := hi 1 (by decide)
  have i2 := hi 2 (by decide)
  have i3 := hi 3 (by decide)
  simp only [Try.cl22] at i0 i1 i2 i3
  simp at i0 i1 i2 i3
  obtain ⟨x0, e0, _, w0⟩ := DataW.trod_int Try.underlying22 i0
  obtain ⟨x1, e1, _, w1⟩ := DataW.trod_int Try.underlying22 i1
  obtain ⟨x2, e2, _, w2⟩ := DataW.trod_int Try.underlying22 i2
  obtain ⟨x3, e3, _, w3⟩ := DataW.trod_int Try.underlying22 i3
  simp at e0 e1 e2 e3
  subst e0 e1 e2 e3
  have u : U4 x0 x1 x2 x3 := ⟨wf_u1 w0, wf_u1 w1, wf_u1 w2, wf_u1 w3⟩
  exact ⟨vl x0 x1 x2 x3, vl_bd u, by rw [l0_vl u, l1_vl u, l2_vl u, l3_vl u]⟩
theorem cut6 (h : DataW.trod enc Try.prog W 0 sp true fuel 26 cs = some x) : ∃ d : D3, d.ok ∧ (-9223372036854775808 ≤ d.s ∧ d.s < 9223372036854775808) ∧ cs = [.bool d.b, .int .u64 (l0 d.n), .int .u64 (l1 d.n), .int .u64 (l2 d.n), .int .u64 (l3 d.n), .int .i64 d.s] := by
  obtain ⟨y0, y1, y2, m, _, hl, h0, h1, h2⟩ := Go.Deep.trod_struct3 Try.underlying26 h
  rw [Try.cl40] at hl
  obtain ⟨c0, c1, c2, c3, c4, c5, rfl⟩ : ∃ c0 c1 c2 c3 c4 c5, cs = [c0, c1, c2, c3, c4, c5] := by
    match cs, hl with
    | [a, b, c, d, e, f], _ => exact ⟨a, b, c, d, e, f, rfl⟩
  simp [Try.cl4, Try.cl24, Try.cl3] at h0 h1 h2
  obtain ⟨b, e0, _⟩ := DataW.trod_bool Try.underlying4 h0
  obtain ⟨n, hn, e1⟩ := cut4 h1
  obtain ⟨s, e2, _, w2⟩ := DataW.trod_int Try.underlying3 h2
  simp at e0 e1 e2
  obtain ⟨e10, e11, e12, e13⟩ := e1
  subst e0 e10 e11 e12 e13 e2
  exact ⟨⟨b, n, s⟩, hn, wf_i1 w2, rfl⟩
theorem cut5 (h : DataW.trod enc Try.prog W 0 sp true fuel 31 cs = some x) : ∃ z : Int, cs = [.int .u64 (l0 z), .int .u64 (l1 z), .int .u64 (l2 z), .int .u64 (l3 z), .int .u64 (l4 z)] := by
  obtain ⟨xs, m, rfl, _, hlen, hn, hi⟩ := DataW.trod_array Try.underlying31 h
  rw [Try.cl31] at hlen
  obtain ⟨c0, c1, c2, c3, c4, rfl⟩ : ∃ c0 c1 c2 c3 c4, cs = [c0, c1, c2, c3, c4] := by
    match cs, hlen with
    | [a, b, c, d, e], _ => exact ⟨a, b, c, d, e, rfl⟩
  obtain ⟨y0, y1, y2, y3, y4, rfl⟩ : ∃ y0 y1 y2 y3 y4, xs = [y0, y1, y2, y3, y4] := by
    match xs, hn with
    | [a, b, c, d, e], _ => exact ⟨a, b, c, d, e, rfl⟩
  have i0 := hi 0 (by decide)
  have i1 := hi 1 (by decide)
  have i2 := hi 2 (by decide)
  have i3 := hi 3 (by decide)
  have i4 := hi 4 (by decide)
  simp only [Try.cl22] at i0 i1 i2 i3 i4
  simp at i0 i1 i2 i3 i4
  obtain ⟨x0, e0, _, w0⟩ := DataW.trod_int Try.underlying22 i0
  obtain ⟨x1, e1, _, w1⟩ := DataW.trod_int Try.underlying22 i1
  obtain ⟨x2, e2, _, w2⟩ := DataW.trod_int Try.underlying22 i2
  obtain ⟨x3, e3, _, w3⟩ := DataW.trod_int Try.underlying22 i3
  obtain ⟨x4, e4, _, w4⟩ := DataW.trod_int Try.underlying22 i4
  simp at e0 e1 e2 e3 e4
  subst e0 e1 e2 e3 e4
  have := wv_vl (wf_u1 w0) (wf_u1 w1) (wf_u1 w2) (wf_u1 w3) (wf_u1 w4)
  unfold wv at this
  simp at this
  obtain ⟨f0, f1, f2, f3, f4⟩ := this
  exact ⟨vl5 x0 x1 x2 x3 x4, by rw [f0, f1, f2, f3, f4]⟩
theorem Try.cl33 : Try.prog.cellsOf 33 = 23 := by kernel_rfl
def I9 (x : Int) : Prop := -9223372036854775808 ≤ x ∧ x < 9223372036854775808
set_option maxRecDepth 100000 in
theorem cut23 (h : DataW.trod enc Try.prog W 0 sp true fuel 33 cs = some x) : ∃ S : Sm, S.ok ∧ (I9 S.r ∧ I9 S.f ∧ I9 S.k ∧ I9 S.d ∧ I9 S.e) ∧ cs = sml S := by
  obtain ⟨xs, n, rfl, _, hl, hlen, hi⟩ := DataW.trod_struct Try.underlying33 h
  rw [Try.cl33] at hl
  obtain ⟨c0, c1, c2, c3, c4, c5, c6, c7, c8, c9, c10, c11, c12, c13, c14, c15, c16, c17, c18, c19, c20, c21, c22, rfl⟩ : ∃ c0 c1 c2 c3 c4 c5 c6 c7 c8 c9 c10 c11 c12 c13 c14 c15 c16 c17 c18 c19 c20 c21 c22, cs = [c0, c1, c2, c3, c4, c5, c6, c7, c8, c9, c10, c11, c12, c13, c14, c15, c16, c17, c18, c19, c20, c21, c22] := by
    match cs, hl with
    | [a0, a1, a2, a3, a4, a5, a6, a7, a8, a9, a10, a11, a12, a13, a14, a15, a16, a17, a18, a19, a20, a21, a22], _ => exact ⟨a0, a1, a2, a3, a4, a5, a6, a7, a8, a9, a10, a11, a12, a13, a14, a15, a16, a17, a18, a19, a20, a21, a22, rfl⟩
  obtain ⟨y0, y1, y2, y3, y4, y5, y6, y7, y8, rfl⟩ : ∃ y0 y1 y2 y3 y4 y5 y6 y7 y8, xs = [y0, y1, y2, y3, y4, y5, y6, y7, y8] := by
    match xs, hlen with
    | [a0, a1, a2, a3, a4, a5, a6, a7, a8], _ => exact ⟨a0, a1, a2, a3, a4, a5, a6, a7, a8, rfl⟩
  have i0 := hi 0 _ rfl
  have i1 := hi 1 _ rfl
  have i2 := hi 2 _ rfl
  have i3 := hi 3 _ rfl
  have i4 := hi 4 _ rfl
  have i5 := hi 5 _ rfl
  have i6 := hi 6 _ rfl
  have i7 := hi 7 _ rfl
  have i8 := hi 8 _ rfl
  simp [Try.cl3, Try.cl4, Try.cl31, Try.cl40] at i0 i1 i2 i3 i4 i5 i6 i7 i8
  obtain ⟨r, e0, _, w0⟩ := DataW.trod_int Try.underlying3 i0
  obtain ⟨f, e1, _, w1⟩ := DataW.trod_int Try.underlying3 i1
  obtain ⟨k, e2, _, w2⟩ := DataW.trod_int Try.underlying3 i2
  obtain ⟨d, e3, _, w3⟩ := DataW.trod_int Try.underlying3 i3
  obtain ⟨er, e4, _, w4⟩ := DataW.trod_int Try.underlying3 i4
  obtain ⟨tt, e5⟩ := cut5 i5
  obtain ⟨so, e6, _⟩ := DataW.trod_bool Try.underlying4 i6
  obtain ⟨mn, hm, _, e7⟩ := cut6 i7
  obtain ⟨mx, hx, _, e8⟩ := cut6 i8
  simp at e0 e1 e2 e3 e4 e5 e6 e7 e8
  obtain ⟨e50, e51, e52, e53, e54⟩ := e5
  obtain ⟨e70, e71, e72, e73, e74, e75⟩ := e7
  obtain ⟨e80, e81, e82, e83, e84, e85⟩ := e8
  subst e0 e1 e2 e3 e4 e50 e51 e52 e53 e54 e6 e70 e71 e72 e73 e74 e75 e80 e81 e82 e83 e84 e85
  exact ⟨⟨r, f, k, d, er, tt, so, mn, mx⟩, ⟨hm, hx⟩, ⟨wf_i1 w0, wf_i1 w1, wf_i1 w2, wf_i1 w3, wf_i1 w4⟩, rfl⟩
end
theorem open_sum {H : Type} {enc : TypeId × Value → H} {W : World} {base : Nat} {v : Value} {d : DataW H} {p : List MemPlace} (hv : Value.okWide Try.prog W .any base 33 v) (h : DataW.Trod enc Try.prog W 0 (fun _ => true) true 33 v d p) : ∃ S : Sm, S.ok ∧ (I9 S.r ∧ I9 S.f ∧ I9 S.k ∧ I9 S.d ∧ I9 S.e) ∧ v = smv S := by
  obtain ⟨cs, rfl, hsz, _⟩ : ∃ cs, v = .agg cs ∧ cs.size = Try.prog.cellsOf 33 ∧ Row.okWide Try.prog W .any base 33 cs := by
    simpa [Value.okWide, Try.underlying33] using hv
  obtain ⟨fuel, hf⟩ := h
  obtain ⟨S, h1, h2, h3⟩ := cut23 hf
  refine ⟨S, h1, h2, ?_⟩
  have : cs = (sml S).toArray := by rw [← h3]; simp [Value.cells]
  rw [this]; rfl
end Go.Proofs.Ythpekbohmfmffaa
/-
  Join is a monoid over summaries of one scale.
-/
namespace Go.Proofs.Ythpekbohmfmffaa
open Go.RowKit
def mnj (S T : Sm) : D3 := if T.so then (if S.so then (if cmpv T.mn S.mn < 0 then T.mn else S.mn) else T.mn) else S.mn
def mxj (S T : Sm) : D3 := if T.so then (if S.so then (if 0 < cmpv T.mx S.mx then T.mx else S.mx) else T.mx) else S.mx
theorem jn_eq (S T : Sm) : jn S T = ⟨w64 (S.r + T.r), w64 (S.f + T.f), w64 (S.k + T.k), w64 (S.d + T.d), les S.e T.e, S.tt + T.tt, S.so || T.so, mnj S T, mxj S T⟩ := by
  unfold jn str mnj mxj
  cases hT : T.so <;> cases hS : S.so <;> simp
structure Gd (s : Int) (S : Sm) : Prop where
  z : Zn S
  v : S.so = true → Vd s S.mn ∧ Vd s S.mx
  g : I9 S.r ∧ I9 S.f ∧ I9 S.k ∧ I9 S.d
/-- The lesser, the greater of two decimals. -/
def mi (a b : D3) : D3 := if b.val < a.val then b else a
def ma (a b : D3) : D3 := if a.val < b.val then b else a
theorem cmv_lt {a b : Int} : cm a b < 0 ↔ a < b := by unfold cm; split; omega; split; omega; omega
theorem cmv_gt {a b : Int} : 0 < cm a b ↔ b < a := by unfold cm; split; omega; split; omega; omega
theorem mnj_t {s : Int} {S T : Sm} (hS : Gd s S) (hT : Gd s T) (a : S.so = true) (b : T.so = true) : mnj S T = mi S.mn T.mn := by
  unfold mnj mi
  rw [if_pos b, if_pos a, cmpv_vd (hT.v b).1 (hS.v a).1]
  simp only [cmv_lt]
theorem mxj_t {s : Int} {S T : Sm} (hS : Gd s S) (hT : Gd s T) (a : S.so = true) (b : T.so = true) : mxj S T = ma S.mx T.mx := by
  unfold mxj ma
  rw [if_pos b, if_pos a, cmpv_vd (hT.v b).2 (hS.v a).2]
  simp only [cmv_gt]
theorem mi_vd {s : Int} {a b : D3} (ha : Vd s a) (hb : Vd s b) : Vd s (mi a b) := by unfold mi; split; exact hb; exact ha
theorem ma_vd {s : Int} {a b : D3} (ha : Vd s a) (hb : Vd s b) : Vd s (ma a b) := by unfold ma; split; exact hb; exact ha
theorem mi_assoc {s : Int} {a b c : D3} (ha : Vd s a) (hb : Vd s b) (hc : Vd s c) : mi (mi a b) c = mi a (mi b c) := by
  refine vd_inj (mi_vd (mi_vd ha hb) hc) (mi_vd ha (mi_vd hb hc)) ?_
  unfold mi
  by_cases h1 : b.val < a.val <;> by_cases h2 : c.val < b.val <;> by_cases h3 : c.val < a.val <;> simp [h1, h2, h3] <;> omega
theorem ma_assoc {s : Int} {a b c : D3} (ha : Vd s a) (hb : Vd s b) (hc : Vd s c) : ma (ma a b) c = ma a (ma b c) := by
  refine vd_inj (ma_vd (ma_vd ha hb) hc) (ma_vd ha (ma_vd hb hc)) ?_
  unfold ma
  by_cases h1 : a.val < b.val <;> by_cases h2 : b.val < c.val <;> by_cases h3 : a.val < c.val <;> simp [h1, h2, h3] <;> omega
theorem w64_i9 (x : Int) : I9 (w64 x) := by unfold w64 I9; rw [IntKind.wrap_i64]; omega
theorem jn_gd {s : Int} {S T : Sm} (hS : Gd s S) (hT : Gd s T) : Gd s (jn S T) := by
  refine ⟨jn_z hS.z, fun h => ?_, ?_⟩
  · rw [jn_eq] at h ⊢
    simp only at h ⊢
    cases a : S.so with
    | true =>
      cases b : T.so with
      | true => rw [mnj_t hS hT a b, mxj_t hS hT a b]; exact ⟨mi_vd (hS.v a).1 (hT.v b).1, ma_vd (hS.v a).2 (hT.v b).2⟩
      | false => unfold mnj mxj; simp only [b, Bool.false_eq_true, if_false]; exact hS.v a
    | false =>
      cases b : T.so with
      | true => unfold mnj mxj; simp only [a, b, Bool.false_eq_true, if_false, if_true]; exact hT.v b
      | false => rw [a, b] at h; cases h
  · rw [jn_eq]; exact ⟨w64_i9 _, w64_i9 _, w64_i9 _, w64_i9 _⟩
theorem jn_assoc {s : Int} {A B C : Sm} (ha : Gd s A) (hb : Gd s B) (hc : Gd s C) : jn (jn A B) C = jn A (jn B C) := by
  have e1 : mnj (jn A B) C = mnj A (jn B C) := by
    have h1 := jn_gd ha hb
    have h2 := jn_gd hb hc
    cases a : A.so <;> cases b : B.so <;> cases c : C.so
    case true.true.true =>
      rw [mnj_t h1 hc (by rw [jn_eq]; simp [a]) c, mnj_t ha h2 a (by rw [jn_eq]; simp [b])]
      rw [jn_eq A B, jn_eq B C]; simp only [mnj_t ha hb a b, mnj_t hb hc b c]
      exact mi_assoc (ha.v a).1 (hb.v b).1 (hc.v c).1
    all_goals (unfold mnj; simp only [jn_eq]; unfold mnj; simp [a, b, c])
  have e2 : mxj (jn A B) C = mxj A (jn B C) := by
    have h1 := jn_gd ha hb
    have h2 := jn_gd hb hc
    cases a : A.so <;> cases b : B.so <;> cases c : C.so
    case true.true.true =>
      rw [mxj_t h1 hc (by rw [jn_eq]; simp [a]) c, mxj_t ha h2 a (by rw [jn_eq]; simp [b])]
      rw [jn_eq A B, jn_eq B C]; simp only [mxj_t ha hb a b, mxj_t hb hc b c]
      exact ma_assoc (ha.v a).2 (hb.v b).2 (hc.v c).2
    all_goals (unfold mxj; simp only [jn_eq]; unfold mxj; simp [a, b, c])
  rw [jn_eq (jn A B) C, jn_eq A (jn B C), e1, e2, jn_eq A B, jn_eq B C]
  simp only [w64_l, w64_r, les_assoc, Int.add_assoc, Bool.or_assoc]
theorem w64_id {x : Int} (h : I9 x) : w64 x = x := by unfold I9 at h; unfold w64; rw [IntKind.wrap_i64]; omega
theorem jn_0l {s : Int} {A : Sm} (h : Gd s A) : jn sm0 A = A := by
  rw [jn_eq]
  obtain ⟨r, f, k, d, er, tt, so, mn, mx⟩ := A
  have hz := h.z
  unfold Zn at hz
  simp only at hz
  obtain ⟨g1, g2, g3, g4⟩ := h.g
  simp only at g1 g2 g3 g4
  cases so with
  | true => simp [sm0, mnj, mxj, les, w64_id g1, w64_id g2, w64_id g3, w64_id g4]
  | false => obtain ⟨z1, z2⟩ := hz rfl; subst z1 z2; simp [sm0, mnj, mxj, les, w64_id g1, w64_id g2, w64_id g3, w64_id g4]
theorem jn_0r {s : Int} {A : Sm} (h : Gd s A) : jn A sm0 = A := by
  rw [jn_eq]
  obtain ⟨r, f, k, d, er, tt, so, mn, mx⟩ := A
  obtain ⟨g1, g2, g3, g4⟩ := h.g
  simp only at g1 g2 g3 g4
  have he : les er 0 = er := les_A rfl
  simp [sm0, mnj, mxj, he, w64_id g1, w64_id g2, w64_id g3, w64_id g4]
theorem sm0_gd (s : Int) : Gd s sm0 := ⟨sm0_z, fun h => (by cases h), (by unfold sm0 I9; simp)⟩
theorem fold_gd {s : Int} : ∀ (L : List Sm) {S : Sm}, Gd s S → (∀ T ∈ L, Gd s T) → Gd s (L.foldl jn S)
  | [], _, h, _ => h
  | T :: L, _, h, hL => fold_gd L (jn_gd h (hL T (by simp))) (fun U hU => hL U (by simp [hU]))
theorem fold_jn {s : Int} : ∀ (L : List Sm) {A B : Sm}, Gd s A → Gd s B → (∀ T ∈ L, Gd s T) → L.foldl jn (jn A B) = jn A (L.foldl jn B)
  | [], _, _, _, _, _ => rfl
  | T :: L, A, B, ha, hb, hL => by
    show L.foldl jn (jn (jn A B) T) = jn A (L.foldl jn (jn B T))
    rw [jn_assoc ha hb (hL T (by simp))]
    exact fold_jn L ha (jn_gd hb (hL T (by simp))) (fun U hU => hL U (by simp [hU]))
/-- However a list is cut, the parts come to the same together. -/
theorem fold_cut {s : Int} (L1 L2 : List Sm) (h1 : ∀ T ∈ L1, Gd s T) (h2 : ∀ T ∈ L2, Gd s T) : (L1 ++ L2).foldl jn sm0 = jn (L1.foldl jn sm0) (L2.foldl jn sm0) := by
  have g1 := fold_gd L1 (sm0_gd s) h1
  rw [List.foldl_append, ← fold_jn L2 g1 (sm0_gd s) h2, jn_0r g1]
end Go.Proofs.Ythpekbohmfmffaa
/-
  A value that came in.
-/
namespace Go.Proofs.Ythpekbohmfmffaa
open Go.ChangeShapes Go.WideShapes Go.ChangeAt
open Go.RowKit
theorem Try.cl28 : Try.prog.cellsOf 28 = 10 := by kernel_rfl
theorem Try.cl9 : Try.prog.cellsOf 9 = 1 := by kernel_rfl
/-- A value that came in. -/
structure V10 where
  K : Int
  n : D3
  fl : Bool
  tx : ByteArray
  er : Int
abbrev V10.v (x : V10) : Value := vl10 x.K x.n.b x.n.n x.n.s x.fl x.tx x.er
def V10.cells (x : V10) : List Value := [.int .i64 x.K, .bool x.n.b, .int .u64 (l0 x.n.n), .int .u64 (l1 x.n.n), .int .u64 (l2 x.n.n), .int .u64 (l3 x.n.n), .int .i64 x.n.s, .bool x.fl, .string x.tx, .int .i64 x.er]
set_option maxRecDepth 100000 in
theorem cut10 {H : Type} {enc : TypeId × Value → H} {W : World} {sp : Nat → Bool} {fuel : Nat} {cs : List Value} {x : DataW H × List MemPlace} (h : DataW.trod enc Try.prog W 0 sp true fuel 28 cs = some x) : ∃ v : V10, v.n.ok ∧ (I9 v.K ∧ I9 v.n.s ∧ I9 v.er) ∧ cs = v.cells := by
  obtain ⟨xs, n, rfl, _, hl, hlen, hi⟩ := DataW.trod_struct Try.underlying28 h
  rw [Try.cl28] at hl
  obtain ⟨c0, c1, c2, c3, c4, c5, c6, c7, c8, c9, rfl⟩ : ∃ c0 c1 c2 c3 c4 c5 c6 c7 c8 c9, cs = [c0, c1, c2, c3, c4, c5, c6, c7, c8, c9] := by
    match cs, hl with
    | [a0, a1, a2, a3, a4, a5, a6, a7, a8, a9], _ => exact ⟨a0, a1, a2, a3, a4, a5, a6, a7, a8, a9, rfl⟩
  obtain ⟨y0, y1, y2, y3, y4, rfl⟩ : ∃ y0 y1 y2 y3 y4, xs = [y0, y1, y2, y3, y4] := by
    match xs, hlen with
    | [a0, a1, a2, a3, a4], _ => exact ⟨a0, a1, a2, a3, a4, rfl⟩
  have i0 := hi 0 _ rfl
  have i1 := hi 1 _ rfl
  have i2 := hi 2 _ rfl
  have i3 := hi 3 _ rfl
  have i4 := hi 4 _ rfl
  simp [Try.cl3, Try.cl4, Try.cl9, Try.cl40] at i0 i1 i2 i3 i4
  obtain ⟨K, e0, _, w0⟩ := DataW.trod_int Try.underlying3 i0
  obtain ⟨d, hd, hs, e1⟩ := cut6 i1
  obtain ⟨fl, e2, _⟩ := DataW.trod_bool Try.underlying4 i2
  obtain ⟨tx, e3, _⟩ := DataW.trod_string Try.underlying9 i3
  obtain ⟨er, e4, _, w4⟩ := DataW.trod_int Try.underlying3 i4
  simp at e0 e1 e2 e3 e4
  obtain ⟨e10, e11, e12, e13, e14, e15⟩ := e1
  subst e0 e10 e11 e12 e13 e14 e15 e2 e3 e4
  exact ⟨⟨K, d, fl, tx, er⟩, hd, ⟨wf_i1 w0, hs, wf_i1 w4⟩, rfl⟩
theorem open_value {H : Type} {enc : TypeId × Value → H} {W : World} {base : Nat} {v : Value} {d : DataW H} {p : List MemPlace} (hv : Value.okWide Try.prog W .any base 28 v) (h : DataW.Trod enc Try.prog W 0 (fun _ => true) true 28 v d p) : ∃ x : V10, x.n.ok ∧ (I9 x.K ∧ I9 x.n.s ∧ I9 x.er) ∧ v = x.v := by
  obtain ⟨cs, rfl, hsz, _⟩ : ∃ cs, v = .agg cs ∧ cs.size = Try.prog.cellsOf 28 ∧ Row.okWide Try.prog W .any base 28 cs := by
    simpa [Value.okWide, Try.underlying28] using hv
  obtain ⟨fuel, hf⟩ := h
  obtain ⟨S, h1, h2, h3⟩ := cut10 hf
  refine ⟨S, h1, h2, ?_⟩
  have : cs = (V10.cells S).toArray := by rw [← h3]; simp [Value.cells]
  rw [this]; rfl
end Go.Proofs.Ythpekbohmfmffaa
/-
  Of, whatever the value.
-/
namespace Go.Proofs.Ythpekbohmfmffaa
open Go.RowKit
theorem i9_0 : I9 0 := ⟨by decide, by decide⟩
theorem i9_1 : I9 1 := ⟨by decide, by decide⟩
theorem d0_ok : d0.ok := ⟨Int.le_refl _, by unfold d0 MM; decide⟩
/-- Of's answer: one summary, good at its scale. -/
theorem of_n (x : V10) (hx : x.n.ok) (sc9 : Int) : ∃ S : Sm, S.ok ∧ Gd sc9 S ∧ ∀ w, Calls Try.prog 10 #[x.v, .int .i64 sc9] w fun e w' => e = .returned (smv S) ∧ Mo w w' := by
  obtain ⟨K, ⟨vb, vn, vs⟩, fl, tx, er⟩ := x
  obtain ⟨hn0, hn⟩ := hx
  simp only at hn0 hn
  have gz : ∀ (r f k d e : Int), I9 r → I9 f → I9 k → I9 d → Gd sc9 ⟨r, f, k, d, e, 0, false, d0, d0⟩ := fun r f k d e a b c g => ⟨fun _ => ⟨rfl, rfl⟩, fun h => (by cases h), ⟨a, b, c, g⟩⟩
  have bad : ∀ (hc : ∀ w, Calls Try.prog 10 #[vl10 K vb vn vs fl tx er, .int .i64 sc9] w fun e w' => e = .returned (sm 1 0 0 1 2 0 false false 0 0 false 0 0) ∧ Mo w w'), ∃ S : Sm, S.ok ∧ Gd sc9 S ∧ ∀ w, Calls Try.prog 10 #[vl10 K vb vn vs fl tx er, .int .i64 sc9] w fun e w' => e = .returned (smv S) ∧ Mo w w' :=
    fun hc => ⟨⟨1, 0, 0, 1, 2, 0, false, d0, d0⟩, ⟨d0_ok, d0_ok⟩, gz 1 0 0 1 2 i9_1 i9_0 i9_0 i9_1, hc⟩
  by_cases c0 : K = 0
  · exact ⟨⟨1, 0, 1, 0, 0, 0, false, d0, d0⟩, ⟨d0_ok, d0_ok⟩, gz 1 0 1 0 0 i9_1 i9_0 i9_1 i9_0, fun w => of_a K vb vn vs fl tx er sc9 (decide_eq_true c0)⟩
  by_cases c4 : K = 4
  · by_cases ce : 1 ≤ er
    · exact ⟨⟨1, 0, 0, 1, er, 0, false, d0, d0⟩, ⟨d0_ok, d0_ok⟩, gz 1 0 0 1 er i9_1 i9_0 i9_0 i9_1, fun w => of_b K vb vn vs fl tx er sc9 (decide_eq_false c0) (decide_eq_true c4) (decide_eq_true ce)⟩
    · exact bad fun w => of_c K vb vn vs fl tx er sc9 (decide_eq_false c0) (decide_eq_true c4) (decide_eq_false ce) (decide_eq_false (by omega)) (decide_eq_false (by omega)) (decide_eq_false (by omega))
  by_cases c1 : K = 1
  · by_cases cs : vs = sc9
    · by_cases cc : ck vb vn vs = 0
      · exact ⟨⟨1, 1, 0, 0, 0, sv vb vn, true, ⟨vb, vn, vs⟩, ⟨vb, vn, vs⟩⟩, ⟨⟨hn0, hn⟩, ⟨hn0, hn⟩⟩, ⟨fun h => (by cases h), fun _ => ⟨⟨⟨hn0, hn⟩, cc, cs⟩, ⟨⟨hn0, hn⟩, cc, cs⟩⟩, ⟨i9_1, i9_1, i9_0, i9_0⟩⟩, fun w => of_d K vb vn vs fl tx er sc9 hn0 hn (decide_eq_false c0) (decide_eq_false c4) (decide_eq_true c1) (decide_eq_true cs) (decide_eq_true cc)⟩
      · exact bad fun w => of_f K vb vn vs fl tx er sc9 hn0 hn (decide_eq_false c0) (decide_eq_false c4) (decide_eq_true c1) (decide_eq_true cs) (decide_eq_false cc) (decide_eq_false (by omega)) (decide_eq_false (by omega))
    · exact bad fun w => of_e K vb vn vs fl tx er sc9 (decide_eq_false c0) (decide_eq_false c4) (decide_eq_true c1) (decide_eq_false cs) (decide_eq_false (by omega)) (decide_eq_false (by omega))
  by_cases c2 : K = 2
  · exact ⟨⟨1, 1, 0, 0, 0, 0, false, d0, d0⟩, ⟨d0_ok, d0_ok⟩, gz 1 1 0 0 0 i9_1 i9_1 i9_0 i9_0, fun w => of_h K vb vn vs fl tx er sc9 (decide_eq_false c0) (decide_eq_false c4) (decide_eq_false c1) (decide_eq_true c2)⟩
  by_cases c3 : K = 3
  · exact ⟨⟨1, 1, 0, 0, 0, 0, false, d0, d0⟩, ⟨d0_ok, d0_ok⟩, gz 1 1 0 0 0 i9_1 i9_1 i9_0 i9_0, fun w => of_i K vb vn vs fl tx er sc9 (decide_eq_false c0) (decide_eq_false c4) (decide_eq_false c1) (decide_eq_false c2) (decide_eq_true c3)⟩
  exact bad fun w => of_j K vb vn vs fl tx er sc9 (decide_eq_false c0) (decide_eq_false c4) (decide_eq_false c1) (decide_eq_false c2) (decide_eq_false c3)
end Go.Proofs.Ythpekbohmfmffaa
/-
  Summaries put behind a slice of one's own.
-/
namespace Go.Proofs.Ythpekbohmfmffaa
open Go.RowKit
theorem inf33 : ∃ i, Try.prog.info? 33 = some i ∧ i.zero = some (.agg #[.int .i64 0, .int .i64 0, .int .i64 0, .int .i64 0, .int .i64 0, .int .u64 0, .int .u64 0, .int .u64 0, .int .u64 0, .int .u64 0, .bool false, .bool false, .int .u64 0, .int .u64 0, .int .u64 0, .int .u64 0, .int .i64 0, .bool false, .int .u64 0, .int .u64 0, .int .u64 0, .int .u64 0, .int .i64 0]) ∧ i.size = 23 ∧ i.bytes = 184 := by
  have h : (Try.prog.info? 33).map (fun i => (i.zero, i.size, i.bytes)) = some (some (.agg #[.int .i64 0, .int .i64 0, .int .i64 0, .int .i64 0, .int .i64 0, .int .u64 0, .int .u64 0, .int .u64 0, .int .u64 0, .int .u64 0, .bool false, .bool false, .int .u64 0, .int .u64 0, .int .u64 0, .int .u64 0, .int .i64 0, .bool false, .int .u64 0, .int .u64 0, .int .u64 0, .int .u64 0, .int .i64 0]), 23, 184) := by kernel_rfl
  cases hi : Try.prog.info? 33 with
  | none => rw [hi] at h; cases h
  | some i =>
    rw [hi] at h
    simp at h
    exact ⟨i, rfl, h.1, h.2.1, h.2.2⟩
/-- What an append leaves as it was. -/
structure AppW (v : Value) (w w' : World) : Prop where
  os : w'.os = w.os
  tape : w'.tape = w.tape
  output : w'.output = w.output
  size : w.heap.size ≤ w'.heap.size
  block : ∀ k, k < w.heap.size → v.ownBlock ≠ some k → w'.heap[k]? = w.heap[k]?
  fz : ∀ a, w'.frozen? a = w.frozen? a
theorem AppW.at {v : Value} {w w' : World} (h : AppW v w w') {j : Nat} {vs : List Value} (hA : At w j vs) (hn : v.ownBlock ≠ some j) : At w' j vs :=
  ⟨fun i u hu => (World.cell?_of_block (a := ⟨j, 0 + i, none⟩) (h.block j hA.2.2 hn)).trans (hA.1 i u hu), fun o => (h.fz _).trans (hA.2.1 o), Nat.lt_of_lt_of_le hA.2.2 h.size⟩
theorem AppW.mo {v : Value} {w w' a : World} (h : AppW v w w') (hM : Mo a w) (hn : ∀ k, v.ownBlock = some k → a.heap.size ≤ k) : Mo a w' :=
  ⟨⟨h.os.trans hM.1.os, h.tape.trans hM.1.tape, h.output.trans hM.1.output, Nat.le_trans hM.1.size h.size, fun k hk => (h.block k (Nat.lt_of_lt_of_le hk hM.1.size) (fun e => by have := hn k e; omega)).trans (hM.1.block k hk)⟩, fun x => (h.fz x).trans (hM.2 x)⟩
theorem own_mo {w w' : World} {N : Nat} {v : Value} {n : Nat} {xs : List Value} (h : w.ownsRow N 33 23 v n xs) (m : Mo w w') : w'.ownsRow N 33 23 v n xs :=
  h.kept (row := none) ⟨m.1.os, m.1.tape, m.1.output, m.1.size, fun k hk _ => m.1.block k hk⟩ (by cases e : v.ownBlock <;> simp)
theorem app36 (w : World) (ty : TypeId) (N : Nat) (v : Value) (n : Nat) (xs : List Value) (hown : w.ownsRow N 33 23 v n xs) (k m c : Nat) (news : List Value) (hl : news.length = m * 23) (hA : At w k news) (h1 : ∀ u ∈ news, u.oneCell' = true) (hm : 0 < m) (hn : n + m ≤ 700000000000) (hN : N ≤ w.heap.size) :
    ∃ v' w', (Builtin.append_ #[36, 36] ty #[v, .slice (some ⟨k, 0, none⟩) m c]).run Try.prog w = .ok v' w' ∧ w'.ownsRow N 33 23 v' (n + m) (xs ++ news) ∧ AppW v w w' ∧ (v'.ownBlock = v.ownBlock ∨ v'.ownBlock = some w.heap.size) := by
  obtain ⟨i, hi, hz, hs, hby⟩ := inf33
  have hnews : ∀ j u, news[j]? = some u → w.cell? ((⟨k, 0, none⟩ : Addr).add j) = some u := fun j u hu => by
    rw [Addr.add_mid]; have := hA.1 j u hu; simpa using this
  obtain ⟨v', w', hr, h2, h3, _, h5⟩ := run_append_own_at (P := Try.prog) w N 36 ty 33 i _ 23 184 Try.underlying36 hi hz hs hby rfl (by decide) v n xs hown ⟨k, 0, none⟩ m c news hl hnews h1 (by unfold maxLen; omega) (by omega) hN
  refine ⟨v', w', hr, h2, ⟨h3.os, h3.tape, h3.output, h3.size, fun j hj hne => h3.block j hj (fun e => hne e.symm), ?_⟩, h5⟩
  rcases hown.2 with ⟨rfl, rfl⟩ | ⟨g, cap, cur, rfl, hbg, hg, hnc, hcm, hcs, htake⟩
  · have hr2 := run_append_nil (P := Try.prog) w 36 ty 33 i _ Try.underlying36 hi hz ⟨k, 0, none⟩ m c news (by rw [hs]; exact hl) hnews hm (by omega) (by first | omega | (rw [hby]; omega) | (rw [hby]; exact growslice_fits (n := 0) (by omega) (by omega)))
    rw [hr2] at hr
    cases hr
    exact ((Mo.refl w).drew.alloc _ _).2
  · by_cases hroom : n + m ≤ cap
    · have hr2 := run_append_room (P := Try.prog) w 36 ty 33 i Try.underlying36 hi g n cap cur hg ⟨k, 0, none⟩ m c news (by rw [hs]; exact hl) hnews h1 hroom (by rw [hs]; first | omega | (rw [hl]; omega) | (simp [hl]; omega))
      rw [hr2] at hr
      cases hr
      intro a
      by_cases e : a.block = g
      · have h9 := setRow_heap w g cur (cur.toList.take (n * i.size) ++ news ++ cur.toList.drop (n * i.size + news.length)).toArray 33 (0, 0) hg
        simp only [World.frozen?, e, h9, hg]
      · exact World.frozen?_of_block (setRow_other w g a.block _ e)
    · have hr2 := run_append_grow (P := Try.prog) w 36 ty 33 i _ Try.underlying36 hi hz ⟨g, 0, none⟩ n cap xs (by rw [hs]; exact hown.1) (hown.cells (g := g) rfl) ⟨k, 0, none⟩ m c news (by rw [hs]; exact hl) hnews (by omega) (by omega) (by rw [hby]; exact growslice_fits (by omega) (by omega))
      rw [hr2] at hr
      cases hr
      exact ((Mo.refl w).drew.alloc _ _).2
section
variable {o : Oper} {n : Nat} {l : List (Nat × Value)} {w : World} {ops : Array Oper} {rest : List Oper} {Q : Exit → Act → World → Prop}
theorem wl_app36 (s x : Operand) (N : Nat) (v : Value) (q : Nat) (xs : List Value) (k m c : Nat) (news : List Value) (ho : o.op = .call { callee := .builtin .append, args := #[s, x], argTypes := #[36, 36] }) (hs : evl n l s = v) (hx : evl n l x = .slice (some ⟨k, 0, none⟩) m c)
    (hown : w.ownsRow N 33 23 v q xs) (hl : news.length = m * 23) (hA : At w k news) (h1 : ∀ u ∈ news, u.oneCell' = true) (hm : 0 < m) (hn : q + m ≤ 700000000000) (hN : N ≤ w.heap.size) (hg : wnt n l ops o = true)
    (hk : ∀ v' w', w'.ownsRow N 33 23 v' (q + m) (xs ++ news) → AppW v w w' → (v'.ownBlock = v.ownBlock ∨ v'.ownBlock = some w.heap.size) → WL Try.prog ops Q rest n (ext l o.dst v') w') : WL Try.prog ops Q (o :: rest) n l w := by
  obtain ⟨v', w', hr, h2, h3, h4⟩ := app36 w o.type N v q xs hown k m c news hl hA h1 hm hn hN
  refine ⟨l_step hg (o_val v' (w' := w') ?_ (hk v' w' h2 h3 h4).out)⟩
  unfold execOp
  simp only [ho, resolve, invoke, builtin, Sem.run_bind, Sem.run_pure, Result.andThen_ok, List.map_toArray, List.map_cons, List.map_nil, hs, hx, hr]
end
end Go.Proofs.Ythpekbohmfmffaa
/-
  Values that lie there; a summary as a slice of one.
-/
namespace Go.Proofs.Ythpekbohmfmffaa
open Go.RowKit
/-- What a store into the block k leaves as it was, block by block. -/
structure St2 (k : Nat) (w w' : World) : Prop extends St k w w' where
  os : w'.os = w.os
  tape : w'.tape = w.tape
  output : w'.output = w.output
  block : ∀ j, j ≠ k → w'.heap[j]? = w.heap[j]?
theorem heap_setCells (k j : Nat) (hj : j ≠ k) : ∀ (l : List Value) (o : Nat) (w : World), (w.setCells k o l).heap[j]? = w.heap[j]? ∧ (w.setCells k o l).os = w.os ∧ (w.setCells k o l).tape = w.tape ∧ (w.setCells k o l).output = w.output
  | [], _, _ => ⟨rfl, rfl, rfl, rfl⟩
  | v :: r, o, w => by
    have h := heap_setCells k j hj r (o + 1) (w.setCell ⟨k, o, none⟩ v)
    rw [World.setCells]
    refine ⟨h.1.trans ?_, h.2.1.trans rfl, h.2.2.1.trans rfl, h.2.2.2.trans rfl⟩
    simp [World.setCell, Array.getElem?_modify, Ne.symm hj]
theorem St2.mk2 (w : World) (k o : Nat) (l : List Value) : St2 k w (w.setCells k o l) :=
  { St.mk' w k o l with
    os := (heap_setCells k (k + 1) (by omega) l o w).2.1
    tape := (heap_setCells k (k + 1) (by omega) l o w).2.2.1
    output := (heap_setCells k (k + 1) (by omega) l o w).2.2.2
    block := fun j hj => (heap_setCells k j hj l o w).1 }
theorem own_st {w w' : World} {N k : Nat} {v : Value} {n : Nat} {xs : List Value} (m : St2 k w w') (h : w.ownsRow N 33 23 v n xs) (hne : v.ownBlock ≠ some k) : w'.ownsRow N 33 23 v n xs :=
  h.kept (row := some k) ⟨m.os, m.tape, m.output, Nat.le_of_eq m.size.symm, fun j _ hj => m.block j (fun e => hj (by rw [e]))⟩ (Or.inr hne)
section
variable {P : Program} {o : Oper} {n : Nat} {l : List (Nat × Value)} {w : World} {ops : Array Oper} {rest : List Oper} {Q : Exit → Act → World → Prop}
theorem wl_stx (ty : TypeId) (x y : Operand) (k off : Nat) (us : Array Value) (vs vs' : List Value) (hA : At w k vs) (ho : o.op = .store ty x y) (hd : o.dst = none) (hx : evl n l x = pt k off) (hy : evl n l y = .agg us)
    (hl : Nat.ble (off + us.size) vs.length = true) (hi : (P.info? ty).map (·.size) = some us.size) (h1 : us.toList.all (·.oneCell') = true) (hvs : vs' = vs.take off ++ us.toList ++ vs.drop (off + us.toList.length)) (hg : wnt n l ops o = true)
    (hk : ∀ w', St2 k w w' → At w' k vs' → WL P ops Q rest n l w') : WL P ops Q (o :: rest) n l w :=
  ⟨l_step hg (o_store ty x y _ _ ho hd hx hy (run_put hA ty off us (Nat.le_of_ble_eq_true hl) hi (by rw [← Array.all_toList]; exact h1)) (hk _ (St2.mk2 w k off us.toList) (hA.set off us.toList (by have := Nat.le_of_ble_eq_true hl; simpa using this) vs' hvs)).out)⟩
end
section
variable {o : Oper} {n : Nat} {l : List (Nat × Value)} {w : World} {ops : Array Oper} {rest : List Oper} {Q : Exit → Act → World → Prop}
theorem bs1 (S : Sm) (w : World) : (Instr.buildSlice 36 1 #[(0, smv S)]).run Try.prog w = .ok (.slice (some ⟨w.heap.size, 0, none⟩) 1 1) (w.alloc (.cells (sml S).toArray 33)) := by kernel_rfl
theorem wl_bs1 (x : Operand) (S : Sm) (ho : o.op = .buildSlice 36 1 #[(0, x)]) (hx : evl n l x = smv S) (hg : wnt n l ops o = true)
    (hk : ∀ k w', w.heap.size = k → w'.heap.size = k + 1 → Mo w w' → At w' k (sml S) → WL Try.prog ops Q rest n (ext l o.dst (.slice (some ⟨k, 0, none⟩) 1 1)) w') : WL Try.prog ops Q (o :: rest) n l w :=
  ⟨l_step hg (o_val (.slice (some ⟨w.heap.size, 0, none⟩) 1 1) (w' := w.alloc (.cells (sml S).toArray 33)) (by
    have h := bs1 S w
    simp [execOp, ho, hx, h]) (hk _ _ rfl (by simp) ((Mo.refl _).alloc _ _) (At.new w (sml S).toArray 33)).out)⟩
end
theorem sml_one (S : Sm) : ∀ u ∈ sml S, u.oneCell' = true := by
  intro u hu
  simp only [sml, List.mem_cons, List.not_mem_nil, or_false] at hu
  rcases hu with rfl | rfl | rfl | rfl | rfl | rfl | rfl | rfl | rfl | rfl | rfl | rfl | rfl | rfl | rfl | rfl | rfl | rfl | rfl | rfl | rfl | rfl | rfl <;> rfl
/-- Values lie there, one behind the other. -/
def SV (w : World) (p : Option Addr) (L : List V10) : Prop := ∀ i x, L[i]? = some x → ∃ b off, p = some ⟨b, off, none⟩ ∧ b < w.heap.size ∧ w.rangeAt b (off + i * 10) x.cells
theorem SV.mo {w w' : World} {p : Option Addr} {L : List V10} (h : SV w p L) (m : Mo w w') : SV w' p L := fun i o e => by
  obtain ⟨b, off, h1, h2, h3⟩ := h i o e
  exact ⟨b, off, h1, Nat.lt_of_lt_of_le h2 m.size, fun j v hv => (m.cell b _ h2).trans (h3 j v hv)⟩
theorem SV.load {w : World} {b off i : Nat} {x : V10} (h : w.rangeAt b (off + i * 10) x.cells) : (Instr.loadAt 28 (pt b (off + i * 10))).run Try.prog w = .ok x.v w :=
  run_loadAt_mid w b (off + i * 10) 28 x.cells _ h Try.underlying28 rfl sz28
theorem ix49 (b off i n c : Nat) (h : i < n) (w : World) : (Instr.indexAt 49 (.slice (some ⟨b, off, none⟩) n c) (.int .i64 (i : Int))).run Try.prog w = .ok (pt b (off + i * 10)) w := by
  have e : (Instr.indexAt 49 (.slice (some ⟨b, off, none⟩) n c) (.int .i64 (i : Int))).run Try.prog w = .ok (.pointer (some ((⟨b, off, none⟩ : Addr).add (i * 10)))) w := by simp [go_sem, h]
  rw [e, Addr.add_mid]
theorem len49 (ρ : Operand → Value) (x : Operand) (p : Option Addr) (m c : Nat) (hx : ρ x = .slice p m c) (dst : Option Tmp) (type : TypeId) (pos : String) (after : Array Edge) (guard : Option (Nat × Bool)) (w : World) : (execOp ρ { dst, op := .call { callee := .builtin .len, args := #[x], argTypes := #[49] }, type, pos, after, guard }).run Try.prog w = .ok (.value (.int .i64 (m : Int))) w := by
  simp [go_sem, hx]
end Go.Proofs.Ythpekbohmfmffaa
/-
  sums: values' summaries.
-/
namespace Go.Proofs.Ythpekbohmfmffaa
open Go.RowKit
def smls (L : List Sm) : List Value := L.flatMap sml
theorem smls_len : ∀ L : List Sm, (smls L).length = L.length * 23
  | [] => rfl
  | S :: L => by
    have := smls_len L
    unfold smls at this ⊢
    rw [List.flatMap_cons, List.length_append, this, List.length_cons]
    show 23 + L.length * 23 = _; omega
theorem smls_at : ∀ (L : List Sm) (i : Nat) (S : Sm), L[i]? = some S → ∀ j v, (sml S)[j]? = some v → (smls L)[i * 23 + j]? = some v
  | [], _, _, h, _, _, _ => by cases h
  | T :: L, 0, S, h, j, v, hv => by
    cases h
    have hj : j < 23 := (List.getElem?_eq_some_iff.1 hv).1
    unfold smls
    rw [List.flatMap_cons, List.getElem?_append_left (by show _ < 23; omega), Nat.zero_mul, Nat.zero_add]; exact hv
  | T :: L, i + 1, S, h, j, v, hv => by
    have := smls_at L i S h j v hv
    unfold smls at this ⊢
    rw [List.flatMap_cons, List.getElem?_append_right (by show 23 ≤ _; omega), show (i + 1) * 23 + j - (sml T).length = i * 23 + j from by show (i + 1) * 23 + j - 23 = _; omega]; exact this
theorem own_ss {w : World} {N : Nat} {v : Value} {n : Nat} {L : List Sm} (h : w.ownsRow N 33 23 v n (smls L)) (hn : n = L.length) : ∃ pa cap, v = .slice pa L.length cap ∧ SS w pa L ∧ L.length ≤ cap := by
  have h0 := h
  subst hn
  rcases h.2 with ⟨hv, h2⟩ | ⟨g, cap, cur, hv, hbg, hg, hnc, hcm, hcs, htake⟩
  · subst hv
    have : L = [] := by
      cases L with
      | nil => rfl
      | cons T L => exfalso; have := smls_len (T :: L); simp_all
    subst this
    exact ⟨none, 0, rfl, fun _ _ e => (by cases e), Nat.le_refl _⟩
  · subst hv
    refine ⟨some ⟨g, 0, none⟩, cap, rfl, fun i S e => ⟨g, 0, rfl, (h0.lt g rfl).2, fun j v hv => ?_⟩, hnc⟩
    have hx := smls_at L i S e j v hv
    have hlt : i * 23 + j < (smls L).length := (List.getElem?_eq_some_iff.1 hx).1
    rw [Nat.zero_add, h0.cellAt (i * 23 + j) (by rw [smls_len] at hlt; exact hlt)]; exact hx
section
variable {w : World}
theorem sums_n (Xs : List V10) (p : Option Addr) (cap : Nat) (sc9 : Int) (hX : ∀ x ∈ Xs, x.n.ok) (hSV : SV w p Xs) (hn : Xs.length ≤ 600000000000) : Calls Try.prog 23 #[.slice p Xs.length cap, .int .i64 sc9] w fun e w' => ∃ (L : List Sm) (pa : Option Addr) (cp : Nat), e = .returned (.slice pa L.length cp) ∧ L.length = Xs.length ∧ (∀ T ∈ L, T.ok ∧ Gd sc9 T) ∧ SS w' pa L ∧ L.length ≤ cp ∧ Mo w w' := by
  refine w_enter 22 Try.func23 Try.ntmps23 rfl rfl ?_
  have M : Mo w w := Mo.refl _
  refine w_seq ?_
  refine w_reg ?_
  refine wl_mv (.const (.slice none 0 0)) (.slice none 0 0) (fun _ => rfl) rfl rfl ?_
  refine w_nil ?_
  refine xn_then ?_
  refine w_seq ?_
  refine w_reg ?_
  refine wl_mv (.const (.slice none 0 0)) (.slice none 0 0) (fun _ => rfl) rfl rfl ?_
  refine w_nil ?_
  refine xn_then ?_
  refine w_seq ?_
  refine w_seq ?_
  refine w_reg ?_
  refine wl_mv (.tmp 0) (.slice p Xs.length cap) (fun _ => rfl) rfl rfl ?_
  refine wl_val (.int .i64 ((Xs.length : Int))) (len49 _ _ _ _ _ (by exact rfl) _ _ _ _ _ _) rfl ?_
  refine wl_mv (.const (.int .i64 (0))) (.int .i64 (0)) (fun _ => rfl) rfl rfl ?_
  refine w_nil ?_
  refine xn_then ?_
  refine w_block ?_
  refine w_loop (fun m l wc => ∃ (i : Nat) (v : Value) (L : List Sm), m + i = Xs.length ∧ L.length = i ∧ look l 1 = .int .i64 sc9 ∧ look l 5 = v ∧ look l 8 = .slice p Xs.length cap ∧ look l 9 = .int .i64 (Xs.length : Int) ∧ look l 10 = .int .i64 (i : Int) ∧ (∀ T ∈ L, T.ok ∧ Gd sc9 T) ∧ wc.ownsRow w.heap.size 33 23 v i (smls L) ∧ Mo w wc) Xs.length ⟨0, .slice none 0 0, [], by omega, rfl, rfl, rfl, rfl, rfl, rfl, fun _ e => (by cases e), World.ownsRow_nil _ _ _ _, M⟩ ?_
  clear M
  rintro m l wc ⟨i, v, L, hm, hLn, g1, g5, g8, g9, g10, hLg, hown, M⟩
  refine w_seq ?_
  cases hf0 : decide (i < Xs.length) with
  | true =>
    have hf0p := of_decide_eq_true hf0
    refine w_reg ?_
    refine wl_bin (fun x y => do eqGuard .lss 3 (.tmp 10) (.tmp 9) x y; binOp .lss 3 x y) (.tmp 10) (.tmp 9) (.int .i64 ((i : Nat) : Int)) (.int .i64 ((Xs.length : Int))) (.bool true) (fun _ => rfl) g10 g9 (ltN hf0 _ _ _) rfl ?_
    refine w_nil ?_
    refine xn_then ?_
    refine w_seq ?_
    refine w_condT rfl ?_
    refine w_skip ?_
    refine xn_then ?_
    refine w_seq ?_
    refine w_block ?_
    refine w_seq ?_
    refine w_reg ?_
    obtain ⟨x, hxi⟩ : ∃ x, Xs[i]? = some x := ⟨Xs[i]'(by omega), List.getElem?_eq_getElem _⟩
    have hxo := hX x (List.mem_of_getElem? hxi)
    obtain ⟨b, off, hpb, hbl, hrg⟩ := (hSV.mo M) _ x hxi
    obtain ⟨T, hTok, hTg, hTc⟩ := of_n x hxo sc9
    refine wl_bin (fun x y => Instr.indexAt 49 x y) (.tmp 8) (.tmp 10) (.slice p Xs.length cap) (.int .i64 ((i : Nat) : Int)) (pt b (off + i * 10)) (fun _ => rfl) g8 g10 (by rw [hpb]; exact ix49 b off i _ _ (by omega) _) rfl ?_
    refine wl_load 28 (.tmp 12) (pt b (off + i * 10)) (.agg #[.int .i64 (x.K), .bool x.n.b, .int .u64 (l0 (x.n.n)), .int .u64 (l1 (x.n.n)), .int .u64 (l2 (x.n.n)), .int .u64 (l3 (x.n.n)), .int .i64 (x.n.s), .bool x.fl, .string x.tx, .int .i64 (x.er)]) rfl rfl (SV.load hrg) rfl ?_
    refine wl_alloc 28 #[.int .i64 0, .bool false, .int .u64 0, .int .u64 0, .int .u64 0, .int .u64 0, .int .i64 0, .bool false, .string ⟨#[]⟩, .int .i64 0] rfl (fun _ => by kernel_rfl) rfl ?_
    intro k6 w11 hk hz hq Q6
    have on_k6 : v.ownBlock ≠ some k6 := fun e => by have := (hown.lt _ e).2; omega
    have N_k6 : w.heap.size ≤ k6 := by have := M.size; omega
    replace hown := own_mo hown hq
    replace M := M.trans hq
    clear hk hz hq
    refine wl_stx 28 (.tmp 7) (.tmp 13) k6 0 #[.int .i64 (x.K), .bool x.n.b, .int .u64 (l0 (x.n.n)), .int .u64 (l1 (x.n.n)), .int .u64 (l2 (x.n.n)), .int .u64 (l3 (x.n.n)), .int .i64 (x.n.s), .bool x.fl, .string x.tx, .int .i64 (x.er)] [.int .i64 0, .bool false, .int .u64 0, .int .u64 0, .int .u64 0, .int .u64 0, .int .i64 0, .bool false, .string ⟨#[]⟩, .int .i64 0] [.int .i64 (x.K), .bool x.n.b, .int .u64 (l0 (x.n.n)), .int .u64 (l1 (x.n.n)), .int .u64 (l2 (x.n.n)), .int .u64 (l3 (x.n.n)), .int .i64 (x.n.s), .bool x.fl, .string x.tx, .int .i64 (x.er)] Q6 rfl rfl rfl rfl rfl sz28 rfl rfl rfl ?_
    intro w12 hS Qn
    replace Q6 := Qn
    clear Qn
    replace hown := own_st hS hown on_k6
    replace M := hS.mo _ N_k6 M
    clear hS
    refine w_nil ?_
    refine xn_then ?_
    refine w_reg ?_
    refine wl_mv (.tmp 5) (v) (fun _ => rfl) g5 rfl ?_
    refine wl_load 28 (.tmp 7) (pt k6 0) (.agg #[.int .i64 (x.K), .bool x.n.b, .int .u64 (l0 (x.n.n)), .int .u64 (l1 (x.n.n)), .int .u64 (l2 (x.n.n)), .int .u64 (l3 (x.n.n)), .int .i64 (x.n.s), .bool x.fl, .string x.tx, .int .i64 (x.er)]) rfl rfl (run_row Q6 28 0 10 [.int .i64 (x.K), .bool x.n.b, .int .u64 (l0 (x.n.n)), .int .u64 (l1 (x.n.n)), .int .u64 (l2 (x.n.n)), .int .u64 (l3 (x.n.n)), .int .i64 (x.n.s), .bool x.fl, .string x.tx, .int .i64 (x.er)] rfl Try.underlying28 rfl sz28) rfl ?_
    refine wl_mv (.tmp 1) (.int .i64 (sc9)) (fun _ => rfl) g1 rfl ?_
    refine wl_call 10 [(.tmp 15), (.tmp 16)] _ [.agg #[.int .i64 (x.K), .bool x.n.b, .int .u64 (l0 (x.n.n)), .int .u64 (l1 (x.n.n)), .int .u64 (l2 (x.n.n)), .int .u64 (l3 (x.n.n)), .int .i64 (x.n.s), .bool x.fl, .string x.tx, .int .i64 (x.er)], .int .i64 (sc9)] (.agg #[.int .i64 (T.r), .int .i64 (T.f), .int .i64 (T.k), .int .i64 (T.d), .int .i64 (T.e), .int .u64 (l0 (T.tt)), .int .u64 (l1 (T.tt)), .int .u64 (l2 (T.tt)), .int .u64 (l3 (T.tt)), .int .u64 (l4 (T.tt)), .bool T.so, .bool T.mn.b, .int .u64 (l0 (T.mn.n)), .int .u64 (l1 (T.mn.n)), .int .u64 (l2 (T.mn.n)), .int .u64 (l3 (T.mn.n)), .int .i64 (T.mn.s), .bool T.mx.b, .int .u64 (l0 (T.mx.n)), .int .u64 (l1 (T.mx.n)), .int .u64 (l2 (T.mx.n)), .int .u64 (l3 (T.mx.n)), .int .i64 (T.mx.s)]) rfl rfl (fun _ _ => by kernel_rfl) (hTc _) rfl ?_
    intro w13 hq
    replace hown := own_mo hown hq
    replace Q6 := Q6.mo hq
    replace M := M.trans hq
    clear hq
    refine wl_bs1 (.tmp 17) T rfl rfl rfl ?_
    intro kn w14 hk hz hq QN
    have on_kn : v.ownBlock ≠ some kn := fun e => by have := (hown.lt _ e).2; omega
    replace hown := own_mo hown hq
    replace Q6 := Q6.mo hq
    replace M := M.trans hq
    clear hk hz hq
    refine wl_app36 (.tmp 14) (.tmp 18) w.heap.size v i (smls L) kn 1 1 (sml T) rfl rfl rfl hown rfl QN (sml_one T) (by decide) (by omega) M.size rfl ?_
    intro v2 w15 hown2 hAp hob
    replace M := hAp.mo M (fun k e => (hown.lt k e).1)
    refine wl_mv (.tmp 19) (v2) (fun _ => rfl) rfl rfl ?_
    refine w_nil ?_
    refine xn_blk ?_
    refine xn_then ?_
    refine w_reg ?_
    refine wl_bin (fun x y => do eqGuard .add 3 (.tmp 10) (.const (.int .i64 (1))) x y; binOp .add 3 x y) (.tmp 10) (.const (.int .i64 (1))) (.int .i64 ((i : Nat) : Int)) (.int .i64 (1)) (.int .i64 ((i + 1 : Nat) : Int)) (fun _ => rfl) g10 rfl (add1N (by omega) _ _ _) rfl ?_
    refine wl_mv (.tmp 20) (.int .i64 ((i + 1 : Nat) : Int)) (fun _ => rfl) rfl rfl ?_
    refine w_nil ?_
    exact xn_loop (m - 1) (by omega) ⟨i + 1, v2, L ++ [T], by omega, by simp [hLn], g1, rfl, g8, g9, rfl, fun U hU => (by rcases List.mem_append.1 hU with h | h; exact hLg U h; rw [List.mem_singleton.1 h]; exact ⟨hTok, hTg⟩), by rw [show smls (L ++ [T]) = smls L ++ sml T by simp [smls]]; exact hown2, M⟩
  | false =>
    have hf0p := of_decide_eq_false hf0
    refine w_reg ?_
    refine wl_bin (fun x y => do eqGuard .lss 3 (.tmp 10) (.tmp 9) x y; binOp .lss 3 x y) (.tmp 10) (.tmp 9) (.int .i64 ((i : Nat) : Int)) (.int .i64 ((Xs.length : Int))) (.bool false) (fun _ => rfl) g10 g9 (ltN hf0 _ _ _) rfl ?_
    refine w_nil ?_
    refine xn_then ?_
    refine w_seq ?_
    refine w_condF rfl ?_
    refine w_exit ?_
    refine xx_then ?_
    refine xx_then ?_
    have hi3 : i = Xs.length := by omega
    obtain ⟨pa, cp, hv, hSS, hcp⟩ := own_ss hown hLn.symm
    refine xx_blk ?_
    refine xn_then ?_
    refine w_seq ?_
    refine w_reg ?_
    refine wl_mv (.tmp 5) (v) (fun _ => rfl) g5 rfl ?_
    refine wl_mv (.tmp 21) (v) (fun _ => rfl) rfl rfl ?_
    refine w_nil ?_
    refine xn_then ?_
    refine w_ret ?_
    exact w_ret1 _ (v) rfl rfl ⟨L, pa, cp, by rw [hv], by omega, hLg, hSS, hcp, M⟩
end
end Go.Proofs.Ythpekbohmfmffaa
