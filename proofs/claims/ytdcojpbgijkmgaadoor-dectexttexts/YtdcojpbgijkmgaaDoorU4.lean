/-
  A part of the proof.
-/
import Derived.Maps.AppendAt
import Derived.Deep.AppendLies
import Derived.Laws.BytesString
import Derived.Test.YtdcojpbgijkmgaaDoorHalf
import Derived.Test.YtdcojpbgijkmgaaDoorRows
import Derived.Test.YtdcojpbgijkmgaaDoorNum
import Derived.ProofKit
import Derived.OpenShut
import Derived.Lib.SmallJoins
import Derived.Test.YtdcojpbgijkmgaaDoorU3
/-
  exciselaw03.live.
-/
namespace Go.Proofs.YtdcojpbgijkmgaaDoor.V
open Go.RowKit Go.Lib
theorem text_lv (w : World) : Calls Tryd.prog 9 #[.agg #[.bool true, .int .u64 1250, .int .u64 0, .int .u64 0, .int .u64 0, .int .i64 2]] w fun e w' => e = .returned (.string ⟨#[45, 49, 50, 46, 53, 48]⟩) ∧ Mw w w' := by
  refine (text_ok true 1250 2 w (by decide) (by decide) (by decide) (by decide)).mono fun e w' ⟨he, hm⟩ => ⟨?_, hm⟩
  rw [he]; rfl
theorem short_lv (w : World) : Calls Tryd.prog 11 #[.agg #[.bool true, .int .u64 1250, .int .u64 0, .int .u64 0, .int .u64 0, .int .i64 2]] w fun e w' => e = .returned (.string ⟨#[45, 49, 50, 46, 53]⟩) ∧ Mw w w' := by
  refine (short_ok true 1250 2 w (by decide) (by decide) (by decide) (by decide)).mono fun e w' ⟨he, hm⟩ => ⟨?_, hm⟩
  rw [he]; rfl
theorem parseAt_lv (w : World) : Calls Tryd.prog 15 #[.string ⟨#[51]⟩, .int .i64 (2)] w fun e w' => e = .returned (.tuple #[.agg #[.bool false, .int .u64 300, .int .u64 0, .int .u64 0, .int .u64 0, .int .i64 2], .int .i64 0]) ∧ Mw w w' := wk (parseAt_s3 w)
theorem prefix_lv (w : World) : Calls Tryd.prog 17 #[.string ⟨#[49, 46, 53, 46, 50]⟩] w fun e w' => e = .returned (.int .i64 3) ∧ Mw w w' := by
  refine (prefix_n s152 w (by decide)).mono fun e w' ⟨he, hm⟩ => ⟨?_, hm.1⟩
  rw [he, pfx_s152]; rfl
theorem eqS_run (a : ByteArray) (x y : Operand) (w : World) : (do eqGuard .eql 9 x y (.string a) (.string a); binOp .eql 9 (.string a) (.string a)).run Tryd.prog w = .ok (.bool true) w := by
  simp [go_sem]
theorem eqE_run {a b : Int} {r : Bool} (h : (a == b) = r) (x y : Operand) (w : World) : (do eqGuard .eql 30 x y (.int .i64 a) (.int .i64 b); binOp .eql 30 (.int .i64 a) (.int .i64 b)).run Tryd.prog w = .ok (.bool r) w := by
  subst h; kernel_rfl
theorem live_n (w : World) : Calls Tryd.prog 8 #[] w fun e w' => e = .returned (.bool true) ∧ Mw w w' := by
  refine w_enter 32 Tryd.func8 Tryd.ntmps8 rfl rfl ?_
  have M : Mw w w := Mw.refl _
  refine w_seq ?_
  refine w_reg ?_
  refine wl_mv (.const (.bool false)) (.bool false) (fun _ => rfl) rfl rfl ?_
  refine w_nil ?_
  refine xn_then ?_
  refine w_seq ?_
  refine w_reg ?_
  refine wl_build 24 [(0, (.const (.int .u64 (1250))))] [(0, .int .u64 (1250))] (.agg #[.int .u64 (1250), .int .u64 0, .int .u64 0, .int .u64 0]) rfl rfl (by kernel_rfl) rfl ?_
  refine wl_build 26 [(0, (.const (.bool true))), (1, (.tmp 4)), (2, (.const (.int .i64 (2))))] [(0, .bool true), (1, .agg #[.int .u64 (1250), .int .u64 0, .int .u64 0, .int .u64 0]), (2, .int .i64 (2))] (.agg #[.bool true, .int .u64 (1250), .int .u64 0, .int .u64 0, .int .u64 0, .int .i64 (2)]) rfl rfl (by kernel_rfl) rfl ?_
  refine wl_alloc 26 #[.bool false, .int .u64 0, .int .u64 0, .int .u64 0, .int .u64 0, .int .i64 0] rfl (fun _ => by kernel_rfl) rfl ?_
  intro k1 w1 hk hz hq Q1
  have N_k1 : w.heap.size ≤ k1 := by have := M.size; omega
  replace M := M.trans hq
  clear hk hz hq
  refine wl_st 26 (.tmp 1) (.tmp 5) k1 0 #[.bool true, .int .u64 (1250), .int .u64 0, .int .u64 0, .int .u64 0, .int .i64 (2)] [.bool false, .int .u64 0, .int .u64 0, .int .u64 0, .int .u64 0, .int .i64 0] [.bool true, .int .u64 (1250), .int .u64 0, .int .u64 0, .int .u64 0, .int .i64 (2)] Q1 rfl rfl rfl rfl rfl sz26 rfl rfl rfl ?_
  intro w2 hS Qn
  replace Q1 := Qn
  clear Qn
  replace M := hS.mo _ N_k1 M
  clear hS
  refine w_nil ?_
  refine xn_then ?_
  refine w_seq ?_
  refine w_reg ?_
  refine wl_call 15 [(.const (.string ⟨#[51]⟩)), (.const (.int .i64 (2)))] _ [.string ⟨#[51]⟩, .int .i64 (2)] (.tuple #[.agg #[.bool false, .int .u64 300, .int .u64 0, .int .u64 0, .int .u64 0, .int .i64 2], .int .i64 (0)]) rfl rfl (fun _ _ => by kernel_rfl) (parseAt_lv _) rfl ?_
  intro w3 hq
  replace Q1 := Q1.mo hq
  replace M := M.trans hq
  clear hq
  refine wl_mv (.tmp 7) (.tuple #[.agg #[.bool false, .int .u64 300, .int .u64 0, .int .u64 0, .int .u64 0, .int .i64 2], .int .i64 (0)]) (fun _ => rfl) rfl rfl ?_
  refine wl_un (fun v => Instr.extract v 0) (.tmp 6) (.tuple #[.agg #[.bool false, .int .u64 300, .int .u64 0, .int .u64 0, .int .u64 0, .int .i64 2], .int .i64 (0)]) (.agg #[.bool false, .int .u64 300, .int .u64 0, .int .u64 0, .int .u64 0, .int .i64 2]) (fun _ => rfl) rfl (by kernel_rfl) rfl ?_
  refine wl_un (fun v => Instr.extract v 1) (.tmp 6) (.tuple #[.agg #[.bool false, .int .u64 300, .int .u64 0, .int .u64 0, .int .u64 0, .int .i64 2], .int .i64 (0)]) (.int .i64 (0)) (fun _ => rfl) rfl (by kernel_rfl) rfl ?_
  refine wl_alloc 26 #[.bool false, .int .u64 0, .int .u64 0, .int .u64 0, .int .u64 0, .int .i64 0] rfl (fun _ => by kernel_rfl) rfl ?_
  intro k2 w4 hk hz hq Q2
  have ne_k1_k2 : k1 ≠ k2 := by have := Q1.lt; omega
  have N_k2 : w.heap.size ≤ k2 := by have := M.size; omega
  replace Q1 := Q1.mo hq
  replace M := M.trans hq
  clear hk hz hq
  refine wl_st 26 (.tmp 2) (.tmp 8) k2 0 #[.bool false, .int .u64 300, .int .u64 0, .int .u64 0, .int .u64 0, .int .i64 2] [.bool false, .int .u64 0, .int .u64 0, .int .u64 0, .int .u64 0, .int .i64 0] [.bool false, .int .u64 300, .int .u64 0, .int .u64 0, .int .u64 0, .int .i64 2] Q2 rfl rfl rfl rfl rfl sz26 rfl rfl rfl ?_
  intro w5 hS Qn
  replace Q2 := Qn
  clear Qn
  replace Q1 := hS.other _ _ ne_k1_k2 Q1
  replace M := hS.mo _ N_k2 M
  clear hS
  refine wl_mv (.tmp 9) (.int .i64 (0)) (fun _ => rfl) rfl rfl ?_
  refine w_nil ?_
  refine xn_then ?_
  refine w_seq ?_
  refine w_reg ?_
  refine wl_load 26 (.tmp 1) (pt k1 0) (.agg #[.bool true, .int .u64 (1250), .int .u64 0, .int .u64 0, .int .u64 0, .int .i64 (2)]) rfl rfl (run_row Q1 26 0 6 [.bool true, .int .u64 (1250), .int .u64 0, .int .u64 0, .int .u64 0, .int .i64 (2)] rfl Tryd.underlying26 rfl sz26) rfl ?_
  refine wl_call 9 [(.tmp 10)] _ [.agg #[.bool true, .int .u64 (1250), .int .u64 0, .int .u64 0, .int .u64 0, .int .i64 (2)]] (.string ⟨#[45, 49, 50, 46, 53, 48]⟩) rfl rfl (fun _ _ => by kernel_rfl) (text_lv _) rfl ?_
  intro w6 hq
  replace Q1 := Q1.mo hq
  replace Q2 := Q2.mo hq
  replace M := M.trans hq
  clear hq
  refine wl_bin (fun x y => do eqGuard .eql 9 (.tmp 11) (.const (.string ⟨#[45, 49, 50, 46, 53, 48]⟩)) x y; binOp .eql 9 x y) (.tmp 11) (.const (.string ⟨#[45, 49, 50, 46, 53, 48]⟩)) (.string ⟨#[45, 49, 50, 46, 53, 48]⟩) (.string ⟨#[45, 49, 50, 46, 53, 48]⟩) (.bool true) (fun _ => rfl) rfl rfl (eqS_run _ _ _ _) rfl ?_
  refine wl_mv (.tmp 12) (.bool true) (fun _ => rfl) rfl rfl ?_
  refine wl_load 26 (.tmp 1) (pt k1 0) (.agg #[.bool true, .int .u64 (1250), .int .u64 0, .int .u64 0, .int .u64 0, .int .i64 (2)]) rfl rfl (run_row Q1 26 0 6 [.bool true, .int .u64 (1250), .int .u64 0, .int .u64 0, .int .u64 0, .int .i64 (2)] rfl Tryd.underlying26 rfl sz26) rfl ?_
  refine wl_call 11 [(.tmp 14)] _ [.agg #[.bool true, .int .u64 (1250), .int .u64 0, .int .u64 0, .int .u64 0, .int .i64 (2)]] (.string ⟨#[45, 49, 50, 46, 53]⟩) rfl rfl (fun _ _ => by kernel_rfl) (short_lv _) rfl ?_
  intro w7 hq
  replace Q1 := Q1.mo hq
  replace Q2 := Q2.mo hq
  replace M := M.trans hq
  clear hq
  refine wl_bin (fun x y => do eqGuard .eql 9 (.tmp 15) (.const (.string ⟨#[45, 49, 50, 46, 53]⟩)) x y; binOp .eql 9 x y) (.tmp 15) (.const (.string ⟨#[45, 49, 50, 46, 53]⟩)) (.string ⟨#[45, 49, 50, 46, 53]⟩) (.string ⟨#[45, 49, 50, 46, 53]⟩) (.bool true) (fun _ => rfl) rfl rfl (eqS_run _ _ _ _) rfl ?_
  refine wl_pick (.tmp 13) (.tmp 16) (.const (.bool false)) true (.bool true) (fun _ => rfl) rfl rfl rfl ?_
  refine wl_mv (.tmp 17) (.bool true) (fun _ => rfl) rfl rfl ?_
  refine wl_mv (.tmp 3) (.int .i64 (0)) (fun _ => rfl) rfl rfl ?_
  refine wl_bin (fun x y => do eqGuard .eql 30 (.tmp 19) (.const (.int .i64 (0))) x y; binOp .eql 30 x y) (.tmp 19) (.const (.int .i64 (0))) (.int .i64 (0)) (.int .i64 (0)) (.bool true) (fun _ => rfl) rfl rfl (eqE_run rfl _ _ _) rfl ?_
  refine wl_pick (.tmp 18) (.tmp 20) (.const (.bool false)) true (.bool true) (fun _ => rfl) rfl rfl rfl ?_
  refine wl_mv (.tmp 21) (.bool true) (fun _ => rfl) rfl rfl ?_
  refine wl_load 26 (.tmp 2) (pt k2 0) (.agg #[.bool false, .int .u64 300, .int .u64 0, .int .u64 0, .int .u64 0, .int .i64 2]) rfl rfl (run_row Q2 26 0 6 [.bool false, .int .u64 300, .int .u64 0, .int .u64 0, .int .u64 0, .int .i64 2] rfl Tryd.underlying26 rfl sz26) rfl ?_
  refine wl_build 24 [(0, (.const (.int .u64 (300))))] [(0, .int .u64 (300))] (.agg #[.int .u64 (300), .int .u64 0, .int .u64 0, .int .u64 0]) rfl rfl (by kernel_rfl) rfl ?_
  refine wl_build 26 [(1, (.tmp 24)), (2, (.const (.int .i64 (2))))] [(1, .agg #[.int .u64 (300), .int .u64 0, .int .u64 0, .int .u64 0]), (2, .int .i64 (2))] (.agg #[.bool false, .int .u64 (300), .int .u64 0, .int .u64 0, .int .u64 0, .int .i64 (2)]) rfl rfl (by kernel_rfl) rfl ?_
  refine wl_bin (fun x y => do eqGuard .eql 26 (.tmp 23) (.tmp 25) x y; binOp .eql 26 x y) (.tmp 23) (.tmp 25) (.agg #[.bool false, .int .u64 300, .int .u64 0, .int .u64 0, .int .u64 0, .int .i64 2]) (.agg #[.bool false, .int .u64 (300), .int .u64 0, .int .u64 0, .int .u64 0, .int .i64 (2)]) (.bool true) (fun _ => rfl) rfl rfl (eqd_run (r := true) rfl _ _ _) rfl ?_
  refine wl_pick (.tmp 22) (.tmp 26) (.const (.bool false)) true (.bool true) (fun _ => rfl) rfl rfl rfl ?_
  refine wl_mv (.tmp 27) (.bool true) (fun _ => rfl) rfl rfl ?_
  refine wl_call 17 [(.const (.string ⟨#[49, 46, 53, 46, 50]⟩))] _ [.string ⟨#[49, 46, 53, 46, 50]⟩] (.int .i64 (3)) rfl rfl (fun _ _ => by kernel_rfl) (prefix_lv _) rfl ?_
  intro w8 hq
  replace Q1 := Q1.mo hq
  replace Q2 := Q2.mo hq
  replace M := M.trans hq
  clear hq
  refine wl_bin (fun x y => do eqGuard .eql 3 (.tmp 29) (.const (.int .i64 (3))) x y; binOp .eql 3 x y) (.tmp 29) (.const (.int .i64 (3))) (.int .i64 (3)) (.int .i64 (3)) (.bool true) (fun _ => rfl) rfl rfl (eq3_run (r := true) rfl _ _ _) rfl ?_
  refine wl_pick (.tmp 28) (.tmp 30) (.const (.bool false)) true (.bool true) (fun _ => rfl) rfl rfl rfl ?_
  refine wl_mv (.tmp 31) (.bool true) (fun _ => rfl) rfl rfl ?_
  refine w_nil ?_
  refine xn_then ?_
  refine w_ret ?_
  exact w_ret1 _ (.bool true) rfl rfl ⟨rfl, M⟩
end Go.Proofs.YtdcojpbgijkmgaaDoor.V
/-
  A text's beginning and end, as operations.
-/
namespace Go.Proofs.YtdcojpbgijkmgaaDoor
open Go.RowKit Go.Lib
theorem take_tx (l : List UInt8) (j : Nat) : Value.string ((⟨l.toArray⟩ : ByteArray).extract 0 j) = tx (l.take j) := by
  rw [tx_of, by8_ext]; rfl
theorem drop_tx (l : List UInt8) (j : Nat) : Value.string ((⟨l.toArray⟩ : ByteArray).extract j (⟨l.toArray⟩ : ByteArray).size) = tx (l.drop j) := by
  rw [tx_of, by8_ext, tx_size]
  have : ((by8 (⟨l.toArray⟩ : ByteArray)).drop j).take (l.length - j) = l.drop j := List.take_of_length_le (by simp [by8])
  rw [this]
theorem hi_run (ρ : Operand → Value) (x y : Operand) (l : List UInt8) (j : Nat) (hx : ρ x = tx l) (hy : ρ y = .int .i64 (j : Int)) (hj : j ≤ l.length) (dst : Option Tmp) (type : TypeId) (pos : String) (after : Array Edge) (guard : Option (Nat × Bool)) (w : World) :
    (execOp ρ { dst, op := .slice 9 x none (some y) none, type, pos, after, guard }).run Tryd.prog w = .ok (.value (tx (l.take j))) w := by
  have h1 : (j : Int) ≤ ((⟨l.toArray⟩ : ByteArray).size : Int) := by rw [tx_size]; omega
  have h0 : (0 : Int) ≤ (j : Int) := by omega
  rw [← take_tx]
  unfold tx at hx
  generalize (⟨l.toArray⟩ : ByteArray) = s at *
  simp [go_sem, hx, hy, h1, h0]
theorem lo_run (ρ : Operand → Value) (x y : Operand) (l : List UInt8) (j : Nat) (hx : ρ x = tx l) (hy : ρ y = .int .i64 (j : Int)) (hj : j ≤ l.length) (dst : Option Tmp) (type : TypeId) (pos : String) (after : Array Edge) (guard : Option (Nat × Bool)) (w : World) :
    (execOp ρ { dst, op := .slice 9 x (some y) none none, type, pos, after, guard }).run Tryd.prog w = .ok (.value (tx (l.drop j))) w := by
  have h1 : (j : Int) ≤ ((⟨l.toArray⟩ : ByteArray).size : Int) := by rw [tx_size]; omega
  have h0 : (0 : Int) ≤ (j : Int) := by omega
  rw [← drop_tx]
  unfold tx at hx
  generalize (⟨l.toArray⟩ : ByteArray) = s at *
  simp [go_sem, hx, hy, h1, h0]
theorem catl_run (a b : List UInt8) (h : a.length + b.length ≤ 9223372036854775807) (x y : Operand) (w : World) : (do eqGuard .add 9 x y (tx a) (tx b); binOp .add 9 (tx a) (tx b)).run Tryd.prog w = .ok (tx (a ++ b)) w := by
  have e : tx (a ++ b) = .string ((⟨a.toArray⟩ : ByteArray) ++ ⟨b.toArray⟩) := by rw [tx_of, by8_app]
  rw [e]; exact V.cat_run _ _ (by rw [tx_size, tx_size]; exact h) x y w
theorem leq3_run {a b : Int} {r : Bool} (h : decide (a ≤ b) = r) (x y : Operand) (w : World) : (do eqGuard .leq 3 x y (.int .i64 a) (.int .i64 b); binOp .leq 3 (.int .i64 a) (.int .i64 b)).run Tryd.prog w = .ok (.bool r) w := by
  subst h; kernel_rfl
theorem sub3_run {a b c : Nat} (h : a = b + c) (hc : a ≤ 9223372036854775807) (x y : Operand) (w : World) : (do eqGuard .sub 3 x y (.int .i64 (a : Int)) (.int .i64 (b : Int)); binOp .sub 3 (.int .i64 (a : Int)) (.int .i64 (b : Int))).run Tryd.prog w = .ok (.int .i64 (c : Int)) w := by
  have e : (do eqGuard .sub 3 x y (.int .i64 (a : Int)) (.int .i64 (b : Int)); binOp .sub 3 (.int .i64 (a : Int)) (.int .i64 (b : Int))).run Tryd.prog w = .ok (.int .i64 (IntKind.i64.wrap ((a : Int) - (b : Int)))) w := by kernel_rfl
  have h2 : IntKind.i64.wrap ((a : Int) - (b : Int)) = (c : Int) := by rw [IntKind.wrap_i64]; omega
  rw [e, h2]
end Go.Proofs.YtdcojpbgijkmgaaDoor
/-
  Bytes put behind a slice of one's own, and a slice's bytes as a text: the laws of the steps.
-/
namespace Go.Proofs.YtdcojpbgijkmgaaDoor
open Go.RowKit
theorem bsl (c : Int) (w : World) : (Instr.buildSlice 51 1 #[(0, .int .u8 c)]).run Tryd.prog w = .ok (.slice (some ⟨w.heap.size, 0, none⟩) 1 1) (w.alloc (.cells #[.int .u8 c] 5)) := by kernel_rfl
theorem ixs (g j n c : Nat) (h : j < n) (w : World) : (Instr.indexAt 51 (.slice (some ⟨g, 0, none⟩) n c) (.int .i64 (j : Int))).run Tryd.prog w = .ok (pt g j) w := by
  simp [go_sem, h]
theorem inf5 : ∃ i, Tryd.prog.info? 5 = some i ∧ i.zero = some (.int .u8 0) ∧ i.size = 1 ∧ i.bytes = 1 := by
  have h : (Tryd.prog.info? 5).map (fun i => (i.zero, i.size, i.bytes)) = some (some (.int .u8 0), 1, 1) := by kernel_rfl
  cases hi : Tryd.prog.info? 5 with
  | none => rw [hi] at h; cases h
  | some i =>
    rw [hi] at h
    simp at h
    exact ⟨i, rfl, h.1, h.2.1, h.2.2⟩
/-- What an append leaves as it was. -/
structure AppW (v : Value) (w w' : World) : Prop where
  os : w'.os = w.os
  tape : w'.tape = w.tape
  output : w'.output = w.output
  size : w.heap.size ≤ w'.heap.size
  block : ∀ k, k < w.heap.size → v.ownBlock ≠ some k → w'.heap[k]? = w.heap[k]?
  fz : ∀ a, w'.frozen? a = w.frozen? a
theorem AppW.at {v : Value} {w w' : World} (h : AppW v w w') {j : Nat} {vs : List Value} (hA : At w j vs) (hn : v.ownBlock ≠ some j) : At w' j vs :=
  ⟨fun i u hu => (World.cell?_of_block (a := ⟨j, 0 + i, none⟩) (h.block j hA.2.2 hn)).trans (hA.1 i u hu), fun o => (h.fz _).trans (hA.2.1 o), Nat.lt_of_lt_of_le hA.2.2 h.size⟩
theorem AppW.mo {v : Value} {w w' a : World} (h : AppW v w w') (hM : Mo a w) (hn : ∀ k, v.ownBlock = some k → a.heap.size ≤ k) : Mo a w' :=
  ⟨⟨h.os.trans hM.1.os, h.tape.trans hM.1.tape, h.output.trans hM.1.output, Nat.le_trans hM.1.size h.size, fun k hk => (h.block k (Nat.lt_of_lt_of_le hk hM.1.size) (fun e => by have := hn k e; omega)).trans (hM.1.block k hk)⟩, fun x => (h.fz x).trans (hM.2 x)⟩
/-- What a store into the block k leaves as it was, block by block. -/
structure St2 (k : Nat) (w w' : World) : Prop extends St k w w' where
  os : w'.os = w.os
  tape : w'.tape = w.tape
  output : w'.output = w.output
  block : ∀ j, j ≠ k → w'.heap[j]? = w.heap[j]?
theorem heap_setCells (k j : Nat) (hj : j ≠ k) : ∀ (l : List Value) (o : Nat) (w : World), (w.setCells k o l).heap[j]? = w.heap[j]? ∧ (w.setCells k o l).os = w.os ∧ (w.setCells k o l).tape = w.tape ∧ (w.setCells k o l).output = w.output
  | [], _, _ => ⟨rfl, rfl, rfl, rfl⟩
  | v :: r, o, w => by
    have h := heap_setCells k j hj r (o + 1) (w.setCell ⟨k, o, none⟩ v)
    rw [World.setCells]
    refine ⟨h.1.trans ?_, h.2.1.trans rfl, h.2.2.1.trans rfl, h.2.2.2.trans rfl⟩
    simp [World.setCell, Array.getElem?_modify, Ne.symm hj]
theorem St2.mk2 (w : World) (k o : Nat) (l : List Value) : St2 k w (w.setCells k o l) :=
  { St.mk' w k o l with
    os := (heap_setCells k (k + 1) (by omega) l o w).2.1
    tape := (heap_setCells k (k + 1) (by omega) l o w).2.2.1
    output := (heap_setCells k (k + 1) (by omega) l o w).2.2.2
    block := fun j hj => (heap_setCells k j hj l o w).1 }
theorem own_st {w w' : World} {N k : Nat} {v : Value} {n : Nat} {xs : List Value} (m : St2 k w w') (h : w.ownsRow N 5 1 v n xs) (hne : v.ownBlock ≠ some k) : w'.ownsRow N 5 1 v n xs :=
  h.kept (row := some k) ⟨m.os, m.tape, m.output, Nat.le_of_eq m.size.symm, fun j _ hj => m.block j (fun e => hj (by rw [e]))⟩ (Or.inr hne)
section
variable {P : Program} {o : Oper} {n : Nat} {l : List (Nat × Value)} {w : World} {ops : Array Oper} {rest : List Oper} {Q : Exit → Act → World → Prop}
theorem wl_stx (ty : TypeId) (x y : Operand) (k off : Nat) (us : Array Value) (vs vs' : List Value) (hA : At w k vs) (ho : o.op = .store ty x y) (hd : o.dst = none) (hx : evl n l x = pt k off) (hy : evl n l y = .agg us)
    (hl : Nat.ble (off + us.size) vs.length = true) (hi : (P.info? ty).map (·.size) = some us.size) (h1 : us.toList.all (·.oneCell') = true) (hvs : vs' = vs.take off ++ us.toList ++ vs.drop (off + us.toList.length)) (hg : wnt n l ops o = true)
    (hk : ∀ w', St2 k w w' → At w' k vs' → WL P ops Q rest n l w') : WL P ops Q (o :: rest) n l w :=
  ⟨l_step hg (o_store ty x y _ _ ho hd hx hy (run_put hA ty off us (Nat.le_of_ble_eq_true hl) hi (by rw [← Array.all_toList]; exact h1)) (hk _ (St2.mk2 w k off us.toList) (hA.set off us.toList (by have := Nat.le_of_ble_eq_true hl; simpa using this) vs' hvs)).out)⟩
end
theorem own_mo {w w' : World} {N : Nat} {v : Value} {n : Nat} {xs : List Value} (h : w.ownsRow N 5 1 v n xs) (m : Mo w w') : w'.ownsRow N 5 1 v n xs :=
  h.kept (row := none) ⟨m.1.os, m.1.tape, m.1.output, m.1.size, fun k hk _ => m.1.block k hk⟩ (by cases e : v.ownBlock <;> simp)
theorem app1 (w : World) (ty : TypeId) (N : Nat) (v : Value) (n : Nat) (xs : List Value) (hown : w.ownsRow N 5 1 v n xs) (k : Nat) (c : Int) (hA : At w k [.int .u8 c]) (hn : n ≤ 1000) (hN : N ≤ w.heap.size) :
    ∃ v' w', (Builtin.append_ #[51, 51] ty #[v, .slice (some ⟨k, 0, none⟩) 1 1]).run Tryd.prog w = .ok v' w' ∧ w'.ownsRow N 5 1 v' (n + 1) (xs ++ [.int .u8 c]) ∧ AppW v w w' ∧ (v'.ownBlock = v.ownBlock ∨ v'.ownBlock = some w.heap.size) := by
  obtain ⟨i, hi, hz, hs, hby⟩ := inf5
  have hnews : ∀ j u, ([Value.int .u8 c] : List Value)[j]? = some u → w.cell? ((⟨k, 0, none⟩ : Addr).add j) = some u := fun j u hu => by
    rw [Addr.add_mid]; have := hA.1 j u hu; simpa using this
  obtain ⟨v', w', hr, h2, h3, _, h5⟩ := run_append_own_at (P := Tryd.prog) w N 51 ty 5 i (.int .u8 0) 1 1 Tryd.underlying51 hi hz hs hby rfl (by decide) v n xs hown ⟨k, 0, none⟩ 1 1 [.int .u8 c] rfl hnews (by simp [Value.oneCell']) (by unfold maxLen; omega) (by omega) hN
  refine ⟨v', w', hr, h2, ⟨h3.os, h3.tape, h3.output, h3.size, fun j hj hne => h3.block j hj (fun e => hne e.symm), ?_⟩, h5⟩
  -- the marks: arm by arm
  rcases hown.2 with ⟨rfl, rfl⟩ | ⟨g, cap, cur, rfl, hbg, hg, hnc, hcm, hcs, htake⟩
  · have hr2 := run_append_nil (P := Tryd.prog) w 51 ty 5 i (.int .u8 0) Tryd.underlying51 hi hz ⟨k, 0, none⟩ 1 1 [.int .u8 c] (by rw [hs]; rfl) hnews (by decide) (by decide) (by omega)
    rw [hr2] at hr
    cases hr
    exact ((Mo.refl w).drew.alloc _ _).2
  · by_cases hroom : n + 1 ≤ cap
    · have hr2 := run_append_room (P := Tryd.prog) w 51 ty 5 i Tryd.underlying51 hi g n cap cur hg ⟨k, 0, none⟩ 1 1 [.int .u8 c] (by rw [hs]; rfl) hnews (by simp [Value.oneCell']) hroom (by rw [hs]; simp; omega)
      rw [hr2] at hr
      cases hr
      intro a
      by_cases e : a.block = g
      · have h1 := setRow_heap w g cur (cur.toList.take (n * i.size) ++ [Value.int .u8 c] ++ cur.toList.drop (n * i.size + [Value.int .u8 c].length)).toArray 5 (0, 0) hg
        simp only [World.frozen?, e, h1, hg]
      · exact World.frozen?_of_block (setRow_other w g a.block _ e)
    · have hr2 := run_append_grow (P := Tryd.prog) w 51 ty 5 i (.int .u8 0) Tryd.underlying51 hi hz ⟨g, 0, none⟩ n cap xs (by rw [hs]; exact hown.1) (hown.cells (g := g) rfl) ⟨k, 0, none⟩ 1 1 [.int .u8 c] (by rw [hs]; rfl) hnews (by omega) (by omega) (by rw [hby]; exact growslice_fits (by omega) (by omega))
      rw [hr2] at hr
      cases hr
      exact ((Mo.refl w).drew.alloc _ _).2
section
variable {o : Oper} {n : Nat} {l : List (Nat × Value)} {w : World} {ops : Array Oper} {rest : List Oper} {Q : Exit → Act → World → Prop}
theorem wl_bsl (x : Operand) (c : Int) (ho : o.op = .buildSlice 51 1 #[(0, x)]) (hx : evl n l x = .int .u8 c) (hg : wnt n l ops o = true)
    (hk : ∀ k w', w.heap.size = k → w'.heap.size = k + 1 → Mo w w' → At w' k [.int .u8 c] → WL Tryd.prog ops Q rest n (ext l o.dst (.slice (some ⟨k, 0, none⟩) 1 1)) w') : WL Tryd.prog ops Q (o :: rest) n l w :=
  ⟨l_step hg (o_val (.slice (some ⟨w.heap.size, 0, none⟩) 1 1) (w' := w.alloc (.cells #[.int .u8 c] 5)) (by simp [execOp, ho, hx, bsl]) (hk _ _ rfl (by simp) ((Mo.refl _).alloc _ _) (At.new w #[.int .u8 c] 5)).out)⟩
theorem wl_app (s x : Operand) (N : Nat) (v : Value) (m : Nat) (xs : List Value) (k : Nat) (c : Int) (ho : o.op = .call { callee := .builtin .append, args := #[s, x], argTypes := #[51, 51] }) (hs : evl n l s = v) (hx : evl n l x = .slice (some ⟨k, 0, none⟩) 1 1)
    (hown : w.ownsRow N 5 1 v m xs) (hA : At w k [.int .u8 c]) (hm : m ≤ 1000) (hN : N ≤ w.heap.size) (hg : wnt n l ops o = true)
    (hk : ∀ v' w', w'.ownsRow N 5 1 v' (m + 1) (xs ++ [.int .u8 c]) → AppW v w w' → (v'.ownBlock = v.ownBlock ∨ v'.ownBlock = some w.heap.size) → WL Tryd.prog ops Q rest n (ext l o.dst v') w') : WL Tryd.prog ops Q (o :: rest) n l w := by
  obtain ⟨v', w', hr, h2, h3, h4⟩ := app1 w o.type N v m xs hown k c hA hm hN
  refine ⟨l_step hg (o_val v' (w' := w') ?_ (hk v' w' h2 h3 h4).out)⟩
  unfold execOp
  simp only [ho, resolve, invoke, builtin, Sem.run_bind, Sem.run_pure, Result.andThen_ok, List.map_toArray, List.map_cons, List.map_nil, hs, hx, hr]
end
theorem own_at {w : World} {N g cap n : Nat} {xs : List Value} (h : w.ownsRow N 5 1 (.slice (some ⟨g, 0, none⟩) n cap) n xs) : At w g xs := by
  have hl := h.1
  refine ⟨fun j v hv => ?_, fun o => h.frozenAt o, (h.lt g rfl).2⟩
  have hj : j < xs.length := (List.getElem?_eq_some_iff.1 hv).1
  rw [Nat.zero_add, h.cellAt j (by omega)]; exact hv
theorem set_tk {vs : List Value} {i : Nat} {v : Value} (h : i < vs.length) : vs.set i v = vs.take i ++ [v] ++ vs.drop (i + 1) := by
  rw [List.set_eq_take_append_cons_drop, if_pos h]; simp
theorem blt_t {a b : Nat} (h : a < b) : Nat.blt a b = true := by rw [Nat.blt_eq]; exact h
/-- The digits from the last on. -/
def dRev : Nat → Int → List Int
  | 0, _ => []
  | f + 1, n => if n = 0 then [] else (48 + n % 10) :: dRev f (n / 10)
theorem dRev_decF : ∀ (f : Nat) (n : Int), 0 < n → n < 10 ^ (f + 1) → (dRev (f + 1) n).reverse = decF (f + 1) n
  | 0, n, h0, h => by
    have : n / 10 = 0 := by simp at h; omega
    unfold dRev decF
    rw [if_neg (by omega), if_pos this]
    simp [dRev]
  | f + 1, n, h0, h => by
    unfold dRev decF
    rw [if_neg (by omega)]
    by_cases hz : n / 10 = 0
    · rw [if_pos hz, hz]
      have : dRev (f + 1) 0 = [] := by unfold dRev; rw [if_pos rfl]
      rw [this]; simp
    · rw [if_neg hz, List.reverse_cons, dRev_decF f (n / 10) (by omega) (by rw [Int.pow_succ] at h; omega)]
theorem dRev_len : ∀ (f : Nat) (n : Int), (dRev f n).length ≤ f
  | 0, _ => by simp [dRev]
  | f + 1, n => by
    unfold dRev; split
    · simp
    · have := dRev_len f (n / 10); simp; omega
theorem dRev_step {f : Nat} {n : Int} (h : n ≠ 0) : dRev (f + 1) n = (48 + n % 10) :: dRev f (n / 10) := by
  show (if n = 0 then [] else (48 + n % 10) :: dRev f (n / 10)) = _
  rw [if_neg h]
theorem dRev_zero (f : Nat) : dRev f 0 = [] := by cases f with | zero => rfl | succ f => unfold dRev; rw [if_pos rfl]
/-- The first i and the last i are exchanged. -/
def RvI (xs : List Int) (i : Nat) (zs : List Int) : Prop := zs.length = xs.length ∧ ∀ p, p < xs.length → zs.getD p 0 = if p < i ∨ xs.length - i ≤ p then xs.getD (xs.length - 1 - p) 0 else xs.getD p 0
theorem RvI.start (xs : List Int) : RvI xs 0 xs := ⟨rfl, fun p hp => by rw [if_neg (by omega)]⟩
theorem RvI.step {xs zs : List Int} {i j : Nat} (h : RvI xs i zs) (hij : i < j) (hl : i + j + 1 = xs.length) : RvI xs (i + 1) ((zs.set i (zs.getD j 0)).set j (zs.getD i 0)) := by
  obtain ⟨h1, h2⟩ := h
  refine ⟨by simp [h1], fun p hp => ?_⟩
  have hi := h2 i (by omega)
  have hj := h2 j (by omega)
  rw [if_neg (by omega)] at hi hj
  simp only [List.getD_eq_getElem?_getD] at *
  rw [List.getElem?_set, List.getElem?_set]
  by_cases e1 : j = p
  · subst e1
    rw [if_pos rfl, if_pos (by simp; omega), if_pos (by omega)]
    simp only [Option.getD_some]
    rw [hi, show xs.length - 1 - j = i by omega]
  · rw [if_neg e1]
    by_cases e2 : i = p
    · subst e2
      rw [if_pos rfl, if_pos (by omega), if_pos (by omega)]
      simp only [Option.getD_some]
      rw [hj, show xs.length - 1 - i = j by omega]
    · rw [if_neg e2, h2 p hp]
      by_cases c : p < i ∨ xs.length - i ≤ p
      · rw [if_pos c, if_pos (by omega)]
      · rw [if_neg c, if_neg (by omega)]
theorem RvI.done {xs zs : List Int} {i j : Nat} (h : RvI xs i zs) (hij : ¬ i < j) (hl : i + j + 1 = xs.length) : zs = xs.reverse := by
  obtain ⟨h1, h2⟩ := h
  apply List.ext_getElem
  · simp [h1]
  · intro p a b
    have hp : p < xs.length := by omega
    have := h2 p hp
    simp only [List.getD_eq_getElem?_getD, List.getElem?_eq_getElem a, Option.getD_some] at this
    rw [this, List.getElem_reverse]
    by_cases c : p < i ∨ xs.length - i ≤ p
    · rw [if_pos c, List.getElem?_eq_getElem (by omega), Option.getD_some]
    · rw [if_neg c, List.getElem?_eq_getElem (by omega), Option.getD_some]
      congr 1; omega
theorem str_run (w : World) (g c : Nat) (ns : List Int) (hA : At w g (ns.map (Value.int .u8))) (m : Nat) (hm : m = ns.length) : (convert 51 9 (.slice (some ⟨g, 0, none⟩) m c)).run Tryd.prog w = .ok (.string (strOf ns)) w := by
  subst hm
  rw [run_convert_bytes_string w 51 9 5 _ _ _ Tryd.underlying51 Tryd.underlying5 Tryd.underlying9, run_bytesToString w _ _ _ ns]
  · rfl
  · have := run_loadCells_list (P := Tryd.prog) w ⟨g, 0, none⟩ (ns.map (Value.int .u8)) (fun j v hv => by rw [Addr.add_mid]; exact hA.1 j v hv)
    simpa using this
end Go.Proofs.YtdcojpbgijkmgaaDoor
/-
  The document's small quotient: by ten.
-/
namespace Go.Proofs.YtdcojpbgijkmgaaDoor
open Go.RowKit
theorem shlA (a : Int) (x y : Operand) (w : World) : (do eqGuard .shl 22 x y (.int .u64 a) (.int .u64 32); binOp .shl 22 (.int .u64 a) (.int .u64 32)).run Tryd.prog w = .ok (.int .u64 (IntKind.u64.wrap (a * 2 ^ 32))) w := by kernel_rfl
theorem shlB (a : Int) (x y : Operand) (w : World) : (do eqGuard .shl 22 x y (.int .u64 a) (.int .i64 32); binOp .shl 22 (.int .u64 a) (.int .i64 32)).run Tryd.prog w = .ok (.int .u64 (IntKind.u64.wrap (a * 2 ^ 32))) w := by kernel_rfl
theorem shlC (a : Int) (x y : Operand) (w : World) : (do eqGuard .shl 22 x y (.int .u64 a) (.int .i64 0); binOp .shl 22 (.int .u64 a) (.int .i64 0)).run Tryd.prog w = .ok (.int .u64 (IntKind.u64.wrap (a * 2 ^ 0))) w := by kernel_rfl
theorem quoA (a : Int) (x y : Operand) (w : World) : (do eqGuard .quo 22 x y (.int .u64 a) (.int .u64 10); binOp .quo 22 (.int .u64 a) (.int .u64 10)).run Tryd.prog w = .ok (.int .u64 (IntKind.u64.wrap (a.tdiv 10))) w := by kernel_rfl
theorem quo3 (x y : Operand) (w : World) : (do eqGuard .quo 3 x y (.int .i64 7) (.int .i64 2); binOp .quo 3 (.int .i64 7) (.int .i64 2)).run Tryd.prog w = .ok (.int .i64 3) w := by kernel_rfl
theorem addU (a b : Int) (x y : Operand) (w : World) : (do eqGuard .add 22 x y (.int .u64 a) (.int .u64 b); binOp .add 22 (.int .u64 a) (.int .u64 b)).run Tryd.prog w = .ok (.int .u64 (IntKind.u64.wrap (a + b))) w := by kernel_rfl
theorem remA (a : Int) (x y : Operand) (w : World) : (do eqGuard .rem 22 x y (.int .u64 a) (.int .u64 10); binOp .rem 22 (.int .u64 a) (.int .u64 10)).run Tryd.prog w = .ok (.int .u64 (a.tmod 10)) w := by kernel_rfl
theorem cvA (a : Int) (w : World) : (convert 22 5 (.int .u64 a)).run Tryd.prog w = .ok (.int .u8 (IntKind.u8.wrap a)) w := by kernel_rfl
theorem shlu_run {a c : Int} (h : a * 4294967296 = c) (h0 : 0 ≤ c) (h1 : c < 18446744073709551616) (x y : Operand) (w : World) : (do eqGuard .shl 22 x y (.int .u64 a) (.int .u64 32); binOp .shl 22 (.int .u64 a) (.int .u64 32)).run Tryd.prog w = .ok (.int .u64 c) w := by
  have e : IntKind.u64.wrap (a * 2 ^ 32) = c := by rw [IntKind.wrap_u64]; omega
  rw [shlA, e]
theorem shli_run {a c : Int} (h : a * 4294967296 = c) (h0 : 0 ≤ c) (h1 : c < 18446744073709551616) (x y : Operand) (w : World) : (do eqGuard .shl 22 x y (.int .u64 a) (.int .i64 32); binOp .shl 22 (.int .u64 a) (.int .i64 32)).run Tryd.prog w = .ok (.int .u64 c) w := by
  have e : IntKind.u64.wrap (a * 2 ^ 32) = c := by rw [IntKind.wrap_u64]; omega
  rw [shlB, e]
theorem shl0_run {a : Int} (h0 : 0 ≤ a) (h1 : a < 18446744073709551616) (x y : Operand) (w : World) : (do eqGuard .shl 22 x y (.int .u64 a) (.int .i64 0); binOp .shl 22 (.int .u64 a) (.int .i64 0)).run Tryd.prog w = .ok (.int .u64 a) w := by
  have e : IntKind.u64.wrap (a * 2 ^ 0) = a := by rw [IntKind.wrap_u64]; omega
  rw [shlC, e]
theorem quou_run {a c : Int} (h : a / 10 = c) (h0 : 0 ≤ a) (h1 : a < 18446744073709551616) (x y : Operand) (w : World) : (do eqGuard .quo 22 x y (.int .u64 a) (.int .u64 10); binOp .quo 22 (.int .u64 a) (.int .u64 10)).run Tryd.prog w = .ok (.int .u64 c) w := by
  have e : IntKind.u64.wrap (a.tdiv 10) = c := by rw [IntKind.wrap_u64, Int.tdiv_eq_ediv_of_nonneg h0]; omega
  rw [quoA, e]
theorem remu_run {a c : Int} (h : a % 10 = c) (h0 : 0 ≤ a) (x y : Operand) (w : World) : (do eqGuard .rem 22 x y (.int .u64 a) (.int .u64 10); binOp .rem 22 (.int .u64 a) (.int .u64 10)).run Tryd.prog w = .ok (.int .u64 c) w := by
  have e : a.tmod 10 = c := by rw [Int.tmod_eq_emod_of_nonneg h0]; exact h
  rw [remA, e]
theorem addu_run {a b c : Int} (h : a + b = c) (h0 : 0 ≤ c) (h1 : c < 18446744073709551616) (x y : Operand) (w : World) : (do eqGuard .add 22 x y (.int .u64 a) (.int .u64 b); binOp .add 22 (.int .u64 a) (.int .u64 b)).run Tryd.prog w = .ok (.int .u64 c) w := by
  have e : IntKind.u64.wrap (a + b) = c := by rw [IntKind.wrap_u64]; omega
  rw [addU, e]
theorem sz22b : (Tryd.prog.info? 22).map (·.size) = some 1 := by kernel_rfl
/-- The quotient's cells, ahead of the round of the digit m - 1. -/
def qc (y : Nat → Int) : Nat → List Value
  | 0 => [.int .u64 (y 1 * 4294967296 + y 0), .int .u64 (y 3 * 4294967296 + y 2), .int .u64 (y 5 * 4294967296 + y 4), .int .u64 (y 7 * 4294967296 + y 6)]
  | 1 => [.int .u64 (y 1 * 4294967296), .int .u64 (y 3 * 4294967296 + y 2), .int .u64 (y 5 * 4294967296 + y 4), .int .u64 (y 7 * 4294967296 + y 6)]
  | 2 => [.int .u64 0, .int .u64 (y 3 * 4294967296 + y 2), .int .u64 (y 5 * 4294967296 + y 4), .int .u64 (y 7 * 4294967296 + y 6)]
  | 3 => [.int .u64 0, .int .u64 (y 3 * 4294967296), .int .u64 (y 5 * 4294967296 + y 4), .int .u64 (y 7 * 4294967296 + y 6)]
  | 4 => [.int .u64 0, .int .u64 0, .int .u64 (y 5 * 4294967296 + y 4), .int .u64 (y 7 * 4294967296 + y 6)]
  | 5 => [.int .u64 0, .int .u64 0, .int .u64 (y 5 * 4294967296), .int .u64 (y 7 * 4294967296 + y 6)]
  | 6 => [.int .u64 0, .int .u64 0, .int .u64 0, .int .u64 (y 7 * 4294967296 + y 6)]
  | 7 => [.int .u64 0, .int .u64 0, .int .u64 0, .int .u64 (y 7 * 4294967296)]
  | _ => [.int .u64 0, .int .u64 0, .int .u64 0, .int .u64 0]
theorem small_w (n : Int) (x y r : Nat → Int) (w : World) (hr8 : r 8 = 0) (hxy : ∀ i, i < 8 → r (i + 1) * 4294967296 + dg n i = x i ∧ x i / 10 = y i ∧ x i % 10 = r i)
    (rb : ∀ i, i ≤ 8 → 0 ≤ r i ∧ r i < 10) (yb : ∀ i, i < 8 → 0 ≤ y i ∧ y i < 4294967296) :
    Calls Tryd.prog 47 #[nv n, .int .u64 10] w fun e w' => e = .returned (.tuple #[.agg (qc y 0).toArray, .int .u64 (r 0)]) ∧ Mo w w' := by
  refine w_enter 38 Tryd.func47 Tryd.ntmps47 rfl rfl ?_
  have M : Mo w w := Mo.refl _
  refine w_seq ?_
  refine w_reg ?_
  refine wl_box 24 (.tmp 0) (nv (n)) ((nvar (n))) rfl rfl (fun _ => by kernel_rfl) rfl ?_
  intro k1 w1 hk hz hq Q1
  have N_k1 : w.heap.size ≤ k1 := by have := M.size; omega
  replace M := M.trans hq
  clear hk hz hq
  refine wl_alloc 24 #[.int .u64 0, .int .u64 0, .int .u64 0, .int .u64 0] rfl (fun _ => by kernel_rfl) rfl ?_
  intro k2 w2 hk hz hq Q2
  have ne_k1_k2 : k1 ≠ k2 := by have := Q1.lt; omega
  have N_k2 : w.heap.size ≤ k2 := by have := M.size; omega
  replace Q1 := Q1.mo hq
  replace M := M.trans hq
  clear hk hz hq
  refine wl_mv (.const (.int .u64 (0))) (.int .u64 (0)) (fun _ => rfl) rfl rfl ?_
  refine w_nil ?_
  refine xn_then ?_
  refine w_seq ?_
  refine w_reg ?_
  refine wl_alloc 24 #[.int .u64 0, .int .u64 0, .int .u64 0, .int .u64 0] rfl (fun _ => by kernel_rfl) rfl ?_
  intro k3 w3 hk hz hq Q3
  have ne_k1_k3 : k1 ≠ k3 := by have := Q1.lt; omega
  have ne_k2_k3 : k2 ≠ k3 := by have := Q2.lt; omega
  have N_k3 : w.heap.size ≤ k3 := by have := M.size; omega
  replace Q1 := Q1.mo hq
  replace Q2 := Q2.mo hq
  replace M := M.trans hq
  clear hk hz hq
  refine w_nil ?_
  refine xn_then ?_
  refine w_seq ?_
  refine w_reg ?_
  refine wl_mv (.const (.int .u64 (0))) (.int .u64 (0)) (fun _ => rfl) rfl rfl ?_
  refine w_nil ?_
  refine xn_then ?_
  refine w_seq ?_
  refine w_seq ?_
  refine w_reg ?_
  refine wl_mv (.const (.int .i64 (7))) (.int .i64 (7)) (fun _ => rfl) rfl rfl ?_
  refine w_nil ?_
  refine xn_then ?_
  refine w_block ?_
  refine w_loop (fun m l w1 => m ≤ 8 ∧ look l 8 = .int .i64 ((m : Int) - 1) ∧ look l 7 = .int .u64 (r m) ∧ look l 1 = .int .u64 10 ∧ look l 2 = pt k1 0 ∧ look l 4 = pt k2 0 ∧ look l 6 = pt k3 0 ∧ At w1 k1 (nvli n) ∧ At w1 k2 [.int .u64 0, .int .u64 0, .int .u64 0, .int .u64 0] ∧ At w1 k3 (qc y m) ∧ Mo w w1) 8 ⟨by decide, rfl, by rw [hr8]; rfl, rfl, rfl, rfl, rfl, Q1, Q2, Q3, M⟩ ?_
  clear M Q1 Q2 Q3
  rintro m l wl ⟨hm, e8, e7, e1, e2, e4, e6, Q1, Q2, Q3, M⟩
  rcases m with _ | _ | _ | _ | _ | _ | _ | _ | _ | m
  · replace e8 : look l 8 = .int .i64 (-1) := by rw [e8]; rfl
    refine w_seq ?_
    refine w_seq ?_
    refine w_reg ?_
    refine wl_mv (.tmp 8) (.int .i64 (-1)) (fun _ => rfl) e8 rfl ?_
    refine wl_bin (fun x y => do eqGuard .geq 3 (.tmp 10) (.const (.int .i64 (0))) x y; binOp .geq 3 x y) (.tmp 10) (.const (.int .i64 (0))) (.int .i64 (-1)) (.int .i64 (0)) (.bool false) (fun _ => rfl) rfl rfl (by kernel_rfl) rfl ?_
    refine w_nil ?_
    refine xn_then ?_
    refine w_condF rfl ?_
    refine w_exit ?_
    refine xx_then ?_
    refine xx_then ?_
    refine xx_blk ?_
    refine xn_then ?_
    refine w_seq ?_
    refine w_reg ?_
    refine wl_load 24 (.tmp 6) (pt k3 0) (.agg #[.int .u64 (y 1 * 4294967296 + y 0), .int .u64 (y 3 * 4294967296 + y 2), .int .u64 (y 5 * 4294967296 + y 4), .int .u64 (y 7 * 4294967296 + y 6)]) rfl e6 (run_row Q3 24 0 4 [.int .u64 (y 1 * 4294967296 + y 0), .int .u64 (y 3 * 4294967296 + y 2), .int .u64 (y 5 * 4294967296 + y 4), .int .u64 (y 7 * 4294967296 + y 6)] rfl Tryd.underlying24 rfl sz24) rfl ?_
    refine wl_mv (.tmp 7) (.int .u64 (r 0)) (fun _ => rfl) e7 rfl ?_
    refine wl_st 24 (.tmp 4) (.tmp 36) k2 0 #[.int .u64 (y 1 * 4294967296 + y 0), .int .u64 (y 3 * 4294967296 + y 2), .int .u64 (y 5 * 4294967296 + y 4), .int .u64 (y 7 * 4294967296 + y 6)] [.int .u64 0, .int .u64 0, .int .u64 0, .int .u64 0] [.int .u64 (y 1 * 4294967296 + y 0), .int .u64 (y 3 * 4294967296 + y 2), .int .u64 (y 5 * 4294967296 + y 4), .int .u64 (y 7 * 4294967296 + y 6)] Q2 rfl rfl e4 rfl rfl sz24 rfl rfl rfl ?_
    intro w21 hS Qn
    replace Q2 := Qn
    clear Qn
    replace Q1 := hS.other _ _ ne_k1_k2 Q1
    replace Q3 := hS.other _ _ ne_k2_k3.symm Q3
    replace M := hS.mo _ N_k2 M
    clear hS
    refine wl_mv (.tmp 37) (.int .u64 (r 0)) (fun _ => rfl) rfl rfl ?_
    refine w_nil ?_
    refine xn_then ?_
    refine w_ret ?_
    exact w_ret2 _ _ (.agg #[.int .u64 (y 1 * 4294967296 + y 0), .int .u64 (y 3 * 4294967296 + y 2), .int .u64 (y 5 * 4294967296 + y 4), .int .u64 (y 7 * 4294967296 + y 6)]) (.int .u64 (r 0)) rfl ⟨k2, e4, (run_row Q2 24 0 4 [.int .u64 (y 1 * 4294967296 + y 0), .int .u64 (y 3 * 4294967296 + y 2), .int .u64 (y 5 * 4294967296 + y 4), .int .u64 (y 7 * 4294967296 + y 6)] rfl Tryd.underlying24 rfl sz24)⟩ rfl ⟨rfl, M⟩
  · obtain ⟨hx, hy, hr⟩ := hxy 0 (by decide)
    have hd := dg_bd n 0
    have hb := rb 0 (by decide)
    have hb1 := rb 1 (by decide)
    have hy1 := yb 1 (by decide)
    have hy2 := yb 2 (by decide)
    have hy3 := yb 3 (by decide)
    have hy4 := yb 4 (by decide)
    have hy5 := yb 5 (by decide)
    have hy6 := yb 6 (by decide)
    have hy7 := yb 7 (by decide)
    have hyi := yb 0 (by decide)
    refine w_seq ?_
    refine w_seq ?_
    refine w_reg ?_
    refine wl_mv (.tmp 8) (.int .i64 (0)) (fun _ => rfl) e8 rfl ?_
    refine wl_bin (fun x y => do eqGuard .geq 3 (.tmp 10) (.const (.int .i64 (0))) x y; binOp .geq 3 x y) (.tmp 10) (.const (.int .i64 (0))) (.int .i64 (0)) (.int .i64 (0)) (.bool true) (fun _ => rfl) rfl rfl (by kernel_rfl) rfl ?_
    refine w_nil ?_
    refine xn_then ?_
    refine w_condT rfl ?_
    refine w_skip ?_
    refine xn_then ?_
    refine w_seq ?_
    refine w_block ?_
    refine w_seq ?_
    refine w_reg ?_
    refine wl_mv (.tmp 7) (.int .u64 (r 1)) (fun _ => rfl) e7 rfl ?_
    refine wl_bin (fun x y => do eqGuard .shl 22 (.tmp 14) (.const (.int .u64 (32))) x y; binOp .shl 22 x y) (.tmp 14) (.const (.int .u64 (32))) (.int .u64 (r 1)) (.int .u64 (32)) (.int .u64 (r 1 * 4294967296)) (fun _ => rfl) rfl rfl (shlu_run rfl (by omega) (by omega) _ _ _) rfl ?_
    refine wl_load 24 (.tmp 2) (pt k1 0) (nv (n)) rfl e2 (run_row Q1 24 0 4 (nvli (n)) rfl Tryd.underlying24 rfl sz24) rfl ?_
    refine wl_mv (.tmp 8) (.int .i64 (0)) (fun _ => rfl) e8 rfl ?_
    refine wl_call 59 [(.tmp 16), (.tmp 17)] _ [nv (n), .int .i64 (0)] (.int .u64 (dg n 0)) rfl rfl (fun _ _ => by kernel_rfl) (half_any n 0 _ (by decide)) rfl ?_
    intro w21 hq
    replace Q1 := Q1.mo hq
    replace Q2 := Q2.mo hq
    replace Q3 := Q3.mo hq
    replace M := M.trans hq
    clear hq
    refine wl_bin (fun x y => do eqGuard .add 22 (.tmp 15) (.tmp 18) x y; binOp .add 22 x y) (.tmp 15) (.tmp 18) (.int .u64 (r 1 * 4294967296)) (.int .u64 (dg n 0)) (.int .u64 (x 0)) (fun _ => rfl) rfl rfl (addu_run hx (by omega) (by omega) _ _ _) rfl ?_
    refine wl_mv (.tmp 19) (.int .u64 (x 0)) (fun _ => rfl) rfl rfl ?_
    refine w_nil ?_
    refine xn_then ?_
    refine w_seq ?_
    refine w_any 13 [.inl (.int .i64 (0)), .inl (.int .i64 (0)), .inl (pt k3 0), .inl (.int .u64 (y 1 * 4294967296)), .inl (.int .u64 (x 0)), .inl (.int .u64 10), .inl (.int .u64 (y 0)), .inl (.int .i64 (0)), .inl (.int .i64 (0)), .inl (.int .i64 (0)), .inl (.int .u64 (y 0)), .inl (.int .u64 (y 1 * 4294967296 + y 0)), .inl (pt k3 0)] [] (by kernel_rfl) (by kernel_rfl) (by kernel_rfl) (by kernel_rfl) rfl (by kernel_rfl) (by kernel_rfl) late_nil ?_ ?_ ?_
    · exact Ds.none rfl
    · refine ea_cons ?_ (ea_cons ?_ (ea_cons ?_ (ea_cons ?_ (ea_cons ?_ (ea_cons ?_ (ea_cons ?_ (ea_cons ?_ (ea_cons ?_ (ea_cons ?_ (ea_cons ?_ (ea_cons ?_ (ea_cons ?_ (ea_nil)))))))))))))
      · exact og_eq (.int .i64 (0)) rfl (fun f wf hq hd K hK => go_run rfl (wo_mv (.tmp 8) (.int .i64 (0)) (fun _ => rfl) e8 (hK _ (Mo.refl _))))
      · exact og_eq (.int .i64 (0)) rfl (fun f wf hq hd K hK => go_run rfl (wo_bin (fun x y => do eqGuard .quo 3 (.tmp 20) (.const (.int .i64 (2))) x y; binOp .quo 3 x y) (.tmp 20) (.const (.int .i64 (2))) (.int .i64 (0)) (.int .i64 (2)) (.int .i64 (0)) (fun _ => rfl) (hd 0 rfl) rfl (by kernel_rfl) (hK _ (Mo.refl _))))
      · exact og_eq (pt k3 0) rfl (fun f wf hq hd K hK => go_run rfl (wo_bin (fun x y => Instr.indexAt 24 x y) (.tmp 6) (.tmp 21) (pt k3 0) (.int .i64 (0)) (pt k3 0) (fun _ => rfl) e6 (hd 1 rfl) (by kernel_rfl) (hK _ (Mo.refl _))))
      · exact og_eq (.int .u64 (y 1 * 4294967296)) rfl (fun f wf hq hd K hK => have Q3 := Q3.mo hq; go_run rfl (wo_load 22 (.tmp 22) (pt k3 0) (.int .u64 (y 1 * 4294967296)) rfl (hd 2 rfl) (run_one Q3 22 0 rfl Tryd.underlying22 rfl) (hK _ (Mo.refl _))))
      · exact og_eq (.int .u64 (x 0)) rfl (fun f wf hq hd K hK => go_run rfl (wo_mv (.tmp 9) (.int .u64 (x 0)) (fun _ => rfl) rfl (hK _ (Mo.refl _))))
      · exact og_eq (.int .u64 10) rfl (fun f wf hq hd K hK => go_run rfl (wo_mv (.tmp 1) (.int .u64 10) (fun _ => rfl) e1 (hK _ (Mo.refl _))))
      · exact og_eq (.int .u64 (y 0)) rfl (fun f wf hq hd K hK => go_run rfl (wo_bin (fun x y => do eqGuard .quo 22 (.tmp 24) (.tmp 25) x y; binOp .quo 22 x y) (.tmp 24) (.tmp 25) (.int .u64 (x 0)) (.int .u64 10) (.int .u64 (y 0)) (fun _ => rfl) (hd 4 rfl) (hd 5 rfl) (quou_run hy (by omega) (by omega) _ _ _) (hK _ (Mo.refl _))))
      · exact og_eq (.int .i64 (0)) rfl (fun f wf hq hd K hK => go_run rfl (wo_mv (.tmp 8) (.int .i64 (0)) (fun _ => rfl) e8 (hK _ (Mo.refl _))))
      · exact og_eq (.int .i64 (0)) rfl (fun f wf hq hd K hK => go_run rfl (wo_bin (fun x y => do eqGuard .rem 3 (.tmp 27) (.const (.int .i64 (2))) x y; binOp .rem 3 x y) (.tmp 27) (.const (.int .i64 (2))) (.int .i64 (0)) (.int .i64 (2)) (.int .i64 (0)) (fun _ => rfl) (hd 7 rfl) rfl (by kernel_rfl) (hK _ (Mo.refl _))))
      · exact og_eq (.int .i64 (0)) rfl (fun f wf hq hd K hK => go_run rfl (wo_bin (fun x y => do eqGuard .mul 3 (.tmp 28) (.const (.int .i64 (32))) x y; binOp .mul 3 x y) (.tmp 28) (.const (.int .i64 (32))) (.int .i64 (0)) (.int .i64 (32)) (.int .i64 (0)) (fun _ => rfl) (hd 8 rfl) rfl (by kernel_rfl) (hK _ (Mo.refl _))))
      · exact og_eq (.int .u64 (y 0)) rfl (fun f wf hq hd K hK => go_run rfl (wo_bin (fun x y => do eqGuard .shl 22 (.tmp 26) (.tmp 29) x y; binOp .shl 22 x y) (.tmp 26) (.tmp 29) (.int .u64 (y 0)) (.int .i64 (0)) (.int .u64 (y 0)) (fun _ => rfl) (hd 6 rfl) (hd 9 rfl) (shl0_run (by omega) (by omega) _ _ _) (hK _ (Mo.refl _))))
      · exact og_eq (.int .u64 (y 1 * 4294967296 + y 0)) rfl (fun f wf hq hd K hK => go_run rfl (wo_bin (fun x y => do eqGuard .add 22 (.tmp 23) (.tmp 30) x y; binOp .add 22 x y) (.tmp 23) (.tmp 30) (.int .u64 (y 1 * 4294967296)) (.int .u64 (y 0)) (.int .u64 (y 1 * 4294967296 + y 0)) (fun _ => rfl) (hd 3 rfl) (hd 10 rfl) (addu_run (by omega) (by omega) (by omega) _ _ _) (hK _ (Mo.refl _))))
      · exact og_eq (pt k3 0) rfl (fun f wf hq hd K hK => go_run rfl (wo_bin (fun x y => Instr.indexAt 24 x y) (.tmp 6) (.tmp 21) (pt k3 0) (.int .i64 (0)) (pt k3 0) (fun _ => rfl) e6 (hd 1 rfl) (by kernel_rfl) (hK _ (Mo.refl _))))
    intro kf22 w22 hq hR hne
    replace Q1 := Q1.mo hq
    replace Q2 := Q2.mo hq
    replace Q3 := Q3.mo hq
    replace M := M.trans hq
    clear hq hR hne
    refine wl_st1 22 (.tmp 32) (.tmp 31) k3 0 (.int .u64 (y 1 * 4294967296 + y 0)) [.int .u64 (y 1 * 4294967296), .int .u64 (y 3 * 4294967296 + y 2), .int .u64 (y 5 * 4294967296 + y 4), .int .u64 (y 7 * 4294967296 + y 6)] [.int .u64 (y 1 * 4294967296 + y 0), .int .u64 (y 3 * 4294967296 + y 2), .int .u64 (y 5 * 4294967296 + y 4), .int .u64 (y 7 * 4294967296 + y 6)] Q3 rfl rfl rfl rfl rfl sz22b rfl rfl rfl rfl ?_
    intro w23 hS Qn
    replace Q3 := Qn
    clear Qn
    replace Q1 := hS.other _ _ ne_k1_k3 Q1
    replace Q2 := hS.other _ _ ne_k2_k3 Q2
    replace M := hS.mo _ N_k3 M
    clear hS
    refine w_nil ?_
    refine xn_then ?_
    refine w_reg ?_
    refine wl_mv (.tmp 9) (.int .u64 (x 0)) (fun _ => rfl) rfl rfl ?_
    refine wl_mv (.tmp 1) (.int .u64 10) (fun _ => rfl) e1 rfl ?_
    refine wl_bin (fun x y => do eqGuard .rem 22 (.tmp 33) (.tmp 34) x y; binOp .rem 22 x y) (.tmp 33) (.tmp 34) (.int .u64 (x 0)) (.int .u64 10) (.int .u64 (r 0)) (fun _ => rfl) rfl rfl (remu_run hr (by omega) _ _ _) rfl ?_
    refine wl_mv (.tmp 35) (.int .u64 (r 0)) (fun _ => rfl) rfl rfl ?_
    refine w_nil ?_
    refine xn_blk ?_
    refine xn_then ?_
    refine w_reg ?_
    refine wl_mv (.tmp 8) (.int .i64 (0)) (fun _ => rfl) e8 rfl ?_
    refine wl_bin (fun x y => do eqGuard .sub 3 (.tmp 12) (.const (.int .i64 (1))) x y; binOp .sub 3 x y) (.tmp 12) (.const (.int .i64 (1))) (.int .i64 (0)) (.int .i64 (1)) (.int .i64 (-1)) (fun _ => rfl) rfl rfl (by kernel_rfl) rfl ?_
    refine wl_mv (.tmp 13) (.int .i64 (-1)) (fun _ => rfl) rfl rfl ?_
    refine w_nil ?_
    exact xn_loop 0 (by decide) ⟨by decide, rfl, rfl, e1, e2, e4, e6, Q1, Q2, Q3, M⟩
  · obtain ⟨hx, hy, hr⟩ := hxy 1 (by decide)
    have hd := dg_bd n 1
    have hb := rb 1 (by decide)
    have hb1 := rb 2 (by decide)
    have hy2 := yb 2 (by decide)
    have hy3 := yb 3 (by decide)
    have hy4 := yb 4 (by decide)
    have hy5 := yb 5 (by decide)
    have hy6 := yb 6 (by decide)
    have hy7 := yb 7 (by decide)
    have hyi := yb 1 (by decide)
    refine w_seq ?_
    refine w_seq ?_
    refine w_reg ?_
    refine wl_mv (.tmp 8) (.int .i64 (1)) (fun _ => rfl) e8 rfl ?_
    refine wl_bin (fun x y => do eqGuard .geq 3 (.tmp 10) (.const (.int .i64 (0))) x y; binOp .geq 3 x y) (.tmp 10) (.const (.int .i64 (0))) (.int .i64 (1)) (.int .i64 (0)) (.bool true) (fun _ => rfl) rfl rfl (by kernel_rfl) rfl ?_
    refine w_nil ?_
    refine xn_then ?_
    refine w_condT rfl ?_
    refine w_skip ?_
    refine xn_then ?_
    refine w_seq ?_
    refine w_block ?_
    refine w_seq ?_
    refine w_reg ?_
    refine wl_mv (.tmp 7) (.int .u64 (r 2)) (fun _ => rfl) e7 rfl ?_
    refine wl_bin (fun x y => do eqGuard .shl 22 (.tmp 14) (.const (.int .u64 (32))) x y; binOp .shl 22 x y) (.tmp 14) (.const (.int .u64 (32))) (.int .u64 (r 2)) (.int .u64 (32)) (.int .u64 (r 2 * 4294967296)) (fun _ => rfl) rfl rfl (shlu_run rfl (by omega) (by omega) _ _ _) rfl ?_
    refine wl_load 24 (.tmp 2) (pt k1 0) (nv (n)) rfl e2 (run_row Q1 24 0 4 (nvli (n)) rfl Tryd.underlying24 rfl sz24) rfl ?_
    refine wl_mv (.tmp 8) (.int .i64 (1)) (fun _ => rfl) e8 rfl ?_
    refine wl_call 59 [(.tmp 16), (.tmp 17)] _ [nv (n), .int .i64 (1)] (.int .u64 (dg n 1)) rfl rfl (fun _ _ => by kernel_rfl) (half_any n 1 _ (by decide)) rfl ?_
    intro w21 hq
    replace Q1 := Q1.mo hq
    replace Q2 := Q2.mo hq
    replace Q3 := Q3.mo hq
    replace M := M.trans hq
    clear hq
    refine wl_bin (fun x y => do eqGuard .add 22 (.tmp 15) (.tmp 18) x y; binOp .add 22 x y) (.tmp 15) (.tmp 18) (.int .u64 (r 2 * 4294967296)) (.int .u64 (dg n 1)) (.int .u64 (x 1)) (fun _ => rfl) rfl rfl (addu_run hx (by omega) (by omega) _ _ _) rfl ?_
    refine wl_mv (.tmp 19) (.int .u64 (x 1)) (fun _ => rfl) rfl rfl ?_
    refine w_nil ?_
    refine xn_then ?_
    refine w_seq ?_
    refine w_any 13 [.inl (.int .i64 (1)), .inl (.int .i64 (0)), .inl (pt k3 0), .inl (.int .u64 0), .inl (.int .u64 (x 1)), .inl (.int .u64 10), .inl (.int .u64 (y 1)), .inl (.int .i64 (1)), .inl (.int .i64 (1)), .inl (.int .i64 (32)), .inl (.int .u64 (y 1 * 4294967296)), .inl (.int .u64 (y 1 * 4294967296)), .inl (pt k3 0)] [] (by kernel_rfl) (by kernel_rfl) (by kernel_rfl) (by kernel_rfl) rfl (by kernel_rfl) (by kernel_rfl) late_nil ?_ ?_ ?_
    · exact Ds.none rfl
    · refine ea_cons ?_ (ea_cons ?_ (ea_cons ?_ (ea_cons ?_ (ea_cons ?_ (ea_cons ?_ (ea_cons ?_ (ea_cons ?_ (ea_cons ?_ (ea_cons ?_ (ea_cons ?_ (ea_cons ?_ (ea_cons ?_ (ea_nil)))))))))))))
      · exact og_eq (.int .i64 (1)) rfl (fun f wf hq hd K hK => go_run rfl (wo_mv (.tmp 8) (.int .i64 (1)) (fun _ => rfl) e8 (hK _ (Mo.refl _))))
      · exact og_eq (.int .i64 (0)) rfl (fun f wf hq hd K hK => go_run rfl (wo_bin (fun x y => do eqGuard .quo 3 (.tmp 20) (.const (.int .i64 (2))) x y; binOp .quo 3 x y) (.tmp 20) (.const (.int .i64 (2))) (.int .i64 (1)) (.int .i64 (2)) (.int .i64 (0)) (fun _ => rfl) (hd 0 rfl) rfl (by kernel_rfl) (hK _ (Mo.refl _))))
      · exact og_eq (pt k3 0) rfl (fun f wf hq hd K hK => go_run rfl (wo_bin (fun x y => Instr.indexAt 24 x y) (.tmp 6) (.tmp 21) (pt k3 0) (.int .i64 (0)) (pt k3 0) (fun _ => rfl) e6 (hd 1 rfl) (by kernel_rfl) (hK _ (Mo.refl _))))
      · exact og_eq (.int .u64 0) rfl (fun f wf hq hd K hK => have Q3 := Q3.mo hq; go_run rfl (wo_load 22 (.tmp 22) (pt k3 0) (.int .u64 0) rfl (hd 2 rfl) (run_one Q3 22 0 rfl Tryd.underlying22 rfl) (hK _ (Mo.refl _))))
      · exact og_eq (.int .u64 (x 1)) rfl (fun f wf hq hd K hK => go_run rfl (wo_mv (.tmp 9) (.int .u64 (x 1)) (fun _ => rfl) rfl (hK _ (Mo.refl _))))
      · exact og_eq (.int .u64 10) rfl (fun f wf hq hd K hK => go_run rfl (wo_mv (.tmp 1) (.int .u64 10) (fun _ => rfl) e1 (hK _ (Mo.refl _))))
      · exact og_eq (.int .u64 (y 1)) rfl (fun f wf hq hd K hK => go_run rfl (wo_bin (fun x y => do eqGuard .quo 22 (.tmp 24) (.tmp 25) x y; binOp .quo 22 x y) (.tmp 24) (.tmp 25) (.int .u64 (x 1)) (.int .u64 10) (.int .u64 (y 1)) (fun _ => rfl) (hd 4 rfl) (hd 5 rfl) (quou_run hy (by omega) (by omega) _ _ _) (hK _ (Mo.refl _))))
      · exact og_eq (.int .i64 (1)) rfl (fun f wf hq hd K hK => go_run rfl (wo_mv (.tmp 8) (.int .i64 (1)) (fun _ => rfl) e8 (hK _ (Mo.refl _))))
      · exact og_eq (.int .i64 (1)) rfl (fun f wf hq hd K hK => go_run rfl (wo_bin (fun x y => do eqGuard .rem 3 (.tmp 27) (.const (.int .i64 (2))) x y; binOp .rem 3 x y) (.tmp 27) (.const (.int .i64 (2))) (.int .i64 (1)) (.int .i64 (2)) (.int .i64 (1)) (fun _ => rfl) (hd 7 rfl) rfl (by kernel_rfl) (hK _ (Mo.refl _))))
      · exact og_eq (.int .i64 (32)) rfl (fun f wf hq hd K hK => go_run rfl (wo_bin (fun x y => do eqGuard .mul 3 (.tmp 28) (.const (.int .i64 (32))) x y; binOp .mul 3 x y) (.tmp 28) (.const (.int .i64 (32))) (.int .i64 (1)) (.int .i64 (32)) (.int .i64 (32)) (fun _ => rfl) (hd 8 rfl) rfl (by kernel_rfl) (hK _ (Mo.refl _))))
      · exact og_eq (.int .u64 (y 1 * 4294967296)) rfl (fun f wf hq hd K hK => go_run rfl (wo_bin (fun x y => do eqGuard .shl 22 (.tmp 26) (.tmp 29) x y; binOp .shl 22 x y) (.tmp 26) (.tmp 29) (.int .u64 (y 1)) (.int .i64 (32)) (.int .u64 (y 1 * 4294967296)) (fun _ => rfl) (hd 6 rfl) (hd 9 rfl) (shli_run rfl (by omega) (by omega) _ _ _) (hK _ (Mo.refl _))))
      · exact og_eq (.int .u64 (y 1 * 4294967296)) rfl (fun f wf hq hd K hK => go_run rfl (wo_bin (fun x y => do eqGuard .add 22 (.tmp 23) (.tmp 30) x y; binOp .add 22 x y) (.tmp 23) (.tmp 30) (.int .u64 0) (.int .u64 (y 1 * 4294967296)) (.int .u64 (y 1 * 4294967296)) (fun _ => rfl) (hd 3 rfl) (hd 10 rfl) (addu_run (by omega) (by omega) (by omega) _ _ _) (hK _ (Mo.refl _))))
      · exact og_eq (pt k3 0) rfl (fun f wf hq hd K hK => go_run rfl (wo_bin (fun x y => Instr.indexAt 24 x y) (.tmp 6) (.tmp 21) (pt k3 0) (.int .i64 (0)) (pt k3 0) (fun _ => rfl) e6 (hd 1 rfl) (by kernel_rfl) (hK _ (Mo.refl _))))
    intro kf22 w22 hq hR hne
    replace Q1 := Q1.mo hq
    replace Q2 := Q2.mo hq
    replace Q3 := Q3.mo hq
    replace M := M.trans hq
    clear hq hR hne
    refine wl_st1 22 (.tmp 32) (.tmp 31) k3 0 (.int .u64 (y 1 * 4294967296)) [.int .u64 0, .int .u64 (y 3 * 4294967296 + y 2), .int .u64 (y 5 * 4294967296 + y 4), .int .u64 (y 7 * 4294967296 + y 6)] [.int .u64 (y 1 * 4294967296), .int .u64 (y 3 * 4294967296 + y 2), .int .u64 (y 5 * 4294967296 + y 4), .int .u64 (y 7 * 4294967296 + y 6)] Q3 rfl rfl rfl rfl rfl sz22b rfl rfl rfl rfl ?_
    intro w23 hS Qn
    replace Q3 := Qn
    clear Qn
    replace Q1 := hS.other _ _ ne_k1_k3 Q1
    replace Q2 := hS.other _ _ ne_k2_k3 Q2
    replace M := hS.mo _ N_k3 M
    clear hS
    refine w_nil ?_
    refine xn_then ?_
    refine w_reg ?_
    refine wl_mv (.tmp 9) (.int .u64 (x 1)) (fun _ => rfl) rfl rfl ?_
    refine wl_mv (.tmp 1) (.int .u64 10) (fun _ => rfl) e1 rfl ?_
    refine wl_bin (fun x y => do eqGuard .rem 22 (.tmp 33) (.tmp 34) x y; binOp .rem 22 x y) (.tmp 33) (.tmp 34) (.int .u64 (x 1)) (.int .u64 10) (.int .u64 (r 1)) (fun _ => rfl) rfl rfl (remu_run hr (by omega) _ _ _) rfl ?_
    refine wl_mv (.tmp 35) (.int .u64 (r 1)) (fun _ => rfl) rfl rfl ?_
    refine w_nil ?_
    refine xn_blk ?_
    refine xn_then ?_
    refine w_reg ?_
    refine wl_mv (.tmp 8) (.int .i64 (1)) (fun _ => rfl) e8 rfl ?_
    refine wl_bin (fun x y => do eqGuard .sub 3 (.tmp 12) (.const (.int .i64 (1))) x y; binOp .sub 3 x y) (.tmp 12) (.const (.int .i64 (1))) (.int .i64 (1)) (.int .i64 (1)) (.int .i64 (0)) (fun _ => rfl) rfl rfl (by kernel_rfl) rfl ?_
    refine wl_mv (.tmp 13) (.int .i64 (0)) (fun _ => rfl) rfl rfl ?_
    refine w_nil ?_
    exact xn_loop 1 (by decide) ⟨by decide, rfl, rfl, e1, e2, e4, e6, Q1, Q2, Q3, M⟩
  · obtain ⟨hx, hy, hr⟩ := hxy 2 (by decide)
    have hd := dg_bd n 2
    have hb := rb 2 (by decide)
    have hb1 := rb 3 (by decide)
    have hy3 := yb 3 (by decide)
    have hy4 := yb 4 (by decide)
    have hy5 := yb 5 (by decide)
    have hy6 := yb 6 (by decide)
    have hy7 := yb 7 (by decide)
    have hyi := yb 2 (by decide)
    refine w_seq ?_
    refine w_seq ?_
    refine w_reg ?_
    refine wl_mv (.tmp 8) (.int .i64 (2)) (fun _ => rfl) e8 rfl ?_
    refine wl_bin (fun x y => do eqGuard .geq 3 (.tmp 10) (.const (.int .i64 (0))) x y; binOp .geq 3 x y) (.tmp 10) (.const (.int .i64 (0))) (.int .i64 (2)) (.int .i64 (0)) (.bool true) (fun _ => rfl) rfl rfl (by kernel_rfl) rfl ?_
    refine w_nil ?_
    refine xn_then ?_
    refine w_condT rfl ?_
    refine w_skip ?_
    refine xn_then ?_
    refine w_seq ?_
    refine w_block ?_
    refine w_seq ?_
    refine w_reg ?_
    refine wl_mv (.tmp 7) (.int .u64 (r 3)) (fun _ => rfl) e7 rfl ?_
    refine wl_bin (fun x y => do eqGuard .shl 22 (.tmp 14) (.const (.int .u64 (32))) x y; binOp .shl 22 x y) (.tmp 14) (.const (.int .u64 (32))) (.int .u64 (r 3)) (.int .u64 (32)) (.int .u64 (r 3 * 4294967296)) (fun _ => rfl) rfl rfl (shlu_run rfl (by omega) (by omega) _ _ _) rfl ?_
    refine wl_load 24 (.tmp 2) (pt k1 0) (nv (n)) rfl e2 (run_row Q1 24 0 4 (nvli (n)) rfl Tryd.underlying24 rfl sz24) rfl ?_
    refine wl_mv (.tmp 8) (.int .i64 (2)) (fun _ => rfl) e8 rfl ?_
    refine wl_call 59 [(.tmp 16), (.tmp 17)] _ [nv (n), .int .i64 (2)] (.int .u64 (dg n 2)) rfl rfl (fun _ _ => by kernel_rfl) (half_any n 2 _ (by decide)) rfl ?_
    intro w21 hq
    replace Q1 := Q1.mo hq
    replace Q2 := Q2.mo hq
    replace Q3 := Q3.mo hq
    replace M := M.trans hq
    clear hq
    refine wl_bin (fun x y => do eqGuard .add 22 (.tmp 15) (.tmp 18) x y; binOp .add 22 x y) (.tmp 15) (.tmp 18) (.int .u64 (r 3 * 4294967296)) (.int .u64 (dg n 2)) (.int .u64 (x 2)) (fun _ => rfl) rfl rfl (addu_run hx (by omega) (by omega) _ _ _) rfl ?_
    refine wl_mv (.tmp 19) (.int .u64 (x 2)) (fun _ => rfl) rfl rfl ?_
    refine w_nil ?_
    refine xn_then ?_
    refine w_seq ?_
    refine w_any 13 [.inl (.int .i64 (2)), .inl (.int .i64 (1)), .inl (pt k3 1), .inl (.int .u64 (y 3 * 4294967296)), .inl (.int .u64 (x 2)), .inl (.int .u64 10), .inl (.int .u64 (y 2)), .inl (.int .i64 (2)), .inl (.int .i64 (0)), .inl (.int .i64 (0)), .inl (.int .u64 (y 2)), .inl (.int .u64 (y 3 * 4294967296 + y 2)), .inl (pt k3 1)] [] (by kernel_rfl) (by kernel_rfl) (by kernel_rfl) (by kernel_rfl) rfl (by kernel_rfl) (by kernel_rfl) late_nil ?_ ?_ ?_
    · exact Ds.none rfl
    · refine ea_cons ?_ (ea_cons ?_ (ea_cons ?_ (ea_cons ?_ (ea_cons ?_ (ea_cons ?_ (ea_cons ?_ (ea_cons ?_ (ea_cons ?_ (ea_cons ?_ (ea_cons ?_ (ea_cons ?_ (ea_cons ?_ (ea_nil)))))))))))))
      · exact og_eq (.int .i64 (2)) rfl (fun f wf hq hd K hK => go_run rfl (wo_mv (.tmp 8) (.int .i64 (2)) (fun _ => rfl) e8 (hK _ (Mo.refl _))))
      · exact og_eq (.int .i64 (1)) rfl (fun f wf hq hd K hK => go_run rfl (wo_bin (fun x y => do eqGuard .quo 3 (.tmp 20) (.const (.int .i64 (2))) x y; binOp .quo 3 x y) (.tmp 20) (.const (.int .i64 (2))) (.int .i64 (2)) (.int .i64 (2)) (.int .i64 (1)) (fun _ => rfl) (hd 0 rfl) rfl (by kernel_rfl) (hK _ (Mo.refl _))))
      · exact og_eq (pt k3 1) rfl (fun f wf hq hd K hK => go_run rfl (wo_bin (fun x y => Instr.indexAt 24 x y) (.tmp 6) (.tmp 21) (pt k3 0) (.int .i64 (1)) (pt k3 1) (fun _ => rfl) e6 (hd 1 rfl) (by kernel_rfl) (hK _ (Mo.refl _))))
      · exact og_eq (.int .u64 (y 3 * 4294967296)) rfl (fun f wf hq hd K hK => have Q3 := Q3.mo hq; go_run rfl (wo_load 22 (.tmp 22) (pt k3 1) (.int .u64 (y 3 * 4294967296)) rfl (hd 2 rfl) (run_one Q3 22 1 rfl Tryd.underlying22 rfl) (hK _ (Mo.refl _))))
      · exact og_eq (.int .u64 (x 2)) rfl (fun f wf hq hd K hK => go_run rfl (wo_mv (.tmp 9) (.int .u64 (x 2)) (fun _ => rfl) rfl (hK _ (Mo.refl _))))
      · exact og_eq (.int .u64 10) rfl (fun f wf hq hd K hK => go_run rfl (wo_mv (.tmp 1) (.int .u64 10) (fun _ => rfl) e1 (hK _ (Mo.refl _))))
      · exact og_eq (.int .u64 (y 2)) rfl (fun f wf hq hd K hK => go_run rfl (wo_bin (fun x y => do eqGuard .quo 22 (.tmp 24) (.tmp 25) x y; binOp .quo 22 x y) (.tmp 24) (.tmp 25) (.int .u64 (x 2)) (.int .u64 10) (.int .u64 (y 2)) (fun _ => rfl) (hd 4 rfl) (hd 5 rfl) (quou_run hy (by omega) (by omega) _ _ _) (hK _ (Mo.refl _))))
      · exact og_eq (.int .i64 (2)) rfl (fun f wf hq hd K hK => go_run rfl (wo_mv (.tmp 8) (.int .i64 (2)) (fun _ => rfl) e8 (hK _ (Mo.refl _))))
      · exact og_eq (.int .i64 (0)) rfl (fun f wf hq hd K hK => go_run rfl (wo_bin (fun x y => do eqGuard .rem 3 (.tmp 27) (.const (.int .i64 (2))) x y; binOp .rem 3 x y) (.tmp 27) (.const (.int .i64 (2))) (.int .i64 (2)) (.int .i64 (2)) (.int .i64 (0)) (fun _ => rfl) (hd 7 rfl) rfl (by kernel_rfl) (hK _ (Mo.refl _))))
      · exact og_eq (.int .i64 (0)) rfl (fun f wf hq hd K hK => go_run rfl (wo_bin (fun x y => do eqGuard .mul 3 (.tmp 28) (.const (.int .i64 (32))) x y; binOp .mul 3 x y) (.tmp 28) (.const (.int .i64 (32))) (.int .i64 (0)) (.int .i64 (32)) (.int .i64 (0)) (fun _ => rfl) (hd 8 rfl) rfl (by kernel_rfl) (hK _ (Mo.refl _))))
      · exact og_eq (.int .u64 (y 2)) rfl (fun f wf hq hd K hK => go_run rfl (wo_bin (fun x y => do eqGuard .shl 22 (.tmp 26) (.tmp 29) x y; binOp .shl 22 x y) (.tmp 26) (.tmp 29) (.int .u64 (y 2)) (.int .i64 (0)) (.int .u64 (y 2)) (fun _ => rfl) (hd 6 rfl) (hd 9 rfl) (shl0_run (by omega) (by omega) _ _ _) (hK _ (Mo.refl _))))
      · exact og_eq (.int .u64 (y 3 * 4294967296 + y 2)) rfl (fun f wf hq hd K hK => go_run rfl (wo_bin (fun x y => do eqGuard .add 22 (.tmp 23) (.tmp 30) x y; binOp .add 22 x y) (.tmp 23) (.tmp 30) (.int .u64 (y 3 * 4294967296)) (.int .u64 (y 2)) (.int .u64 (y 3 * 4294967296 + y 2)) (fun _ => rfl) (hd 3 rfl) (hd 10 rfl) (addu_run (by omega) (by omega) (by omega) _ _ _) (hK _ (Mo.refl _))))
      · exact og_eq (pt k3 1) rfl (fun f wf hq hd K hK => go_run rfl (wo_bin (fun x y => Instr.indexAt 24 x y) (.tmp 6) (.tmp 21) (pt k3 0) (.int .i64 (1)) (pt k3 1) (fun _ => rfl) e6 (hd 1 rfl) (by kernel_rfl) (hK _ (Mo.refl _))))
    intro kf22 w22 hq hR hne
    replace Q1 := Q1.mo hq
    replace Q2 := Q2.mo hq
    replace Q3 := Q3.mo hq
    replace M := M.trans hq
    clear hq hR hne
    refine wl_st1 22 (.tmp 32) (.tmp 31) k3 1 (.int .u64 (y 3 * 4294967296 + y 2)) [.int .u64 0, .int .u64 (y 3 * 4294967296), .int .u64 (y 5 * 4294967296 + y 4), .int .u64 (y 7 * 4294967296 + y 6)] [.int .u64 0, .int .u64 (y 3 * 4294967296 + y 2), .int .u64 (y 5 * 4294967296 + y 4), .int .u64 (y 7 * 4294967296 + y 6)] Q3 rfl rfl rfl rfl rfl sz22b rfl rfl rfl rfl ?_
    intro w23 hS Qn
    replace Q3 := Qn
    clear Qn
    replace Q1 := hS.other _ _ ne_k1_k3 Q1
    replace Q2 := hS.other _ _ ne_k2_k3 Q2
    replace M := hS.mo _ N_k3 M
    clear hS
    refine w_nil ?_
    refine xn_then ?_
    refine w_reg ?_
    refine wl_mv (.tmp 9) (.int .u64 (x 2)) (fun _ => rfl) rfl rfl ?_
    refine wl_mv (.tmp 1) (.int .u64 10) (fun _ => rfl) e1 rfl ?_
    refine wl_bin (fun x y => do eqGuard .rem 22 (.tmp 33) (.tmp 34) x y; binOp .rem 22 x y) (.tmp 33) (.tmp 34) (.int .u64 (x 2)) (.int .u64 10) (.int .u64 (r 2)) (fun _ => rfl) rfl rfl (remu_run hr (by omega) _ _ _) rfl ?_
    refine wl_mv (.tmp 35) (.int .u64 (r 2)) (fun _ => rfl) rfl rfl ?_
    refine w_nil ?_
    refine xn_blk ?_
    refine xn_then ?_
    refine w_reg ?_
    refine wl_mv (.tmp 8) (.int .i64 (2)) (fun _ => rfl) e8 rfl ?_
    refine wl_bin (fun x y => do eqGuard .sub 3 (.tmp 12) (.const (.int .i64 (1))) x y; binOp .sub 3 x y) (.tmp 12) (.const (.int .i64 (1))) (.int .i64 (2)) (.int .i64 (1)) (.int .i64 (1)) (fun _ => rfl) rfl rfl (by kernel_rfl) rfl ?_
    refine wl_mv (.tmp 13) (.int .i64 (1)) (fun _ => rfl) rfl rfl ?_
    refine w_nil ?_
    exact xn_loop 2 (by decide) ⟨by decide, rfl, rfl, e1, e2, e4, e6, Q1, Q2, Q3, M⟩
  · obtain ⟨hx, hy, hr⟩ := hxy 3 (by decide)
    have hd := dg_bd n 3
    have hb := rb 3 (by decide)
    have hb1 := rb 4 (by decide)
    have hy4 := yb 4 (by decide)
    have hy5 := yb 5 (by decide)
    have hy6 := yb 6 (by decide)
    have hy7 := yb 7 (by decide)
    have hyi := yb 3 (by decide)
    refine w_seq ?_
    refine w_seq ?_
    refine w_reg ?_
    refine wl_mv (.tmp 8) (.int .i64 (3)) (fun _ => rfl) e8 rfl ?_
    refine wl_bin (fun x y => do eqGuard .geq 3 (.tmp 10) (.const (.int .i64 (0))) x y; binOp .geq 3 x y) (.tmp 10) (.const (.int .i64 (0))) (.int .i64 (3)) (.int .i64 (0)) (.bool true) (fun _ => rfl) rfl rfl (by kernel_rfl) rfl ?_
    refine w_nil ?_
    refine xn_then ?_
    refine w_condT rfl ?_
    refine w_skip ?_
    refine xn_then ?_
    refine w_seq ?_
    refine w_block ?_
    refine w_seq ?_
    refine w_reg ?_
    refine wl_mv (.tmp 7) (.int .u64 (r 4)) (fun _ => rfl) e7 rfl ?_
    refine wl_bin (fun x y => do eqGuard .shl 22 (.tmp 14) (.const (.int .u64 (32))) x y; binOp .shl 22 x y) (.tmp 14) (.const (.int .u64 (32))) (.int .u64 (r 4)) (.int .u64 (32)) (.int .u64 (r 4 * 4294967296)) (fun _ => rfl) rfl rfl (shlu_run rfl (by omega) (by omega) _ _ _) rfl ?_
    refine wl_load 24 (.tmp 2) (pt k1 0) (nv (n)) rfl e2 (run_row Q1 24 0 4 (nvli (n)) rfl Tryd.underlying24 rfl sz24) rfl ?_
    refine wl_mv (.tmp 8) (.int .i64 (3)) (fun _ => rfl) e8 rfl ?_
    refine wl_call 59 [(.tmp 16), (.tmp 17)] _ [nv (n), .int .i64 (3)] (.int .u64 (dg n 3)) rfl rfl (fun _ _ => by kernel_rfl) (half_any n 3 _ (by decide)) rfl ?_
    intro w21 hq
    replace Q1 := Q1.mo hq
    replace Q2 := Q2.mo hq
    replace Q3 := Q3.mo hq
    replace M := M.trans hq
    clear hq
    refine wl_bin (fun x y => do eqGuard .add 22 (.tmp 15) (.tmp 18) x y; binOp .add 22 x y) (.tmp 15) (.tmp 18) (.int .u64 (r 4 * 4294967296)) (.int .u64 (dg n 3)) (.int .u64 (x 3)) (fun _ => rfl) rfl rfl (addu_run hx (by omega) (by omega) _ _ _) rfl ?_
    refine wl_mv (.tmp 19) (.int .u64 (x 3)) (fun _ => rfl) rfl rfl ?_
    refine w_nil ?_
    refine xn_then ?_
    refine w_seq ?_
    refine w_any 13 [.inl (.int .i64 (3)), .inl (.int .i64 (1)), .inl (pt k3 1), .inl (.int .u64 0), .inl (.int .u64 (x 3)), .inl (.int .u64 10), .inl (.int .u64 (y 3)), .inl (.int .i64 (3)), .inl (.int .i64 (1)), .inl (.int .i64 (32)), .inl (.int .u64 (y 3 * 4294967296)), .inl (.int .u64 (y 3 * 4294967296)), .inl (pt k3 1)] [] (by kernel_rfl) (by kernel_rfl) (by kernel_rfl) (by kernel_rfl) rfl (by kernel_rfl) (by kernel_rfl) late_nil ?_ ?_ ?_
    · exact Ds.none rfl
    · refine ea_cons ?_ (ea_cons ?_ (ea_cons ?_ (ea_cons ?_ (ea_cons ?_ (ea_cons ?_ (ea_cons ?_ (ea_cons ?_ (ea_cons ?_ (ea_cons ?_ (ea_cons ?_ (ea_cons ?_ (ea_cons ?_ (ea_nil)))))))))))))
      · exact og_eq (.int .i64 (3)) rfl (fun f wf hq hd K hK => go_run rfl (wo_mv (.tmp 8) (.int .i64 (3)) (fun _ => rfl) e8 (hK _ (Mo.refl _))))
      · exact og_eq (.int .i64 (1)) rfl (fun f wf hq hd K hK => go_run rfl (wo_bin (fun x y => do eqGuard .quo 3 (.tmp 20) (.const (.int .i64 (2))) x y; binOp .quo 3 x y) (.tmp 20) (.const (.int .i64 (2))) (.int .i64 (3)) (.int .i64 (2)) (.int .i64 (1)) (fun _ => rfl) (hd 0 rfl) rfl (by kernel_rfl) (hK _ (Mo.refl _))))
      · exact og_eq (pt k3 1) rfl (fun f wf hq hd K hK => go_run rfl (wo_bin (fun x y => Instr.indexAt 24 x y) (.tmp 6) (.tmp 21) (pt k3 0) (.int .i64 (1)) (pt k3 1) (fun _ => rfl) e6 (hd 1 rfl) (by kernel_rfl) (hK _ (Mo.refl _))))
      · exact og_eq (.int .u64 0) rfl (fun f wf hq hd K hK => have Q3 := Q3.mo hq; go_run rfl (wo_load 22 (.tmp 22) (pt k3 1) (.int .u64 0) rfl (hd 2 rfl) (run_one Q3 22 1 rfl Tryd.underlying22 rfl) (hK _ (Mo.refl _))))
      · exact og_eq (.int .u64 (x 3)) rfl (fun f wf hq hd K hK => go_run rfl (wo_mv (.tmp 9) (.int .u64 (x 3)) (fun _ => rfl) rfl (hK _ (Mo.refl _))))
      · exact og_eq (.int .u64 10) rfl (fun f wf hq hd K hK => go_run rfl (wo_mv (.tmp 1) (.int .u64 10) (fun _ => rfl) e1 (hK _ (Mo.refl _))))
      · exact og_eq (.int .u64 (y 3)) rfl (fun f wf hq hd K hK => go_run rfl (wo_bin (fun x y => do eqGuard .quo 22 (.tmp 24) (.tmp 25) x y; binOp .quo 22 x y) (.tmp 24) (.tmp 25) (.int .u64 (x 3)) (.int .u64 10) (.int .u64 (y 3)) (fun _ => rfl) (hd 4 rfl) (hd 5 rfl) (quou_run hy (by omega) (by omega) _ _ _) (hK _ (Mo.refl _))))
      · exact og_eq (.int .i64 (3)) rfl (fun f wf hq hd K hK => go_run rfl (wo_mv (.tmp 8) (.int .i64 (3)) (fun _ => rfl) e8 (hK _ (Mo.refl _))))
      · exact og_eq (.int .i64 (1)) rfl (fun f wf hq hd K hK => go_run rfl (wo_bin (fun x y => do eqGuard .rem 3 (.tmp 27) (.const (.int .i64 (2))) x y; binOp .rem 3 x y) (.tmp 27) (.const (.int .i64 (2))) (.int .i64 (3)) (.int .i64 (2)) (.int .i64 (1)) (fun _ => rfl) (hd 7 rfl) rfl (by kernel_rfl) (hK _ (Mo.refl _))))
      · exact og_eq (.int .i64 (32)) rfl (fun f wf hq hd K hK => go_run rfl (wo_bin (fun x y => do eqGuard .mul 3 (.tmp 28) (.const (.int .i64 (32))) x y; binOp .mul 3 x y) (.tmp 28) (.const (.int .i64 (32))) (.int .i64 (1)) (.int .i64 (32)) (.int .i64 (32)) (fun _ => rfl) (hd 8 rfl) rfl (by kernel_rfl) (hK _ (Mo.refl _))))
      · exact og_eq (.int .u64 (y 3 * 4294967296)) rfl (fun f wf hq hd K hK => go_run rfl (wo_bin (fun x y => do eqGuard .shl 22 (.tmp 26) (.tmp 29) x y; binOp .shl 22 x y) (.tmp 26) (.tmp 29) (.int .u64 (y 3)) (.int .i64 (32)) (.int .u64 (y 3 * 4294967296)) (fun _ => rfl) (hd 6 rfl) (hd 9 rfl) (shli_run rfl (by omega) (by omega) _ _ _) (hK _ (Mo.refl _))))
      · exact og_eq (.int .u64 (y 3 * 4294967296)) rfl (fun f wf hq hd K hK => go_run rfl (wo_bin (fun x y => do eqGuard .add 22 (.tmp 23) (.tmp 30) x y; binOp .add 22 x y) (.tmp 23) (.tmp 30) (.int .u64 0) (.int .u64 (y 3 * 4294967296)) (.int .u64 (y 3 * 4294967296)) (fun _ => rfl) (hd 3 rfl) (hd 10 rfl) (addu_run (by omega) (by omega) (by omega) _ _ _) (hK _ (Mo.refl _))))
      · exact og_eq (pt k3 1) rfl (fun f wf hq hd K hK => go_run rfl (wo_bin (fun x y => Instr.indexAt 24 x y) (.tmp 6) (.tmp 21) (pt k3 0) (.int .i64 (1)) (pt k3 1) (fun _ => rfl) e6 (hd 1 rfl) (by kernel_rfl) (hK _ (Mo.refl _))))
    intro kf22 w22 hq hR hne
    replace Q1 := Q1.mo hq
    replace Q2 := Q2.mo hq
    replace Q3 := Q3.mo hq
    replace M := M.trans hq
    clear hq hR hne
    refine wl_st1 22 (.tmp 32) (.tmp 31) k3 1 (.int .u64 (y 3 * 4294967296)) [.int .u64 0, .int .u64 0, .int .u64 (y 5 * 4294967296 + y 4), .int .u64 (y 7 * 4294967296 + y 6)] [.int .u64 0, .int .u64 (y 3 * 4294967296), .int .u64 (y 5 * 4294967296 + y 4), .int .u64 (y 7 * 4294967296 + y 6)] Q3 rfl rfl rfl rfl rfl sz22b rfl rfl rfl rfl ?_
    intro w23 hS Qn
    replace Q3 := Qn
    clear Qn
    replace Q1 := hS.other _ _ ne_k1_k3 Q1
    replace Q2 := hS.other _ _ ne_k2_k3 Q2
    replace M := hS.mo _ N_k3 M
    clear hS
    refine w_nil ?_
    refine xn_then ?_
    refine w_reg ?_
    refine wl_mv (.tmp 9) (.int .u64 (x 3)) (fun _ => rfl) rfl rfl ?_
    refine wl_mv (.tmp 1) (.int .u64 10) (fun _ => rfl) e1 rfl ?_
    refine wl_bin (fun x y => do eqGuard .rem 22 (.tmp 33) (.tmp 34) x y; binOp .rem 22 x y) (.tmp 33) (.tmp 34) (.int .u64 (x 3)) (.int .u64 10) (.int .u64 (r 3)) (fun _ => rfl) rfl rfl (remu_run hr (by omega) _ _ _) rfl ?_
    refine wl_mv (.tmp 35) (.int .u64 (r 3)) (fun _ => rfl) rfl rfl ?_
    refine w_nil ?_
    refine xn_blk ?_
    refine xn_then ?_
    refine w_reg ?_
    refine wl_mv (.tmp 8) (.int .i64 (3)) (fun _ => rfl) e8 rfl ?_
    refine wl_bin (fun x y => do eqGuard .sub 3 (.tmp 12) (.const (.int .i64 (1))) x y; binOp .sub 3 x y) (.tmp 12) (.const (.int .i64 (1))) (.int .i64 (3)) (.int .i64 (1)) (.int .i64 (2)) (fun _ => rfl) rfl rfl (by kernel_rfl) rfl ?_
    refine wl_mv (.tmp 13) (.int .i64 (2)) (fun _ => rfl) rfl rfl ?_
    refine w_nil ?_
    exact xn_loop 3 (by decide) ⟨by decide, rfl, rfl, e1, e2, e4, e6, Q1, Q2, Q3, M⟩
  · obtain ⟨hx, hy, hr⟩ := hxy 4 (by decide)
    have hd := dg_bd n 4
    have hb := rb 4 (by decide)
    have hb1 := rb 5 (by decide)
    have hy5 := yb 5 (by decide)
    have hy6 := yb 6 (by decide)
    have hy7 := yb 7 (by decide)
    have hyi := yb 4 (by decide)
    refine w_seq ?_
    refine w_seq ?_
    refine w_reg ?_
    refine wl_mv (.tmp 8) (.int .i64 (4)) (fun _ => rfl) e8 rfl ?_
    refine wl_bin (fun x y => do eqGuard .geq 3 (.tmp 10) (.const (.int .i64 (0))) x y; binOp .geq 3 x y) (.tmp 10) (.const (.int .i64 (0))) (.int .i64 (4)) (.int .i64 (0)) (.bool true) (fun _ => rfl) rfl rfl (by kernel_rfl) rfl ?_
    refine w_nil ?_
    refine xn_then ?_
    refine w_condT rfl ?_
    refine w_skip ?_
    refine xn_then ?_
    refine w_seq ?_
    refine w_block ?_
    refine w_seq ?_
    refine w_reg ?_
    refine wl_mv (.tmp 7) (.int .u64 (r 5)) (fun _ => rfl) e7 rfl ?_
    refine wl_bin (fun x y => do eqGuard .shl 22 (.tmp 14) (.const (.int .u64 (32))) x y; binOp .shl 22 x y) (.tmp 14) (.const (.int .u64 (32))) (.int .u64 (r 5)) (.int .u64 (32)) (.int .u64 (r 5 * 4294967296)) (fun _ => rfl) rfl rfl (shlu_run rfl (by omega) (by omega) _ _ _) rfl ?_
    refine wl_load 24 (.tmp 2) (pt k1 0) (nv (n)) rfl e2 (run_row Q1 24 0 4 (nvli (n)) rfl Tryd.underlying24 rfl sz24) rfl ?_
    refine wl_mv (.tmp 8) (.int .i64 (4)) (fun _ => rfl) e8 rfl ?_
    refine wl_call 59 [(.tmp 16), (.tmp 17)] _ [nv (n), .int .i64 (4)] (.int .u64 (dg n 4)) rfl rfl (fun _ _ => by kernel_rfl) (half_any n 4 _ (by decide)) rfl ?_
    intro w21 hq
    replace Q1 := Q1.mo hq
    replace Q2 := Q2.mo hq
    replace Q3 := Q3.mo hq
    replace M := M.trans hq
    clear hq
    refine wl_bin (fun x y => do eqGuard .add 22 (.tmp 15) (.tmp 18) x y; binOp .add 22 x y) (.tmp 15) (.tmp 18) (.int .u64 (r 5 * 4294967296)) (.int .u64 (dg n 4)) (.int .u64 (x 4)) (fun _ => rfl) rfl rfl (addu_run hx (by omega) (by omega) _ _ _) rfl ?_
    refine wl_mv (.tmp 19) (.int .u64 (x 4)) (fun _ => rfl) rfl rfl ?_
    refine w_nil ?_
    refine xn_then ?_
    refine w_seq ?_
    refine w_any 13 [.inl (.int .i64 (4)), .inl (.int .i64 (2)), .inl (pt k3 2), .inl (.int .u64 (y 5 * 4294967296)), .inl (.int .u64 (x 4)), .inl (.int .u64 10), .inl (.int .u64 (y 4)), .inl (.int .i64 (4)), .inl (.int .i64 (0)), .inl (.int .i64 (0)), .inl (.int .u64 (y 4)), .inl (.int .u64 (y 5 * 4294967296 + y 4)), .inl (pt k3 2)] [] (by kernel_rfl) (by kernel_rfl) (by kernel_rfl) (by kernel_rfl) rfl (by kernel_rfl) (by kernel_rfl) late_nil ?_ ?_ ?_
    · exact Ds.none rfl
    · refine ea_cons ?_ (ea_cons ?_ (ea_cons ?_ (ea_cons ?_ (ea_cons ?_ (ea_cons ?_ (ea_cons ?_ (ea_cons ?_ (ea_cons ?_ (ea_cons ?_ (ea_cons ?_ (ea_cons ?_ (ea_cons ?_ (ea_nil)))))))))))))
      · exact og_eq (.int .i64 (4)) rfl (fun f wf hq hd K hK => go_run rfl (wo_mv (.tmp 8) (.int .i64 (4)) (fun _ => rfl) e8 (hK _ (Mo.refl _))))
      · exact og_eq (.int .i64 (2)) rfl (fun f wf hq hd K hK => go_run rfl (wo_bin (fun x y => do eqGuard .quo 3 (.tmp 20) (.const (.int .i64 (2))) x y; binOp .quo 3 x y) (.tmp 20) (.const (.int .i64 (2))) (.int .i64 (4)) (.int .i64 (2)) (.int .i64 (2)) (fun _ => rfl) (hd 0 rfl) rfl (by kernel_rfl) (hK _ (Mo.refl _))))
      · exact og_eq (pt k3 2) rfl (fun f wf hq hd K hK => go_run rfl (wo_bin (fun x y => Instr.indexAt 24 x y) (.tmp 6) (.tmp 21) (pt k3 0) (.int .i64 (2)) (pt k3 2) (fun _ => rfl) e6 (hd 1 rfl) (by kernel_rfl) (hK _ (Mo.refl _))))
      · exact og_eq (.int .u64 (y 5 * 4294967296)) rfl (fun f wf hq hd K hK => have Q3 := Q3.mo hq; go_run rfl (wo_load 22 (.tmp 22) (pt k3 2) (.int .u64 (y 5 * 4294967296)) rfl (hd 2 rfl) (run_one Q3 22 2 rfl Tryd.underlying22 rfl) (hK _ (Mo.refl _))))
      · exact og_eq (.int .u64 (x 4)) rfl (fun f wf hq hd K hK => go_run rfl (wo_mv (.tmp 9) (.int .u64 (x 4)) (fun _ => rfl) rfl (hK _ (Mo.refl _))))
      · exact og_eq (.int .u64 10) rfl (fun f wf hq hd K hK => go_run rfl (wo_mv (.tmp 1) (.int .u64 10) (fun _ => rfl) e1 (hK _ (Mo.refl _))))
      · exact og_eq (.int .u64 (y 4)) rfl (fun f wf hq hd K hK => go_run rfl (wo_bin (fun x y => do eqGuard .quo 22 (.tmp 24) (.tmp 25) x y; binOp .quo 22 x y) (.tmp 24) (.tmp 25) (.int .u64 (x 4)) (.int .u64 10) (.int .u64 (y 4)) (fun _ => rfl) (hd 4 rfl) (hd 5 rfl) (quou_run hy (by omega) (by omega) _ _ _) (hK _ (Mo.refl _))))
      · exact og_eq (.int .i64 (4)) rfl (fun f wf hq hd K hK => go_run rfl (wo_mv (.tmp 8) (.int .i64 (4)) (fun _ => rfl) e8 (hK _ (Mo.refl _))))
      · exact og_eq (.int .i64 (0)) rfl (fun f wf hq hd K hK => go_run rfl (wo_bin (fun x y => do eqGuard .rem 3 (.tmp 27) (.const (.int .i64 (2))) x y; binOp .rem 3 x y) (.tmp 27) (.const (.int .i64 (2))) (.int .i64 (4)) (.int .i64 (2)) (.int .i64 (0)) (fun _ => rfl) (hd 7 rfl) rfl (by kernel_rfl) (hK _ (Mo.refl _))))
      · exact og_eq (.int .i64 (0)) rfl (fun f wf hq hd K hK => go_run rfl (wo_bin (fun x y => do eqGuard .mul 3 (.tmp 28) (.const (.int .i64 (32))) x y; binOp .mul 3 x y) (.tmp 28) (.const (.int .i64 (32))) (.int .i64 (0)) (.int .i64 (32)) (.int .i64 (0)) (fun _ => rfl) (hd 8 rfl) rfl (by kernel_rfl) (hK _ (Mo.refl _))))
      · exact og_eq (.int .u64 (y 4)) rfl (fun f wf hq hd K hK => go_run rfl (wo_bin (fun x y => do eqGuard .shl 22 (.tmp 26) (.tmp 29) x y; binOp .shl 22 x y) (.tmp 26) (.tmp 29) (.int .u64 (y 4)) (.int .i64 (0)) (.int .u64 (y 4)) (fun _ => rfl) (hd 6 rfl) (hd 9 rfl) (shl0_run (by omega) (by omega) _ _ _) (hK _ (Mo.refl _))))
      · exact og_eq (.int .u64 (y 5 * 4294967296 + y 4)) rfl (fun f wf hq hd K hK => go_run rfl (wo_bin (fun x y => do eqGuard .add 22 (.tmp 23) (.tmp 30) x y; binOp .add 22 x y) (.tmp 23) (.tmp 30) (.int .u64 (y 5 * 4294967296)) (.int .u64 (y 4)) (.int .u64 (y 5 * 4294967296 + y 4)) (fun _ => rfl) (hd 3 rfl) (hd 10 rfl) (addu_run (by omega) (by omega) (by omega) _ _ _) (hK _ (Mo.refl _))))
      · exact og_eq (pt k3 2) rfl (fun f wf hq hd K hK => go_run rfl (wo_bin (fun x y => Instr.indexAt 24 x y) (.tmp 6) (.tmp 21) (pt k3 0) (.int .i64 (2)) (pt k3 2) (fun _ => rfl) e6 (hd 1 rfl) (by kernel_rfl) (hK _ (Mo.refl _))))
    intro kf22 w22 hq hR hne
    replace Q1 := Q1.mo hq
    replace Q2 := Q2.mo hq
    replace Q3 := Q3.mo hq
    replace M := M.trans hq
    clear hq hR hne
    refine wl_st1 22 (.tmp 32) (.tmp 31) k3 2 (.int .u64 (y 5 * 4294967296 + y 4)) [.int .u64 0, .int .u64 0, .int .u64 (y 5 * 4294967296), .int .u64 (y 7 * 4294967296 + y 6)] [.int .u64 0, .int .u64 0, .int .u64 (y 5 * 4294967296 + y 4), .int .u64 (y 7 * 4294967296 + y 6)] Q3 rfl rfl rfl rfl rfl sz22b rfl rfl rfl rfl ?_
    intro w23 hS Qn
    replace Q3 := Qn
    clear Qn
    replace Q1 := hS.other _ _ ne_k1_k3 Q1
    replace Q2 := hS.other _ _ ne_k2_k3 Q2
    replace M := hS.mo _ N_k3 M
    clear hS
    refine w_nil ?_
    refine xn_then ?_
    refine w_reg ?_
    refine wl_mv (.tmp 9) (.int .u64 (x 4)) (fun _ => rfl) rfl rfl ?_
    refine wl_mv (.tmp 1) (.int .u64 10) (fun _ => rfl) e1 rfl ?_
    refine wl_bin (fun x y => do eqGuard .rem 22 (.tmp 33) (.tmp 34) x y; binOp .rem 22 x y) (.tmp 33) (.tmp 34) (.int .u64 (x 4)) (.int .u64 10) (.int .u64 (r 4)) (fun _ => rfl) rfl rfl (remu_run hr (by omega) _ _ _) rfl ?_
    refine wl_mv (.tmp 35) (.int .u64 (r 4)) (fun _ => rfl) rfl rfl ?_
    refine w_nil ?_
    refine xn_blk ?_
    refine xn_then ?_
    refine w_reg ?_
    refine wl_mv (.tmp 8) (.int .i64 (4)) (fun _ => rfl) e8 rfl ?_
    refine wl_bin (fun x y => do eqGuard .sub 3 (.tmp 12) (.const (.int .i64 (1))) x y; binOp .sub 3 x y) (.tmp 12) (.const (.int .i64 (1))) (.int .i64 (4)) (.int .i64 (1)) (.int .i64 (3)) (fun _ => rfl) rfl rfl (by kernel_rfl) rfl ?_
    refine wl_mv (.tmp 13) (.int .i64 (3)) (fun _ => rfl) rfl rfl ?_
    refine w_nil ?_
    exact xn_loop 4 (by decide) ⟨by decide, rfl, rfl, e1, e2, e4, e6, Q1, Q2, Q3, M⟩
  · obtain ⟨hx, hy, hr⟩ := hxy 5 (by decide)
    have hd := dg_bd n 5
    have hb := rb 5 (by decide)
    have hb1 := rb 6 (by decide)
    have hy6 := yb 6 (by decide)
    have hy7 := yb 7 (by decide)
    have hyi := yb 5 (by decide)
    refine w_seq ?_
    refine w_seq ?_
    refine w_reg ?_
    refine wl_mv (.tmp 8) (.int .i64 (5)) (fun _ => rfl) e8 rfl ?_
    refine wl_bin (fun x y => do eqGuard .geq 3 (.tmp 10) (.const (.int .i64 (0))) x y; binOp .geq 3 x y) (.tmp 10) (.const (.int .i64 (0))) (.int .i64 (5)) (.int .i64 (0)) (.bool true) (fun _ => rfl) rfl rfl (by kernel_rfl) rfl ?_
    refine w_nil ?_
    refine xn_then ?_
    refine w_condT rfl ?_
    refine w_skip ?_
    refine xn_then ?_
    refine w_seq ?_
    refine w_block ?_
    refine w_seq ?_
    refine w_reg ?_
    refine wl_mv (.tmp 7) (.int .u64 (r 6)) (fun _ => rfl) e7 rfl ?_
    refine wl_bin (fun x y => do eqGuard .shl 22 (.tmp 14) (.const (.int .u64 (32))) x y; binOp .shl 22 x y) (.tmp 14) (.const (.int .u64 (32))) (.int .u64 (r 6)) (.int .u64 (32)) (.int .u64 (r 6 * 4294967296)) (fun _ => rfl) rfl rfl (shlu_run rfl (by omega) (by omega) _ _ _) rfl ?_
    refine wl_load 24 (.tmp 2) (pt k1 0) (nv (n)) rfl e2 (run_row Q1 24 0 4 (nvli (n)) rfl Tryd.underlying24 rfl sz24) rfl ?_
    refine wl_mv (.tmp 8) (.int .i64 (5)) (fun _ => rfl) e8 rfl ?_
    refine wl_call 59 [(.tmp 16), (.tmp 17)] _ [nv (n), .int .i64 (5)] (.int .u64 (dg n 5)) rfl rfl (fun _ _ => by kernel_rfl) (half_any n 5 _ (by decide)) rfl ?_
    intro w21 hq
    replace Q1 := Q1.mo hq
    replace Q2 := Q2.mo hq
    replace Q3 := Q3.mo hq
    replace M := M.trans hq
    clear hq
    refine wl_bin (fun x y => do eqGuard .add 22 (.tmp 15) (.tmp 18) x y; binOp .add 22 x y) (.tmp 15) (.tmp 18) (.int .u64 (r 6 * 4294967296)) (.int .u64 (dg n 5)) (.int .u64 (x 5)) (fun _ => rfl) rfl rfl (addu_run hx (by omega) (by omega) _ _ _) rfl ?_
    refine wl_mv (.tmp 19) (.int .u64 (x 5)) (fun _ => rfl) rfl rfl ?_
    refine w_nil ?_
    refine xn_then ?_
    refine w_seq ?_
    refine w_any 13 [.inl (.int .i64 (5)), .inl (.int .i64 (2)), .inl (pt k3 2), .inl (.int .u64 0), .inl (.int .u64 (x 5)), .inl (.int .u64 10), .inl (.int .u64 (y 5)), .inl (.int .i64 (5)), .inl (.int .i64 (1)), .inl (.int .i64 (32)), .inl (.int .u64 (y 5 * 4294967296)), .inl (.int .u64 (y 5 * 4294967296)), .inl (pt k3 2)] [] (by kernel_rfl) (by kernel_rfl) (by kernel_rfl) (by kernel_rfl) rfl (by kernel_rfl) (by kernel_rfl) late_nil ?_ ?_ ?_
    · exact Ds.none rfl
    · refine ea_cons ?_ (ea_cons ?_ (ea_cons ?_ (ea_cons ?_ (ea_cons ?_ (ea_cons ?_ (ea_cons ?_ (ea_cons ?_ (ea_cons ?_ (ea_cons ?_ (ea_cons ?_ (ea_cons ?_ (ea_cons ?_ (ea_nil)))))))))))))
      · exact og_eq (.int .i64 (5)) rfl (fun f wf hq hd K hK => go_run rfl (wo_mv (.tmp 8) (.int .i64 (5)) (fun _ => rfl) e8 (hK _ (Mo.refl _))))
      · exact og_eq (.int .i64 (2)) rfl (fun f wf hq hd K hK => go_run rfl (wo_bin (fun x y => do eqGuard .quo 3 (.tmp 20) (.const (.int .i64 (2))) x y; binOp .quo 3 x y) (.tmp 20) (.const (.int .i64 (2))) (.int .i64 (5)) (.int .i64 (2)) (.int .i64 (2)) (fun _ => rfl) (hd 0 rfl) rfl (by kernel_rfl) (hK _ (Mo.refl _))))
      · exact og_eq (pt k3 2) rfl (fun f wf hq hd K hK => go_run rfl (wo_bin (fun x y => Instr.indexAt 24 x y) (.tmp 6) (.tmp 21) (pt k3 0) (.int .i64 (2)) (pt k3 2) (fun _ => rfl) e6 (hd 1 rfl) (by kernel_rfl) (hK _ (Mo.refl _))))
      · exact og_eq (.int .u64 0) rfl (fun f wf hq hd K hK => have Q3 := Q3.mo hq; go_run rfl (wo_load 22 (.tmp 22) (pt k3 2) (.int .u64 0) rfl (hd 2 rfl) (run_one Q3 22 2 rfl Tryd.underlying22 rfl) (hK _ (Mo.refl _))))
      · exact og_eq (.int .u64 (x 5)) rfl (fun f wf hq hd K hK => go_run rfl (wo_mv (.tmp 9) (.int .u64 (x 5)) (fun _ => rfl) rfl (hK _ (Mo.refl _))))
      · exact og_eq (.int .u64 10) rfl (fun f wf hq hd K hK => go_run rfl (wo_mv (.tmp 1) (.int .u64 10) (fun _ => rfl) e1 (hK _ (Mo.refl _))))
      · exact og_eq (.int .u64 (y 5)) rfl (fun f wf hq hd K hK => go_run rfl (wo_bin (fun x y => do eqGuard .quo 22 (.tmp 24) (.tmp 25) x y; binOp .quo 22 x y) (.tmp 24) (.tmp 25) (.int .u64 (x 5)) (.int .u64 10) (.int .u64 (y 5)) (fun _ => rfl) (hd 4 rfl) (hd 5 rfl) (quou_run hy (by omega) (by omega) _ _ _) (hK _ (Mo.refl _))))
      · exact og_eq (.int .i64 (5)) rfl (fun f wf hq hd K hK => go_run rfl (wo_mv (.tmp 8) (.int .i64 (5)) (fun _ => rfl) e8 (hK _ (Mo.refl _))))
      · exact og_eq (.int .i64 (1)) rfl (fun f wf hq hd K hK => go_run rfl (wo_bin (fun x y => do eqGuard .rem 3 (.tmp 27) (.const (.int .i64 (2))) x y; binOp .rem 3 x y) (.tmp 27) (.const (.int .i64 (2))) (.int .i64 (5)) (.int .i64 (2)) (.int .i64 (1)) (fun _ => rfl) (hd 7 rfl) rfl (by kernel_rfl) (hK _ (Mo.refl _))))
      · exact og_eq (.int .i64 (32)) rfl (fun f wf hq hd K hK => go_run rfl (wo_bin (fun x y => do eqGuard .mul 3 (.tmp 28) (.const (.int .i64 (32))) x y; binOp .mul 3 x y) (.tmp 28) (.const (.int .i64 (32))) (.int .i64 (1)) (.int .i64 (32)) (.int .i64 (32)) (fun _ => rfl) (hd 8 rfl) rfl (by kernel_rfl) (hK _ (Mo.refl _))))
      · exact og_eq (.int .u64 (y 5 * 4294967296)) rfl (fun f wf hq hd K hK => go_run rfl (wo_bin (fun x y => do eqGuard .shl 22 (.tmp 26) (.tmp 29) x y; binOp .shl 22 x y) (.tmp 26) (.tmp 29) (.int .u64 (y 5)) (.int .i64 (32)) (.int .u64 (y 5 * 4294967296)) (fun _ => rfl) (hd 6 rfl) (hd 9 rfl) (shli_run rfl (by omega) (by omega) _ _ _) (hK _ (Mo.refl _))))
      · exact og_eq (.int .u64 (y 5 * 4294967296)) rfl (fun f wf hq hd K hK => go_run rfl (wo_bin (fun x y => do eqGuard .add 22 (.tmp 23) (.tmp 30) x y; binOp .add 22 x y) (.tmp 23) (.tmp 30) (.int .u64 0) (.int .u64 (y 5 * 4294967296)) (.int .u64 (y 5 * 4294967296)) (fun _ => rfl) (hd 3 rfl) (hd 10 rfl) (addu_run (by omega) (by omega) (by omega) _ _ _) (hK _ (Mo.refl _))))
      · exact og_eq (pt k3 2) rfl (fun f wf hq hd K hK => go_run rfl (wo_bin (fun x y => Instr.indexAt 24 x y) (.tmp 6) (.tmp 21) (pt k3 0) (.int .i64 (2)) (pt k3 2) (fun _ => rfl) e6 (hd 1 rfl) (by kernel_rfl) (hK _ (Mo.refl _))))
    intro kf22 w22 hq hR hne
    replace Q1 := Q1.mo hq
    replace Q2 := Q2.mo hq
    replace Q3 := Q3.mo hq
    replace M := M.trans hq
    clear hq hR hne
    refine wl_st1 22 (.tmp 32) (.tmp 31) k3 2 (.int .u64 (y 5 * 4294967296)) [.int .u64 0, .int .u64 0, .int .u64 0, .int .u64 (y 7 * 4294967296 + y 6)] [.int .u64 0, .int .u64 0, .int .u64 (y 5 * 4294967296), .int .u64 (y 7 * 4294967296 + y 6)] Q3 rfl rfl rfl rfl rfl sz22b rfl rfl rfl rfl ?_
    intro w23 hS Qn
    replace Q3 := Qn
    clear Qn
    replace Q1 := hS.other _ _ ne_k1_k3 Q1
    replace Q2 := hS.other _ _ ne_k2_k3 Q2
    replace M := hS.mo _ N_k3 M
    clear hS
    refine w_nil ?_
    refine xn_then ?_
    refine w_reg ?_
    refine wl_mv (.tmp 9) (.int .u64 (x 5)) (fun _ => rfl) rfl rfl ?_
    refine wl_mv (.tmp 1) (.int .u64 10) (fun _ => rfl) e1 rfl ?_
    refine wl_bin (fun x y => do eqGuard .rem 22 (.tmp 33) (.tmp 34) x y; binOp .rem 22 x y) (.tmp 33) (.tmp 34) (.int .u64 (x 5)) (.int .u64 10) (.int .u64 (r 5)) (fun _ => rfl) rfl rfl (remu_run hr (by omega) _ _ _) rfl ?_
    refine wl_mv (.tmp 35) (.int .u64 (r 5)) (fun _ => rfl) rfl rfl ?_
    refine w_nil ?_
    refine xn_blk ?_
    refine xn_then ?_
    refine w_reg ?_
    refine wl_mv (.tmp 8) (.int .i64 (5)) (fun _ => rfl) e8 rfl ?_
    refine wl_bin (fun x y => do eqGuard .sub 3 (.tmp 12) (.const (.int .i64 (1))) x y; binOp .sub 3 x y) (.tmp 12) (.const (.int .i64 (1))) (.int .i64 (5)) (.int .i64 (1)) (.int .i64 (4)) (fun _ => rfl) rfl rfl (by kernel_rfl) rfl ?_
    refine wl_mv (.tmp 13) (.int .i64 (4)) (fun _ => rfl) rfl rfl ?_
    refine w_nil ?_
    exact xn_loop 5 (by decide) ⟨by decide, rfl, rfl, e1, e2, e4, e6, Q1, Q2, Q3, M⟩
  · obtain ⟨hx, hy, hr⟩ := hxy 6 (by decide)
    have hd := dg_bd n 6
    have hb := rb 6 (by decide)
    have hb1 := rb 7 (by decide)
    have hy7 := yb 7 (by decide)
    have hyi := yb 6 (by decide)
    refine w_seq ?_
    refine w_seq ?_
    refine w_reg ?_
    refine wl_mv (.tmp 8) (.int .i64 (6)) (fun _ => rfl) e8 rfl ?_
    refine wl_bin (fun x y => do eqGuard .geq 3 (.tmp 10) (.const (.int .i64 (0))) x y; binOp .geq 3 x y) (.tmp 10) (.const (.int .i64 (0))) (.int .i64 (6)) (.int .i64 (0)) (.bool true) (fun _ => rfl) rfl rfl (by kernel_rfl) rfl ?_
    refine w_nil ?_
    refine xn_then ?_
    refine w_condT rfl ?_
    refine w_skip ?_
    refine xn_then ?_
    refine w_seq ?_
    refine w_block ?_
    refine w_seq ?_
    refine w_reg ?_
    refine wl_mv (.tmp 7) (.int .u64 (r 7)) (fun _ => rfl) e7 rfl ?_
    refine wl_bin (fun x y => do eqGuard .shl 22 (.tmp 14) (.const (.int .u64 (32))) x y; binOp .shl 22 x y) (.tmp 14) (.const (.int .u64 (32))) (.int .u64 (r 7)) (.int .u64 (32)) (.int .u64 (r 7 * 4294967296)) (fun _ => rfl) rfl rfl (shlu_run rfl (by omega) (by omega) _ _ _) rfl ?_
    refine wl_load 24 (.tmp 2) (pt k1 0) (nv (n)) rfl e2 (run_row Q1 24 0 4 (nvli (n)) rfl Tryd.underlying24 rfl sz24) rfl ?_
    refine wl_mv (.tmp 8) (.int .i64 (6)) (fun _ => rfl) e8 rfl ?_
    refine wl_call 59 [(.tmp 16), (.tmp 17)] _ [nv (n), .int .i64 (6)] (.int .u64 (dg n 6)) rfl rfl (fun _ _ => by kernel_rfl) (half_any n 6 _ (by decide)) rfl ?_
    intro w21 hq
    replace Q1 := Q1.mo hq
    replace Q2 := Q2.mo hq
    replace Q3 := Q3.mo hq
    replace M := M.trans hq
    clear hq
    refine wl_bin (fun x y => do eqGuard .add 22 (.tmp 15) (.tmp 18) x y; binOp .add 22 x y) (.tmp 15) (.tmp 18) (.int .u64 (r 7 * 4294967296)) (.int .u64 (dg n 6)) (.int .u64 (x 6)) (fun _ => rfl) rfl rfl (addu_run hx (by omega) (by omega) _ _ _) rfl ?_
    refine wl_mv (.tmp 19) (.int .u64 (x 6)) (fun _ => rfl) rfl rfl ?_
    refine w_nil ?_
    refine xn_then ?_
    refine w_seq ?_
    refine w_any 13 [.inl (.int .i64 (6)), .inl (.int .i64 (3)), .inl (pt k3 3), .inl (.int .u64 (y 7 * 4294967296)), .inl (.int .u64 (x 6)), .inl (.int .u64 10), .inl (.int .u64 (y 6)), .inl (.int .i64 (6)), .inl (.int .i64 (0)), .inl (.int .i64 (0)), .inl (.int .u64 (y 6)), .inl (.int .u64 (y 7 * 4294967296 + y 6)), .inl (pt k3 3)] [] (by kernel_rfl) (by kernel_rfl) (by kernel_rfl) (by kernel_rfl) rfl (by kernel_rfl) (by kernel_rfl) late_nil ?_ ?_ ?_
    · exact Ds.none rfl
    · refine ea_cons ?_ (ea_cons ?_ (ea_cons ?_ (ea_cons ?_ (ea_cons ?_ (ea_cons ?_ (ea_cons ?_ (ea_cons ?_ (ea_cons ?_ (ea_cons ?_ (ea_cons ?_ (ea_cons ?_ (ea_cons ?_ (ea_nil)))))))))))))
      · exact og_eq (.int .i64 (6)) rfl (fun f wf hq hd K hK => go_run rfl (wo_mv (.tmp 8) (.int .i64 (6)) (fun _ => rfl) e8 (hK _ (Mo.refl _))))
      · exact og_eq (.int .i64 (3)) rfl (fun f wf hq hd K hK => go_run rfl (wo_bin (fun x y => do eqGuard .quo 3 (.tmp 20) (.const (.int .i64 (2))) x y; binOp .quo 3 x y) (.tmp 20) (.const (.int .i64 (2))) (.int .i64 (6)) (.int .i64 (2)) (.int .i64 (3)) (fun _ => rfl) (hd 0 rfl) rfl (by kernel_rfl) (hK _ (Mo.refl _))))
      · exact og_eq (pt k3 3) rfl (fun f wf hq hd K hK => go_run rfl (wo_bin (fun x y => Instr.indexAt 24 x y) (.tmp 6) (.tmp 21) (pt k3 0) (.int .i64 (3)) (pt k3 3) (fun _ => rfl) e6 (hd 1 rfl) (by kernel_rfl) (hK _ (Mo.refl _))))
      · exact og_eq (.int .u64 (y 7 * 4294967296)) rfl (fun f wf hq hd K hK => have Q3 := Q3.mo hq; go_run rfl (wo_load 22 (.tmp 22) (pt k3 3) (.int .u64 (y 7 * 4294967296)) rfl (hd 2 rfl) (run_one Q3 22 3 rfl Tryd.underlying22 rfl) (hK _ (Mo.refl _))))
      · exact og_eq (.int .u64 (x 6)) rfl (fun f wf hq hd K hK => go_run rfl (wo_mv (.tmp 9) (.int .u64 (x 6)) (fun _ => rfl) rfl (hK _ (Mo.refl _))))
      · exact og_eq (.int .u64 10) rfl (fun f wf hq hd K hK => go_run rfl (wo_mv (.tmp 1) (.int .u64 10) (fun _ => rfl) e1 (hK _ (Mo.refl _))))
      · exact og_eq (.int .u64 (y 6)) rfl (fun f wf hq hd K hK => go_run rfl (wo_bin (fun x y => do eqGuard .quo 22 (.tmp 24) (.tmp 25) x y; binOp .quo 22 x y) (.tmp 24) (.tmp 25) (.int .u64 (x 6)) (.int .u64 10) (.int .u64 (y 6)) (fun _ => rfl) (hd 4 rfl) (hd 5 rfl) (quou_run hy (by omega) (by omega) _ _ _) (hK _ (Mo.refl _))))
      · exact og_eq (.int .i64 (6)) rfl (fun f wf hq hd K hK => go_run rfl (wo_mv (.tmp 8) (.int .i64 (6)) (fun _ => rfl) e8 (hK _ (Mo.refl _))))
      · exact og_eq (.int .i64 (0)) rfl (fun f wf hq hd K hK => go_run rfl (wo_bin (fun x y => do eqGuard .rem 3 (.tmp 27) (.const (.int .i64 (2))) x y; binOp .rem 3 x y) (.tmp 27) (.const (.int .i64 (2))) (.int .i64 (6)) (.int .i64 (2)) (.int .i64 (0)) (fun _ => rfl) (hd 7 rfl) rfl (by kernel_rfl) (hK _ (Mo.refl _))))
      · exact og_eq (.int .i64 (0)) rfl (fun f wf hq hd K hK => go_run rfl (wo_bin (fun x y => do eqGuard .mul 3 (.tmp 28) (.const (.int .i64 (32))) x y; binOp .mul 3 x y) (.tmp 28) (.const (.int .i64 (32))) (.int .i64 (0)) (.int .i64 (32)) (.int .i64 (0)) (fun _ => rfl) (hd 8 rfl) rfl (by kernel_rfl) (hK _ (Mo.refl _))))
      · exact og_eq (.int .u64 (y 6)) rfl (fun f wf hq hd K hK => go_run rfl (wo_bin (fun x y => do eqGuard .shl 22 (.tmp 26) (.tmp 29) x y; binOp .shl 22 x y) (.tmp 26) (.tmp 29) (.int .u64 (y 6)) (.int .i64 (0)) (.int .u64 (y 6)) (fun _ => rfl) (hd 6 rfl) (hd 9 rfl) (shl0_run (by omega) (by omega) _ _ _) (hK _ (Mo.refl _))))
      · exact og_eq (.int .u64 (y 7 * 4294967296 + y 6)) rfl (fun f wf hq hd K hK => go_run rfl (wo_bin (fun x y => do eqGuard .add 22 (.tmp 23) (.tmp 30) x y; binOp .add 22 x y) (.tmp 23) (.tmp 30) (.int .u64 (y 7 * 4294967296)) (.int .u64 (y 6)) (.int .u64 (y 7 * 4294967296 + y 6)) (fun _ => rfl) (hd 3 rfl) (hd 10 rfl) (addu_run (by omega) (by omega) (by omega) _ _ _) (hK _ (Mo.refl _))))
      · exact og_eq (pt k3 3) rfl (fun f wf hq hd K hK => go_run rfl (wo_bin (fun x y => Instr.indexAt 24 x y) (.tmp 6) (.tmp 21) (pt k3 0) (.int .i64 (3)) (pt k3 3) (fun _ => rfl) e6 (hd 1 rfl) (by kernel_rfl) (hK _ (Mo.refl _))))
    intro kf22 w22 hq hR hne
    replace Q1 := Q1.mo hq
    replace Q2 := Q2.mo hq
    replace Q3 := Q3.mo hq
    replace M := M.trans hq
    clear hq hR hne
    refine wl_st1 22 (.tmp 32) (.tmp 31) k3 3 (.int .u64 (y 7 * 4294967296 + y 6)) [.int .u64 0, .int .u64 0, .int .u64 0, .int .u64 (y 7 * 4294967296)] [.int .u64 0, .int .u64 0, .int .u64 0, .int .u64 (y 7 * 4294967296 + y 6)] Q3 rfl rfl rfl rfl rfl sz22b rfl rfl rfl rfl ?_
    intro w23 hS Qn
    replace Q3 := Qn
    clear Qn
    replace Q1 := hS.other _ _ ne_k1_k3 Q1
    replace Q2 := hS.other _ _ ne_k2_k3 Q2
    replace M := hS.mo _ N_k3 M
    clear hS
    refine w_nil ?_
    refine xn_then ?_
    refine w_reg ?_
    refine wl_mv (.tmp 9) (.int .u64 (x 6)) (fun _ => rfl) rfl rfl ?_
    refine wl_mv (.tmp 1) (.int .u64 10) (fun _ => rfl) e1 rfl ?_
    refine wl_bin (fun x y => do eqGuard .rem 22 (.tmp 33) (.tmp 34) x y; binOp .rem 22 x y) (.tmp 33) (.tmp 34) (.int .u64 (x 6)) (.int .u64 10) (.int .u64 (r 6)) (fun _ => rfl) rfl rfl (remu_run hr (by omega) _ _ _) rfl ?_
    refine wl_mv (.tmp 35) (.int .u64 (r 6)) (fun _ => rfl) rfl rfl ?_
    refine w_nil ?_
    refine xn_blk ?_
    refine xn_then ?_
    refine w_reg ?_
    refine wl_mv (.tmp 8) (.int .i64 (6)) (fun _ => rfl) e8 rfl ?_
    refine wl_bin (fun x y => do eqGuard .sub 3 (.tmp 12) (.const (.int .i64 (1))) x y; binOp .sub 3 x y) (.tmp 12) (.const (.int .i64 (1))) (.int .i64 (6)) (.int .i64 (1)) (.int .i64 (5)) (fun _ => rfl) rfl rfl (by kernel_rfl) rfl ?_
    refine wl_mv (.tmp 13) (.int .i64 (5)) (fun _ => rfl) rfl rfl ?_
    refine w_nil ?_
    exact xn_loop 6 (by decide) ⟨by decide, rfl, rfl, e1, e2, e4, e6, Q1, Q2, Q3, M⟩
  · obtain ⟨hx, hy, hr⟩ := hxy 7 (by decide)
    have hd := dg_bd n 7
    have hb := rb 7 (by decide)
    have hb1 := rb 8 (by decide)
    have hyi := yb 7 (by decide)
    refine w_seq ?_
    refine w_seq ?_
    refine w_reg ?_
    refine wl_mv (.tmp 8) (.int .i64 (7)) (fun _ => rfl) e8 rfl ?_
    refine wl_bin (fun x y => do eqGuard .geq 3 (.tmp 10) (.const (.int .i64 (0))) x y; binOp .geq 3 x y) (.tmp 10) (.const (.int .i64 (0))) (.int .i64 (7)) (.int .i64 (0)) (.bool true) (fun _ => rfl) rfl rfl (by kernel_rfl) rfl ?_
    refine w_nil ?_
    refine xn_then ?_
    refine w_condT rfl ?_
    refine w_skip ?_
    refine xn_then ?_
    refine w_seq ?_
    refine w_block ?_
    refine w_seq ?_
    refine w_reg ?_
    refine wl_mv (.tmp 7) (.int .u64 (r 8)) (fun _ => rfl) e7 rfl ?_
    refine wl_bin (fun x y => do eqGuard .shl 22 (.tmp 14) (.const (.int .u64 (32))) x y; binOp .shl 22 x y) (.tmp 14) (.const (.int .u64 (32))) (.int .u64 (r 8)) (.int .u64 (32)) (.int .u64 (r 8 * 4294967296)) (fun _ => rfl) rfl rfl (shlu_run rfl (by omega) (by omega) _ _ _) rfl ?_
    refine wl_load 24 (.tmp 2) (pt k1 0) (nv (n)) rfl e2 (run_row Q1 24 0 4 (nvli (n)) rfl Tryd.underlying24 rfl sz24) rfl ?_
    refine wl_mv (.tmp 8) (.int .i64 (7)) (fun _ => rfl) e8 rfl ?_
    refine wl_call 59 [(.tmp 16), (.tmp 17)] _ [nv (n), .int .i64 (7)] (.int .u64 (dg n 7)) rfl rfl (fun _ _ => by kernel_rfl) (half_any n 7 _ (by decide)) rfl ?_
    intro w21 hq
    replace Q1 := Q1.mo hq
    replace Q2 := Q2.mo hq
    replace Q3 := Q3.mo hq
    replace M := M.trans hq
    clear hq
    refine wl_bin (fun x y => do eqGuard .add 22 (.tmp 15) (.tmp 18) x y; binOp .add 22 x y) (.tmp 15) (.tmp 18) (.int .u64 (r 8 * 4294967296)) (.int .u64 (dg n 7)) (.int .u64 (x 7)) (fun _ => rfl) rfl rfl (addu_run hx (by omega) (by omega) _ _ _) rfl ?_
    refine wl_mv (.tmp 19) (.int .u64 (x 7)) (fun _ => rfl) rfl rfl ?_
    refine w_nil ?_
    refine xn_then ?_
    refine w_seq ?_
    refine w_any 13 [.inl (.int .i64 (7)), .inl (.int .i64 (3)), .inl (pt k3 3), .inl (.int .u64 0), .inl (.int .u64 (x 7)), .inl (.int .u64 10), .inl (.int .u64 (y 7)), .inl (.int .i64 (7)), .inl (.int .i64 (1)), .inl (.int .i64 (32)), .inl (.int .u64 (y 7 * 4294967296)), .inl (.int .u64 (y 7 * 4294967296)), .inl (pt k3 3)] [] (by kernel_rfl) (by kernel_rfl) (by kernel_rfl) (by kernel_rfl) rfl (by kernel_rfl) (by kernel_rfl) late_nil ?_ ?_ ?_
    · exact Ds.none rfl
    · refine ea_cons ?_ (ea_cons ?_ (ea_cons ?_ (ea_cons ?_ (ea_cons ?_ (ea_cons ?_ (ea_cons ?_ (ea_cons ?_ (ea_cons ?_ (ea_cons ?_ (ea_cons ?_ (ea_cons ?_ (ea_cons ?_ (ea_nil)))))))))))))
      · exact og_eq (.int .i64 (7)) rfl (fun f wf hq hd K hK => go_run rfl (wo_mv (.tmp 8) (.int .i64 (7)) (fun _ => rfl) e8 (hK _ (Mo.refl _))))
      · exact og_eq (.int .i64 (3)) rfl (fun f wf hq hd K hK => go_run rfl (wo_bin (fun x y => do eqGuard .quo 3 (.tmp 20) (.const (.int .i64 (2))) x y; binOp .quo 3 x y) (.tmp 20) (.const (.int .i64 (2))) (.int .i64 (7)) (.int .i64 (2)) (.int .i64 (3)) (fun _ => rfl) (hd 0 rfl) rfl (by kernel_rfl) (hK _ (Mo.refl _))))
      · exact og_eq (pt k3 3) rfl (fun f wf hq hd K hK => go_run rfl (wo_bin (fun x y => Instr.indexAt 24 x y) (.tmp 6) (.tmp 21) (pt k3 0) (.int .i64 (3)) (pt k3 3) (fun _ => rfl) e6 (hd 1 rfl) (by kernel_rfl) (hK _ (Mo.refl _))))
      · exact og_eq (.int .u64 0) rfl (fun f wf hq hd K hK => have Q3 := Q3.mo hq; go_run rfl (wo_load 22 (.tmp 22) (pt k3 3) (.int .u64 0) rfl (hd 2 rfl) (run_one Q3 22 3 rfl Tryd.underlying22 rfl) (hK _ (Mo.refl _))))
      · exact og_eq (.int .u64 (x 7)) rfl (fun f wf hq hd K hK => go_run rfl (wo_mv (.tmp 9) (.int .u64 (x 7)) (fun _ => rfl) rfl (hK _ (Mo.refl _))))
      · exact og_eq (.int .u64 10) rfl (fun f wf hq hd K hK => go_run rfl (wo_mv (.tmp 1) (.int .u64 10) (fun _ => rfl) e1 (hK _ (Mo.refl _))))
      · exact og_eq (.int .u64 (y 7)) rfl (fun f wf hq hd K hK => go_run rfl (wo_bin (fun x y => do eqGuard .quo 22 (.tmp 24) (.tmp 25) x y; binOp .quo 22 x y) (.tmp 24) (.tmp 25) (.int .u64 (x 7)) (.int .u64 10) (.int .u64 (y 7)) (fun _ => rfl) (hd 4 rfl) (hd 5 rfl) (quou_run hy (by omega) (by omega) _ _ _) (hK _ (Mo.refl _))))
      · exact og_eq (.int .i64 (7)) rfl (fun f wf hq hd K hK => go_run rfl (wo_mv (.tmp 8) (.int .i64 (7)) (fun _ => rfl) e8 (hK _ (Mo.refl _))))
      · exact og_eq (.int .i64 (1)) rfl (fun f wf hq hd K hK => go_run rfl (wo_bin (fun x y => do eqGuard .rem 3 (.tmp 27) (.const (.int .i64 (2))) x y; binOp .rem 3 x y) (.tmp 27) (.const (.int .i64 (2))) (.int .i64 (7)) (.int .i64 (2)) (.int .i64 (1)) (fun _ => rfl) (hd 7 rfl) rfl (by kernel_rfl) (hK _ (Mo.refl _))))
      · exact og_eq (.int .i64 (32)) rfl (fun f wf hq hd K hK => go_run rfl (wo_bin (fun x y => do eqGuard .mul 3 (.tmp 28) (.const (.int .i64 (32))) x y; binOp .mul 3 x y) (.tmp 28) (.const (.int .i64 (32))) (.int .i64 (1)) (.int .i64 (32)) (.int .i64 (32)) (fun _ => rfl) (hd 8 rfl) rfl (by kernel_rfl) (hK _ (Mo.refl _))))
      · exact og_eq (.int .u64 (y 7 * 4294967296)) rfl (fun f wf hq hd K hK => go_run rfl (wo_bin (fun x y => do eqGuard .shl 22 (.tmp 26) (.tmp 29) x y; binOp .shl 22 x y) (.tmp 26) (.tmp 29) (.int .u64 (y 7)) (.int .i64 (32)) (.int .u64 (y 7 * 4294967296)) (fun _ => rfl) (hd 6 rfl) (hd 9 rfl) (shli_run rfl (by omega) (by omega) _ _ _) (hK _ (Mo.refl _))))
      · exact og_eq (.int .u64 (y 7 * 4294967296)) rfl (fun f wf hq hd K hK => go_run rfl (wo_bin (fun x y => do eqGuard .add 22 (.tmp 23) (.tmp 30) x y; binOp .add 22 x y) (.tmp 23) (.tmp 30) (.int .u64 0) (.int .u64 (y 7 * 4294967296)) (.int .u64 (y 7 * 4294967296)) (fun _ => rfl) (hd 3 rfl) (hd 10 rfl) (addu_run (by omega) (by omega) (by omega) _ _ _) (hK _ (Mo.refl _))))
      · exact og_eq (pt k3 3) rfl (fun f wf hq hd K hK => go_run rfl (wo_bin (fun x y => Instr.indexAt 24 x y) (.tmp 6) (.tmp 21) (pt k3 0) (.int .i64 (3)) (pt k3 3) (fun _ => rfl) e6 (hd 1 rfl) (by kernel_rfl) (hK _ (Mo.refl _))))
    intro kf22 w22 hq hR hne
    replace Q1 := Q1.mo hq
    replace Q2 := Q2.mo hq
    replace Q3 := Q3.mo hq
    replace M := M.trans hq
    clear hq hR hne
    refine wl_st1 22 (.tmp 32) (.tmp 31) k3 3 (.int .u64 (y 7 * 4294967296)) [.int .u64 0, .int .u64 0, .int .u64 0, .int .u64 0] [.int .u64 0, .int .u64 0, .int .u64 0, .int .u64 (y 7 * 4294967296)] Q3 rfl rfl rfl rfl rfl sz22b rfl rfl rfl rfl ?_
    intro w23 hS Qn
    replace Q3 := Qn
    clear Qn
    replace Q1 := hS.other _ _ ne_k1_k3 Q1
    replace Q2 := hS.other _ _ ne_k2_k3 Q2
    replace M := hS.mo _ N_k3 M
    clear hS
    refine w_nil ?_
    refine xn_then ?_
    refine w_reg ?_
    refine wl_mv (.tmp 9) (.int .u64 (x 7)) (fun _ => rfl) rfl rfl ?_
    refine wl_mv (.tmp 1) (.int .u64 10) (fun _ => rfl) e1 rfl ?_
    refine wl_bin (fun x y => do eqGuard .rem 22 (.tmp 33) (.tmp 34) x y; binOp .rem 22 x y) (.tmp 33) (.tmp 34) (.int .u64 (x 7)) (.int .u64 10) (.int .u64 (r 7)) (fun _ => rfl) rfl rfl (remu_run hr (by omega) _ _ _) rfl ?_
    refine wl_mv (.tmp 35) (.int .u64 (r 7)) (fun _ => rfl) rfl rfl ?_
    refine w_nil ?_
    refine xn_blk ?_
    refine xn_then ?_
    refine w_reg ?_
    refine wl_mv (.tmp 8) (.int .i64 (7)) (fun _ => rfl) e8 rfl ?_
    refine wl_bin (fun x y => do eqGuard .sub 3 (.tmp 12) (.const (.int .i64 (1))) x y; binOp .sub 3 x y) (.tmp 12) (.const (.int .i64 (1))) (.int .i64 (7)) (.int .i64 (1)) (.int .i64 (6)) (fun _ => rfl) rfl rfl (by kernel_rfl) rfl ?_
    refine wl_mv (.tmp 13) (.int .i64 (6)) (fun _ => rfl) rfl rfl ?_
    refine w_nil ?_
    exact xn_loop 7 (by decide) ⟨by decide, rfl, rfl, e1, e2, e4, e6, Q1, Q2, Q3, M⟩
  · omega
/-- The rests, from the highest digit on. -/
def srd (n : Int) : Nat → Int
  | 0 => 0
  | j + 1 => (srd n j * 4294967296 + dg n (7 - j)) % 10
theorem srd_bd (n : Int) (j : Nat) : 0 ≤ srd n j ∧ srd n j < 10 := by
  cases j with
  | zero => show 0 ≤ (0 : Int) ∧ (0 : Int) < 10; decide
  | succ j => unfold srd; omega
theorem small_n (n : Int) (w : World) (h0 : 0 ≤ n) (h : n < MM) : Calls Tryd.prog 47 #[nv n, .int .u64 10] w fun e w' => e = .returned (.tuple #[nv (n / 10), .int .u64 (n % 10)]) ∧ Mo w w' := by
  have key := small_w n (fun i => srd n (7 - i) * 4294967296 + dg n i) (fun i => (srd n (7 - i) * 4294967296 + dg n i) / 10) (fun i => srd n (8 - i)) w rfl (fun i hi => ⟨by
      show srd n (8 - (i + 1)) * 4294967296 + dg n i = _
      rw [show 8 - (i + 1) = 7 - i by omega], rfl, by
      show _ = srd n (8 - i)
      rw [show 8 - i = (7 - i) + 1 by omega]
      show _ = (srd n (7 - i) * 4294967296 + dg n (7 - (7 - i))) % 10
      rw [show 7 - (7 - i) = i by omega]⟩) (fun i _ => srd_bd n _) (fun i _ => by
      have a := srd_bd n (7 - i); have b := dg_bd n i
      show 0 ≤ (srd n (7 - i) * 4294967296 + dg n i) / 10 ∧ (srd n (7 - i) * 4294967296 + dg n i) / 10 < 4294967296
      omega)
  have e0 : n = ((((((((dg n 7 * 4294967296 + dg n 6) * 4294967296 + dg n 5) * 4294967296 + dg n 4) * 4294967296 + dg n 3) * 4294967296 + dg n 2) * 4294967296 + dg n 1) * 4294967296 + dg n 0)) := by
    unfold dg MM at *; omega
  have b7 := dg_bd n 7
  have b6 := dg_bd n 6
  have b5 := dg_bd n 5
  have b4 := dg_bd n 4
  have b3 := dg_bd n 3
  have b2 := dg_bd n 2
  have b1 := dg_bd n 1
  have b0 := dg_bd n 0
  have s1 : srd n 1 = (0 * 4294967296 + dg n 7) % 10 := rfl
  have s2 : srd n 2 = (srd n 1 * 4294967296 + dg n 6) % 10 := rfl
  have s3 : srd n 3 = (srd n 2 * 4294967296 + dg n 5) % 10 := rfl
  have s4 : srd n 4 = (srd n 3 * 4294967296 + dg n 4) % 10 := rfl
  have s5 : srd n 5 = (srd n 4 * 4294967296 + dg n 3) % 10 := rfl
  have s6 : srd n 6 = (srd n 5 * 4294967296 + dg n 2) % 10 := rfl
  have s7 : srd n 7 = (srd n 6 * 4294967296 + dg n 1) % 10 := rfl
  have s8 : srd n 8 = (srd n 7 * 4294967296 + dg n 0) % 10 := rfl
  have z0 : srd n 0 = 0 := rfl
  have hQ : Value.agg (qc (fun i => (srd n (7 - i) * 4294967296 + dg n i) / 10) 0).toArray = nv (n / 10) ∧ srd n 8 = n % 10 := by
    show Value.agg #[.int .u64 ((srd n 6 * 4294967296 + dg n 1) / 10 * 4294967296 + (srd n 7 * 4294967296 + dg n 0) / 10), .int .u64 ((srd n 4 * 4294967296 + dg n 3) / 10 * 4294967296 + (srd n 5 * 4294967296 + dg n 2) / 10), .int .u64 ((srd n 2 * 4294967296 + dg n 5) / 10 * 4294967296 + (srd n 3 * 4294967296 + dg n 4) / 10), .int .u64 ((srd n 0 * 4294967296 + dg n 7) / 10 * 4294967296 + (srd n 1 * 4294967296 + dg n 6) / 10)] = nv (n / 10) ∧ srd n 8 = n % 10
    rw [z0]
    generalize srd n 1 = c1 at *
    generalize srd n 2 = c2 at *
    generalize srd n 3 = c3 at *
    generalize srd n 4 = c4 at *
    generalize srd n 5 = c5 at *
    generalize srd n 6 = c6 at *
    generalize srd n 7 = c7 at *
    generalize srd n 8 = c8 at *
    generalize dg n 7 = d7 at *
    generalize dg n 6 = d6 at *
    generalize dg n 5 = d5 at *
    generalize dg n 4 = d4 at *
    generalize dg n 3 = d3 at *
    generalize dg n 2 = d2 at *
    generalize dg n 1 = d1 at *
    generalize dg n 0 = d0 at *
    obtain ⟨y7, q7⟩ : ∃ y, (0 * 4294967296 + d7) / 10 = y := ⟨_, rfl⟩
    obtain ⟨y6, q6⟩ : ∃ y, (c1 * 4294967296 + d6) / 10 = y := ⟨_, rfl⟩
    obtain ⟨y5, q5⟩ : ∃ y, (c2 * 4294967296 + d5) / 10 = y := ⟨_, rfl⟩
    obtain ⟨y4, q4⟩ : ∃ y, (c3 * 4294967296 + d4) / 10 = y := ⟨_, rfl⟩
    obtain ⟨y3, q3⟩ : ∃ y, (c4 * 4294967296 + d3) / 10 = y := ⟨_, rfl⟩
    obtain ⟨y2, q2⟩ : ∃ y, (c5 * 4294967296 + d2) / 10 = y := ⟨_, rfl⟩
    obtain ⟨y1, q1⟩ : ∃ y, (c6 * 4294967296 + d1) / 10 = y := ⟨_, rfl⟩
    obtain ⟨y0, q0⟩ : ∃ y, (c7 * 4294967296 + d0) / 10 = y := ⟨_, rfl⟩
    rw [q7, q6, q5, q4, q3, q2, q1, q0]
    have t7 : d7 = 10 * y7 + c1 ∧ 0 ≤ y7 ∧ y7 < 4294967296 ∧ 0 ≤ c1 ∧ c1 < 10 := by omega
    have t6 : c1 * 4294967296 + d6 = 10 * y6 + c2 ∧ 0 ≤ y6 ∧ y6 < 4294967296 ∧ 0 ≤ c2 ∧ c2 < 10 := by omega
    have t5 : c2 * 4294967296 + d5 = 10 * y5 + c3 ∧ 0 ≤ y5 ∧ y5 < 4294967296 ∧ 0 ≤ c3 ∧ c3 < 10 := by omega
    have t4 : c3 * 4294967296 + d4 = 10 * y4 + c4 ∧ 0 ≤ y4 ∧ y4 < 4294967296 ∧ 0 ≤ c4 ∧ c4 < 10 := by omega
    have t3 : c4 * 4294967296 + d3 = 10 * y3 + c5 ∧ 0 ≤ y3 ∧ y3 < 4294967296 ∧ 0 ≤ c5 ∧ c5 < 10 := by omega
    have t2 : c5 * 4294967296 + d2 = 10 * y2 + c6 ∧ 0 ≤ y2 ∧ y2 < 4294967296 ∧ 0 ≤ c6 ∧ c6 < 10 := by omega
    have t1 : c6 * 4294967296 + d1 = 10 * y1 + c7 ∧ 0 ≤ y1 ∧ y1 < 4294967296 ∧ 0 ≤ c7 ∧ c7 < 10 := by omega
    have t0 : c7 * 4294967296 + d0 = 10 * y0 + c8 ∧ 0 ≤ y0 ∧ y0 < 4294967296 ∧ 0 ≤ c8 ∧ c8 < 10 := by omega
    clear s1 s2 s3 s4 s5 s6 s7 s8 q0 q1 q2 q3 q4 q5 q6 q7 b0 b1 b2 b3 b4 b5 b6 b7
    have hn : n = 10 * (((((((y7 * 4294967296 + y6) * 4294967296 + y5) * 4294967296 + y4) * 4294967296 + y3) * 4294967296 + y2) * 4294967296 + y1) * 4294967296 + y0) + c8 := by omega
    have hq : n / 10 = ((((((y7 * 4294967296 + y6) * 4294967296 + y5) * 4294967296 + y4) * 4294967296 + y3) * 4294967296 + y2) * 4294967296 + y1) * 4294967296 + y0 := by omega
    have hm : n % 10 = c8 := by omega
    rw [hq, hm]
    obtain ⟨_, u7, v7, _, _⟩ := t7
    obtain ⟨_, u6, v6, _, _⟩ := t6
    obtain ⟨_, u5, v5, _, _⟩ := t5
    obtain ⟨_, u4, v4, _, _⟩ := t4
    obtain ⟨_, u3, v3, _, _⟩ := t3
    obtain ⟨_, u2, v2, _, _⟩ := t2
    obtain ⟨_, u1, v1, _, _⟩ := t1
    obtain ⟨_, u0, v0, _, _⟩ := t0
    clear hn hq hm e0
    refine ⟨?_, rfl⟩
    unfold nv
    have g0 : l0 (((((((y7 * 4294967296 + y6) * 4294967296 + y5) * 4294967296 + y4) * 4294967296 + y3) * 4294967296 + y2) * 4294967296 + y1) * 4294967296 + y0) = y1 * 4294967296 + y0 := by unfold l0; omega
    have g1 : l1 (((((((y7 * 4294967296 + y6) * 4294967296 + y5) * 4294967296 + y4) * 4294967296 + y3) * 4294967296 + y2) * 4294967296 + y1) * 4294967296 + y0) = y3 * 4294967296 + y2 := by unfold l1; omega
    have g2 : l2 (((((((y7 * 4294967296 + y6) * 4294967296 + y5) * 4294967296 + y4) * 4294967296 + y3) * 4294967296 + y2) * 4294967296 + y1) * 4294967296 + y0) = y5 * 4294967296 + y4 := by unfold l2; omega
    have g3 : l3 (((((((y7 * 4294967296 + y6) * 4294967296 + y5) * 4294967296 + y4) * 4294967296 + y3) * 4294967296 + y2) * 4294967296 + y1) * 4294967296 + y0) = y7 * 4294967296 + y6 := by unfold l3; omega
    rw [g0, g1, g2, g3]
  rw [hQ.1] at key
  have e8 : srd n (8 - 0) = n % 10 := hQ.2
  rw [e8] at key
  exact key
end Go.Proofs.YtdcojpbgijkmgaaDoor
/-
  The document's Text of a number.
-/
namespace Go.Proofs.YtdcojpbgijkmgaaDoor
open Go.RowKit
theorem sz5 : (Tryd.prog.info? 5).map (·.size) = some 1 := by kernel_rfl
theorem cvb_run {a : Int} (h0 : 0 ≤ a) (h1 : a < 256) (w : World) : (convert 22 5 (.int .u64 a)).run Tryd.prog w = .ok (.int .u8 a) w := by
  have e : IntKind.u8.wrap a = a := by rw [IntKind.wrap_u8]; omega
  rw [cvA, e]
theorem lens_run (ρ : Operand → Value) (x : Operand) (p : Option Addr) (m c : Nat) (hx : ρ x = .slice p m c) (dst : Option Tmp) (type : TypeId) (pos : String) (after : Array Edge) (guard : Option (Nat × Bool)) (w : World) : (execOp ρ { dst, op := .call { callee := .builtin .len, args := #[x], argTypes := #[51] }, type, pos, after, guard }).run Tryd.prog w = .ok (.value (.int .i64 (m : Int))) w := by
  simp [go_sem, hx]
theorem rtext_0 (n : Int) (w : World) (hz : (l0 n == 0 && (l1 n == 0 && (l2 n == 0 && l3 n == 0))) = true) : Calls Tryd.prog 24 #[nv n] w fun e w' => e = .returned (.string ⟨#[48]⟩) ∧ Mo w w' := by
  refine w_enter 52 Tryd.func24 Tryd.ntmps24 rfl rfl ?_
  have M : Mo w w := Mo.refl _
  refine w_seq ?_
  refine w_reg ?_
  refine wl_box 24 (.tmp 0) (nv (n)) ((nvar (n))) rfl rfl (fun _ => by kernel_rfl) rfl ?_
  intro k1 w1 hk hz hq Q1
  have N_k1 : w.heap.size ≤ k1 := by have := M.size; omega
  replace M := M.trans hq
  clear hk hz hq
  refine wl_mv (.const (.string ⟨#[]⟩)) (.string ⟨#[]⟩) (fun _ => rfl) rfl rfl ?_
  refine w_nil ?_
  refine xn_then ?_
  refine w_seq ?_
  refine w_seq ?_
  refine w_reg ?_
  refine wl_load 24 (.tmp 1) (pt k1 0) (nv (n)) rfl rfl (run_row Q1 24 0 4 (nvli (n)) rfl Tryd.underlying24 rfl sz24) rfl ?_
  refine wl_build 24 [] [] (.agg #[.int .u64 0, .int .u64 0, .int .u64 0, .int .u64 0]) rfl rfl (by kernel_rfl) rfl ?_
  refine wl_bin (fun x y => do eqGuard .eql 24 (.tmp 8) (.tmp 9) x y; binOp .eql 24 x y) (.tmp 8) (.tmp 9) (nv (n)) (.agg #[.int .u64 0, .int .u64 0, .int .u64 0, .int .u64 0]) (.bool true) (fun _ => rfl) rfl rfl (eqn_run hz _ _ _) rfl ?_
  refine w_nil ?_
  refine xn_then ?_
  refine w_condT rfl ?_
  refine w_seq ?_
  refine w_reg ?_
  refine wl_mv (.const (.string ⟨#[48]⟩)) (.string ⟨#[48]⟩) (fun _ => rfl) rfl rfl ?_
  refine w_nil ?_
  refine xn_then ?_
  refine w_ret ?_
  refine xr_then ?_
  exact w_ret1 _ (.string ⟨#[48]⟩) rfl rfl ⟨rfl, M⟩
theorem sub3b_run {k : Nat} (hk : 0 < k ∧ k ≤ 1000) (x y : Operand) (w : World) : (do eqGuard .sub 3 x y (.int .i64 (k : Int)) (.int .i64 1); binOp .sub 3 (.int .i64 (k : Int)) (.int .i64 1)).run Tryd.prog w = .ok (.int .i64 ((k - 1 : Nat) : Int)) w := by
  have e : (do eqGuard .sub 3 x y (.int .i64 (k : Int)) (.int .i64 1); binOp .sub 3 (.int .i64 (k : Int)) (.int .i64 1)).run Tryd.prog w = .ok (.int .i64 (IntKind.i64.wrap ((k : Int) - 1))) w := by kernel_rfl
  have h : IntKind.i64.wrap ((k : Int) - 1) = ((k - 1 : Nat) : Int) := by rw [IntKind.wrap_i64]; omega
  rw [e, h]
theorem getD_map {zs : List Int} {p : Nat} (h : p < zs.length) : (zs.map (Value.int .u8))[p]? = some (.int .u8 (zs.getD p 0)) := by
  simp [h]
theorem rtext_w (n : Int) (w : World) (hn0 : n ≠ 0) (hnn : (n.toNat : Int) = n) (hn : n < MM) (hz : (l0 n == 0 && (l1 n == 0 && (l2 n == 0 && l3 n == 0))) = false) : Calls Tryd.prog 24 #[nv n] w fun e w' => e = .returned (.string (strOf (decF 78 n))) ∧ Mo w w' := by
  refine w_enter 52 Tryd.func24 Tryd.ntmps24 rfl rfl ?_
  have M : Mo w w := Mo.refl _
  refine w_seq ?_
  refine w_reg ?_
  refine wl_box 24 (.tmp 0) (nv (n)) ((nvar (n))) rfl rfl (fun _ => by kernel_rfl) rfl ?_
  intro k1 w1 hk hz hq Q1
  have N_k1 : w.heap.size ≤ k1 := by have := M.size; omega
  replace M := M.trans hq
  clear hk hz hq
  refine wl_mv (.const (.string ⟨#[]⟩)) (.string ⟨#[]⟩) (fun _ => rfl) rfl rfl ?_
  refine w_nil ?_
  refine xn_then ?_
  refine w_seq ?_
  refine w_seq ?_
  refine w_reg ?_
  refine wl_load 24 (.tmp 1) (pt k1 0) (nv (n)) rfl rfl (run_row Q1 24 0 4 (nvli (n)) rfl Tryd.underlying24 rfl sz24) rfl ?_
  refine wl_build 24 [] [] (.agg #[.int .u64 0, .int .u64 0, .int .u64 0, .int .u64 0]) rfl rfl (by kernel_rfl) rfl ?_
  refine wl_bin (fun x y => do eqGuard .eql 24 (.tmp 8) (.tmp 9) x y; binOp .eql 24 x y) (.tmp 8) (.tmp 9) (nv (n)) (.agg #[.int .u64 0, .int .u64 0, .int .u64 0, .int .u64 0]) (.bool false) (fun _ => rfl) rfl rfl (eqn_run hz _ _ _) rfl ?_
  refine w_nil ?_
  refine xn_then ?_
  refine w_condF rfl ?_
  refine w_skip ?_
  refine xn_then ?_
  refine w_seq ?_
  refine w_reg ?_
  refine wl_mv (.const (.slice none 0 0)) (.slice none 0 0) (fun _ => rfl) rfl rfl ?_
  refine w_nil ?_
  refine xn_then ?_
  refine w_seq ?_
  refine w_block ?_
  refine w_loop (fun m l w1 => ∃ (xs : List Int) (v : Value) (f : Nat), look l 1 = pt k1 0 ∧ look l 3 = v ∧ At w1 k1 (nvli (m : Int)) ∧ w1.ownsRow w.heap.size 5 1 v xs.length (xs.map (Value.int .u8)) ∧ v.ownBlock ≠ some k1 ∧ dRev 78 n = xs ++ dRev f (m : Int) ∧ xs.length + f = 78 ∧ (m : Int) < 10 ^ f ∧ (m : Int) < MM ∧ Mo w w1) n.toNat ⟨[], .slice none 0 0, 78, rfl, rfl, by rw [hnn]; exact Q1, World.ownsRow_nil _ _ _ _, by simp [Value.ownBlock], by rw [hnn]; rfl, rfl, by rw [hnn]; exact Int.lt_trans hn (by decide), by rw [hnn]; exact hn, M⟩ ?_
  clear M Q1
  rintro m l wl ⟨xs, v, f, e1, e3, Q1, hown, on_k1, hdr, hxf, hmf, hmM, M⟩
  have hsz := M.size
  by_cases hm0 : m = 0
  · subst hm0
    have hz : (l0 ((0 : Nat) : Int) == 0 && (l1 ((0 : Nat) : Int) == 0 && (l2 ((0 : Nat) : Int) == 0 && l3 ((0 : Nat) : Int) == 0))) = true := rfl
    have hxs : dRev 78 n = xs := by rw [hdr]; rw [show (((0 : Nat) : Int)) = 0 from rfl, dRev_zero, List.append_nil]
    have hpos : 0 < xs.length := by rw [← hxs, dRev_step hn0]; simp
    obtain ⟨g, cap, rfl, hgN, hglt⟩ := hown.form hpos
    have Qg := own_at hown
    refine w_seq ?_
    refine w_seq ?_
    refine w_reg ?_
    refine wl_load 24 (.tmp 1) (pt k1 0) (nv (((0 : Nat) : Int))) rfl e1 (run_row Q1 24 0 4 (nvli (((0 : Nat) : Int))) rfl Tryd.underlying24 rfl sz24) rfl ?_
    refine wl_build 24 [] [] (.agg #[.int .u64 0, .int .u64 0, .int .u64 0, .int .u64 0]) rfl rfl (by kernel_rfl) rfl ?_
    refine wl_bin (fun x y => do eqGuard .neq 24 (.tmp 11) (.tmp 12) x y; binOp .neq 24 x y) (.tmp 11) (.tmp 12) (nv (((0 : Nat) : Int))) (.agg #[.int .u64 0, .int .u64 0, .int .u64 0, .int .u64 0]) (.bool false) (fun _ => rfl) rfl rfl (nen_run (r := true) hz _ _ _) rfl ?_
    refine w_nil ?_
    refine xn_then ?_
    refine w_condF rfl ?_
    refine w_exit ?_
    refine xx_then ?_
    refine xx_then ?_
    refine xx_blk ?_
    refine xn_then ?_
    refine w_seq ?_
    refine w_seq ?_
    refine w_reg ?_
    refine wl_mv (.tmp 3) (.slice (some ⟨g, 0, none⟩) xs.length cap) (fun _ => rfl) e3 rfl ?_
    refine wl_val (.int .i64 ((xs.length : Int))) (lens_run _ _ _ _ cap rfl _ _ _ _ _ _) rfl ?_
    refine wl_bin (fun x y => do eqGuard .sub 3 (.tmp 27) (.const (.int .i64 (1))) x y; binOp .sub 3 x y) (.tmp 27) (.const (.int .i64 (1))) (.int .i64 ((xs.length : Int))) (.int .i64 (1)) (.int .i64 (((xs.length - 1 : Nat) : Int))) (fun _ => rfl) rfl rfl (sub3b_run (by omega) _ _ _) rfl ?_
    refine wl_mv (.const (.int .i64 (0))) (.int .i64 (0)) (fun _ => rfl) rfl rfl ?_
    refine wl_mv (.tmp 28) (.int .i64 (((xs.length - 1 : Nat) : Int))) (fun _ => rfl) rfl rfl ?_
    refine w_nil ?_
    refine xn_then ?_
    refine w_block ?_
    refine w_loop (fun r l w1 => ∃ (i j : Nat) (zs : List Int), i + j + 1 = xs.length ∧ i + r = xs.length ∧ look l 3 = .slice (some ⟨g, 0, none⟩) xs.length cap ∧ look l 6 = .int .i64 (i : Int) ∧ look l 7 = .int .i64 (j : Int) ∧ RvI xs i zs ∧ At w1 g (zs.map (Value.int .u8)) ∧ Mo w w1) xs.length ⟨0, xs.length - 1, xs, by omega, by omega, e3, rfl, rfl, RvI.start xs, Qg, M⟩ ?_
    clear M Qg e3 e1 hown
    rintro r l2 wl2 ⟨i, j, zs, hij, hir, e3, e6, e7, hrv, Qg, M⟩
    have hlz := hrv.1
    by_cases hlt : i < j
    · have hl : decide ((i : Int) < (j : Int)) = true := decide_eq_true (by omega)
      refine w_seq ?_
      refine w_seq ?_
      refine w_reg ?_
      refine wl_mv (.tmp 6) (.int .i64 (i : Int)) (fun _ => rfl) e6 rfl ?_
      refine wl_mv (.tmp 7) (.int .i64 (j : Int)) (fun _ => rfl) e7 rfl ?_
      refine wl_bin (fun x y => do eqGuard .lss 3 (.tmp 29) (.tmp 30) x y; binOp .lss 3 x y) (.tmp 29) (.tmp 30) (.int .i64 (i : Int)) (.int .i64 (j : Int)) (.bool true) (fun _ => rfl) rfl rfl (lt3_run hl _ _ _) rfl ?_
      refine w_nil ?_
      refine xn_then ?_
      refine w_condT rfl ?_
      refine w_skip ?_
      refine xn_then ?_
      refine w_seq ?_
      refine w_block ?_
      refine w_any 13 [.inl (.slice (some ⟨g, 0, none⟩) xs.length cap), .inl (.int .i64 (i : Int)), .inl (.slice (some ⟨g, 0, none⟩) xs.length cap), .inl (.int .i64 (j : Int)), .inl (.slice (some ⟨g, 0, none⟩) xs.length cap), .inl (.int .i64 (j : Int)), .inl (pt g j), .inl (.int .u8 (zs.getD j 0)), .inl (.slice (some ⟨g, 0, none⟩) xs.length cap), .inl (.int .i64 (i : Int)), .inl (pt g i), .inl (.int .u8 (zs.getD i 0)), .inl (pt g i)] [2, 3] (by kernel_rfl) (by kernel_rfl) (by kernel_rfl) (by kernel_rfl) rfl (by kernel_rfl) (by kernel_rfl) (late_cons ⟨_, _, rfl, rfl, fun _ _ _ _ h => h, fun f hd => ⟨rfl, la_mv (.tmp 3) (.slice (some ⟨g, 0, none⟩) xs.length cap) (fun _ => rfl) e3⟩⟩ (late_cons ⟨_, _, rfl, rfl, fun _ _ _ _ h => h, fun f hd => ⟨rfl, la_mv (.tmp 7) (.int .i64 (j : Int)) (fun _ => rfl) e7⟩⟩ late_nil)) ?_ ?_ ?_
      · exact Ds.none rfl
      · refine ea_cons ?_ (ea_cons ?_ (ea_cons ?_ (ea_cons ?_ (ea_cons ?_ (ea_cons ?_ (ea_cons ?_ (ea_cons ?_ (ea_cons ?_ (ea_cons ?_ (ea_cons ?_ (ea_cons ?_ (ea_cons ?_ (ea_nil)))))))))))))
        · exact og_eq (.slice (some ⟨g, 0, none⟩) xs.length cap) rfl (fun f wf hq hd K hK => go_run rfl (wo_mv (.tmp 3) (.slice (some ⟨g, 0, none⟩) xs.length cap) (fun _ => rfl) e3 (hK _ (Mo.refl _))))
        · exact og_eq (.int .i64 (i : Int)) rfl (fun f wf hq hd K hK => go_run rfl (wo_mv (.tmp 6) (.int .i64 (i : Int)) (fun _ => rfl) e6 (hK _ (Mo.refl _))))
        · exact og_eq (.slice (some ⟨g, 0, none⟩) xs.length cap) rfl (fun f wf hq hd K hK => go_run rfl (wo_mv (.tmp 3) (.slice (some ⟨g, 0, none⟩) xs.length cap) (fun _ => rfl) e3 (hK _ (Mo.refl _))))
        · exact og_eq (.int .i64 (j : Int)) rfl (fun f wf hq hd K hK => go_run rfl (wo_mv (.tmp 7) (.int .i64 (j : Int)) (fun _ => rfl) e7 (hK _ (Mo.refl _))))
        · exact og_eq (.slice (some ⟨g, 0, none⟩) xs.length cap) rfl (fun f wf hq hd K hK => go_run rfl (wo_mv (.tmp 3) (.slice (some ⟨g, 0, none⟩) xs.length cap) (fun _ => rfl) e3 (hK _ (Mo.refl _))))
        · exact og_eq (.int .i64 (j : Int)) rfl (fun f wf hq hd K hK => go_run rfl (wo_mv (.tmp 7) (.int .i64 (j : Int)) (fun _ => rfl) e7 (hK _ (Mo.refl _))))
        · exact og_eq (pt g j) rfl (fun f wf hq hd K hK => go_run rfl (wo_bin (fun x y => Instr.indexAt 51 x y) (.tmp 40) (.tmp 41) (.slice (some ⟨g, 0, none⟩) xs.length cap) (.int .i64 (j : Int)) (pt g j) (fun _ => rfl) (hd 4 rfl) (hd 5 rfl) (ixs g j xs.length cap (by omega) _) (hK _ (Mo.refl _))))
        · exact og_eq (.int .u8 (zs.getD j 0)) rfl (fun f wf hq hd K hK => have Qg := Qg.mo hq; go_run rfl (wo_load 5 (.tmp 42) (pt g j) (.int .u8 (zs.getD j 0)) rfl (hd 6 rfl) (run_one (v := .int .u8 (zs.getD j 0)) Qg 5 j (getD_map (by omega)) Tryd.underlying5 rfl) (hK _ (Mo.refl _))))
        · exact og_eq (.slice (some ⟨g, 0, none⟩) xs.length cap) rfl (fun f wf hq hd K hK => go_run rfl (wo_mv (.tmp 3) (.slice (some ⟨g, 0, none⟩) xs.length cap) (fun _ => rfl) e3 (hK _ (Mo.refl _))))
        · exact og_eq (.int .i64 (i : Int)) rfl (fun f wf hq hd K hK => go_run rfl (wo_mv (.tmp 6) (.int .i64 (i : Int)) (fun _ => rfl) e6 (hK _ (Mo.refl _))))
        · exact og_eq (pt g i) rfl (fun f wf hq hd K hK => go_run rfl (wo_bin (fun x y => Instr.indexAt 51 x y) (.tmp 44) (.tmp 45) (.slice (some ⟨g, 0, none⟩) xs.length cap) (.int .i64 (i : Int)) (pt g i) (fun _ => rfl) (hd 8 rfl) (hd 9 rfl) (ixs g i xs.length cap (by omega) _) (hK _ (Mo.refl _))))
        · exact og_eq (.int .u8 (zs.getD i 0)) rfl (fun f wf hq hd K hK => have Qg := Qg.mo hq; go_run rfl (wo_load 5 (.tmp 46) (pt g i) (.int .u8 (zs.getD i 0)) rfl (hd 10 rfl) (run_one (v := .int .u8 (zs.getD i 0)) Qg 5 i (getD_map (by omega)) Tryd.underlying5 rfl) (hK _ (Mo.refl _))))
        · exact og_eq (pt g i) rfl (fun f wf hq hd K hK => go_run rfl (wo_bin (fun x y => Instr.indexAt 51 x y) (.tmp 36) (.tmp 37) (.slice (some ⟨g, 0, none⟩) xs.length cap) (.int .i64 (i : Int)) (pt g i) (fun _ => rfl) (hd 0 rfl) (hd 1 rfl) (ixs g i xs.length cap (by omega) _) (hK _ (Mo.refl _))))
      intro kf61 w61 hq hR hne
      replace Qg := Qg.mo hq
      replace M := M.trans hq
      clear hq hR hne
      refine wl_st1 5 (.tmp 48) (.tmp 43) g i (.int .u8 (zs.getD j 0)) (zs.map (Value.int .u8)) ((zs.map (Value.int .u8)).set i (.int .u8 (zs.getD j 0))) Qg rfl rfl rfl rfl (blt_t (by simp; omega)) sz5 rfl rfl (set_tk (by simp; omega)) rfl ?_
      intro w62 hS Qn
      rw [← List.map_set] at Qn
      replace Qg := Qn
      clear Qn
      replace M := hS.mo _ hgN M
      clear hS
      refine wl_bin (fun x y => Instr.indexAt 51 x y) (.tmp 38) (.tmp 39) (.slice (some ⟨g, 0, none⟩) xs.length cap) (.int .i64 (j : Int)) (pt g j) (fun _ => rfl) rfl rfl (ixs g j xs.length cap (by omega) _) rfl ?_
      refine wl_st1 5 (.tmp 49) (.tmp 47) g j (.int .u8 (zs.getD i 0)) ((zs.set i (zs.getD j 0)).map (Value.int .u8)) (((zs.set i (zs.getD j 0)).map (Value.int .u8)).set j (.int .u8 (zs.getD i 0))) Qg rfl rfl rfl rfl (blt_t (by simp; omega)) sz5 rfl rfl (set_tk (by simp; omega)) rfl ?_
      intro w63 hS Qn
      rw [← List.map_set] at Qn
      replace Qg := Qn
      clear Qn
      replace M := hS.mo _ hgN M
      clear hS
      refine w_nil ?_
      refine xn_blk ?_
      refine xn_then ?_
      refine w_reg ?_
      refine wl_mv (.tmp 6) (.int .i64 (i : Int)) (fun _ => rfl) e6 rfl ?_
      refine wl_bin (fun x y => do eqGuard .add 3 (.tmp 32) (.const (.int .i64 (1))) x y; binOp .add 3 x y) (.tmp 32) (.const (.int .i64 (1))) (.int .i64 (i : Int)) (.int .i64 (1)) (.int .i64 (((i + 1 : Nat) : Int))) (fun _ => rfl) rfl rfl (add1_run (by omega) _ _ _) rfl ?_
      refine wl_mv (.tmp 7) (.int .i64 (j : Int)) (fun _ => rfl) e7 rfl ?_
      refine wl_bin (fun x y => do eqGuard .sub 3 (.tmp 34) (.const (.int .i64 (1))) x y; binOp .sub 3 x y) (.tmp 34) (.const (.int .i64 (1))) (.int .i64 (j : Int)) (.int .i64 (1)) (.int .i64 (((j - 1 : Nat) : Int))) (fun _ => rfl) rfl rfl (sub3b_run (by omega) _ _ _) rfl ?_
      refine wl_mv (.tmp 33) (.int .i64 (((i + 1 : Nat) : Int))) (fun _ => rfl) rfl rfl ?_
      refine wl_mv (.tmp 35) (.int .i64 (((j - 1 : Nat) : Int))) (fun _ => rfl) rfl rfl ?_
      refine w_nil ?_
      exact xn_loop (r - 1) (by omega) ⟨i + 1, j - 1, _, by omega, by omega, e3, rfl, rfl, hrv.step hlt hij, Qg, M⟩
    · have hl : decide ((i : Int) < (j : Int)) = false := decide_eq_false (by omega)
      refine w_seq ?_
      refine w_seq ?_
      refine w_reg ?_
      refine wl_mv (.tmp 6) (.int .i64 (i : Int)) (fun _ => rfl) e6 rfl ?_
      refine wl_mv (.tmp 7) (.int .i64 (j : Int)) (fun _ => rfl) e7 rfl ?_
      refine wl_bin (fun x y => do eqGuard .lss 3 (.tmp 29) (.tmp 30) x y; binOp .lss 3 x y) (.tmp 29) (.tmp 30) (.int .i64 (i : Int)) (.int .i64 (j : Int)) (.bool false) (fun _ => rfl) rfl rfl (lt3_run hl _ _ _) rfl ?_
      refine w_nil ?_
      refine xn_then ?_
      refine w_condF rfl ?_
      refine w_exit ?_
      refine xx_then ?_
      refine xx_then ?_
      refine xx_blk ?_
      refine xn_then ?_
      refine w_seq ?_
      refine w_reg ?_
      refine wl_mv (.tmp 3) (.slice (some ⟨g, 0, none⟩) xs.length cap) (fun _ => rfl) e3 rfl ?_
      refine wl_un (fun v => convert 51 9 v) (.tmp 50) (.slice (some ⟨g, 0, none⟩) xs.length cap) (.string (strOf zs)) (fun _ => rfl) rfl (str_run _ g cap zs Qg _ hlz.symm) rfl ?_
      refine wl_mv (.tmp 51) (.string (strOf zs)) (fun _ => rfl) rfl rfl ?_
      refine w_nil ?_
      refine xn_then ?_
      refine w_ret ?_
      exact w_ret1 _ (.string (strOf zs)) rfl rfl ⟨by rw [hrv.done hlt hij, ← hxs, dRev_decF 77 n (by omega) (Int.lt_trans hn (by decide))], M⟩
  · have hz : (l0 (m : Int) == 0 && (l1 (m : Int) == 0 && (l2 (m : Int) == 0 && l3 (m : Int) == 0))) = false := by rw [zb (by omega) hmM]; exact decide_eq_false (by omega)
    obtain ⟨f', rfl⟩ : ∃ f', f = f' + 1 := by cases f with | zero => simp at hmf; omega | succ f => exact ⟨f, rfl⟩
    refine w_seq ?_
    refine w_seq ?_
    refine w_reg ?_
    refine wl_load 24 (.tmp 1) (pt k1 0) (nv ((m : Int))) rfl e1 (run_row Q1 24 0 4 (nvli ((m : Int))) rfl Tryd.underlying24 rfl sz24) rfl ?_
    refine wl_build 24 [] [] (.agg #[.int .u64 0, .int .u64 0, .int .u64 0, .int .u64 0]) rfl rfl (by kernel_rfl) rfl ?_
    refine wl_bin (fun x y => do eqGuard .neq 24 (.tmp 11) (.tmp 12) x y; binOp .neq 24 x y) (.tmp 11) (.tmp 12) (nv ((m : Int))) (.agg #[.int .u64 0, .int .u64 0, .int .u64 0, .int .u64 0]) (.bool true) (fun _ => rfl) rfl rfl (nen_run (r := false) hz _ _ _) rfl ?_
    refine w_nil ?_
    refine xn_then ?_
    refine w_condT rfl ?_
    refine w_skip ?_
    refine xn_then ?_
    refine w_block ?_
    refine w_seq ?_
    refine w_reg ?_
    refine wl_load 24 (.tmp 1) (pt k1 0) (nv ((m : Int))) rfl e1 (run_row Q1 24 0 4 (nvli ((m : Int))) rfl Tryd.underlying24 rfl sz24) rfl ?_
    refine wl_call 47 [(.tmp 15), (.const (.int .u64 (10)))] _ [nv ((m : Int)), .int .u64 (10)] (.tuple #[nv ((m : Int) / 10), .int .u64 ((m : Int) % 10)]) rfl rfl (fun _ _ => by kernel_rfl) (small_n (m : Int) _ (by omega) hmM) rfl ?_
    intro w21 hq
    replace hown := own_mo hown hq
    replace Q1 := Q1.mo hq
    replace M := M.trans hq
    clear hq
    refine wl_mv (.tmp 16) (.tuple #[nv ((m : Int) / 10), .int .u64 ((m : Int) % 10)]) (fun _ => rfl) rfl rfl ?_
    refine wl_un (fun v => Instr.extract v 0) (.tmp 14) (.tuple #[nv ((m : Int) / 10), .int .u64 ((m : Int) % 10)]) (nv ((m : Int) / 10)) (fun _ => rfl) rfl (by kernel_rfl) rfl ?_
    refine wl_un (fun v => Instr.extract v 1) (.tmp 14) (.tuple #[nv ((m : Int) / 10), .int .u64 ((m : Int) % 10)]) (.int .u64 ((m : Int) % 10)) (fun _ => rfl) rfl (by kernel_rfl) rfl ?_
    refine wl_alloc 24 #[.int .u64 0, .int .u64 0, .int .u64 0, .int .u64 0] rfl (fun _ => by kernel_rfl) rfl ?_
    intro k21 w22 hk hz hq Q21
    have ne_k1_k21 : k1 ≠ k21 := by have := Q1.lt; omega
    have on_k21 : v.ownBlock ≠ some k21 := fun e => by have := (hown.lt _ e).2; omega
    have N_k21 : w.heap.size ≤ k21 := by have := M.size; omega
    replace hown := own_mo hown hq
    replace Q1 := Q1.mo hq
    replace M := M.trans hq
    clear hk hz hq
    refine wl_stx 24 (.tmp 4) (.tmp 17) k21 0 (nvar ((m : Int) / 10)) [.int .u64 0, .int .u64 0, .int .u64 0, .int .u64 0] (nvli ((m : Int) / 10)) Q21 rfl rfl rfl rfl rfl sz24 rfl rfl rfl ?_
    intro w23 hS Qn
    replace Q21 := Qn
    clear Qn
    replace Q1 := hS.other _ _ ne_k1_k21 Q1
    replace hown := own_st hS hown on_k21
    replace M := hS.mo _ N_k21 M
    clear hS
    refine wl_mv (.tmp 18) (.int .u64 ((m : Int) % 10)) (fun _ => rfl) rfl rfl ?_
    refine w_nil ?_
    refine xn_then ?_
    refine w_seq ?_
    refine w_reg ?_
    refine wl_mv (.tmp 3) (v) (fun _ => rfl) e3 rfl ?_
    refine wl_mv (.tmp 5) (.int .u64 ((m : Int) % 10)) (fun _ => rfl) rfl rfl ?_
    refine wl_bin (fun x y => do eqGuard .add 22 (.const (.int .u64 (48))) (.tmp 20) x y; binOp .add 22 x y) (.const (.int .u64 (48))) (.tmp 20) (.int .u64 (48)) (.int .u64 ((m : Int) % 10)) (.int .u64 (48 + (m : Int) % 10)) (fun _ => rfl) rfl rfl (addu_run rfl (by omega) (by omega) _ _ _) rfl ?_
    refine wl_un (fun v => convert 22 5 v) (.tmp 21) (.int .u64 (48 + (m : Int) % 10)) (.int .u8 (48 + (m : Int) % 10)) (fun _ => rfl) rfl (cvb_run (by omega) (by omega) _) rfl ?_
    refine wl_bsl (.tmp 22) (48 + (m : Int) % 10) rfl rfl rfl ?_
    intro k22 w24 hk hz2 hq Q22
    have ne_k1_k22 : k1 ≠ k22 := by have := Q1.lt; omega
    have ne_k21_k22 : k21 ≠ k22 := by have := Q21.lt; omega
    have on_k22 : v.ownBlock ≠ some k22 := fun e => by have := (hown.lt _ e).2; omega
    have N_k22 : w.heap.size ≤ k22 := by have := M.size; omega
    replace hown := own_mo hown hq
    replace Q1 := Q1.mo hq
    replace Q21 := Q21.mo hq
    replace M := M.trans hq
    clear hk hz2 hq
    refine wl_app (.tmp 19) (.tmp 23) w.heap.size v xs.length (xs.map (Value.int .u8)) k22 (48 + (m : Int) % 10) rfl rfl rfl hown Q22 (by omega) (by have := M.size; omega) rfl ?_
    intro v' w25 hown2 hW hat
    have hne2 : v'.ownBlock ≠ some k1 := by rcases hat with h | h <;> rw [h]; exact on_k1; intro e; cases e; have := Q1.lt; omega
    replace M := hW.mo M (fun j e => (hown.lt _ e).1)
    replace Q1 := hW.at Q1 on_k1
    replace Q21 := hW.at Q21 on_k21
    replace Q22 := hW.at Q22 on_k22
    clear hown hW hat
    have hown := hown2
    clear hown2
    replace on_k1 := hne2
    clear on_k21
    clear on_k22
    refine wl_mv (.tmp 24) (v') (fun _ => rfl) rfl rfl ?_
    refine w_nil ?_
    refine xn_then ?_
    refine w_reg ?_
    refine wl_load 24 (.tmp 4) (pt k21 0) (nv ((m : Int) / 10)) rfl rfl (run_row Q21 24 0 4 (nvli ((m : Int) / 10)) rfl Tryd.underlying24 rfl sz24) rfl ?_
    refine wl_stx 24 (.tmp 1) (.tmp 25) k1 0 (nvar ((m : Int) / 10)) (nvli ((m : Int))) (nvli ((m : Int) / 10)) Q1 rfl rfl e1 rfl rfl sz24 rfl rfl rfl ?_
    intro w26 hS Qn
    replace Q1 := Qn
    clear Qn
    replace Q21 := hS.other _ _ ne_k1_k21.symm Q21
    replace Q22 := hS.other _ _ ne_k1_k22.symm Q22
    replace hown := own_st hS hown on_k1
    replace M := hS.mo _ N_k1 M
    clear hS
    refine w_nil ?_
    refine xn_blk ?_
    exact xn_loop (m / 10) (by omega) ⟨xs ++ [48 + (m : Int) % 10], v', f', e1, rfl, by rw [show ((m / 10 : Nat) : Int) = (m : Int) / 10 by omega]; exact Q1, by rw [List.length_append, List.map_append]; exact hown, hne2, by rw [hdr, dRev_step (by omega), List.append_assoc]; rw [show ((m / 10 : Nat) : Int) = (m : Int) / 10 by omega]; rfl, by rw [List.length_append]; simp; omega, by rw [Int.pow_succ] at hmf; omega, by omega, M⟩
theorem rtext_n (n : Int) (w : World) (h0 : 0 ≤ n) (h : n < MM) : Calls Tryd.prog 24 #[nv n] w fun e w' => e = .returned (.string (strOf (decF 78 n))) ∧ Mo w w' := by
  by_cases hz : n = 0
  · subst hz
    exact rtext_0 0 w rfl
  · exact rtext_w n w hz (by omega) h (by rw [zb h0 h]; exact decide_eq_false hz)
end Go.Proofs.YtdcojpbgijkmgaaDoor
/-
  exciseref03.Text, whatever the number.
-/
namespace Go.Proofs.YtdcojpbgijkmgaaDoor
open Go.RowKit Go.Lib
theorem sz26b : (Tryd.prog.info? 26).map (·.size) = some 6 := by kernel_rfl
theorem D_pos (n : Int) : 1 ≤ (V.dgs8 n).length := by
  show 1 ≤ (strOf (decF 78 n)).data.toList.length
  rw [strOf_list, List.length_map]
  have := decF_ne (f := 77) n
  cases h : decF 78 n with
  | nil => exact absurd h this
  | cons a r => simp
/-- Digits with some 0s ahead, no more than one is ahead of the point. -/
def LZ (D dl : List UInt8) (k : Nat) : Prop := ∃ j, dl = List.replicate j 48 ++ D ∧ (j = 0 ∨ dl.length ≤ k + 1)
theorem LZ.step {D dl : List UInt8} {k : Nat} (h : LZ D dl k) (hl : dl.length ≤ k) : LZ D (48 :: dl) k := by
  obtain ⟨j, rfl, _⟩ := h
  exact ⟨j + 1, by rw [List.replicate_succ]; rfl, Or.inr (by simp at *; omega)⟩
theorem LZ.done {D dl : List UInt8} {k : Nat} (h : LZ D dl k) (hl : ¬ dl.length ≤ k) : dl = leadz D k := by
  obtain ⟨j, rfl, h2⟩ := h
  unfold leadz
  congr 1
  simp at hl h2
  congr 1
  omega
theorem LZ.bound {D dl : List UInt8} {k : Nat} (h : LZ D dl k) : dl.length ≤ D.length + k + 1 := by
  obtain ⟨j, rfl, h2⟩ := h
  rcases h2 with rfl | h2
  · simp; omega
  · simp at *; omega
theorem fin0 {n : Int} {dl : List UInt8} (h : dl = leadz (V.dgs8 n) 0) (b : Bool) : tx (V.txt b n 0) = if b then tx (45 :: dl) else tx dl := by
  have h1 : dl = V.dgs8 n := by
    rw [h]; unfold leadz; have := D_pos n; rw [show 0 + 1 - (V.dgs8 n).length = 0 by omega]; rfl
  rw [h1]; unfold V.txt wpt; cases b <;> rfl
theorem fink {n : Int} {dl : List UInt8} {k c : Nat} (hk : k ≠ 0) (h : dl = leadz (V.dgs8 n) k) (hc : dl.length = k + c) (b : Bool) : tx (V.txt b n k) = if b then tx ([45] ++ (dl.take c ++ [46] ++ dl.drop c)) else tx (dl.take c ++ [46] ++ dl.drop c) := by
  unfold V.txt wpt; rw [if_neg hk, ← h, hc, show k + c - k = c by omega]; cases b <;> simp
theorem rtx_no (b : Bool) (n s0 : Int) (w : World) (hn0 : 0 ≤ n) (hnM : n < MM) (hck : ck b n s0 ≠ 0) : Calls Tryd.prog 10 #[dc b n s0] w fun e w' => e = .returned (.string ⟨#[63]⟩) ∧ Mo w w' := by
  refine w_enter 41 Tryd.func10 Tryd.ntmps10 rfl rfl ?_
  have M : Mo w w := Mo.refl _
  refine w_seq ?_
  refine w_reg ?_
  refine wl_box 26 (.tmp 0) (.agg #[.bool b, .int .u64 (l0 (n)), .int .u64 (l1 (n)), .int .u64 (l2 (n)), .int .u64 (l3 (n)), .int .i64 (s0)]) (#[.bool b, .int .u64 (l0 (n)), .int .u64 (l1 (n)), .int .u64 (l2 (n)), .int .u64 (l3 (n)), .int .i64 (s0)]) rfl rfl (fun _ => by kernel_rfl) rfl ?_
  intro k1 w1 hk hz hq Q1
  have N_k1 : w.heap.size ≤ k1 := by have := M.size; omega
  replace M := M.trans hq
  clear hk hz hq
  refine wl_mv (.const (.string ⟨#[]⟩)) (.string ⟨#[]⟩) (fun _ => rfl) rfl rfl ?_
  refine w_nil ?_
  refine xn_then ?_
  refine w_seq ?_
  refine w_seq ?_
  refine w_reg ?_
  refine wl_load 26 (.tmp 1) (pt k1 0) (.agg #[.bool b, .int .u64 (l0 (n)), .int .u64 (l1 (n)), .int .u64 (l2 (n)), .int .u64 (l3 (n)), .int .i64 (s0)]) rfl rfl (run_row Q1 26 0 6 [.bool b, .int .u64 (l0 (n)), .int .u64 (l1 (n)), .int .u64 (l2 (n)), .int .u64 (l3 (n)), .int .i64 (s0)] rfl Tryd.underlying26 rfl sz26) rfl ?_
  refine wl_call 19 [(.tmp 4)] _ [.agg #[.bool b, .int .u64 (l0 (n)), .int .u64 (l1 (n)), .int .u64 (l2 (n)), .int .u64 (l3 (n)), .int .i64 (s0)]] (.int .i64 (20)) rfl rfl (fun _ _ => by kernel_rfl) (rcheck_no b n s0 _ hn0 hnM hck) rfl ?_
  intro w2 hq
  replace Q1 := Q1.mo hq
  replace M := M.trans hq
  clear hq
  refine wl_bin (fun x y => do eqGuard .neq 30 (.tmp 5) (.const (.int .i64 (0))) x y; binOp .neq 30 x y) (.tmp 5) (.const (.int .i64 (0))) (.int .i64 (20)) (.int .i64 (0)) (.bool true) (fun _ => rfl) rfl rfl (V.neE (r := false) rfl _ _ _) rfl ?_
  refine w_nil ?_
  refine xn_then ?_
  refine w_condT rfl ?_
  refine w_seq ?_
  refine w_reg ?_
  refine wl_mv (.const (.string ⟨#[63]⟩)) (.string ⟨#[63]⟩) (fun _ => rfl) rfl rfl ?_
  refine w_nil ?_
  refine xn_then ?_
  refine w_ret ?_
  refine xr_then ?_
  exact w_ret1 _ (.string ⟨#[63]⟩) rfl rfl ⟨rfl, M⟩
theorem rtx_t0 (n : Int) (w : World) (hn0 : 0 ≤ n) (hnM : n < MM) (hck : ck true n ((0 : Nat) : Int) = 0) : Calls Tryd.prog 10 #[dc true n ((0 : Nat) : Int)] w fun e w' => e = .returned (tx (V.txt true n 0)) ∧ Mo w w' := by
  have hc0 : ((0 : Int) == 0) = true := rfl
  have hD : (V.dgs8 n).length ≤ 78 := by have := V.dgs8_len n; have e3 : (V.dgs8 n).length = (strOf (decF 78 n)).size := by8_len _; omega
  have hk0 : decide (((0 : Nat) : Int) > 0) = false := rfl
  refine w_enter 41 Tryd.func10 Tryd.ntmps10 rfl rfl ?_
  have M : Mo w w := Mo.refl _
  refine w_seq ?_
  refine w_reg ?_
  refine wl_box 26 (.tmp 0) (.agg #[.bool true, .int .u64 (l0 (n)), .int .u64 (l1 (n)), .int .u64 (l2 (n)), .int .u64 (l3 (n)), .int .i64 ((0 : Nat) : Int)]) (#[.bool true, .int .u64 (l0 (n)), .int .u64 (l1 (n)), .int .u64 (l2 (n)), .int .u64 (l3 (n)), .int .i64 ((0 : Nat) : Int)]) rfl rfl (fun _ => by kernel_rfl) rfl ?_
  intro k1 w1 hk hz hq Q1
  have N_k1 : w.heap.size ≤ k1 := by have := M.size; omega
  replace M := M.trans hq
  clear hk hz hq
  refine wl_mv (.const (.string ⟨#[]⟩)) (.string ⟨#[]⟩) (fun _ => rfl) rfl rfl ?_
  refine w_nil ?_
  refine xn_then ?_
  refine w_seq ?_
  refine w_seq ?_
  refine w_reg ?_
  refine wl_load 26 (.tmp 1) (pt k1 0) (.agg #[.bool true, .int .u64 (l0 (n)), .int .u64 (l1 (n)), .int .u64 (l2 (n)), .int .u64 (l3 (n)), .int .i64 ((0 : Nat) : Int)]) rfl rfl (run_row Q1 26 0 6 [.bool true, .int .u64 (l0 (n)), .int .u64 (l1 (n)), .int .u64 (l2 (n)), .int .u64 (l3 (n)), .int .i64 ((0 : Nat) : Int)] rfl Tryd.underlying26 rfl sz26) rfl ?_
  refine wl_call 19 [(.tmp 4)] _ [.agg #[.bool true, .int .u64 (l0 (n)), .int .u64 (l1 (n)), .int .u64 (l2 (n)), .int .u64 (l3 (n)), .int .i64 ((0 : Nat) : Int)]] (.int .i64 (0)) rfl rfl (fun _ _ => by kernel_rfl) (rcheck_ok true n ((0 : Nat) : Int) _ hn0 hnM hck) rfl ?_
  intro w2 hq
  replace Q1 := Q1.mo hq
  replace M := M.trans hq
  clear hq
  refine wl_bin (fun x y => do eqGuard .neq 30 (.tmp 5) (.const (.int .i64 (0))) x y; binOp .neq 30 x y) (.tmp 5) (.const (.int .i64 (0))) (.int .i64 (0)) (.int .i64 (0)) (.bool false) (fun _ => rfl) rfl rfl (V.neE (r := true) hc0 _ _ _) rfl ?_
  refine w_nil ?_
  refine xn_then ?_
  refine w_condF rfl ?_
  refine w_skip ?_
  refine xn_then ?_
  refine w_seq ?_
  refine w_reg ?_
  refine wl_un (fun v => Instr.fieldAt 26 v 1) (.tmp 1) (pt k1 0) (pt k1 1) (fun _ => rfl) rfl (by kernel_rfl) rfl ?_
  refine wl_load 24 (.tmp 7) (pt k1 1) (.agg #[.int .u64 (l0 (n)), .int .u64 (l1 (n)), .int .u64 (l2 (n)), .int .u64 (l3 (n))]) rfl rfl (run_row Q1 24 1 4 [.int .u64 (l0 (n)), .int .u64 (l1 (n)), .int .u64 (l2 (n)), .int .u64 (l3 (n))] rfl Tryd.underlying24 rfl sz24) rfl ?_
  refine wl_call 24 [(.tmp 8)] _ [.agg #[.int .u64 (l0 (n)), .int .u64 (l1 (n)), .int .u64 (l2 (n)), .int .u64 (l3 (n))]] (tx (V.dgs8 n)) rfl rfl (fun _ _ => by kernel_rfl) (rtext_n n _ hn0 hnM) rfl ?_
  intro w3 hq
  replace Q1 := Q1.mo hq
  replace M := M.trans hq
  clear hq
  refine wl_mv (.tmp 9) (tx (V.dgs8 n)) (fun _ => rfl) rfl rfl ?_
  refine w_nil ?_
  refine xn_then ?_
  refine w_seq ?_
  refine w_block ?_
  refine w_loop (fun m l w1 => ∃ dl : List UInt8, m = 0 + 1 - dl.length ∧ look l 1 = pt k1 0 ∧ look l 3 = tx dl ∧ LZ (V.dgs8 n) dl 0 ∧ At w1 k1 [.bool true, .int .u64 (l0 (n)), .int .u64 (l1 (n)), .int .u64 (l2 (n)), .int .u64 (l3 (n)), .int .i64 ((0 : Nat) : Int)] ∧ Mo w w1) _ ⟨V.dgs8 n, rfl, rfl, rfl, ⟨0, rfl, Or.inl rfl⟩, Q1, M⟩ ?_
  clear M Q1
  rintro m l wl ⟨dl, rfl, e1, e3, hz, Q1, M⟩
  have hb := hz.bound
  by_cases hlt : dl.length ≤ 0
  · have hle : decide ((dl.length : Int) ≤ ((0 : Nat) : Int)) = true := decide_eq_true (by omega)
    refine w_seq ?_
    refine w_seq ?_
    refine w_reg ?_
    refine wl_mv (.tmp 3) (tx dl) (fun _ => rfl) e3 rfl ?_
    refine wl_val (.int .i64 ((dl.length : Int))) (len_tx _ _ dl (by exact rfl) _ _ _ _ _ _) rfl ?_
    refine wl_un (fun v => Instr.fieldAt 26 v 2) (.tmp 1) (pt k1 0) (pt k1 5) (fun _ => rfl) e1 (by kernel_rfl) rfl ?_
    refine wl_load 3 (.tmp 12) (pt k1 5) (.int .i64 ((0 : Nat) : Int)) rfl rfl (run_one Q1 3 5 rfl Tryd.underlying3 rfl) rfl ?_
    refine wl_bin (fun x y => do eqGuard .leq 3 (.tmp 11) (.tmp 13) x y; binOp .leq 3 x y) (.tmp 11) (.tmp 13) (.int .i64 ((dl.length : Int))) (.int .i64 ((0 : Nat) : Int)) (.bool true) (fun _ => rfl) rfl rfl (leq3_run hle _ _ _) rfl ?_
    refine w_nil ?_
    refine xn_then ?_
    refine w_condT rfl ?_
    refine w_skip ?_
    refine xn_then ?_
    refine w_block ?_
    refine w_reg ?_
    refine wl_mv (.tmp 3) (tx dl) (fun _ => rfl) e3 rfl ?_
    refine wl_bin (fun x y => do eqGuard .add 9 (.const (.string ⟨#[48]⟩)) (.tmp 15) x y; binOp .add 9 x y) (.const (.string ⟨#[48]⟩)) (.tmp 15) (.string ⟨#[48]⟩) (tx dl) (tx (48 :: dl)) (fun _ => rfl) rfl rfl (catl_run [48] dl (by simp; omega) _ _ _) rfl ?_
    refine wl_mv (.tmp 16) (tx (48 :: dl)) (fun _ => rfl) rfl rfl ?_
    refine w_nil ?_
    refine xn_blk ?_
    exact xn_loop (0 + 1 - (48 :: dl).length) (by simp; omega) ⟨48 :: dl, rfl, e1, rfl, hz.step hlt, Q1, M⟩
  · have hle : decide ((dl.length : Int) ≤ ((0 : Nat) : Int)) = false := decide_eq_false (by omega)
    obtain ⟨c, hc⟩ : ∃ c, dl.length = 0 + c := ⟨dl.length - 0, by omega⟩
    have hfin := fin0 (hz.done hlt) true
    refine w_seq ?_
    refine w_seq ?_
    refine w_reg ?_
    refine wl_mv (.tmp 3) (tx dl) (fun _ => rfl) e3 rfl ?_
    refine wl_val (.int .i64 ((dl.length : Int))) (len_tx _ _ dl (by exact rfl) _ _ _ _ _ _) rfl ?_
    refine wl_un (fun v => Instr.fieldAt 26 v 2) (.tmp 1) (pt k1 0) (pt k1 5) (fun _ => rfl) e1 (by kernel_rfl) rfl ?_
    refine wl_load 3 (.tmp 12) (pt k1 5) (.int .i64 ((0 : Nat) : Int)) rfl rfl (run_one Q1 3 5 rfl Tryd.underlying3 rfl) rfl ?_
    refine wl_bin (fun x y => do eqGuard .leq 3 (.tmp 11) (.tmp 13) x y; binOp .leq 3 x y) (.tmp 11) (.tmp 13) (.int .i64 ((dl.length : Int))) (.int .i64 ((0 : Nat) : Int)) (.bool false) (fun _ => rfl) rfl rfl (leq3_run hle _ _ _) rfl ?_
    refine w_nil ?_
    refine xn_then ?_
    refine w_condF rfl ?_
    refine w_exit ?_
    refine xx_then ?_
    refine xx_then ?_
    refine xx_blk ?_
    refine xn_then ?_
    refine w_seq ?_
    refine w_seq ?_
    refine w_reg ?_
    refine wl_un (fun v => Instr.fieldAt 26 v 2) (.tmp 1) (pt k1 0) (pt k1 5) (fun _ => rfl) e1 (by kernel_rfl) rfl ?_
    refine wl_load 3 (.tmp 17) (pt k1 5) (.int .i64 ((0 : Nat) : Int)) rfl rfl (run_one Q1 3 5 rfl Tryd.underlying3 rfl) rfl ?_
    refine wl_bin (fun x y => do eqGuard .gtr 3 (.tmp 18) (.const (.int .i64 (0))) x y; binOp .gtr 3 x y) (.tmp 18) (.const (.int .i64 (0))) (.int .i64 ((0 : Nat) : Int)) (.int .i64 (0)) (.bool false) (fun _ => rfl) rfl rfl (gt3_run hk0 _ _ _) rfl ?_
    refine w_nil ?_
    refine xn_then ?_
    refine w_condF rfl ?_
    refine w_skip ?_
    refine xn_then ?_
    refine w_seq ?_
    refine w_seq ?_
    refine w_reg ?_
    refine wl_un (fun v => Instr.fieldAt 26 v 0) (.tmp 1) (pt k1 0) (pt k1 0) (fun _ => rfl) e1 (by kernel_rfl) rfl ?_
    refine wl_load 4 (.tmp 36) (pt k1 0) (.bool true) rfl rfl (run_one Q1 4 0 rfl Tryd.underlying4 rfl) rfl ?_
    refine w_nil ?_
    refine xn_then ?_
    refine w_condT rfl ?_
    refine w_reg ?_
    refine wl_mv (.tmp 3) (tx dl) (fun _ => rfl) e3 rfl ?_
    refine wl_bin (fun x y => do eqGuard .add 9 (.const (.string ⟨#[45]⟩)) (.tmp 38) x y; binOp .add 9 x y) (.const (.string ⟨#[45]⟩)) (.tmp 38) (.string ⟨#[45]⟩) (tx dl) (tx (45 :: dl)) (fun _ => rfl) rfl rfl (catl_run [45] dl (by simp; omega) _ _ _) rfl ?_
    refine wl_mv (.tmp 39) (tx (45 :: dl)) (fun _ => rfl) rfl rfl ?_
    refine w_nil ?_
    refine xn_then ?_
    refine w_seq ?_
    refine w_reg ?_
    refine wl_mv (.tmp 3) (tx (45 :: dl)) (fun _ => rfl) rfl rfl ?_
    refine wl_mv (.tmp 40) (tx (45 :: dl)) (fun _ => rfl) rfl rfl ?_
    refine w_nil ?_
    refine xn_then ?_
    refine w_ret ?_
    exact w_ret1 _ (tx (45 :: dl)) rfl rfl ⟨by rw [hfin]; rfl, M⟩
theorem rtx_t1 (n : Int) (k : Nat) (w : World) (hn0 : 0 ≤ n) (hnM : n < MM) (hk18 : k ≤ 18) (hkn : k ≠ 0) (hck : ck true n (k : Int) = 0) : Calls Tryd.prog 10 #[dc true n (k : Int)] w fun e w' => e = .returned (tx (V.txt true n k)) ∧ Mo w w' := by
  have hc0 : ((0 : Int) == 0) = true := rfl
  have hD : (V.dgs8 n).length ≤ 78 := by have := V.dgs8_len n; have e3 : (V.dgs8 n).length = (strOf (decF 78 n)).size := by8_len _; omega
  have hk0 : decide ((k : Int) > 0) = true := decide_eq_true (by omega)
  refine w_enter 41 Tryd.func10 Tryd.ntmps10 rfl rfl ?_
  have M : Mo w w := Mo.refl _
  refine w_seq ?_
  refine w_reg ?_
  refine wl_box 26 (.tmp 0) (.agg #[.bool true, .int .u64 (l0 (n)), .int .u64 (l1 (n)), .int .u64 (l2 (n)), .int .u64 (l3 (n)), .int .i64 (k : Int)]) (#[.bool true, .int .u64 (l0 (n)), .int .u64 (l1 (n)), .int .u64 (l2 (n)), .int .u64 (l3 (n)), .int .i64 (k : Int)]) rfl rfl (fun _ => by kernel_rfl) rfl ?_
  intro k1 w1 hk hz hq Q1
  have N_k1 : w.heap.size ≤ k1 := by have := M.size; omega
  replace M := M.trans hq
  clear hk hz hq
  refine wl_mv (.const (.string ⟨#[]⟩)) (.string ⟨#[]⟩) (fun _ => rfl) rfl rfl ?_
  refine w_nil ?_
  refine xn_then ?_
  refine w_seq ?_
  refine w_seq ?_
  refine w_reg ?_
  refine wl_load 26 (.tmp 1) (pt k1 0) (.agg #[.bool true, .int .u64 (l0 (n)), .int .u64 (l1 (n)), .int .u64 (l2 (n)), .int .u64 (l3 (n)), .int .i64 (k : Int)]) rfl rfl (run_row Q1 26 0 6 [.bool true, .int .u64 (l0 (n)), .int .u64 (l1 (n)), .int .u64 (l2 (n)), .int .u64 (l3 (n)), .int .i64 (k : Int)] rfl Tryd.underlying26 rfl sz26) rfl ?_
  refine wl_call 19 [(.tmp 4)] _ [.agg #[.bool true, .int .u64 (l0 (n)), .int .u64 (l1 (n)), .int .u64 (l2 (n)), .int .u64 (l3 (n)), .int .i64 (k : Int)]] (.int .i64 (0)) rfl rfl (fun _ _ => by kernel_rfl) (rcheck_ok true n (k : Int) _ hn0 hnM hck) rfl ?_
  intro w2 hq
  replace Q1 := Q1.mo hq
  replace M := M.trans hq
  clear hq
  refine wl_bin (fun x y => do eqGuard .neq 30 (.tmp 5) (.const (.int .i64 (0))) x y; binOp .neq 30 x y) (.tmp 5) (.const (.int .i64 (0))) (.int .i64 (0)) (.int .i64 (0)) (.bool false) (fun _ => rfl) rfl rfl (V.neE (r := true) hc0 _ _ _) rfl ?_
  refine w_nil ?_
  refine xn_then ?_
  refine w_condF rfl ?_
  refine w_skip ?_
  refine xn_then ?_
  refine w_seq ?_
  refine w_reg ?_
  refine wl_un (fun v => Instr.fieldAt 26 v 1) (.tmp 1) (pt k1 0) (pt k1 1) (fun _ => rfl) rfl (by kernel_rfl) rfl ?_
  refine wl_load 24 (.tmp 7) (pt k1 1) (.agg #[.int .u64 (l0 (n)), .int .u64 (l1 (n)), .int .u64 (l2 (n)), .int .u64 (l3 (n))]) rfl rfl (run_row Q1 24 1 4 [.int .u64 (l0 (n)), .int .u64 (l1 (n)), .int .u64 (l2 (n)), .int .u64 (l3 (n))] rfl Tryd.underlying24 rfl sz24) rfl ?_
  refine wl_call 24 [(.tmp 8)] _ [.agg #[.int .u64 (l0 (n)), .int .u64 (l1 (n)), .int .u64 (l2 (n)), .int .u64 (l3 (n))]] (tx (V.dgs8 n)) rfl rfl (fun _ _ => by kernel_rfl) (rtext_n n _ hn0 hnM) rfl ?_
  intro w3 hq
  replace Q1 := Q1.mo hq
  replace M := M.trans hq
  clear hq
  refine wl_mv (.tmp 9) (tx (V.dgs8 n)) (fun _ => rfl) rfl rfl ?_
  refine w_nil ?_
  refine xn_then ?_
  refine w_seq ?_
  refine w_block ?_
  refine w_loop (fun m l w1 => ∃ dl : List UInt8, m = k + 1 - dl.length ∧ look l 1 = pt k1 0 ∧ look l 3 = tx dl ∧ LZ (V.dgs8 n) dl k ∧ At w1 k1 [.bool true, .int .u64 (l0 (n)), .int .u64 (l1 (n)), .int .u64 (l2 (n)), .int .u64 (l3 (n)), .int .i64 (k : Int)] ∧ Mo w w1) _ ⟨V.dgs8 n, rfl, rfl, rfl, ⟨0, rfl, Or.inl rfl⟩, Q1, M⟩ ?_
  clear M Q1
  rintro m l wl ⟨dl, rfl, e1, e3, hz, Q1, M⟩
  have hb := hz.bound
  by_cases hlt : dl.length ≤ k
  · have hle : decide ((dl.length : Int) ≤ (k : Int)) = true := decide_eq_true (by omega)
    refine w_seq ?_
    refine w_seq ?_
    refine w_reg ?_
    refine wl_mv (.tmp 3) (tx dl) (fun _ => rfl) e3 rfl ?_
    refine wl_val (.int .i64 ((dl.length : Int))) (len_tx _ _ dl (by exact rfl) _ _ _ _ _ _) rfl ?_
    refine wl_un (fun v => Instr.fieldAt 26 v 2) (.tmp 1) (pt k1 0) (pt k1 5) (fun _ => rfl) e1 (by kernel_rfl) rfl ?_
    refine wl_load 3 (.tmp 12) (pt k1 5) (.int .i64 (k : Int)) rfl rfl (run_one Q1 3 5 rfl Tryd.underlying3 rfl) rfl ?_
    refine wl_bin (fun x y => do eqGuard .leq 3 (.tmp 11) (.tmp 13) x y; binOp .leq 3 x y) (.tmp 11) (.tmp 13) (.int .i64 ((dl.length : Int))) (.int .i64 (k : Int)) (.bool true) (fun _ => rfl) rfl rfl (leq3_run hle _ _ _) rfl ?_
    refine w_nil ?_
    refine xn_then ?_
    refine w_condT rfl ?_
    refine w_skip ?_
    refine xn_then ?_
    refine w_block ?_
    refine w_reg ?_
    refine wl_mv (.tmp 3) (tx dl) (fun _ => rfl) e3 rfl ?_
    refine wl_bin (fun x y => do eqGuard .add 9 (.const (.string ⟨#[48]⟩)) (.tmp 15) x y; binOp .add 9 x y) (.const (.string ⟨#[48]⟩)) (.tmp 15) (.string ⟨#[48]⟩) (tx dl) (tx (48 :: dl)) (fun _ => rfl) rfl rfl (catl_run [48] dl (by simp; omega) _ _ _) rfl ?_
    refine wl_mv (.tmp 16) (tx (48 :: dl)) (fun _ => rfl) rfl rfl ?_
    refine w_nil ?_
    refine xn_blk ?_
    exact xn_loop (k + 1 - (48 :: dl).length) (by simp; omega) ⟨48 :: dl, rfl, e1, rfl, hz.step hlt, Q1, M⟩
  · have hle : decide ((dl.length : Int) ≤ (k : Int)) = false := decide_eq_false (by omega)
    obtain ⟨c, hc⟩ : ∃ c, dl.length = k + c := ⟨dl.length - k, by omega⟩
    have hfin := fink hkn (hz.done hlt) hc true
    refine w_seq ?_
    refine w_seq ?_
    refine w_reg ?_
    refine wl_mv (.tmp 3) (tx dl) (fun _ => rfl) e3 rfl ?_
    refine wl_val (.int .i64 ((dl.length : Int))) (len_tx _ _ dl (by exact rfl) _ _ _ _ _ _) rfl ?_
    refine wl_un (fun v => Instr.fieldAt 26 v 2) (.tmp 1) (pt k1 0) (pt k1 5) (fun _ => rfl) e1 (by kernel_rfl) rfl ?_
    refine wl_load 3 (.tmp 12) (pt k1 5) (.int .i64 (k : Int)) rfl rfl (run_one Q1 3 5 rfl Tryd.underlying3 rfl) rfl ?_
    refine wl_bin (fun x y => do eqGuard .leq 3 (.tmp 11) (.tmp 13) x y; binOp .leq 3 x y) (.tmp 11) (.tmp 13) (.int .i64 ((dl.length : Int))) (.int .i64 (k : Int)) (.bool false) (fun _ => rfl) rfl rfl (leq3_run hle _ _ _) rfl ?_
    refine w_nil ?_
    refine xn_then ?_
    refine w_condF rfl ?_
    refine w_exit ?_
    refine xx_then ?_
    refine xx_then ?_
    refine xx_blk ?_
    refine xn_then ?_
    refine w_seq ?_
    refine w_seq ?_
    refine w_reg ?_
    refine wl_un (fun v => Instr.fieldAt 26 v 2) (.tmp 1) (pt k1 0) (pt k1 5) (fun _ => rfl) e1 (by kernel_rfl) rfl ?_
    refine wl_load 3 (.tmp 17) (pt k1 5) (.int .i64 (k : Int)) rfl rfl (run_one Q1 3 5 rfl Tryd.underlying3 rfl) rfl ?_
    refine wl_bin (fun x y => do eqGuard .gtr 3 (.tmp 18) (.const (.int .i64 (0))) x y; binOp .gtr 3 x y) (.tmp 18) (.const (.int .i64 (0))) (.int .i64 (k : Int)) (.int .i64 (0)) (.bool true) (fun _ => rfl) rfl rfl (gt3_run hk0 _ _ _) rfl ?_
    refine w_nil ?_
    refine xn_then ?_
    refine w_condT rfl ?_
    refine w_any 15 [.inl (tx dl), .inl (tx dl), .inl (.int .i64 ((dl.length : Int))), .inl (pt k1 5), .inl (.int .i64 (k : Int)), .inl (.int .i64 ((c : Int))), .inl (tx (dl.take c)), .inl (tx (dl.take c ++ [46])), .inl (tx dl), .inl (tx dl), .inl (.int .i64 ((dl.length : Int))), .inl (pt k1 5), .inl (.int .i64 (k : Int)), .inl (.int .i64 ((c : Int))), .inl (tx (dl.drop c))] [] (by kernel_rfl) (by kernel_rfl) (by kernel_rfl) (by kernel_rfl) rfl (by kernel_rfl) (by kernel_rfl) late_nil ?_ ?_ ?_
    · exact Ds.none rfl
    · refine ea_cons ?_ (ea_cons ?_ (ea_cons ?_ (ea_cons ?_ (ea_cons ?_ (ea_cons ?_ (ea_cons ?_ (ea_cons ?_ (ea_cons ?_ (ea_cons ?_ (ea_cons ?_ (ea_cons ?_ (ea_cons ?_ (ea_cons ?_ (ea_cons ?_ (ea_nil)))))))))))))))
      · exact og_eq (tx dl) rfl (fun f wf hq hd K hK => go_run rfl (wo_mv (.tmp 3) (tx dl) (fun _ => rfl) e3 (hK _ (Mo.refl _))))
      · exact og_eq (tx dl) rfl (fun f wf hq hd K hK => go_run rfl (wo_mv (.tmp 3) (tx dl) (fun _ => rfl) e3 (hK _ (Mo.refl _))))
      · exact og_eq (.int .i64 ((dl.length : Int))) rfl (fun f wf hq hd K hK => go_run rfl (wo_val (.int .i64 ((dl.length : Int))) (len_tx _ _ dl (by exact (hd 1 rfl)) _ _ _ _ _ _) (hK _ (Mo.refl _))))
      · exact og_eq (pt k1 5) rfl (fun f wf hq hd K hK => go_run rfl (wo_un (fun v => Instr.fieldAt 26 v 2) (.tmp 1) (pt k1 0) (pt k1 5) (fun _ => rfl) e1 (by kernel_rfl) (hK _ (Mo.refl _))))
      · exact og_eq (.int .i64 (k : Int)) rfl (fun f wf hq hd K hK => have Q1 := Q1.mo hq; go_run rfl (wo_load 3 (.tmp 23) (pt k1 5) (.int .i64 (k : Int)) rfl (hd 3 rfl) (run_one Q1 3 5 rfl Tryd.underlying3 rfl) (hK _ (Mo.refl _))))
      · exact og_eq (.int .i64 ((c : Int))) rfl (fun f wf hq hd K hK => go_run rfl (wo_bin (fun x y => do eqGuard .sub 3 (.tmp 22) (.tmp 24) x y; binOp .sub 3 x y) (.tmp 22) (.tmp 24) (.int .i64 ((dl.length : Int))) (.int .i64 (k : Int)) (.int .i64 ((c : Int))) (fun _ => rfl) (hd 2 rfl) (hd 4 rfl) (sub3_run hc (by omega) _ _ _) (hK _ (Mo.refl _))))
      · exact og_eq (tx (dl.take c)) rfl (fun f wf hq hd K hK => go_run rfl (wo_val (tx (dl.take c)) (hi_run _ _ _ dl c (by exact (hd 0 rfl)) (by exact (hd 5 rfl)) (by omega) _ _ _ _ _ _) (hK _ (Mo.refl _))))
      · exact og_eq (tx (dl.take c ++ [46])) rfl (fun f wf hq hd K hK => go_run rfl (wo_bin (fun x y => do eqGuard .add 9 (.tmp 26) (.const (.string ⟨#[46]⟩)) x y; binOp .add 9 x y) (.tmp 26) (.const (.string ⟨#[46]⟩)) (tx (dl.take c)) (.string ⟨#[46]⟩) (tx (dl.take c ++ [46])) (fun _ => rfl) (hd 6 rfl) rfl (catl_run (dl.take c) [46] (by simp; omega) _ _ _) (hK _ (Mo.refl _))))
      · exact og_eq (tx dl) rfl (fun f wf hq hd K hK => go_run rfl (wo_mv (.tmp 3) (tx dl) (fun _ => rfl) e3 (hK _ (Mo.refl _))))
      · exact og_eq (tx dl) rfl (fun f wf hq hd K hK => go_run rfl (wo_mv (.tmp 3) (tx dl) (fun _ => rfl) e3 (hK _ (Mo.refl _))))
      · exact og_eq (.int .i64 ((dl.length : Int))) rfl (fun f wf hq hd K hK => go_run rfl (wo_val (.int .i64 ((dl.length : Int))) (len_tx _ _ dl (by exact (hd 9 rfl)) _ _ _ _ _ _) (hK _ (Mo.refl _))))
      · exact og_eq (pt k1 5) rfl (fun f wf hq hd K hK => go_run rfl (wo_un (fun v => Instr.fieldAt 26 v 2) (.tmp 1) (pt k1 0) (pt k1 5) (fun _ => rfl) e1 (by kernel_rfl) (hK _ (Mo.refl _))))
      · exact og_eq (.int .i64 (k : Int)) rfl (fun f wf hq hd K hK => have Q1 := Q1.mo hq; go_run rfl (wo_load 3 (.tmp 31) (pt k1 5) (.int .i64 (k : Int)) rfl (hd 11 rfl) (run_one Q1 3 5 rfl Tryd.underlying3 rfl) (hK _ (Mo.refl _))))
      · exact og_eq (.int .i64 ((c : Int))) rfl (fun f wf hq hd K hK => go_run rfl (wo_bin (fun x y => do eqGuard .sub 3 (.tmp 30) (.tmp 32) x y; binOp .sub 3 x y) (.tmp 30) (.tmp 32) (.int .i64 ((dl.length : Int))) (.int .i64 (k : Int)) (.int .i64 ((c : Int))) (fun _ => rfl) (hd 10 rfl) (hd 12 rfl) (sub3_run hc (by omega) _ _ _) (hK _ (Mo.refl _))))
      · exact og_eq (tx (dl.drop c)) rfl (fun f wf hq hd K hK => go_run rfl (wo_val (tx (dl.drop c)) (lo_run _ _ _ dl c (by exact (hd 8 rfl)) (by exact (hd 13 rfl)) (by omega) _ _ _ _ _ _) (hK _ (Mo.refl _))))
    intro kf21 w21 hq hR hne
    replace Q1 := Q1.mo hq
    replace M := M.trans hq
    clear hq hR hne
    refine wl_bin (fun x y => do eqGuard .add 9 (.tmp 27) (.tmp 34) x y; binOp .add 9 x y) (.tmp 27) (.tmp 34) (tx (dl.take c ++ [46])) (tx (dl.drop c)) (tx (dl.take c ++ [46] ++ dl.drop c)) (fun _ => rfl) rfl rfl (catl_run (dl.take c ++ [46]) (dl.drop c) (by simp; omega) _ _ _) rfl ?_
    refine wl_mv (.tmp 35) (tx (dl.take c ++ [46] ++ dl.drop c)) (fun _ => rfl) rfl rfl ?_
    refine w_nil ?_
    refine xn_then ?_
    refine w_seq ?_
    refine w_seq ?_
    refine w_reg ?_
    refine wl_un (fun v => Instr.fieldAt 26 v 0) (.tmp 1) (pt k1 0) (pt k1 0) (fun _ => rfl) e1 (by kernel_rfl) rfl ?_
    refine wl_load 4 (.tmp 36) (pt k1 0) (.bool true) rfl rfl (run_one Q1 4 0 rfl Tryd.underlying4 rfl) rfl ?_
    refine w_nil ?_
    refine xn_then ?_
    refine w_condT rfl ?_
    refine w_reg ?_
    refine wl_mv (.tmp 3) (tx (dl.take c ++ [46] ++ dl.drop c)) (fun _ => rfl) rfl rfl ?_
    refine wl_bin (fun x y => do eqGuard .add 9 (.const (.string ⟨#[45]⟩)) (.tmp 38) x y; binOp .add 9 x y) (.const (.string ⟨#[45]⟩)) (.tmp 38) (.string ⟨#[45]⟩) (tx (dl.take c ++ [46] ++ dl.drop c)) (tx ([45] ++ (dl.take c ++ [46] ++ dl.drop c))) (fun _ => rfl) rfl rfl (catl_run [45] (dl.take c ++ [46] ++ dl.drop c) (by simp; omega) _ _ _) rfl ?_
    refine wl_mv (.tmp 39) (tx ([45] ++ (dl.take c ++ [46] ++ dl.drop c))) (fun _ => rfl) rfl rfl ?_
    refine w_nil ?_
    refine xn_then ?_
    refine w_seq ?_
    refine w_reg ?_
    refine wl_mv (.tmp 3) (tx ([45] ++ (dl.take c ++ [46] ++ dl.drop c))) (fun _ => rfl) rfl rfl ?_
    refine wl_mv (.tmp 40) (tx ([45] ++ (dl.take c ++ [46] ++ dl.drop c))) (fun _ => rfl) rfl rfl ?_
    refine w_nil ?_
    refine xn_then ?_
    refine w_ret ?_
    exact w_ret1 _ (tx ([45] ++ (dl.take c ++ [46] ++ dl.drop c))) rfl rfl ⟨by rw [hfin]; rfl, M⟩
theorem rtx_f0 (n : Int) (w : World) (hn0 : 0 ≤ n) (hnM : n < MM) (hck : ck false n ((0 : Nat) : Int) = 0) : Calls Tryd.prog 10 #[dc false n ((0 : Nat) : Int)] w fun e w' => e = .returned (tx (V.txt false n 0)) ∧ Mo w w' := by
  have hc0 : ((0 : Int) == 0) = true := rfl
  have hD : (V.dgs8 n).length ≤ 78 := by have := V.dgs8_len n; have e3 : (V.dgs8 n).length = (strOf (decF 78 n)).size := by8_len _; omega
  have hk0 : decide (((0 : Nat) : Int) > 0) = false := rfl
  refine w_enter 41 Tryd.func10 Tryd.ntmps10 rfl rfl ?_
  have M : Mo w w := Mo.refl _
  refine w_seq ?_
  refine w_reg ?_
  refine wl_box 26 (.tmp 0) (.agg #[.bool false, .int .u64 (l0 (n)), .int .u64 (l1 (n)), .int .u64 (l2 (n)), .int .u64 (l3 (n)), .int .i64 ((0 : Nat) : Int)]) (#[.bool false, .int .u64 (l0 (n)), .int .u64 (l1 (n)), .int .u64 (l2 (n)), .int .u64 (l3 (n)), .int .i64 ((0 : Nat) : Int)]) rfl rfl (fun _ => by kernel_rfl) rfl ?_
  intro k1 w1 hk hz hq Q1
  have N_k1 : w.heap.size ≤ k1 := by have := M.size; omega
  replace M := M.trans hq
  clear hk hz hq
  refine wl_mv (.const (.string ⟨#[]⟩)) (.string ⟨#[]⟩) (fun _ => rfl) rfl rfl ?_
  refine w_nil ?_
  refine xn_then ?_
  refine w_seq ?_
  refine w_seq ?_
  refine w_reg ?_
  refine wl_load 26 (.tmp 1) (pt k1 0) (.agg #[.bool false, .int .u64 (l0 (n)), .int .u64 (l1 (n)), .int .u64 (l2 (n)), .int .u64 (l3 (n)), .int .i64 ((0 : Nat) : Int)]) rfl rfl (run_row Q1 26 0 6 [.bool false, .int .u64 (l0 (n)), .int .u64 (l1 (n)), .int .u64 (l2 (n)), .int .u64 (l3 (n)), .int .i64 ((0 : Nat) : Int)] rfl Tryd.underlying26 rfl sz26) rfl ?_
  refine wl_call 19 [(.tmp 4)] _ [.agg #[.bool false, .int .u64 (l0 (n)), .int .u64 (l1 (n)), .int .u64 (l2 (n)), .int .u64 (l3 (n)), .int .i64 ((0 : Nat) : Int)]] (.int .i64 (0)) rfl rfl (fun _ _ => by kernel_rfl) (rcheck_ok false n ((0 : Nat) : Int) _ hn0 hnM hck) rfl ?_
  intro w2 hq
  replace Q1 := Q1.mo hq
  replace M := M.trans hq
  clear hq
  refine wl_bin (fun x y => do eqGuard .neq 30 (.tmp 5) (.const (.int .i64 (0))) x y; binOp .neq 30 x y) (.tmp 5) (.const (.int .i64 (0))) (.int .i64 (0)) (.int .i64 (0)) (.bool false) (fun _ => rfl) rfl rfl (V.neE (r := true) hc0 _ _ _) rfl ?_
  refine w_nil ?_
  refine xn_then ?_
  refine w_condF rfl ?_
  refine w_skip ?_
  refine xn_then ?_
  refine w_seq ?_
  refine w_reg ?_
  refine wl_un (fun v => Instr.fieldAt 26 v 1) (.tmp 1) (pt k1 0) (pt k1 1) (fun _ => rfl) rfl (by kernel_rfl) rfl ?_
  refine wl_load 24 (.tmp 7) (pt k1 1) (.agg #[.int .u64 (l0 (n)), .int .u64 (l1 (n)), .int .u64 (l2 (n)), .int .u64 (l3 (n))]) rfl rfl (run_row Q1 24 1 4 [.int .u64 (l0 (n)), .int .u64 (l1 (n)), .int .u64 (l2 (n)), .int .u64 (l3 (n))] rfl Tryd.underlying24 rfl sz24) rfl ?_
  refine wl_call 24 [(.tmp 8)] _ [.agg #[.int .u64 (l0 (n)), .int .u64 (l1 (n)), .int .u64 (l2 (n)), .int .u64 (l3 (n))]] (tx (V.dgs8 n)) rfl rfl (fun _ _ => by kernel_rfl) (rtext_n n _ hn0 hnM) rfl ?_
  intro w3 hq
  replace Q1 := Q1.mo hq
  replace M := M.trans hq
  clear hq
  refine wl_mv (.tmp 9) (tx (V.dgs8 n)) (fun _ => rfl) rfl rfl ?_
  refine w_nil ?_
  refine xn_then ?_
  refine w_seq ?_
  refine w_block ?_
  refine w_loop (fun m l w1 => ∃ dl : List UInt8, m = 0 + 1 - dl.length ∧ look l 1 = pt k1 0 ∧ look l 3 = tx dl ∧ LZ (V.dgs8 n) dl 0 ∧ At w1 k1 [.bool false, .int .u64 (l0 (n)), .int .u64 (l1 (n)), .int .u64 (l2 (n)), .int .u64 (l3 (n)), .int .i64 ((0 : Nat) : Int)] ∧ Mo w w1) _ ⟨V.dgs8 n, rfl, rfl, rfl, ⟨0, rfl, Or.inl rfl⟩, Q1, M⟩ ?_
  clear M Q1
  rintro m l wl ⟨dl, rfl, e1, e3, hz, Q1, M⟩
  have hb := hz.bound
  by_cases hlt : dl.length ≤ 0
  · have hle : decide ((dl.length : Int) ≤ ((0 : Nat) : Int)) = true := decide_eq_true (by omega)
    refine w_seq ?_
    refine w_seq ?_
    refine w_reg ?_
    refine wl_mv (.tmp 3) (tx dl) (fun _ => rfl) e3 rfl ?_
    refine wl_val (.int .i64 ((dl.length : Int))) (len_tx _ _ dl (by exact rfl) _ _ _ _ _ _) rfl ?_
    refine wl_un (fun v => Instr.fieldAt 26 v 2) (.tmp 1) (pt k1 0) (pt k1 5) (fun _ => rfl) e1 (by kernel_rfl) rfl ?_
    refine wl_load 3 (.tmp 12) (pt k1 5) (.int .i64 ((0 : Nat) : Int)) rfl rfl (run_one Q1 3 5 rfl Tryd.underlying3 rfl) rfl ?_
    refine wl_bin (fun x y => do eqGuard .leq 3 (.tmp 11) (.tmp 13) x y; binOp .leq 3 x y) (.tmp 11) (.tmp 13) (.int .i64 ((dl.length : Int))) (.int .i64 ((0 : Nat) : Int)) (.bool true) (fun _ => rfl) rfl rfl (leq3_run hle _ _ _) rfl ?_
    refine w_nil ?_
    refine xn_then ?_
    refine w_condT rfl ?_
    refine w_skip ?_
    refine xn_then ?_
    refine w_block ?_
    refine w_reg ?_
    refine wl_mv (.tmp 3) (tx dl) (fun _ => rfl) e3 rfl ?_
    refine wl_bin (fun x y => do eqGuard .add 9 (.const (.string ⟨#[48]⟩)) (.tmp 15) x y; binOp .add 9 x y) (.const (.string ⟨#[48]⟩)) (.tmp 15) (.string ⟨#[48]⟩) (tx dl) (tx (48 :: dl)) (fun _ => rfl) rfl rfl (catl_run [48] dl (by simp; omega) _ _ _) rfl ?_
    refine wl_mv (.tmp 16) (tx (48 :: dl)) (fun _ => rfl) rfl rfl ?_
    refine w_nil ?_
    refine xn_blk ?_
    exact xn_loop (0 + 1 - (48 :: dl).length) (by simp; omega) ⟨48 :: dl, rfl, e1, rfl, hz.step hlt, Q1, M⟩
  · have hle : decide ((dl.length : Int) ≤ ((0 : Nat) : Int)) = false := decide_eq_false (by omega)
    obtain ⟨c, hc⟩ : ∃ c, dl.length = 0 + c := ⟨dl.length - 0, by omega⟩
    have hfin := fin0 (hz.done hlt) false
    refine w_seq ?_
    refine w_seq ?_
    refine w_reg ?_
    refine wl_mv (.tmp 3) (tx dl) (fun _ => rfl) e3 rfl ?_
    refine wl_val (.int .i64 ((dl.length : Int))) (len_tx _ _ dl (by exact rfl) _ _ _ _ _ _) rfl ?_
    refine wl_un (fun v => Instr.fieldAt 26 v 2) (.tmp 1) (pt k1 0) (pt k1 5) (fun _ => rfl) e1 (by kernel_rfl) rfl ?_
    refine wl_load 3 (.tmp 12) (pt k1 5) (.int .i64 ((0 : Nat) : Int)) rfl rfl (run_one Q1 3 5 rfl Tryd.underlying3 rfl) rfl ?_
    refine wl_bin (fun x y => do eqGuard .leq 3 (.tmp 11) (.tmp 13) x y; binOp .leq 3 x y) (.tmp 11) (.tmp 13) (.int .i64 ((dl.length : Int))) (.int .i64 ((0 : Nat) : Int)) (.bool false) (fun _ => rfl) rfl rfl (leq3_run hle _ _ _) rfl ?_
    refine w_nil ?_
    refine xn_then ?_
    refine w_condF rfl ?_
    refine w_exit ?_
    refine xx_then ?_
    refine xx_then ?_
    refine xx_blk ?_
    refine xn_then ?_
    refine w_seq ?_
    refine w_seq ?_
    refine w_reg ?_
    refine wl_un (fun v => Instr.fieldAt 26 v 2) (.tmp 1) (pt k1 0) (pt k1 5) (fun _ => rfl) e1 (by kernel_rfl) rfl ?_
    refine wl_load 3 (.tmp 17) (pt k1 5) (.int .i64 ((0 : Nat) : Int)) rfl rfl (run_one Q1 3 5 rfl Tryd.underlying3 rfl) rfl ?_
    refine wl_bin (fun x y => do eqGuard .gtr 3 (.tmp 18) (.const (.int .i64 (0))) x y; binOp .gtr 3 x y) (.tmp 18) (.const (.int .i64 (0))) (.int .i64 ((0 : Nat) : Int)) (.int .i64 (0)) (.bool false) (fun _ => rfl) rfl rfl (gt3_run hk0 _ _ _) rfl ?_
    refine w_nil ?_
    refine xn_then ?_
    refine w_condF rfl ?_
    refine w_skip ?_
    refine xn_then ?_
    refine w_seq ?_
    refine w_seq ?_
    refine w_reg ?_
    refine wl_un (fun v => Instr.fieldAt 26 v 0) (.tmp 1) (pt k1 0) (pt k1 0) (fun _ => rfl) e1 (by kernel_rfl) rfl ?_
    refine wl_load 4 (.tmp 36) (pt k1 0) (.bool false) rfl rfl (run_one Q1 4 0 rfl Tryd.underlying4 rfl) rfl ?_
    refine w_nil ?_
    refine xn_then ?_
    refine w_condF rfl ?_
    refine w_skip ?_
    refine xn_then ?_
    refine w_seq ?_
    refine w_reg ?_
    refine wl_mv (.tmp 3) (tx dl) (fun _ => rfl) e3 rfl ?_
    refine wl_mv (.tmp 40) (tx dl) (fun _ => rfl) rfl rfl ?_
    refine w_nil ?_
    refine xn_then ?_
    refine w_ret ?_
    exact w_ret1 _ (tx dl) rfl rfl ⟨by rw [hfin]; rfl, M⟩
theorem rtx_f1 (n : Int) (k : Nat) (w : World) (hn0 : 0 ≤ n) (hnM : n < MM) (hk18 : k ≤ 18) (hkn : k ≠ 0) (hck : ck false n (k : Int) = 0) : Calls Tryd.prog 10 #[dc false n (k : Int)] w fun e w' => e = .returned (tx (V.txt false n k)) ∧ Mo w w' := by
  have hc0 : ((0 : Int) == 0) = true := rfl
  have hD : (V.dgs8 n).length ≤ 78 := by have := V.dgs8_len n; have e3 : (V.dgs8 n).length = (strOf (decF 78 n)).size := by8_len _; omega
  have hk0 : decide ((k : Int) > 0) = true := decide_eq_true (by omega)
  refine w_enter 41 Tryd.func10 Tryd.ntmps10 rfl rfl ?_
  have M : Mo w w := Mo.refl _
  refine w_seq ?_
  refine w_reg ?_
  refine wl_box 26 (.tmp 0) (.agg #[.bool false, .int .u64 (l0 (n)), .int .u64 (l1 (n)), .int .u64 (l2 (n)), .int .u64 (l3 (n)), .int .i64 (k : Int)]) (#[.bool false, .int .u64 (l0 (n)), .int .u64 (l1 (n)), .int .u64 (l2 (n)), .int .u64 (l3 (n)), .int .i64 (k : Int)]) rfl rfl (fun _ => by kernel_rfl) rfl ?_
  intro k1 w1 hk hz hq Q1
  have N_k1 : w.heap.size ≤ k1 := by have := M.size; omega
  replace M := M.trans hq
  clear hk hz hq
  refine wl_mv (.const (.string ⟨#[]⟩)) (.string ⟨#[]⟩) (fun _ => rfl) rfl rfl ?_
  refine w_nil ?_
  refine xn_then ?_
  refine w_seq ?_
  refine w_seq ?_
  refine w_reg ?_
  refine wl_load 26 (.tmp 1) (pt k1 0) (.agg #[.bool false, .int .u64 (l0 (n)), .int .u64 (l1 (n)), .int .u64 (l2 (n)), .int .u64 (l3 (n)), .int .i64 (k : Int)]) rfl rfl (run_row Q1 26 0 6 [.bool false, .int .u64 (l0 (n)), .int .u64 (l1 (n)), .int .u64 (l2 (n)), .int .u64 (l3 (n)), .int .i64 (k : Int)] rfl Tryd.underlying26 rfl sz26) rfl ?_
  refine wl_call 19 [(.tmp 4)] _ [.agg #[.bool false, .int .u64 (l0 (n)), .int .u64 (l1 (n)), .int .u64 (l2 (n)), .int .u64 (l3 (n)), .int .i64 (k : Int)]] (.int .i64 (0)) rfl rfl (fun _ _ => by kernel_rfl) (rcheck_ok false n (k : Int) _ hn0 hnM hck) rfl ?_
  intro w2 hq
  replace Q1 := Q1.mo hq
  replace M := M.trans hq
  clear hq
  refine wl_bin (fun x y => do eqGuard .neq 30 (.tmp 5) (.const (.int .i64 (0))) x y; binOp .neq 30 x y) (.tmp 5) (.const (.int .i64 (0))) (.int .i64 (0)) (.int .i64 (0)) (.bool false) (fun _ => rfl) rfl rfl (V.neE (r := true) hc0 _ _ _) rfl ?_
  refine w_nil ?_
  refine xn_then ?_
  refine w_condF rfl ?_
  refine w_skip ?_
  refine xn_then ?_
  refine w_seq ?_
  refine w_reg ?_
  refine wl_un (fun v => Instr.fieldAt 26 v 1) (.tmp 1) (pt k1 0) (pt k1 1) (fun _ => rfl) rfl (by kernel_rfl) rfl ?_
  refine wl_load 24 (.tmp 7) (pt k1 1) (.agg #[.int .u64 (l0 (n)), .int .u64 (l1 (n)), .int .u64 (l2 (n)), .int .u64 (l3 (n))]) rfl rfl (run_row Q1 24 1 4 [.int .u64 (l0 (n)), .int .u64 (l1 (n)), .int .u64 (l2 (n)), .int .u64 (l3 (n))] rfl Tryd.underlying24 rfl sz24) rfl ?_
  refine wl_call 24 [(.tmp 8)] _ [.agg #[.int .u64 (l0 (n)), .int .u64 (l1 (n)), .int .u64 (l2 (n)), .int .u64 (l3 (n))]] (tx (V.dgs8 n)) rfl rfl (fun _ _ => by kernel_rfl) (rtext_n n _ hn0 hnM) rfl ?_
  intro w3 hq
  replace Q1 := Q1.mo hq
  replace M := M.trans hq
  clear hq
  refine wl_mv (.tmp 9) (tx (V.dgs8 n)) (fun _ => rfl) rfl rfl ?_
  refine w_nil ?_
  refine xn_then ?_
  refine w_seq ?_
  refine w_block ?_
  refine w_loop (fun m l w1 => ∃ dl : List UInt8, m = k + 1 - dl.length ∧ look l 1 = pt k1 0 ∧ look l 3 = tx dl ∧ LZ (V.dgs8 n) dl k ∧ At w1 k1 [.bool false, .int .u64 (l0 (n)), .int .u64 (l1 (n)), .int .u64 (l2 (n)), .int .u64 (l3 (n)), .int .i64 (k : Int)] ∧ Mo w w1) _ ⟨V.dgs8 n, rfl, rfl, rfl, ⟨0, rfl, Or.inl rfl⟩, Q1, M⟩ ?_
  clear M Q1
  rintro m l wl ⟨dl, rfl, e1, e3, hz, Q1, M⟩
  have hb := hz.bound
  by_cases hlt : dl.length ≤ k
  · have hle : decide ((dl.length : Int) ≤ (k : Int)) = true := decide_eq_true (by omega)
    refine w_seq ?_
    refine w_seq ?_
    refine w_reg ?_
    refine wl_mv (.tmp 3) (tx dl) (fun _ => rfl) e3 rfl ?_
    refine wl_val (.int .i64 ((dl.length : Int))) (len_tx _ _ dl (by exact rfl) _ _ _ _ _ _) rfl ?_
    refine wl_un (fun v => Instr.fieldAt 26 v 2) (.tmp 1) (pt k1 0) (pt k1 5) (fun _ => rfl) e1 (by kernel_rfl) rfl ?_
    refine wl_load 3 (.tmp 12) (pt k1 5) (.int .i64 (k : Int)) rfl rfl (run_one Q1 3 5 rfl Tryd.underlying3 rfl) rfl ?_
    refine wl_bin (fun x y => do eqGuard .leq 3 (.tmp 11) (.tmp 13) x y; binOp .leq 3 x y) (.tmp 11) (.tmp 13) (.int .i64 ((dl.length : Int))) (.int .i64 (k : Int)) (.bool true) (fun _ => rfl) rfl rfl (leq3_run hle _ _ _) rfl ?_
    refine w_nil ?_
    refine xn_then ?_
    refine w_condT rfl ?_
    refine w_skip ?_
    refine xn_then ?_
    refine w_block ?_
    refine w_reg ?_
    refine wl_mv (.tmp 3) (tx dl) (fun _ => rfl) e3 rfl ?_
    refine wl_bin (fun x y => do eqGuard .add 9 (.const (.string ⟨#[48]⟩)) (.tmp 15) x y; binOp .add 9 x y) (.const (.string ⟨#[48]⟩)) (.tmp 15) (.string ⟨#[48]⟩) (tx dl) (tx (48 :: dl)) (fun _ => rfl) rfl rfl (catl_run [48] dl (by simp; omega) _ _ _) rfl ?_
    refine wl_mv (.tmp 16) (tx (48 :: dl)) (fun _ => rfl) rfl rfl ?_
    refine w_nil ?_
    refine xn_blk ?_
    exact xn_loop (k + 1 - (48 :: dl).length) (by simp; omega) ⟨48 :: dl, rfl, e1, rfl, hz.step hlt, Q1, M⟩
  · have hle : decide ((dl.length : Int) ≤ (k : Int)) = false := decide_eq_false (by omega)
    obtain ⟨c, hc⟩ : ∃ c, dl.length = k + c := ⟨dl.length - k, by omega⟩
    have hfin := fink hkn (hz.done hlt) hc false
    refine w_seq ?_
    refine w_seq ?_
    refine w_reg ?_
    refine wl_mv (.tmp 3) (tx dl) (fun _ => rfl) e3 rfl ?_
    refine wl_val (.int .i64 ((dl.length : Int))) (len_tx _ _ dl (by exact rfl) _ _ _ _ _ _) rfl ?_
    refine wl_un (fun v => Instr.fieldAt 26 v 2) (.tmp 1) (pt k1 0) (pt k1 5) (fun _ => rfl) e1 (by kernel_rfl) rfl ?_
    refine wl_load 3 (.tmp 12) (pt k1 5) (.int .i64 (k : Int)) rfl rfl (run_one Q1 3 5 rfl Tryd.underlying3 rfl) rfl ?_
    refine wl_bin (fun x y => do eqGuard .leq 3 (.tmp 11) (.tmp 13) x y; binOp .leq 3 x y) (.tmp 11) (.tmp 13) (.int .i64 ((dl.length : Int))) (.int .i64 (k : Int)) (.bool false) (fun _ => rfl) rfl rfl (leq3_run hle _ _ _) rfl ?_
    refine w_nil ?_
    refine xn_then ?_
    refine w_condF rfl ?_
    refine w_exit ?_
    refine xx_then ?_
    refine xx_then ?_
    refine xx_blk ?_
    refine xn_then ?_
    refine w_seq ?_
    refine w_seq ?_
    refine w_reg ?_
    refine wl_un (fun v => Instr.fieldAt 26 v 2) (.tmp 1) (pt k1 0) (pt k1 5) (fun _ => rfl) e1 (by kernel_rfl) rfl ?_
    refine wl_load 3 (.tmp 17) (pt k1 5) (.int .i64 (k : Int)) rfl rfl (run_one Q1 3 5 rfl Tryd.underlying3 rfl) rfl ?_
    refine wl_bin (fun x y => do eqGuard .gtr 3 (.tmp 18) (.const (.int .i64 (0))) x y; binOp .gtr 3 x y) (.tmp 18) (.const (.int .i64 (0))) (.int .i64 (k : Int)) (.int .i64 (0)) (.bool true) (fun _ => rfl) rfl rfl (gt3_run hk0 _ _ _) rfl ?_
    refine w_nil ?_
    refine xn_then ?_
    refine w_condT rfl ?_
    refine w_any 15 [.inl (tx dl), .inl (tx dl), .inl (.int .i64 ((dl.length : Int))), .inl (pt k1 5), .inl (.int .i64 (k : Int)), .inl (.int .i64 ((c : Int))), .inl (tx (dl.take c)), .inl (tx (dl.take c ++ [46])), .inl (tx dl), .inl (tx dl), .inl (.int .i64 ((dl.length : Int))), .inl (pt k1 5), .inl (.int .i64 (k : Int)), .inl (.int .i64 ((c : Int))), .inl (tx (dl.drop c))] [] (by kernel_rfl) (by kernel_rfl) (by kernel_rfl) (by kernel_rfl) rfl (by kernel_rfl) (by kernel_rfl) late_nil ?_ ?_ ?_
    · exact Ds.none rfl
    · refine ea_cons ?_ (ea_cons ?_ (ea_cons ?_ (ea_cons ?_ (ea_cons ?_ (ea_cons ?_ (ea_cons ?_ (ea_cons ?_ (ea_cons ?_ (ea_cons ?_ (ea_cons ?_ (ea_cons ?_ (ea_cons ?_ (ea_cons ?_ (ea_cons ?_ (ea_nil)))))))))))))))
      · exact og_eq (tx dl) rfl (fun f wf hq hd K hK => go_run rfl (wo_mv (.tmp 3) (tx dl) (fun _ => rfl) e3 (hK _ (Mo.refl _))))
      · exact og_eq (tx dl) rfl (fun f wf hq hd K hK => go_run rfl (wo_mv (.tmp 3) (tx dl) (fun _ => rfl) e3 (hK _ (Mo.refl _))))
      · exact og_eq (.int .i64 ((dl.length : Int))) rfl (fun f wf hq hd K hK => go_run rfl (wo_val (.int .i64 ((dl.length : Int))) (len_tx _ _ dl (by exact (hd 1 rfl)) _ _ _ _ _ _) (hK _ (Mo.refl _))))
      · exact og_eq (pt k1 5) rfl (fun f wf hq hd K hK => go_run rfl (wo_un (fun v => Instr.fieldAt 26 v 2) (.tmp 1) (pt k1 0) (pt k1 5) (fun _ => rfl) e1 (by kernel_rfl) (hK _ (Mo.refl _))))
      · exact og_eq (.int .i64 (k : Int)) rfl (fun f wf hq hd K hK => have Q1 := Q1.mo hq; go_run rfl (wo_load 3 (.tmp 23) (pt k1 5) (.int .i64 (k : Int)) rfl (hd 3 rfl) (run_one Q1 3 5 rfl Tryd.underlying3 rfl) (hK _ (Mo.refl _))))
      · exact og_eq (.int .i64 ((c : Int))) rfl (fun f wf hq hd K hK => go_run rfl (wo_bin (fun x y => do eqGuard .sub 3 (.tmp 22) (.tmp 24) x y; binOp .sub 3 x y) (.tmp 22) (.tmp 24) (.int .i64 ((dl.length : Int))) (.int .i64 (k : Int)) (.int .i64 ((c : Int))) (fun _ => rfl) (hd 2 rfl) (hd 4 rfl) (sub3_run hc (by omega) _ _ _) (hK _ (Mo.refl _))))
      · exact og_eq (tx (dl.take c)) rfl (fun f wf hq hd K hK => go_run rfl (wo_val (tx (dl.take c)) (hi_run _ _ _ dl c (by exact (hd 0 rfl)) (by exact (hd 5 rfl)) (by omega) _ _ _ _ _ _) (hK _ (Mo.refl _))))
      · exact og_eq (tx (dl.take c ++ [46])) rfl (fun f wf hq hd K hK => go_run rfl (wo_bin (fun x y => do eqGuard .add 9 (.tmp 26) (.const (.string ⟨#[46]⟩)) x y; binOp .add 9 x y) (.tmp 26) (.const (.string ⟨#[46]⟩)) (tx (dl.take c)) (.string ⟨#[46]⟩) (tx (dl.take c ++ [46])) (fun _ => rfl) (hd 6 rfl) rfl (catl_run (dl.take c) [46] (by simp; omega) _ _ _) (hK _ (Mo.refl _))))
      · exact og_eq (tx dl) rfl (fun f wf hq hd K hK => go_run rfl (wo_mv (.tmp 3) (tx dl) (fun _ => rfl) e3 (hK _ (Mo.refl _))))
      · exact og_eq (tx dl) rfl (fun f wf hq hd K hK => go_run rfl (wo_mv (.tmp 3) (tx dl) (fun _ => rfl) e3 (hK _ (Mo.refl _))))
      · exact og_eq (.int .i64 ((dl.length : Int))) rfl (fun f wf hq hd K hK => go_run rfl (wo_val (.int .i64 ((dl.length : Int))) (len_tx _ _ dl (by exact (hd 9 rfl)) _ _ _ _ _ _) (hK _ (Mo.refl _))))
      · exact og_eq (pt k1 5) rfl (fun f wf hq hd K hK => go_run rfl (wo_un (fun v => Instr.fieldAt 26 v 2) (.tmp 1) (pt k1 0) (pt k1 5) (fun _ => rfl) e1 (by kernel_rfl) (hK _ (Mo.refl _))))
      · exact og_eq (.int .i64 (k : Int)) rfl (fun f wf hq hd K hK => have Q1 := Q1.mo hq; go_run rfl (wo_load 3 (.tmp 31) (pt k1 5) (.int .i64 (k : Int)) rfl (hd 11 rfl) (run_one Q1 3 5 rfl Tryd.underlying3 rfl) (hK _ (Mo.refl _))))
      · exact og_eq (.int .i64 ((c : Int))) rfl (fun f wf hq hd K hK => go_run rfl (wo_bin (fun x y => do eqGuard .sub 3 (.tmp 30) (.tmp 32) x y; binOp .sub 3 x y) (.tmp 30) (.tmp 32) (.int .i64 ((dl.length : Int))) (.int .i64 (k : Int)) (.int .i64 ((c : Int))) (fun _ => rfl) (hd 10 rfl) (hd 12 rfl) (sub3_run hc (by omega) _ _ _) (hK _ (Mo.refl _))))
      · exact og_eq (tx (dl.drop c)) rfl (fun f wf hq hd K hK => go_run rfl (wo_val (tx (dl.drop c)) (lo_run _ _ _ dl c (by exact (hd 8 rfl)) (by exact (hd 13 rfl)) (by omega) _ _ _ _ _ _) (hK _ (Mo.refl _))))
    intro kf21 w21 hq hR hne
    replace Q1 := Q1.mo hq
    replace M := M.trans hq
    clear hq hR hne
    refine wl_bin (fun x y => do eqGuard .add 9 (.tmp 27) (.tmp 34) x y; binOp .add 9 x y) (.tmp 27) (.tmp 34) (tx (dl.take c ++ [46])) (tx (dl.drop c)) (tx (dl.take c ++ [46] ++ dl.drop c)) (fun _ => rfl) rfl rfl (catl_run (dl.take c ++ [46]) (dl.drop c) (by simp; omega) _ _ _) rfl ?_
    refine wl_mv (.tmp 35) (tx (dl.take c ++ [46] ++ dl.drop c)) (fun _ => rfl) rfl rfl ?_
    refine w_nil ?_
    refine xn_then ?_
    refine w_seq ?_
    refine w_seq ?_
    refine w_reg ?_
    refine wl_un (fun v => Instr.fieldAt 26 v 0) (.tmp 1) (pt k1 0) (pt k1 0) (fun _ => rfl) e1 (by kernel_rfl) rfl ?_
    refine wl_load 4 (.tmp 36) (pt k1 0) (.bool false) rfl rfl (run_one Q1 4 0 rfl Tryd.underlying4 rfl) rfl ?_
    refine w_nil ?_
    refine xn_then ?_
    refine w_condF rfl ?_
    refine w_skip ?_
    refine xn_then ?_
    refine w_seq ?_
    refine w_reg ?_
    refine wl_mv (.tmp 3) (tx (dl.take c ++ [46] ++ dl.drop c)) (fun _ => rfl) rfl rfl ?_
    refine wl_mv (.tmp 40) (tx (dl.take c ++ [46] ++ dl.drop c)) (fun _ => rfl) rfl rfl ?_
    refine w_nil ?_
    refine xn_then ?_
    refine w_ret ?_
    exact w_ret1 _ (tx (dl.take c ++ [46] ++ dl.drop c)) rfl rfl ⟨by rw [hfin]; rfl, M⟩
theorem rtx_ok (b : Bool) (n : Int) (k : Nat) (w : World) (hn0 : 0 ≤ n) (hnM : n < MM) (hk18 : k ≤ 18) (hck : ck b n (k : Int) = 0) : Calls Tryd.prog 10 #[dc b n (k : Int)] w fun e w' => e = .returned (tx (V.txt b n k)) ∧ Mo w w' := by
  by_cases h : k = 0
  · subst h
    cases b
    · exact rtx_f0 n w hn0 hnM hck
    · exact rtx_t0 n w hn0 hnM hck
  · cases b
    · exact rtx_f1 n k w hn0 hnM hk18 h hck
    · exact rtx_t1 n k w hn0 hnM hk18 h hck
end Go.Proofs.YtdcojpbgijkmgaaDoor
/-
  A number's text, digit by digit from behind.
-/
namespace Go.Proofs.YtdcojpbgijkmgaaDoor
open Go.RowKit Go.Lib
theorem decF_fuel : ∀ (f : Nat) (m : Int), 0 ≤ m → m < 10 ^ (f + 1) → decF (f + 1) m = decF (f + 2) m
  | 0, m, h0, h => by
    have e : m / 10 = 0 := by simp at h; omega
    rw [text_end e, text_end e]
  | f + 1, m, h0, h => by
    by_cases e : m / 10 = 0
    · rw [text_end e, text_end e]
    · rw [text_on e, text_on e, decF_fuel f (m / 10) (by omega) (by rw [Int.pow_succ] at h; omega)]
/-- The last digit. -/
def ld (n : Int) : UInt8 := UInt8.ofNat (48 + n % 10).toNat
theorem dgs8_map (n : Int) : V.dgs8 n = (decF 78 n).map (fun d => UInt8.ofNat d.toNat) := strOf_list _
theorem dgs8_end {n : Int} (h : n / 10 = 0) : V.dgs8 n = [ld n] := by rw [dgs8_map, text_end h]; rfl
theorem dgs8_on {n : Int} (h0 : 0 ≤ n) (hM : n < MM) (h : n / 10 ≠ 0) : V.dgs8 n = V.dgs8 (n / 10) ++ [ld n] := by
  have hb : n / 10 < 10 ^ 77 := by
    have : MM < 10 * 10 ^ 77 := by decide
    omega
  rw [dgs8_map, dgs8_map, text_on h, ← decF_fuel 76 (n / 10) (by omega) hb, List.map_append]; rfl
theorem ldz_step (n : Int) (k : Nat) (h0 : 0 ≤ n) (hM : n < MM) : leadz (V.dgs8 n) (k + 1) = leadz (V.dgs8 (n / 10)) k ++ [ld n] := by
  by_cases h : n / 10 = 0
  · rw [h, dgs8_end h]
    have e0 : V.dgs8 0 = [48] := by rw [dgs8_end (by decide)]; rfl
    rw [e0]
    unfold leadz
    simp [List.replicate_succ']
  · rw [dgs8_on h0 hM h]
    unfold leadz
    simp
/-- The sign. -/
def sgn8 (b : Bool) : List UInt8 := if b then [45] else []
/-- A number's text, with its point even where nothing stands behind. -/
def ptx (b : Bool) (n : Int) (k : Nat) : List UInt8 := sgn8 b ++ ((leadz (V.dgs8 n) k).take ((leadz (V.dgs8 n) k).length - k) ++ 46 :: (leadz (V.dgs8 n) k).drop ((leadz (V.dgs8 n) k).length - k))
theorem leadz_len (l : List UInt8) (k : Nat) : k + 1 ≤ (leadz l k).length := by unfold leadz; simp; omega
theorem ptx_s (b : Bool) (n : Int) (k : Nat) (h0 : 0 ≤ n) (hM : n < MM) : ptx b n (k + 1) = ptx b (n / 10) k ++ [ld n] := by
  unfold ptx
  rw [ldz_step n k h0 hM]
  have hl := leadz_len (V.dgs8 (n / 10)) k
  generalize leadz (V.dgs8 (n / 10)) k = L at *
  have e : (L ++ [ld n]).length - (k + 1) = L.length - k := by simp
  rw [e, List.take_append_of_le_length (by omega), List.drop_append_of_le_length (by omega)]
  simp
theorem lz0 (n : Int) : leadz (V.dgs8 n) 0 = V.dgs8 n := by
  unfold leadz; have := D_pos n; rw [show 0 + 1 - (V.dgs8 n).length = 0 by omega]; rfl
theorem ptx_0 (b : Bool) (n : Int) : ptx b n 0 = V.txt b n 0 ++ [46] := by
  unfold ptx V.txt wpt sgn8; rw [lz0]; generalize V.dgs8 n = D; cases b <;> simp
theorem ptx_k (b : Bool) (n : Int) (k : Nat) (hk : k ≠ 0) : ptx b n k = V.txt b n k := by
  unfold ptx V.txt wpt sgn8; rw [if_neg hk]; cases b <;> simp
theorem ld_48 {n : Int} (h : n % 10 = 0) : ((ld n).toNat : Int) = 48 := by unfold ld; rw [h]; rfl
theorem ld_d {n : Int} : ((ld n).toNat : Int) = 48 + n % 10 := by
  unfold ld
  rw [UInt8.toNat_ofNat']
  omega
theorem idx_sn (l : List UInt8) (c : UInt8) (w : World) : (Instr.index 9 (tx (l ++ [c])) (.int .i64 (l.length : Int))).run Tryd.prog w = .ok (.int .u8 (c.toNat : Int)) w := by
  have h : l.length < (⟨(l ++ [c]).toArray⟩ : ByteArray).size := by rw [tx_size]; simp
  have e : (⟨(l ++ [c]).toArray⟩ : ByteArray)[l.length] = c := by
    show (l ++ [c]).toArray[l.length] = c
    simp
  have := idx_s (⟨(l ++ [c]).toArray⟩ : ByteArray) l.length h w
  rw [e] at this
  exact this
theorem hi_sn (ρ : Operand → Value) (x y : Operand) (l : List UInt8) (c : UInt8) (hx : ρ x = tx (l ++ [c])) (hy : ρ y = .int .i64 (l.length : Int)) (dst : Option Tmp) (type : TypeId) (pos : String) (after : Array Edge) (guard : Option (Nat × Bool)) (w : World) :
    (execOp ρ { dst, op := .slice 9 x none (some y) none, type, pos, after, guard }).run Tryd.prog w = .ok (.value (tx l)) w := by
  have := hi_run ρ x y (l ++ [c]) l.length hx hy (by simp) dst type pos after guard w
  rw [List.take_left] at this
  exact this
theorem sub1_sn (l : List UInt8) (c : UInt8) (h : l.length ≤ 1000) (x y : Operand) (w : World) : (do eqGuard .sub 3 x y (.int .i64 ((l ++ [c]).length : Int)) (.int .i64 1); binOp .sub 3 (.int .i64 ((l ++ [c]).length : Int)) (.int .i64 1)).run Tryd.prog w = .ok (.int .i64 (l.length : Int)) w :=
  sub3_run (b := 1) (by simp; omega) (by simp; omega) x y w
end Go.Proofs.YtdcojpbgijkmgaaDoor
/-
  exciseref03.Short, whatever the number.
-/
namespace Go.Proofs.YtdcojpbgijkmgaaDoor
open Go.RowKit Go.Lib
theorem eqq_run {l : List UInt8} {r : Bool} (h : (l == [63]) = r) (x y : Operand) (w : World) : (do eqGuard .eql 9 x y (tx l) (.string ⟨#[63]⟩); binOp .eql 9 (tx l) (.string ⟨#[63]⟩)).run Tryd.prog w = .ok (.bool r) w := by
  subst h
  have e : (⟨#[63]⟩ : ByteArray).toList = [63] := by rw [ByteArray.toList_eq]
  have e2 : (⟨l.toArray⟩ : ByteArray).toList = l := by rw [ByteArray.toList_eq]
  rw [← e2]
  unfold tx
  generalize (⟨l.toArray⟩ : ByteArray) = s
  simp [go_sem, e]
theorem txt_ne (b : Bool) (n : Int) (k : Nat) : (V.txt b n k == [63]) = false := by
  cases h : (V.txt b n k == [63]) with
  | false => rfl
  | true =>
    exfalso
    have h := eq_of_beq h
    unfold V.txt at h
    cases b with
    | true => simp at h
    | false =>
      simp only [Bool.false_eq_true, if_false] at h
      unfold wpt at h
      split at h
      · have hm : (63 : UInt8) ∈ V.dgs8 n := by rw [h]; simp
        rw [dgs8_map] at hm
        obtain ⟨d, hd, he⟩ := List.mem_map.1 hm
        have hb := decF_digits 78 n d hd
        have := congrArg UInt8.toNat he
        rw [UInt8.toNat_ofNat'] at this
        have e63 : (63 : UInt8).toNat = 63 := rfl
        rw [e63] at this
        omega
      · have hm : (46 : UInt8) ∈ [63] := by rw [← h]; simp
        simp at hm
theorem ptx_len (b : Bool) (n : Int) (k : Nat) (hk : k ≤ 18) : (ptx b n k).length ≤ 200 := by
  have hD : (V.dgs8 n).length ≤ 78 := by have := V.dgs8_len n; have e3 : (V.dgs8 n).length = (strOf (decF 78 n)).size := by8_len _; omega
  have hL : (leadz (V.dgs8 n) k).length ≤ 100 := by unfold leadz; generalize V.dgs8 n = D at *; simp; omega
  unfold ptx sgn8
  generalize leadz (V.dgs8 n) k = L at *
  cases b <;> simp <;> omega
theorem txt0_len (b : Bool) (n : Int) : (V.txt b n 0).length ≤ 1000 := by
  have := ptx_len b n 0 (by decide); rw [ptx_0] at this; simp at this; omega
theorem rsh_no (b : Bool) (n s0 : Int) (w : World) (hn0 : 0 ≤ n) (hnM : n < MM) (hck : ck b n s0 ≠ 0) : Calls Tryd.prog 12 #[dc b n s0] w fun e w' => e = .returned (.string ⟨#[63]⟩) ∧ Mo w w' := by
  refine w_enter 37 Tryd.func12 Tryd.ntmps12 rfl rfl ?_
  have M : Mo w w := Mo.refl _
  refine w_seq ?_
  refine w_reg ?_
  refine wl_box 26 (.tmp 0) (.agg #[.bool b, .int .u64 (l0 (n)), .int .u64 (l1 (n)), .int .u64 (l2 (n)), .int .u64 (l3 (n)), .int .i64 (s0)]) (#[.bool b, .int .u64 (l0 (n)), .int .u64 (l1 (n)), .int .u64 (l2 (n)), .int .u64 (l3 (n)), .int .i64 (s0)]) rfl rfl (fun _ => by kernel_rfl) rfl ?_
  intro k1 w1 hk hz hq Q1
  have N_k1 : w.heap.size ≤ k1 := by have := M.size; omega
  replace M := M.trans hq
  clear hk hz hq
  refine wl_mv (.const (.string ⟨#[]⟩)) (.string ⟨#[]⟩) (fun _ => rfl) rfl rfl ?_
  refine w_nil ?_
  refine xn_then ?_
  refine w_seq ?_
  refine w_reg ?_
  refine wl_load 26 (.tmp 1) (pt k1 0) (.agg #[.bool b, .int .u64 (l0 (n)), .int .u64 (l1 (n)), .int .u64 (l2 (n)), .int .u64 (l3 (n)), .int .i64 (s0)]) rfl rfl (run_row Q1 26 0 6 [.bool b, .int .u64 (l0 (n)), .int .u64 (l1 (n)), .int .u64 (l2 (n)), .int .u64 (l3 (n)), .int .i64 (s0)] rfl Tryd.underlying26 rfl sz26) rfl ?_
  refine wl_call 10 [(.tmp 4)] _ [.agg #[.bool b, .int .u64 (l0 (n)), .int .u64 (l1 (n)), .int .u64 (l2 (n)), .int .u64 (l3 (n)), .int .i64 (s0)]] (.string ⟨#[63]⟩) rfl rfl (fun _ _ => by kernel_rfl) (rtx_no b n s0 _ hn0 hnM hck) rfl ?_
  intro w2 hq
  replace Q1 := Q1.mo hq
  replace M := M.trans hq
  clear hq
  refine wl_mv (.tmp 5) (.string ⟨#[63]⟩) (fun _ => rfl) rfl rfl ?_
  refine w_nil ?_
  refine xn_then ?_
  refine w_seq ?_
  refine w_seq ?_
  refine w_reg ?_
  refine wl_mv (.tmp 3) (.string ⟨#[63]⟩) (fun _ => rfl) rfl rfl ?_
  refine wl_bin (fun x y => do eqGuard .eql 9 (.tmp 6) (.const (.string ⟨#[63]⟩)) x y; binOp .eql 9 x y) (.tmp 6) (.const (.string ⟨#[63]⟩)) (.string ⟨#[63]⟩) (.string ⟨#[63]⟩) (.bool true) (fun _ => rfl) rfl rfl (V.eqS_run _ _ _ _) rfl ?_
  refine wl_mv (.tmp 7) (.bool true) (fun _ => rfl) rfl rfl ?_
  refine wl_skip rfl ?_
  refine wl_skip rfl ?_
  refine wl_skip rfl ?_
  refine wl_pick (.tmp 8) (.const (.bool true)) (.tmp 11) true (.bool true) (fun _ => rfl) rfl rfl rfl ?_
  refine w_nil ?_
  refine xn_then ?_
  refine w_condT rfl ?_
  refine w_seq ?_
  refine w_reg ?_
  refine wl_mv (.tmp 3) (.string ⟨#[63]⟩) (fun _ => rfl) rfl rfl ?_
  refine wl_mv (.tmp 13) (.string ⟨#[63]⟩) (fun _ => rfl) rfl rfl ?_
  refine w_nil ?_
  refine xn_then ?_
  refine w_ret ?_
  refine xr_then ?_
  exact w_ret1 _ (.string ⟨#[63]⟩) rfl rfl ⟨rfl, M⟩
theorem rsh_0 (b : Bool) (n : Int) (w : World) (hn0 : 0 ≤ n) (hnM : n < MM) (hck : ck b n ((0 : Nat) : Int) = 0) : Calls Tryd.prog 12 #[dc b n ((0 : Nat) : Int)] w fun e w' => e = .returned (tx (V.txt b n 0)) ∧ Mo w w' := by
  have hk0 : (((0 : Nat) : Int) == 0) = true := rfl
  refine w_enter 37 Tryd.func12 Tryd.ntmps12 rfl rfl ?_
  have M : Mo w w := Mo.refl _
  refine w_seq ?_
  refine w_reg ?_
  refine wl_box 26 (.tmp 0) (.agg #[.bool b, .int .u64 (l0 (n)), .int .u64 (l1 (n)), .int .u64 (l2 (n)), .int .u64 (l3 (n)), .int .i64 ((0 : Nat) : Int)]) (#[.bool b, .int .u64 (l0 (n)), .int .u64 (l1 (n)), .int .u64 (l2 (n)), .int .u64 (l3 (n)), .int .i64 ((0 : Nat) : Int)]) rfl rfl (fun _ => by kernel_rfl) rfl ?_
  intro k1 w1 hk hz hq Q1
  have N_k1 : w.heap.size ≤ k1 := by have := M.size; omega
  replace M := M.trans hq
  clear hk hz hq
  refine wl_mv (.const (.string ⟨#[]⟩)) (.string ⟨#[]⟩) (fun _ => rfl) rfl rfl ?_
  refine w_nil ?_
  refine xn_then ?_
  refine w_seq ?_
  refine w_reg ?_
  refine wl_load 26 (.tmp 1) (pt k1 0) (.agg #[.bool b, .int .u64 (l0 (n)), .int .u64 (l1 (n)), .int .u64 (l2 (n)), .int .u64 (l3 (n)), .int .i64 ((0 : Nat) : Int)]) rfl rfl (run_row Q1 26 0 6 [.bool b, .int .u64 (l0 (n)), .int .u64 (l1 (n)), .int .u64 (l2 (n)), .int .u64 (l3 (n)), .int .i64 ((0 : Nat) : Int)] rfl Tryd.underlying26 rfl sz26) rfl ?_
  refine wl_call 10 [(.tmp 4)] _ [.agg #[.bool b, .int .u64 (l0 (n)), .int .u64 (l1 (n)), .int .u64 (l2 (n)), .int .u64 (l3 (n)), .int .i64 ((0 : Nat) : Int)]] (tx (V.txt b n 0)) rfl rfl (fun _ _ => by kernel_rfl) (rtx_ok b n 0 _ hn0 hnM (by decide) hck) rfl ?_
  intro w2 hq
  replace Q1 := Q1.mo hq
  replace M := M.trans hq
  clear hq
  refine wl_mv (.tmp 5) (tx (V.txt b n 0)) (fun _ => rfl) rfl rfl ?_
  refine w_nil ?_
  refine xn_then ?_
  refine w_seq ?_
  refine w_seq ?_
  refine w_reg ?_
  refine wl_mv (.tmp 3) (tx (V.txt b n 0)) (fun _ => rfl) rfl rfl ?_
  refine wl_bin (fun x y => do eqGuard .eql 9 (.tmp 6) (.const (.string ⟨#[63]⟩)) x y; binOp .eql 9 x y) (.tmp 6) (.const (.string ⟨#[63]⟩)) (tx (V.txt b n 0)) (.string ⟨#[63]⟩) (.bool false) (fun _ => rfl) rfl rfl (eqq_run (txt_ne _ _ _) _ _ _) rfl ?_
  refine wl_mv (.tmp 7) (.bool false) (fun _ => rfl) rfl rfl ?_
  refine wl_un (fun v => Instr.fieldAt 26 v 2) (.tmp 1) (pt k1 0) (pt k1 5) (fun _ => rfl) rfl (by kernel_rfl) rfl ?_
  refine wl_load 3 (.tmp 9) (pt k1 5) (.int .i64 ((0 : Nat) : Int)) rfl rfl (run_one Q1 3 5 rfl Tryd.underlying3 rfl) rfl ?_
  refine wl_bin (fun x y => do eqGuard .eql 3 (.tmp 10) (.const (.int .i64 (0))) x y; binOp .eql 3 x y) (.tmp 10) (.const (.int .i64 (0))) (.int .i64 ((0 : Nat) : Int)) (.int .i64 (0)) (.bool true) (fun _ => rfl) rfl rfl (eq3_run hk0 _ _ _) rfl ?_
  refine wl_pick (.tmp 8) (.const (.bool true)) (.tmp 11) false (.bool true) (fun _ => rfl) rfl rfl rfl ?_
  refine w_nil ?_
  refine xn_then ?_
  refine w_condT rfl ?_
  refine w_seq ?_
  refine w_reg ?_
  refine wl_mv (.tmp 3) (tx (V.txt b n 0)) (fun _ => rfl) rfl rfl ?_
  refine wl_mv (.tmp 13) (tx (V.txt b n 0)) (fun _ => rfl) rfl rfl ?_
  refine w_nil ?_
  refine xn_then ?_
  refine w_ret ?_
  refine xr_then ?_
  exact w_ret1 _ (tx (V.txt b n 0)) rfl rfl ⟨rfl, M⟩
theorem rsh_k (b : Bool) (n : Int) (k : Nat) (w : World) (hkn : k ≠ 0) (hn0 : 0 ≤ n) (hnM : n < MM) (hk18 : k ≤ 18) (hck : ck b n (k : Int) = 0) : Calls Tryd.prog 12 #[dc b n (k : Int)] w fun e w' => e = .returned (tx (V.txt b (trN k n).1 (trN k n).2)) ∧ Mo w w' := by
  have hk0 : ((k : Int) == 0) = false := beq_eq_false_iff_ne.2 (by omega)
  refine w_enter 37 Tryd.func12 Tryd.ntmps12 rfl rfl ?_
  have M : Mo w w := Mo.refl _
  refine w_seq ?_
  refine w_reg ?_
  refine wl_box 26 (.tmp 0) (.agg #[.bool b, .int .u64 (l0 (n)), .int .u64 (l1 (n)), .int .u64 (l2 (n)), .int .u64 (l3 (n)), .int .i64 (k : Int)]) (#[.bool b, .int .u64 (l0 (n)), .int .u64 (l1 (n)), .int .u64 (l2 (n)), .int .u64 (l3 (n)), .int .i64 (k : Int)]) rfl rfl (fun _ => by kernel_rfl) rfl ?_
  intro k1 w1 hk hz hq Q1
  have N_k1 : w.heap.size ≤ k1 := by have := M.size; omega
  replace M := M.trans hq
  clear hk hz hq
  refine wl_mv (.const (.string ⟨#[]⟩)) (.string ⟨#[]⟩) (fun _ => rfl) rfl rfl ?_
  refine w_nil ?_
  refine xn_then ?_
  refine w_seq ?_
  refine w_reg ?_
  refine wl_load 26 (.tmp 1) (pt k1 0) (.agg #[.bool b, .int .u64 (l0 (n)), .int .u64 (l1 (n)), .int .u64 (l2 (n)), .int .u64 (l3 (n)), .int .i64 (k : Int)]) rfl rfl (run_row Q1 26 0 6 [.bool b, .int .u64 (l0 (n)), .int .u64 (l1 (n)), .int .u64 (l2 (n)), .int .u64 (l3 (n)), .int .i64 (k : Int)] rfl Tryd.underlying26 rfl sz26) rfl ?_
  refine wl_call 10 [(.tmp 4)] _ [.agg #[.bool b, .int .u64 (l0 (n)), .int .u64 (l1 (n)), .int .u64 (l2 (n)), .int .u64 (l3 (n)), .int .i64 (k : Int)]] (tx (V.txt b n k)) rfl rfl (fun _ _ => by kernel_rfl) (rtx_ok b n k _ hn0 hnM hk18 hck) rfl ?_
  intro w2 hq
  replace Q1 := Q1.mo hq
  replace M := M.trans hq
  clear hq
  refine wl_mv (.tmp 5) (tx (V.txt b n k)) (fun _ => rfl) rfl rfl ?_
  refine w_nil ?_
  refine xn_then ?_
  refine w_seq ?_
  refine w_seq ?_
  refine w_reg ?_
  refine wl_mv (.tmp 3) (tx (V.txt b n k)) (fun _ => rfl) rfl rfl ?_
  refine wl_bin (fun x y => do eqGuard .eql 9 (.tmp 6) (.const (.string ⟨#[63]⟩)) x y; binOp .eql 9 x y) (.tmp 6) (.const (.string ⟨#[63]⟩)) (tx (V.txt b n k)) (.string ⟨#[63]⟩) (.bool false) (fun _ => rfl) rfl rfl (eqq_run (txt_ne _ _ _) _ _ _) rfl ?_
  refine wl_mv (.tmp 7) (.bool false) (fun _ => rfl) rfl rfl ?_
  refine wl_un (fun v => Instr.fieldAt 26 v 2) (.tmp 1) (pt k1 0) (pt k1 5) (fun _ => rfl) rfl (by kernel_rfl) rfl ?_
  refine wl_load 3 (.tmp 9) (pt k1 5) (.int .i64 (k : Int)) rfl rfl (run_one Q1 3 5 rfl Tryd.underlying3 rfl) rfl ?_
  refine wl_bin (fun x y => do eqGuard .eql 3 (.tmp 10) (.const (.int .i64 (0))) x y; binOp .eql 3 x y) (.tmp 10) (.const (.int .i64 (0))) (.int .i64 (k : Int)) (.int .i64 (0)) (.bool false) (fun _ => rfl) rfl rfl (eq3_run hk0 _ _ _) rfl ?_
  refine wl_pick (.tmp 8) (.const (.bool true)) (.tmp 11) false (.bool false) (fun _ => rfl) rfl rfl rfl ?_
  refine w_nil ?_
  refine xn_then ?_
  refine w_condF rfl ?_
  refine w_skip ?_
  refine xn_then ?_
  refine w_seq ?_
  refine w_block ?_
  refine w_loop (fun m l w1 => ∃ n2 : Int, look l 3 = tx (ptx b n2 m) ∧ trN m n2 = trN k n ∧ 0 ≤ n2 ∧ n2 < MM ∧ m ≤ 18 ∧ Mo w w1) k ⟨n, by rw [ptx_k b n k hkn]; rfl, rfl, hn0, hnM, hk18, M⟩ ?_
  clear M
  rintro m l wl ⟨n2, e3, ht, h20, h2M, hm18, M⟩
  cases m with
  | zero =>
    rw [ptx_0] at e3
    have h48 : (((46 : UInt8).toNat : Int) == 48) = false := rfl
    have h46 : (((46 : UInt8).toNat : Int) == 46) = true := rfl
    refine w_seq ?_
    refine w_seq ?_
    refine w_reg ?_
    refine wl_mv (.tmp 3) (tx ((V.txt b n2 0) ++ [(46 : UInt8)])) (fun _ => rfl) e3 rfl ?_
    refine wl_mv (.tmp 3) (tx ((V.txt b n2 0) ++ [(46 : UInt8)])) (fun _ => rfl) e3 rfl ?_
    refine wl_val (.int .i64 (((V.txt b n2 0) ++ [(46 : UInt8)]).length)) (len_tx _ _ ((V.txt b n2 0) ++ [(46 : UInt8)]) (by exact rfl) _ _ _ _ _ _) rfl ?_
    refine wl_bin (fun x y => do eqGuard .sub 3 (.tmp 16) (.const (.int .i64 (1))) x y; binOp .sub 3 x y) (.tmp 16) (.const (.int .i64 (1))) (.int .i64 (((V.txt b n2 0) ++ [(46 : UInt8)]).length)) (.int .i64 (1)) (.int .i64 (((V.txt b n2 0).length : Int))) (fun _ => rfl) rfl rfl (sub1_sn (V.txt b n2 0) (46 : UInt8) (txt0_len b n2) _ _ _) rfl ?_
    refine wl_bin (fun x y => Instr.index 9 x y) (.tmp 14) (.tmp 17) (tx ((V.txt b n2 0) ++ [(46 : UInt8)])) (.int .i64 (((V.txt b n2 0).length : Int))) (.int .u8 (((46 : UInt8)).toNat : Int)) (fun _ => rfl) rfl rfl (idx_sn (V.txt b n2 0) (46 : UInt8) _) rfl ?_
    refine wl_bin (fun x y => do eqGuard .eql 5 (.tmp 18) (.const (.int .u8 (48))) x y; binOp .eql 5 x y) (.tmp 18) (.const (.int .u8 (48))) (.int .u8 (((46 : UInt8)).toNat : Int)) (.int .u8 (48)) (.bool false) (fun _ => rfl) rfl rfl (eq5r h48 _ _ _) rfl ?_
    refine w_nil ?_
    refine xn_then ?_
    refine w_condF rfl ?_
    refine w_exit ?_
    refine xx_then ?_
    refine xx_then ?_
    refine xx_blk ?_
    refine xn_then ?_
    refine w_seq ?_
    refine w_seq ?_
    refine w_reg ?_
    refine wl_mv (.tmp 3) (tx ((V.txt b n2 0) ++ [(46 : UInt8)])) (fun _ => rfl) e3 rfl ?_
    refine wl_mv (.tmp 3) (tx ((V.txt b n2 0) ++ [(46 : UInt8)])) (fun _ => rfl) e3 rfl ?_
    refine wl_val (.int .i64 (((V.txt b n2 0) ++ [(46 : UInt8)]).length)) (len_tx _ _ ((V.txt b n2 0) ++ [(46 : UInt8)]) (by exact rfl) _ _ _ _ _ _) rfl ?_
    refine wl_bin (fun x y => do eqGuard .sub 3 (.tmp 27) (.const (.int .i64 (1))) x y; binOp .sub 3 x y) (.tmp 27) (.const (.int .i64 (1))) (.int .i64 (((V.txt b n2 0) ++ [(46 : UInt8)]).length)) (.int .i64 (1)) (.int .i64 (((V.txt b n2 0).length : Int))) (fun _ => rfl) rfl rfl (sub1_sn (V.txt b n2 0) (46 : UInt8) (txt0_len b n2) _ _ _) rfl ?_
    refine wl_bin (fun x y => Instr.index 9 x y) (.tmp 25) (.tmp 28) (tx ((V.txt b n2 0) ++ [(46 : UInt8)])) (.int .i64 (((V.txt b n2 0).length : Int))) (.int .u8 (((46 : UInt8)).toNat : Int)) (fun _ => rfl) rfl rfl (idx_sn (V.txt b n2 0) (46 : UInt8) _) rfl ?_
    refine wl_bin (fun x y => do eqGuard .eql 5 (.tmp 29) (.const (.int .u8 (46))) x y; binOp .eql 5 x y) (.tmp 29) (.const (.int .u8 (46))) (.int .u8 (((46 : UInt8)).toNat : Int)) (.int .u8 (46)) (.bool true) (fun _ => rfl) rfl rfl (eq5r h46 _ _ _) rfl ?_
    refine w_nil ?_
    refine xn_then ?_
    refine w_condT rfl ?_
    refine w_reg ?_
    refine wl_mv (.tmp 3) (tx ((V.txt b n2 0) ++ [(46 : UInt8)])) (fun _ => rfl) e3 rfl ?_
    refine wl_mv (.tmp 3) (tx ((V.txt b n2 0) ++ [(46 : UInt8)])) (fun _ => rfl) e3 rfl ?_
    refine wl_val (.int .i64 (((V.txt b n2 0) ++ [(46 : UInt8)]).length)) (len_tx _ _ ((V.txt b n2 0) ++ [(46 : UInt8)]) (by exact rfl) _ _ _ _ _ _) rfl ?_
    refine wl_bin (fun x y => do eqGuard .sub 3 (.tmp 33) (.const (.int .i64 (1))) x y; binOp .sub 3 x y) (.tmp 33) (.const (.int .i64 (1))) (.int .i64 (((V.txt b n2 0) ++ [(46 : UInt8)]).length)) (.int .i64 (1)) (.int .i64 (((V.txt b n2 0).length : Int))) (fun _ => rfl) rfl rfl (sub1_sn (V.txt b n2 0) (46 : UInt8) (txt0_len b n2) _ _ _) rfl ?_
    refine wl_val (tx (V.txt b n2 0)) (hi_sn _ _ _ (V.txt b n2 0) (46 : UInt8) (by exact rfl) (by exact rfl) _ _ _ _ _ _) rfl ?_
    refine wl_mv (.tmp 35) (tx (V.txt b n2 0)) (fun _ => rfl) rfl rfl ?_
    refine w_nil ?_
    refine xn_then ?_
    refine w_seq ?_
    refine w_reg ?_
    refine wl_mv (.tmp 3) (tx (V.txt b n2 0)) (fun _ => rfl) rfl rfl ?_
    refine wl_mv (.tmp 36) (tx (V.txt b n2 0)) (fun _ => rfl) rfl rfl ?_
    refine w_nil ?_
    refine xn_then ?_
    refine w_ret ?_
    exact w_ret1 _ (tx (V.txt b n2 0)) rfl rfl ⟨by rw [← ht]; rfl, M⟩
  | succ m =>
    have hlen : (ptx b (n2 / 10) m).length ≤ 1000 := Nat.le_trans (ptx_len b _ m (by omega)) (by decide)
    have e4 := ptx_s b n2 m h20 h2M
    rw [e4] at e3
    by_cases hz : n2 % 10 = 0
    · have h48 : (((ld n2).toNat : Int) == 48) = true := by rw [ld_48 hz]; rfl
      refine w_seq ?_
      refine w_seq ?_
      refine w_reg ?_
      refine wl_mv (.tmp 3) (tx ((ptx b (n2 / 10) m) ++ [(ld n2)])) (fun _ => rfl) e3 rfl ?_
      refine wl_mv (.tmp 3) (tx ((ptx b (n2 / 10) m) ++ [(ld n2)])) (fun _ => rfl) e3 rfl ?_
      refine wl_val (.int .i64 (((ptx b (n2 / 10) m) ++ [(ld n2)]).length)) (len_tx _ _ ((ptx b (n2 / 10) m) ++ [(ld n2)]) (by exact rfl) _ _ _ _ _ _) rfl ?_
      refine wl_bin (fun x y => do eqGuard .sub 3 (.tmp 16) (.const (.int .i64 (1))) x y; binOp .sub 3 x y) (.tmp 16) (.const (.int .i64 (1))) (.int .i64 (((ptx b (n2 / 10) m) ++ [(ld n2)]).length)) (.int .i64 (1)) (.int .i64 (((ptx b (n2 / 10) m).length : Int))) (fun _ => rfl) rfl rfl (sub1_sn (ptx b (n2 / 10) m) (ld n2) hlen _ _ _) rfl ?_
      refine wl_bin (fun x y => Instr.index 9 x y) (.tmp 14) (.tmp 17) (tx ((ptx b (n2 / 10) m) ++ [(ld n2)])) (.int .i64 (((ptx b (n2 / 10) m).length : Int))) (.int .u8 (((ld n2)).toNat : Int)) (fun _ => rfl) rfl rfl (idx_sn (ptx b (n2 / 10) m) (ld n2) _) rfl ?_
      refine wl_bin (fun x y => do eqGuard .eql 5 (.tmp 18) (.const (.int .u8 (48))) x y; binOp .eql 5 x y) (.tmp 18) (.const (.int .u8 (48))) (.int .u8 (((ld n2)).toNat : Int)) (.int .u8 (48)) (.bool true) (fun _ => rfl) rfl rfl (eq5r h48 _ _ _) rfl ?_
      refine w_nil ?_
      refine xn_then ?_
      refine w_condT rfl ?_
      refine w_skip ?_
      refine xn_then ?_
      refine w_block ?_
      refine w_reg ?_
      refine wl_mv (.tmp 3) (tx ((ptx b (n2 / 10) m) ++ [(ld n2)])) (fun _ => rfl) e3 rfl ?_
      refine wl_mv (.tmp 3) (tx ((ptx b (n2 / 10) m) ++ [(ld n2)])) (fun _ => rfl) e3 rfl ?_
      refine wl_val (.int .i64 (((ptx b (n2 / 10) m) ++ [(ld n2)]).length)) (len_tx _ _ ((ptx b (n2 / 10) m) ++ [(ld n2)]) (by exact rfl) _ _ _ _ _ _) rfl ?_
      refine wl_bin (fun x y => do eqGuard .sub 3 (.tmp 22) (.const (.int .i64 (1))) x y; binOp .sub 3 x y) (.tmp 22) (.const (.int .i64 (1))) (.int .i64 (((ptx b (n2 / 10) m) ++ [(ld n2)]).length)) (.int .i64 (1)) (.int .i64 (((ptx b (n2 / 10) m).length : Int))) (fun _ => rfl) rfl rfl (sub1_sn (ptx b (n2 / 10) m) (ld n2) hlen _ _ _) rfl ?_
      refine wl_val (tx (ptx b (n2 / 10) m)) (hi_sn _ _ _ (ptx b (n2 / 10) m) (ld n2) (by exact rfl) (by exact rfl) _ _ _ _ _ _) rfl ?_
      refine wl_mv (.tmp 24) (tx (ptx b (n2 / 10) m)) (fun _ => rfl) rfl rfl ?_
      refine w_nil ?_
      refine xn_blk ?_
      exact xn_loop m (by omega) ⟨n2 / 10, rfl, by rw [← ht, trN, if_pos hz], by omega, by omega, by omega, M⟩
    · have h48 : (((ld n2).toNat : Int) == 48) = false := by rw [ld_d]; exact beq_eq_false_iff_ne.2 (by omega)
      have h46 : (((ld n2).toNat : Int) == 46) = false := by rw [ld_d]; exact beq_eq_false_iff_ne.2 (by omega)
      have e5 := ptx_k b n2 (m + 1) (by omega)
      refine w_seq ?_
      refine w_seq ?_
      refine w_reg ?_
      refine wl_mv (.tmp 3) (tx ((ptx b (n2 / 10) m) ++ [(ld n2)])) (fun _ => rfl) e3 rfl ?_
      refine wl_mv (.tmp 3) (tx ((ptx b (n2 / 10) m) ++ [(ld n2)])) (fun _ => rfl) e3 rfl ?_
      refine wl_val (.int .i64 (((ptx b (n2 / 10) m) ++ [(ld n2)]).length)) (len_tx _ _ ((ptx b (n2 / 10) m) ++ [(ld n2)]) (by exact rfl) _ _ _ _ _ _) rfl ?_
      refine wl_bin (fun x y => do eqGuard .sub 3 (.tmp 16) (.const (.int .i64 (1))) x y; binOp .sub 3 x y) (.tmp 16) (.const (.int .i64 (1))) (.int .i64 (((ptx b (n2 / 10) m) ++ [(ld n2)]).length)) (.int .i64 (1)) (.int .i64 (((ptx b (n2 / 10) m).length : Int))) (fun _ => rfl) rfl rfl (sub1_sn (ptx b (n2 / 10) m) (ld n2) hlen _ _ _) rfl ?_
      refine wl_bin (fun x y => Instr.index 9 x y) (.tmp 14) (.tmp 17) (tx ((ptx b (n2 / 10) m) ++ [(ld n2)])) (.int .i64 (((ptx b (n2 / 10) m).length : Int))) (.int .u8 (((ld n2)).toNat : Int)) (fun _ => rfl) rfl rfl (idx_sn (ptx b (n2 / 10) m) (ld n2) _) rfl ?_
      refine wl_bin (fun x y => do eqGuard .eql 5 (.tmp 18) (.const (.int .u8 (48))) x y; binOp .eql 5 x y) (.tmp 18) (.const (.int .u8 (48))) (.int .u8 (((ld n2)).toNat : Int)) (.int .u8 (48)) (.bool false) (fun _ => rfl) rfl rfl (eq5r h48 _ _ _) rfl ?_
      refine w_nil ?_
      refine xn_then ?_
      refine w_condF rfl ?_
      refine w_exit ?_
      refine xx_then ?_
      refine xx_then ?_
      refine xx_blk ?_
      refine xn_then ?_
      refine w_seq ?_
      refine w_seq ?_
      refine w_reg ?_
      refine wl_mv (.tmp 3) (tx ((ptx b (n2 / 10) m) ++ [(ld n2)])) (fun _ => rfl) e3 rfl ?_
      refine wl_mv (.tmp 3) (tx ((ptx b (n2 / 10) m) ++ [(ld n2)])) (fun _ => rfl) e3 rfl ?_
      refine wl_val (.int .i64 (((ptx b (n2 / 10) m) ++ [(ld n2)]).length)) (len_tx _ _ ((ptx b (n2 / 10) m) ++ [(ld n2)]) (by exact rfl) _ _ _ _ _ _) rfl ?_
      refine wl_bin (fun x y => do eqGuard .sub 3 (.tmp 27) (.const (.int .i64 (1))) x y; binOp .sub 3 x y) (.tmp 27) (.const (.int .i64 (1))) (.int .i64 (((ptx b (n2 / 10) m) ++ [(ld n2)]).length)) (.int .i64 (1)) (.int .i64 (((ptx b (n2 / 10) m).length : Int))) (fun _ => rfl) rfl rfl (sub1_sn (ptx b (n2 / 10) m) (ld n2) hlen _ _ _) rfl ?_
      refine wl_bin (fun x y => Instr.index 9 x y) (.tmp 25) (.tmp 28) (tx ((ptx b (n2 / 10) m) ++ [(ld n2)])) (.int .i64 (((ptx b (n2 / 10) m).length : Int))) (.int .u8 (((ld n2)).toNat : Int)) (fun _ => rfl) rfl rfl (idx_sn (ptx b (n2 / 10) m) (ld n2) _) rfl ?_
      refine wl_bin (fun x y => do eqGuard .eql 5 (.tmp 29) (.const (.int .u8 (46))) x y; binOp .eql 5 x y) (.tmp 29) (.const (.int .u8 (46))) (.int .u8 (((ld n2)).toNat : Int)) (.int .u8 (46)) (.bool false) (fun _ => rfl) rfl rfl (eq5r h46 _ _ _) rfl ?_
      refine w_nil ?_
      refine xn_then ?_
      refine w_condF rfl ?_
      refine w_skip ?_
      refine xn_then ?_
      refine w_seq ?_
      refine w_reg ?_
      refine wl_mv (.tmp 3) (tx ((ptx b (n2 / 10) m) ++ [(ld n2)])) (fun _ => rfl) e3 rfl ?_
      refine wl_mv (.tmp 36) (tx ((ptx b (n2 / 10) m) ++ [(ld n2)])) (fun _ => rfl) rfl rfl ?_
      refine w_nil ?_
      refine xn_then ?_
      refine w_ret ?_
      exact w_ret1 _ (tx ((ptx b (n2 / 10) m) ++ [(ld n2)])) rfl rfl ⟨by rw [← e4, e5, ← ht, trN, if_neg hz], M⟩
theorem rsh_ok (b : Bool) (n : Int) (k : Nat) (w : World) (hn0 : 0 ≤ n) (hnM : n < MM) (hk18 : k ≤ 18) (hck : ck b n (k : Int) = 0) : Calls Tryd.prog 12 #[dc b n (k : Int)] w fun e w' => e = .returned (tx (V.txt b (trN k n).1 (trN k n).2)) ∧ Mo w w' := by
  by_cases h : k = 0
  · subst h; exact rsh_0 b n w hn0 hnM hck
  · exact rsh_k b n k w h hn0 hnM hk18 hck
end Go.Proofs.YtdcojpbgijkmgaaDoor
/-
  exciselaw03.DectextTexts, whatever the number.
-/
namespace Go.Proofs.YtdcojpbgijkmgaaDoor.V
open Go.RowKit Go.Lib
theorem dtexts_ok (b : Bool) (n : Int) (k : Nat) (w : World) (hn0 : 0 ≤ n) (hnM : n < MM) (hk18 : k ≤ 18) (hck : ck b n (k : Int) = 0) : Calls Tryd.prog 3 #[dc b n (k : Int)] w fun e w' => e = .returned (.bool true) ∧ Mw w w' := by
  refine w_enter 18 Tryd.func3 Tryd.ntmps3 rfl rfl ?_
  have M : Mw w w := Mw.refl _
  refine w_seq ?_
  refine w_reg ?_
  refine wl_box 26 (.tmp 0) (.agg #[.bool b, .int .u64 (l0 (n)), .int .u64 (l1 (n)), .int .u64 (l2 (n)), .int .u64 (l3 (n)), .int .i64 ((k : Int))]) (#[.bool b, .int .u64 (l0 (n)), .int .u64 (l1 (n)), .int .u64 (l2 (n)), .int .u64 (l3 (n)), .int .i64 ((k : Int))]) rfl rfl (fun _ => by kernel_rfl) rfl ?_
  intro k1 w1 hk hz hq Q1
  have N_k1 : w.heap.size ≤ k1 := by have := M.size; omega
  replace M := M.trans hq
  clear hk hz hq
  refine wl_mv (.const (.bool false)) (.bool false) (fun _ => rfl) rfl rfl ?_
  refine w_nil ?_
  refine xn_then ?_
  refine w_seq ?_
  refine w_any 12 [.inl (.bool true), .inl (.bool true), .inl (.agg #[.bool b, .int .u64 (l0 (n)), .int .u64 (l1 (n)), .int .u64 (l2 (n)), .int .u64 (l3 (n)), .int .i64 ((k : Int))]), .inl (tx (txt b n k)), .inl (.agg #[.bool b, .int .u64 (l0 (n)), .int .u64 (l1 (n)), .int .u64 (l2 (n)), .int .u64 (l3 (n)), .int .i64 ((k : Int))]), .inl (tx (txt b n k)), .inl (.bool true), .inl (.bool true), .inl (.bool true), .inl (.agg #[.bool b, .int .u64 (l0 (n)), .int .u64 (l1 (n)), .int .u64 (l2 (n)), .int .u64 (l3 (n)), .int .i64 ((k : Int))]), .inl (tx (txt b (trN k n).1 (trN k n).2)), .inl (.agg #[.bool b, .int .u64 (l0 (n)), .int .u64 (l1 (n)), .int .u64 (l2 (n)), .int .u64 (l3 (n)), .int .i64 ((k : Int))])] [] (by kernel_rfl) (by kernel_rfl) (by kernel_rfl) (by kernel_rfl) rfl (by kernel_rfl) (by kernel_rfl) late_nil ?_ ?_ ?_
  · exact Ds.none rfl
  · refine ea_cons ?_ (ea_cons ?_ (ea_cons ?_ (ea_cons ?_ (ea_cons ?_ (ea_cons ?_ (ea_cons ?_ (ea_cons ?_ (ea_cons ?_ (ea_cons ?_ (ea_cons ?_ (ea_cons ?_ (ea_nil))))))))))))
    · exact og_eq (.bool true) rfl (fun f wf hq hd K hK => go_run rfl (wo_call 8 [] _ [] (.bool true) rfl rfl (fun _ _ => by kernel_rfl) (live_n _) hK))
    · exact og_eq (.bool true) rfl (fun f wf hq hd K hK => go_run rfl (wo_mv (.tmp 3) (.bool true) (fun _ => rfl) (hd 0 rfl) (hK _ (Mw.refl _))))
    · exact og_eq (.agg #[.bool b, .int .u64 (l0 (n)), .int .u64 (l1 (n)), .int .u64 (l2 (n)), .int .u64 (l3 (n)), .int .i64 ((k : Int))]) rfl (fun f wf hq hd K hK => have Q1 := Q1.mo hq; go_run (wnt_g rfl rfl rfl (hd 1 rfl) rfl) (wo_load 26 (.tmp 1) (pt k1 0) (.agg #[.bool b, .int .u64 (l0 (n)), .int .u64 (l1 (n)), .int .u64 (l2 (n)), .int .u64 (l3 (n)), .int .i64 ((k : Int))]) rfl rfl (run_row Q1 26 0 6 [.bool b, .int .u64 (l0 (n)), .int .u64 (l1 (n)), .int .u64 (l2 (n)), .int .u64 (l3 (n)), .int .i64 ((k : Int))] rfl Tryd.underlying26 rfl sz26) (hK _ (Mw.refl _))))
    · exact og_eq (tx (txt b n k)) rfl (fun f wf hq hd K hK => go_run (wnt_g rfl rfl rfl (hd 1 rfl) rfl) (wo_call 9 [(.tmp 5)] _ [.agg #[.bool b, .int .u64 (l0 (n)), .int .u64 (l1 (n)), .int .u64 (l2 (n)), .int .u64 (l3 (n)), .int .i64 ((k : Int))]] (tx (txt b n k)) rfl (li1 (hd 2 rfl)) (fun _ _ => by kernel_rfl) (text_ok b n k _ hn0 hnM hk18 hck) hK))
    · exact og_eq (.agg #[.bool b, .int .u64 (l0 (n)), .int .u64 (l1 (n)), .int .u64 (l2 (n)), .int .u64 (l3 (n)), .int .i64 ((k : Int))]) rfl (fun f wf hq hd K hK => have Q1 := Q1.mo hq; go_run (wnt_g rfl rfl rfl (hd 1 rfl) rfl) (wo_load 26 (.tmp 1) (pt k1 0) (.agg #[.bool b, .int .u64 (l0 (n)), .int .u64 (l1 (n)), .int .u64 (l2 (n)), .int .u64 (l3 (n)), .int .i64 ((k : Int))]) rfl rfl (run_row Q1 26 0 6 [.bool b, .int .u64 (l0 (n)), .int .u64 (l1 (n)), .int .u64 (l2 (n)), .int .u64 (l3 (n)), .int .i64 ((k : Int))] rfl Tryd.underlying26 rfl sz26) (hK _ (Mw.refl _))))
    · exact og_eq (tx (txt b n k)) rfl (fun f wf hq hd K hK => go_run (wnt_g rfl rfl rfl (hd 1 rfl) rfl) (wo_call 10 [(.tmp 7)] _ [.agg #[.bool b, .int .u64 (l0 (n)), .int .u64 (l1 (n)), .int .u64 (l2 (n)), .int .u64 (l3 (n)), .int .i64 ((k : Int))]] (tx (txt b n k)) rfl (li1 (hd 4 rfl)) (fun _ _ => by kernel_rfl) (wk (rtx_ok b n k _ hn0 hnM hk18 hck)) hK))
    · exact og_eq (.bool true) rfl (fun f wf hq hd K hK => go_run (wnt_g rfl rfl rfl (hd 1 rfl) rfl) (wo_bin (fun x y => do eqGuard .eql 9 (.tmp 6) (.tmp 8) x y; binOp .eql 9 x y) (.tmp 6) (.tmp 8) (tx (txt b n k)) (tx (txt b n k)) (.bool true) (fun _ => rfl) (hd 3 rfl) (hd 5 rfl) (eqS_run _ _ _ _) (hK _ (Mw.refl _))))
    · exact og_eq (.bool true) rfl (fun f wf hq hd K hK => go_run rfl (wo_pick (.tmp 4) (.tmp 9) (.const (.bool false)) true (.bool true) (fun _ => rfl) (hd 1 rfl) (hd 6 rfl) (hK _ (Mw.refl _))))
    · exact og_eq (.bool true) rfl (fun f wf hq hd K hK => go_run rfl (wo_mv (.tmp 10) (.bool true) (fun _ => rfl) (hd 7 rfl) (hK _ (Mw.refl _))))
    · exact og_eq (.agg #[.bool b, .int .u64 (l0 (n)), .int .u64 (l1 (n)), .int .u64 (l2 (n)), .int .u64 (l3 (n)), .int .i64 ((k : Int))]) rfl (fun f wf hq hd K hK => have Q1 := Q1.mo hq; go_run (wnt_g rfl rfl rfl (hd 8 rfl) rfl) (wo_load 26 (.tmp 1) (pt k1 0) (.agg #[.bool b, .int .u64 (l0 (n)), .int .u64 (l1 (n)), .int .u64 (l2 (n)), .int .u64 (l3 (n)), .int .i64 ((k : Int))]) rfl rfl (run_row Q1 26 0 6 [.bool b, .int .u64 (l0 (n)), .int .u64 (l1 (n)), .int .u64 (l2 (n)), .int .u64 (l3 (n)), .int .i64 ((k : Int))] rfl Tryd.underlying26 rfl sz26) (hK _ (Mw.refl _))))
    · exact og_eq (tx (txt b (trN k n).1 (trN k n).2)) rfl (fun f wf hq hd K hK => go_run (wnt_g rfl rfl rfl (hd 8 rfl) rfl) (wo_call 11 [(.tmp 12)] _ [.agg #[.bool b, .int .u64 (l0 (n)), .int .u64 (l1 (n)), .int .u64 (l2 (n)), .int .u64 (l3 (n)), .int .i64 ((k : Int))]] (tx (txt b (trN k n).1 (trN k n).2)) rfl (li1 (hd 9 rfl)) (fun _ _ => by kernel_rfl) (short_ok b n k _ hn0 hnM hk18 hck) hK))
    · exact og_eq (.agg #[.bool b, .int .u64 (l0 (n)), .int .u64 (l1 (n)), .int .u64 (l2 (n)), .int .u64 (l3 (n)), .int .i64 ((k : Int))]) rfl (fun f wf hq hd K hK => have Q1 := Q1.mo hq; go_run (wnt_g rfl rfl rfl (hd 8 rfl) rfl) (wo_load 26 (.tmp 1) (pt k1 0) (.agg #[.bool b, .int .u64 (l0 (n)), .int .u64 (l1 (n)), .int .u64 (l2 (n)), .int .u64 (l3 (n)), .int .i64 ((k : Int))]) rfl rfl (run_row Q1 26 0 6 [.bool b, .int .u64 (l0 (n)), .int .u64 (l1 (n)), .int .u64 (l2 (n)), .int .u64 (l3 (n)), .int .i64 ((k : Int))] rfl Tryd.underlying26 rfl sz26) (hK _ (Mw.refl _))))
  intro kf2 w2 hq hR hne
  replace Q1 := Q1.mo hq
  replace M := M.trans hq
  clear hq hR hne
  refine wl_call 12 [(.tmp 14)] _ [.agg #[.bool b, .int .u64 (l0 (n)), .int .u64 (l1 (n)), .int .u64 (l2 (n)), .int .u64 (l3 (n)), .int .i64 ((k : Int))]] (tx (txt b (trN k n).1 (trN k n).2)) rfl rfl (fun _ _ => by kernel_rfl) (wk (rsh_ok b n k _ hn0 hnM hk18 hck)) rfl ?_
  intro w3 hq
  replace Q1 := Q1.mo hq
  replace M := M.trans hq
  clear hq
  refine wl_bin (fun x y => do eqGuard .eql 9 (.tmp 13) (.tmp 15) x y; binOp .eql 9 x y) (.tmp 13) (.tmp 15) (tx (txt b (trN k n).1 (trN k n).2)) (tx (txt b (trN k n).1 (trN k n).2)) (.bool true) (fun _ => rfl) rfl rfl (eqS_run _ _ _ _) rfl ?_
  refine wl_pick (.tmp 11) (.tmp 16) (.const (.bool false)) true (.bool true) (fun _ => rfl) rfl rfl rfl ?_
  refine wl_mv (.tmp 17) (.bool true) (fun _ => rfl) rfl rfl ?_
  refine w_nil ?_
  refine xn_then ?_
  refine w_ret ?_
  exact w_ret1 _ (.bool true) rfl rfl ⟨rfl, M⟩
theorem dtexts_no (b : Bool) (n s0 : Int) (w : World) (hn0 : 0 ≤ n) (hnM : n < MM) (hck : ck b n s0 ≠ 0) : Calls Tryd.prog 3 #[dc b n s0] w fun e w' => e = .returned (.bool true) ∧ Mw w w' := by
  refine w_enter 18 Tryd.func3 Tryd.ntmps3 rfl rfl ?_
  have M : Mw w w := Mw.refl _
  refine w_seq ?_
  refine w_reg ?_
  refine wl_box 26 (.tmp 0) (.agg #[.bool b, .int .u64 (l0 (n)), .int .u64 (l1 (n)), .int .u64 (l2 (n)), .int .u64 (l3 (n)), .int .i64 (s0)]) (#[.bool b, .int .u64 (l0 (n)), .int .u64 (l1 (n)), .int .u64 (l2 (n)), .int .u64 (l3 (n)), .int .i64 (s0)]) rfl rfl (fun _ => by kernel_rfl) rfl ?_
  intro k1 w1 hk hz hq Q1
  have N_k1 : w.heap.size ≤ k1 := by have := M.size; omega
  replace M := M.trans hq
  clear hk hz hq
  refine wl_mv (.const (.bool false)) (.bool false) (fun _ => rfl) rfl rfl ?_
  refine w_nil ?_
  refine xn_then ?_
  refine w_seq ?_
  refine w_any 12 [.inl (.bool true), .inl (.bool true), .inl (.agg #[.bool b, .int .u64 (l0 (n)), .int .u64 (l1 (n)), .int .u64 (l2 (n)), .int .u64 (l3 (n)), .int .i64 (s0)]), .inl (.string ⟨#[63]⟩), .inl (.agg #[.bool b, .int .u64 (l0 (n)), .int .u64 (l1 (n)), .int .u64 (l2 (n)), .int .u64 (l3 (n)), .int .i64 (s0)]), .inl (.string ⟨#[63]⟩), .inl (.bool true), .inl (.bool true), .inl (.bool true), .inl (.agg #[.bool b, .int .u64 (l0 (n)), .int .u64 (l1 (n)), .int .u64 (l2 (n)), .int .u64 (l3 (n)), .int .i64 (s0)]), .inl (.string ⟨#[63]⟩), .inl (.agg #[.bool b, .int .u64 (l0 (n)), .int .u64 (l1 (n)), .int .u64 (l2 (n)), .int .u64 (l3 (n)), .int .i64 (s0)])] [] (by kernel_rfl) (by kernel_rfl) (by kernel_rfl) (by kernel_rfl) rfl (by kernel_rfl) (by kernel_rfl) late_nil ?_ ?_ ?_
  · exact Ds.none rfl
  · refine ea_cons ?_ (ea_cons ?_ (ea_cons ?_ (ea_cons ?_ (ea_cons ?_ (ea_cons ?_ (ea_cons ?_ (ea_cons ?_ (ea_cons ?_ (ea_cons ?_ (ea_cons ?_ (ea_cons ?_ (ea_nil))))))))))))
    · exact og_eq (.bool true) rfl (fun f wf hq hd K hK => go_run rfl (wo_call 8 [] _ [] (.bool true) rfl rfl (fun _ _ => by kernel_rfl) (live_n _) hK))
    · exact og_eq (.bool true) rfl (fun f wf hq hd K hK => go_run rfl (wo_mv (.tmp 3) (.bool true) (fun _ => rfl) (hd 0 rfl) (hK _ (Mw.refl _))))
    · exact og_eq (.agg #[.bool b, .int .u64 (l0 (n)), .int .u64 (l1 (n)), .int .u64 (l2 (n)), .int .u64 (l3 (n)), .int .i64 (s0)]) rfl (fun f wf hq hd K hK => have Q1 := Q1.mo hq; go_run (wnt_g rfl rfl rfl (hd 1 rfl) rfl) (wo_load 26 (.tmp 1) (pt k1 0) (.agg #[.bool b, .int .u64 (l0 (n)), .int .u64 (l1 (n)), .int .u64 (l2 (n)), .int .u64 (l3 (n)), .int .i64 (s0)]) rfl rfl (run_row Q1 26 0 6 [.bool b, .int .u64 (l0 (n)), .int .u64 (l1 (n)), .int .u64 (l2 (n)), .int .u64 (l3 (n)), .int .i64 (s0)] rfl Tryd.underlying26 rfl sz26) (hK _ (Mw.refl _))))
    · exact og_eq (.string ⟨#[63]⟩) rfl (fun f wf hq hd K hK => go_run (wnt_g rfl rfl rfl (hd 1 rfl) rfl) (wo_call 9 [(.tmp 5)] _ [.agg #[.bool b, .int .u64 (l0 (n)), .int .u64 (l1 (n)), .int .u64 (l2 (n)), .int .u64 (l3 (n)), .int .i64 (s0)]] (.string ⟨#[63]⟩) rfl (li1 (hd 2 rfl)) (fun _ _ => by kernel_rfl) (text_no b n s0 _ hn0 hnM hck) hK))
    · exact og_eq (.agg #[.bool b, .int .u64 (l0 (n)), .int .u64 (l1 (n)), .int .u64 (l2 (n)), .int .u64 (l3 (n)), .int .i64 (s0)]) rfl (fun f wf hq hd K hK => have Q1 := Q1.mo hq; go_run (wnt_g rfl rfl rfl (hd 1 rfl) rfl) (wo_load 26 (.tmp 1) (pt k1 0) (.agg #[.bool b, .int .u64 (l0 (n)), .int .u64 (l1 (n)), .int .u64 (l2 (n)), .int .u64 (l3 (n)), .int .i64 (s0)]) rfl rfl (run_row Q1 26 0 6 [.bool b, .int .u64 (l0 (n)), .int .u64 (l1 (n)), .int .u64 (l2 (n)), .int .u64 (l3 (n)), .int .i64 (s0)] rfl Tryd.underlying26 rfl sz26) (hK _ (Mw.refl _))))
    · exact og_eq (.string ⟨#[63]⟩) rfl (fun f wf hq hd K hK => go_run (wnt_g rfl rfl rfl (hd 1 rfl) rfl) (wo_call 10 [(.tmp 7)] _ [.agg #[.bool b, .int .u64 (l0 (n)), .int .u64 (l1 (n)), .int .u64 (l2 (n)), .int .u64 (l3 (n)), .int .i64 (s0)]] (.string ⟨#[63]⟩) rfl (li1 (hd 4 rfl)) (fun _ _ => by kernel_rfl) (wk (rtx_no b n s0 _ hn0 hnM hck)) hK))
    · exact og_eq (.bool true) rfl (fun f wf hq hd K hK => go_run (wnt_g rfl rfl rfl (hd 1 rfl) rfl) (wo_bin (fun x y => do eqGuard .eql 9 (.tmp 6) (.tmp 8) x y; binOp .eql 9 x y) (.tmp 6) (.tmp 8) (.string ⟨#[63]⟩) (.string ⟨#[63]⟩) (.bool true) (fun _ => rfl) (hd 3 rfl) (hd 5 rfl) (eqS_run _ _ _ _) (hK _ (Mw.refl _))))
    · exact og_eq (.bool true) rfl (fun f wf hq hd K hK => go_run rfl (wo_pick (.tmp 4) (.tmp 9) (.const (.bool false)) true (.bool true) (fun _ => rfl) (hd 1 rfl) (hd 6 rfl) (hK _ (Mw.refl _))))
    · exact og_eq (.bool true) rfl (fun f wf hq hd K hK => go_run rfl (wo_mv (.tmp 10) (.bool true) (fun _ => rfl) (hd 7 rfl) (hK _ (Mw.refl _))))
    · exact og_eq (.agg #[.bool b, .int .u64 (l0 (n)), .int .u64 (l1 (n)), .int .u64 (l2 (n)), .int .u64 (l3 (n)), .int .i64 (s0)]) rfl (fun f wf hq hd K hK => have Q1 := Q1.mo hq; go_run (wnt_g rfl rfl rfl (hd 8 rfl) rfl) (wo_load 26 (.tmp 1) (pt k1 0) (.agg #[.bool b, .int .u64 (l0 (n)), .int .u64 (l1 (n)), .int .u64 (l2 (n)), .int .u64 (l3 (n)), .int .i64 (s0)]) rfl rfl (run_row Q1 26 0 6 [.bool b, .int .u64 (l0 (n)), .int .u64 (l1 (n)), .int .u64 (l2 (n)), .int .u64 (l3 (n)), .int .i64 (s0)] rfl Tryd.underlying26 rfl sz26) (hK _ (Mw.refl _))))
    · exact og_eq (.string ⟨#[63]⟩) rfl (fun f wf hq hd K hK => go_run (wnt_g rfl rfl rfl (hd 8 rfl) rfl) (wo_call 11 [(.tmp 12)] _ [.agg #[.bool b, .int .u64 (l0 (n)), .int .u64 (l1 (n)), .int .u64 (l2 (n)), .int .u64 (l3 (n)), .int .i64 (s0)]] (.string ⟨#[63]⟩) rfl (li1 (hd 9 rfl)) (fun _ _ => by kernel_rfl) (short_no b n s0 _ hn0 hnM hck) hK))
    · exact og_eq (.agg #[.bool b, .int .u64 (l0 (n)), .int .u64 (l1 (n)), .int .u64 (l2 (n)), .int .u64 (l3 (n)), .int .i64 (s0)]) rfl (fun f wf hq hd K hK => have Q1 := Q1.mo hq; go_run (wnt_g rfl rfl rfl (hd 8 rfl) rfl) (wo_load 26 (.tmp 1) (pt k1 0) (.agg #[.bool b, .int .u64 (l0 (n)), .int .u64 (l1 (n)), .int .u64 (l2 (n)), .int .u64 (l3 (n)), .int .i64 (s0)]) rfl rfl (run_row Q1 26 0 6 [.bool b, .int .u64 (l0 (n)), .int .u64 (l1 (n)), .int .u64 (l2 (n)), .int .u64 (l3 (n)), .int .i64 (s0)] rfl Tryd.underlying26 rfl sz26) (hK _ (Mw.refl _))))
  intro kf2 w2 hq hR hne
  replace Q1 := Q1.mo hq
  replace M := M.trans hq
  clear hq hR hne
  refine wl_call 12 [(.tmp 14)] _ [.agg #[.bool b, .int .u64 (l0 (n)), .int .u64 (l1 (n)), .int .u64 (l2 (n)), .int .u64 (l3 (n)), .int .i64 (s0)]] (.string ⟨#[63]⟩) rfl rfl (fun _ _ => by kernel_rfl) (wk (rsh_no b n s0 _ hn0 hnM hck)) rfl ?_
  intro w3 hq
  replace Q1 := Q1.mo hq
  replace M := M.trans hq
  clear hq
  refine wl_bin (fun x y => do eqGuard .eql 9 (.tmp 13) (.tmp 15) x y; binOp .eql 9 x y) (.tmp 13) (.tmp 15) (.string ⟨#[63]⟩) (.string ⟨#[63]⟩) (.bool true) (fun _ => rfl) rfl rfl (eqS_run _ _ _ _) rfl ?_
  refine wl_pick (.tmp 11) (.tmp 16) (.const (.bool false)) true (.bool true) (fun _ => rfl) rfl rfl rfl ?_
  refine wl_mv (.tmp 17) (.bool true) (fun _ => rfl) rfl rfl ?_
  refine w_nil ?_
  refine xn_then ?_
  refine w_ret ?_
  exact w_ret1 _ (.bool true) rfl rfl ⟨rfl, M⟩
theorem dtexts_n (b : Bool) (n s0 : Int) (w : World) (hn0 : 0 ≤ n) (hnM : n < MM) : Calls Tryd.prog 3 #[dc b n s0] w fun e w' => e = .returned (.bool true) ∧ Mw w w' := by
  by_cases h : ck b n s0 = 0
  · have h2 : 0 ≤ s0 ∧ s0 ≤ 18 := by
      by_cases q : sc s0 = true
      · exact sc_iff.1 q
      · exfalso
        have q' : sc s0 = false := by simpa using q
        unfold ck at h
        rw [q'] at h
        simp at h
    obtain ⟨k, rfl⟩ : ∃ k : Nat, s0 = (k : Int) := ⟨s0.toNat, by omega⟩
    exact dtexts_ok b n k w hn0 hnM (by omega) h
  · exact dtexts_no b n s0 w hn0 hnM h
end Go.Proofs.YtdcojpbgijkmgaaDoor.V
/-
  An array of four limbs that came in: how it is opened and shut.
-/
namespace Go.Proofs.YtdcojpbgijkmgaaDoor
open Go.ChangeShapes Go.WideShapes Go.ChangeAt Go.RowKit
theorem Tryd.own : ownKnob Tryd.prog.godebug = none := by kernel_rfl
theorem Tryd.cl22 : Tryd.prog.cellsOf 22 = 1 := by kernel_rfl
theorem Tryd.cl24 : Tryd.prog.cellsOf 24 = 4 := by kernel_rfl
theorem wf_u1 {x : Int} (h : (Lit.int .u64 x).wf = true) : U1 x := by
  simp [Lit.wf, IntKind.min, IntKind.max, IntKind.signed, IntKind.bits] at h
  exact ⟨by omega, by omega⟩
set_option maxRecDepth 100000 in
theorem open_nat {H : Type} {enc : TypeId × Value → H} {W : World} {base : Nat} {v : Value} {d : DataW H} {p : List MemPlace} (hv : Value.okWide Tryd.prog W .any base 24 v) (h : DataW.Trod enc Tryd.prog W 0 (fun _ => true) true 24 v d p) :
    ∃ x0 x1 x2 x3 : Int, v = .agg #[.int .u64 x0, .int .u64 x1, .int .u64 x2, .int .u64 x3] ∧ d = .agg [.lit (.int .u64 x0), .lit (.int .u64 x1), .lit (.int .u64 x2), .lit (.int .u64 x3)] ∧ p = [] ∧ U4 x0 x1 x2 x3 ∧
      ∀ (W' : World) (sp : Nat → Bool), DataW.Trod enc Tryd.prog W' 0 sp true 24 v d [] := by
  obtain ⟨cs, rfl, hsz, _⟩ : ∃ cs, v = .agg cs ∧ cs.size = Tryd.prog.cellsOf 24 ∧ Row.okWide Tryd.prog W .any base 24 cs := by
    simpa [Value.okWide, Tryd.underlying24] using hv
  rw [Tryd.cl24] at hsz
  obtain ⟨c0, c1, c2, c3, rfl⟩ := Go.Joins.array4 hsz
  obtain ⟨fuel, hf⟩ := h
  obtain ⟨xs, m, rfl, hx, _, hn, hi⟩ := DataW.trod_array Tryd.underlying24 hf
  have i0 := hi 0 (by decide)
  have i1 := hi 1 (by decide)
  have i2 := hi 2 (by decide)
  have i3 := hi 3 (by decide)
  simp only [Tryd.cl22, Value.cells] at i0 i1 i2 i3
  obtain ⟨y0, y1, y2, y3, rfl⟩ : ∃ y0 y1 y2 y3, xs = [y0, y1, y2, y3] := by
    match xs, hn with
    | [a, b, c, d], _ => exact ⟨a, b, c, d, rfl⟩
  simp at i0 i1 i2 i3
  obtain ⟨x0, e0, rfl, w0⟩ := DataW.trod_int Tryd.underlying22 i0
  obtain ⟨x1, e1, rfl, w1⟩ := DataW.trod_int Tryd.underlying22 i1
  obtain ⟨x2, e2, rfl, w2⟩ := DataW.trod_int Tryd.underlying22 i2
  obtain ⟨x3, e3, rfl, w3⟩ := DataW.trod_int Tryd.underlying22 i3
  simp at e0 e1 e2 e3
  subst e0 e1 e2 e3
  simp at hx
  obtain ⟨rfl, rfl⟩ := hx
  refine ⟨x0, x1, x2, x3, rfl, rfl, rfl, ⟨wf_u1 w0, wf_u1 w1, wf_u1 w2, wf_u1 w3⟩, fun W' sp => ⟨2, ?_⟩⟩
  simp [DataW.trod, Value.cells, Tryd.underlying24, Tryd.underlying22, Tryd.cl24, Tryd.cl22, w0, w1, w2, w3, show List.range 4 = [0, 1, 2, 3] from rfl]
end Go.Proofs.YtdcojpbgijkmgaaDoor
