/-
  For every two numbers exciselaw03.DectextApart returns true, and its arguments read behind the call as they read before; the two tables of unicode/utf8 lie as the program's text lays them.
-/
import Derived.Test.YtdcojpbgijkmgaaDoorRows
import Derived.Test.YtdcojpbgijkmgaaDoorNum
import Derived.ProofKit
import Derived.OpenShut
import Derived.Lib.SmallJoins
import Derived.ChangeSame
import Derived.Test.YtdcojpbgijkmgaaDoorDec0
import Derived.Carry
import Derived.ChangeMaps5
import Derived.ChangeVars
import Derived.JoinedOf
import Derived.RowKitTokens
import Derived.LaidLaws
import Derived.LaidHandle
import Derived.Stop.Joined
import Derived.Lib.LaidIn
import Derived.Test.YtdcojpbgijkmgaaDoorCards
import Derived.Test.YtdcojpbgijkmgaaDoorTie
import Derived.SevenTiedAt
import Derived.Test.YtdcojpbgijkmgaaDoorU4
/-
  exciselaw03.DectextApart, as far as its walk.
-/
namespace Go.Proofs.YtdcojpbgijkmgaaDoor.V
open Go.RowKit Go.Lib
theorem eqs_run {l l2 : List UInt8} {r : Bool} (h : (l == l2) = r) (x y : Operand) (w : World) : (do eqGuard .eql 9 x y (tx l) (tx l2); binOp .eql 9 (tx l) (tx l2)).run Tryd.prog w = .ok (.bool r) w := by
  subst h
  have e1 : (⟨l.toArray⟩ : ByteArray).toList = l := by rw [ByteArray.toList_eq]
  have e2 : (⟨l2.toArray⟩ : ByteArray).toList = l2 := by rw [ByteArray.toList_eq]
  rw [← e1, ← e2]
  unfold tx
  rw [e1, e2]
  generalize ha : (⟨l.toArray⟩ : ByteArray) = s at *
  generalize hb : (⟨l2.toArray⟩ : ByteArray) = s2 at *
  simp [go_sem, e1, e2]
theorem eqb_run (r : Bool) (x y : Operand) (w : World) : (do eqGuard .eql 4 x y (.bool r) (.bool r); binOp .eql 4 (.bool r) (.bool r)).run Tryd.prog w = .ok (.bool true) w := by
  cases r <;> kernel_rfl
theorem dapart_no1 (b c : Bool) (n m s0 t0 : Int) (w : World) (hn0 : 0 ≤ n) (hnM : n < MM) (h1 : ck b n s0 ≠ 0) : Calls Tryd.prog 7 #[dc b n s0, dc c m t0] w fun e w' => e = .returned (.bool true) ∧ Mw w w' := by
  refine w_enter 39 Tryd.func7 Tryd.ntmps7 rfl rfl ?_
  have M : Mw w w := Mw.refl _
  refine w_seq ?_
  refine w_reg ?_
  refine wl_box 26 (.tmp 0) (.agg #[.bool b, .int .u64 (l0 (n)), .int .u64 (l1 (n)), .int .u64 (l2 (n)), .int .u64 (l3 (n)), .int .i64 (s0)]) (#[.bool b, .int .u64 (l0 (n)), .int .u64 (l1 (n)), .int .u64 (l2 (n)), .int .u64 (l3 (n)), .int .i64 (s0)]) rfl rfl (fun _ => by kernel_rfl) rfl ?_
  intro k1 w1 hk hz hq Q1
  have N_k1 : w.heap.size ≤ k1 := by have := M.size; omega
  replace M := M.trans hq
  clear hk hz hq
  refine wl_box 26 (.tmp 1) (.agg #[.bool c, .int .u64 (l0 (m)), .int .u64 (l1 (m)), .int .u64 (l2 (m)), .int .u64 (l3 (m)), .int .i64 (t0)]) (#[.bool c, .int .u64 (l0 (m)), .int .u64 (l1 (m)), .int .u64 (l2 (m)), .int .u64 (l3 (m)), .int .i64 (t0)]) rfl rfl (fun _ => by kernel_rfl) rfl ?_
  intro k2 w2 hk hz hq Q2
  have ne_k1_k2 : k1 ≠ k2 := by have := Q1.lt; omega
  have N_k2 : w.heap.size ≤ k2 := by have := M.size; omega
  replace Q1 := Q1.mo hq
  replace M := M.trans hq
  clear hk hz hq
  refine wl_mv (.const (.bool false)) (.bool false) (fun _ => rfl) rfl rfl ?_
  refine w_nil ?_
  refine xn_then ?_
  refine w_seq ?_
  refine w_seq ?_
  refine w_reg ?_
  refine wl_load 26 (.tmp 2) (pt k1 0) (.agg #[.bool b, .int .u64 (l0 (n)), .int .u64 (l1 (n)), .int .u64 (l2 (n)), .int .u64 (l3 (n)), .int .i64 (s0)]) rfl rfl (run_row Q1 26 0 6 [.bool b, .int .u64 (l0 (n)), .int .u64 (l1 (n)), .int .u64 (l2 (n)), .int .u64 (l3 (n)), .int .i64 (s0)] rfl Tryd.underlying26 rfl sz26) rfl ?_
  refine wl_call 19 [(.tmp 5)] _ [.agg #[.bool b, .int .u64 (l0 (n)), .int .u64 (l1 (n)), .int .u64 (l2 (n)), .int .u64 (l3 (n)), .int .i64 (s0)]] (.int .i64 (20)) rfl rfl (fun _ _ => by kernel_rfl) (wk (rcheck_no b n s0 _ hn0 hnM h1)) rfl ?_
  intro w3 hq
  replace Q1 := Q1.mo hq
  replace Q2 := Q2.mo hq
  replace M := M.trans hq
  clear hq
  refine wl_bin (fun x y => do eqGuard .neq 30 (.tmp 6) (.const (.int .i64 (0))) x y; binOp .neq 30 x y) (.tmp 6) (.const (.int .i64 (0))) (.int .i64 (20)) (.int .i64 (0)) (.bool true) (fun _ => rfl) rfl rfl (neE (r := false) rfl _ _ _) rfl ?_
  refine wl_mv (.tmp 7) (.bool true) (fun _ => rfl) rfl rfl ?_
  refine wl_skip rfl ?_
  refine wl_skip rfl ?_
  refine wl_skip rfl ?_
  refine wl_pick (.tmp 8) (.const (.bool true)) (.tmp 11) true (.bool true) (fun _ => rfl) rfl rfl rfl ?_
  refine wl_mv (.tmp 12) (.bool true) (fun _ => rfl) rfl rfl ?_
  refine wl_skip rfl ?_
  refine wl_skip rfl ?_
  refine wl_pick (.tmp 13) (.const (.bool true)) (.tmp 15) true (.bool true) (fun _ => rfl) rfl rfl rfl ?_
  refine w_nil ?_
  refine xn_then ?_
  refine w_condT rfl ?_
  refine w_seq ?_
  refine w_reg ?_
  refine wl_call 8 [] _ [] (.bool true) rfl rfl (fun _ _ => by kernel_rfl) (live_n _) rfl ?_
  intro w4 hq
  replace Q1 := Q1.mo hq
  replace Q2 := Q2.mo hq
  replace M := M.trans hq
  clear hq
  refine wl_mv (.tmp 17) (.bool true) (fun _ => rfl) rfl rfl ?_
  refine w_nil ?_
  refine xn_then ?_
  refine w_ret ?_
  refine xr_then ?_
  exact w_ret1 _ (.bool true) rfl rfl ⟨rfl, M⟩
theorem dapart_no2 (b c : Bool) (n m s0 t0 : Int) (w : World) (hn0 : 0 ≤ n) (hnM : n < MM) (hm0 : 0 ≤ m) (hmM : m < MM) (h1 : ck b n s0 = 0) (h2 : ck c m t0 ≠ 0) : Calls Tryd.prog 7 #[dc b n s0, dc c m t0] w fun e w' => e = .returned (.bool true) ∧ Mw w w' := by
  refine w_enter 39 Tryd.func7 Tryd.ntmps7 rfl rfl ?_
  have M : Mw w w := Mw.refl _
  refine w_seq ?_
  refine w_reg ?_
  refine wl_box 26 (.tmp 0) (.agg #[.bool b, .int .u64 (l0 (n)), .int .u64 (l1 (n)), .int .u64 (l2 (n)), .int .u64 (l3 (n)), .int .i64 (s0)]) (#[.bool b, .int .u64 (l0 (n)), .int .u64 (l1 (n)), .int .u64 (l2 (n)), .int .u64 (l3 (n)), .int .i64 (s0)]) rfl rfl (fun _ => by kernel_rfl) rfl ?_
  intro k1 w1 hk hz hq Q1
  have N_k1 : w.heap.size ≤ k1 := by have := M.size; omega
  replace M := M.trans hq
  clear hk hz hq
  refine wl_box 26 (.tmp 1) (.agg #[.bool c, .int .u64 (l0 (m)), .int .u64 (l1 (m)), .int .u64 (l2 (m)), .int .u64 (l3 (m)), .int .i64 (t0)]) (#[.bool c, .int .u64 (l0 (m)), .int .u64 (l1 (m)), .int .u64 (l2 (m)), .int .u64 (l3 (m)), .int .i64 (t0)]) rfl rfl (fun _ => by kernel_rfl) rfl ?_
  intro k2 w2 hk hz hq Q2
  have ne_k1_k2 : k1 ≠ k2 := by have := Q1.lt; omega
  have N_k2 : w.heap.size ≤ k2 := by have := M.size; omega
  replace Q1 := Q1.mo hq
  replace M := M.trans hq
  clear hk hz hq
  refine wl_mv (.const (.bool false)) (.bool false) (fun _ => rfl) rfl rfl ?_
  refine w_nil ?_
  refine xn_then ?_
  refine w_seq ?_
  refine w_seq ?_
  refine w_reg ?_
  refine wl_load 26 (.tmp 2) (pt k1 0) (.agg #[.bool b, .int .u64 (l0 (n)), .int .u64 (l1 (n)), .int .u64 (l2 (n)), .int .u64 (l3 (n)), .int .i64 (s0)]) rfl rfl (run_row Q1 26 0 6 [.bool b, .int .u64 (l0 (n)), .int .u64 (l1 (n)), .int .u64 (l2 (n)), .int .u64 (l3 (n)), .int .i64 (s0)] rfl Tryd.underlying26 rfl sz26) rfl ?_
  refine wl_call 19 [(.tmp 5)] _ [.agg #[.bool b, .int .u64 (l0 (n)), .int .u64 (l1 (n)), .int .u64 (l2 (n)), .int .u64 (l3 (n)), .int .i64 (s0)]] (.int .i64 (0)) rfl rfl (fun _ _ => by kernel_rfl) (wk (rcheck_ok b n s0 _ hn0 hnM h1)) rfl ?_
  intro w3 hq
  replace Q1 := Q1.mo hq
  replace Q2 := Q2.mo hq
  replace M := M.trans hq
  clear hq
  refine wl_bin (fun x y => do eqGuard .neq 30 (.tmp 6) (.const (.int .i64 (0))) x y; binOp .neq 30 x y) (.tmp 6) (.const (.int .i64 (0))) (.int .i64 (0)) (.int .i64 (0)) (.bool false) (fun _ => rfl) rfl rfl (neE (r := true) rfl _ _ _) rfl ?_
  refine wl_mv (.tmp 7) (.bool false) (fun _ => rfl) rfl rfl ?_
  refine wl_load 26 (.tmp 3) (pt k2 0) (.agg #[.bool c, .int .u64 (l0 (m)), .int .u64 (l1 (m)), .int .u64 (l2 (m)), .int .u64 (l3 (m)), .int .i64 (t0)]) rfl rfl (run_row Q2 26 0 6 [.bool c, .int .u64 (l0 (m)), .int .u64 (l1 (m)), .int .u64 (l2 (m)), .int .u64 (l3 (m)), .int .i64 (t0)] rfl Tryd.underlying26 rfl sz26) rfl ?_
  refine wl_call 19 [(.tmp 9)] _ [.agg #[.bool c, .int .u64 (l0 (m)), .int .u64 (l1 (m)), .int .u64 (l2 (m)), .int .u64 (l3 (m)), .int .i64 (t0)]] (.int .i64 (20)) rfl rfl (fun _ _ => by kernel_rfl) (wk (rcheck_no c m t0 _ hm0 hmM h2)) rfl ?_
  intro w4 hq
  replace Q1 := Q1.mo hq
  replace Q2 := Q2.mo hq
  replace M := M.trans hq
  clear hq
  refine wl_bin (fun x y => do eqGuard .neq 30 (.tmp 10) (.const (.int .i64 (0))) x y; binOp .neq 30 x y) (.tmp 10) (.const (.int .i64 (0))) (.int .i64 (20)) (.int .i64 (0)) (.bool true) (fun _ => rfl) rfl rfl (neE (r := false) rfl _ _ _) rfl ?_
  refine wl_pick (.tmp 8) (.const (.bool true)) (.tmp 11) false (.bool true) (fun _ => rfl) rfl rfl rfl ?_
  refine wl_mv (.tmp 12) (.bool true) (fun _ => rfl) rfl rfl ?_
  refine wl_skip rfl ?_
  refine wl_skip rfl ?_
  refine wl_pick (.tmp 13) (.const (.bool true)) (.tmp 15) true (.bool true) (fun _ => rfl) rfl rfl rfl ?_
  refine w_nil ?_
  refine xn_then ?_
  refine w_condT rfl ?_
  refine w_seq ?_
  refine w_reg ?_
  refine wl_call 8 [] _ [] (.bool true) rfl rfl (fun _ _ => by kernel_rfl) (live_n _) rfl ?_
  intro w5 hq
  replace Q1 := Q1.mo hq
  replace Q2 := Q2.mo hq
  replace M := M.trans hq
  clear hq
  refine wl_mv (.tmp 17) (.bool true) (fun _ => rfl) rfl rfl ?_
  refine w_nil ?_
  refine xn_then ?_
  refine w_ret ?_
  refine xr_then ?_
  exact w_ret1 _ (.bool true) rfl rfl ⟨rfl, M⟩
theorem dapart_ok (b c : Bool) (n m : Int) (k j : Nat) (w : World) (hn0 : 0 ≤ n) (hnM : n < MM) (hm0 : 0 ≤ m) (hmM : m < MM) (hk : k ≤ 18) (hj : j ≤ 18) (h1 : ck b n (k : Int) = 0) (h2 : ck c m (j : Int) = 0) (r q : Bool) (z : Int)
    (hT : (txt b n k == txt c m j) = r) (hE : (b == c && (l0 n == l0 m && (l1 n == l1 m && (l2 n == l2 m && (l3 n == l3 m && (k : Int) == (j : Int)))))) = r)
    (hS : (txt b (trN k n).1 (trN k n).2 == txt c (trN j m).1 (trN j m).2) = q) (hz : (z == 0) = q)
    (hC : ∀ w, Calls Tryd.prog 20 #[dc b n (k : Int), dc c m (j : Int)] w fun e w' => e = .returned (.int .i64 z) ∧ Mw w w') : Calls Tryd.prog 7 #[dc b n (k : Int), dc c m (j : Int)] w fun e w' => e = .returned (.bool true) ∧ Mw w w' := by
  refine w_enter 39 Tryd.func7 Tryd.ntmps7 rfl rfl ?_
  have M : Mw w w := Mw.refl _
  refine w_seq ?_
  refine w_reg ?_
  refine wl_box 26 (.tmp 0) (.agg #[.bool b, .int .u64 (l0 (n)), .int .u64 (l1 (n)), .int .u64 (l2 (n)), .int .u64 (l3 (n)), .int .i64 ((k : Int))]) (#[.bool b, .int .u64 (l0 (n)), .int .u64 (l1 (n)), .int .u64 (l2 (n)), .int .u64 (l3 (n)), .int .i64 ((k : Int))]) rfl rfl (fun _ => by kernel_rfl) rfl ?_
  intro k1 w1 hk hz hq Q1
  have N_k1 : w.heap.size ≤ k1 := by have := M.size; omega
  replace M := M.trans hq
  clear hk hz hq
  refine wl_box 26 (.tmp 1) (.agg #[.bool c, .int .u64 (l0 (m)), .int .u64 (l1 (m)), .int .u64 (l2 (m)), .int .u64 (l3 (m)), .int .i64 ((j : Int))]) (#[.bool c, .int .u64 (l0 (m)), .int .u64 (l1 (m)), .int .u64 (l2 (m)), .int .u64 (l3 (m)), .int .i64 ((j : Int))]) rfl rfl (fun _ => by kernel_rfl) rfl ?_
  intro k2 w2 hk hz hq Q2
  have ne_k1_k2 : k1 ≠ k2 := by have := Q1.lt; omega
  have N_k2 : w.heap.size ≤ k2 := by have := M.size; omega
  replace Q1 := Q1.mo hq
  replace M := M.trans hq
  clear hk hz hq
  refine wl_mv (.const (.bool false)) (.bool false) (fun _ => rfl) rfl rfl ?_
  refine w_nil ?_
  refine xn_then ?_
  refine w_seq ?_
  refine w_seq ?_
  refine w_reg ?_
  refine wl_load 26 (.tmp 2) (pt k1 0) (.agg #[.bool b, .int .u64 (l0 (n)), .int .u64 (l1 (n)), .int .u64 (l2 (n)), .int .u64 (l3 (n)), .int .i64 ((k : Int))]) rfl rfl (run_row Q1 26 0 6 [.bool b, .int .u64 (l0 (n)), .int .u64 (l1 (n)), .int .u64 (l2 (n)), .int .u64 (l3 (n)), .int .i64 ((k : Int))] rfl Tryd.underlying26 rfl sz26) rfl ?_
  refine wl_call 19 [(.tmp 5)] _ [.agg #[.bool b, .int .u64 (l0 (n)), .int .u64 (l1 (n)), .int .u64 (l2 (n)), .int .u64 (l3 (n)), .int .i64 ((k : Int))]] (.int .i64 (0)) rfl rfl (fun _ _ => by kernel_rfl) (wk (rcheck_ok b n (k : Int) _ hn0 hnM h1)) rfl ?_
  intro w3 hq
  replace Q1 := Q1.mo hq
  replace Q2 := Q2.mo hq
  replace M := M.trans hq
  clear hq
  refine wl_bin (fun x y => do eqGuard .neq 30 (.tmp 6) (.const (.int .i64 (0))) x y; binOp .neq 30 x y) (.tmp 6) (.const (.int .i64 (0))) (.int .i64 (0)) (.int .i64 (0)) (.bool false) (fun _ => rfl) rfl rfl (neE (r := true) rfl _ _ _) rfl ?_
  refine wl_mv (.tmp 7) (.bool false) (fun _ => rfl) rfl rfl ?_
  refine wl_load 26 (.tmp 3) (pt k2 0) (.agg #[.bool c, .int .u64 (l0 (m)), .int .u64 (l1 (m)), .int .u64 (l2 (m)), .int .u64 (l3 (m)), .int .i64 ((j : Int))]) rfl rfl (run_row Q2 26 0 6 [.bool c, .int .u64 (l0 (m)), .int .u64 (l1 (m)), .int .u64 (l2 (m)), .int .u64 (l3 (m)), .int .i64 ((j : Int))] rfl Tryd.underlying26 rfl sz26) rfl ?_
  refine wl_call 19 [(.tmp 9)] _ [.agg #[.bool c, .int .u64 (l0 (m)), .int .u64 (l1 (m)), .int .u64 (l2 (m)), .int .u64 (l3 (m)), .int .i64 ((j : Int))]] (.int .i64 (0)) rfl rfl (fun _ _ => by kernel_rfl) (wk (rcheck_ok c m (j : Int) _ hm0 hmM h2)) rfl ?_
  intro w4 hq
  replace Q1 := Q1.mo hq
  replace Q2 := Q2.mo hq
  replace M := M.trans hq
  clear hq
  refine wl_bin (fun x y => do eqGuard .neq 30 (.tmp 10) (.const (.int .i64 (0))) x y; binOp .neq 30 x y) (.tmp 10) (.const (.int .i64 (0))) (.int .i64 (0)) (.int .i64 (0)) (.bool false) (fun _ => rfl) rfl rfl (neE (r := true) rfl _ _ _) rfl ?_
  refine wl_pick (.tmp 8) (.const (.bool true)) (.tmp 11) false (.bool false) (fun _ => rfl) rfl rfl rfl ?_
  refine wl_mv (.tmp 12) (.bool false) (fun _ => rfl) rfl rfl ?_
  refine wl_call 8 [] _ [] (.bool true) rfl rfl (fun _ _ => by kernel_rfl) (live_n _) rfl ?_
  intro w5 hq
  replace Q1 := Q1.mo hq
  replace Q2 := Q2.mo hq
  replace M := M.trans hq
  clear hq
  refine wl_un (fun v => Op.unary .not v) (.tmp 14) (.bool true) (.bool false) (fun _ => rfl) rfl (by kernel_rfl) rfl ?_
  refine wl_pick (.tmp 13) (.const (.bool true)) (.tmp 15) false (.bool false) (fun _ => rfl) rfl rfl rfl ?_
  refine w_nil ?_
  refine xn_then ?_
  refine w_condF rfl ?_
  refine w_skip ?_
  refine xn_then ?_
  refine w_seq ?_
  refine w_any 19 [.inl (.agg #[.bool b, .int .u64 (l0 (n)), .int .u64 (l1 (n)), .int .u64 (l2 (n)), .int .u64 (l3 (n)), .int .i64 ((k : Int))]), .inl (tx (txt b n k)), .inl (.agg #[.bool c, .int .u64 (l0 (m)), .int .u64 (l1 (m)), .int .u64 (l2 (m)), .int .u64 (l3 (m)), .int .i64 ((j : Int))]), .inl (tx (txt c m j)), .inl (.bool (r)), .inl (.agg #[.bool b, .int .u64 (l0 (n)), .int .u64 (l1 (n)), .int .u64 (l2 (n)), .int .u64 (l3 (n)), .int .i64 ((k : Int))]), .inl (.agg #[.bool c, .int .u64 (l0 (m)), .int .u64 (l1 (m)), .int .u64 (l2 (m)), .int .u64 (l3 (m)), .int .i64 ((j : Int))]), .inl (.bool (r)), .inl (.bool true), .inl (.bool true), .inl (.agg #[.bool b, .int .u64 (l0 (n)), .int .u64 (l1 (n)), .int .u64 (l2 (n)), .int .u64 (l3 (n)), .int .i64 ((k : Int))]), .inl (tx (txt b (trN k n).1 (trN k n).2)), .inl (.agg #[.bool c, .int .u64 (l0 (m)), .int .u64 (l1 (m)), .int .u64 (l2 (m)), .int .u64 (l3 (m)), .int .i64 ((j : Int))]), .inl (tx (txt c (trN j m).1 (trN j m).2)), .inl (.bool (q)), .inl (.agg #[.bool b, .int .u64 (l0 (n)), .int .u64 (l1 (n)), .int .u64 (l2 (n)), .int .u64 (l3 (n)), .int .i64 ((k : Int))]), .inl (.agg #[.bool c, .int .u64 (l0 (m)), .int .u64 (l1 (m)), .int .u64 (l2 (m)), .int .u64 (l3 (m)), .int .i64 ((j : Int))]), .inl (.int .i64 (z)), .inl (.bool (q))] [] (by kernel_rfl) (by kernel_rfl) (by kernel_rfl) (by kernel_rfl) rfl (by kernel_rfl) (by kernel_rfl) late_nil ?_ ?_ ?_
  · exact Ds.none rfl
  · refine ea_cons ?_ (ea_cons ?_ (ea_cons ?_ (ea_cons ?_ (ea_cons ?_ (ea_cons ?_ (ea_cons ?_ (ea_cons ?_ (ea_cons ?_ (ea_cons ?_ (ea_cons ?_ (ea_cons ?_ (ea_cons ?_ (ea_cons ?_ (ea_cons ?_ (ea_cons ?_ (ea_cons ?_ (ea_cons ?_ (ea_cons ?_ (ea_nil)))))))))))))))))))
    · exact og_eq (.agg #[.bool b, .int .u64 (l0 (n)), .int .u64 (l1 (n)), .int .u64 (l2 (n)), .int .u64 (l3 (n)), .int .i64 ((k : Int))]) rfl (fun f wf hq hd K hK => have Q1 := Q1.mo hq; go_run rfl (wo_load 26 (.tmp 2) (pt k1 0) (.agg #[.bool b, .int .u64 (l0 (n)), .int .u64 (l1 (n)), .int .u64 (l2 (n)), .int .u64 (l3 (n)), .int .i64 ((k : Int))]) rfl rfl (run_row Q1 26 0 6 [.bool b, .int .u64 (l0 (n)), .int .u64 (l1 (n)), .int .u64 (l2 (n)), .int .u64 (l3 (n)), .int .i64 ((k : Int))] rfl Tryd.underlying26 rfl sz26) (hK _ (Mw.refl _))))
    · exact og_eq (tx (txt b n k)) rfl (fun f wf hq hd K hK => go_run rfl (wo_call 9 [(.tmp 18)] _ [.agg #[.bool b, .int .u64 (l0 (n)), .int .u64 (l1 (n)), .int .u64 (l2 (n)), .int .u64 (l3 (n)), .int .i64 ((k : Int))]] (tx (txt b n k)) rfl (li1 (hd 0 rfl)) (fun _ _ => by kernel_rfl) (text_ok b n k _ hn0 hnM hk h1) hK))
    · exact og_eq (.agg #[.bool c, .int .u64 (l0 (m)), .int .u64 (l1 (m)), .int .u64 (l2 (m)), .int .u64 (l3 (m)), .int .i64 ((j : Int))]) rfl (fun f wf hq hd K hK => have Q2 := Q2.mo hq; go_run rfl (wo_load 26 (.tmp 3) (pt k2 0) (.agg #[.bool c, .int .u64 (l0 (m)), .int .u64 (l1 (m)), .int .u64 (l2 (m)), .int .u64 (l3 (m)), .int .i64 ((j : Int))]) rfl rfl (run_row Q2 26 0 6 [.bool c, .int .u64 (l0 (m)), .int .u64 (l1 (m)), .int .u64 (l2 (m)), .int .u64 (l3 (m)), .int .i64 ((j : Int))] rfl Tryd.underlying26 rfl sz26) (hK _ (Mw.refl _))))
    · exact og_eq (tx (txt c m j)) rfl (fun f wf hq hd K hK => go_run rfl (wo_call 9 [(.tmp 20)] _ [.agg #[.bool c, .int .u64 (l0 (m)), .int .u64 (l1 (m)), .int .u64 (l2 (m)), .int .u64 (l3 (m)), .int .i64 ((j : Int))]] (tx (txt c m j)) rfl (li1 (hd 2 rfl)) (fun _ _ => by kernel_rfl) (text_ok c m j _ hm0 hmM hj h2) hK))
    · exact og_eq (.bool (r)) rfl (fun f wf hq hd K hK => go_run rfl (wo_bin (fun x y => do eqGuard .eql 9 (.tmp 19) (.tmp 21) x y; binOp .eql 9 x y) (.tmp 19) (.tmp 21) (tx (txt b n k)) (tx (txt c m j)) (.bool (r)) (fun _ => rfl) (hd 1 rfl) (hd 3 rfl) (eqs_run hT _ _ _) (hK _ (Mw.refl _))))
    · exact og_eq (.agg #[.bool b, .int .u64 (l0 (n)), .int .u64 (l1 (n)), .int .u64 (l2 (n)), .int .u64 (l3 (n)), .int .i64 ((k : Int))]) rfl (fun f wf hq hd K hK => have Q1 := Q1.mo hq; go_run rfl (wo_load 26 (.tmp 2) (pt k1 0) (.agg #[.bool b, .int .u64 (l0 (n)), .int .u64 (l1 (n)), .int .u64 (l2 (n)), .int .u64 (l3 (n)), .int .i64 ((k : Int))]) rfl rfl (run_row Q1 26 0 6 [.bool b, .int .u64 (l0 (n)), .int .u64 (l1 (n)), .int .u64 (l2 (n)), .int .u64 (l3 (n)), .int .i64 ((k : Int))] rfl Tryd.underlying26 rfl sz26) (hK _ (Mw.refl _))))
    · exact og_eq (.agg #[.bool c, .int .u64 (l0 (m)), .int .u64 (l1 (m)), .int .u64 (l2 (m)), .int .u64 (l3 (m)), .int .i64 ((j : Int))]) rfl (fun f wf hq hd K hK => have Q2 := Q2.mo hq; go_run rfl (wo_load 26 (.tmp 3) (pt k2 0) (.agg #[.bool c, .int .u64 (l0 (m)), .int .u64 (l1 (m)), .int .u64 (l2 (m)), .int .u64 (l3 (m)), .int .i64 ((j : Int))]) rfl rfl (run_row Q2 26 0 6 [.bool c, .int .u64 (l0 (m)), .int .u64 (l1 (m)), .int .u64 (l2 (m)), .int .u64 (l3 (m)), .int .i64 ((j : Int))] rfl Tryd.underlying26 rfl sz26) (hK _ (Mw.refl _))))
    · exact og_eq (.bool (r)) rfl (fun f wf hq hd K hK => go_run rfl (wo_bin (fun x y => do eqGuard .eql 26 (.tmp 23) (.tmp 24) x y; binOp .eql 26 x y) (.tmp 23) (.tmp 24) (.agg #[.bool b, .int .u64 (l0 (n)), .int .u64 (l1 (n)), .int .u64 (l2 (n)), .int .u64 (l3 (n)), .int .i64 ((k : Int))]) (.agg #[.bool c, .int .u64 (l0 (m)), .int .u64 (l1 (m)), .int .u64 (l2 (m)), .int .u64 (l3 (m)), .int .i64 ((j : Int))]) (.bool (r)) (fun _ => rfl) (hd 5 rfl) (hd 6 rfl) (eqd_run hE _ _ _) (hK _ (Mw.refl _))))
    · exact og_eq (.bool true) rfl (fun f wf hq hd K hK => go_run rfl (wo_bin (fun x y => do eqGuard .eql 4 (.tmp 22) (.tmp 25) x y; binOp .eql 4 x y) (.tmp 22) (.tmp 25) (.bool (r)) (.bool (r)) (.bool true) (fun _ => rfl) (hd 4 rfl) (hd 7 rfl) (eqb_run (r) _ _ _) (hK _ (Mw.refl _))))
    · exact og_eq (.bool true) rfl (fun f wf hq hd K hK => go_run rfl (wo_mv (.tmp 26) (.bool true) (fun _ => rfl) (hd 8 rfl) (hK _ (Mw.refl _))))
    · exact og_eq (.agg #[.bool b, .int .u64 (l0 (n)), .int .u64 (l1 (n)), .int .u64 (l2 (n)), .int .u64 (l3 (n)), .int .i64 ((k : Int))]) rfl (fun f wf hq hd K hK => have Q1 := Q1.mo hq; go_run (wnt_g rfl rfl rfl (hd 9 rfl) rfl) (wo_load 26 (.tmp 2) (pt k1 0) (.agg #[.bool b, .int .u64 (l0 (n)), .int .u64 (l1 (n)), .int .u64 (l2 (n)), .int .u64 (l3 (n)), .int .i64 ((k : Int))]) rfl rfl (run_row Q1 26 0 6 [.bool b, .int .u64 (l0 (n)), .int .u64 (l1 (n)), .int .u64 (l2 (n)), .int .u64 (l3 (n)), .int .i64 ((k : Int))] rfl Tryd.underlying26 rfl sz26) (hK _ (Mw.refl _))))
    · exact og_eq (tx (txt b (trN k n).1 (trN k n).2)) rfl (fun f wf hq hd K hK => go_run (wnt_g rfl rfl rfl (hd 9 rfl) rfl) (wo_call 11 [(.tmp 28)] _ [.agg #[.bool b, .int .u64 (l0 (n)), .int .u64 (l1 (n)), .int .u64 (l2 (n)), .int .u64 (l3 (n)), .int .i64 ((k : Int))]] (tx (txt b (trN k n).1 (trN k n).2)) rfl (li1 (hd 10 rfl)) (fun _ _ => by kernel_rfl) (short_ok b n k _ hn0 hnM hk h1) hK))
    · exact og_eq (.agg #[.bool c, .int .u64 (l0 (m)), .int .u64 (l1 (m)), .int .u64 (l2 (m)), .int .u64 (l3 (m)), .int .i64 ((j : Int))]) rfl (fun f wf hq hd K hK => have Q2 := Q2.mo hq; go_run (wnt_g rfl rfl rfl (hd 9 rfl) rfl) (wo_load 26 (.tmp 3) (pt k2 0) (.agg #[.bool c, .int .u64 (l0 (m)), .int .u64 (l1 (m)), .int .u64 (l2 (m)), .int .u64 (l3 (m)), .int .i64 ((j : Int))]) rfl rfl (run_row Q2 26 0 6 [.bool c, .int .u64 (l0 (m)), .int .u64 (l1 (m)), .int .u64 (l2 (m)), .int .u64 (l3 (m)), .int .i64 ((j : Int))] rfl Tryd.underlying26 rfl sz26) (hK _ (Mw.refl _))))
    · exact og_eq (tx (txt c (trN j m).1 (trN j m).2)) rfl (fun f wf hq hd K hK => go_run (wnt_g rfl rfl rfl (hd 9 rfl) rfl) (wo_call 11 [(.tmp 30)] _ [.agg #[.bool c, .int .u64 (l0 (m)), .int .u64 (l1 (m)), .int .u64 (l2 (m)), .int .u64 (l3 (m)), .int .i64 ((j : Int))]] (tx (txt c (trN j m).1 (trN j m).2)) rfl (li1 (hd 12 rfl)) (fun _ _ => by kernel_rfl) (short_ok c m j _ hm0 hmM hj h2) hK))
    · exact og_eq (.bool (q)) rfl (fun f wf hq hd K hK => go_run (wnt_g rfl rfl rfl (hd 9 rfl) rfl) (wo_bin (fun x y => do eqGuard .eql 9 (.tmp 29) (.tmp 31) x y; binOp .eql 9 x y) (.tmp 29) (.tmp 31) (tx (txt b (trN k n).1 (trN k n).2)) (tx (txt c (trN j m).1 (trN j m).2)) (.bool (q)) (fun _ => rfl) (hd 11 rfl) (hd 13 rfl) (eqs_run hS _ _ _) (hK _ (Mw.refl _))))
    · exact og_eq (.agg #[.bool b, .int .u64 (l0 (n)), .int .u64 (l1 (n)), .int .u64 (l2 (n)), .int .u64 (l3 (n)), .int .i64 ((k : Int))]) rfl (fun f wf hq hd K hK => have Q1 := Q1.mo hq; go_run (wnt_g rfl rfl rfl (hd 9 rfl) rfl) (wo_load 26 (.tmp 2) (pt k1 0) (.agg #[.bool b, .int .u64 (l0 (n)), .int .u64 (l1 (n)), .int .u64 (l2 (n)), .int .u64 (l3 (n)), .int .i64 ((k : Int))]) rfl rfl (run_row Q1 26 0 6 [.bool b, .int .u64 (l0 (n)), .int .u64 (l1 (n)), .int .u64 (l2 (n)), .int .u64 (l3 (n)), .int .i64 ((k : Int))] rfl Tryd.underlying26 rfl sz26) (hK _ (Mw.refl _))))
    · exact og_eq (.agg #[.bool c, .int .u64 (l0 (m)), .int .u64 (l1 (m)), .int .u64 (l2 (m)), .int .u64 (l3 (m)), .int .i64 ((j : Int))]) rfl (fun f wf hq hd K hK => have Q2 := Q2.mo hq; go_run (wnt_g rfl rfl rfl (hd 9 rfl) rfl) (wo_load 26 (.tmp 3) (pt k2 0) (.agg #[.bool c, .int .u64 (l0 (m)), .int .u64 (l1 (m)), .int .u64 (l2 (m)), .int .u64 (l3 (m)), .int .i64 ((j : Int))]) rfl rfl (run_row Q2 26 0 6 [.bool c, .int .u64 (l0 (m)), .int .u64 (l1 (m)), .int .u64 (l2 (m)), .int .u64 (l3 (m)), .int .i64 ((j : Int))] rfl Tryd.underlying26 rfl sz26) (hK _ (Mw.refl _))))
    · exact og_eq (.int .i64 (z)) rfl (fun f wf hq hd K hK => go_run (wnt_g rfl rfl rfl (hd 9 rfl) rfl) (wo_call 20 [(.tmp 33), (.tmp 34)] _ [.agg #[.bool b, .int .u64 (l0 (n)), .int .u64 (l1 (n)), .int .u64 (l2 (n)), .int .u64 (l3 (n)), .int .i64 ((k : Int))], .agg #[.bool c, .int .u64 (l0 (m)), .int .u64 (l1 (m)), .int .u64 (l2 (m)), .int .u64 (l3 (m)), .int .i64 ((j : Int))]] (.int .i64 (z)) rfl (li2 (hd 15 rfl) (hd 16 rfl)) (fun _ _ => by kernel_rfl) (hC _) hK))
    · exact og_eq (.bool (q)) rfl (fun f wf hq hd K hK => go_run (wnt_g rfl rfl rfl (hd 9 rfl) rfl) (wo_bin (fun x y => do eqGuard .eql 3 (.tmp 35) (.const (.int .i64 (0))) x y; binOp .eql 3 x y) (.tmp 35) (.const (.int .i64 (0))) (.int .i64 (z)) (.int .i64 (0)) (.bool (q)) (fun _ => rfl) (hd 17 rfl) rfl (eq3_run hz _ _ _) (hK _ (Mw.refl _))))
  intro kf6 w6 hq hR hne
  replace Q1 := Q1.mo hq
  replace Q2 := Q2.mo hq
  replace M := M.trans hq
  clear hq hR hne
  refine wl_bin (fun x y => do eqGuard .eql 4 (.tmp 32) (.tmp 36) x y; binOp .eql 4 x y) (.tmp 32) (.tmp 36) (.bool (q)) (.bool (q)) (.bool true) (fun _ => rfl) rfl rfl (eqb_run (q) _ _ _) rfl ?_
  refine wl_pick (.tmp 27) (.tmp 37) (.const (.bool false)) true (.bool true) (fun _ => rfl) rfl rfl rfl ?_
  refine wl_mv (.tmp 38) (.bool true) (fun _ => rfl) rfl rfl ?_
  refine w_nil ?_
  refine xn_then ?_
  refine w_ret ?_
  exact w_ret1 _ (.bool true) rfl rfl ⟨rfl, M⟩
end Go.Proofs.YtdcojpbgijkmgaaDoor.V
/-
  Unlike numbers have unlike texts.
-/
namespace Go.Proofs.YtdcojpbgijkmgaaDoor
open Go.RowKit Go.Lib
theorem d8_dig (n : Int) {x : UInt8} (h : x ∈ V.dgs8 n) : 48 ≤ x.toNat ∧ x.toNat ≤ 57 := by
  rw [dgs8_map] at h
  obtain ⟨d, hd, rfl⟩ := List.mem_map.1 h
  have hb := decF_digits 78 n d hd
  rw [UInt8.toNat_ofNat']
  omega
theorem d8_inj {n m : Int} (hn0 : 0 ≤ n) (hnM : n < MM) (hm0 : 0 ≤ m) (hmM : m < MM) (h : V.dgs8 n = V.dgs8 m) : n = m := by
  rw [dgs8_map, dgs8_map] at h
  have hM : MM < 10 ^ 78 := by decide
  have e : decF 78 n = decF 78 m := by
    have g : ∀ (a b : List Int), (∀ d ∈ a, 48 ≤ d ∧ d ≤ 57) → (∀ d ∈ b, 48 ≤ d ∧ d ≤ 57) → a.map (fun d => UInt8.ofNat d.toNat) = b.map (fun d => UInt8.ofNat d.toNat) → a = b := by
      intro a
      induction a with
      | nil => intro b _ _ h; cases b with | nil => rfl | cons x r => simp at h
      | cons x r ih =>
        intro b ha hb h
        cases b with
        | nil => simp at h
        | cons y s =>
          rw [List.map_cons, List.map_cons] at h
          injection h with h1 h2
          have hx := ha x (by simp)
          have hy := hb y (by simp)
          have h3 := congrArg UInt8.toNat h1
          rw [UInt8.toNat_ofNat', UInt8.toNat_ofNat'] at h3
          have : x = y := by omega
          rw [this, ih s (fun d hd => ha d (by simp [hd])) (fun d hd => hb d (by simp [hd])) h2]
    exact g _ _ (decF_digits 78 n) (decF_digits 78 m) h
  rw [← decF_dv 78 n hn0 (by omega), ← decF_dv 78 m hm0 (by omega), e]
theorem txt0 (b : Bool) (n : Int) : V.txt b n 0 = sgn8 b ++ V.dgs8 n := by unfold V.txt wpt sgn8; cases b <;> rfl
theorem txt0_inj {b c : Bool} {n m : Int} (hn0 : 0 ≤ n) (hnM : n < MM) (hm0 : 0 ≤ m) (hmM : m < MM) (h : V.txt b n 0 = V.txt c m 0) : b = c ∧ n = m := by
  rw [txt0, txt0] at h
  have key : ∀ (x y : Int), [45] ++ V.dgs8 x ≠ V.dgs8 y := fun x y e => by
    have : (45 : UInt8) ∈ V.dgs8 y := by rw [← e]; simp
    have := d8_dig y this
    have e45 : (45 : UInt8).toNat = 45 := rfl
    omega
  cases b <;> cases c
  · exact ⟨rfl, d8_inj hn0 hnM hm0 hmM h⟩
  · exact absurd h.symm (key m n)
  · exact absurd h (key n m)
  · exact ⟨rfl, d8_inj hn0 hnM hm0 hmM (by simpa [sgn8] using h)⟩
theorem snoc_inj {a b : List UInt8} {x y : UInt8} (h : a ++ [x] = b ++ [y]) : a = b ∧ x = y := by
  have := List.append_inj' h rfl
  exact ⟨this.1, by simpa using this.2⟩
theorem ptx_inj {b c : Bool} : ∀ (k j : Nat) (n m : Int), 0 ≤ n → n < MM → 0 ≤ m → m < MM → ptx b n k = ptx c m j → b = c ∧ n = m ∧ k = j
  | 0, 0, n, m, hn0, hnM, hm0, hmM, h => by
    rw [ptx_0, ptx_0] at h
    obtain ⟨h1, h2⟩ := txt0_inj hn0 hnM hm0 hmM (snoc_inj h).1
    exact ⟨h1, h2, rfl⟩
  | 0, j + 1, n, m, hn0, hnM, hm0, hmM, h => by
    rw [ptx_0, ptx_s c m j hm0 hmM] at h
    have := congrArg (fun x : UInt8 => (x.toNat : Int)) (snoc_inj h).2
    simp only [ld_d] at this
    have e46 : ((46 : UInt8).toNat : Int) = 46 := rfl
    omega
  | k + 1, 0, n, m, hn0, hnM, hm0, hmM, h => by
    rw [ptx_0, ptx_s b n k hn0 hnM] at h
    have := congrArg (fun x : UInt8 => (x.toNat : Int)) (snoc_inj h).2
    simp only [ld_d] at this
    have e46 : ((46 : UInt8).toNat : Int) = 46 := rfl
    omega
  | k + 1, j + 1, n, m, hn0, hnM, hm0, hmM, h => by
    rw [ptx_s b n k hn0 hnM, ptx_s c m j hm0 hmM] at h
    obtain ⟨h1, h2⟩ := snoc_inj h
    obtain ⟨a1, a2, a3⟩ := ptx_inj k j (n / 10) (m / 10) (by omega) (by omega) (by omega) (by omega) h1
    have := congrArg (fun x : UInt8 => (x.toNat : Int)) h2
    simp only [ld_d] at this
    exact ⟨a1, by omega, by omega⟩
theorem no46 (b : Bool) (n : Int) : (46 : UInt8) ∉ V.txt b n 0 := fun h => by
  rw [txt0] at h
  rcases List.mem_append.1 h with h | h
  · unfold sgn8 at h; cases b <;> simp at h
  · have := d8_dig n h; have e46 : (46 : UInt8).toNat = 46 := rfl; omega
theorem in46 (b : Bool) (n : Int) (k : Nat) (hk : k ≠ 0) : (46 : UInt8) ∈ V.txt b n k := by rw [← ptx_k b n k hk]; unfold ptx; simp
theorem txt_inj {b c : Bool} {k j : Nat} {n m : Int} (hn0 : 0 ≤ n) (hnM : n < MM) (hm0 : 0 ≤ m) (hmM : m < MM) (h : V.txt b n k = V.txt c m j) : b = c ∧ n = m ∧ k = j := by
  by_cases hk : k = 0 <;> by_cases hj : j = 0
  · subst hk; subst hj; obtain ⟨a, b⟩ := txt0_inj hn0 hnM hm0 hmM h; exact ⟨a, b, rfl⟩
  · subst hk; exact absurd (h ▸ in46 c m j hj) (no46 b n)
  · subst hj; exact absurd (h ▸ in46 b n k hk) (no46 c m)
  · rw [← ptx_k b n k hk, ← ptx_k c m j hj] at h; exact ptx_inj k j n m hn0 hnM hm0 hmM h
end Go.Proofs.YtdcojpbgijkmgaaDoor
/-
  Numbers that are as great have one short text, and no others.
-/
namespace Go.Proofs.YtdcojpbgijkmgaaDoor
open Go.RowKit Go.Lib
theorem trN_can : ∀ (k : Nat) (n : Int), ∃ d, k = (trN k n).2 + d ∧ n = (trN k n).1 * 10 ^ d ∧ ((trN k n).2 = 0 ∨ (trN k n).1 % 10 ≠ 0)
  | 0, n => ⟨0, rfl, by simp [trN], Or.inl rfl⟩
  | k + 1, n => by
    unfold trN
    split
    · rename_i hz
      obtain ⟨d, h1, h2, h3⟩ := trN_can k (n / 10)
      refine ⟨d + 1, by omega, ?_, h3⟩
      rw [Int.pow_succ, ← Int.mul_assoc, ← h2]; omega
    · rename_i hz
      exact ⟨0, rfl, by simp, Or.inr hz⟩
theorem can_eq {N N' : Int} {K K' e e' : Nat} (hs : K + e = K' + e') (h : N * 10 ^ e = N' * 10 ^ e') (c : K = 0 ∨ N % 10 ≠ 0) (c' : K' = 0 ∨ N' % 10 ≠ 0) : N = N' ∧ K = K' := by
  have p10 : ∀ x : Nat, (10 : Int) ^ x ≠ 0 := fun x => Int.pow_ne_zero (by decide)
  have main : ∀ {N N' : Int} {K K' e e' : Nat}, K + e = K' + e' → N * 10 ^ e = N' * 10 ^ e' → (K' = 0 ∨ N' % 10 ≠ 0) → ¬ K < K' := by
    intro N N' K K' e e' hs h c' hlt
    obtain ⟨d, rfl⟩ : ∃ d, e = e' + (d + 1) := ⟨e - e' - 1, by omega⟩
    have h2 : N * 10 ^ (d + 1) = N' := by
      refine Int.eq_of_mul_eq_mul_right (p10 e') ?_
      have e3 : (10 : Int) ^ (e' + (d + 1)) = 10 ^ (d + 1) * 10 ^ e' := by rw [Nat.add_comm e' (d + 1)]; exact Int.pow_add _ _ _
      rw [← h, e3, Int.mul_assoc]
    rcases c' with c' | c'
    · omega
    · apply c'; rw [← h2, Int.pow_succ, ← Int.mul_assoc]; exact Int.mul_emod_left _ _
  have a := main hs h c'
  have b := main hs.symm h.symm c
  have hK : K = K' := by omega
  have he : e = e' := by omega
  subst hK; subst he
  exact ⟨Int.eq_of_mul_eq_mul_right (p10 e) h, rfl⟩
theorem trN_iff (n m : Int) (k j M : Nat) (hk : k ≤ M) (hj : j ≤ M) : trN k n = trN j m ↔ n * 10 ^ (M - k) = m * 10 ^ (M - j) := by
  obtain ⟨d, a1, a2, a3⟩ := trN_can k n
  obtain ⟨f, b1, b2, b3⟩ := trN_can j m
  have e1 : n * 10 ^ (M - k) = (trN k n).1 * 10 ^ (d + (M - k)) := by rw [Int.pow_add, ← Int.mul_assoc, ← a2]
  have e2 : m * 10 ^ (M - j) = (trN j m).1 * 10 ^ (f + (M - j)) := by rw [Int.pow_add, ← Int.mul_assoc, ← b2]
  constructor
  · intro h
    rw [e1, e2, h]
    rw [h] at a1
    congr 2
    omega
  · intro h
    rw [e1, e2] at h
    obtain ⟨h1, h2⟩ := can_eq (K := (trN k n).2) (K' := (trN j m).2) (by omega) h a3 b3
    exact Prod.ext h1 h2
theorem short_cmp {b c : Bool} {n m u v : Int} {k j : Nat} (hn0 : 0 ≤ n) (hnM : n < MM) (hm0 : 0 ≤ m) (hmM : m < MM) (hu : ab u = n) (hub : decide (u < 0) = b) (hv : ab v = m) (hvb : decide (v < 0) = c) :
    (cm (u * pw (max (k : Int) j - k)) (v * pw (max (k : Int) j - j)) == 0) = (V.txt b (trN k n).1 (trN k n).2 == V.txt c (trN j m).1 (trN j m).2) := by
  obtain ⟨M, hM⟩ : ∃ M : Nat, max (k : Int) j = (M : Int) := ⟨max k j, by omega⟩
  have hkM : k ≤ M := by omega
  have hjM : j ≤ M := by omega
  rw [hM]
  have p1 : pw ((M : Int) - k) = 10 ^ (M - k) := by unfold pw; congr 1; omega
  have p2 : pw ((M : Int) - j) = 10 ^ (M - j) := by unfold pw; congr 1; omega
  rw [p1, p2]
  have P1 : (0 : Int) < 10 ^ (M - k) := Int.pow_pos (by decide)
  have P2 : (0 : Int) < 10 ^ (M - j) := Int.pow_pos (by decide)
  have hi := trN_iff n m k j M hkM hjM
  obtain ⟨a0, a1, _, _⟩ := V.trN_ok k n hn0 hnM
  obtain ⟨b0, b1, _, _⟩ := V.trN_ok j m hm0 hmM
  have hc : ∀ x y : Int, (cm x y == 0) = decide (x = y) := fun x y => by
    unfold cm
    by_cases h1 : x < y
    · rw [if_pos h1, decide_eq_false (by omega)]; rfl
    · rw [if_neg h1]
      by_cases h2 : y < x
      · rw [if_pos h2, decide_eq_false (by omega)]; rfl
      · rw [if_neg h2, decide_eq_true (by omega)]; rfl
  rw [hc]
  have hrhs : (V.txt b (trN k n).1 (trN k n).2 == V.txt c (trN j m).1 (trN j m).2) = decide (b = c ∧ trN k n = trN j m) := by
    by_cases h : V.txt b (trN k n).1 (trN k n).2 = V.txt c (trN j m).1 (trN j m).2
    · obtain ⟨h1, h2, h3⟩ := txt_inj a0 a1 b0 b1 h
      rw [decide_eq_true ⟨h1, Prod.ext h2 h3⟩]; exact beq_iff_eq.2 h
    · rw [decide_eq_false (fun ⟨h1, h2⟩ => h (by rw [h1, h2]))]; exact beq_eq_false_iff_ne.2 h
  rw [hrhs]
  congr 1
  rw [hi]
  generalize (10 : Int) ^ (M - k) = X at *
  generalize (10 : Int) ^ (M - j) = Y at *
  subst hu; subst hub; subst hv; subst hvb
  unfold ab
  by_cases hu0 : u < 0 <;> by_cases hv0 : v < 0
  · rw [if_pos hu0, if_pos hv0, Int.neg_mul, Int.neg_mul]
    simp [hu0, hv0]
  · rw [if_pos hu0, if_neg hv0]
    simp [hu0, hv0]
    have h1 : u * X < 0 := Int.mul_neg_of_neg_of_pos hu0 P1
    have h2 : 0 ≤ v * Y := Int.mul_nonneg (by omega) (by omega)
    omega
  · rw [if_neg hu0, if_pos hv0]
    simp [hu0, hv0]
    have h1 : v * Y < 0 := Int.mul_neg_of_neg_of_pos hv0 P2
    have h2 : 0 ≤ u * X := Int.mul_nonneg (by omega) (by omega)
    omega
  · rw [if_neg hu0, if_neg hv0]
    simp [hu0, hv0]
end Go.Proofs.YtdcojpbgijkmgaaDoor
/-
  exciselaw03.DectextApart, whatever the two numbers.
-/
namespace Go.Proofs.YtdcojpbgijkmgaaDoor
open Go.RowKit Go.Lib
theorem ck_sc {b : Bool} {n s : Int} (h : ck b n s = 0) : ∃ k : Nat, s = (k : Int) ∧ k ≤ 18 := by
  have h2 : 0 ≤ s ∧ s ≤ 18 := by
    by_cases q : sc s = true
    · exact sc_iff.1 q
    · exfalso
      have q' : sc s = false := by simpa using q
      unfold ck at h
      rw [q'] at h
      simp at h
  exact ⟨s.toNat, by omega, by omega⟩
theorem six_eq {b c : Bool} {n m : Int} {k j : Nat} (hn0 : 0 ≤ n) (hnM : n < MM) (hm0 : 0 ≤ m) (hmM : m < MM) :
    (b == c && (l0 n == l0 m && (l1 n == l1 m && (l2 n == l2 m && (l3 n == l3 m && (k : Int) == (j : Int)))))) = (V.txt b n k == V.txt c m j) := by
  by_cases h : V.txt b n k = V.txt c m j
  · obtain ⟨rfl, rfl, rfl⟩ := txt_inj hn0 hnM hm0 hmM h
    simp
  · rw [beq_eq_false_iff_ne.2 h]
    cases hq : (b == c && (l0 n == l0 m && (l1 n == l1 m && (l2 n == l2 m && (l3 n == l3 m && (k : Int) == (j : Int)))))) with
    | false => rfl
    | true =>
      exfalso
      simp only [Bool.and_eq_true, beq_iff_eq] at hq
      obtain ⟨h1, h2, h3, h4, h5, h6⟩ := hq
      have e := nv_inj hn0 hnM hm0 hmM ⟨h2, h3, h4, h5⟩
      have e2 : k = j := by omega
      exact h (by rw [h1, e, e2])
theorem dapart_n (b c : Bool) (n m s0 t0 : Int) (w : World) (hn0 : 0 ≤ n) (hnM : n < MM) (hm0 : 0 ≤ m) (hmM : m < MM) : Calls Tryd.prog 7 #[dc b n s0, dc c m t0] w fun e w' => e = .returned (.bool true) ∧ V.Mw w w' := by
  by_cases h1 : ck b n s0 = 0
  · by_cases h2 : ck c m t0 = 0
    · obtain ⟨k, rfl, hk⟩ := ck_sc h1
      obtain ⟨j, rfl, hj⟩ := ck_sc h2
      obtain ⟨hs, u, hu, hub⟩ := dz_of hn0 h1
      obtain ⟨ht, v, hv, hvb⟩ := dz_of hm0 h2
      refine V.dapart_ok b c n m k j w hn0 hnM hm0 hmM hk hj h1 h2 _ _ _ rfl (six_eq hn0 hnM hm0 hmM) rfl (short_cmp hn0 hnM hm0 hmM hu hub hv hvb) (fun w => ?_)
      have := V.wk (cmp_z u (k : Int) v (j : Int) w (by rw [hu]; exact hnM) (by rw [hv]; exact hmM) hs ht)
      subst hu; subst hub; subst hv; subst hvb
      exact this
    · exact V.dapart_no2 b c n m s0 t0 w hn0 hnM hm0 hmM h1 h2
  · exact V.dapart_no1 b c n m s0 t0 w hn0 hnM h1
end Go.Proofs.YtdcojpbgijkmgaaDoor
/-
  An array of four limbs that came in: how it is opened and shut.
-/
namespace Go.Proofs.YtdcojpbgijkmgaaDoor
open Go.ChangeShapes Go.WideShapes Go.ChangeAt Go.RowKit
theorem Tryd.own : ownKnob Tryd.prog.godebug = none := by kernel_rfl
theorem Tryd.cl22 : Tryd.prog.cellsOf 22 = 1 := by kernel_rfl
theorem Tryd.cl24 : Tryd.prog.cellsOf 24 = 4 := by kernel_rfl
theorem wf_u1 {x : Int} (h : (Lit.int .u64 x).wf = true) : U1 x := by
  simp [Lit.wf, IntKind.min, IntKind.max, IntKind.signed, IntKind.bits] at h
  exact ⟨by omega, by omega⟩
set_option maxRecDepth 100000 in
theorem open_nat {H : Type} {enc : TypeId × Value → H} {W : World} {base : Nat} {v : Value} {d : DataW H} {p : List MemPlace} (hv : Value.okWide Tryd.prog W .any base 24 v) (h : DataW.Trod enc Tryd.prog W 0 (fun _ => true) true 24 v d p) :
    ∃ x0 x1 x2 x3 : Int, v = .agg #[.int .u64 x0, .int .u64 x1, .int .u64 x2, .int .u64 x3] ∧ d = .agg [.lit (.int .u64 x0), .lit (.int .u64 x1), .lit (.int .u64 x2), .lit (.int .u64 x3)] ∧ p = [] ∧ U4 x0 x1 x2 x3 ∧
      ∀ (W' : World) (sp : Nat → Bool), DataW.Trod enc Tryd.prog W' 0 sp true 24 v d [] := by
  obtain ⟨cs, rfl, hsz, _⟩ : ∃ cs, v = .agg cs ∧ cs.size = Tryd.prog.cellsOf 24 ∧ Row.okWide Tryd.prog W .any base 24 cs := by
    simpa [Value.okWide, Tryd.underlying24] using hv
  rw [Tryd.cl24] at hsz
  obtain ⟨c0, c1, c2, c3, rfl⟩ := Go.Joins.array4 hsz
  obtain ⟨fuel, hf⟩ := h
  obtain ⟨xs, m, rfl, hx, _, hn, hi⟩ := DataW.trod_array Tryd.underlying24 hf
  have i0 := hi 0 (by decide)
  have i1 := hi 1 (by decide)
  have i2 := hi 2 (by decide)
  have i3 := hi 3 (by decide)
  simp only [Tryd.cl22, Value.cells] at i0 i1 i2 i3
  obtain ⟨y0, y1, y2, y3, rfl⟩ : ∃ y0 y1 y2 y3, xs = [y0, y1, y2, y3] := by
    match xs, hn with
    | [a, b, c, d], _ => exact ⟨a, b, c, d, rfl⟩
  simp at i0 i1 i2 i3
  obtain ⟨x0, e0, rfl, w0⟩ := DataW.trod_int Tryd.underlying22 i0
  obtain ⟨x1, e1, rfl, w1⟩ := DataW.trod_int Tryd.underlying22 i1
  obtain ⟨x2, e2, rfl, w2⟩ := DataW.trod_int Tryd.underlying22 i2
  obtain ⟨x3, e3, rfl, w3⟩ := DataW.trod_int Tryd.underlying22 i3
  simp at e0 e1 e2 e3
  subst e0 e1 e2 e3
  simp at hx
  obtain ⟨rfl, rfl⟩ := hx
  refine ⟨x0, x1, x2, x3, rfl, rfl, rfl, ⟨wf_u1 w0, wf_u1 w1, wf_u1 w2, wf_u1 w3⟩, fun W' sp => ⟨2, ?_⟩⟩
  simp [DataW.trod, Value.cells, Tryd.underlying24, Tryd.underlying22, Tryd.cl24, Tryd.cl22, w0, w1, w2, w3, show List.range 4 = [0, 1, 2, 3] from rfl]
end Go.Proofs.YtdcojpbgijkmgaaDoor
/-
  A decimal that came in: how it is opened and shut.
-/
namespace Go.Proofs.YtdcojpbgijkmgaaDoor
open Go.ChangeShapes Go.WideShapes Go.ChangeAt Go.RowKit
theorem Tryd.cl40 : Tryd.prog.cellsOf 26 = 6 := by kernel_rfl
theorem Tryd.cl4 : Tryd.prog.cellsOf 4 = 1 := by kernel_rfl
theorem Tryd.cl3 : Tryd.prog.cellsOf 3 = 1 := by kernel_rfl
theorem wf_i1 {x : Int} (h : (Lit.int .i64 x).wf = true) : -9223372036854775808 ≤ x ∧ x < 9223372036854775808 := by
  simp [Lit.wf, IntKind.min, IntKind.max, IntKind.signed, IntKind.bits] at h
  exact ⟨by omega, by omega⟩
set_option maxRecDepth 100000 in
theorem open_dec {H : Type} {enc : TypeId × Value → H} {W : World} {base : Nat} {v : Value} {d : DataW H} {p : List MemPlace} (hv : Value.okWide Tryd.prog W .any base 26 v) (h : DataW.Trod enc Tryd.prog W 0 (fun _ => true) true 26 v d p) :
    ∃ (b : Bool) (x0 x1 x2 x3 s : Int), v = .agg #[.bool b, .int .u64 x0, .int .u64 x1, .int .u64 x2, .int .u64 x3, .int .i64 s] ∧ p = [] ∧ U4 x0 x1 x2 x3 ∧ (-9223372036854775808 ≤ s ∧ s < 9223372036854775808) ∧
      ∀ (W' : World) (sp : Nat → Bool), DataW.Trod enc Tryd.prog W' 0 sp true 26 v d [] := by
  obtain ⟨cs, rfl, hsz, _⟩ : ∃ cs, v = .agg cs ∧ cs.size = Tryd.prog.cellsOf 26 ∧ Row.okWide Tryd.prog W .any base 26 cs := by
    simpa [Value.okWide, Tryd.underlying26] using hv
  rw [Tryd.cl40] at hsz
  obtain ⟨c0, c1, c2, c3, c4, c5, rfl⟩ : ∃ c0 c1 c2 c3 c4 c5, cs = #[c0, c1, c2, c3, c4, c5] := by
    obtain ⟨l⟩ := cs
    match l, hsz with
    | [a, b, c, d, e, f], _ => exact ⟨a, b, c, d, e, f, rfl⟩
  obtain ⟨fuel, hf⟩ := h
  obtain ⟨xs, n, rfl, hx, _, hlen, hi⟩ := DataW.trod_struct Tryd.underlying26 hf
  obtain ⟨y0, y1, y2, rfl⟩ : ∃ y0 y1 y2, xs = [y0, y1, y2] := by
    match xs, hlen with
    | [a, b, c], _ => exact ⟨a, b, c, rfl⟩
  have i0 := hi 0 _ rfl
  have i1 := hi 1 _ rfl
  have i2 := hi 2 _ rfl
  simp [Tryd.cl4, Tryd.cl24, Tryd.cl3, Value.cells] at i0 i1 i2
  obtain ⟨b, e0, rfl⟩ := DataW.trod_bool Tryd.underlying4 i0
  obtain ⟨s, e5, rfl, w5⟩ := DataW.trod_int Tryd.underlying3 i2
  obtain ⟨zs, m, rfl, hz, _, hn, hj⟩ := DataW.trod_array Tryd.underlying24 i1
  have j0 := hj 0 (by decide)
  have j1 := hj 1 (by decide)
  have j2 := hj 2 (by decide)
  have j3 := hj 3 (by decide)
  simp only [Tryd.cl22] at j0 j1 j2 j3
  obtain ⟨z0, z1, z2, z3, rfl⟩ : ∃ z0 z1 z2 z3, zs = [z0, z1, z2, z3] := by
    match zs, hn with
    | [a, b, c, d], _ => exact ⟨a, b, c, d, rfl⟩
  simp at j0 j1 j2 j3
  obtain ⟨x0, e1, rfl, w0⟩ := DataW.trod_int Tryd.underlying22 j0
  obtain ⟨x1, e2, rfl, w1⟩ := DataW.trod_int Tryd.underlying22 j1
  obtain ⟨x2, e3, rfl, w2⟩ := DataW.trod_int Tryd.underlying22 j2
  obtain ⟨x3, e4, rfl, w3⟩ := DataW.trod_int Tryd.underlying22 j3
  simp at e0 e1 e2 e3 e4 e5
  subst e0 e1 e2 e3 e4 e5
  subst hz
  simp at hx
  obtain ⟨rfl, rfl⟩ := hx
  refine ⟨b, x0, x1, x2, x3, s, rfl, rfl, ⟨wf_u1 w0, wf_u1 w1, wf_u1 w2, wf_u1 w3⟩, wf_i1 w5, fun W' sp => ⟨3, ?_⟩⟩
  simp [DataW.trod, Value.cells, Tryd.underlying26, Tryd.underlying24, Tryd.underlying22, Tryd.underlying4, Tryd.underlying3, Tryd.cl40, Tryd.cl24, Tryd.cl22, Tryd.cl4, Tryd.cl3, w0, w1, w2, w3, w5, show List.range 4 = [0, 1, 2, 3] from rfl]
end Go.Proofs.YtdcojpbgijkmgaaDoor
/-
  A whole number and a decimal that came in.
-/
namespace Go.Proofs.YtdcojpbgijkmgaaDoor
open Go.ChangeShapes Go.WideShapes Go.ChangeAt Go.RowKit
set_option maxRecDepth 100000 in
theorem open_i64 {H : Type} {enc : TypeId × Value → H} {W : World} {base : Nat} {T : TypeId} {v : Value} {d : DataW H} {p : List MemPlace} (hu : Tryd.prog.underlying T = some (.int .i64)) (hv : Value.okWide Tryd.prog W .any base T v) (h : DataW.Trod enc Tryd.prog W 0 (fun _ => true) true T v d p) :
    ∃ x : Int, v = .int .i64 x ∧ p = [] ∧ (-9223372036854775808 ≤ x ∧ x < 9223372036854775808) ∧
      ∀ (W' : World) (sp : Nat → Bool), DataW.Trod enc Tryd.prog W' 0 sp true T v d [] := by
  obtain ⟨n, rfl, rfl, rfl, hw⟩ := open_int hu hv h
  exact ⟨n, rfl, rfl, wf_i1 hw, fun W' sp => shut_int hu hw⟩
theorem dc_vl {b : Bool} {s x0 x1 x2 x3 : Int} (h : U4 x0 x1 x2 x3) : dc b (vl x0 x1 x2 x3) s = .agg #[.bool b, .int .u64 x0, .int .u64 x1, .int .u64 x2, .int .u64 x3, .int .i64 s] := by
  have := nv_vl h
  simp at this
  obtain ⟨a, b, c, d⟩ := this
  unfold dc
  rw [a, b, c, d]
end Go.Proofs.YtdcojpbgijkmgaaDoor
/-
  A world in which the library's two tables lie; the end of a row over a law that leaves what was there as it was.
-/
namespace Go.Proofs.YtdcojpbgijkmgaaDoor
open Go.ChangeShapes Go.WideShapes Go.ChangeAt Go.RowKit Go.ChangeMaps
def firstCells : Array Value := #[.int .u8 240, .int .u8 240, .int .u8 240, .int .u8 240, .int .u8 240, .int .u8 240, .int .u8 240, .int .u8 240, .int .u8 240, .int .u8 240, .int .u8 240, .int .u8 240, .int .u8 240, .int .u8 240, .int .u8 240, .int .u8 240, .int .u8 240, .int .u8 240, .int .u8 240, .int .u8 240, .int .u8 240, .int .u8 240, .int .u8 240, .int .u8 240, .int .u8 240, .int .u8 240, .int .u8 240, .int .u8 240, .int .u8 240, .int .u8 240, .int .u8 240, .int .u8 240, .int .u8 240, .int .u8 240, .int .u8 240, .int .u8 240, .int .u8 240, .int .u8 240, .int .u8 240, .int .u8 240, .int .u8 240, .int .u8 240, .int .u8 240, .int .u8 240, .int .u8 240, .int .u8 240, .int .u8 240, .int .u8 240, .int .u8 240, .int .u8 240, .int .u8 240, .int .u8 240, .int .u8 240, .int .u8 240, .int .u8 240, .int .u8 240, .int .u8 240, .int .u8 240, .int .u8 240, .int .u8 240, .int .u8 240, .int .u8 240, .int .u8 240, .int .u8 240, .int .u8 240, .int .u8 240, .int .u8 240, .int .u8 240, .int .u8 240, .int .u8 240, .int .u8 240, .int .u8 240, .int .u8 240, .int .u8 240, .int .u8 240, .int .u8 240, .int .u8 240, .int .u8 240, .int .u8 240, .int .u8 240, .int .u8 240, .int .u8 240, .int .u8 240, .int .u8 240, .int .u8 240, .int .u8 240, .int .u8 240, .int .u8 240, .int .u8 240, .int .u8 240, .int .u8 240, .int .u8 240, .int .u8 240, .int .u8 240, .int .u8 240, .int .u8 240, .int .u8 240, .int .u8 240, .int .u8 240, .int .u8 240, .int .u8 240, .int .u8 240, .int .u8 240, .int .u8 240, .int .u8 240, .int .u8 240, .int .u8 240, .int .u8 240, .int .u8 240, .int .u8 240, .int .u8 240, .int .u8 240, .int .u8 240, .int .u8 240, .int .u8 240, .int .u8 240, .int .u8 240, .int .u8 240, .int .u8 240, .int .u8 240, .int .u8 240, .int .u8 240, .int .u8 240, .int .u8 240, .int .u8 240, .int .u8 240, .int .u8 240, .int .u8 240, .int .u8 241, .int .u8 241, .int .u8 241, .int .u8 241, .int .u8 241, .int .u8 241, .int .u8 241, .int .u8 241, .int .u8 241, .int .u8 241, .int .u8 241, .int .u8 241, .int .u8 241, .int .u8 241, .int .u8 241, .int .u8 241, .int .u8 241, .int .u8 241, .int .u8 241, .int .u8 241, .int .u8 241, .int .u8 241, .int .u8 241, .int .u8 241, .int .u8 241, .int .u8 241, .int .u8 241, .int .u8 241, .int .u8 241, .int .u8 241, .int .u8 241, .int .u8 241, .int .u8 241, .int .u8 241, .int .u8 241, .int .u8 241, .int .u8 241, .int .u8 241, .int .u8 241, .int .u8 241, .int .u8 241, .int .u8 241, .int .u8 241, .int .u8 241, .int .u8 241, .int .u8 241, .int .u8 241, .int .u8 241, .int .u8 241, .int .u8 241, .int .u8 241, .int .u8 241, .int .u8 241, .int .u8 241, .int .u8 241, .int .u8 241, .int .u8 241, .int .u8 241, .int .u8 241, .int .u8 241, .int .u8 241, .int .u8 241, .int .u8 241, .int .u8 241, .int .u8 241, .int .u8 241, .int .u8 2, .int .u8 2, .int .u8 2, .int .u8 2, .int .u8 2, .int .u8 2, .int .u8 2, .int .u8 2, .int .u8 2, .int .u8 2, .int .u8 2, .int .u8 2, .int .u8 2, .int .u8 2, .int .u8 2, .int .u8 2, .int .u8 2, .int .u8 2, .int .u8 2, .int .u8 2, .int .u8 2, .int .u8 2, .int .u8 2, .int .u8 2, .int .u8 2, .int .u8 2, .int .u8 2, .int .u8 2, .int .u8 2, .int .u8 2, .int .u8 19, .int .u8 3, .int .u8 3, .int .u8 3, .int .u8 3, .int .u8 3, .int .u8 3, .int .u8 3, .int .u8 3, .int .u8 3, .int .u8 3, .int .u8 3, .int .u8 3, .int .u8 35, .int .u8 3, .int .u8 3, .int .u8 52, .int .u8 4, .int .u8 4, .int .u8 4, .int .u8 68, .int .u8 241, .int .u8 241, .int .u8 241, .int .u8 241, .int .u8 241, .int .u8 241, .int .u8 241, .int .u8 241, .int .u8 241, .int .u8 241, .int .u8 241]
def acceptCells : Array Value := #[.int .u8 128, .int .u8 191, .int .u8 160, .int .u8 191, .int .u8 128, .int .u8 159, .int .u8 144, .int .u8 191, .int .u8 128, .int .u8 143, .int .u8 0, .int .u8 0, .int .u8 0, .int .u8 0, .int .u8 0, .int .u8 0, .int .u8 0, .int .u8 0, .int .u8 0, .int .u8 0, .int .u8 0, .int .u8 0, .int .u8 0, .int .u8 0, .int .u8 0, .int .u8 0, .int .u8 0, .int .u8 0, .int .u8 0, .int .u8 0, .int .u8 0, .int .u8 0]
def layW (w0 : World) : World :=
  { w0 with heap := (w0.heap.modify 3 fun
      | .cells _ t frozen => .cells firstCells t frozen
      | o => o).modify 4 fun
      | .cells _ t frozen => .cells acceptCells t frozen
      | o => o }
set_option maxRecDepth 100000 in
theorem laidWorld_met (os : Os) (args : Array Value) : laidMetH Tryd.prog Rows.dectextTextsRow.laid ((layW (World.holding Tryd.prog os ⟨#[], #[], []⟩)).forCall (fun _ _ => 0) ⟨#[], args, []⟩).memory := by
  show laidMet Tryd.prog [("unicode/utf8.acceptRanges", Rows.laid_unicode_utf8_acceptRanges), ("unicode/utf8.first", Rows.laid_unicode_utf8_first)] _
  exact (LaidIn.of_run [3, 4] 8 (by kernel_rfl) (by kernel_rfl) (by kernel_rfl) (by kernel_rfl)).met
/-- The end of a row: no argument has memory of its own, nothing that was there has turned. -/
theorem post_mw {H : Type} {enc : TypeId × Value → H} {P : Program} {f : Func} {s : ChangeSpec} {apart fresh handsOn : Bool} {W W' : World} {args : Array Value} {v : Value} {ds gs : List (DataW H)}
    (hW : DataW.Whole enc P f.params.toList s.vars apart W args.toList ds gs [])
    (hres : ∀ (b : Nat) (sp : Nat → Bool) (hd : Bool), DataW.TrodAll enc P W' b sp hd f.resultTypes.toList (v.resultList f.resultTypes.size) (s.fn H (ds ++ gs)).results [])
    (hargs : ∀ sp : Nat → Bool, DataW.TrodAll enc P W' 0 sp true f.params.toList args.toList (s.fn H (ds ++ gs)).args [])
    (hvars : ∀ sp : Nat → Bool, DataW.TrodVars enc P W' sp s.vars (s.fn H (ds ++ gs)).vars []) (hk : V.Mw W W') :
    s.post enc P f apart fresh handsOn false W args v W' :=
  ⟨ds, gs, [], [], [], [], hW, hres _ _ _, hargs _, hvars _, Below.frame hk _, fun h => by cases h⟩
end Go.Proofs.YtdcojpbgijkmgaaDoor
namespace Go.Proofs.YtdcojpbgijkmgaaDoor
open Go.ChangeShapes Go.WideShapes Go.ChangeAt Go.RowKit Go.ChangeMaps
set_option maxHeartbeats 1000000 in
set_option maxRecDepth 100000 in
theorem dectextApart_lifted (os : Os) (started : os.Started) (H : Type) (enc : TypeId × Value → H) :
    ReturnsInHanded {} Tryd.checked os 7 .any (fun w args => (Rows.dectextApartSpec.pre enc Tryd.prog Tryd.f7 [] false w args ∧ laidMetH Tryd.prog Rows.dectextApartRow.laid w) ∧ sizedMet enc Tryd.prog Tryd.f7 (OpenSpec.ofChange Rows.dectextApartSpec) false w args)
      (Rows.dectextApartSpec.post enc Tryd.prog Tryd.f7 false true false false) := by
  refine returnsInHanded_of_change_and (C := Tryd.checked) (X := fun w _ => laidMetH Tryd.prog Rows.dectextApartRow.laid w) (fun _ _ _ hh h => h.of_heap hh) Tryd.own started (by kernel_rfl) Tryd.func7
    (ChangeSpec.witness_at (enc := enc) (C := Tryd.checked) (os := os) (X := fun w _ => laidMetH Tryd.prog Rows.dectextApartRow.laid w) false (layW (World.holding Tryd.prog os ⟨#[], #[], []⟩)) #[.agg #[.bool false, .int .u64 0, .int .u64 0, .int .u64 0, .int .u64 0, .int .i64 0], .agg #[.bool false, .int .u64 0, .int .u64 0, .int .u64 0, .int .u64 0, .int .i64 0]] 8 rfl (by kernel_rfl) (by kernel_rfl) (by kernel_rfl) (by kernel_rfl) (by kernel_rfl) (laidWorld_met os _)) ?_
  intro W base args ds gs before hval0 hW _ _ hL _
  have hval : ∀ (j : Nat) t v, Tryd.f7.params[j]? = some t → args[j]? = some v → Value.okWide Tryd.prog W .any base t v := hval0
  have hW' := hW
  obtain ⟨p, q, hA0, hV, rfl, hfz, hnd⟩ := hW
  have hA : DataW.TrodAll enc Tryd.prog W 0 (fun _ => true) true Tryd.f7.params.toList args.toList ds p := hA0
  rw [Tryd.params7] at hA hval
  obtain ⟨v0, v1, d0, d1, p0, p1, rfl, rfl, rfl, h0, h1⟩ := trodAll_two hA
  obtain ⟨rfl, rfl⟩ := trodVars_none hV
  obtain ⟨ab, a0, a1, a2, a3, az, rfl, rfl, ua, sa, ra⟩ := open_dec (hval 0 26 v0 rfl rfl) h0
  obtain ⟨bb, b0, b1, b2, b3, bz, rfl, rfl, ub, sb, rb⟩ := open_dec (hval 1 26 v1 rfl rfl) h1
  clear hA0 hval0
  simp only [List.append_nil] at hW'
  rw [← dc_vl ua, ← dc_vl ub] at *
  refine (dapart_n ab bb (vl a0 a1 a2 a3) (vl b0 b1 b2 b3) az bz W (vl_bd ua).1 (vl_bd ua).2 (vl_bd ub).1 (vl_bd ub).2).mono fun e W' ⟨he, hg⟩ => ?_
  subst he
  exact ⟨_, rfl, post_mw hW' (fun _ _ _ => trodAll_mk1 (shut_bool Tryd.underlying4 _)) (fun sp => trodAll_mk2 (ra _ sp) (rb _ sp)) (fun _ => rfl) hg⟩
set_option maxRecDepth 100000 in
theorem dectextApart_row : Rows.DectextApartSaid :=
  OpenClaim.holds_of_wide 7 Tryd.f7 rfl rfl rfl rfl rfl rfl rfl ⟨rfl, rfl, rfl, rfl, rfl⟩ rfl rfl rfl rfl rfl (by kernel_rfl) Tryd.func7 (by kernel_rfl)
    (of_decide_eq_true (by kernel_rfl)) (by unfold Func.isWrapper; rw [if_neg (of_decide_eq_false (by kernel_rfl))]; exact ⟨rfl, rfl⟩)
    (fun os started H enc _ => dectextApart_lifted os started H enc)
set_option maxRecDepth 100000 in
theorem dectextApart_holds : Rows.DectextApartCardSaid :=
  Claim7.holds_tied_plain_at .later [] [.data, .pinned] true (true, "ad9bf9484b846ad32c643a4ddb69c760fddb7cd4ef7f69a1332e2087753a176c") false
    dectextApart_row (fun _ h => by cases h) (by kernel_rfl) (fun _ h => by cases h) dectextApart_row_tie rfl ⟨rfl, rfl⟩ (by kernel_rfl) rfl
    (fun f fn hf hfn => by
      obtain rfl : f = 7 := Option.some.inj ((show Tryd.prog.funcNamed "excise/exciselaw03.DectextApart" = some 7 by kernel_rfl).symm.trans hf) |>.symm
      obtain rfl : fn = Tryd.f7 := (Option.some.inj (Tryd.func7.symm.trans hfn)).symm
      exact ⟨by kernel_rfl, fun j t ht => by
        rw [Tryd.params7] at ht
        have h3 : t = 26 := by
          rcases j with _ | _ | j
          · simpa using ht.symm
          · simpa using ht.symm
          · simp at ht
        subst h3
        exact (show Tryd.prog.wantsStandIn 26 = false by kernel_rfl)⟩)
    (by kernel_rfl)
#print axioms dectextApart_holds
end Go.Proofs.YtdcojpbgijkmgaaDoor
