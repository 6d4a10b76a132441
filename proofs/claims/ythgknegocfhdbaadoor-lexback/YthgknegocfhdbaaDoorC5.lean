/-
  A part of the proof.
-/
import Derived.Test.YthgknegocfhdbaaDoorC3
import Derived.Test.YthgknegocfhdbaaDoorC4
import Derived.Test.YthgknegocfhdbaaDoorC1
import Derived.Test.YthgknegocfhdbaaDoorC2
/-
 dectext.isDecimal, Parse and ParseAt.
-/
namespace Go.Proofs.YthgknegocfhdbaaDoor
open Go.RowKit Go.Lib
theorem sz26 : (Tryd.prog.info? 33).map (·.size) = some 6 := by kernel_rfl
theorem nee_run {s : ByteArray} {r : Bool} (h : s.toList.isEmpty = r) (x y : Operand) (w : World) : (do eqGuard .neq 9 x y (.string s) (.string ⟨#[]⟩); binOp .neq 9 (.string s) (.string ⟨#[]⟩)).run Tryd.prog w = .ok (.bool (!r)) w := by
 subst h; simp [go_sem]
theorem eq3_run {a b : Int} {r : Bool} (h : (a == b) = r) (x y : Operand) (w : World) : (do eqGuard .eql 3 x y (.int .i64 a) (.int .i64 b); binOp .eql 3 (.int .i64 a) (.int .i64 b)).run Tryd.prog w = .ok (.bool r) w := by
 subst h; kernel_rfl
theorem tx_size (l : List UInt8) : (⟨l.toArray⟩ : ByteArray).size = l.length := by rw [← by8_len]
theorem len_tx (ρ : Operand → Value) (x : Operand) (l : List UInt8) (hx : ρ x = tx l) (dst : Option Tmp) (type : TypeId) (pos : String) (after : Array Edge) (guard : Option (Nat × Bool)) (w : World) : (execOp ρ { dst, op := .call { callee := .builtin .len, args := #[x], argTypes := #[9] }, type, pos, after, guard }).run Tryd.prog w = .ok (.value (.int .i64 (l.length : Int))) w := by
 rw [← tx_size l]; exact len_run ρ x _ hx dst type pos after guard w
def isDec (s : ByteArray) : Bool := !s.toList.isEmpty && ((pfx s : Int) == (s.size : Int))
theorem isDec_e (s : ByteArray) (w : World) (h0 : s.toList.isEmpty = true) : Calls Tryd.prog 58 #[.string s] w fun e w' => e = .returned (.bool false) ∧ Mo w w' := by
 refine w_enter 12 Tryd.func58 Tryd.ntmps58 rfl rfl ?_
 have M : Mo w w := Mo.refl _
 refine w_seq (w_reg ?_)
 refine wl_m (.const (.bool false)) (.bool false) ?_
 refine w_nil (xn_then (w_seq (w_reg ?_)))
 refine wl_m (.tmp 0) (.string s) ?_
 refine wl_b .neq 9 (.tmp 3) (.const (.string ⟨#[]⟩)) (.string s) (.string ⟨#[]⟩) (.bool false) (nee_run (r := true) h0 _ _ _) ?_
 refine wl_m (.tmp 4) (.bool false) ?_
 refine wl_skip rfl (wl_skip rfl (wl_skip rfl (wl_skip rfl (wl_skip rfl ?_))))
 refine wl_pick (.tmp 5) (.tmp 10) (.const (.bool false)) false (.bool false) (fun _ => rfl) rfl rfl rfl ?_
 refine wl_m (.tmp 11) (.bool false) ?_
 refine w_nil (xn_then (w_ret ?_))
 exact w_ret1 _ _ rfl rfl ⟨rfl, M⟩
theorem isDec_t (s : ByteArray) (w : World) (hs : s.size ≤ maxLen) (h0 : s.toList.isEmpty = false) (h1 : ((pfx s : Int) == (s.size : Int)) = true) : Calls Tryd.prog 58 #[.string s] w fun e w' => e = .returned (.bool true) ∧ Mo w w' := by
 refine w_enter 12 Tryd.func58 Tryd.ntmps58 rfl rfl ?_
 have M : Mo w w := Mo.refl _
 refine w_seq (w_reg ?_)
 refine wl_m (.const (.bool false)) (.bool false) ?_
 refine w_nil (xn_then (w_seq (w_reg ?_)))
 refine wl_m (.tmp 0) (.string s) ?_
 refine wl_b .neq 9 (.tmp 3) (.const (.string ⟨#[]⟩)) (.string s) (.string ⟨#[]⟩) (.bool true) (nee_run (r := false) h0 _ _ _) ?_
 refine wl_m (.tmp 4) (.bool true) ?_
 refine wl_m (.tmp 0) (.string s) ?_
 refine wl_call 47 [(.tmp 6)] _ [.string s] (.int .i64 ((pfx s : Int))) rfl rfl (fun _ _ => by kernel_rfl) (prefix_n s _ hs) rfl ?_
 intro w1 hq
 replace M := M.trans hq
 clear hq
 refine wl_m (.tmp 0) (.string s) ?_
 refine wl_val (.int .i64 ((s.size : Int))) (len_run _ _ s rfl _ _ _ _ _ _) rfl ?_
 refine wl_b .eql 3 (.tmp 7) (.tmp 9) (.int .i64 ((pfx s : Int))) (.int .i64 ((s.size : Int))) (.bool true) (eq3_run h1 _ _ _) ?_
 refine wl_pick (.tmp 5) (.tmp 10) (.const (.bool false)) true (.bool true) (fun _ => rfl) rfl rfl rfl ?_
 refine wl_m (.tmp 11) (.bool true) ?_
 refine w_nil (xn_then (w_ret ?_))
 exact w_ret1 _ _ rfl rfl ⟨rfl, M⟩
theorem isDec_f (s : ByteArray) (w : World) (hs : s.size ≤ maxLen) (h0 : s.toList.isEmpty = false) (h1 : ((pfx s : Int) == (s.size : Int)) = false) : Calls Tryd.prog 58 #[.string s] w fun e w' => e = .returned (.bool false) ∧ Mo w w' := by
 refine w_enter 12 Tryd.func58 Tryd.ntmps58 rfl rfl ?_
 have M : Mo w w := Mo.refl _
 refine w_seq (w_reg ?_)
 refine wl_m (.const (.bool false)) (.bool false) ?_
 refine w_nil (xn_then (w_seq (w_reg ?_)))
 refine wl_m (.tmp 0) (.string s) ?_
 refine wl_b .neq 9 (.tmp 3) (.const (.string ⟨#[]⟩)) (.string s) (.string ⟨#[]⟩) (.bool true) (nee_run (r := false) h0 _ _ _) ?_
 refine wl_m (.tmp 4) (.bool true) ?_
 refine wl_m (.tmp 0) (.string s) ?_
 refine wl_call 47 [(.tmp 6)] _ [.string s] (.int .i64 ((pfx s : Int))) rfl rfl (fun _ _ => by kernel_rfl) (prefix_n s _ hs) rfl ?_
 intro w1 hq
 replace M := M.trans hq
 clear hq
 refine wl_m (.tmp 0) (.string s) ?_
 refine wl_val (.int .i64 ((s.size : Int))) (len_run _ _ s rfl _ _ _ _ _ _) rfl ?_
 refine wl_b .eql 3 (.tmp 7) (.tmp 9) (.int .i64 ((pfx s : Int))) (.int .i64 ((s.size : Int))) (.bool false) (eq3_run h1 _ _ _) ?_
 refine wl_pick (.tmp 5) (.tmp 10) (.const (.bool false)) true (.bool false) (fun _ => rfl) rfl rfl rfl ?_
 refine wl_m (.tmp 11) (.bool false) ?_
 refine w_nil (xn_then (w_ret ?_))
 exact w_ret1 _ _ rfl rfl ⟨rfl, M⟩
theorem isDec_n (s : ByteArray) (w : World) (hs : s.size ≤ maxLen) : Calls Tryd.prog 58 #[.string s] w fun e w' => e = .returned (.bool (isDec s)) ∧ Mo w w' := by
 unfold isDec
 cases h0 : s.toList.isEmpty with
 | true => exact isDec_e s w h0
 | false =>
  cases h1 : ((pfx s : Int) == (s.size : Int)) with
  | true => exact isDec_t s w hs h0 h1
  | false => exact isDec_f s w hs h0 h1
theorem parse_a (s : ByteArray) (w : World) (hi : ∀ w, Calls Tryd.prog 58 #[.string s] w fun e w' => e = .returned (.bool false) ∧ Mo w w') : Calls Tryd.prog 48 #[.string s] w fun e w' => e = .returned (er 30) ∧ Mo w w' := by
 refine w_enter 47 Tryd.func48 Tryd.ntmps48 rfl rfl ?_
 have M : Mo w w := Mo.refl _
 refine w_seq (w_reg ?_)
 refine wl_alloc 33 #[.bool false, .int .u64 0, .int .u64 0, .int .u64 0, .int .u64 0, .int .i64 0] rfl (fun _ => by kernel_rfl) rfl ?_
 intro k1 w1 hk hz hq Q1
 have N_k1 : w.heap.size ≤ k1 := by have := M.size; omega
 replace M := M.trans hq
 clear hk hz hq
 refine wl_m (.const (.int .i64 (0))) (.int .i64 (0)) ?_
 refine w_nil (xn_then (w_seq (w_seq (w_reg ?_))))
 refine wl_m (.tmp 0) (.string s) ?_
 refine wl_call 58 [(.tmp 11)] _ [.string s] (.bool false) rfl rfl (fun _ _ => by kernel_rfl) (hi _) rfl ?_
 intro w2 hq
 replace Q1 := Q1.mo hq
 replace M := M.trans hq
 clear hq
 refine wl_un (fun v => Op.unary .not v) (.tmp 12) (.bool false) (.bool true) (fun _ => rfl) rfl (by kernel_rfl) rfl ?_
 refine w_nil (xn_then (w_condT rfl (w_seq (w_reg ?_))))
 refine wl_build 33 [] [] (.agg #[.bool false, .int .u64 0, .int .u64 0, .int .u64 0, .int .u64 0, .int .i64 0]) rfl rfl (by kernel_rfl) rfl ?_
 refine wl_st 33 (.tmp 2) (.tmp 14) k1 0 #[.bool false, .int .u64 0, .int .u64 0, .int .u64 0, .int .u64 0, .int .i64 0] _ [.bool false, .int .u64 0, .int .u64 0, .int .u64 0, .int .u64 0, .int .i64 0] Q1 rfl rfl rfl rfl rfl sz26 rfl rfl rfl ?_
 intro w3 hS Qn
 replace Q1 := Qn
 clear Qn
 replace M := hS.mo _ N_k1 M
 clear hS
 refine wl_m (.const (.int .i64 (30))) (.int .i64 (30)) ?_
 refine w_nil (xn_then (w_ret (xr_then ?_)))
 exact w_ret2 _ _ (.agg #[.bool false, .int .u64 0, .int .u64 0, .int .u64 0, .int .u64 0, .int .i64 0]) (.int .i64 (30)) rfl ⟨k1, rfl, (run_row Q1 33 0 6 _ rfl Tryd.underlying33 rfl sz26)⟩ rfl ⟨rfl, M⟩
theorem parse_b (s : ByteArray) (w : World) (hi : ∀ w, Calls Tryd.prog 58 #[.string s] w fun e w' => e = .returned (.bool true) ∧ Mo w w') (dg x1 x2 : List UInt8) (neg x3 : Bool)
  (hC : ∀ w, Calls Tryd.prog 59 #[.string s, .string ⟨#[45]⟩] w fun e w' => e = .returned (.tuple #[tx dg, .bool neg]) ∧ Mo w w')
  (hD : ∀ w, Calls Tryd.prog 60 #[tx dg, .string ⟨#[46]⟩] w fun e w' => e = .returned (.tuple #[tx x1, tx x2, .bool x3]) ∧ Mo w w') (hl : decide ((x2.length : Int) > 18) = true) : Calls Tryd.prog 48 #[.string s] w fun e w' => e = .returned (er 31) ∧ Mo w w' := by
 refine w_enter 47 Tryd.func48 Tryd.ntmps48 rfl rfl ?_
 have M : Mo w w := Mo.refl _
 refine w_seq (w_reg ?_)
 refine wl_alloc 33 #[.bool false, .int .u64 0, .int .u64 0, .int .u64 0, .int .u64 0, .int .i64 0] rfl (fun _ => by kernel_rfl) rfl ?_
 intro k1 w1 hk hz hq Q1
 have N_k1 : w.heap.size ≤ k1 := by have := M.size; omega
 replace M := M.trans hq
 clear hk hz hq
 refine wl_m (.const (.int .i64 (0))) (.int .i64 (0)) ?_
 refine w_nil (xn_then (w_seq (w_seq (w_reg ?_))))
 refine wl_m (.tmp 0) (.string s) ?_
 refine wl_call 58 [(.tmp 11)] _ [.string s] (.bool true) rfl rfl (fun _ _ => by kernel_rfl) (hi _) rfl ?_
 intro w2 hq
 replace Q1 := Q1.mo hq
 replace M := M.trans hq
 clear hq
 refine wl_un (fun v => Op.unary .not v) (.tmp 12) (.bool true) (.bool false) (fun _ => rfl) rfl (by kernel_rfl) rfl ?_
 refine w_nil (xn_then (w_condF rfl (w_skip (xn_then (w_seq (w_reg ?_))))))
 refine wl_m (.tmp 0) (.string s) ?_
 refine wl_call 59 [(.tmp 16), (.const (.string ⟨#[45]⟩))] _ [.string s, .string ⟨#[45]⟩] (.tuple #[tx dg, .bool (neg)]) rfl rfl (fun _ _ => by kernel_rfl) (hC _) rfl ?_
 intro w3 hq
 replace Q1 := Q1.mo hq
 replace M := M.trans hq
 clear hq
 refine wl_m (.tmp 17) (.tuple #[tx dg, .bool (neg)]) ?_
 refine wl_un (fun v => Instr.extract v 0) (.tmp 15) (.tuple #[tx dg, .bool (neg)]) (tx dg) (fun _ => rfl) rfl (by kernel_rfl) rfl ?_
 refine wl_un (fun v => Instr.extract v 1) (.tmp 15) (.tuple #[tx dg, .bool (neg)]) (.bool (neg)) (fun _ => rfl) rfl (by kernel_rfl) rfl ?_
 refine wl_m (.tmp 18) (tx dg) ?_
 refine wl_m (.tmp 19) (.bool (neg)) ?_
 refine w_nil (xn_then (w_seq (w_reg ?_)))
 refine wl_m (.tmp 4) (tx dg) ?_
 refine wl_call 60 [(.tmp 21), (.const (.string ⟨#[46]⟩))] _ [tx dg, .string ⟨#[46]⟩] (.tuple #[tx x1, tx x2, .bool (x3)]) rfl rfl (fun _ _ => by kernel_rfl) (hD _) rfl ?_
 intro w4 hq
 replace Q1 := Q1.mo hq
 replace M := M.trans hq
 clear hq
 refine wl_m (.tmp 22) (.tuple #[tx x1, tx x2, .bool (x3)]) ?_
 refine wl_un (fun v => Instr.extract v 0) (.tmp 20) (.tuple #[tx x1, tx x2, .bool (x3)]) (tx x1) (fun _ => rfl) rfl (by kernel_rfl) rfl ?_
 refine wl_un (fun v => Instr.extract v 1) (.tmp 20) (.tuple #[tx x1, tx x2, .bool (x3)]) (tx x2) (fun _ => rfl) rfl (by kernel_rfl) rfl ?_
 refine wl_un (fun v => Instr.extract v 2) (.tmp 20) (.tuple #[tx x1, tx x2, .bool (x3)]) (.bool (x3)) (fun _ => rfl) rfl (by kernel_rfl) rfl ?_
 refine wl_m (.tmp 23) (tx x1) ?_
 refine wl_m (.tmp 24) (tx x2) ?_
 refine wl_m (.tmp 25) (.bool (x3)) ?_
 refine w_nil (xn_then (w_seq (w_seq (w_reg ?_))))
 refine wl_m (.tmp 7) (tx x2) ?_
 refine wl_val (.int .i64 ((x2.length : Int))) (len_tx _ _ x2 rfl _ _ _ _ _ _) rfl ?_
 refine wl_b .gtr 3 (.tmp 27) (.const (.int .i64 (18))) (.int .i64 ((x2.length : Int))) (.int .i64 (18)) (.bool true) (gt3_run hl _ _ _) ?_
 refine w_nil (xn_then (w_condT rfl (w_seq (w_reg ?_))))
 refine wl_build 33 [] [] (.agg #[.bool false, .int .u64 0, .int .u64 0, .int .u64 0, .int .u64 0, .int .i64 0]) rfl rfl (by kernel_rfl) rfl ?_
 refine wl_st 33 (.tmp 2) (.tmp 29) k1 0 #[.bool false, .int .u64 0, .int .u64 0, .int .u64 0, .int .u64 0, .int .i64 0] _ [.bool false, .int .u64 0, .int .u64 0, .int .u64 0, .int .u64 0, .int .i64 0] Q1 rfl rfl rfl rfl rfl sz26 rfl rfl rfl ?_
 intro w5 hS Qn
 replace Q1 := Qn
 clear Qn
 replace M := hS.mo _ N_k1 M
 clear hS
 refine wl_m (.const (.int .i64 (31))) (.int .i64 (31)) ?_
 refine w_nil (xn_then (w_ret (xr_then ?_)))
 exact w_ret2 _ _ (.agg #[.bool false, .int .u64 0, .int .u64 0, .int .u64 0, .int .u64 0, .int .i64 0]) (.int .i64 (31)) rfl ⟨k1, rfl, (run_row Q1 33 0 6 _ rfl Tryd.underlying33 rfl sz26)⟩ rfl ⟨rfl, M⟩
theorem parse_c (s : ByteArray) (w : World) (hi : ∀ w, Calls Tryd.prog 58 #[.string s] w fun e w' => e = .returned (.bool true) ∧ Mo w w') (dg x1 x2 : List UInt8) (neg x3 : Bool)
  (hC : ∀ w, Calls Tryd.prog 59 #[.string s, .string ⟨#[45]⟩] w fun e w' => e = .returned (.tuple #[tx dg, .bool neg]) ∧ Mo w w')
  (hD : ∀ w, Calls Tryd.prog 60 #[tx dg, .string ⟨#[46]⟩] w fun e w' => e = .returned (.tuple #[tx x1, tx x2, .bool x3]) ∧ Mo w w')
  (z : List UInt8) (hl : decide ((x2.length : Int) > 18) = false) (hcat : x1.length + x2.length ≤ 9223372036854775807)
  (y : ByteArray) (hy : (⟨x1.toArray⟩ : ByteArray) ++ ⟨x2.toArray⟩ = y) (hZ : ∀ w, Calls Tryd.prog 62 #[.string y] w fun e w' => e = .returned (tx z) ∧ Mo w w') (N E : Int)
  (hP : ∀ w, Calls Tryd.prog 61 #[tx z] w fun e w' => e = .returned (.tuple #[nv N, .int .i64 E]) ∧ Mo w w') (hE : (E == 0) = false) : Calls Tryd.prog 48 #[.string s] w fun e w' => e = .returned (er E) ∧ Mo w w' := by
 refine w_enter 47 Tryd.func48 Tryd.ntmps48 rfl rfl ?_
 have M : Mo w w := Mo.refl _
 refine w_seq (w_reg ?_)
 refine wl_alloc 33 #[.bool false, .int .u64 0, .int .u64 0, .int .u64 0, .int .u64 0, .int .i64 0] rfl (fun _ => by kernel_rfl) rfl ?_
 intro k1 w1 hk hz hq Q1
 have N_k1 : w.heap.size ≤ k1 := by have := M.size; omega
 replace M := M.trans hq
 clear hk hz hq
 refine wl_m (.const (.int .i64 (0))) (.int .i64 (0)) ?_
 refine w_nil (xn_then (w_seq (w_seq (w_reg ?_))))
 refine wl_m (.tmp 0) (.string s) ?_
 refine wl_call 58 [(.tmp 11)] _ [.string s] (.bool true) rfl rfl (fun _ _ => by kernel_rfl) (hi _) rfl ?_
 intro w2 hq
 replace Q1 := Q1.mo hq
 replace M := M.trans hq
 clear hq
 refine wl_un (fun v => Op.unary .not v) (.tmp 12) (.bool true) (.bool false) (fun _ => rfl) rfl (by kernel_rfl) rfl ?_
 refine w_nil (xn_then (w_condF rfl (w_skip (xn_then (w_seq (w_reg ?_))))))
 refine wl_m (.tmp 0) (.string s) ?_
 refine wl_call 59 [(.tmp 16), (.const (.string ⟨#[45]⟩))] _ [.string s, .string ⟨#[45]⟩] (.tuple #[tx dg, .bool (neg)]) rfl rfl (fun _ _ => by kernel_rfl) (hC _) rfl ?_
 intro w3 hq
 replace Q1 := Q1.mo hq
 replace M := M.trans hq
 clear hq
 refine wl_m (.tmp 17) (.tuple #[tx dg, .bool (neg)]) ?_
 refine wl_un (fun v => Instr.extract v 0) (.tmp 15) (.tuple #[tx dg, .bool (neg)]) (tx dg) (fun _ => rfl) rfl (by kernel_rfl) rfl ?_
 refine wl_un (fun v => Instr.extract v 1) (.tmp 15) (.tuple #[tx dg, .bool (neg)]) (.bool (neg)) (fun _ => rfl) rfl (by kernel_rfl) rfl ?_
 refine wl_m (.tmp 18) (tx dg) ?_
 refine wl_m (.tmp 19) (.bool (neg)) ?_
 refine w_nil (xn_then (w_seq (w_reg ?_)))
 refine wl_m (.tmp 4) (tx dg) ?_
 refine wl_call 60 [(.tmp 21), (.const (.string ⟨#[46]⟩))] _ [tx dg, .string ⟨#[46]⟩] (.tuple #[tx x1, tx x2, .bool (x3)]) rfl rfl (fun _ _ => by kernel_rfl) (hD _) rfl ?_
 intro w4 hq
 replace Q1 := Q1.mo hq
 replace M := M.trans hq
 clear hq
 refine wl_m (.tmp 22) (.tuple #[tx x1, tx x2, .bool (x3)]) ?_
 refine wl_un (fun v => Instr.extract v 0) (.tmp 20) (.tuple #[tx x1, tx x2, .bool (x3)]) (tx x1) (fun _ => rfl) rfl (by kernel_rfl) rfl ?_
 refine wl_un (fun v => Instr.extract v 1) (.tmp 20) (.tuple #[tx x1, tx x2, .bool (x3)]) (tx x2) (fun _ => rfl) rfl (by kernel_rfl) rfl ?_
 refine wl_un (fun v => Instr.extract v 2) (.tmp 20) (.tuple #[tx x1, tx x2, .bool (x3)]) (.bool (x3)) (fun _ => rfl) rfl (by kernel_rfl) rfl ?_
 refine wl_m (.tmp 23) (tx x1) ?_
 refine wl_m (.tmp 24) (tx x2) ?_
 refine wl_m (.tmp 25) (.bool (x3)) ?_
 refine w_nil (xn_then (w_seq (w_seq (w_reg ?_))))
 refine wl_m (.tmp 7) (tx x2) ?_
 refine wl_val (.int .i64 ((x2.length : Int))) (len_tx _ _ x2 rfl _ _ _ _ _ _) rfl ?_
 refine wl_b .gtr 3 (.tmp 27) (.const (.int .i64 (18))) (.int .i64 ((x2.length : Int))) (.int .i64 (18)) (.bool false) (gt3_run hl _ _ _) ?_
 refine w_nil (xn_then (w_condF rfl (w_skip (xn_then (w_seq (w_reg ?_))))))
 refine wl_m (.tmp 6) (tx x1) ?_
 refine wl_m (.tmp 7) (tx x2) ?_
 refine wl_b .add 9 (.tmp 31) (.tmp 32) (tx x1) (tx x2) (.string y) (by rw [← hy]; exact V.cat_run _ _ (by rw [tx_size, tx_size]; exact hcat) _ _ _) ?_
 refine wl_call 62 [(.tmp 33)] _ [.string y] (tx z) rfl rfl (fun _ _ => by kernel_rfl) (hZ _) rfl ?_
 intro w5 hq
 replace Q1 := Q1.mo hq
 replace M := M.trans hq
 clear hq
 refine wl_call 61 [(.tmp 34)] _ [tx z] (.tuple #[.agg #[.int .u64 (l0 (N)), .int .u64 (l1 (N)), .int .u64 (l2 (N)), .int .u64 (l3 (N))], .int .i64 (E)]) rfl rfl (fun _ _ => by kernel_rfl) (hP _) rfl ?_
 intro w6 hq
 replace Q1 := Q1.mo hq
 replace M := M.trans hq
 clear hq
 refine wl_m (.tmp 35) (.tuple #[.agg #[.int .u64 (l0 (N)), .int .u64 (l1 (N)), .int .u64 (l2 (N)), .int .u64 (l3 (N))], .int .i64 (E)]) ?_
 refine wl_un (fun v => Instr.extract v 0) (.tmp 30) (.tuple #[.agg #[.int .u64 (l0 (N)), .int .u64 (l1 (N)), .int .u64 (l2 (N)), .int .u64 (l3 (N))], .int .i64 (E)]) (.agg #[.int .u64 (l0 (N)), .int .u64 (l1 (N)), .int .u64 (l2 (N)), .int .u64 (l3 (N))]) (fun _ => rfl) rfl (by kernel_rfl) rfl ?_
 refine wl_un (fun v => Instr.extract v 1) (.tmp 30) (.tuple #[.agg #[.int .u64 (l0 (N)), .int .u64 (l1 (N)), .int .u64 (l2 (N)), .int .u64 (l3 (N))], .int .i64 (E)]) (.int .i64 (E)) (fun _ => rfl) rfl (by kernel_rfl) rfl ?_
 refine wl_alloc 31 #[.int .u64 0, .int .u64 0, .int .u64 0, .int .u64 0] rfl (fun _ => by kernel_rfl) rfl ?_
 intro k2 w7 hk hz hq Q2
 have ne_k1_k2 : k1 ≠ k2 := by have := Q1.lt; omega
 have N_k2 : w.heap.size ≤ k2 := by have := M.size; omega
 replace Q1 := Q1.mo hq
 replace M := M.trans hq
 clear hk hz hq
 refine wl_st 31 (.tmp 9) (.tmp 36) k2 0 #[.int .u64 (l0 (N)), .int .u64 (l1 (N)), .int .u64 (l2 (N)), .int .u64 (l3 (N))] _ [.int .u64 (l0 (N)), .int .u64 (l1 (N)), .int .u64 (l2 (N)), .int .u64 (l3 (N))] Q2 rfl rfl rfl rfl rfl sz24 rfl rfl rfl ?_
 intro w8 hS Qn
 replace Q2 := Qn
 clear Qn
 replace Q1 := hS.other _ _ ne_k1_k2 Q1
 replace M := hS.mo _ N_k2 M
 clear hS
 refine wl_m (.tmp 37) (.int .i64 (E)) ?_
 refine w_nil (xn_then (w_seq (w_seq (w_reg ?_))))
 refine wl_m (.tmp 10) (.int .i64 (E)) ?_
 refine wl_b .neq 23 (.tmp 38) (.const (.int .i64 (0))) (.int .i64 (E)) (.int .i64 (0)) (.bool true) (V.neE (r := false) hE _ _ _) ?_
 refine w_nil (xn_then (w_condT rfl (w_seq (w_reg ?_))))
 refine wl_build 33 [] [] (.agg #[.bool false, .int .u64 0, .int .u64 0, .int .u64 0, .int .u64 0, .int .i64 0]) rfl rfl (by kernel_rfl) rfl ?_
 refine wl_m (.tmp 10) (.int .i64 (E)) ?_
 refine wl_st 33 (.tmp 2) (.tmp 40) k1 0 #[.bool false, .int .u64 0, .int .u64 0, .int .u64 0, .int .u64 0, .int .i64 0] _ [.bool false, .int .u64 0, .int .u64 0, .int .u64 0, .int .u64 0, .int .i64 0] Q1 rfl rfl rfl rfl rfl sz26 rfl rfl rfl ?_
 intro w9 hS Qn
 replace Q1 := Qn
 clear Qn
 replace Q2 := hS.other _ _ ne_k1_k2.symm Q2
 replace M := hS.mo _ N_k1 M
 clear hS
 refine wl_m (.tmp 41) (.int .i64 (E)) ?_
 refine w_nil (xn_then (w_ret (xr_then ?_)))
 exact w_ret2 _ _ (.agg #[.bool false, .int .u64 0, .int .u64 0, .int .u64 0, .int .u64 0, .int .i64 0]) (.int .i64 (E)) rfl ⟨k1, rfl, (run_row Q1 33 0 6 _ rfl Tryd.underlying33 rfl sz26)⟩ rfl ⟨rfl, M⟩
theorem parse_d (s : ByteArray) (w : World) (hi : ∀ w, Calls Tryd.prog 58 #[.string s] w fun e w' => e = .returned (.bool true) ∧ Mo w w') (dg x1 x2 : List UInt8) (neg x3 : Bool)
  (hC : ∀ w, Calls Tryd.prog 59 #[.string s, .string ⟨#[45]⟩] w fun e w' => e = .returned (.tuple #[tx dg, .bool neg]) ∧ Mo w w')
  (hD : ∀ w, Calls Tryd.prog 60 #[tx dg, .string ⟨#[46]⟩] w fun e w' => e = .returned (.tuple #[tx x1, tx x2, .bool x3]) ∧ Mo w w')
  (z : List UInt8) (hl : decide ((x2.length : Int) > 18) = false) (hcat : x1.length + x2.length ≤ 9223372036854775807)
  (y : ByteArray) (hy : (⟨x1.toArray⟩ : ByteArray) ++ ⟨x2.toArray⟩ = y) (hZ : ∀ w, Calls Tryd.prog 62 #[.string y] w fun e w' => e = .returned (tx z) ∧ Mo w w') (N E : Int)
  (hP : ∀ w, Calls Tryd.prog 61 #[tx z] w fun e w' => e = .returned (.tuple #[nv N, .int .i64 E]) ∧ Mo w w') (hE : (E == 0) = true) : Calls Tryd.prog 48 #[.string s] w fun e w' => e = .returned (.tuple #[dc neg N (x2.length : Int), .int .i64 0]) ∧ Mo w w' := by
 refine w_enter 47 Tryd.func48 Tryd.ntmps48 rfl rfl ?_
 have M : Mo w w := Mo.refl _
 refine w_seq (w_reg ?_)
 refine wl_alloc 33 #[.bool false, .int .u64 0, .int .u64 0, .int .u64 0, .int .u64 0, .int .i64 0] rfl (fun _ => by kernel_rfl) rfl ?_
 intro k1 w1 hk hz hq Q1
 have N_k1 : w.heap.size ≤ k1 := by have := M.size; omega
 replace M := M.trans hq
 clear hk hz hq
 refine wl_m (.const (.int .i64 (0))) (.int .i64 (0)) ?_
 refine w_nil (xn_then (w_seq (w_seq (w_reg ?_))))
 refine wl_m (.tmp 0) (.string s) ?_
 refine wl_call 58 [(.tmp 11)] _ [.string s] (.bool true) rfl rfl (fun _ _ => by kernel_rfl) (hi _) rfl ?_
 intro w2 hq
 replace Q1 := Q1.mo hq
 replace M := M.trans hq
 clear hq
 refine wl_un (fun v => Op.unary .not v) (.tmp 12) (.bool true) (.bool false) (fun _ => rfl) rfl (by kernel_rfl) rfl ?_
 refine w_nil (xn_then (w_condF rfl (w_skip (xn_then (w_seq (w_reg ?_))))))
 refine wl_m (.tmp 0) (.string s) ?_
 refine wl_call 59 [(.tmp 16), (.const (.string ⟨#[45]⟩))] _ [.string s, .string ⟨#[45]⟩] (.tuple #[tx dg, .bool (neg)]) rfl rfl (fun _ _ => by kernel_rfl) (hC _) rfl ?_
 intro w3 hq
 replace Q1 := Q1.mo hq
 replace M := M.trans hq
 clear hq
 refine wl_m (.tmp 17) (.tuple #[tx dg, .bool (neg)]) ?_
 refine wl_un (fun v => Instr.extract v 0) (.tmp 15) (.tuple #[tx dg, .bool (neg)]) (tx dg) (fun _ => rfl) rfl (by kernel_rfl) rfl ?_
 refine wl_un (fun v => Instr.extract v 1) (.tmp 15) (.tuple #[tx dg, .bool (neg)]) (.bool (neg)) (fun _ => rfl) rfl (by kernel_rfl) rfl ?_
 refine wl_m (.tmp 18) (tx dg) ?_
 refine wl_m (.tmp 19) (.bool (neg)) ?_
 refine w_nil (xn_then (w_seq (w_reg ?_)))
 refine wl_m (.tmp 4) (tx dg) ?_
 refine wl_call 60 [(.tmp 21), (.const (.string ⟨#[46]⟩))] _ [tx dg, .string ⟨#[46]⟩] (.tuple #[tx x1, tx x2, .bool (x3)]) rfl rfl (fun _ _ => by kernel_rfl) (hD _) rfl ?_
 intro w4 hq
 replace Q1 := Q1.mo hq
 replace M := M.trans hq
 clear hq
 refine wl_m (.tmp 22) (.tuple #[tx x1, tx x2, .bool (x3)]) ?_
 refine wl_un (fun v => Instr.extract v 0) (.tmp 20) (.tuple #[tx x1, tx x2, .bool (x3)]) (tx x1) (fun _ => rfl) rfl (by kernel_rfl) rfl ?_
 refine wl_un (fun v => Instr.extract v 1) (.tmp 20) (.tuple #[tx x1, tx x2, .bool (x3)]) (tx x2) (fun _ => rfl) rfl (by kernel_rfl) rfl ?_
 refine wl_un (fun v => Instr.extract v 2) (.tmp 20) (.tuple #[tx x1, tx x2, .bool (x3)]) (.bool (x3)) (fun _ => rfl) rfl (by kernel_rfl) rfl ?_
 refine wl_m (.tmp 23) (tx x1) ?_
 refine wl_m (.tmp 24) (tx x2) ?_
 refine wl_m (.tmp 25) (.bool (x3)) ?_
 refine w_nil (xn_then (w_seq (w_seq (w_reg ?_))))
 refine wl_m (.tmp 7) (tx x2) ?_
 refine wl_val (.int .i64 ((x2.length : Int))) (len_tx _ _ x2 rfl _ _ _ _ _ _) rfl ?_
 refine wl_b .gtr 3 (.tmp 27) (.const (.int .i64 (18))) (.int .i64 ((x2.length : Int))) (.int .i64 (18)) (.bool false) (gt3_run hl _ _ _) ?_
 refine w_nil (xn_then (w_condF rfl (w_skip (xn_then (w_seq (w_reg ?_))))))
 refine wl_m (.tmp 6) (tx x1) ?_
 refine wl_m (.tmp 7) (tx x2) ?_
 refine wl_b .add 9 (.tmp 31) (.tmp 32) (tx x1) (tx x2) (.string y) (by rw [← hy]; exact V.cat_run _ _ (by rw [tx_size, tx_size]; exact hcat) _ _ _) ?_
 refine wl_call 62 [(.tmp 33)] _ [.string y] (tx z) rfl rfl (fun _ _ => by kernel_rfl) (hZ _) rfl ?_
 intro w5 hq
 replace Q1 := Q1.mo hq
 replace M := M.trans hq
 clear hq
 refine wl_call 61 [(.tmp 34)] _ [tx z] (.tuple #[.agg #[.int .u64 (l0 (N)), .int .u64 (l1 (N)), .int .u64 (l2 (N)), .int .u64 (l3 (N))], .int .i64 (E)]) rfl rfl (fun _ _ => by kernel_rfl) (hP _) rfl ?_
 intro w6 hq
 replace Q1 := Q1.mo hq
 replace M := M.trans hq
 clear hq
 refine wl_m (.tmp 35) (.tuple #[.agg #[.int .u64 (l0 (N)), .int .u64 (l1 (N)), .int .u64 (l2 (N)), .int .u64 (l3 (N))], .int .i64 (E)]) ?_
 refine wl_un (fun v => Instr.extract v 0) (.tmp 30) (.tuple #[.agg #[.int .u64 (l0 (N)), .int .u64 (l1 (N)), .int .u64 (l2 (N)), .int .u64 (l3 (N))], .int .i64 (E)]) (.agg #[.int .u64 (l0 (N)), .int .u64 (l1 (N)), .int .u64 (l2 (N)), .int .u64 (l3 (N))]) (fun _ => rfl) rfl (by kernel_rfl) rfl ?_
 refine wl_un (fun v => Instr.extract v 1) (.tmp 30) (.tuple #[.agg #[.int .u64 (l0 (N)), .int .u64 (l1 (N)), .int .u64 (l2 (N)), .int .u64 (l3 (N))], .int .i64 (E)]) (.int .i64 (E)) (fun _ => rfl) rfl (by kernel_rfl) rfl ?_
 refine wl_alloc 31 #[.int .u64 0, .int .u64 0, .int .u64 0, .int .u64 0] rfl (fun _ => by kernel_rfl) rfl ?_
 intro k2 w7 hk hz hq Q2
 have ne_k1_k2 : k1 ≠ k2 := by have := Q1.lt; omega
 have N_k2 : w.heap.size ≤ k2 := by have := M.size; omega
 replace Q1 := Q1.mo hq
 replace M := M.trans hq
 clear hk hz hq
 refine wl_st 31 (.tmp 9) (.tmp 36) k2 0 #[.int .u64 (l0 (N)), .int .u64 (l1 (N)), .int .u64 (l2 (N)), .int .u64 (l3 (N))] _ [.int .u64 (l0 (N)), .int .u64 (l1 (N)), .int .u64 (l2 (N)), .int .u64 (l3 (N))] Q2 rfl rfl rfl rfl rfl sz24 rfl rfl rfl ?_
 intro w8 hS Qn
 replace Q2 := Qn
 clear Qn
 replace Q1 := hS.other _ _ ne_k1_k2 Q1
 replace M := hS.mo _ N_k2 M
 clear hS
 refine wl_m (.tmp 37) (.int .i64 (E)) ?_
 refine w_nil (xn_then (w_seq (w_seq (w_reg ?_))))
 refine wl_m (.tmp 10) (.int .i64 (E)) ?_
 refine wl_b .neq 23 (.tmp 38) (.const (.int .i64 (0))) (.int .i64 (E)) (.int .i64 (0)) (.bool false) (V.neE (r := true) hE _ _ _) ?_
 refine w_nil (xn_then (w_condF rfl (w_skip (xn_then (w_seq (w_reg ?_))))))
 refine wl_m (.tmp 5) (.bool (neg)) ?_
 refine wl_l 31 (.tmp 9) (pt k2 0) (.agg #[.int .u64 (l0 (N)), .int .u64 (l1 (N)), .int .u64 (l2 (N)), .int .u64 (l3 (N))]) (run_row Q2 31 0 4 _ rfl Tryd.underlying31 rfl sz24) ?_
 refine wl_m (.tmp 7) (tx x2) ?_
 refine wl_val (.int .i64 ((x2.length : Int))) (len_tx _ _ x2 rfl _ _ _ _ _ _) rfl ?_
 refine wl_build 33 [(0, (.tmp 42)), (1, (.tmp 43)), (2, (.tmp 45))] [(0, .bool (neg)), (1, .agg #[.int .u64 (l0 (N)), .int .u64 (l1 (N)), .int .u64 (l2 (N)), .int .u64 (l3 (N))]), (2, .int .i64 ((x2.length : Int)))] (.agg #[.bool (neg), .int .u64 (l0 (N)), .int .u64 (l1 (N)), .int .u64 (l2 (N)), .int .u64 (l3 (N)), .int .i64 ((x2.length : Int))]) rfl rfl (by kernel_rfl) rfl ?_
 refine wl_st 33 (.tmp 2) (.tmp 46) k1 0 #[.bool (neg), .int .u64 (l0 (N)), .int .u64 (l1 (N)), .int .u64 (l2 (N)), .int .u64 (l3 (N)), .int .i64 ((x2.length : Int))] _ [.bool (neg), .int .u64 (l0 (N)), .int .u64 (l1 (N)), .int .u64 (l2 (N)), .int .u64 (l3 (N)), .int .i64 ((x2.length : Int))] Q1 rfl rfl rfl rfl rfl sz26 rfl rfl rfl ?_
 intro w9 hS Qn
 replace Q1 := Qn
 clear Qn
 replace Q2 := hS.other _ _ ne_k1_k2.symm Q2
 replace M := hS.mo _ N_k1 M
 clear hS
 refine wl_m (.const (.int .i64 (0))) (.int .i64 (0)) ?_
 refine w_nil (xn_then (w_ret ?_))
 exact w_ret2 _ _ (.agg #[.bool (neg), .int .u64 (l0 (N)), .int .u64 (l1 (N)), .int .u64 (l2 (N)), .int .u64 (l3 (N)), .int .i64 ((x2.length : Int))]) (.int .i64 (0)) rfl ⟨k1, rfl, (run_row Q1 33 0 6 _ rfl Tryd.underlying33 rfl sz26)⟩ rfl ⟨rfl, M⟩
end Go.Proofs.YthgknegocfhdbaaDoor

/-
 Runs of digits; when a text is a decimal one, in closed form.
-/
namespace Go.Proofs.YthgknegocfhdbaaDoor
open Go.RowKit
theorem re_ge (s : ByteArray) (k : Nat) : k ≤ re s k := by
 by_cases h : dgt (bt s k) = true
 ·rw [re_on h]; have := re_ge s (k + 1); omega
 ·rw [re_end (by simpa using h)]; omega
termination_by s.size - k
decreasing_by have := dgt_in h; omega
theorem re_lt {s : ByteArray} {k : Nat} (h : dgt (bt s k) = true) : k < re s k := by
 rw [re_on h]; have := re_ge s (k + 1); omega
theorem re_le {s : ByteArray} {k : Nat} (hk : k ≤ s.size) : re s k ≤ s.size := by
 by_cases h : dgt (bt s k) = true
 ·rw [re_on h]; have := dgt_in h; exact re_le (by omega)
 ·rw [re_end (by simpa using h)]; omega
termination_by s.size - k
decreasing_by omega
theorem re_stop (s : ByteArray) (k : Nat) : dgt (bt s (re s k)) = false := by
 by_cases h : dgt (bt s k) = true
 ·rw [re_on h]; exact re_stop s (k + 1)
 ·rw [re_end (by simpa using h)]; simpa using h
termination_by s.size - k
decreasing_by have := dgt_in h; omega
theorem re_in {s : ByteArray} {k j : Nat} (h1 : k ≤ j) (h2 : j < re s k) : dgt (bt s j) = true := by
 by_cases h : dgt (bt s k) = true
 ·by_cases e : k = j
  ·subst e; exact h
  ·rw [re_on h] at h2; exact re_in (k := k + 1) (by omega) h2
 ·rw [re_end (by simpa using h)] at h2; omega
termination_by s.size - k
decreasing_by have := dgt_in h; omega
theorem re_eq {s : ByteArray} {k e : Nat} (h1 : k ≤ e) (h2 : ∀ j, k ≤ j → j < e → dgt (bt s j) = true) (h3 : dgt (bt s e) = false) : re s k = e := by
 by_cases hk : k = e
 ·subst hk; exact re_end h3
 ·have hd := h2 k (Nat.le_refl _) (by omega)
  rw [re_on hd]
  exact re_eq (by omega) (fun j a b => h2 j (by omega) b) h3
termination_by e - k
theorem az_iff {s : ByteArray} {k : Nat} : az s k = true ↔ ∀ j, k ≤ j → j < re s k → bt s j = 48 := by
 by_cases h : dgt (bt s k) = true
 ·rw [az_on h, Bool.and_eq_true, az_iff (s := s) (k := k + 1), re_on h]
  constructor
  ·rintro ⟨a, b⟩ j h1 h2
   by_cases e : k = j
   ·subst e; exact eq_of_beq a
   ·exact b j (by omega) h2
  ·intro a
   have := re_ge s (k + 1)
   exact ⟨by rw [a k (Nat.le_refl _) (by omega)]; rfl, fun j h1 h2 => a j (by omega) h2⟩
 ·have h' : dgt (bt s k) = false := by simpa using h
  rw [az_end h', re_end h']
  exact ⟨fun _ j a b => by omega, fun _ => rfl⟩
termination_by s.size - k
decreasing_by have := dgt_in h; omega
def whp (s : ByteArray) (p : Nat) (b : Bool) : Bool :=
 decide (re s p ≠ p) && !((bt s p == 48) && decide (re s p > p + 1)) &&
  (if re s p < s.size then (bt s (re s p) == 46) && decide (re s p + 1 ≠ s.size) && decide (re s (re s p + 1) = s.size) && (!az s p || !az s (re s p + 1) || !b) else (!az s p || !b))
def whl (s : ByteArray) : Bool := if bt s 0 == 45 then whp s 1 true else whp s 0 false
theorem ah_of {s : ByteArray} {e : Nat} {b : Bool} (hs : 0 < s.size) (hel : e ≤ s.size) :
  (ah s e b 0 = s.size) ↔ (if e < s.size then bt s e = 46 ∧ e + 1 ≠ s.size ∧ re s (e + 1) = s.size ∧ (az s (e + 1) = false ∨ b = false) else b = false) := by
 unfold ah
 by_cases he : e < s.size
 ·rw [if_pos he]
  by_cases h46 : bt s e = 46
  ·rw [h46]
   by_cases hd : dgt (bt s (e + 1)) = true
   ·have := re_lt hd; have := dgt_in hd
    rw [hd]
    cases hb : b <;> cases ha : az s (e + 1) <;> simp <;> omega
   ·have hd' : dgt (bt s (e + 1)) = false := by simpa using hd
    rw [hd', re_end hd']
    cases hb : b <;> simp <;> omega
  ·have : (bt s e == 46) = false := beq_eq_false_iff_ne.2 h46
   rw [this]
   cases hb : b <;> simp [h46] <;> omega
 ·rw [if_neg he]
  have e1 : e = s.size := by omega
  have : bt s e = 0 := bt_out he
  rw [this]
  cases hb : b <;> simp <;> omega
theorem fi_whp {s : ByteArray} {p : Nat} {b : Bool} (hs : 0 < s.size) (hp : p ≤ s.size) : decide (fi s p b = s.size) = whp s p b := by
 rw [Bool.eq_iff_iff, decide_eq_true_iff]
 unfold fi whp
 by_cases h48 : bt s p = 48
 ·have hd : dgt (bt s p) = true := by rw [h48]; rfl
  have hin := dgt_in hd
  rw [h48, re_on hd, az_on hd, h48]
  simp only [beq_self_eq_true, if_true, Bool.true_and]
  have hge := re_ge s (p + 1)
  by_cases hd2 : dgt (bt s (p + 1)) = true
  ·have hl := re_lt hd2; have := dgt_in hd2
   have h46 : (bt s (p + 1) == 46) = false := by
    cases h : (bt s (p + 1) == 46) with
    | false => rfl
    | true => rw [eq_of_beq h] at hd2; cases hd2
   unfold ah
   rw [h46]
   cases b <;> simp <;> omega
  ·have hd2' : dgt (bt s (p + 1)) = false := by simpa using hd2
   rw [ah_of hs (by omega), re_end hd2', az_end hd2']
   by_cases he : p + 1 < s.size
   ·rw [if_pos he, if_pos he]
    cases b <;> simp [and_assoc]
   ·rw [if_neg he, if_neg he]
    cases b <;> simp
 ·have e48 : (bt s p == 48) = false := beq_eq_false_iff_ne.2 h48
  rw [e48]
  simp only [Bool.false_eq_true, if_false, Bool.false_and, Bool.not_false, Bool.and_true]
  by_cases hd : dgt (bt s p) = true
  ·have hl := re_lt hd
   rw [if_pos hd, ah_of hs (re_le hp), az_on hd, e48]
   have : re s p ≠ p := by omega
   simp only [this, ne_eq, not_false_eq_true, decide_true, Bool.true_and, Bool.false_and, Bool.not_false, Bool.true_or, Bool.and_true]
   by_cases he : re s p < s.size
   ·rw [if_pos he, if_pos he]; simp [and_assoc]
   ·rw [if_neg he, if_neg he]; simp
  ·have hd' : dgt (bt s p) = false := by simpa using hd
   rw [if_neg (by simpa using hd), re_end hd']
   simp; omega
theorem whl_dec (s : ByteArray) : whl s = isDec s := by
 unfold isDec whl pfx
 rw [emp_iff]
 by_cases hs : s.size = 0
 ·have h0 : bt s 0 = 0 := bt_out (by omega)
  have hd : dgt (bt s 0) = false := by rw [h0]; rfl
  rw [decide_eq_true hs, h0]
  unfold whp
  rw [re_end hd]
  simp
 ·rw [decide_eq_false hs]
  have hb : ∀ n : Nat, ((n : Int) == (s.size : Int)) = decide (n = s.size) := fun n => by
   rw [Bool.eq_iff_iff, beq_iff_eq, decide_eq_true_iff]; omega
  rw [hb]
  cases h : (bt s 0 == 45) with
  | true =>
   rw [if_pos rfl, if_pos rfl, fi_whp (by omega) (by omega)]; rfl
  | false =>
   rw [if_neg (by simp), if_neg (by simp), fi_whp (by omega) (by omega)]; rfl
end Go.Proofs.YthgknegocfhdbaaDoor

/-
 Texts that the document fixes.
-/
namespace Go.Proofs.YthgknegocfhdbaaDoor
open Go.RowKit Go.Lib
abbrev s3 : ByteArray := ⟨#[51]⟩
end Go.Proofs.YthgknegocfhdbaaDoor

/-
 A text's beginning and end, as operations.
-/
namespace Go.Proofs.YthgknegocfhdbaaDoor
open Go.RowKit Go.Lib
theorem drop_tx (l : List UInt8) (j : Nat) : Value.string ((⟨l.toArray⟩ : ByteArray).extract j (⟨l.toArray⟩ : ByteArray).size) = tx (l.drop j) := by
 rw [tx_of, by8_ext, tx_size]
 have : ((by8 (⟨l.toArray⟩ : ByteArray)).drop j).take (l.length - j) = l.drop j := List.take_of_length_le (by simp [by8])
 rw [this]
theorem lo_run (ρ : Operand → Value) (x y : Operand) (l : List UInt8) (j : Nat) (hx : ρ x = tx l) (hy : ρ y = .int .i64 (j : Int)) (hj : j ≤ l.length) (dst : Option Tmp) (type : TypeId) (pos : String) (after : Array Edge) (guard : Option (Nat × Bool)) (w : World) :
  (execOp ρ { dst, op := .slice 9 x (some y) none none, type, pos, after, guard }).run Tryd.prog w = .ok (.value (tx (l.drop j))) w := by
 have h1 : (j : Int) ≤ ((⟨l.toArray⟩ : ByteArray).size : Int) := by rw [tx_size]; omega
 have h0 : (0 : Int) ≤ (j : Int) := by omega
 rw [← drop_tx]
 unfold tx at hx
 generalize (⟨l.toArray⟩ : ByteArray) = s at *
 simp [go_sem, hx, hy, h1, h0]
end Go.Proofs.YthgknegocfhdbaaDoor

/-
 exciseref03.whole: is a text a decimal one?
-/
namespace Go.Proofs.YthgknegocfhdbaaDoor
open Go.RowKit
theorem w_cut {P : Program} {n : Nat} {l : List (Nat × Value)} {w : World} {Q : Exit → Act → World → Prop} {x y : Code} (I : List (Nat × Value) → World → Prop) (h2 : ∀ l w, I l w → WC P y Q n l w) (h : WC P x (Exit.then (fun a w' => ∃ l', a = fr n l' ∧ I l' w') Q) n l w) : WC P (Code.seq x y) Q n l w :=
 w_seq ⟨wp_mono h.out fun e a w' hq => by
  cases e with
  | normal => obtain ⟨l', rfl, hI⟩ := hq; exact (h2 l' w' hI).out
  | _ => exact hq⟩
theorem xn_cut {n : Nat} {l : List (Nat × Value)} {w : World} {Q : Exit → Act → World → Prop} {I : List (Nat × Value) → World → Prop} (h : I l w) : WX (Exit.then (fun a w' => ∃ l', a = fr n l' ∧ I l' w') Q) .normal n l w := ⟨⟨l, rfl, h⟩⟩
theorem len_s (ρ : Operand → Value) (x : Operand) (s : ByteArray) (hx : ρ x = .string s) (dst : Option Tmp) (type : TypeId) (pos : String) (after : Array Edge) (guard : Option (Nat × Bool)) (w : World) : (execOp ρ { dst, op := .call { callee := .builtin .len, args := #[x], argTypes := #[9] }, type, pos, after, guard }).run Tryd.prog w = .ok (.value (.int .i64 (s.size : Int))) w := by
 simp [go_sem, hx]
theorem ltN {a b : Nat} {r : Bool} (h : decide (a < b) = r) (x y : Operand) (w : World) : (do eqGuard .lss 3 x y (.int .i64 (a : Int)) (.int .i64 (b : Int)); binOp .lss 3 (.int .i64 (a : Int)) (.int .i64 (b : Int))).run Tryd.prog w = .ok (.bool r) w :=
 lt3_run (by rw [← h]; exact decide_eq_decide.2 Int.ofNat_lt) _ _ _
theorem gtN {a b : Nat} {r : Bool} (h : decide (b < a) = r) (x y : Operand) (w : World) : (do eqGuard .gtr 3 x y (.int .i64 (a : Int)) (.int .i64 (b : Int)); binOp .gtr 3 (.int .i64 (a : Int)) (.int .i64 (b : Int))).run Tryd.prog w = .ok (.bool r) w :=
 gt3_run (by rw [← h]; exact decide_eq_decide.2 Int.ofNat_lt) _ _ _
theorem eqN {a b : Nat} {r : Bool} (h : decide (a = b) = r) (x y : Operand) (w : World) : (do eqGuard .eql 3 x y (.int .i64 (a : Int)) (.int .i64 (b : Int)); binOp .eql 3 (.int .i64 (a : Int)) (.int .i64 (b : Int))).run Tryd.prog w = .ok (.bool r) w :=
 eq3_run (by rw [← h, Bool.eq_iff_iff, beq_iff_eq, decide_eq_true_iff]; omega) _ _ _
theorem idx_b {s : ByteArray} {k : Nat} (h : k < s.size) (w : World) : (Instr.index 9 (.string s) (.int .i64 (k : Int))).run Tryd.prog w = .ok (.int .u8 (bt s k)) w := by
 rw [bt_in h]
 simp [go_sem, h]
theorem digit_c {c : Int} {r : Bool} (h : dgt c = r) (w : World) : Calls Tryd.prog 49 #[.int .u8 c] w fun e w' => e = .returned (.bool r) ∧ Mo w w' := h ▸ digit_n c w
theorem whole_n (s : ByteArray) (w : World) (hs : s.size ≤ maxLen) : Calls Tryd.prog 50 #[.string s] w fun e w' => e = .returned (.bool (whl s)) ∧ Mo w w' := by
 replace hs : s.size ≤ 9223372036854775807 := by unfold maxLen at hs; exact hs
 refine w_enter 95 Tryd.func50 Tryd.ntmps50 rfl rfl ?_
 have M : Mo w w := Mo.refl _
 refine w_seq (w_reg ?_)
 refine wl_m (.const (.bool false)) (.bool false) ?_
 refine w_nil (xn_then (w_seq (w_reg ?_)))
 refine wl_m (.const (.bool false)) (.bool false) ?_
 refine w_nil (xn_then (w_seq (w_reg ?_)))
 refine wl_m (.const (.int .i64 (0))) (.int .i64 (0)) ?_
 refine w_nil (xn_then ?_)
 refine w_cut (fun l w1 => ∃ (p : Nat) (b : Bool), look l 0 = .string s ∧ look l 3 = .bool false ∧ look l 4 = .int .i64 (p : Int) ∧ p ≤ s.size ∧ p ≤ 1 ∧ whl s = whp s p b ∧ b = (bt s 0 == 45) ∧ Mo w w1) ?_ ?_
 ·skip
  clear M
  rintro l wa ⟨p, b, e0, e3, e4, hps, hp1, hw0, hb, M⟩
  refine w_seq (w_reg ?_)
  refine wl_mv (.tmp 4) (.int .i64 ((p : Nat) : Int)) (fun _ => rfl) e4 rfl ?_
  refine wl_m (.tmp 19) (.int .i64 ((p : Nat) : Int)) ?_
  refine w_nil (xn_then ?_)
  refine w_cut (fun l w1 => ∃ (i : Nat) (o : Bool), look l 0 = .string s ∧ look l 3 = .bool o ∧ look l 4 = .int .i64 (i : Int) ∧ look l 5 = .int .i64 (p : Int) ∧ p ≤ i ∧ i ≤ s.size ∧ re s p = i ∧ az s p = (!o) ∧ Mo w w1) ?_ ?_
  ·skip
   clear M
   rintro l wb ⟨i, o, e0, e3, e4, e5, hpi, his, hre, haz, M⟩
   have hW : whl s = (decide (i ≠ p) && !((bt s p == 48) && decide (i > p + 1)) && (if i < s.size then (bt s i == 46) && decide (i + 1 ≠ s.size) && decide (re s (i + 1) = s.size) && (o || !az s (i + 1) || !b) else (o || !b))) := by rw [hw0]; unfold whp; rw [hre, haz, Bool.not_not]
   refine w_seq (w_seq ?_)
   cases hf0 : decide (i = p) with
   | true =>
    have hf0p := of_decide_eq_true hf0
    refine w_reg ?_
    refine wl_mv (.tmp 4) (.int .i64 ((i : Nat) : Int)) (fun _ => rfl) e4 rfl ?_
    refine wl_mv (.tmp 5) (.int .i64 ((p : Nat) : Int)) (fun _ => rfl) e5 rfl ?_
    refine wl_b .eql 3 (.tmp 39) (.tmp 40) (.int .i64 ((i : Nat) : Int)) (.int .i64 ((p : Nat) : Int)) (.bool true) (eqN hf0 _ _ _) ?_
    refine wl_m (.tmp 41) (.bool true) ?_
    refine wl_skip rfl (wl_skip rfl (wl_skip rfl (wl_skip rfl (wl_skip rfl (wl_skip rfl (wl_skip rfl (wl_skip rfl (wl_skip rfl (wl_skip rfl ?_)))))))))
    refine wl_pick (.tmp 42) (.const (.bool true)) (.tmp 52) true (.bool true) (fun _ => rfl) rfl rfl rfl ?_
    refine w_nil (xn_then (w_condT rfl (w_seq (w_reg ?_))))
    refine wl_m (.const (.bool false)) (.bool false) ?_
    refine w_nil (xn_then (w_ret (xr_then ?_)))
    have hfin : whl s = false := by rw [hW]; first | (simp [hf0p]; done) | (simp [hf0p]; omega)
    exact w_ret1 _ (.bool false) rfl rfl ⟨by rw [hfin], M⟩
   | false =>
    have hf0p := of_decide_eq_false hf0
    cases hf1 : (bt s (p) == 48) with
    | true =>
     cases hf2 : decide (p + 1 < i) with
     | true =>
      have hf2p := of_decide_eq_true hf2
      refine w_reg ?_
      refine wl_mv (.tmp 4) (.int .i64 ((i : Nat) : Int)) (fun _ => rfl) e4 rfl ?_
      refine wl_mv (.tmp 5) (.int .i64 ((p : Nat) : Int)) (fun _ => rfl) e5 rfl ?_
      refine wl_b .eql 3 (.tmp 39) (.tmp 40) (.int .i64 ((i : Nat) : Int)) (.int .i64 ((p : Nat) : Int)) (.bool false) (eqN hf0 _ _ _) ?_
      refine wl_m (.tmp 41) (.bool false) ?_
      refine wl_mv (.tmp 0) (.string s) (fun _ => rfl) e0 rfl ?_
      refine wl_mv (.tmp 5) (.int .i64 ((p : Nat) : Int)) (fun _ => rfl) e5 rfl ?_
      refine wl_bin (fun x y => Instr.index 9 x y) (.tmp 43) (.tmp 44) (.string s) (.int .i64 ((p : Nat) : Int)) (.int .u8 (bt s (p))) (fun _ => rfl) rfl rfl (idx_b (by omega) _) rfl ?_
      refine wl_b .eql 5 (.tmp 45) (.const (.int .u8 (48))) (.int .u8 (bt s (p))) (.int .u8 (48)) (.bool true) (eq5r hf1 _ _ _) ?_
      refine wl_m (.tmp 46) (.bool true) ?_
      refine wl_mv (.tmp 4) (.int .i64 ((i : Nat) : Int)) (fun _ => rfl) e4 rfl ?_
      refine wl_mv (.tmp 5) (.int .i64 ((p : Nat) : Int)) (fun _ => rfl) e5 rfl ?_
      refine wl_b .add 3 (.tmp 49) (.const (.int .i64 (1))) (.int .i64 ((p : Nat) : Int)) (.int .i64 (1)) (.int .i64 ((p + 1 : Nat) : Int)) (add1r (k := p) (by omega) _ _ _) ?_
      refine wl_b .gtr 3 (.tmp 48) (.tmp 50) (.int .i64 ((i : Nat) : Int)) (.int .i64 ((p + 1 : Nat) : Int)) (.bool true) (gtN hf2 _ _ _) ?_
      refine wl_pick (.tmp 47) (.tmp 51) (.const (.bool false)) true (.bool true) (fun _ => rfl) rfl rfl rfl ?_
      refine wl_pick (.tmp 42) (.const (.bool true)) (.tmp 52) false (.bool true) (fun _ => rfl) rfl rfl rfl ?_
      refine w_nil (xn_then (w_condT rfl (w_seq (w_reg ?_))))
      refine wl_m (.const (.bool false)) (.bool false) ?_
      refine w_nil (xn_then (w_ret (xr_then ?_)))
      have hfin : whl s = false := by rw [hW]; first | (simp [hf0p, hf1, hf2p]; done) | (simp [hf0p, hf1, hf2p]; omega)
      exact w_ret1 _ (.bool false) rfl rfl ⟨by rw [hfin], M⟩
     | false =>
      have hf2p := of_decide_eq_false hf2
      refine w_reg ?_
      refine wl_mv (.tmp 4) (.int .i64 ((i : Nat) : Int)) (fun _ => rfl) e4 rfl ?_
      refine wl_mv (.tmp 5) (.int .i64 ((p : Nat) : Int)) (fun _ => rfl) e5 rfl ?_
      refine wl_b .eql 3 (.tmp 39) (.tmp 40) (.int .i64 ((i : Nat) : Int)) (.int .i64 ((p : Nat) : Int)) (.bool false) (eqN hf0 _ _ _) ?_
      refine wl_m (.tmp 41) (.bool false) ?_
      refine wl_mv (.tmp 0) (.string s) (fun _ => rfl) e0 rfl ?_
      refine wl_mv (.tmp 5) (.int .i64 ((p : Nat) : Int)) (fun _ => rfl) e5 rfl ?_
      refine wl_bin (fun x y => Instr.index 9 x y) (.tmp 43) (.tmp 44) (.string s) (.int .i64 ((p : Nat) : Int)) (.int .u8 (bt s (p))) (fun _ => rfl) rfl rfl (idx_b (by omega) _) rfl ?_
      refine wl_b .eql 5 (.tmp 45) (.const (.int .u8 (48))) (.int .u8 (bt s (p))) (.int .u8 (48)) (.bool true) (eq5r hf1 _ _ _) ?_
      refine wl_m (.tmp 46) (.bool true) ?_
      refine wl_mv (.tmp 4) (.int .i64 ((i : Nat) : Int)) (fun _ => rfl) e4 rfl ?_
      refine wl_mv (.tmp 5) (.int .i64 ((p : Nat) : Int)) (fun _ => rfl) e5 rfl ?_
      refine wl_b .add 3 (.tmp 49) (.const (.int .i64 (1))) (.int .i64 ((p : Nat) : Int)) (.int .i64 (1)) (.int .i64 ((p + 1 : Nat) : Int)) (add1r (k := p) (by omega) _ _ _) ?_
      refine wl_b .gtr 3 (.tmp 48) (.tmp 50) (.int .i64 ((i : Nat) : Int)) (.int .i64 ((p + 1 : Nat) : Int)) (.bool false) (gtN hf2 _ _ _) ?_
      refine wl_pick (.tmp 47) (.tmp 51) (.const (.bool false)) true (.bool false) (fun _ => rfl) rfl rfl rfl ?_
      refine wl_pick (.tmp 42) (.const (.bool true)) (.tmp 52) false (.bool false) (fun _ => rfl) rfl rfl rfl ?_
      refine w_nil (xn_then (w_condF rfl (w_skip (xn_then ?_))))
      refine w_cut (fun l w1 => ∃ (o2 : Bool), look l 0 = .string s ∧ look l 3 = .bool o2 ∧ whl s = (o2 || !b) ∧ 0 < s.size ∧ Mo w w1) ?_ ?_
      ·skip
       clear M
       rintro l wc ⟨o2, e0, e3, hW2, hs0, M⟩
       refine w_seq ?_
       cases o2 with
       | true =>
        refine w_reg ?_
        refine wl_mv (.tmp 3) (.bool true) (fun _ => rfl) e3 rfl ?_
        refine wl_m (.tmp 89) (.bool true) ?_
        refine wl_skip rfl (wl_skip rfl (wl_skip rfl ?_))
        refine wl_pick (.tmp 90) (.const (.bool true)) (.tmp 93) true (.bool true) (fun _ => rfl) rfl rfl rfl ?_
        refine wl_m (.tmp 94) (.bool true) ?_
        refine w_nil (xn_then (w_ret ?_))
        have hfin : whl s = true := by rw [hW2, hb, ]; rfl
        exact w_ret1 _ (.bool true) rfl rfl ⟨by rw [hfin], M⟩
       | false =>
        cases hf3 : (bt s (0) == 45) with
        | true =>
         refine w_reg ?_
         refine wl_mv (.tmp 3) (.bool false) (fun _ => rfl) e3 rfl ?_
         refine wl_m (.tmp 89) (.bool false) ?_
         refine wl_mv (.tmp 0) (.string s) (fun _ => rfl) e0 rfl ?_
         refine wl_bin (fun x y => Instr.index 9 x y) (.tmp 91) (.const (.int .i64 (0))) (.string s) (.int .i64 (0)) (.int .u8 (bt s (0))) (fun _ => rfl) rfl rfl (idx_b (by omega) _) rfl ?_
         refine wl_b .neq 5 (.tmp 92) (.const (.int .u8 (45))) (.int .u8 (bt s (0))) (.int .u8 (45)) (.bool false) (ne5r hf3 _ _ _) ?_
         refine wl_pick (.tmp 90) (.const (.bool true)) (.tmp 93) false (.bool false) (fun _ => rfl) rfl rfl rfl ?_
         refine wl_m (.tmp 94) (.bool false) ?_
         refine w_nil (xn_then (w_ret ?_))
         have hfin : whl s = false := by rw [hW2, hb, hf3]; rfl
         exact w_ret1 _ (.bool false) rfl rfl ⟨by rw [hfin], M⟩
        | false =>
         refine w_reg ?_
         refine wl_mv (.tmp 3) (.bool false) (fun _ => rfl) e3 rfl ?_
         refine wl_m (.tmp 89) (.bool false) ?_
         refine wl_mv (.tmp 0) (.string s) (fun _ => rfl) e0 rfl ?_
         refine wl_bin (fun x y => Instr.index 9 x y) (.tmp 91) (.const (.int .i64 (0))) (.string s) (.int .i64 (0)) (.int .u8 (bt s (0))) (fun _ => rfl) rfl rfl (idx_b (by omega) _) rfl ?_
         refine wl_b .neq 5 (.tmp 92) (.const (.int .u8 (45))) (.int .u8 (bt s (0))) (.int .u8 (45)) (.bool true) (ne5r hf3 _ _ _) ?_
         refine wl_pick (.tmp 90) (.const (.bool true)) (.tmp 93) false (.bool true) (fun _ => rfl) rfl rfl rfl ?_
         refine wl_m (.tmp 94) (.bool true) ?_
         refine w_nil (xn_then (w_ret ?_))
         have hfin : whl s = true := by rw [hW2, hb, hf3]; rfl
         exact w_ret1 _ (.bool true) rfl rfl ⟨by rw [hfin], M⟩
      ·skip
       refine w_seq ?_
       cases hf3 : decide (i < s.size) with
       | true =>
        have hf3p := of_decide_eq_true hf3
        refine w_reg ?_
        refine wl_mv (.tmp 4) (.int .i64 ((i : Nat) : Int)) (fun _ => rfl) e4 rfl ?_
        refine wl_mv (.tmp 0) (.string s) (fun _ => rfl) e0 rfl ?_
        refine wl_val (.int .i64 ((s.size : Nat) : Int)) (len_s _ _ s (by exact rfl) _ _ _ _ _ _) rfl ?_
        refine wl_b .lss 3 (.tmp 54) (.tmp 56) (.int .i64 ((i : Nat) : Int)) (.int .i64 ((s.size : Nat) : Int)) (.bool true) (ltN hf3 _ _ _) ?_
        refine w_nil (xn_then (w_condT rfl (w_seq (w_seq ?_))))
        cases hf4 : (bt s (i) == 46) with
        | true =>
         cases hf5 : decide (i + 1 = s.size) with
         | true =>
          have hf5p := of_decide_eq_true hf5
          refine w_reg ?_
          refine wl_mv (.tmp 0) (.string s) (fun _ => rfl) e0 rfl ?_
          refine wl_mv (.tmp 4) (.int .i64 ((i : Nat) : Int)) (fun _ => rfl) e4 rfl ?_
          refine wl_bin (fun x y => Instr.index 9 x y) (.tmp 58) (.tmp 59) (.string s) (.int .i64 ((i : Nat) : Int)) (.int .u8 (bt s (i))) (fun _ => rfl) rfl rfl (idx_b (by omega) _) rfl ?_
          refine wl_b .neq 5 (.tmp 60) (.const (.int .u8 (46))) (.int .u8 (bt s (i))) (.int .u8 (46)) (.bool false) (ne5r hf4 _ _ _) ?_
          refine wl_m (.tmp 61) (.bool false) ?_
          refine wl_mv (.tmp 4) (.int .i64 ((i : Nat) : Int)) (fun _ => rfl) e4 rfl ?_
          refine wl_b .add 3 (.tmp 63) (.const (.int .i64 (1))) (.int .i64 ((i : Nat) : Int)) (.int .i64 (1)) (.int .i64 ((i + 1 : Nat) : Int)) (add1r (k := i) (by omega) _ _ _) ?_
          refine wl_mv (.tmp 0) (.string s) (fun _ => rfl) e0 rfl ?_
          refine wl_val (.int .i64 ((s.size : Nat) : Int)) (len_s _ _ s (by exact rfl) _ _ _ _ _ _) rfl ?_
          refine wl_b .eql 3 (.tmp 64) (.tmp 66) (.int .i64 ((i + 1 : Nat) : Int)) (.int .i64 ((s.size : Nat) : Int)) (.bool true) (eqN hf5 _ _ _) ?_
          refine wl_pick (.tmp 62) (.const (.bool true)) (.tmp 67) false (.bool true) (fun _ => rfl) rfl rfl rfl ?_
          refine w_nil (xn_then (w_condT rfl (w_seq (w_reg ?_))))
          refine wl_m (.const (.bool false)) (.bool false) ?_
          refine w_nil (xn_then (w_ret (xr_then (xr_then ?_))))
          have hfin : whl s = false := by rw [hW]; first | (simp [hf0p, hf1, hf2p, hf3p, hf4, hf5p]; done) | (simp [hf0p, hf1, hf2p, hf3p, hf4, hf5p]; omega)
          exact w_ret1 _ (.bool false) rfl rfl ⟨by rw [hfin], M⟩
         | false =>
          have hf5p := of_decide_eq_false hf5
          refine w_reg ?_
          refine wl_mv (.tmp 0) (.string s) (fun _ => rfl) e0 rfl ?_
          refine wl_mv (.tmp 4) (.int .i64 ((i : Nat) : Int)) (fun _ => rfl) e4 rfl ?_
          refine wl_bin (fun x y => Instr.index 9 x y) (.tmp 58) (.tmp 59) (.string s) (.int .i64 ((i : Nat) : Int)) (.int .u8 (bt s (i))) (fun _ => rfl) rfl rfl (idx_b (by omega) _) rfl ?_
          refine wl_b .neq 5 (.tmp 60) (.const (.int .u8 (46))) (.int .u8 (bt s (i))) (.int .u8 (46)) (.bool false) (ne5r hf4 _ _ _) ?_
          refine wl_m (.tmp 61) (.bool false) ?_
          refine wl_mv (.tmp 4) (.int .i64 ((i : Nat) : Int)) (fun _ => rfl) e4 rfl ?_
          refine wl_b .add 3 (.tmp 63) (.const (.int .i64 (1))) (.int .i64 ((i : Nat) : Int)) (.int .i64 (1)) (.int .i64 ((i + 1 : Nat) : Int)) (add1r (k := i) (by omega) _ _ _) ?_
          refine wl_mv (.tmp 0) (.string s) (fun _ => rfl) e0 rfl ?_
          refine wl_val (.int .i64 ((s.size : Nat) : Int)) (len_s _ _ s (by exact rfl) _ _ _ _ _ _) rfl ?_
          refine wl_b .eql 3 (.tmp 64) (.tmp 66) (.int .i64 ((i + 1 : Nat) : Int)) (.int .i64 ((s.size : Nat) : Int)) (.bool false) (eqN hf5 _ _ _) ?_
          refine wl_pick (.tmp 62) (.const (.bool true)) (.tmp 67) false (.bool false) (fun _ => rfl) rfl rfl rfl ?_
          refine w_nil (xn_then (w_condF rfl (w_skip (xn_then (w_seq (w_reg ?_))))))
          refine wl_mv (.tmp 4) (.int .i64 ((i : Nat) : Int)) (fun _ => rfl) e4 rfl ?_
          refine wl_b .add 3 (.tmp 69) (.const (.int .i64 (1))) (.int .i64 ((i : Nat) : Int)) (.int .i64 (1)) (.int .i64 ((i + 1 : Nat) : Int)) (add1r (k := i) (by omega) _ _ _) ?_
          refine wl_m (.tmp 70) (.int .i64 ((i + 1 : Nat) : Int)) ?_
          refine w_nil (xn_then (w_block ?_))
          refine w_loop (fun m l w1 => ∃ (k : Nat) (o2 : Bool), m = s.size - k ∧ look l 0 = .string s ∧ look l 3 = .bool o2 ∧ look l 6 = .int .i64 (k : Int) ∧ i + 1 ≤ k ∧ k ≤ s.size ∧ re s k = re s (i + 1) ∧ (o2 || !az s k) = (o || !az s (i + 1)) ∧ Mo w w1) _ ⟨i + 1, o, rfl, e0, e3, rfl, by omega, by omega, rfl, rfl, M⟩ ?_
          clear M
          rintro m2 l2 wl2 ⟨k, o2, rfl, e0, e3, e6, hik, hks, hrk, hzk, M⟩
          refine w_seq (w_seq ?_)
          cases hf6 : decide (k < s.size) with
          | true =>
           have hf6p := of_decide_eq_true hf6
           refine w_reg ?_
           refine wl_mv (.tmp 6) (.int .i64 ((k : Nat) : Int)) (fun _ => rfl) e6 rfl ?_
           refine wl_mv (.tmp 0) (.string s) (fun _ => rfl) e0 rfl ?_
           refine wl_val (.int .i64 ((s.size : Nat) : Int)) (len_s _ _ s (by exact rfl) _ _ _ _ _ _) rfl ?_
           refine wl_b .lss 3 (.tmp 71) (.tmp 73) (.int .i64 ((k : Nat) : Int)) (.int .i64 ((s.size : Nat) : Int)) (.bool true) (ltN hf6 _ _ _) ?_
           refine w_nil (xn_then (w_condT rfl (w_skip (xn_then (w_seq (w_block (w_seq (w_seq ?_))))))))
           cases hf7 : dgt (bt s (k)) with
           | true =>
            refine w_reg ?_
            refine wl_mv (.tmp 0) (.string s) (fun _ => rfl) e0 rfl ?_
            refine wl_mv (.tmp 6) (.int .i64 ((k : Nat) : Int)) (fun _ => rfl) e6 rfl ?_
            refine wl_bin (fun x y => Instr.index 9 x y) (.tmp 77) (.tmp 78) (.string s) (.int .i64 ((k : Nat) : Int)) (.int .u8 (bt s (k))) (fun _ => rfl) rfl rfl (idx_b (by omega) _) rfl ?_
            refine wl_call 49 [(.tmp 79)] _ [.int .u8 (bt s (k))] (.bool true) rfl rfl (fun _ _ => by kernel_rfl) (digit_c hf7 _) rfl ?_
            intro w61 hq
            replace M := M.trans hq
            clear hq
            refine wl_un (fun v => Op.unary .not v) (.tmp 80) (.bool true) (.bool false) (fun _ => rfl) rfl (by kernel_rfl) rfl ?_
            refine w_nil (xn_then (w_condF rfl (w_skip (xn_then ?_))))
            cases o2 with
            | true =>
             refine w_reg ?_
             refine wl_mv (.tmp 3) (.bool true) (fun _ => rfl) e3 rfl ?_
             refine wl_m (.tmp 82) (.bool true) ?_
             refine wl_skip rfl (wl_skip rfl (wl_skip rfl (wl_skip rfl ?_)))
             refine wl_pick (.tmp 83) (.const (.bool true)) (.tmp 87) true (.bool true) (fun _ => rfl) rfl rfl rfl ?_
             refine wl_m (.tmp 88) (.bool true) ?_
             refine w_nil (xn_blk (xn_then (w_reg ?_)))
             refine wl_mv (.tmp 6) (.int .i64 ((k : Nat) : Int)) (fun _ => rfl) e6 rfl ?_
             refine wl_b .add 3 (.tmp 75) (.const (.int .i64 (1))) (.int .i64 ((k : Nat) : Int)) (.int .i64 (1)) (.int .i64 ((k + 1 : Nat) : Int)) (add1r (k := k) (by omega) _ _ _) ?_
             refine wl_m (.tmp 76) (.int .i64 ((k + 1 : Nat) : Int)) ?_
             refine w_nil ?_
             exact xn_loop (s.size - (k + 1)) (by omega) ⟨k + 1, true, rfl, e0, rfl, rfl, by omega, by omega, by rw [← hrk, re_on hf7], by rw [← hzk, az_on hf7]; simp, M⟩
            | false =>
             cases hf8 : (bt s (k) == 48) with
             | true =>
              refine w_reg ?_
              refine wl_mv (.tmp 3) (.bool false) (fun _ => rfl) e3 rfl ?_
              refine wl_m (.tmp 82) (.bool false) ?_
              refine wl_mv (.tmp 0) (.string s) (fun _ => rfl) e0 rfl ?_
              refine wl_mv (.tmp 6) (.int .i64 ((k : Nat) : Int)) (fun _ => rfl) e6 rfl ?_
              refine wl_bin (fun x y => Instr.index 9 x y) (.tmp 84) (.tmp 85) (.string s) (.int .i64 ((k : Nat) : Int)) (.int .u8 (bt s (k))) (fun _ => rfl) rfl rfl (idx_b (by omega) _) rfl ?_
              refine wl_b .neq 5 (.tmp 86) (.const (.int .u8 (48))) (.int .u8 (bt s (k))) (.int .u8 (48)) (.bool false) (ne5r hf8 _ _ _) ?_
              refine wl_pick (.tmp 83) (.const (.bool true)) (.tmp 87) false (.bool false) (fun _ => rfl) rfl rfl rfl ?_
              refine wl_m (.tmp 88) (.bool false) ?_
              refine w_nil (xn_blk (xn_then (w_reg ?_)))
              refine wl_mv (.tmp 6) (.int .i64 ((k : Nat) : Int)) (fun _ => rfl) e6 rfl ?_
              refine wl_b .add 3 (.tmp 75) (.const (.int .i64 (1))) (.int .i64 ((k : Nat) : Int)) (.int .i64 (1)) (.int .i64 ((k + 1 : Nat) : Int)) (add1r (k := k) (by omega) _ _ _) ?_
              refine wl_m (.tmp 76) (.int .i64 ((k + 1 : Nat) : Int)) ?_
              refine w_nil ?_
              exact xn_loop (s.size - (k + 1)) (by omega) ⟨k + 1, false, rfl, e0, rfl, rfl, by omega, by omega, by rw [← hrk, re_on hf7], by rw [← hzk, az_on hf7, hf8]; simp, M⟩
             | false =>
              refine w_reg ?_
              refine wl_mv (.tmp 3) (.bool false) (fun _ => rfl) e3 rfl ?_
              refine wl_m (.tmp 82) (.bool false) ?_
              refine wl_mv (.tmp 0) (.string s) (fun _ => rfl) e0 rfl ?_
              refine wl_mv (.tmp 6) (.int .i64 ((k : Nat) : Int)) (fun _ => rfl) e6 rfl ?_
              refine wl_bin (fun x y => Instr.index 9 x y) (.tmp 84) (.tmp 85) (.string s) (.int .i64 ((k : Nat) : Int)) (.int .u8 (bt s (k))) (fun _ => rfl) rfl rfl (idx_b (by omega) _) rfl ?_
              refine wl_b .neq 5 (.tmp 86) (.const (.int .u8 (48))) (.int .u8 (bt s (k))) (.int .u8 (48)) (.bool true) (ne5r hf8 _ _ _) ?_
              refine wl_pick (.tmp 83) (.const (.bool true)) (.tmp 87) false (.bool true) (fun _ => rfl) rfl rfl rfl ?_
              refine wl_m (.tmp 88) (.bool true) ?_
              refine w_nil (xn_blk (xn_then (w_reg ?_)))
              refine wl_mv (.tmp 6) (.int .i64 ((k : Nat) : Int)) (fun _ => rfl) e6 rfl ?_
              refine wl_b .add 3 (.tmp 75) (.const (.int .i64 (1))) (.int .i64 ((k : Nat) : Int)) (.int .i64 (1)) (.int .i64 ((k + 1 : Nat) : Int)) (add1r (k := k) (by omega) _ _ _) ?_
              refine wl_m (.tmp 76) (.int .i64 ((k + 1 : Nat) : Int)) ?_
              refine w_nil ?_
              exact xn_loop (s.size - (k + 1)) (by omega) ⟨k + 1, true, rfl, e0, rfl, rfl, by omega, by omega, by rw [← hrk, re_on hf7], by rw [← hzk, az_on hf7, hf8]; simp, M⟩
           | false =>
            refine w_reg ?_
            refine wl_mv (.tmp 0) (.string s) (fun _ => rfl) e0 rfl ?_
            refine wl_mv (.tmp 6) (.int .i64 ((k : Nat) : Int)) (fun _ => rfl) e6 rfl ?_
            refine wl_bin (fun x y => Instr.index 9 x y) (.tmp 77) (.tmp 78) (.string s) (.int .i64 ((k : Nat) : Int)) (.int .u8 (bt s (k))) (fun _ => rfl) rfl rfl (idx_b (by omega) _) rfl ?_
            refine wl_call 49 [(.tmp 79)] _ [.int .u8 (bt s (k))] (.bool false) rfl rfl (fun _ _ => by kernel_rfl) (digit_c hf7 _) rfl ?_
            intro w61 hq
            replace M := M.trans hq
            clear hq
            refine wl_un (fun v => Op.unary .not v) (.tmp 80) (.bool false) (.bool true) (fun _ => rfl) rfl (by kernel_rfl) rfl ?_
            refine w_nil (xn_then (w_condT rfl (w_seq (w_reg ?_))))
            refine wl_m (.const (.bool false)) (.bool false) ?_
            refine w_nil (xn_then (w_ret (xr_then (xr_blk (xr_then (xr_then (xr_blk (xr_then ?_))))))))
            have hr2 : re s (i + 1) = k := by rw [← hrk, re_end hf7]
            have hkn : k ≠ s.size := by omega
            have hfin : whl s = false := by rw [hW, hr2]; simp [hkn, hf0p, hf1, hf2p, hf3p, hf4, hf5p]
            exact w_ret1 _ (.bool false) rfl rfl ⟨by rw [hfin], M⟩
          | false =>
           have hf6p := of_decide_eq_false hf6
           refine w_reg ?_
           refine wl_mv (.tmp 6) (.int .i64 ((k : Nat) : Int)) (fun _ => rfl) e6 rfl ?_
           refine wl_mv (.tmp 0) (.string s) (fun _ => rfl) e0 rfl ?_
           refine wl_val (.int .i64 ((s.size : Nat) : Int)) (len_s _ _ s (by exact rfl) _ _ _ _ _ _) rfl ?_
           refine wl_b .lss 3 (.tmp 71) (.tmp 73) (.int .i64 ((k : Nat) : Int)) (.int .i64 ((s.size : Nat) : Int)) (.bool false) (ltN hf6 _ _ _) ?_
           refine w_nil (xn_then (w_condF rfl (w_exit (xx_then (xx_then ?_)))))
           have hnd2 : dgt (bt s k) = false := by rw [bt_out (by omega)]; rfl
           have hr2 : re s (i + 1) = s.size := by rw [← hrk, re_end hnd2]; omega
           rw [az_end hnd2, Bool.not_true, Bool.or_false] at hzk
           refine xx_blk ?_
           exact xn_cut ⟨o2, e0, e3, by rw [hW, hr2]; first | (simp [hf0p, hf1, hf2p, hf3p, hf4, hf5p, ← hzk]; done) | (simp [hf0p, hf1, hf2p, hf3p, hf4, hf5p, hf6p, ← hzk]; omega), by omega, M⟩
        | false =>
         refine w_reg ?_
         refine wl_mv (.tmp 0) (.string s) (fun _ => rfl) e0 rfl ?_
         refine wl_mv (.tmp 4) (.int .i64 ((i : Nat) : Int)) (fun _ => rfl) e4 rfl ?_
         refine wl_bin (fun x y => Instr.index 9 x y) (.tmp 58) (.tmp 59) (.string s) (.int .i64 ((i : Nat) : Int)) (.int .u8 (bt s (i))) (fun _ => rfl) rfl rfl (idx_b (by omega) _) rfl ?_
         refine wl_b .neq 5 (.tmp 60) (.const (.int .u8 (46))) (.int .u8 (bt s (i))) (.int .u8 (46)) (.bool true) (ne5r hf4 _ _ _) ?_
         refine wl_m (.tmp 61) (.bool true) ?_
         refine wl_skip rfl (wl_skip rfl (wl_skip rfl (wl_skip rfl (wl_skip rfl ?_))))
         refine wl_pick (.tmp 62) (.const (.bool true)) (.tmp 67) true (.bool true) (fun _ => rfl) rfl rfl rfl ?_
         refine w_nil (xn_then (w_condT rfl (w_seq (w_reg ?_))))
         refine wl_m (.const (.bool false)) (.bool false) ?_
         refine w_nil (xn_then (w_ret (xr_then (xr_then ?_))))
         have hfin : whl s = false := by rw [hW]; first | (simp [hf0p, hf1, hf2p, hf3p, hf4]; done) | (simp [hf0p, hf1, hf2p, hf3p, hf4]; omega)
         exact w_ret1 _ (.bool false) rfl rfl ⟨by rw [hfin], M⟩
       | false =>
        have hf3p := of_decide_eq_false hf3
        refine w_reg ?_
        refine wl_mv (.tmp 4) (.int .i64 ((i : Nat) : Int)) (fun _ => rfl) e4 rfl ?_
        refine wl_mv (.tmp 0) (.string s) (fun _ => rfl) e0 rfl ?_
        refine wl_val (.int .i64 ((s.size : Nat) : Int)) (len_s _ _ s (by exact rfl) _ _ _ _ _ _) rfl ?_
        refine wl_b .lss 3 (.tmp 54) (.tmp 56) (.int .i64 ((i : Nat) : Int)) (.int .i64 ((s.size : Nat) : Int)) (.bool false) (ltN hf3 _ _ _) ?_
        refine w_nil (xn_then (w_condF rfl (w_skip ?_)))
        exact xn_cut ⟨o, e0, e3, by rw [hW]; first | (simp [hf0p, hf1, hf2p, hf3p]; done) | (simp [hf0p, hf1, hf2p, hf3p]; omega), by omega, M⟩
    | false =>
     refine w_reg ?_
     refine wl_mv (.tmp 4) (.int .i64 ((i : Nat) : Int)) (fun _ => rfl) e4 rfl ?_
     refine wl_mv (.tmp 5) (.int .i64 ((p : Nat) : Int)) (fun _ => rfl) e5 rfl ?_
     refine wl_b .eql 3 (.tmp 39) (.tmp 40) (.int .i64 ((i : Nat) : Int)) (.int .i64 ((p : Nat) : Int)) (.bool false) (eqN hf0 _ _ _) ?_
     refine wl_m (.tmp 41) (.bool false) ?_
     refine wl_mv (.tmp 0) (.string s) (fun _ => rfl) e0 rfl ?_
     refine wl_mv (.tmp 5) (.int .i64 ((p : Nat) : Int)) (fun _ => rfl) e5 rfl ?_
     refine wl_bin (fun x y => Instr.index 9 x y) (.tmp 43) (.tmp 44) (.string s) (.int .i64 ((p : Nat) : Int)) (.int .u8 (bt s (p))) (fun _ => rfl) rfl rfl (idx_b (by omega) _) rfl ?_
     refine wl_b .eql 5 (.tmp 45) (.const (.int .u8 (48))) (.int .u8 (bt s (p))) (.int .u8 (48)) (.bool false) (eq5r hf1 _ _ _) ?_
     refine wl_m (.tmp 46) (.bool false) ?_
     refine wl_skip rfl (wl_skip rfl (wl_skip rfl (wl_skip rfl ?_)))
     refine wl_pick (.tmp 47) (.tmp 51) (.const (.bool false)) false (.bool false) (fun _ => rfl) rfl rfl rfl ?_
     refine wl_pick (.tmp 42) (.const (.bool true)) (.tmp 52) false (.bool false) (fun _ => rfl) rfl rfl rfl ?_
     refine w_nil (xn_then (w_condF rfl (w_skip (xn_then ?_))))
     refine w_cut (fun l w1 => ∃ (o2 : Bool), look l 0 = .string s ∧ look l 3 = .bool o2 ∧ whl s = (o2 || !b) ∧ 0 < s.size ∧ Mo w w1) ?_ ?_
     ·skip
      clear M
      rintro l wc ⟨o2, e0, e3, hW2, hs0, M⟩
      refine w_seq ?_
      cases o2 with
      | true =>
       refine w_reg ?_
       refine wl_mv (.tmp 3) (.bool true) (fun _ => rfl) e3 rfl ?_
       refine wl_m (.tmp 89) (.bool true) ?_
       refine wl_skip rfl (wl_skip rfl (wl_skip rfl ?_))
       refine wl_pick (.tmp 90) (.const (.bool true)) (.tmp 93) true (.bool true) (fun _ => rfl) rfl rfl rfl ?_
       refine wl_m (.tmp 94) (.bool true) ?_
       refine w_nil (xn_then (w_ret ?_))
       have hfin : whl s = true := by rw [hW2, hb, ]; rfl
       exact w_ret1 _ (.bool true) rfl rfl ⟨by rw [hfin], M⟩
      | false =>
       cases hf2 : (bt s (0) == 45) with
       | true =>
        refine w_reg ?_
        refine wl_mv (.tmp 3) (.bool false) (fun _ => rfl) e3 rfl ?_
        refine wl_m (.tmp 89) (.bool false) ?_
        refine wl_mv (.tmp 0) (.string s) (fun _ => rfl) e0 rfl ?_
        refine wl_bin (fun x y => Instr.index 9 x y) (.tmp 91) (.const (.int .i64 (0))) (.string s) (.int .i64 (0)) (.int .u8 (bt s (0))) (fun _ => rfl) rfl rfl (idx_b (by omega) _) rfl ?_
        refine wl_b .neq 5 (.tmp 92) (.const (.int .u8 (45))) (.int .u8 (bt s (0))) (.int .u8 (45)) (.bool false) (ne5r hf2 _ _ _) ?_
        refine wl_pick (.tmp 90) (.const (.bool true)) (.tmp 93) false (.bool false) (fun _ => rfl) rfl rfl rfl ?_
        refine wl_m (.tmp 94) (.bool false) ?_
        refine w_nil (xn_then (w_ret ?_))
        have hfin : whl s = false := by rw [hW2, hb, hf2]; rfl
        exact w_ret1 _ (.bool false) rfl rfl ⟨by rw [hfin], M⟩
       | false =>
        refine w_reg ?_
        refine wl_mv (.tmp 3) (.bool false) (fun _ => rfl) e3 rfl ?_
        refine wl_m (.tmp 89) (.bool false) ?_
        refine wl_mv (.tmp 0) (.string s) (fun _ => rfl) e0 rfl ?_
        refine wl_bin (fun x y => Instr.index 9 x y) (.tmp 91) (.const (.int .i64 (0))) (.string s) (.int .i64 (0)) (.int .u8 (bt s (0))) (fun _ => rfl) rfl rfl (idx_b (by omega) _) rfl ?_
        refine wl_b .neq 5 (.tmp 92) (.const (.int .u8 (45))) (.int .u8 (bt s (0))) (.int .u8 (45)) (.bool true) (ne5r hf2 _ _ _) ?_
        refine wl_pick (.tmp 90) (.const (.bool true)) (.tmp 93) false (.bool true) (fun _ => rfl) rfl rfl rfl ?_
        refine wl_m (.tmp 94) (.bool true) ?_
        refine w_nil (xn_then (w_ret ?_))
        have hfin : whl s = true := by rw [hW2, hb, hf2]; rfl
        exact w_ret1 _ (.bool true) rfl rfl ⟨by rw [hfin], M⟩
     ·skip
      refine w_seq ?_
      cases hf2 : decide (i < s.size) with
      | true =>
       have hf2p := of_decide_eq_true hf2
       refine w_reg ?_
       refine wl_mv (.tmp 4) (.int .i64 ((i : Nat) : Int)) (fun _ => rfl) e4 rfl ?_
       refine wl_mv (.tmp 0) (.string s) (fun _ => rfl) e0 rfl ?_
       refine wl_val (.int .i64 ((s.size : Nat) : Int)) (len_s _ _ s (by exact rfl) _ _ _ _ _ _) rfl ?_
       refine wl_b .lss 3 (.tmp 54) (.tmp 56) (.int .i64 ((i : Nat) : Int)) (.int .i64 ((s.size : Nat) : Int)) (.bool true) (ltN hf2 _ _ _) ?_
       refine w_nil (xn_then (w_condT rfl (w_seq (w_seq ?_))))
       cases hf3 : (bt s (i) == 46) with
       | true =>
        cases hf4 : decide (i + 1 = s.size) with
        | true =>
         have hf4p := of_decide_eq_true hf4
         refine w_reg ?_
         refine wl_mv (.tmp 0) (.string s) (fun _ => rfl) e0 rfl ?_
         refine wl_mv (.tmp 4) (.int .i64 ((i : Nat) : Int)) (fun _ => rfl) e4 rfl ?_
         refine wl_bin (fun x y => Instr.index 9 x y) (.tmp 58) (.tmp 59) (.string s) (.int .i64 ((i : Nat) : Int)) (.int .u8 (bt s (i))) (fun _ => rfl) rfl rfl (idx_b (by omega) _) rfl ?_
         refine wl_b .neq 5 (.tmp 60) (.const (.int .u8 (46))) (.int .u8 (bt s (i))) (.int .u8 (46)) (.bool false) (ne5r hf3 _ _ _) ?_
         refine wl_m (.tmp 61) (.bool false) ?_
         refine wl_mv (.tmp 4) (.int .i64 ((i : Nat) : Int)) (fun _ => rfl) e4 rfl ?_
         refine wl_b .add 3 (.tmp 63) (.const (.int .i64 (1))) (.int .i64 ((i : Nat) : Int)) (.int .i64 (1)) (.int .i64 ((i + 1 : Nat) : Int)) (add1r (k := i) (by omega) _ _ _) ?_
         refine wl_mv (.tmp 0) (.string s) (fun _ => rfl) e0 rfl ?_
         refine wl_val (.int .i64 ((s.size : Nat) : Int)) (len_s _ _ s (by exact rfl) _ _ _ _ _ _) rfl ?_
         refine wl_b .eql 3 (.tmp 64) (.tmp 66) (.int .i64 ((i + 1 : Nat) : Int)) (.int .i64 ((s.size : Nat) : Int)) (.bool true) (eqN hf4 _ _ _) ?_
         refine wl_pick (.tmp 62) (.const (.bool true)) (.tmp 67) false (.bool true) (fun _ => rfl) rfl rfl rfl ?_
         refine w_nil (xn_then (w_condT rfl (w_seq (w_reg ?_))))
         refine wl_m (.const (.bool false)) (.bool false) ?_
         refine w_nil (xn_then (w_ret (xr_then (xr_then ?_))))
         have hfin : whl s = false := by rw [hW]; first | (simp [hf0p, hf1, hf2p, hf3, hf4p]; done) | (simp [hf0p, hf1, hf2p, hf3, hf4p]; omega)
         exact w_ret1 _ (.bool false) rfl rfl ⟨by rw [hfin], M⟩
        | false =>
         have hf4p := of_decide_eq_false hf4
         refine w_reg ?_
         refine wl_mv (.tmp 0) (.string s) (fun _ => rfl) e0 rfl ?_
         refine wl_mv (.tmp 4) (.int .i64 ((i : Nat) : Int)) (fun _ => rfl) e4 rfl ?_
         refine wl_bin (fun x y => Instr.index 9 x y) (.tmp 58) (.tmp 59) (.string s) (.int .i64 ((i : Nat) : Int)) (.int .u8 (bt s (i))) (fun _ => rfl) rfl rfl (idx_b (by omega) _) rfl ?_
         refine wl_b .neq 5 (.tmp 60) (.const (.int .u8 (46))) (.int .u8 (bt s (i))) (.int .u8 (46)) (.bool false) (ne5r hf3 _ _ _) ?_
         refine wl_m (.tmp 61) (.bool false) ?_
         refine wl_mv (.tmp 4) (.int .i64 ((i : Nat) : Int)) (fun _ => rfl) e4 rfl ?_
         refine wl_b .add 3 (.tmp 63) (.const (.int .i64 (1))) (.int .i64 ((i : Nat) : Int)) (.int .i64 (1)) (.int .i64 ((i + 1 : Nat) : Int)) (add1r (k := i) (by omega) _ _ _) ?_
         refine wl_mv (.tmp 0) (.string s) (fun _ => rfl) e0 rfl ?_
         refine wl_val (.int .i64 ((s.size : Nat) : Int)) (len_s _ _ s (by exact rfl) _ _ _ _ _ _) rfl ?_
         refine wl_b .eql 3 (.tmp 64) (.tmp 66) (.int .i64 ((i + 1 : Nat) : Int)) (.int .i64 ((s.size : Nat) : Int)) (.bool false) (eqN hf4 _ _ _) ?_
         refine wl_pick (.tmp 62) (.const (.bool true)) (.tmp 67) false (.bool false) (fun _ => rfl) rfl rfl rfl ?_
         refine w_nil (xn_then (w_condF rfl (w_skip (xn_then (w_seq (w_reg ?_))))))
         refine wl_mv (.tmp 4) (.int .i64 ((i : Nat) : Int)) (fun _ => rfl) e4 rfl ?_
         refine wl_b .add 3 (.tmp 69) (.const (.int .i64 (1))) (.int .i64 ((i : Nat) : Int)) (.int .i64 (1)) (.int .i64 ((i + 1 : Nat) : Int)) (add1r (k := i) (by omega) _ _ _) ?_
         refine wl_m (.tmp 70) (.int .i64 ((i + 1 : Nat) : Int)) ?_
         refine w_nil (xn_then (w_block ?_))
         refine w_loop (fun m l w1 => ∃ (k : Nat) (o2 : Bool), m = s.size - k ∧ look l 0 = .string s ∧ look l 3 = .bool o2 ∧ look l 6 = .int .i64 (k : Int) ∧ i + 1 ≤ k ∧ k ≤ s.size ∧ re s k = re s (i + 1) ∧ (o2 || !az s k) = (o || !az s (i + 1)) ∧ Mo w w1) _ ⟨i + 1, o, rfl, e0, e3, rfl, by omega, by omega, rfl, rfl, M⟩ ?_
         clear M
         rintro m2 l2 wl2 ⟨k, o2, rfl, e0, e3, e6, hik, hks, hrk, hzk, M⟩
         refine w_seq (w_seq ?_)
         cases hf5 : decide (k < s.size) with
         | true =>
          have hf5p := of_decide_eq_true hf5
          refine w_reg ?_
          refine wl_mv (.tmp 6) (.int .i64 ((k : Nat) : Int)) (fun _ => rfl) e6 rfl ?_
          refine wl_mv (.tmp 0) (.string s) (fun _ => rfl) e0 rfl ?_
          refine wl_val (.int .i64 ((s.size : Nat) : Int)) (len_s _ _ s (by exact rfl) _ _ _ _ _ _) rfl ?_
          refine wl_b .lss 3 (.tmp 71) (.tmp 73) (.int .i64 ((k : Nat) : Int)) (.int .i64 ((s.size : Nat) : Int)) (.bool true) (ltN hf5 _ _ _) ?_
          refine w_nil (xn_then (w_condT rfl (w_skip (xn_then (w_seq (w_block (w_seq (w_seq ?_))))))))
          cases hf6 : dgt (bt s (k)) with
          | true =>
           refine w_reg ?_
           refine wl_mv (.tmp 0) (.string s) (fun _ => rfl) e0 rfl ?_
           refine wl_mv (.tmp 6) (.int .i64 ((k : Nat) : Int)) (fun _ => rfl) e6 rfl ?_
           refine wl_bin (fun x y => Instr.index 9 x y) (.tmp 77) (.tmp 78) (.string s) (.int .i64 ((k : Nat) : Int)) (.int .u8 (bt s (k))) (fun _ => rfl) rfl rfl (idx_b (by omega) _) rfl ?_
           refine wl_call 49 [(.tmp 79)] _ [.int .u8 (bt s (k))] (.bool true) rfl rfl (fun _ _ => by kernel_rfl) (digit_c hf6 _) rfl ?_
           intro w61 hq
           replace M := M.trans hq
           clear hq
           refine wl_un (fun v => Op.unary .not v) (.tmp 80) (.bool true) (.bool false) (fun _ => rfl) rfl (by kernel_rfl) rfl ?_
           refine w_nil (xn_then (w_condF rfl (w_skip (xn_then ?_))))
           cases o2 with
           | true =>
            refine w_reg ?_
            refine wl_mv (.tmp 3) (.bool true) (fun _ => rfl) e3 rfl ?_
            refine wl_m (.tmp 82) (.bool true) ?_
            refine wl_skip rfl (wl_skip rfl (wl_skip rfl (wl_skip rfl ?_)))
            refine wl_pick (.tmp 83) (.const (.bool true)) (.tmp 87) true (.bool true) (fun _ => rfl) rfl rfl rfl ?_
            refine wl_m (.tmp 88) (.bool true) ?_
            refine w_nil (xn_blk (xn_then (w_reg ?_)))
            refine wl_mv (.tmp 6) (.int .i64 ((k : Nat) : Int)) (fun _ => rfl) e6 rfl ?_
            refine wl_b .add 3 (.tmp 75) (.const (.int .i64 (1))) (.int .i64 ((k : Nat) : Int)) (.int .i64 (1)) (.int .i64 ((k + 1 : Nat) : Int)) (add1r (k := k) (by omega) _ _ _) ?_
            refine wl_m (.tmp 76) (.int .i64 ((k + 1 : Nat) : Int)) ?_
            refine w_nil ?_
            exact xn_loop (s.size - (k + 1)) (by omega) ⟨k + 1, true, rfl, e0, rfl, rfl, by omega, by omega, by rw [← hrk, re_on hf6], by rw [← hzk, az_on hf6]; simp, M⟩
           | false =>
            cases hf7 : (bt s (k) == 48) with
            | true =>
             refine w_reg ?_
             refine wl_mv (.tmp 3) (.bool false) (fun _ => rfl) e3 rfl ?_
             refine wl_m (.tmp 82) (.bool false) ?_
             refine wl_mv (.tmp 0) (.string s) (fun _ => rfl) e0 rfl ?_
             refine wl_mv (.tmp 6) (.int .i64 ((k : Nat) : Int)) (fun _ => rfl) e6 rfl ?_
             refine wl_bin (fun x y => Instr.index 9 x y) (.tmp 84) (.tmp 85) (.string s) (.int .i64 ((k : Nat) : Int)) (.int .u8 (bt s (k))) (fun _ => rfl) rfl rfl (idx_b (by omega) _) rfl ?_
             refine wl_b .neq 5 (.tmp 86) (.const (.int .u8 (48))) (.int .u8 (bt s (k))) (.int .u8 (48)) (.bool false) (ne5r hf7 _ _ _) ?_
             refine wl_pick (.tmp 83) (.const (.bool true)) (.tmp 87) false (.bool false) (fun _ => rfl) rfl rfl rfl ?_
             refine wl_m (.tmp 88) (.bool false) ?_
             refine w_nil (xn_blk (xn_then (w_reg ?_)))
             refine wl_mv (.tmp 6) (.int .i64 ((k : Nat) : Int)) (fun _ => rfl) e6 rfl ?_
             refine wl_b .add 3 (.tmp 75) (.const (.int .i64 (1))) (.int .i64 ((k : Nat) : Int)) (.int .i64 (1)) (.int .i64 ((k + 1 : Nat) : Int)) (add1r (k := k) (by omega) _ _ _) ?_
             refine wl_m (.tmp 76) (.int .i64 ((k + 1 : Nat) : Int)) ?_
             refine w_nil ?_
             exact xn_loop (s.size - (k + 1)) (by omega) ⟨k + 1, false, rfl, e0, rfl, rfl, by omega, by omega, by rw [← hrk, re_on hf6], by rw [← hzk, az_on hf6, hf7]; simp, M⟩
            | false =>
             refine w_reg ?_
             refine wl_mv (.tmp 3) (.bool false) (fun _ => rfl) e3 rfl ?_
             refine wl_m (.tmp 82) (.bool false) ?_
             refine wl_mv (.tmp 0) (.string s) (fun _ => rfl) e0 rfl ?_
             refine wl_mv (.tmp 6) (.int .i64 ((k : Nat) : Int)) (fun _ => rfl) e6 rfl ?_
             refine wl_bin (fun x y => Instr.index 9 x y) (.tmp 84) (.tmp 85) (.string s) (.int .i64 ((k : Nat) : Int)) (.int .u8 (bt s (k))) (fun _ => rfl) rfl rfl (idx_b (by omega) _) rfl ?_
             refine wl_b .neq 5 (.tmp 86) (.const (.int .u8 (48))) (.int .u8 (bt s (k))) (.int .u8 (48)) (.bool true) (ne5r hf7 _ _ _) ?_
             refine wl_pick (.tmp 83) (.const (.bool true)) (.tmp 87) false (.bool true) (fun _ => rfl) rfl rfl rfl ?_
             refine wl_m (.tmp 88) (.bool true) ?_
             refine w_nil (xn_blk (xn_then (w_reg ?_)))
             refine wl_mv (.tmp 6) (.int .i64 ((k : Nat) : Int)) (fun _ => rfl) e6 rfl ?_
             refine wl_b .add 3 (.tmp 75) (.const (.int .i64 (1))) (.int .i64 ((k : Nat) : Int)) (.int .i64 (1)) (.int .i64 ((k + 1 : Nat) : Int)) (add1r (k := k) (by omega) _ _ _) ?_
             refine wl_m (.tmp 76) (.int .i64 ((k + 1 : Nat) : Int)) ?_
             refine w_nil ?_
             exact xn_loop (s.size - (k + 1)) (by omega) ⟨k + 1, true, rfl, e0, rfl, rfl, by omega, by omega, by rw [← hrk, re_on hf6], by rw [← hzk, az_on hf6, hf7]; simp, M⟩
          | false =>
           refine w_reg ?_
           refine wl_mv (.tmp 0) (.string s) (fun _ => rfl) e0 rfl ?_
           refine wl_mv (.tmp 6) (.int .i64 ((k : Nat) : Int)) (fun _ => rfl) e6 rfl ?_
           refine wl_bin (fun x y => Instr.index 9 x y) (.tmp 77) (.tmp 78) (.string s) (.int .i64 ((k : Nat) : Int)) (.int .u8 (bt s (k))) (fun _ => rfl) rfl rfl (idx_b (by omega) _) rfl ?_
           refine wl_call 49 [(.tmp 79)] _ [.int .u8 (bt s (k))] (.bool false) rfl rfl (fun _ _ => by kernel_rfl) (digit_c hf6 _) rfl ?_
           intro w61 hq
           replace M := M.trans hq
           clear hq
           refine wl_un (fun v => Op.unary .not v) (.tmp 80) (.bool false) (.bool true) (fun _ => rfl) rfl (by kernel_rfl) rfl ?_
           refine w_nil (xn_then (w_condT rfl (w_seq (w_reg ?_))))
           refine wl_m (.const (.bool false)) (.bool false) ?_
           refine w_nil (xn_then (w_ret (xr_then (xr_blk (xr_then (xr_then (xr_blk (xr_then ?_))))))))
           have hr2 : re s (i + 1) = k := by rw [← hrk, re_end hf6]
           have hkn : k ≠ s.size := by omega
           have hfin : whl s = false := by rw [hW, hr2]; simp [hkn, hf0p, hf1, hf2p, hf3, hf4p]
           exact w_ret1 _ (.bool false) rfl rfl ⟨by rw [hfin], M⟩
         | false =>
          have hf5p := of_decide_eq_false hf5
          refine w_reg ?_
          refine wl_mv (.tmp 6) (.int .i64 ((k : Nat) : Int)) (fun _ => rfl) e6 rfl ?_
          refine wl_mv (.tmp 0) (.string s) (fun _ => rfl) e0 rfl ?_
          refine wl_val (.int .i64 ((s.size : Nat) : Int)) (len_s _ _ s (by exact rfl) _ _ _ _ _ _) rfl ?_
          refine wl_b .lss 3 (.tmp 71) (.tmp 73) (.int .i64 ((k : Nat) : Int)) (.int .i64 ((s.size : Nat) : Int)) (.bool false) (ltN hf5 _ _ _) ?_
          refine w_nil (xn_then (w_condF rfl (w_exit (xx_then (xx_then ?_)))))
          have hnd2 : dgt (bt s k) = false := by rw [bt_out (by omega)]; rfl
          have hr2 : re s (i + 1) = s.size := by rw [← hrk, re_end hnd2]; omega
          rw [az_end hnd2, Bool.not_true, Bool.or_false] at hzk
          refine xx_blk ?_
          exact xn_cut ⟨o2, e0, e3, by rw [hW, hr2]; first | (simp [hf0p, hf1, hf2p, hf3, hf4p, ← hzk]; done) | (simp [hf0p, hf1, hf2p, hf3, hf4p, hf5p, ← hzk]; omega), by omega, M⟩
       | false =>
        refine w_reg ?_
        refine wl_mv (.tmp 0) (.string s) (fun _ => rfl) e0 rfl ?_
        refine wl_mv (.tmp 4) (.int .i64 ((i : Nat) : Int)) (fun _ => rfl) e4 rfl ?_
        refine wl_bin (fun x y => Instr.index 9 x y) (.tmp 58) (.tmp 59) (.string s) (.int .i64 ((i : Nat) : Int)) (.int .u8 (bt s (i))) (fun _ => rfl) rfl rfl (idx_b (by omega) _) rfl ?_
        refine wl_b .neq 5 (.tmp 60) (.const (.int .u8 (46))) (.int .u8 (bt s (i))) (.int .u8 (46)) (.bool true) (ne5r hf3 _ _ _) ?_
        refine wl_m (.tmp 61) (.bool true) ?_
        refine wl_skip rfl (wl_skip rfl (wl_skip rfl (wl_skip rfl (wl_skip rfl ?_))))
        refine wl_pick (.tmp 62) (.const (.bool true)) (.tmp 67) true (.bool true) (fun _ => rfl) rfl rfl rfl ?_
        refine w_nil (xn_then (w_condT rfl (w_seq (w_reg ?_))))
        refine wl_m (.const (.bool false)) (.bool false) ?_
        refine w_nil (xn_then (w_ret (xr_then (xr_then ?_))))
        have hfin : whl s = false := by rw [hW]; first | (simp [hf0p, hf1, hf2p, hf3]; done) | (simp [hf0p, hf1, hf2p, hf3]; omega)
        exact w_ret1 _ (.bool false) rfl rfl ⟨by rw [hfin], M⟩
      | false =>
       have hf2p := of_decide_eq_false hf2
       refine w_reg ?_
       refine wl_mv (.tmp 4) (.int .i64 ((i : Nat) : Int)) (fun _ => rfl) e4 rfl ?_
       refine wl_mv (.tmp 0) (.string s) (fun _ => rfl) e0 rfl ?_
       refine wl_val (.int .i64 ((s.size : Nat) : Int)) (len_s _ _ s (by exact rfl) _ _ _ _ _ _) rfl ?_
       refine wl_b .lss 3 (.tmp 54) (.tmp 56) (.int .i64 ((i : Nat) : Int)) (.int .i64 ((s.size : Nat) : Int)) (.bool false) (ltN hf2 _ _ _) ?_
       refine w_nil (xn_then (w_condF rfl (w_skip ?_)))
       exact xn_cut ⟨o, e0, e3, by rw [hW]; first | (simp [hf0p, hf1, hf2p]; done) | (simp [hf0p, hf1, hf2p]; omega), by omega, M⟩
  ·skip
   refine w_block ?_
   refine w_loop (fun m l w1 => ∃ (i : Nat) (o : Bool), m = s.size - i ∧ look l 0 = .string s ∧ look l 3 = .bool o ∧ look l 4 = .int .i64 (i : Int) ∧ look l 5 = .int .i64 (p : Int) ∧ p ≤ i ∧ i ≤ s.size ∧ re s i = re s p ∧ (o || !az s i) = !az s p ∧ Mo w w1) _ ⟨p, false, rfl, e0, e3, e4, rfl, Nat.le_refl _, hps, rfl, rfl, M⟩ ?_
   clear M
   rintro m l wl ⟨i, o, rfl, e0, e3, e4, e5, hpi, his, hre, haz, M⟩
   cases o with
   | true =>
    refine w_seq (w_seq ?_)
    cases hf0 : decide (i < s.size) with
    | true =>
     have hf0p := of_decide_eq_true hf0
     cases hf1 : dgt (bt s (i)) with
     | true =>
      refine w_reg ?_
      refine wl_mv (.tmp 4) (.int .i64 ((i : Nat) : Int)) (fun _ => rfl) e4 rfl ?_
      refine wl_mv (.tmp 0) (.string s) (fun _ => rfl) e0 rfl ?_
      refine wl_val (.int .i64 ((s.size : Nat) : Int)) (len_s _ _ s (by exact rfl) _ _ _ _ _ _) rfl ?_
      refine wl_b .lss 3 (.tmp 20) (.tmp 22) (.int .i64 ((i : Nat) : Int)) (.int .i64 ((s.size : Nat) : Int)) (.bool true) (ltN hf0 _ _ _) ?_
      refine wl_m (.tmp 23) (.bool true) ?_
      refine wl_mv (.tmp 0) (.string s) (fun _ => rfl) e0 rfl ?_
      refine wl_mv (.tmp 4) (.int .i64 ((i : Nat) : Int)) (fun _ => rfl) e4 rfl ?_
      refine wl_bin (fun x y => Instr.index 9 x y) (.tmp 25) (.tmp 26) (.string s) (.int .i64 ((i : Nat) : Int)) (.int .u8 (bt s (i))) (fun _ => rfl) rfl rfl (idx_b (by omega) _) rfl ?_
      refine wl_call 49 [(.tmp 27)] _ [.int .u8 (bt s (i))] (.bool true) rfl rfl (fun _ _ => by kernel_rfl) (digit_c hf1 _) rfl ?_
      intro w21 hq
      replace M := M.trans hq
      clear hq
      refine wl_pick (.tmp 24) (.tmp 28) (.const (.bool false)) true (.bool true) (fun _ => rfl) rfl rfl rfl ?_
      refine w_nil (xn_then (w_condT rfl (w_skip (xn_then (w_block (w_seq (w_reg ?_)))))))
      refine wl_mv (.tmp 3) (.bool true) (fun _ => rfl) e3 rfl ?_
      refine wl_m (.tmp 30) (.bool true) ?_
      refine wl_skip rfl (wl_skip rfl (wl_skip rfl (wl_skip rfl ?_)))
      refine wl_pick (.tmp 31) (.const (.bool true)) (.tmp 35) true (.bool true) (fun _ => rfl) rfl rfl rfl ?_
      refine wl_m (.tmp 36) (.bool true) ?_
      refine w_nil (xn_then (w_reg ?_))
      refine wl_mv (.tmp 4) (.int .i64 ((i : Nat) : Int)) (fun _ => rfl) e4 rfl ?_
      refine wl_b .add 3 (.tmp 37) (.const (.int .i64 (1))) (.int .i64 ((i : Nat) : Int)) (.int .i64 (1)) (.int .i64 ((i + 1 : Nat) : Int)) (add1r (k := i) (by omega) _ _ _) ?_
      refine wl_m (.tmp 38) (.int .i64 ((i + 1 : Nat) : Int)) ?_
      refine w_nil (xn_blk ?_)
      exact xn_loop (s.size - (i + 1)) (by omega) ⟨i + 1, true, rfl, e0, rfl, rfl, e5, by omega, by omega, by rw [← hre, re_on hf1], by rw [← haz, az_on hf1]; simp, M⟩
     | false =>
      refine w_reg ?_
      refine wl_mv (.tmp 4) (.int .i64 ((i : Nat) : Int)) (fun _ => rfl) e4 rfl ?_
      refine wl_mv (.tmp 0) (.string s) (fun _ => rfl) e0 rfl ?_
      refine wl_val (.int .i64 ((s.size : Nat) : Int)) (len_s _ _ s (by exact rfl) _ _ _ _ _ _) rfl ?_
      refine wl_b .lss 3 (.tmp 20) (.tmp 22) (.int .i64 ((i : Nat) : Int)) (.int .i64 ((s.size : Nat) : Int)) (.bool true) (ltN hf0 _ _ _) ?_
      refine wl_m (.tmp 23) (.bool true) ?_
      refine wl_mv (.tmp 0) (.string s) (fun _ => rfl) e0 rfl ?_
      refine wl_mv (.tmp 4) (.int .i64 ((i : Nat) : Int)) (fun _ => rfl) e4 rfl ?_
      refine wl_bin (fun x y => Instr.index 9 x y) (.tmp 25) (.tmp 26) (.string s) (.int .i64 ((i : Nat) : Int)) (.int .u8 (bt s (i))) (fun _ => rfl) rfl rfl (idx_b (by omega) _) rfl ?_
      refine wl_call 49 [(.tmp 27)] _ [.int .u8 (bt s (i))] (.bool false) rfl rfl (fun _ _ => by kernel_rfl) (digit_c hf1 _) rfl ?_
      intro w21 hq
      replace M := M.trans hq
      clear hq
      refine wl_pick (.tmp 24) (.tmp 28) (.const (.bool false)) true (.bool false) (fun _ => rfl) rfl rfl rfl ?_
      refine w_nil (xn_then (w_condF rfl (w_exit (xx_then (xx_then (xx_blk ?_))))))
      have hnd : dgt (bt s i) = false := hf1
      rw [re_end hnd] at hre
      rw [az_end hnd] at haz
      exact xn_cut ⟨i, true, e0, e3, e4, e5, hpi, his, hre.symm, by rw [← Bool.not_not (az s p), ← haz]; rfl, M⟩
    | false =>
     have hf0p := of_decide_eq_false hf0
     refine w_reg ?_
     refine wl_mv (.tmp 4) (.int .i64 ((i : Nat) : Int)) (fun _ => rfl) e4 rfl ?_
     refine wl_mv (.tmp 0) (.string s) (fun _ => rfl) e0 rfl ?_
     refine wl_val (.int .i64 ((s.size : Nat) : Int)) (len_s _ _ s (by exact rfl) _ _ _ _ _ _) rfl ?_
     refine wl_b .lss 3 (.tmp 20) (.tmp 22) (.int .i64 ((i : Nat) : Int)) (.int .i64 ((s.size : Nat) : Int)) (.bool false) (ltN hf0 _ _ _) ?_
     refine wl_m (.tmp 23) (.bool false) ?_
     refine wl_skip rfl (wl_skip rfl (wl_skip rfl (wl_skip rfl ?_)))
     refine wl_pick (.tmp 24) (.tmp 28) (.const (.bool false)) false (.bool false) (fun _ => rfl) rfl rfl rfl ?_
     refine w_nil (xn_then (w_condF rfl (w_exit (xx_then (xx_then (xx_blk ?_))))))
     have hnd : dgt (bt s i) = false := by rw [bt_out (by omega)]; rfl
     rw [re_end hnd] at hre
     rw [az_end hnd] at haz
     exact xn_cut ⟨i, true, e0, e3, e4, e5, hpi, his, hre.symm, by rw [← Bool.not_not (az s p), ← haz]; rfl, M⟩
   | false =>
    refine w_seq (w_seq ?_)
    cases hf0 : decide (i < s.size) with
    | true =>
     have hf0p := of_decide_eq_true hf0
     cases hf1 : dgt (bt s (i)) with
     | true =>
      refine w_reg ?_
      refine wl_mv (.tmp 4) (.int .i64 ((i : Nat) : Int)) (fun _ => rfl) e4 rfl ?_
      refine wl_mv (.tmp 0) (.string s) (fun _ => rfl) e0 rfl ?_
      refine wl_val (.int .i64 ((s.size : Nat) : Int)) (len_s _ _ s (by exact rfl) _ _ _ _ _ _) rfl ?_
      refine wl_b .lss 3 (.tmp 20) (.tmp 22) (.int .i64 ((i : Nat) : Int)) (.int .i64 ((s.size : Nat) : Int)) (.bool true) (ltN hf0 _ _ _) ?_
      refine wl_m (.tmp 23) (.bool true) ?_
      refine wl_mv (.tmp 0) (.string s) (fun _ => rfl) e0 rfl ?_
      refine wl_mv (.tmp 4) (.int .i64 ((i : Nat) : Int)) (fun _ => rfl) e4 rfl ?_
      refine wl_bin (fun x y => Instr.index 9 x y) (.tmp 25) (.tmp 26) (.string s) (.int .i64 ((i : Nat) : Int)) (.int .u8 (bt s (i))) (fun _ => rfl) rfl rfl (idx_b (by omega) _) rfl ?_
      refine wl_call 49 [(.tmp 27)] _ [.int .u8 (bt s (i))] (.bool true) rfl rfl (fun _ _ => by kernel_rfl) (digit_c hf1 _) rfl ?_
      intro w21 hq
      replace M := M.trans hq
      clear hq
      refine wl_pick (.tmp 24) (.tmp 28) (.const (.bool false)) true (.bool true) (fun _ => rfl) rfl rfl rfl ?_
      refine w_nil (xn_then (w_condT rfl (w_skip (xn_then (w_block (w_seq ?_))))))
      cases hf2 : (bt s (i) == 48) with
      | true =>
       refine w_reg ?_
       refine wl_mv (.tmp 3) (.bool false) (fun _ => rfl) e3 rfl ?_
       refine wl_m (.tmp 30) (.bool false) ?_
       refine wl_mv (.tmp 0) (.string s) (fun _ => rfl) e0 rfl ?_
       refine wl_mv (.tmp 4) (.int .i64 ((i : Nat) : Int)) (fun _ => rfl) e4 rfl ?_
       refine wl_bin (fun x y => Instr.index 9 x y) (.tmp 32) (.tmp 33) (.string s) (.int .i64 ((i : Nat) : Int)) (.int .u8 (bt s (i))) (fun _ => rfl) rfl rfl (idx_b (by omega) _) rfl ?_
       refine wl_b .neq 5 (.tmp 34) (.const (.int .u8 (48))) (.int .u8 (bt s (i))) (.int .u8 (48)) (.bool false) (ne5r hf2 _ _ _) ?_
       refine wl_pick (.tmp 31) (.const (.bool true)) (.tmp 35) false (.bool false) (fun _ => rfl) rfl rfl rfl ?_
       refine wl_m (.tmp 36) (.bool false) ?_
       refine w_nil (xn_then (w_reg ?_))
       refine wl_mv (.tmp 4) (.int .i64 ((i : Nat) : Int)) (fun _ => rfl) e4 rfl ?_
       refine wl_b .add 3 (.tmp 37) (.const (.int .i64 (1))) (.int .i64 ((i : Nat) : Int)) (.int .i64 (1)) (.int .i64 ((i + 1 : Nat) : Int)) (add1r (k := i) (by omega) _ _ _) ?_
       refine wl_m (.tmp 38) (.int .i64 ((i + 1 : Nat) : Int)) ?_
       refine w_nil (xn_blk ?_)
       exact xn_loop (s.size - (i + 1)) (by omega) ⟨i + 1, false, rfl, e0, rfl, rfl, e5, by omega, by omega, by rw [← hre, re_on hf1], by rw [← haz, az_on hf1, hf2]; simp, M⟩
      | false =>
       refine w_reg ?_
       refine wl_mv (.tmp 3) (.bool false) (fun _ => rfl) e3 rfl ?_
       refine wl_m (.tmp 30) (.bool false) ?_
       refine wl_mv (.tmp 0) (.string s) (fun _ => rfl) e0 rfl ?_
       refine wl_mv (.tmp 4) (.int .i64 ((i : Nat) : Int)) (fun _ => rfl) e4 rfl ?_
       refine wl_bin (fun x y => Instr.index 9 x y) (.tmp 32) (.tmp 33) (.string s) (.int .i64 ((i : Nat) : Int)) (.int .u8 (bt s (i))) (fun _ => rfl) rfl rfl (idx_b (by omega) _) rfl ?_
       refine wl_b .neq 5 (.tmp 34) (.const (.int .u8 (48))) (.int .u8 (bt s (i))) (.int .u8 (48)) (.bool true) (ne5r hf2 _ _ _) ?_
       refine wl_pick (.tmp 31) (.const (.bool true)) (.tmp 35) false (.bool true) (fun _ => rfl) rfl rfl rfl ?_
       refine wl_m (.tmp 36) (.bool true) ?_
       refine w_nil (xn_then (w_reg ?_))
       refine wl_mv (.tmp 4) (.int .i64 ((i : Nat) : Int)) (fun _ => rfl) e4 rfl ?_
       refine wl_b .add 3 (.tmp 37) (.const (.int .i64 (1))) (.int .i64 ((i : Nat) : Int)) (.int .i64 (1)) (.int .i64 ((i + 1 : Nat) : Int)) (add1r (k := i) (by omega) _ _ _) ?_
       refine wl_m (.tmp 38) (.int .i64 ((i + 1 : Nat) : Int)) ?_
       refine w_nil (xn_blk ?_)
       exact xn_loop (s.size - (i + 1)) (by omega) ⟨i + 1, true, rfl, e0, rfl, rfl, e5, by omega, by omega, by rw [← hre, re_on hf1], by rw [← haz, az_on hf1, hf2]; simp, M⟩
     | false =>
      refine w_reg ?_
      refine wl_mv (.tmp 4) (.int .i64 ((i : Nat) : Int)) (fun _ => rfl) e4 rfl ?_
      refine wl_mv (.tmp 0) (.string s) (fun _ => rfl) e0 rfl ?_
      refine wl_val (.int .i64 ((s.size : Nat) : Int)) (len_s _ _ s (by exact rfl) _ _ _ _ _ _) rfl ?_
      refine wl_b .lss 3 (.tmp 20) (.tmp 22) (.int .i64 ((i : Nat) : Int)) (.int .i64 ((s.size : Nat) : Int)) (.bool true) (ltN hf0 _ _ _) ?_
      refine wl_m (.tmp 23) (.bool true) ?_
      refine wl_mv (.tmp 0) (.string s) (fun _ => rfl) e0 rfl ?_
      refine wl_mv (.tmp 4) (.int .i64 ((i : Nat) : Int)) (fun _ => rfl) e4 rfl ?_
      refine wl_bin (fun x y => Instr.index 9 x y) (.tmp 25) (.tmp 26) (.string s) (.int .i64 ((i : Nat) : Int)) (.int .u8 (bt s (i))) (fun _ => rfl) rfl rfl (idx_b (by omega) _) rfl ?_
      refine wl_call 49 [(.tmp 27)] _ [.int .u8 (bt s (i))] (.bool false) rfl rfl (fun _ _ => by kernel_rfl) (digit_c hf1 _) rfl ?_
      intro w21 hq
      replace M := M.trans hq
      clear hq
      refine wl_pick (.tmp 24) (.tmp 28) (.const (.bool false)) true (.bool false) (fun _ => rfl) rfl rfl rfl ?_
      refine w_nil (xn_then (w_condF rfl (w_exit (xx_then (xx_then (xx_blk ?_))))))
      have hnd : dgt (bt s i) = false := hf1
      rw [re_end hnd] at hre
      rw [az_end hnd] at haz
      exact xn_cut ⟨i, false, e0, e3, e4, e5, hpi, his, hre.symm, by rw [← Bool.not_not (az s p), ← haz]; rfl, M⟩
    | false =>
     have hf0p := of_decide_eq_false hf0
     refine w_reg ?_
     refine wl_mv (.tmp 4) (.int .i64 ((i : Nat) : Int)) (fun _ => rfl) e4 rfl ?_
     refine wl_mv (.tmp 0) (.string s) (fun _ => rfl) e0 rfl ?_
     refine wl_val (.int .i64 ((s.size : Nat) : Int)) (len_s _ _ s (by exact rfl) _ _ _ _ _ _) rfl ?_
     refine wl_b .lss 3 (.tmp 20) (.tmp 22) (.int .i64 ((i : Nat) : Int)) (.int .i64 ((s.size : Nat) : Int)) (.bool false) (ltN hf0 _ _ _) ?_
     refine wl_m (.tmp 23) (.bool false) ?_
     refine wl_skip rfl (wl_skip rfl (wl_skip rfl (wl_skip rfl ?_)))
     refine wl_pick (.tmp 24) (.tmp 28) (.const (.bool false)) false (.bool false) (fun _ => rfl) rfl rfl rfl ?_
     refine w_nil (xn_then (w_condF rfl (w_exit (xx_then (xx_then (xx_blk ?_))))))
     have hnd : dgt (bt s i) = false := by rw [bt_out (by omega)]; rfl
     rw [re_end hnd] at hre
     rw [az_end hnd] at haz
     exact xn_cut ⟨i, false, e0, e3, e4, e5, hpi, his, hre.symm, by rw [← Bool.not_not (az s p), ← haz]; rfl, M⟩
 ·skip
  refine w_seq ?_
  cases hf0 : decide (0 < s.size) with
  | true =>
   have hf0p := of_decide_eq_true hf0
   cases hf1 : (bt s (0) == 45) with
   | true =>
    refine w_reg ?_
    refine wl_m (.tmp 4) (.int .i64 (0)) ?_
    refine wl_m (.tmp 0) (.string s) ?_
    refine wl_val (.int .i64 ((s.size : Nat) : Int)) (len_s _ _ s (by exact rfl) _ _ _ _ _ _) rfl ?_
    refine wl_b .lss 3 (.tmp 7) (.tmp 9) (.int .i64 (0)) (.int .i64 ((s.size : Nat) : Int)) (.bool true) (ltN hf0 _ _ _) ?_
    refine wl_m (.tmp 10) (.bool true) ?_
    refine wl_m (.tmp 0) (.string s) ?_
    refine wl_m (.tmp 4) (.int .i64 (0)) ?_
    refine wl_bin (fun x y => Instr.index 9 x y) (.tmp 12) (.tmp 13) (.string s) (.int .i64 (0)) (.int .u8 (bt s (0))) (fun _ => rfl) rfl rfl (idx_b (by omega) _) rfl ?_
    refine wl_b .eql 5 (.tmp 14) (.const (.int .u8 (45))) (.int .u8 (bt s (0))) (.int .u8 (45)) (.bool true) (eq5r hf1 _ _ _) ?_
    refine wl_pick (.tmp 11) (.tmp 15) (.const (.bool false)) true (.bool true) (fun _ => rfl) rfl rfl rfl ?_
    refine w_nil (xn_then (w_condT rfl (w_reg ?_)))
    refine wl_m (.tmp 4) (.int .i64 (0)) ?_
    refine wl_b .add 3 (.tmp 17) (.const (.int .i64 (1))) (.int .i64 (0)) (.int .i64 (1)) (.int .i64 ((0 + 1 : Nat) : Int)) (add1r (k := 0) (by decide) _ _ _) ?_
    refine wl_m (.tmp 18) (.int .i64 ((0 + 1 : Nat) : Int)) ?_
    refine w_nil ?_
    exact xn_cut ⟨1, true, rfl, rfl, rfl, by omega, by omega, by unfold whl; rw [hf1]; rfl, rfl, M⟩
   | false =>
    refine w_reg ?_
    refine wl_m (.tmp 4) (.int .i64 (0)) ?_
    refine wl_m (.tmp 0) (.string s) ?_
    refine wl_val (.int .i64 ((s.size : Nat) : Int)) (len_s _ _ s (by exact rfl) _ _ _ _ _ _) rfl ?_
    refine wl_b .lss 3 (.tmp 7) (.tmp 9) (.int .i64 (0)) (.int .i64 ((s.size : Nat) : Int)) (.bool true) (ltN hf0 _ _ _) ?_
    refine wl_m (.tmp 10) (.bool true) ?_
    refine wl_m (.tmp 0) (.string s) ?_
    refine wl_m (.tmp 4) (.int .i64 (0)) ?_
    refine wl_bin (fun x y => Instr.index 9 x y) (.tmp 12) (.tmp 13) (.string s) (.int .i64 (0)) (.int .u8 (bt s (0))) (fun _ => rfl) rfl rfl (idx_b (by omega) _) rfl ?_
    refine wl_b .eql 5 (.tmp 14) (.const (.int .u8 (45))) (.int .u8 (bt s (0))) (.int .u8 (45)) (.bool false) (eq5r hf1 _ _ _) ?_
    refine wl_pick (.tmp 11) (.tmp 15) (.const (.bool false)) true (.bool false) (fun _ => rfl) rfl rfl rfl ?_
    refine w_nil (xn_then (w_condF rfl (w_skip ?_)))
    exact xn_cut ⟨0, false, rfl, rfl, rfl, by omega, by omega, by unfold whl; rw [hf1]; rfl, rfl, M⟩
  | false =>
   have hf0p := of_decide_eq_false hf0
   refine w_reg ?_
   refine wl_m (.tmp 4) (.int .i64 (0)) ?_
   refine wl_m (.tmp 0) (.string s) ?_
   refine wl_val (.int .i64 ((s.size : Nat) : Int)) (len_s _ _ s (by exact rfl) _ _ _ _ _ _) rfl ?_
   refine wl_b .lss 3 (.tmp 7) (.tmp 9) (.int .i64 (0)) (.int .i64 ((s.size : Nat) : Int)) (.bool false) (ltN hf0 _ _ _) ?_
   refine wl_m (.tmp 10) (.bool false) ?_
   refine wl_skip rfl (wl_skip rfl (wl_skip rfl (wl_skip rfl ?_)))
   refine wl_pick (.tmp 11) (.tmp 15) (.const (.bool false)) false (.bool false) (fun _ => rfl) rfl rfl rfl ?_
   refine w_nil (xn_then (w_condF rfl (w_skip ?_)))
   have hb0 : (bt s 0 == 45) = false := by rw [bt_out (by omega)]; rfl
   exact xn_cut ⟨0, false, rfl, rfl, rfl, by omega, by omega, by unfold whl; rw [hb0]; rfl, hb0.symm, M⟩
end Go.Proofs.YthgknegocfhdbaaDoor

/-
 lex.Blank and the document's, whatever the text.
-/
namespace Go.Proofs.YthgknegocfhdbaaDoor
open Go.RowKit
def isb (c : Int) : Bool := c == 32 || c == 9 || c == 10 || c == 13
def lnx (s : ByteArray) (k : Nat) : Nat := if h : k < s.size ∧ (bt s k == 10) = false then lnx s (k + 1) else k
termination_by s.size - k
decreasing_by omega
theorem lnx_on {s : ByteArray} {k : Nat} (h : k < s.size) (h2 : (bt s k == 10) = false) : lnx s k = lnx s (k + 1) := by rw [lnx, dif_pos ⟨h, h2⟩]
theorem lnx_at {s : ByteArray} {k : Nat} (h2 : (bt s k == 10) = true) : lnx s k = k := by rw [lnx, dif_neg (fun h => by rw [h2] at h; cases h.2)]
theorem lnx_end {s : ByteArray} {k : Nat} (h : ¬ k < s.size) : lnx s k = k := by rw [lnx, dif_neg (fun h2 => h h2.1)]
theorem lnx_ge (s : ByteArray) : ∀ (d k : Nat), d = s.size - k → k ≤ lnx s k := by
 intro d
 induction d with
 | zero => intro k hd; rw [lnx_end (by omega)]; exact Nat.le_refl _
 | succ d ih =>
  intro k hd
  cases h : (bt s k == 10) with
  | true => rw [lnx_at h]; exact Nat.le_refl _
  | false => rw [lnx_on (by omega) h]; have := ih (k + 1) (by omega); omega
theorem lnx_le (s : ByteArray) : ∀ (d k : Nat), d = s.size - k → k ≤ s.size → lnx s k ≤ s.size := by
 intro d
 induction d with
 | zero => intro k hd hk; rw [lnx_end (by omega)]; exact hk
 | succ d ih =>
  intro k hd hk
  cases h : (bt s k == 10) with
  | true => rw [lnx_at h]; exact hk
  | false => rw [lnx_on (by omega) h]; exact ih (k + 1) (by omega) (by omega)
theorem lnx_ge' (s : ByteArray) (k : Nat) : k ≤ lnx s k := lnx_ge s _ k rfl
theorem lnx_le' {s : ByteArray} {k : Nat} (h : k ≤ s.size) : lnx s k ≤ s.size := lnx_le s _ k rfl h
theorem lnx_bt (s : ByteArray) : ∀ (d k : Nat), d = s.size - k → lnx s k < s.size → (bt s (lnx s k) == 10) = true := by
 intro d
 induction d with
 | zero => intro k hd hk; rw [lnx_end (by omega)] at hk; omega
 | succ d ih =>
  intro k hd hk
  cases h : (bt s k == 10) with
  | true => rw [lnx_at h]; exact h
  | false => rw [lnx_on (by omega) h] at hk ⊢; exact ih (k + 1) (by omega) hk
def blk (s : ByteArray) (k : Nat) : Nat :=
 if h : k < s.size then (if isb (bt s k) then blk s (k + 1) else if (bt s k == 47) && (bt s (k + 1) == 47) then blk s (lnx s (k + 1)) else k) else k
termination_by s.size - k
decreasing_by
 ·omega
 ·have := lnx_ge' s (k + 1); omega
theorem blk_end {s : ByteArray} {k : Nat} (h : ¬ k < s.size) : blk s k = k := by rw [blk, dif_neg h]
theorem blk_b {s : ByteArray} {k : Nat} (h : k < s.size) (h2 : isb (bt s k) = true) : blk s k = blk s (k + 1) := by rw [blk, dif_pos h, h2]; rfl
theorem blk_c {s : ByteArray} {k : Nat} (h : k < s.size) (h2 : isb (bt s k) = false) (h3 : ((bt s k == 47) && (bt s (k + 1) == 47)) = true) : blk s k = blk s (lnx s (k + 1)) := by rw [blk, dif_pos h, h2, h3]; rfl
theorem blk_n {s : ByteArray} {k : Nat} (h2 : isb (bt s k) = false) (h3 : ((bt s k == 47) && (bt s (k + 1) == 47)) = false) : blk s k = k := by
 by_cases h : k < s.size
 ·rw [blk, dif_pos h, h2, h3]; rfl
 ·exact blk_end h
theorem by8_drop {s : ByteArray} {k : Nat} (h : k < s.size) : (by8 s).drop k = s[k] :: (by8 s).drop (k + 1) := by
 have h' : k < (by8 s).length := by rw [by8_len]; exact h
 rw [List.drop_eq_getElem_cons h']; rfl
theorem ixb_nl (s : ByteArray) : ∀ (d k : Nat), d = s.size - k → k ≤ s.size → Lib.indexByte ((by8 s).drop k) 10 = if lnx s k < s.size then ((lnx s k - k : Nat) : Int) else -1 := by
 intro d
 induction d with
 | zero =>
  intro k hd hk
  rw [lnx_end (by omega), if_neg (by omega), List.drop_of_length_le (by rw [by8_len]; omega)]; rfl
 | succ d ih =>
  intro k hd hk
  have hk2 : k < s.size := by omega
  rw [by8_drop hk2]
  have hb : (s[k] == 10) = (bt s k == 10) := by
   rw [bt_in hk2, Bool.eq_iff_iff, beq_iff_eq, beq_iff_eq]
   constructor
   ·intro h; rw [h]; rfl
   ·intro h
    apply UInt8.toNat_inj.1
    have : (s[k].toNat : Int) = ((10 : UInt8).toNat : Int) := h
    exact Int.ofNat_inj.1 this
  show (if (s[k] == 10) = true then (0 : Int) else if Lib.indexByte ((by8 s).drop (k + 1)) 10 == -1 then -1 else Lib.indexByte ((by8 s).drop (k + 1)) 10 + 1) = _
  rw [hb]
  cases h : (bt s k == 10) with
  | true => rw [lnx_at h, if_pos rfl, if_pos hk2, Nat.sub_self]; rfl
  | false =>
   have hi := ih (k + 1) (by omega) (by omega)
   have hg := lnx_ge' s (k + 1)
   rw [lnx_on hk2 h, hi, if_neg (by simp)]
   by_cases hn : lnx s (k + 1) < s.size
   ·rw [if_pos hn, if_pos hn, if_neg (by simp), show ((lnx s (k + 1) - k : Nat) : Int) = ((lnx s (k + 1) - (k + 1) : Nat) : Int) + 1 by omega]
   ·rw [if_neg hn, if_neg hn]; rfl
theorem ixb_n (s : ByteArray) (c : Int) (w : World) : Calls Tryd.prog 36 #[.string s, .int .u8 c] w fun e w' => e = .returned (.int .i64 (Lib.indexByte (by8 s) c.toNat.toUInt8)) ∧ Mo w w' :=
 (Tryd.strings_IndexByte s c w).mono fun _ _ ⟨h, e⟩ => ⟨h, e ▸ Mo.refl _⟩
theorem ixb_line {s : ByteArray} {k : Nat} {r : Int} (hk : k ≤ s.size) (hr : r = if lnx s k < s.size then ((lnx s k - k : Nat) : Int) else -1) (w : World) : Calls Tryd.prog 36 #[tx ((by8 s).drop k), .int .u8 10] w fun e w' => e = .returned (.int .i64 r) ∧ Mo w w' := by
 have h := ixb_n ⟨((by8 s).drop k).toArray⟩ 10 w
 have e : Lib.indexByte (by8 ⟨((by8 s).drop k).toArray⟩) (10 : Int).toNat.toUInt8 = r := by rw [hr, ← ixb_nl s _ k rfl hk]; rfl
 rw [e] at h; exact h
theorem addr1 {r : Int} {k : Nat} (h : r = (k : Int)) (hk : k ≤ 9223372036854775806) (x y : Operand) (w : World) : (do eqGuard .add 3 x y (.int .i64 r) (.int .i64 1); binOp .add 3 (.int .i64 r) (.int .i64 1)).run Tryd.prog w = .ok (.int .i64 ((k + 1 : Nat) : Int)) w := by
 subst h; exact add1r hk _ _ _
theorem addk {a b c : Nat} (h : a + b = c) (hc : c ≤ 9223372036854775807) (x y : Operand) (w : World) : (do eqGuard .add 3 x y (.int .i64 (a : Int)) (.int .i64 (b : Int)); binOp .add 3 (.int .i64 (a : Int)) (.int .i64 (b : Int))).run Tryd.prog w = .ok (.int .i64 ((c : Nat) : Int)) w := by
 have e : (do eqGuard .add 3 x y (.int .i64 (a : Int)) (.int .i64 (b : Int)); binOp .add 3 (.int .i64 (a : Int)) (.int .i64 (b : Int))).run Tryd.prog w = .ok (.int .i64 (IntKind.i64.wrap ((a : Int) + b))) w := by kernel_rfl
 have h2 : IntKind.i64.wrap ((a : Int) + b) = ((c : Nat) : Int) := by rw [IntKind.wrap_i64]; omega
 rw [e, h2]
theorem xg_blk {n : Nat} {l : List (Nat × Value)} {w : World} {Q : Exit → Act → World → Prop} {i j : Nat} (h : WX Q (.goto j) n l w) : WX (Exit.inBlock i Q) (.goto j) n l w := ⟨h.out⟩
def BI (s : ByteArray) (R : Nat) (w : World) (i m : Nat) (l : List (Nat × Value)) (w1 : World) : Prop :=
 ∃ k : Nat, look l 0 = .string s ∧ look l 1 = .int .i64 (k : Int) ∧ k ≤ s.size ∧ m = 2 * (s.size + 1 - k) + (1 - i) ∧ i ≤ 1 ∧ (i = 1 → (bt s k == 47) = true) ∧ blk s k = R ∧ Mo w w1
theorem blank_n (s : ByteArray) (a : Nat) (w : World) (hs : s.size ≤ maxLen) (ha : a ≤ s.size) : Calls Tryd.prog 14 #[.string s, .int .i64 ((a : Nat) : Int)] w fun e w' => e = .returned (.int .i64 ((blk s a : Nat) : Int)) ∧ Mo w w' := by
 unfold maxLen at hs
 refine w_enter 46 Tryd.func14 Tryd.ntmps14 rfl rfl ?_
 have M : Mo w w := Mo.refl _
 refine w_seq (w_reg ?_)
 refine wl_m (.const (.int .i64 (0))) (.int .i64 (0)) ?_
 refine w_nil (xn_then ?_)
 refine w_scope1 (BI s (blk s a) w) ?_ ?_ ?_
 ·rintro i m l w1 ⟨k, _, _, _, _, hi, _⟩
  match i, hi with
  | 0, _ => rfl
  | 1, _ => rfl
 ·skip
  have hB : blk s a = blk s a := rfl
  refine w_seq (w_seq (w_reg ?_))
  refine wl_m (.tmp 1) (.int .i64 ((a : Nat) : Int)) ?_
  refine wl_b .lss 3 (.tmp 6) (.const (.int .i64 (0))) (.int .i64 ((a : Nat) : Int)) (.int .i64 (0)) (.bool false) (lt3_run (r := false) (decide_eq_false (by omega)) _ _ _) ?_
  refine wl_m (.tmp 7) (.bool false) ?_
  refine wl_m (.tmp 1) (.int .i64 ((a : Nat) : Int)) ?_
  refine wl_m (.tmp 0) (.string s) ?_
  refine wl_val (.int .i64 ((s.size : Nat) : Int)) (len_s _ _ s (by exact rfl) _ _ _ _ _ _) rfl ?_
  refine wl_b .gtr 3 (.tmp 9) (.tmp 11) (.int .i64 ((a : Nat) : Int)) (.int .i64 ((s.size : Nat) : Int)) (.bool false) (gt3_run (r := false) (decide_eq_false (by omega)) _ _ _) ?_
  refine wl_pick (.tmp 8) (.const (.bool true)) (.tmp 12) false (.bool false) (fun _ => rfl) rfl rfl rfl ?_
  refine w_nil (xn_then (w_condF rfl (w_skip (xn_then (w_seq ?_)))))
  refine w_label ?_
  refine xn_then (w_seq (w_seq (w_reg ?_)))
  refine wl_m (.tmp 0) (.string s) ?_
  refine wl_m (.tmp 1) (.int .i64 ((a : Nat) : Int)) ?_
  refine wl_call 35 [(.tmp 15), (.tmp 16)] _ [.string s, .int .i64 ((a : Nat) : Int)] (.int .u8 (bt s (a))) rfl rfl (fun _ _ => by kernel_rfl) (lbyteAt_n s (a) _) rfl ?_
  intro w1 hq
  replace M := M.trans hq
  clear hq
  refine w_nil (xn_then (w_block (w_seq (w_seq ?_))))
  cases hf0 : (bt s (a) == 32) with
  | true =>
   refine w_reg ?_
   refine wl_b .eql 5 (.tmp 17) (.const (.int .u8 (32))) (.int .u8 (bt s (a))) (.int .u8 (32)) (.bool true) (eq5r hf0 _ _ _) ?_
   refine wl_m (.tmp 19) (.bool true) ?_
   refine w_nil (xn_then (w_condT rfl (w_skip (xn_then (w_condT rfl (w_seq (w_reg ?_)))))))
   refine wl_m (.tmp 1) (.int .i64 ((a : Nat) : Int)) ?_
   have hin := eq_in (by decide) hf0
   refine wl_b .add 3 (.tmp 23) (.const (.int .i64 (1))) (.int .i64 ((a : Nat) : Int)) (.int .i64 (1)) (.int .i64 ((a + 1 : Nat) : Int)) (add1r (k := a) (by omega) _ _ _) ?_
   refine wl_m (.tmp 24) (.int .i64 ((a + 1 : Nat) : Int)) ?_
   refine w_nil (xn_then ?_)
   refine w_goto ?_
   refine xg_blk ?_
   refine xg_then ?_
   exact xg_jump0 _ ⟨a + 1, rfl, rfl, by omega, rfl, by omega, (fun e => by cases e), (blk_b (by omega) (by simp [isb, hf0])).symm.trans hB, M⟩
  | false =>
   refine w_reg ?_
   refine wl_b .eql 5 (.tmp 17) (.const (.int .u8 (32))) (.int .u8 (bt s (a))) (.int .u8 (32)) (.bool false) (eq5r hf0 _ _ _) ?_
   refine wl_m (.tmp 19) (.bool false) ?_
   refine w_nil (xn_then (w_condF rfl (w_seq ?_)))
   cases hf1 : (bt s (a) == 9) with
   | true =>
    refine w_reg ?_
    refine wl_b .eql 5 (.tmp 17) (.const (.int .u8 (9))) (.int .u8 (bt s (a))) (.int .u8 (9)) (.bool true) (eq5r hf1 _ _ _) ?_
    refine wl_m (.tmp 20) (.bool true) ?_
    refine w_nil (xn_then (w_condT rfl (w_skip (xn_then (w_condT rfl (w_seq (w_reg ?_)))))))
    refine wl_m (.tmp 1) (.int .i64 ((a : Nat) : Int)) ?_
    have hin := eq_in (by decide) hf1
    refine wl_b .add 3 (.tmp 23) (.const (.int .i64 (1))) (.int .i64 ((a : Nat) : Int)) (.int .i64 (1)) (.int .i64 ((a + 1 : Nat) : Int)) (add1r (k := a) (by omega) _ _ _) ?_
    refine wl_m (.tmp 24) (.int .i64 ((a + 1 : Nat) : Int)) ?_
    refine w_nil (xn_then ?_)
    refine w_goto ?_
    refine xg_blk ?_
    refine xg_then ?_
    exact xg_jump0 _ ⟨a + 1, rfl, rfl, by omega, rfl, by omega, (fun e => by cases e), (blk_b (by omega) (by simp [isb, hf0, hf1])).symm.trans hB, M⟩
   | false =>
    refine w_reg ?_
    refine wl_b .eql 5 (.tmp 17) (.const (.int .u8 (9))) (.int .u8 (bt s (a))) (.int .u8 (9)) (.bool false) (eq5r hf1 _ _ _) ?_
    refine wl_m (.tmp 20) (.bool false) ?_
    refine w_nil (xn_then (w_condF rfl (w_seq ?_)))
    cases hf2 : (bt s (a) == 10) with
    | true =>
     refine w_reg ?_
     refine wl_b .eql 5 (.tmp 17) (.const (.int .u8 (10))) (.int .u8 (bt s (a))) (.int .u8 (10)) (.bool true) (eq5r hf2 _ _ _) ?_
     refine wl_m (.tmp 21) (.bool true) ?_
     refine w_nil (xn_then (w_condT rfl (w_skip (xn_then (w_condT rfl (w_seq (w_reg ?_)))))))
     refine wl_m (.tmp 1) (.int .i64 ((a : Nat) : Int)) ?_
     have hin := eq_in (by decide) hf2
     refine wl_b .add 3 (.tmp 23) (.const (.int .i64 (1))) (.int .i64 ((a : Nat) : Int)) (.int .i64 (1)) (.int .i64 ((a + 1 : Nat) : Int)) (add1r (k := a) (by omega) _ _ _) ?_
     refine wl_m (.tmp 24) (.int .i64 ((a + 1 : Nat) : Int)) ?_
     refine w_nil (xn_then ?_)
     refine w_goto ?_
     refine xg_blk ?_
     refine xg_then ?_
     exact xg_jump0 _ ⟨a + 1, rfl, rfl, by omega, rfl, by omega, (fun e => by cases e), (blk_b (by omega) (by simp [isb, hf0, hf1, hf2])).symm.trans hB, M⟩
    | false =>
     refine w_reg ?_
     refine wl_b .eql 5 (.tmp 17) (.const (.int .u8 (10))) (.int .u8 (bt s (a))) (.int .u8 (10)) (.bool false) (eq5r hf2 _ _ _) ?_
     refine wl_m (.tmp 21) (.bool false) ?_
     refine w_nil (xn_then (w_condF rfl ?_))
     cases hf3 : (bt s (a) == 13) with
     | true =>
      refine w_reg ?_
      refine wl_b .eql 5 (.tmp 17) (.const (.int .u8 (13))) (.int .u8 (bt s (a))) (.int .u8 (13)) (.bool true) (eq5r hf3 _ _ _) ?_
      refine wl_m (.tmp 22) (.bool true) ?_
      refine w_nil (xn_then (w_condT rfl (w_seq (w_reg ?_))))
      refine wl_m (.tmp 1) (.int .i64 ((a : Nat) : Int)) ?_
      have hin := eq_in (by decide) hf3
      refine wl_b .add 3 (.tmp 23) (.const (.int .i64 (1))) (.int .i64 ((a : Nat) : Int)) (.int .i64 (1)) (.int .i64 ((a + 1 : Nat) : Int)) (add1r (k := a) (by omega) _ _ _) ?_
      refine wl_m (.tmp 24) (.int .i64 ((a + 1 : Nat) : Int)) ?_
      refine w_nil (xn_then ?_)
      refine w_goto ?_
      refine xg_blk ?_
      refine xg_then ?_
      exact xg_jump0 _ ⟨a + 1, rfl, rfl, by omega, rfl, by omega, (fun e => by cases e), (blk_b (by omega) (by simp [isb, hf0, hf1, hf2, hf3])).symm.trans hB, M⟩
     | false =>
      refine w_reg ?_
      refine wl_b .eql 5 (.tmp 17) (.const (.int .u8 (13))) (.int .u8 (bt s (a))) (.int .u8 (13)) (.bool false) (eq5r hf3 _ _ _) ?_
      refine wl_m (.tmp 22) (.bool false) ?_
      refine w_nil (xn_then (w_condF rfl (w_seq ?_)))
      cases hf4 : (bt s (a) == 47) with
      | true =>
       refine w_reg ?_
       refine wl_b .eql 5 (.tmp 17) (.const (.int .u8 (47))) (.int .u8 (bt s (a))) (.int .u8 (47)) (.bool true) (eq5r hf4 _ _ _) ?_
       refine wl_m (.tmp 26) (.bool true) ?_
       refine w_nil (xn_then (w_condT rfl ?_))
       refine w_goto ?_
       refine xg_blk ?_
       refine xg_then ?_
       exact xg_jump0 _ ⟨a, rfl, rfl, by omega, rfl, by omega, fun _ => hf4, hB, M⟩
      | false =>
       refine w_reg ?_
       refine wl_b .eql 5 (.tmp 17) (.const (.int .u8 (47))) (.int .u8 (bt s (a))) (.int .u8 (47)) (.bool false) (eq5r hf4 _ _ _) ?_
       refine wl_m (.tmp 26) (.bool false) ?_
       refine w_nil (xn_then (w_condF rfl (w_skip (xn_blk (xn_then (w_seq (w_seq (w_reg ?_))))))))
       refine wl_m (.tmp 1) (.int .i64 ((a : Nat) : Int)) ?_
       refine wl_m (.tmp 27) (.int .i64 ((a : Nat) : Int)) ?_
       refine w_nil (xn_then (w_ret (xr_then ?_)))
       refine xr_jumps ?_
       exact w_ret1 _ (.int .i64 ((a : Nat) : Int)) rfl rfl ⟨by rw [← hB, blk_n (by simp [isb, hf0, hf1, hf2, hf3]) (by rw [hf4]; rfl)], M⟩
 ·clear M
  rintro i m l wl ⟨k, e0, e1, hk, hm, hi, hp, hB, M⟩
  subst hm
  match i, hi, hp with
  | 0, _, _ =>
   refine w_seq (w_skip (xn_then (w_seq (w_seq (w_reg ?_)))))
   refine wl_mv (.tmp 0) (.string s) (fun _ => rfl) e0 rfl ?_
   refine wl_mv (.tmp 1) (.int .i64 ((k : Nat) : Int)) (fun _ => rfl) e1 rfl ?_
   refine wl_call 35 [(.tmp 15), (.tmp 16)] _ [.string s, .int .i64 ((k : Nat) : Int)] (.int .u8 (bt s (k))) rfl rfl (fun _ _ => by kernel_rfl) (lbyteAt_n s (k) _) rfl ?_
   intro w11 hq
   replace M := M.trans hq
   clear hq
   refine w_nil (xn_then (w_block (w_seq (w_seq ?_))))
   cases hf0 : (bt s (k) == 32) with
   | true =>
    refine w_reg ?_
    refine wl_b .eql 5 (.tmp 17) (.const (.int .u8 (32))) (.int .u8 (bt s (k))) (.int .u8 (32)) (.bool true) (eq5r hf0 _ _ _) ?_
    refine wl_m (.tmp 19) (.bool true) ?_
    refine w_nil (xn_then (w_condT rfl (w_skip (xn_then (w_condT rfl (w_seq (w_reg ?_)))))))
    refine wl_mv (.tmp 1) (.int .i64 ((k : Nat) : Int)) (fun _ => rfl) e1 rfl ?_
    have hin := eq_in (by decide) hf0
    refine wl_b .add 3 (.tmp 23) (.const (.int .i64 (1))) (.int .i64 ((k : Nat) : Int)) (.int .i64 (1)) (.int .i64 ((k + 1 : Nat) : Int)) (add1r (k := k) (by omega) _ _ _) ?_
    refine wl_m (.tmp 24) (.int .i64 ((k + 1 : Nat) : Int)) ?_
    refine w_nil (xn_then ?_)
    refine w_goto ?_
    refine xg_blk ?_
    refine xg_then ?_
    exact xg_jump (2 * (s.size + 1 - (k + 1)) + (1 - 0)) (by omega) ⟨k + 1, e0, rfl, by omega, rfl, by omega, (fun e => by cases e), (blk_b (by omega) (by simp [isb, hf0])).symm.trans hB, M⟩
   | false =>
    refine w_reg ?_
    refine wl_b .eql 5 (.tmp 17) (.const (.int .u8 (32))) (.int .u8 (bt s (k))) (.int .u8 (32)) (.bool false) (eq5r hf0 _ _ _) ?_
    refine wl_m (.tmp 19) (.bool false) ?_
    refine w_nil (xn_then (w_condF rfl (w_seq ?_)))
    cases hf1 : (bt s (k) == 9) with
    | true =>
     refine w_reg ?_
     refine wl_b .eql 5 (.tmp 17) (.const (.int .u8 (9))) (.int .u8 (bt s (k))) (.int .u8 (9)) (.bool true) (eq5r hf1 _ _ _) ?_
     refine wl_m (.tmp 20) (.bool true) ?_
     refine w_nil (xn_then (w_condT rfl (w_skip (xn_then (w_condT rfl (w_seq (w_reg ?_)))))))
     refine wl_mv (.tmp 1) (.int .i64 ((k : Nat) : Int)) (fun _ => rfl) e1 rfl ?_
     have hin := eq_in (by decide) hf1
     refine wl_b .add 3 (.tmp 23) (.const (.int .i64 (1))) (.int .i64 ((k : Nat) : Int)) (.int .i64 (1)) (.int .i64 ((k + 1 : Nat) : Int)) (add1r (k := k) (by omega) _ _ _) ?_
     refine wl_m (.tmp 24) (.int .i64 ((k + 1 : Nat) : Int)) ?_
     refine w_nil (xn_then ?_)
     refine w_goto ?_
     refine xg_blk ?_
     refine xg_then ?_
     exact xg_jump (2 * (s.size + 1 - (k + 1)) + (1 - 0)) (by omega) ⟨k + 1, e0, rfl, by omega, rfl, by omega, (fun e => by cases e), (blk_b (by omega) (by simp [isb, hf0, hf1])).symm.trans hB, M⟩
    | false =>
     refine w_reg ?_
     refine wl_b .eql 5 (.tmp 17) (.const (.int .u8 (9))) (.int .u8 (bt s (k))) (.int .u8 (9)) (.bool false) (eq5r hf1 _ _ _) ?_
     refine wl_m (.tmp 20) (.bool false) ?_
     refine w_nil (xn_then (w_condF rfl (w_seq ?_)))
     cases hf2 : (bt s (k) == 10) with
     | true =>
      refine w_reg ?_
      refine wl_b .eql 5 (.tmp 17) (.const (.int .u8 (10))) (.int .u8 (bt s (k))) (.int .u8 (10)) (.bool true) (eq5r hf2 _ _ _) ?_
      refine wl_m (.tmp 21) (.bool true) ?_
      refine w_nil (xn_then (w_condT rfl (w_skip (xn_then (w_condT rfl (w_seq (w_reg ?_)))))))
      refine wl_mv (.tmp 1) (.int .i64 ((k : Nat) : Int)) (fun _ => rfl) e1 rfl ?_
      have hin := eq_in (by decide) hf2
      refine wl_b .add 3 (.tmp 23) (.const (.int .i64 (1))) (.int .i64 ((k : Nat) : Int)) (.int .i64 (1)) (.int .i64 ((k + 1 : Nat) : Int)) (add1r (k := k) (by omega) _ _ _) ?_
      refine wl_m (.tmp 24) (.int .i64 ((k + 1 : Nat) : Int)) ?_
      refine w_nil (xn_then ?_)
      refine w_goto ?_
      refine xg_blk ?_
      refine xg_then ?_
      exact xg_jump (2 * (s.size + 1 - (k + 1)) + (1 - 0)) (by omega) ⟨k + 1, e0, rfl, by omega, rfl, by omega, (fun e => by cases e), (blk_b (by omega) (by simp [isb, hf0, hf1, hf2])).symm.trans hB, M⟩
     | false =>
      refine w_reg ?_
      refine wl_b .eql 5 (.tmp 17) (.const (.int .u8 (10))) (.int .u8 (bt s (k))) (.int .u8 (10)) (.bool false) (eq5r hf2 _ _ _) ?_
      refine wl_m (.tmp 21) (.bool false) ?_
      refine w_nil (xn_then (w_condF rfl ?_))
      cases hf3 : (bt s (k) == 13) with
      | true =>
       refine w_reg ?_
       refine wl_b .eql 5 (.tmp 17) (.const (.int .u8 (13))) (.int .u8 (bt s (k))) (.int .u8 (13)) (.bool true) (eq5r hf3 _ _ _) ?_
       refine wl_m (.tmp 22) (.bool true) ?_
       refine w_nil (xn_then (w_condT rfl (w_seq (w_reg ?_))))
       refine wl_mv (.tmp 1) (.int .i64 ((k : Nat) : Int)) (fun _ => rfl) e1 rfl ?_
       have hin := eq_in (by decide) hf3
       refine wl_b .add 3 (.tmp 23) (.const (.int .i64 (1))) (.int .i64 ((k : Nat) : Int)) (.int .i64 (1)) (.int .i64 ((k + 1 : Nat) : Int)) (add1r (k := k) (by omega) _ _ _) ?_
       refine wl_m (.tmp 24) (.int .i64 ((k + 1 : Nat) : Int)) ?_
       refine w_nil (xn_then ?_)
       refine w_goto ?_
       refine xg_blk ?_
       refine xg_then ?_
       exact xg_jump (2 * (s.size + 1 - (k + 1)) + (1 - 0)) (by omega) ⟨k + 1, e0, rfl, by omega, rfl, by omega, (fun e => by cases e), (blk_b (by omega) (by simp [isb, hf0, hf1, hf2, hf3])).symm.trans hB, M⟩
      | false =>
       refine w_reg ?_
       refine wl_b .eql 5 (.tmp 17) (.const (.int .u8 (13))) (.int .u8 (bt s (k))) (.int .u8 (13)) (.bool false) (eq5r hf3 _ _ _) ?_
       refine wl_m (.tmp 22) (.bool false) ?_
       refine w_nil (xn_then (w_condF rfl (w_seq ?_)))
       cases hf4 : (bt s (k) == 47) with
       | true =>
        refine w_reg ?_
        refine wl_b .eql 5 (.tmp 17) (.const (.int .u8 (47))) (.int .u8 (bt s (k))) (.int .u8 (47)) (.bool true) (eq5r hf4 _ _ _) ?_
        refine wl_m (.tmp 26) (.bool true) ?_
        refine w_nil (xn_then (w_condT rfl ?_))
        refine w_goto ?_
        refine xg_blk ?_
        refine xg_then ?_
        exact xg_jump (2 * (s.size + 1 - (k)) + (1 - 1)) (by omega) ⟨k, e0, e1, by omega, rfl, by omega, fun _ => hf4, hB, M⟩
       | false =>
        refine w_reg ?_
        refine wl_b .eql 5 (.tmp 17) (.const (.int .u8 (47))) (.int .u8 (bt s (k))) (.int .u8 (47)) (.bool false) (eq5r hf4 _ _ _) ?_
        refine wl_m (.tmp 26) (.bool false) ?_
        refine w_nil (xn_then (w_condF rfl (w_skip (xn_blk (xn_then (w_seq (w_seq (w_reg ?_))))))))
        refine wl_mv (.tmp 1) (.int .i64 ((k : Nat) : Int)) (fun _ => rfl) e1 rfl ?_
        refine wl_m (.tmp 27) (.int .i64 ((k : Nat) : Int)) ?_
        refine w_nil (xn_then (w_ret (xr_then ?_)))
        refine xr_jumps ?_
        exact w_ret1 _ (.int .i64 ((k : Nat) : Int)) rfl rfl ⟨by rw [← hB, blk_n (by simp [isb, hf0, hf1, hf2, hf3]) (by rw [hf4]; rfl)], M⟩
  | 1, _, hp =>
   have h47 := hp rfl
   have hin := eq_in (by decide) h47
   have hnb : isb (bt s k) = false := by rw [eq_of_beq h47]; rfl
   have hn10 : (bt s k == 10) = false := by rw [eq_of_beq h47]; rfl
   have hnl := lnx_on hin hn10
   have hge := lnx_ge' s (k + 1)
   have hle := lnx_le' (s := s) (k := k) (by omega)
   obtain ⟨r, hr⟩ : ∃ r, r = if lnx s k < s.size then ((lnx s k - k : Nat) : Int) else -1 := ⟨_, rfl⟩
   refine w_seq (w_skip (xn_then (w_seq (w_seq ?_))))
   cases hf0 : (bt s (k + 1) == 47) with
   | true =>
    refine w_reg ?_
    refine wl_mv (.tmp 0) (.string s) (fun _ => rfl) e0 rfl ?_
    refine wl_mv (.tmp 1) (.int .i64 ((k : Nat) : Int)) (fun _ => rfl) e1 rfl ?_
    refine wl_b .add 3 (.tmp 29) (.const (.int .i64 (1))) (.int .i64 ((k : Nat) : Int)) (.int .i64 (1)) (.int .i64 ((k + 1 : Nat) : Int)) (add1r (k := k) (by omega) _ _ _) ?_
    refine wl_call 35 [(.tmp 28), (.tmp 30)] _ [.string s, .int .i64 ((k + 1 : Nat) : Int)] (.int .u8 (bt s (k + 1))) rfl rfl (fun _ _ => by kernel_rfl) (lbyteAt_n s (k + 1) _) rfl ?_
    intro w11 hq
    replace M := M.trans hq
    clear hq
    refine wl_b .neq 5 (.tmp 31) (.const (.int .u8 (47))) (.int .u8 (bt s (k + 1))) (.int .u8 (47)) (.bool false) (ne5r hf0 _ _ _) ?_
    refine w_nil (xn_then (w_condF rfl (w_skip (xn_then (w_seq (w_reg ?_))))))
    refine wl_mv (.tmp 0) (.string s) (fun _ => rfl) e0 rfl ?_
    refine wl_mv (.tmp 1) (.int .i64 ((k : Nat) : Int)) (fun _ => rfl) e1 rfl ?_
    refine wl_val (tx ((by8 s).drop k)) (lo_run _ _ _ (by8 s) k (by exact rfl) (by exact rfl) (by rw [by8_len]; omega) _ _ _ _ _ _) rfl ?_
    refine wl_call 36 [(.tmp 36), (.const (.int .u8 (10)))] _ [tx ((by8 s).drop k), .int .u8 (10)] (.int .i64 (r)) rfl rfl (fun _ _ => by kernel_rfl) (ixb_line (s := s) (k := k) (r := r) (by omega) hr _) rfl ?_
    intro w12 hq
    replace M := M.trans hq
    clear hq
    refine wl_m (.tmp 37) (.int .i64 (r)) ?_
    refine w_nil (xn_then (w_seq (w_seq ?_)))
    cases hf1 : decide (r < 0) with
    | true =>
     have hf1p := of_decide_eq_true hf1
     refine w_reg ?_
     refine wl_m (.tmp 5) (.int .i64 (r)) ?_
     refine wl_b .lss 3 (.tmp 38) (.const (.int .i64 (0))) (.int .i64 (r)) (.int .i64 (0)) (.bool true) (lt3_run hf1 _ _ _) ?_
     refine w_nil (xn_then (w_condT rfl (w_seq (w_reg ?_))))
     refine wl_mv (.tmp 0) (.string s) (fun _ => rfl) e0 rfl ?_
     refine wl_val (.int .i64 ((s.size : Nat) : Int)) (len_s _ _ s (by exact rfl) _ _ _ _ _ _) rfl ?_
     refine wl_m (.tmp 41) (.int .i64 ((s.size : Nat) : Int)) ?_
     refine w_nil (xn_then (w_ret (xr_then ?_)))
     refine xr_jumps ?_
     have hstep : blk s k = blk s (lnx s k) := by rw [hnl]; exact blk_c hin hnb (by rw [h47, hf0]; rfl)
     exact w_ret1 _ (.int .i64 ((s.size : Nat) : Int)) rfl rfl ⟨by rw [← hB, hstep, show lnx s k = s.size from (by rcases Nat.lt_or_ge (lnx s k) s.size with h | h; (rw [if_pos h] at hr; omega); omega), blk_end (by omega)], M⟩
    | false =>
     have hf1p := of_decide_eq_false hf1
     refine w_reg ?_
     refine wl_m (.tmp 5) (.int .i64 (r)) ?_
     refine wl_b .lss 3 (.tmp 38) (.const (.int .i64 (0))) (.int .i64 (r)) (.int .i64 (0)) (.bool false) (lt3_run hf1 _ _ _) ?_
     refine w_nil (xn_then (w_condF rfl (w_skip (xn_then (w_seq (w_reg ?_))))))
     refine wl_mv (.tmp 1) (.int .i64 ((k : Nat) : Int)) (fun _ => rfl) e1 rfl ?_
     refine wl_m (.tmp 5) (.int .i64 (r)) ?_
     have hnlt : lnx s k < s.size := by rcases Nat.lt_or_ge (lnx s k) s.size with h | h; (exact h); (rw [if_neg (by omega)] at hr; omega)
     have hrn : r = ((lnx s k - k : Nat) : Int) := by rw [hr, if_pos hnlt]
     refine wl_b .add 3 (.tmp 43) (.const (.int .i64 (1))) (.int .i64 (r)) (.int .i64 (1)) (.int .i64 ((lnx s k - k + 1 : Nat) : Int)) (addr1 hrn (by omega) _ _ _) ?_
     refine wl_b .add 3 (.tmp 42) (.tmp 44) (.int .i64 ((k : Nat) : Int)) (.int .i64 ((lnx s k - k + 1 : Nat) : Int)) (.int .i64 ((lnx s k + 1 : Nat) : Int)) (addk (by omega) (by omega) _ _ _) ?_
     refine wl_m (.tmp 45) (.int .i64 ((lnx s k + 1 : Nat) : Int)) ?_
     refine w_nil (xn_then ?_)
     refine w_goto ?_
     have hstep : blk s k = blk s (lnx s k) := by rw [hnl]; exact blk_c hin hnb (by rw [h47, hf0]; rfl)
     exact xg_jump (2 * (s.size + 1 - (lnx s k + 1)) + (1 - 0)) (by omega) ⟨lnx s k + 1, e0, rfl, by omega, rfl, by omega, (fun e => by cases e), (blk_b (by omega) (by have h := lnx_bt s _ k rfl (by omega); simp [isb, h])).symm.trans (hstep.symm.trans hB), M⟩
   | false =>
    refine w_reg ?_
    refine wl_mv (.tmp 0) (.string s) (fun _ => rfl) e0 rfl ?_
    refine wl_mv (.tmp 1) (.int .i64 ((k : Nat) : Int)) (fun _ => rfl) e1 rfl ?_
    refine wl_b .add 3 (.tmp 29) (.const (.int .i64 (1))) (.int .i64 ((k : Nat) : Int)) (.int .i64 (1)) (.int .i64 ((k + 1 : Nat) : Int)) (add1r (k := k) (by omega) _ _ _) ?_
    refine wl_call 35 [(.tmp 28), (.tmp 30)] _ [.string s, .int .i64 ((k + 1 : Nat) : Int)] (.int .u8 (bt s (k + 1))) rfl rfl (fun _ _ => by kernel_rfl) (lbyteAt_n s (k + 1) _) rfl ?_
    intro w11 hq
    replace M := M.trans hq
    clear hq
    refine wl_b .neq 5 (.tmp 31) (.const (.int .u8 (47))) (.int .u8 (bt s (k + 1))) (.int .u8 (47)) (.bool true) (ne5r hf0 _ _ _) ?_
    refine w_nil (xn_then (w_condT rfl (w_seq (w_reg ?_))))
    refine wl_mv (.tmp 1) (.int .i64 ((k : Nat) : Int)) (fun _ => rfl) e1 rfl ?_
    refine wl_m (.tmp 33) (.int .i64 ((k : Nat) : Int)) ?_
    refine w_nil (xn_then (w_ret (xr_then ?_)))
    refine xr_jumps ?_
    exact w_ret1 _ (.int .i64 ((k : Nat) : Int)) rfl rfl ⟨by rw [← hB, blk_n hnb (by rw [h47, hf0]; rfl)], M⟩
end Go.Proofs.YthgknegocfhdbaaDoor
/-
 Blank at any place, the document's Blank; Name and the document's; Symbol.
-/
namespace Go.Proofs.YthgknegocfhdbaaDoor
open Go.RowKit
theorem eq9 {a b : ByteArray} {r : Bool} (h : (a.toList == b.toList) = r) (x y : Operand) (w : World) : (do eqGuard .eql 9 x y (.string a) (.string b); binOp .eql 9 (.string a) (.string b)).run Tryd.prog w = .ok (.bool r) w := by
 subst h; simp [go_sem]
theorem eqz9 {s : ByteArray} {r : Bool} (h : decide (s.size = 0) = r) (x y : Operand) (w : World) : (do eqGuard .eql 9 x y (.string s) (.string ⟨#[]⟩); binOp .eql 9 (.string s) (.string ⟨#[]⟩)).run Tryd.prog w = .ok (.bool r) w := by
 refine eq9 (r := r) ?_ _ _ _
 rw [← h, Lib.toList_data, Lib.toList_data, Bool.eq_iff_iff, beq_iff_eq, decide_eq_true_iff, ← by8_len]
 exact List.length_eq_zero_iff.symm
theorem idx0z {s : ByteArray} (h : 0 < s.size) (w : World) : (Instr.index 9 (.string s) (.int .i64 (0))).run Tryd.prog w = .ok (.int .u8 (bt s (0))) w := idx_b (k := 0) h w
theorem ltr_c {f : Nat} {c : Int} {r : Bool} (h : ltr c = r) (hf : ∀ (c : Int) (w : World), Calls Tryd.prog f #[.int .u8 c] w fun e w' => e = .returned (.bool (ltr c)) ∧ Mo w w') (w : World) : Calls Tryd.prog f #[.int .u8 c] w fun e w' => e = .returned (.bool r) ∧ Mo w w' := h ▸ hf c w
theorem dgt_c {f : Nat} {c : Int} {r : Bool} (h : dgt c = r) (hf : ∀ (c : Int) (w : World), Calls Tryd.prog f #[.int .u8 c] w fun e w' => e = .returned (.bool (dgt c)) ∧ Mo w w') (w : World) : Calls Tryd.prog f #[.int .u8 c] w fun e w' => e = .returned (.bool r) ∧ Mo w w' := h ▸ hf c w
def nmA (s : ByteArray) (k : Nat) : Bool := if h : k < s.size then (ltr (bt s k) || dgt (bt s k)) && nmA s (k + 1) else true
termination_by s.size - k
decreasing_by omega
theorem nmA_in {s : ByteArray} {k : Nat} (h : k < s.size) : nmA s k = ((ltr (bt s k) || dgt (bt s k)) && nmA s (k + 1)) := by rw [nmA, dif_pos h]
theorem nmA_end {s : ByteArray} {k : Nat} (h : ¬ k < s.size) : nmA s k = true := by rw [nmA, dif_neg h]
def nam (s : ByteArray) : Bool := !decide (s.size = 0) && !decide (32 < s.size) && ltr (bt s 0) && nmA s 0
theorem name_n (s : ByteArray) (w : World) (hs : s.size ≤ maxLen) : Calls Tryd.prog 16 #[.string s] w fun e w' => e = .returned (.bool (nam s)) ∧ Mo w w' := by
 unfold maxLen at hs
 refine w_enter 35 Tryd.func16 Tryd.ntmps16 rfl rfl ?_
 have M : Mo w w := Mo.refl _
 refine w_seq (w_reg ?_)
 refine wl_m (.const (.bool false)) (.bool false) ?_
 refine w_nil (xn_then (w_seq (w_seq ?_)))
 cases hf0 : decide (s.size = 0) with
 | true =>
  have hf0p := of_decide_eq_true hf0
  refine w_reg ?_
  refine wl_m (.tmp 0) (.string s) ?_
  refine wl_b .eql 9 (.tmp 4) (.const (.string ⟨#[]⟩)) (.string s) (.string ⟨#[]⟩) (.bool true) (eqz9 hf0 _ _ _) ?_
  refine wl_m (.tmp 5) (.bool true) ?_
  refine wl_skip rfl (wl_skip rfl (wl_skip rfl ?_))
  refine wl_pick (.tmp 6) (.const (.bool true)) (.tmp 9) true (.bool true) (fun _ => rfl) rfl rfl rfl ?_
  refine wl_m (.tmp 10) (.bool true) ?_
  refine wl_skip rfl (wl_skip rfl (wl_skip rfl (wl_skip rfl ?_)))
  refine wl_pick (.tmp 11) (.const (.bool true)) (.tmp 15) true (.bool true) (fun _ => rfl) rfl rfl rfl ?_
  refine w_nil (xn_then (w_condT rfl (w_seq (w_reg ?_))))
  refine wl_m (.const (.bool false)) (.bool false) ?_
  refine w_nil (xn_then (w_ret (xr_then ?_)))
  exact w_ret1 _ (.bool false) rfl rfl ⟨by unfold nam; rw [hf0]; rfl, M⟩
 | false =>
  have hf0p := of_decide_eq_false hf0
  cases hf1 : decide (32 < s.size) with
  | true =>
   have hf1p := of_decide_eq_true hf1
   refine w_reg ?_
   refine wl_m (.tmp 0) (.string s) ?_
   refine wl_b .eql 9 (.tmp 4) (.const (.string ⟨#[]⟩)) (.string s) (.string ⟨#[]⟩) (.bool false) (eqz9 hf0 _ _ _) ?_
   refine wl_m (.tmp 5) (.bool false) ?_
   refine wl_m (.tmp 0) (.string s) ?_
   refine wl_val (.int .i64 ((s.size : Nat) : Int)) (len_s _ _ s (by exact rfl) _ _ _ _ _ _) rfl ?_
   refine wl_b .gtr 3 (.tmp 8) (.const (.int .i64 (32))) (.int .i64 ((s.size : Nat) : Int)) (.int .i64 (32)) (.bool true) (gtN hf1 _ _ _) ?_
   refine wl_pick (.tmp 6) (.const (.bool true)) (.tmp 9) false (.bool true) (fun _ => rfl) rfl rfl rfl ?_
   refine wl_m (.tmp 10) (.bool true) ?_
   refine wl_skip rfl (wl_skip rfl (wl_skip rfl (wl_skip rfl ?_)))
   refine wl_pick (.tmp 11) (.const (.bool true)) (.tmp 15) true (.bool true) (fun _ => rfl) rfl rfl rfl ?_
   refine w_nil (xn_then (w_condT rfl (w_seq (w_reg ?_))))
   refine wl_m (.const (.bool false)) (.bool false) ?_
   refine w_nil (xn_then (w_ret (xr_then ?_)))
   exact w_ret1 _ (.bool false) rfl rfl ⟨by unfold nam; rw [hf0, hf1]; rfl, M⟩
  | false =>
   have hf1p := of_decide_eq_false hf1
   cases hf2 : ltr (bt s (0)) with
   | true =>
    refine w_reg ?_
    refine wl_m (.tmp 0) (.string s) ?_
    refine wl_b .eql 9 (.tmp 4) (.const (.string ⟨#[]⟩)) (.string s) (.string ⟨#[]⟩) (.bool false) (eqz9 hf0 _ _ _) ?_
    refine wl_m (.tmp 5) (.bool false) ?_
    refine wl_m (.tmp 0) (.string s) ?_
    refine wl_val (.int .i64 ((s.size : Nat) : Int)) (len_s _ _ s (by exact rfl) _ _ _ _ _ _) rfl ?_
    refine wl_b .gtr 3 (.tmp 8) (.const (.int .i64 (32))) (.int .i64 ((s.size : Nat) : Int)) (.int .i64 (32)) (.bool false) (gtN hf1 _ _ _) ?_
    refine wl_pick (.tmp 6) (.const (.bool true)) (.tmp 9) false (.bool false) (fun _ => rfl) rfl rfl rfl ?_
    refine wl_m (.tmp 10) (.bool false) ?_
    refine wl_m (.tmp 0) (.string s) ?_
    refine wl_bin (fun x y => Instr.index 9 x y) (.tmp 12) (.const (.int .i64 (0))) (.string s) (.int .i64 (0)) (.int .u8 (bt s (0))) (fun _ => rfl) rfl rfl (idx0z (by omega) _) rfl ?_
    refine wl_call 37 [(.tmp 13)] _ [.int .u8 (bt s (0))] (.bool true) rfl rfl (fun _ _ => by kernel_rfl) (ltr_c hf2 isLetter_n _) rfl ?_
    intro w1 hq
    replace M := M.trans hq
    clear hq
    refine wl_un (fun v => Op.unary .not v) (.tmp 14) (.bool true) (.bool false) (fun _ => rfl) rfl (by kernel_rfl) rfl ?_
    refine wl_pick (.tmp 11) (.const (.bool true)) (.tmp 15) false (.bool false) (fun _ => rfl) rfl rfl rfl ?_
    refine w_nil (xn_then (w_condF rfl (w_skip (xn_then (w_seq (w_seq (w_reg ?_)))))))
    refine wl_m (.tmp 0) (.string s) ?_
    refine wl_val (.int .i64 ((s.size : Nat) : Int)) (len_s _ _ s (by exact rfl) _ _ _ _ _ _) rfl ?_
    refine wl_m (.const (.int .i64 (0))) (.int .i64 (0)) ?_
    refine w_nil (xn_then (w_block ?_))
    have hnam : nam s = nmA s 0 := by unfold nam; rw [hf0, hf1, hf2]; rfl
    refine w_loop (fun m l w1 => ∃ j : Nat, m = s.size - j ∧ look l 0 = .string s ∧ look l 19 = .int .i64 ((j : Nat) : Int) ∧ look l 18 = .int .i64 ((s.size : Nat) : Int) ∧ j ≤ s.size ∧ nmA s j = nam s ∧ Mo w w1) _ ⟨0, rfl, rfl, rfl, rfl, by omega, hnam.symm, M⟩ ?_
    clear M
    rintro m l wl ⟨j, rfl, e0, e3, e18, hj, hN, M⟩
    refine w_seq ?_
    cases hf30 : decide (j < s.size) with
    | true =>
     have hf30p := of_decide_eq_true hf30
     refine w_reg ?_
     refine wl_bin (fun x y => do eqGuard .lss 3 (.tmp 19) (.tmp 18) x y; binOp .lss 3 x y) (.tmp 19) (.tmp 18) (.int .i64 ((j : Nat) : Int)) (.int .i64 ((s.size : Nat) : Int)) (.bool true) (fun _ => rfl) e3 e18 (ltN hf30 _ _ _) rfl ?_
     refine w_nil (xn_then (w_seq (w_condT rfl (w_skip (xn_then (w_seq (w_block (w_seq (w_reg ?_)))))))))
     refine wl_mv (.tmp 19) (.int .i64 ((j : Nat) : Int)) (fun _ => rfl) e3 rfl ?_
     refine wl_m (.tmp 21) (.int .i64 ((j : Nat) : Int)) ?_
     refine w_nil (xn_then (w_seq ?_))
     cases hf31 : ltr (bt s (j)) with
     | true =>
      refine w_reg ?_
      refine wl_mv (.tmp 0) (.string s) (fun _ => rfl) e0 rfl ?_
      refine wl_m (.tmp 3) (.int .i64 ((j : Nat) : Int)) ?_
      refine wl_bin (fun x y => Instr.index 9 x y) (.tmp 22) (.tmp 23) (.string s) (.int .i64 ((j : Nat) : Int)) (.int .u8 (bt s (j))) (fun _ => rfl) rfl rfl (idx_b (by omega) _) rfl ?_
      refine wl_call 37 [(.tmp 24)] _ [.int .u8 (bt s (j))] (.bool true) rfl rfl (fun _ _ => by kernel_rfl) (ltr_c hf31 isLetter_n _) rfl ?_
      intro w31 hq
      replace M := M.trans hq
      clear hq
      refine wl_un (fun v => Op.unary .not v) (.tmp 25) (.bool true) (.bool false) (fun _ => rfl) rfl (by kernel_rfl) rfl ?_
      refine wl_m (.tmp 26) (.bool false) ?_
      refine wl_skip rfl (wl_skip rfl (wl_skip rfl (wl_skip rfl (wl_skip rfl ?_))))
      refine wl_pick (.tmp 27) (.tmp 32) (.const (.bool false)) false (.bool false) (fun _ => rfl) rfl rfl rfl ?_
      refine w_nil (xn_then (w_condF rfl (w_skip (xn_blk (xn_then (w_reg ?_))))))
      refine wl_bin (fun x y => do eqGuard .add 3 (.tmp 19) (.const (.int .i64 (1))) x y; binOp .add 3 x y) (.tmp 19) (.const (.int .i64 (1))) (.int .i64 ((j : Nat) : Int)) (.int .i64 (1)) (.int .i64 ((j + 1 : Nat) : Int)) (fun _ => rfl) e3 rfl (add1r (k := j) (by omega) _ _ _) rfl ?_
      refine wl_m (.tmp 34) (.int .i64 ((j + 1 : Nat) : Int)) ?_
      refine w_nil ?_
      exact xn_loop (s.size - (j + 1)) (by omega) ⟨j + 1, rfl, e0, rfl, e18, by omega, by rw [nmA_in (by omega)] at hN; rw [← hN]; simp [hf31], M⟩
     | false =>
      cases hf32 : dgt (bt s (j)) with
      | true =>
       refine w_reg ?_
       refine wl_mv (.tmp 0) (.string s) (fun _ => rfl) e0 rfl ?_
       refine wl_m (.tmp 3) (.int .i64 ((j : Nat) : Int)) ?_
       refine wl_bin (fun x y => Instr.index 9 x y) (.tmp 22) (.tmp 23) (.string s) (.int .i64 ((j : Nat) : Int)) (.int .u8 (bt s (j))) (fun _ => rfl) rfl rfl (idx_b (by omega) _) rfl ?_
       refine wl_call 37 [(.tmp 24)] _ [.int .u8 (bt s (j))] (.bool false) rfl rfl (fun _ _ => by kernel_rfl) (ltr_c hf31 isLetter_n _) rfl ?_
       intro w31 hq
       replace M := M.trans hq
       clear hq
       refine wl_un (fun v => Op.unary .not v) (.tmp 25) (.bool false) (.bool true) (fun _ => rfl) rfl (by kernel_rfl) rfl ?_
       refine wl_m (.tmp 26) (.bool true) ?_
       refine wl_mv (.tmp 0) (.string s) (fun _ => rfl) e0 rfl ?_
       refine wl_m (.tmp 3) (.int .i64 ((j : Nat) : Int)) ?_
       refine wl_bin (fun x y => Instr.index 9 x y) (.tmp 28) (.tmp 29) (.string s) (.int .i64 ((j : Nat) : Int)) (.int .u8 (bt s (j))) (fun _ => rfl) rfl rfl (idx_b (by omega) _) rfl ?_
       refine wl_call 38 [(.tmp 30)] _ [.int .u8 (bt s (j))] (.bool true) rfl rfl (fun _ _ => by kernel_rfl) (dgt_c hf32 lisDigit_n _) rfl ?_
       intro w32 hq
       replace M := M.trans hq
       clear hq
       refine wl_un (fun v => Op.unary .not v) (.tmp 31) (.bool true) (.bool false) (fun _ => rfl) rfl (by kernel_rfl) rfl ?_
       refine wl_pick (.tmp 27) (.tmp 32) (.const (.bool false)) true (.bool false) (fun _ => rfl) rfl rfl rfl ?_
       refine w_nil (xn_then (w_condF rfl (w_skip (xn_blk (xn_then (w_reg ?_))))))
       refine wl_bin (fun x y => do eqGuard .add 3 (.tmp 19) (.const (.int .i64 (1))) x y; binOp .add 3 x y) (.tmp 19) (.const (.int .i64 (1))) (.int .i64 ((j : Nat) : Int)) (.int .i64 (1)) (.int .i64 ((j + 1 : Nat) : Int)) (fun _ => rfl) e3 rfl (add1r (k := j) (by omega) _ _ _) rfl ?_
       refine wl_m (.tmp 34) (.int .i64 ((j + 1 : Nat) : Int)) ?_
       refine w_nil ?_
       exact xn_loop (s.size - (j + 1)) (by omega) ⟨j + 1, rfl, e0, rfl, e18, by omega, by rw [nmA_in (by omega)] at hN; rw [← hN]; simp [hf31, hf32], M⟩
      | false =>
       refine w_reg ?_
       refine wl_mv (.tmp 0) (.string s) (fun _ => rfl) e0 rfl ?_
       refine wl_m (.tmp 3) (.int .i64 ((j : Nat) : Int)) ?_
       refine wl_bin (fun x y => Instr.index 9 x y) (.tmp 22) (.tmp 23) (.string s) (.int .i64 ((j : Nat) : Int)) (.int .u8 (bt s (j))) (fun _ => rfl) rfl rfl (idx_b (by omega) _) rfl ?_
       refine wl_call 37 [(.tmp 24)] _ [.int .u8 (bt s (j))] (.bool false) rfl rfl (fun _ _ => by kernel_rfl) (ltr_c hf31 isLetter_n _) rfl ?_
       intro w31 hq
       replace M := M.trans hq
       clear hq
       refine wl_un (fun v => Op.unary .not v) (.tmp 25) (.bool false) (.bool true) (fun _ => rfl) rfl (by kernel_rfl) rfl ?_
       refine wl_m (.tmp 26) (.bool true) ?_
       refine wl_mv (.tmp 0) (.string s) (fun _ => rfl) e0 rfl ?_
       refine wl_m (.tmp 3) (.int .i64 ((j : Nat) : Int)) ?_
       refine wl_bin (fun x y => Instr.index 9 x y) (.tmp 28) (.tmp 29) (.string s) (.int .i64 ((j : Nat) : Int)) (.int .u8 (bt s (j))) (fun _ => rfl) rfl rfl (idx_b (by omega) _) rfl ?_
       refine wl_call 38 [(.tmp 30)] _ [.int .u8 (bt s (j))] (.bool false) rfl rfl (fun _ _ => by kernel_rfl) (dgt_c hf32 lisDigit_n _) rfl ?_
       intro w32 hq
       replace M := M.trans hq
       clear hq
       refine wl_un (fun v => Op.unary .not v) (.tmp 31) (.bool false) (.bool true) (fun _ => rfl) rfl (by kernel_rfl) rfl ?_
       refine wl_pick (.tmp 27) (.tmp 32) (.const (.bool false)) true (.bool true) (fun _ => rfl) rfl rfl rfl ?_
       refine w_nil (xn_then (w_condT rfl (w_seq (w_reg ?_))))
       refine wl_m (.const (.bool false)) (.bool false) ?_
       refine w_nil (xn_then (w_ret (xr_blk (xr_then (xr_then (xr_blk (xr_then ?_)))))))
       exact w_ret1 _ (.bool false) rfl rfl ⟨by rw [← hN, nmA_in (by omega)]; simp [hf31, hf32], M⟩
    | false =>
     have hf30p := of_decide_eq_false hf30
     refine w_reg ?_
     refine wl_bin (fun x y => do eqGuard .lss 3 (.tmp 19) (.tmp 18) x y; binOp .lss 3 x y) (.tmp 19) (.tmp 18) (.int .i64 ((j : Nat) : Int)) (.int .i64 ((s.size : Nat) : Int)) (.bool false) (fun _ => rfl) e3 e18 (ltN hf30 _ _ _) rfl ?_
     refine w_nil (xn_then (w_seq (w_condF rfl (w_exit (xx_then (xx_then (xx_blk (xn_then (w_seq (w_reg ?_))))))))))
     refine wl_m (.const (.bool true)) (.bool true) ?_
     refine w_nil (xn_then (w_ret ?_))
     exact w_ret1 _ (.bool true) rfl rfl ⟨by rw [← hN, nmA_end (by omega)], M⟩
   | false =>
    refine w_reg ?_
    refine wl_m (.tmp 0) (.string s) ?_
    refine wl_b .eql 9 (.tmp 4) (.const (.string ⟨#[]⟩)) (.string s) (.string ⟨#[]⟩) (.bool false) (eqz9 hf0 _ _ _) ?_
    refine wl_m (.tmp 5) (.bool false) ?_
    refine wl_m (.tmp 0) (.string s) ?_
    refine wl_val (.int .i64 ((s.size : Nat) : Int)) (len_s _ _ s (by exact rfl) _ _ _ _ _ _) rfl ?_
    refine wl_b .gtr 3 (.tmp 8) (.const (.int .i64 (32))) (.int .i64 ((s.size : Nat) : Int)) (.int .i64 (32)) (.bool false) (gtN hf1 _ _ _) ?_
    refine wl_pick (.tmp 6) (.const (.bool true)) (.tmp 9) false (.bool false) (fun _ => rfl) rfl rfl rfl ?_
    refine wl_m (.tmp 10) (.bool false) ?_
    refine wl_m (.tmp 0) (.string s) ?_
    refine wl_bin (fun x y => Instr.index 9 x y) (.tmp 12) (.const (.int .i64 (0))) (.string s) (.int .i64 (0)) (.int .u8 (bt s (0))) (fun _ => rfl) rfl rfl (idx0z (by omega) _) rfl ?_
    refine wl_call 37 [(.tmp 13)] _ [.int .u8 (bt s (0))] (.bool false) rfl rfl (fun _ _ => by kernel_rfl) (ltr_c hf2 isLetter_n _) rfl ?_
    intro w1 hq
    replace M := M.trans hq
    clear hq
    refine wl_un (fun v => Op.unary .not v) (.tmp 14) (.bool false) (.bool true) (fun _ => rfl) rfl (by kernel_rfl) rfl ?_
    refine wl_pick (.tmp 11) (.const (.bool true)) (.tmp 15) false (.bool true) (fun _ => rfl) rfl rfl rfl ?_
    refine w_nil (xn_then (w_condT rfl (w_seq (w_reg ?_))))
    refine wl_m (.const (.bool false)) (.bool false) ?_
    refine w_nil (xn_then (w_ret (xr_then ?_)))
    exact w_ret1 _ (.bool false) rfl rfl ⟨by unfold nam; rw [hf0, hf1, hf2]; rfl, M⟩
end Go.Proofs.YthgknegocfhdbaaDoor
