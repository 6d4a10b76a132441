/-
  A part of the proof.
-/
import Derived.Test.YthgknegocfhdbaaDoorC7
/-
 lex.meaning, kind by kind; Blank where there is no such place.
-/
namespace Go.Proofs.YthgknegocfhdbaaDoor.V
open Go.RowKit
theorem sz33 : (Tryd.prog.info? 33).map (·.size) = some 6 := by kernel_rfl
theorem sz35 : (Tryd.prog.info? 35).map (·.size) = some 10 := by kernel_rfl
theorem sz37 : (Tryd.prog.info? 37).map (·.size) = some 13 := by kernel_rfl
theorem eq23 {a b : Int} {r : Bool} (h : (a == b) = r) (x y : Operand) (w : World) : (do eqGuard .eql 23 x y (.int .i64 a) (.int .i64 b); binOp .eql 23 (.int .i64 a) (.int .i64 b)).run Tryd.prog w = .ok (.bool r) w := by
 subst h; kernel_rfl
theorem len_z (ρ : Operand → Value) (x : Operand) (s : ByteArray) (hx : ρ x = .string s) (dst : Option Tmp) (type : TypeId) (pos : String) (after : Array Edge) (guard : Option (Nat × Bool)) (w : World) : (execOp ρ { dst, op := .call { callee := .builtin .len, args := #[x], argTypes := #[9] }, type, pos, after, guard }).run Tryd.prog w = .ok (.value (.int .i64 (s.size : Int))) w := by
 simp [go_sem, hx]
theorem blank_lo (s : ByteArray) (a : Int) (w : World) (h1 : decide (a < 0) = true) : Calls Tryd.prog 14 #[.string s, .int .i64 a] w fun e w' => e = .returned (.int .i64 a) ∧ Mo w w' := by
 refine Go.Proofs.YthgknegocfhdbaaDoor.w_enter 46 Tryd.func14 Tryd.ntmps14 rfl rfl ?_
 have M : Mo w w := Mo.refl _
 refine Go.Proofs.YthgknegocfhdbaaDoor.w_seq ?_
 refine Go.Proofs.YthgknegocfhdbaaDoor.w_reg ?_
 refine Go.Proofs.YthgknegocfhdbaaDoor.wl_mv (.const (.int .i64 (0))) (.int .i64 (0)) (fun _ => rfl) rfl rfl ?_
 refine Go.Proofs.YthgknegocfhdbaaDoor.w_nil ?_
 refine Go.Proofs.YthgknegocfhdbaaDoor.xn_then ?_
 refine Go.Proofs.YthgknegocfhdbaaDoor.w_scope1 (fun _ _ _ _ => False) (fun _ _ _ _ h => h.elim) ?_ (fun _ _ _ _ h => h.elim)
 refine Go.Proofs.YthgknegocfhdbaaDoor.w_seq ?_
 refine Go.Proofs.YthgknegocfhdbaaDoor.w_seq ?_
 refine Go.Proofs.YthgknegocfhdbaaDoor.w_reg ?_
 refine Go.Proofs.YthgknegocfhdbaaDoor.wl_mv (.tmp 1) (.int .i64 (a)) (fun _ => rfl) rfl rfl ?_
 refine Go.Proofs.YthgknegocfhdbaaDoor.wl_bin (fun x y => do eqGuard .lss 3 (.tmp 6) (.const (.int .i64 (0))) x y; binOp .lss 3 x y) (.tmp 6) (.const (.int .i64 (0))) (.int .i64 (a)) (.int .i64 (0)) (.bool true) (fun _ => rfl) rfl rfl (lt3_run h1 _ _ _) rfl ?_
 refine Go.Proofs.YthgknegocfhdbaaDoor.wl_mv (.tmp 7) (.bool true) (fun _ => rfl) rfl rfl ?_
 refine Go.Proofs.YthgknegocfhdbaaDoor.wl_skip rfl ?_
 refine Go.Proofs.YthgknegocfhdbaaDoor.wl_skip rfl ?_
 refine Go.Proofs.YthgknegocfhdbaaDoor.wl_skip rfl ?_
 refine Go.Proofs.YthgknegocfhdbaaDoor.wl_skip rfl ?_
 refine Go.Proofs.YthgknegocfhdbaaDoor.wl_pick (.tmp 8) (.const (.bool true)) (.tmp 12) true (.bool true) (fun _ => rfl) rfl rfl rfl ?_
 refine Go.Proofs.YthgknegocfhdbaaDoor.w_nil ?_
 refine Go.Proofs.YthgknegocfhdbaaDoor.xn_then ?_
 refine Go.Proofs.YthgknegocfhdbaaDoor.w_condT rfl ?_
 refine Go.Proofs.YthgknegocfhdbaaDoor.w_seq ?_
 refine Go.Proofs.YthgknegocfhdbaaDoor.w_reg ?_
 refine Go.Proofs.YthgknegocfhdbaaDoor.wl_mv (.tmp 1) (.int .i64 (a)) (fun _ => rfl) rfl rfl ?_
 refine Go.Proofs.YthgknegocfhdbaaDoor.wl_mv (.tmp 14) (.int .i64 (a)) (fun _ => rfl) rfl rfl ?_
 refine Go.Proofs.YthgknegocfhdbaaDoor.w_nil ?_
 refine Go.Proofs.YthgknegocfhdbaaDoor.xn_then ?_
 refine Go.Proofs.YthgknegocfhdbaaDoor.w_ret ?_
 refine Go.Proofs.YthgknegocfhdbaaDoor.xr_then ?_
 refine Go.Proofs.YthgknegocfhdbaaDoor.xr_jumps ?_
 exact Go.Proofs.YthgknegocfhdbaaDoor.w_ret1 _ (.int .i64 (a)) rfl rfl ⟨rfl, M⟩
theorem blank_hi (s : ByteArray) (a : Int) (w : World) (h1 : decide (a < 0) = false) (h2 : decide (a > ((s.size : Nat) : Int)) = true) : Calls Tryd.prog 14 #[.string s, .int .i64 a] w fun e w' => e = .returned (.int .i64 a) ∧ Mo w w' := by
 refine Go.Proofs.YthgknegocfhdbaaDoor.w_enter 46 Tryd.func14 Tryd.ntmps14 rfl rfl ?_
 have M : Mo w w := Mo.refl _
 refine Go.Proofs.YthgknegocfhdbaaDoor.w_seq ?_
 refine Go.Proofs.YthgknegocfhdbaaDoor.w_reg ?_
 refine Go.Proofs.YthgknegocfhdbaaDoor.wl_mv (.const (.int .i64 (0))) (.int .i64 (0)) (fun _ => rfl) rfl rfl ?_
 refine Go.Proofs.YthgknegocfhdbaaDoor.w_nil ?_
 refine Go.Proofs.YthgknegocfhdbaaDoor.xn_then ?_
 refine Go.Proofs.YthgknegocfhdbaaDoor.w_scope1 (fun _ _ _ _ => False) (fun _ _ _ _ h => h.elim) ?_ (fun _ _ _ _ h => h.elim)
 refine Go.Proofs.YthgknegocfhdbaaDoor.w_seq ?_
 refine Go.Proofs.YthgknegocfhdbaaDoor.w_seq ?_
 refine Go.Proofs.YthgknegocfhdbaaDoor.w_reg ?_
 refine Go.Proofs.YthgknegocfhdbaaDoor.wl_mv (.tmp 1) (.int .i64 (a)) (fun _ => rfl) rfl rfl ?_
 refine Go.Proofs.YthgknegocfhdbaaDoor.wl_bin (fun x y => do eqGuard .lss 3 (.tmp 6) (.const (.int .i64 (0))) x y; binOp .lss 3 x y) (.tmp 6) (.const (.int .i64 (0))) (.int .i64 (a)) (.int .i64 (0)) (.bool false) (fun _ => rfl) rfl rfl (lt3_run h1 _ _ _) rfl ?_
 refine Go.Proofs.YthgknegocfhdbaaDoor.wl_mv (.tmp 7) (.bool false) (fun _ => rfl) rfl rfl ?_
 refine Go.Proofs.YthgknegocfhdbaaDoor.wl_mv (.tmp 1) (.int .i64 (a)) (fun _ => rfl) rfl rfl ?_
 refine Go.Proofs.YthgknegocfhdbaaDoor.wl_mv (.tmp 0) (.string s) (fun _ => rfl) rfl rfl ?_
 refine Go.Proofs.YthgknegocfhdbaaDoor.wl_val (.int .i64 ((s.size : Nat) : Int)) (len_s _ _ s (by exact rfl) _ _ _ _ _ _) rfl ?_
 refine Go.Proofs.YthgknegocfhdbaaDoor.wl_bin (fun x y => do eqGuard .gtr 3 (.tmp 9) (.tmp 11) x y; binOp .gtr 3 x y) (.tmp 9) (.tmp 11) (.int .i64 (a)) (.int .i64 ((s.size : Nat) : Int)) (.bool true) (fun _ => rfl) rfl rfl (gt3_run h2 _ _ _) rfl ?_
 refine Go.Proofs.YthgknegocfhdbaaDoor.wl_pick (.tmp 8) (.const (.bool true)) (.tmp 12) false (.bool true) (fun _ => rfl) rfl rfl rfl ?_
 refine Go.Proofs.YthgknegocfhdbaaDoor.w_nil ?_
 refine Go.Proofs.YthgknegocfhdbaaDoor.xn_then ?_
 refine Go.Proofs.YthgknegocfhdbaaDoor.w_condT rfl ?_
 refine Go.Proofs.YthgknegocfhdbaaDoor.w_seq ?_
 refine Go.Proofs.YthgknegocfhdbaaDoor.w_reg ?_
 refine Go.Proofs.YthgknegocfhdbaaDoor.wl_mv (.tmp 1) (.int .i64 (a)) (fun _ => rfl) rfl rfl ?_
 refine Go.Proofs.YthgknegocfhdbaaDoor.wl_mv (.tmp 14) (.int .i64 (a)) (fun _ => rfl) rfl rfl ?_
 refine Go.Proofs.YthgknegocfhdbaaDoor.w_nil ?_
 refine Go.Proofs.YthgknegocfhdbaaDoor.xn_then ?_
 refine Go.Proofs.YthgknegocfhdbaaDoor.w_ret ?_
 refine Go.Proofs.YthgknegocfhdbaaDoor.xr_then ?_
 refine Go.Proofs.YthgknegocfhdbaaDoor.xr_jumps ?_
 exact Go.Proofs.YthgknegocfhdbaaDoor.w_ret1 _ (.int .i64 (a)) rfl rfl ⟨rfl, M⟩
theorem rblank_lo (s : ByteArray) (a : Int) (w : World) (h1 : decide (a < 0) = true) : Calls Tryd.prog 15 #[.string s, .int .i64 a] w fun e w' => e = .returned (.int .i64 a) ∧ Mo w w' := by
 refine Go.Proofs.YthgknegocfhdbaaDoor.w_enter 70 Tryd.func15 Tryd.ntmps15 rfl rfl ?_
 have M : Mo w w := Mo.refl _
 refine Go.Proofs.YthgknegocfhdbaaDoor.w_seq ?_
 refine Go.Proofs.YthgknegocfhdbaaDoor.w_reg ?_
 refine Go.Proofs.YthgknegocfhdbaaDoor.wl_mv (.const (.int .i64 (0))) (.int .i64 (0)) (fun _ => rfl) rfl rfl ?_
 refine Go.Proofs.YthgknegocfhdbaaDoor.w_nil ?_
 refine Go.Proofs.YthgknegocfhdbaaDoor.xn_then ?_
 refine Go.Proofs.YthgknegocfhdbaaDoor.w_seq ?_
 refine Go.Proofs.YthgknegocfhdbaaDoor.w_seq ?_
 refine Go.Proofs.YthgknegocfhdbaaDoor.w_reg ?_
 refine Go.Proofs.YthgknegocfhdbaaDoor.wl_mv (.tmp 1) (.int .i64 (a)) (fun _ => rfl) rfl rfl ?_
 refine Go.Proofs.YthgknegocfhdbaaDoor.wl_bin (fun x y => do eqGuard .lss 3 (.tmp 6) (.const (.int .i64 (0))) x y; binOp .lss 3 x y) (.tmp 6) (.const (.int .i64 (0))) (.int .i64 (a)) (.int .i64 (0)) (.bool true) (fun _ => rfl) rfl rfl (lt3_run h1 _ _ _) rfl ?_
 refine Go.Proofs.YthgknegocfhdbaaDoor.wl_mv (.tmp 7) (.bool true) (fun _ => rfl) rfl rfl ?_
 refine Go.Proofs.YthgknegocfhdbaaDoor.wl_skip rfl ?_
 refine Go.Proofs.YthgknegocfhdbaaDoor.wl_skip rfl ?_
 refine Go.Proofs.YthgknegocfhdbaaDoor.wl_skip rfl ?_
 refine Go.Proofs.YthgknegocfhdbaaDoor.wl_skip rfl ?_
 refine Go.Proofs.YthgknegocfhdbaaDoor.wl_pick (.tmp 8) (.const (.bool true)) (.tmp 12) true (.bool true) (fun _ => rfl) rfl rfl rfl ?_
 refine Go.Proofs.YthgknegocfhdbaaDoor.w_nil ?_
 refine Go.Proofs.YthgknegocfhdbaaDoor.xn_then ?_
 refine Go.Proofs.YthgknegocfhdbaaDoor.w_condT rfl ?_
 refine Go.Proofs.YthgknegocfhdbaaDoor.w_seq ?_
 refine Go.Proofs.YthgknegocfhdbaaDoor.w_reg ?_
 refine Go.Proofs.YthgknegocfhdbaaDoor.wl_mv (.tmp 1) (.int .i64 (a)) (fun _ => rfl) rfl rfl ?_
 refine Go.Proofs.YthgknegocfhdbaaDoor.wl_mv (.tmp 14) (.int .i64 (a)) (fun _ => rfl) rfl rfl ?_
 refine Go.Proofs.YthgknegocfhdbaaDoor.w_nil ?_
 refine Go.Proofs.YthgknegocfhdbaaDoor.xn_then ?_
 refine Go.Proofs.YthgknegocfhdbaaDoor.w_ret ?_
 refine Go.Proofs.YthgknegocfhdbaaDoor.xr_then ?_
 exact Go.Proofs.YthgknegocfhdbaaDoor.w_ret1 _ (.int .i64 (a)) rfl rfl ⟨rfl, M⟩
theorem rblank_hi (s : ByteArray) (a : Int) (w : World) (h1 : decide (a < 0) = false) (h2 : decide (a > ((s.size : Nat) : Int)) = true) : Calls Tryd.prog 15 #[.string s, .int .i64 a] w fun e w' => e = .returned (.int .i64 a) ∧ Mo w w' := by
 refine Go.Proofs.YthgknegocfhdbaaDoor.w_enter 70 Tryd.func15 Tryd.ntmps15 rfl rfl ?_
 have M : Mo w w := Mo.refl _
 refine Go.Proofs.YthgknegocfhdbaaDoor.w_seq ?_
 refine Go.Proofs.YthgknegocfhdbaaDoor.w_reg ?_
 refine Go.Proofs.YthgknegocfhdbaaDoor.wl_mv (.const (.int .i64 (0))) (.int .i64 (0)) (fun _ => rfl) rfl rfl ?_
 refine Go.Proofs.YthgknegocfhdbaaDoor.w_nil ?_
 refine Go.Proofs.YthgknegocfhdbaaDoor.xn_then ?_
 refine Go.Proofs.YthgknegocfhdbaaDoor.w_seq ?_
 refine Go.Proofs.YthgknegocfhdbaaDoor.w_seq ?_
 refine Go.Proofs.YthgknegocfhdbaaDoor.w_reg ?_
 refine Go.Proofs.YthgknegocfhdbaaDoor.wl_mv (.tmp 1) (.int .i64 (a)) (fun _ => rfl) rfl rfl ?_
 refine Go.Proofs.YthgknegocfhdbaaDoor.wl_bin (fun x y => do eqGuard .lss 3 (.tmp 6) (.const (.int .i64 (0))) x y; binOp .lss 3 x y) (.tmp 6) (.const (.int .i64 (0))) (.int .i64 (a)) (.int .i64 (0)) (.bool false) (fun _ => rfl) rfl rfl (lt3_run h1 _ _ _) rfl ?_
 refine Go.Proofs.YthgknegocfhdbaaDoor.wl_mv (.tmp 7) (.bool false) (fun _ => rfl) rfl rfl ?_
 refine Go.Proofs.YthgknegocfhdbaaDoor.wl_mv (.tmp 1) (.int .i64 (a)) (fun _ => rfl) rfl rfl ?_
 refine Go.Proofs.YthgknegocfhdbaaDoor.wl_mv (.tmp 0) (.string s) (fun _ => rfl) rfl rfl ?_
 refine Go.Proofs.YthgknegocfhdbaaDoor.wl_val (.int .i64 ((s.size : Nat) : Int)) (len_s _ _ s (by exact rfl) _ _ _ _ _ _) rfl ?_
 refine Go.Proofs.YthgknegocfhdbaaDoor.wl_bin (fun x y => do eqGuard .gtr 3 (.tmp 9) (.tmp 11) x y; binOp .gtr 3 x y) (.tmp 9) (.tmp 11) (.int .i64 (a)) (.int .i64 ((s.size : Nat) : Int)) (.bool true) (fun _ => rfl) rfl rfl (gt3_run h2 _ _ _) rfl ?_
 refine Go.Proofs.YthgknegocfhdbaaDoor.wl_pick (.tmp 8) (.const (.bool true)) (.tmp 12) false (.bool true) (fun _ => rfl) rfl rfl rfl ?_
 refine Go.Proofs.YthgknegocfhdbaaDoor.w_nil ?_
 refine Go.Proofs.YthgknegocfhdbaaDoor.xn_then ?_
 refine Go.Proofs.YthgknegocfhdbaaDoor.w_condT rfl ?_
 refine Go.Proofs.YthgknegocfhdbaaDoor.w_seq ?_
 refine Go.Proofs.YthgknegocfhdbaaDoor.w_reg ?_
 refine Go.Proofs.YthgknegocfhdbaaDoor.wl_mv (.tmp 1) (.int .i64 (a)) (fun _ => rfl) rfl rfl ?_
 refine Go.Proofs.YthgknegocfhdbaaDoor.wl_mv (.tmp 14) (.int .i64 (a)) (fun _ => rfl) rfl rfl ?_
 refine Go.Proofs.YthgknegocfhdbaaDoor.w_nil ?_
 refine Go.Proofs.YthgknegocfhdbaaDoor.xn_then ?_
 refine Go.Proofs.YthgknegocfhdbaaDoor.w_ret ?_
 refine Go.Proofs.YthgknegocfhdbaaDoor.xr_then ?_
 exact Go.Proofs.YthgknegocfhdbaaDoor.w_ret1 _ (.int .i64 (a)) rfl rfl ⟨rfl, M⟩
theorem unq_c {s : ByteArray} {r : Bool} (h : (unq s).2 = r) (w : World) (hs : s.size ≤ 140737488355328) : Calls Tryd.prog 20 #[.string s] w fun e w' => e = .returned (.tuple #[.string (unq s).1, .bool r]) ∧ Mw w w' := h ▸ unquote_n s w hs
theorem meaning_1 (s : ByteArray) (w : World) (hs : s.size ≤ maxLen) : Calls Tryd.prog 28 #[.int .i64 (1), .string s] w fun e w' => e = .returned (.tuple #[.agg #[.int .i64 0, .bool false, .int .u64 0, .int .u64 0, .int .u64 0, .int .u64 0, .int .i64 0, .bool false, .string ⟨#[]⟩, .int .i64 0], .bool (nam s)]) ∧ Mw w w' := by
 refine w_enter 45 Tryd.func28 Tryd.ntmps28 rfl rfl ?_
 have M : Mw w w := Mw.refl _
 refine w_seq (w_reg ?_)
 refine wl_alloc 35 #[.int .i64 0, .bool false, .int .u64 0, .int .u64 0, .int .u64 0, .int .u64 0, .int .i64 0, .bool false, .string ⟨#[]⟩, .int .i64 0] rfl (fun _ => by kernel_rfl) rfl ?_
 intro k1 w1 hk hz hq Q1
 have N_k1 : w.heap.size ≤ k1 := by have := M.size; omega
 replace M := M.trans hq
 clear hk hz hq
 refine wl_m (.const (.bool false)) (.bool false) ?_
 refine w_nil (xn_then (w_seq (w_seq (w_reg ?_))))
 refine wl_m (.tmp 0) (.int .i64 (1)) ?_
 refine w_nil (xn_then (w_block (w_seq (w_reg ?_))))
 refine wl_b .eql 3 (.tmp 10) (.const (.int .i64 (1))) (.int .i64 (1)) (.int .i64 (1)) (.bool true) (by kernel_rfl) ?_
 refine wl_m (.tmp 12) (.bool true) ?_
 refine w_nil (xn_then (w_condT rfl (w_seq (w_reg ?_))))
 refine wl_build 35 [] [] (.agg #[.int .i64 0, .bool false, .int .u64 0, .int .u64 0, .int .u64 0, .int .u64 0, .int .i64 0, .bool false, .string ⟨#[]⟩, .int .i64 0]) rfl rfl (by kernel_rfl) rfl ?_
 refine wl_m (.tmp 1) (.string s) ?_
 refine wl_call 16 [(.tmp 14)] _ [.string s] (.bool (nam s)) rfl rfl (fun _ _ => by kernel_rfl) (wk (name_n s _ hs)) rfl ?_
 intro w2 hq
 replace Q1 := Q1.mo hq
 replace M := M.trans hq
 clear hq
 refine wl_st 35 (.tmp 4) (.tmp 13) k1 0 #[.int .i64 0, .bool false, .int .u64 0, .int .u64 0, .int .u64 0, .int .u64 0, .int .i64 0, .bool false, .string ⟨#[]⟩, .int .i64 0] _ [.int .i64 0, .bool false, .int .u64 0, .int .u64 0, .int .u64 0, .int .u64 0, .int .i64 0, .bool false, .string ⟨#[]⟩, .int .i64 0] Q1 rfl rfl rfl rfl rfl sz35 rfl rfl rfl ?_
 intro w3 hS Qn
 replace Q1 := Qn
 clear Qn
 replace M := hS.mo _ N_k1 M
 clear hS
 refine wl_m (.tmp 15) (.bool (nam s)) ?_
 refine w_nil (xn_then (w_ret (xr_blk (xr_then ?_))))
 exact w_ret2 _ _ (.agg #[.int .i64 0, .bool false, .int .u64 0, .int .u64 0, .int .u64 0, .int .u64 0, .int .i64 0, .bool false, .string ⟨#[]⟩, .int .i64 0]) (.bool (nam s)) rfl ⟨k1, rfl, (run_row Q1 35 0 10 _ rfl Tryd.underlying35 rfl sz35)⟩ rfl ⟨rfl, M⟩
theorem meaning_2 (s : ByteArray) (w : World) (b : Bool) (N E : Int) (k : Nat) (hP : ∀ w, Calls Tryd.prog 48 #[.string s] w fun e w' => e = .returned (.tuple #[dc b N (k : Int), .int .i64 E]) ∧ Mo w w') : Calls Tryd.prog 28 #[.int .i64 (2), .string s] w fun e w' => e = .returned (.tuple #[.agg #[.int .i64 1, .bool b, .int .u64 (l0 (N)), .int .u64 (l1 (N)), .int .u64 (l2 (N)), .int .u64 (l3 (N)), .int .i64 ((k : Int)), .bool false, .string ⟨#[]⟩, .int .i64 0], .bool (E == 0)]) ∧ Mw w w' := by
 refine w_enter 45 Tryd.func28 Tryd.ntmps28 rfl rfl ?_
 have M : Mw w w := Mw.refl _
 refine w_seq (w_reg ?_)
 refine wl_alloc 35 #[.int .i64 0, .bool false, .int .u64 0, .int .u64 0, .int .u64 0, .int .u64 0, .int .i64 0, .bool false, .string ⟨#[]⟩, .int .i64 0] rfl (fun _ => by kernel_rfl) rfl ?_
 intro k1 w1 hk hz hq Q1
 have N_k1 : w.heap.size ≤ k1 := by have := M.size; omega
 replace M := M.trans hq
 clear hk hz hq
 refine wl_m (.const (.bool false)) (.bool false) ?_
 refine w_nil (xn_then (w_seq (w_seq (w_reg ?_))))
 refine wl_m (.tmp 0) (.int .i64 (2)) ?_
 refine w_nil (xn_then (w_block (w_seq (w_reg ?_))))
 refine wl_b .eql 3 (.tmp 10) (.const (.int .i64 (1))) (.int .i64 (2)) (.int .i64 (1)) (.bool false) (by kernel_rfl) ?_
 refine wl_m (.tmp 12) (.bool false) ?_
 refine w_nil (xn_then (w_condF rfl (w_seq (w_reg ?_))))
 refine wl_b .eql 3 (.tmp 10) (.const (.int .i64 (2))) (.int .i64 (2)) (.int .i64 (2)) (.bool true) (by kernel_rfl) ?_
 refine wl_m (.tmp 17) (.bool true) ?_
 refine w_nil (xn_then (w_condT rfl (w_seq (w_reg ?_))))
 refine wl_m (.tmp 1) (.string s) ?_
 refine wl_call 48 [(.tmp 19)] _ [.string s] (.tuple #[.agg #[.bool b, .int .u64 (l0 (N)), .int .u64 (l1 (N)), .int .u64 (l2 (N)), .int .u64 (l3 (N)), .int .i64 ((k : Int))], .int .i64 (E)]) rfl rfl (fun _ _ => by kernel_rfl) (wk (hP _)) rfl ?_
 intro w2 hq
 replace Q1 := Q1.mo hq
 replace M := M.trans hq
 clear hq
 refine wl_m (.tmp 20) (.tuple #[.agg #[.bool b, .int .u64 (l0 (N)), .int .u64 (l1 (N)), .int .u64 (l2 (N)), .int .u64 (l3 (N)), .int .i64 ((k : Int))], .int .i64 (E)]) ?_
 refine wl_un (fun v => Instr.extract v 0) (.tmp 18) (.tuple #[.agg #[.bool b, .int .u64 (l0 (N)), .int .u64 (l1 (N)), .int .u64 (l2 (N)), .int .u64 (l3 (N)), .int .i64 ((k : Int))], .int .i64 (E)]) (.agg #[.bool b, .int .u64 (l0 (N)), .int .u64 (l1 (N)), .int .u64 (l2 (N)), .int .u64 (l3 (N)), .int .i64 ((k : Int))]) (fun _ => rfl) rfl (by kernel_rfl) rfl ?_
 refine wl_un (fun v => Instr.extract v 1) (.tmp 18) (.tuple #[.agg #[.bool b, .int .u64 (l0 (N)), .int .u64 (l1 (N)), .int .u64 (l2 (N)), .int .u64 (l3 (N)), .int .i64 ((k : Int))], .int .i64 (E)]) (.int .i64 (E)) (fun _ => rfl) rfl (by kernel_rfl) rfl ?_
 refine wl_alloc 33 #[.bool false, .int .u64 0, .int .u64 0, .int .u64 0, .int .u64 0, .int .i64 0] rfl (fun _ => by kernel_rfl) rfl ?_
 intro k2 w3 hk hz hq Q2
 have ne_k1_k2 : k1 ≠ k2 := by have := Q1.lt; omega
 have N_k2 : w.heap.size ≤ k2 := by have := M.size; omega
 replace Q1 := Q1.mo hq
 replace M := M.trans hq
 clear hk hz hq
 refine wl_st 33 (.tmp 6) (.tmp 21) k2 0 #[.bool b, .int .u64 (l0 (N)), .int .u64 (l1 (N)), .int .u64 (l2 (N)), .int .u64 (l3 (N)), .int .i64 ((k : Int))] _ [.bool b, .int .u64 (l0 (N)), .int .u64 (l1 (N)), .int .u64 (l2 (N)), .int .u64 (l3 (N)), .int .i64 ((k : Int))] Q2 rfl rfl rfl rfl rfl sz33 rfl rfl rfl ?_
 intro w4 hS Qn
 replace Q2 := Qn
 clear Qn
 replace Q1 := hS.other _ _ ne_k1_k2 Q1
 replace M := hS.mo _ N_k2 M
 clear hS
 refine wl_m (.tmp 22) (.int .i64 (E)) ?_
 refine w_nil (xn_then (w_seq ?_))
 cases hf0 : (E == 0) with
 | true =>
  refine w_reg ?_
  refine wl_l 33 (.tmp 6) (pt k2 0) (.agg #[.bool b, .int .u64 (l0 (N)), .int .u64 (l1 (N)), .int .u64 (l2 (N)), .int .u64 (l3 (N)), .int .i64 ((k : Int))]) (run_row Q2 33 0 6 _ rfl Tryd.underlying33 rfl sz33) ?_
  refine wl_build 35 [(0, (.const (.int .i64 (1)))), (1, (.tmp 23))] [(0, .int .i64 (1)), (1, .agg #[.bool b, .int .u64 (l0 (N)), .int .u64 (l1 (N)), .int .u64 (l2 (N)), .int .u64 (l3 (N)), .int .i64 ((k : Int))])] (.agg #[.int .i64 (1), .bool b, .int .u64 (l0 (N)), .int .u64 (l1 (N)), .int .u64 (l2 (N)), .int .u64 (l3 (N)), .int .i64 ((k : Int)), .bool false, .string ⟨#[]⟩, .int .i64 0]) rfl rfl (by kernel_rfl) rfl ?_
  refine wl_m (.tmp 7) (.int .i64 (E)) ?_
  refine wl_b .eql 23 (.tmp 25) (.const (.int .i64 (0))) (.int .i64 (E)) (.int .i64 (0)) (.bool true) (eq23 hf0 _ _ _) ?_
  refine wl_st 35 (.tmp 4) (.tmp 24) k1 0 #[.int .i64 (1), .bool b, .int .u64 (l0 (N)), .int .u64 (l1 (N)), .int .u64 (l2 (N)), .int .u64 (l3 (N)), .int .i64 ((k : Int)), .bool false, .string ⟨#[]⟩, .int .i64 0] _ [.int .i64 (1), .bool b, .int .u64 (l0 (N)), .int .u64 (l1 (N)), .int .u64 (l2 (N)), .int .u64 (l3 (N)), .int .i64 ((k : Int)), .bool false, .string ⟨#[]⟩, .int .i64 0] Q1 rfl rfl rfl rfl rfl sz35 rfl rfl rfl ?_
  intro w5 hS Qn
  replace Q1 := Qn
  clear Qn
  replace Q2 := hS.other _ _ ne_k1_k2.symm Q2
  replace M := hS.mo _ N_k1 M
  clear hS
  refine wl_m (.tmp 26) (.bool true) ?_
  refine w_nil (xn_then (w_ret (xr_blk (xr_then ?_))))
  exact w_ret2 _ _ (.agg #[.int .i64 (1), .bool b, .int .u64 (l0 (N)), .int .u64 (l1 (N)), .int .u64 (l2 (N)), .int .u64 (l3 (N)), .int .i64 ((k : Int)), .bool false, .string ⟨#[]⟩, .int .i64 0]) (.bool true) rfl ⟨k1, rfl, (run_row Q1 35 0 10 _ rfl Tryd.underlying35 rfl sz35)⟩ rfl ⟨rfl, M⟩
 | false =>
  refine w_reg ?_
  refine wl_l 33 (.tmp 6) (pt k2 0) (.agg #[.bool b, .int .u64 (l0 (N)), .int .u64 (l1 (N)), .int .u64 (l2 (N)), .int .u64 (l3 (N)), .int .i64 ((k : Int))]) (run_row Q2 33 0 6 _ rfl Tryd.underlying33 rfl sz33) ?_
  refine wl_build 35 [(0, (.const (.int .i64 (1)))), (1, (.tmp 23))] [(0, .int .i64 (1)), (1, .agg #[.bool b, .int .u64 (l0 (N)), .int .u64 (l1 (N)), .int .u64 (l2 (N)), .int .u64 (l3 (N)), .int .i64 ((k : Int))])] (.agg #[.int .i64 (1), .bool b, .int .u64 (l0 (N)), .int .u64 (l1 (N)), .int .u64 (l2 (N)), .int .u64 (l3 (N)), .int .i64 ((k : Int)), .bool false, .string ⟨#[]⟩, .int .i64 0]) rfl rfl (by kernel_rfl) rfl ?_
  refine wl_m (.tmp 7) (.int .i64 (E)) ?_
  refine wl_b .eql 23 (.tmp 25) (.const (.int .i64 (0))) (.int .i64 (E)) (.int .i64 (0)) (.bool false) (eq23 hf0 _ _ _) ?_
  refine wl_st 35 (.tmp 4) (.tmp 24) k1 0 #[.int .i64 (1), .bool b, .int .u64 (l0 (N)), .int .u64 (l1 (N)), .int .u64 (l2 (N)), .int .u64 (l3 (N)), .int .i64 ((k : Int)), .bool false, .string ⟨#[]⟩, .int .i64 0] _ [.int .i64 (1), .bool b, .int .u64 (l0 (N)), .int .u64 (l1 (N)), .int .u64 (l2 (N)), .int .u64 (l3 (N)), .int .i64 ((k : Int)), .bool false, .string ⟨#[]⟩, .int .i64 0] Q1 rfl rfl rfl rfl rfl sz35 rfl rfl rfl ?_
  intro w5 hS Qn
  replace Q1 := Qn
  clear Qn
  replace Q2 := hS.other _ _ ne_k1_k2.symm Q2
  replace M := hS.mo _ N_k1 M
  clear hS
  refine wl_m (.tmp 26) (.bool false) ?_
  refine w_nil (xn_then (w_ret (xr_blk (xr_then ?_))))
  exact w_ret2 _ _ (.agg #[.int .i64 (1), .bool b, .int .u64 (l0 (N)), .int .u64 (l1 (N)), .int .u64 (l2 (N)), .int .u64 (l3 (N)), .int .i64 ((k : Int)), .bool false, .string ⟨#[]⟩, .int .i64 0]) (.bool false) rfl ⟨k1, rfl, (run_row Q1 35 0 10 _ rfl Tryd.underlying35 rfl sz35)⟩ rfl ⟨rfl, M⟩
theorem meaning_3 (s : ByteArray) (w : World) (hs : s.size ≤ 140737488355328) : Calls Tryd.prog 28 #[.int .i64 (3), .string s] w fun e w' => e = .returned (.tuple #[.agg #[.int .i64 3, .bool false, .int .u64 0, .int .u64 0, .int .u64 0, .int .u64 0, .int .i64 0, .bool false, .string (unq s).1, .int .i64 0], .bool ((unq s).2 && decide ((unq s).1.size ≤ 64))]) ∧ Mw w w' := by
 refine w_enter 45 Tryd.func28 Tryd.ntmps28 rfl rfl ?_
 have M : Mw w w := Mw.refl _
 refine w_seq (w_reg ?_)
 refine wl_alloc 35 #[.int .i64 0, .bool false, .int .u64 0, .int .u64 0, .int .u64 0, .int .u64 0, .int .i64 0, .bool false, .string ⟨#[]⟩, .int .i64 0] rfl (fun _ => by kernel_rfl) rfl ?_
 intro k1 w1 hk hz hq Q1
 have N_k1 : w.heap.size ≤ k1 := by have := M.size; omega
 replace M := M.trans hq
 clear hk hz hq
 refine wl_m (.const (.bool false)) (.bool false) ?_
 refine w_nil (xn_then (w_seq (w_seq (w_reg ?_))))
 refine wl_m (.tmp 0) (.int .i64 (3)) ?_
 refine w_nil (xn_then (w_block (w_seq (w_reg ?_))))
 refine wl_b .eql 3 (.tmp 10) (.const (.int .i64 (1))) (.int .i64 (3)) (.int .i64 (1)) (.bool false) (by kernel_rfl) ?_
 refine wl_m (.tmp 12) (.bool false) ?_
 refine w_nil (xn_then (w_condF rfl (w_seq (w_reg ?_))))
 refine wl_b .eql 3 (.tmp 10) (.const (.int .i64 (2))) (.int .i64 (3)) (.int .i64 (2)) (.bool false) (by kernel_rfl) ?_
 refine wl_m (.tmp 17) (.bool false) ?_
 refine w_nil (xn_then (w_condF rfl (w_seq (w_reg ?_))))
 refine wl_b .eql 3 (.tmp 10) (.const (.int .i64 (3))) (.int .i64 (3)) (.int .i64 (3)) (.bool true) (by kernel_rfl) ?_
 refine wl_m (.tmp 28) (.bool true) ?_
 refine w_nil (xn_then (w_condT rfl (w_seq ?_)))
 cases hf0 : (unq s).2 with
 | true =>
  refine w_reg ?_
  refine wl_m (.tmp 1) (.string s) ?_
  refine wl_call 20 [(.tmp 30)] _ [.string s] (.tuple #[.string (unq s).1, .bool true]) rfl rfl (fun _ _ => by kernel_rfl) (unq_c hf0 _ hs) rfl ?_
  intro w2 hq
  replace Q1 := Q1.mo hq
  replace M := M.trans hq
  clear hq
  refine wl_m (.tmp 31) (.tuple #[.string (unq s).1, .bool true]) ?_
  refine wl_un (fun v => Instr.extract v 0) (.tmp 29) (.tuple #[.string (unq s).1, .bool true]) (.string (unq s).1) (fun _ => rfl) rfl (by kernel_rfl) rfl ?_
  refine wl_un (fun v => Instr.extract v 1) (.tmp 29) (.tuple #[.string (unq s).1, .bool true]) (.bool true) (fun _ => rfl) rfl (by kernel_rfl) rfl ?_
  refine wl_m (.tmp 32) (.string (unq s).1) ?_
  refine wl_m (.tmp 33) (.bool true) ?_
  refine w_nil (xn_then (w_seq ?_))
  cases hf1 : decide ((unq s).1.size ≤ 64) with
  | true =>
   have hf1p := of_decide_eq_true hf1
   refine w_reg ?_
   refine wl_m (.tmp 8) (.string (unq s).1) ?_
   refine wl_build 35 [(0, (.const (.int .i64 (3)))), (3, (.tmp 34))] [(0, .int .i64 (3)), (3, .string (unq s).1)] (.agg #[.int .i64 (3), .bool false, .int .u64 0, .int .u64 0, .int .u64 0, .int .u64 0, .int .i64 0, .bool false, .string (unq s).1, .int .i64 0]) rfl rfl (by kernel_rfl) rfl ?_
   refine wl_m (.tmp 9) (.bool true) ?_
   refine wl_m (.tmp 36) (.bool true) ?_
   refine wl_m (.tmp 8) (.string (unq s).1) ?_
   refine wl_val (.int .i64 (((unq s).1.size : Nat) : Int)) (len_z _ _ (unq s).1 (by exact rfl) _ _ _ _ _ _) rfl ?_
   refine wl_b .leq 3 (.tmp 39) (.const (.int .i64 (64))) (.int .i64 (((unq s).1.size : Nat) : Int)) (.int .i64 (64)) (.bool true) (leN hf1 _ _ _) ?_
   refine wl_pick (.tmp 37) (.tmp 40) (.const (.bool false)) true (.bool true) (fun _ => rfl) rfl rfl rfl ?_
   refine wl_st 35 (.tmp 4) (.tmp 35) k1 0 #[.int .i64 (3), .bool false, .int .u64 0, .int .u64 0, .int .u64 0, .int .u64 0, .int .i64 0, .bool false, .string (unq s).1, .int .i64 0] _ [.int .i64 (3), .bool false, .int .u64 0, .int .u64 0, .int .u64 0, .int .u64 0, .int .i64 0, .bool false, .string (unq s).1, .int .i64 0] Q1 rfl rfl rfl rfl rfl sz35 rfl rfl rfl ?_
   intro w3 hS Qn
   replace Q1 := Qn
   clear Qn
   replace M := hS.mo _ N_k1 M
   clear hS
   refine wl_m (.tmp 41) (.bool true) ?_
   refine w_nil (xn_then (w_ret (xr_blk (xr_then ?_))))
   exact w_ret2 _ _ (.agg #[.int .i64 (3), .bool false, .int .u64 0, .int .u64 0, .int .u64 0, .int .u64 0, .int .i64 0, .bool false, .string (unq s).1, .int .i64 0]) (.bool true) rfl ⟨k1, rfl, (run_row Q1 35 0 10 _ rfl Tryd.underlying35 rfl sz35)⟩ rfl ⟨rfl, M⟩
  | false =>
   have hf1p := of_decide_eq_false hf1
   refine w_reg ?_
   refine wl_m (.tmp 8) (.string (unq s).1) ?_
   refine wl_build 35 [(0, (.const (.int .i64 (3)))), (3, (.tmp 34))] [(0, .int .i64 (3)), (3, .string (unq s).1)] (.agg #[.int .i64 (3), .bool false, .int .u64 0, .int .u64 0, .int .u64 0, .int .u64 0, .int .i64 0, .bool false, .string (unq s).1, .int .i64 0]) rfl rfl (by kernel_rfl) rfl ?_
   refine wl_m (.tmp 9) (.bool true) ?_
   refine wl_m (.tmp 36) (.bool true) ?_
   refine wl_m (.tmp 8) (.string (unq s).1) ?_
   refine wl_val (.int .i64 (((unq s).1.size : Nat) : Int)) (len_z _ _ (unq s).1 (by exact rfl) _ _ _ _ _ _) rfl ?_
   refine wl_b .leq 3 (.tmp 39) (.const (.int .i64 (64))) (.int .i64 (((unq s).1.size : Nat) : Int)) (.int .i64 (64)) (.bool false) (leN hf1 _ _ _) ?_
   refine wl_pick (.tmp 37) (.tmp 40) (.const (.bool false)) true (.bool false) (fun _ => rfl) rfl rfl rfl ?_
   refine wl_st 35 (.tmp 4) (.tmp 35) k1 0 #[.int .i64 (3), .bool false, .int .u64 0, .int .u64 0, .int .u64 0, .int .u64 0, .int .i64 0, .bool false, .string (unq s).1, .int .i64 0] _ [.int .i64 (3), .bool false, .int .u64 0, .int .u64 0, .int .u64 0, .int .u64 0, .int .i64 0, .bool false, .string (unq s).1, .int .i64 0] Q1 rfl rfl rfl rfl rfl sz35 rfl rfl rfl ?_
   intro w3 hS Qn
   replace Q1 := Qn
   clear Qn
   replace M := hS.mo _ N_k1 M
   clear hS
   refine wl_m (.tmp 41) (.bool false) ?_
   refine w_nil (xn_then (w_ret (xr_blk (xr_then ?_))))
   exact w_ret2 _ _ (.agg #[.int .i64 (3), .bool false, .int .u64 0, .int .u64 0, .int .u64 0, .int .u64 0, .int .i64 0, .bool false, .string (unq s).1, .int .i64 0]) (.bool false) rfl ⟨k1, rfl, (run_row Q1 35 0 10 _ rfl Tryd.underlying35 rfl sz35)⟩ rfl ⟨rfl, M⟩
 | false =>
  refine w_reg ?_
  refine wl_m (.tmp 1) (.string s) ?_
  refine wl_call 20 [(.tmp 30)] _ [.string s] (.tuple #[.string (unq s).1, .bool false]) rfl rfl (fun _ _ => by kernel_rfl) (unq_c hf0 _ hs) rfl ?_
  intro w2 hq
  replace Q1 := Q1.mo hq
  replace M := M.trans hq
  clear hq
  refine wl_m (.tmp 31) (.tuple #[.string (unq s).1, .bool false]) ?_
  refine wl_un (fun v => Instr.extract v 0) (.tmp 29) (.tuple #[.string (unq s).1, .bool false]) (.string (unq s).1) (fun _ => rfl) rfl (by kernel_rfl) rfl ?_
  refine wl_un (fun v => Instr.extract v 1) (.tmp 29) (.tuple #[.string (unq s).1, .bool false]) (.bool false) (fun _ => rfl) rfl (by kernel_rfl) rfl ?_
  refine wl_m (.tmp 32) (.string (unq s).1) ?_
  refine wl_m (.tmp 33) (.bool false) ?_
  refine w_nil (xn_then (w_seq (w_reg ?_)))
  refine wl_m (.tmp 8) (.string (unq s).1) ?_
  refine wl_build 35 [(0, (.const (.int .i64 (3)))), (3, (.tmp 34))] [(0, .int .i64 (3)), (3, .string (unq s).1)] (.agg #[.int .i64 (3), .bool false, .int .u64 0, .int .u64 0, .int .u64 0, .int .u64 0, .int .i64 0, .bool false, .string (unq s).1, .int .i64 0]) rfl rfl (by kernel_rfl) rfl ?_
  refine wl_m (.tmp 9) (.bool false) ?_
  refine wl_m (.tmp 36) (.bool false) ?_
  refine wl_skip rfl (wl_skip rfl (wl_skip rfl ?_))
  refine wl_pick (.tmp 37) (.tmp 40) (.const (.bool false)) false (.bool false) (fun _ => rfl) rfl rfl rfl ?_
  refine wl_st 35 (.tmp 4) (.tmp 35) k1 0 #[.int .i64 (3), .bool false, .int .u64 0, .int .u64 0, .int .u64 0, .int .u64 0, .int .i64 0, .bool false, .string (unq s).1, .int .i64 0] _ [.int .i64 (3), .bool false, .int .u64 0, .int .u64 0, .int .u64 0, .int .u64 0, .int .i64 0, .bool false, .string (unq s).1, .int .i64 0] Q1 rfl rfl rfl rfl rfl sz35 rfl rfl rfl ?_
  intro w3 hS Qn
  replace Q1 := Qn
  clear Qn
  replace M := hS.mo _ N_k1 M
  clear hS
  refine wl_m (.tmp 41) (.bool false) ?_
  refine w_nil (xn_then (w_ret (xr_blk (xr_then ?_))))
  exact w_ret2 _ _ (.agg #[.int .i64 (3), .bool false, .int .u64 0, .int .u64 0, .int .u64 0, .int .u64 0, .int .i64 0, .bool false, .string (unq s).1, .int .i64 0]) (.bool false) rfl ⟨k1, rfl, (run_row Q1 35 0 10 _ rfl Tryd.underlying35 rfl sz35)⟩ rfl ⟨rfl, M⟩
theorem meaning_4 (s : ByteArray) (w : World)  : Calls Tryd.prog 28 #[.int .i64 (4), .string s] w fun e w' => e = .returned (.tuple #[.agg #[.int .i64 0, .bool false, .int .u64 0, .int .u64 0, .int .u64 0, .int .u64 0, .int .i64 0, .bool false, .string ⟨#[]⟩, .int .i64 0], .bool (symb s)]) ∧ Mw w w' := by
 refine w_enter 45 Tryd.func28 Tryd.ntmps28 rfl rfl ?_
 have M : Mw w w := Mw.refl _
 refine w_seq (w_reg ?_)
 refine wl_alloc 35 #[.int .i64 0, .bool false, .int .u64 0, .int .u64 0, .int .u64 0, .int .u64 0, .int .i64 0, .bool false, .string ⟨#[]⟩, .int .i64 0] rfl (fun _ => by kernel_rfl) rfl ?_
 intro k1 w1 hk hz hq Q1
 have N_k1 : w.heap.size ≤ k1 := by have := M.size; omega
 replace M := M.trans hq
 clear hk hz hq
 refine wl_m (.const (.bool false)) (.bool false) ?_
 refine w_nil (xn_then (w_seq (w_seq (w_reg ?_))))
 refine wl_m (.tmp 0) (.int .i64 (4)) ?_
 refine w_nil (xn_then (w_block (w_seq (w_reg ?_))))
 refine wl_b .eql 3 (.tmp 10) (.const (.int .i64 (1))) (.int .i64 (4)) (.int .i64 (1)) (.bool false) (by kernel_rfl) ?_
 refine wl_m (.tmp 12) (.bool false) ?_
 refine w_nil (xn_then (w_condF rfl (w_seq (w_reg ?_))))
 refine wl_b .eql 3 (.tmp 10) (.const (.int .i64 (2))) (.int .i64 (4)) (.int .i64 (2)) (.bool false) (by kernel_rfl) ?_
 refine wl_m (.tmp 17) (.bool false) ?_
 refine w_nil (xn_then (w_condF rfl (w_seq (w_reg ?_))))
 refine wl_b .eql 3 (.tmp 10) (.const (.int .i64 (3))) (.int .i64 (4)) (.int .i64 (3)) (.bool false) (by kernel_rfl) ?_
 refine wl_m (.tmp 28) (.bool false) ?_
 refine w_nil (xn_then (w_condF rfl (w_skip (xn_blk (xn_then (w_seq (w_reg ?_)))))))
 refine wl_build 35 [] [] (.agg #[.int .i64 0, .bool false, .int .u64 0, .int .u64 0, .int .u64 0, .int .u64 0, .int .i64 0, .bool false, .string ⟨#[]⟩, .int .i64 0]) rfl rfl (by kernel_rfl) rfl ?_
 refine wl_m (.tmp 1) (.string s) ?_
 refine wl_call 18 [(.tmp 43)] _ [.string s] (.bool (symb s)) rfl rfl (fun _ _ => by kernel_rfl) (wk (sym_n s _)) rfl ?_
 intro w2 hq
 replace Q1 := Q1.mo hq
 replace M := M.trans hq
 clear hq
 refine wl_st 35 (.tmp 4) (.tmp 42) k1 0 #[.int .i64 0, .bool false, .int .u64 0, .int .u64 0, .int .u64 0, .int .u64 0, .int .i64 0, .bool false, .string ⟨#[]⟩, .int .i64 0] _ [.int .i64 0, .bool false, .int .u64 0, .int .u64 0, .int .u64 0, .int .u64 0, .int .i64 0, .bool false, .string ⟨#[]⟩, .int .i64 0] Q1 rfl rfl rfl rfl rfl sz35 rfl rfl rfl ?_
 intro w3 hS Qn
 replace Q1 := Qn
 clear Qn
 replace M := hS.mo _ N_k1 M
 clear hS
 refine wl_m (.tmp 44) (.bool (symb s)) ?_
 refine w_nil (xn_then (w_ret ?_))
 exact w_ret2 _ _ (.agg #[.int .i64 0, .bool false, .int .u64 0, .int .u64 0, .int .u64 0, .int .u64 0, .int .i64 0, .bool false, .string ⟨#[]⟩, .int .i64 0]) (.bool (symb s)) rfl ⟨k1, rfl, (run_row Q1 35 0 10 _ rfl Tryd.underlying35 rfl sz35)⟩ rfl ⟨rfl, M⟩
end Go.Proofs.YthgknegocfhdbaaDoor.V
/-
 lex.Next, kind by kind.
-/
namespace Go.Proofs.YthgknegocfhdbaaDoor.V
open Go.RowKit
theorem lp4 {i j q u : Nat} {a b c d e f g h : Value} (k1 : a = b) (k2 : c = d) (k3 : e = f) (k4 : g = h) : [(i, a), (j, c), (q, e), (u, g)] = [(i, b), (j, d), (q, f), (u, h)] := by rw [k1, k2, k3, k4]
theorem nme_rg (s : ByteArray) : ∀ (d k : Nat), d = s.size - k → k ≤ s.size → k ≤ nme s k ∧ nme s k ≤ s.size := by
 intro d
 induction d with
 | zero => intro k hd hk; rw [nme_end (by rw [bt_out (by omega)]; rfl)]; omega
 | succ d ih =>
  intro k hd hk
  cases h : (ltr (bt s k) || dgt (bt s k)) with
  | true => rw [nme_on h]; have := ih (k + 1) (by omega) (by omega); omega
  | false => rw [nme_end h]; omega
theorem cl_rg (s : ByteArray) : ∀ (d k : Nat), s.size - k ≤ d → ∀ e, cl s k = some e → k < e ∧ e ≤ s.size := by
 intro d
 induction d with
 | zero => intro k hd e he; rw [cl_end (by omega)] at he; cases he
 | succ d ih =>
  intro k hd e he
  by_cases h : k < s.size
  ·cases h2 : (bt s k == 92) with
   | true => rw [cl_e h h2] at he; have := ih (k + 2) (by omega) e he; omega
   | false =>
    cases h3 : (bt s k == 34) with
    | true => rw [cl_q h h2 h3] at he; cases he; omega
    | false => rw [cl_o h h2 h3] at he; have := ih (k + 1) (by omega) e he; omega
  ·rw [cl_end h] at he; cases he
theorem rch_rg {s : ByteArray} {k : Nat} (hk : k < s.size) : k ≤ (rch s k).2 ∧ (rch s k).2 ≤ s.size := by
 unfold rch
 split
 ·have := nme_rg s _ (k + 1) rfl (by omega)
  show k ≤ nme s (k + 1) ∧ nme s (k + 1) ≤ s.size
  omega
 ·split
  ·have := pfx_le (s.extract k s.size)
   rw [ByteArray.size_extract, Nat.min_self] at this
   show k ≤ k + pfx (s.extract k s.size) ∧ k + pfx (s.extract k s.size) ≤ s.size
   omega
  ·split
   ·show k ≤ qte s k k ∧ qte s k k ≤ s.size
    rw [qte_cl s k _ k (Nat.le_refl _)]
    cases h : cl s (k + 1) with
    | none => show k ≤ k ∧ k ≤ s.size; omega
    | some e => have := cl_rg s _ (k + 1) (Nat.le_refl _) e h; show k ≤ e ∧ e ≤ s.size; omega
   ·show k ≤ (if k + 2 ≤ s.size ∧ symb (s.extract k (k + 2)) = true then k + 2 else k + 1) ∧ (if k + 2 ≤ s.size ∧ symb (s.extract k (k + 2)) = true then k + 2 else k + 1) ≤ s.size
    split <;> omega
theorem reach_c {s : ByteArray} {k K e : Nat} (hr : rch s k = (K, e)) (w : World) (hs : s.size ≤ maxLen - 8) (hk : k < s.size) : Calls Tryd.prog 27 #[.string s, .int .i64 ((k : Nat) : Int)] w fun e' w' => e' = .returned (.tuple #[.int .i64 ((K : Nat) : Int), .int .i64 ((e : Nat) : Int)]) ∧ Mw w w' := by
 have h := wk (reach_n s k w hs hk)
 rw [hr] at h; exact h
theorem next_1t (s : ByteArray) (k e : Nat) (w : World) (hs : s.size ≤ 140737488355328) (hk : k < s.size) (hr : rch s k = (1, e)) (hm : ∀ w, Calls Tryd.prog 28 #[.int .i64 ((1 : Nat) : Int), .string (s.extract k e)] w fun e' w' => e' = .returned (.tuple #[.agg #[.int .i64 0, .bool false, .int .u64 0, .int .u64 0, .int .u64 0, .int .u64 0, .int .i64 0, .bool false, .string ⟨#[]⟩, .int .i64 0], .bool true]) ∧ Mw w w') : Calls Tryd.prog 12 #[.string s, .int .i64 ((k : Nat) : Int)] w fun e' w' => e' = .returned (.tuple #[.agg #[.int .i64 ((1 : Nat) : Int), .string (s.extract k e), .int .i64 0, .bool false, .int .u64 0, .int .u64 0, .int .u64 0, .int .u64 0, .int .i64 0, .bool false, .string ⟨#[]⟩, .int .i64 0, .int .i64 ((k : Nat) : Int)], .int .i64 0]) ∧ Mw w w' := by
 have hrg := rch_rg hk
 rw [hr] at hrg
 simp only at hrg
 refine w_enter 45 Tryd.func12 Tryd.ntmps12 rfl rfl ?_
 have M : Mw w w := Mw.refl _
 refine w_seq (w_reg ?_)
 refine wl_alloc 37 #[.int .i64 0, .string ⟨#[]⟩, .int .i64 0, .bool false, .int .u64 0, .int .u64 0, .int .u64 0, .int .u64 0, .int .i64 0, .bool false, .string ⟨#[]⟩, .int .i64 0, .int .i64 0] rfl (fun _ => by kernel_rfl) rfl ?_
 intro k1 w1 hk hz hq Q1
 have N_k1 : w.heap.size ≤ k1 := by have := M.size; omega
 replace M := M.trans hq
 clear hk hz hq
 refine wl_m (.const (.int .i64 (0))) (.int .i64 (0)) ?_
 refine w_nil (xn_then (w_seq (w_seq (w_reg ?_))))
 refine wl_m (.tmp 1) (.int .i64 ((k : Nat) : Int)) ?_
 refine wl_b .lss 3 (.tmp 10) (.const (.int .i64 (0))) (.int .i64 ((k : Nat) : Int)) (.int .i64 (0)) (.bool false) (lt3_run (r := false) (decide_eq_false (by omega)) _ _ _) ?_
 refine wl_m (.tmp 11) (.bool false) ?_
 refine wl_m (.tmp 1) (.int .i64 ((k : Nat) : Int)) ?_
 refine wl_m (.tmp 0) (.string s) ?_
 refine wl_val (.int .i64 ((s.size : Nat) : Int)) (len_s _ _ s (by exact rfl) _ _ _ _ _ _) rfl ?_
 refine wl_b .geq 3 (.tmp 13) (.tmp 15) (.int .i64 ((k : Nat) : Int)) (.int .i64 ((s.size : Nat) : Int)) (.bool false) (geN (decide_eq_false (by omega)) _ _ _) ?_
 refine wl_pick (.tmp 12) (.const (.bool true)) (.tmp 16) false (.bool false) (fun _ => rfl) rfl rfl rfl ?_
 refine w_nil (xn_then (w_condF rfl (w_skip (xn_then (w_seq (w_reg ?_))))))
 refine wl_m (.tmp 0) (.string s) ?_
 refine wl_m (.tmp 1) (.int .i64 ((k : Nat) : Int)) ?_
 refine wl_call 27 [(.tmp 20), (.tmp 21)] _ [.string s, .int .i64 ((k : Nat) : Int)] (.tuple #[.int .i64 ((1 : Nat) : Int), .int .i64 ((e : Nat) : Int)]) rfl rfl (fun _ _ => by kernel_rfl) (reach_c hr _ (by unfold maxLen; omega) hk) rfl ?_
 intro w2 hq
 replace Q1 := Q1.mo hq
 replace M := M.trans hq
 clear hq
 refine wl_m (.tmp 22) (.tuple #[.int .i64 ((1 : Nat) : Int), .int .i64 ((e : Nat) : Int)]) ?_
 refine wl_un (fun v => Instr.extract v 0) (.tmp 19) (.tuple #[.int .i64 ((1 : Nat) : Int), .int .i64 ((e : Nat) : Int)]) (.int .i64 ((1 : Nat) : Int)) (fun _ => rfl) rfl (by kernel_rfl) rfl ?_
 refine wl_un (fun v => Instr.extract v 1) (.tmp 19) (.tuple #[.int .i64 ((1 : Nat) : Int), .int .i64 ((e : Nat) : Int)]) (.int .i64 ((e : Nat) : Int)) (fun _ => rfl) rfl (by kernel_rfl) rfl ?_
 refine wl_m (.tmp 23) (.int .i64 ((1 : Nat) : Int)) ?_
 refine wl_m (.tmp 24) (.int .i64 ((e : Nat) : Int)) ?_
 refine w_nil (xn_then (w_seq (w_reg ?_)))
 refine wl_m (.tmp 6) (.int .i64 ((1 : Nat) : Int)) ?_
 refine wl_m (.tmp 0) (.string s) ?_
 refine wl_m (.tmp 1) (.int .i64 ((k : Nat) : Int)) ?_
 refine wl_m (.tmp 7) (.int .i64 ((e : Nat) : Int)) ?_
 refine wl_val (.string (s.extract k e)) (mid_run _ _ _ _ s (k) (e) (by exact rfl) (by exact rfl) (by exact rfl) (by omega) (by omega) _ _ _ _ _ _) rfl ?_
 refine wl_call 28 [(.tmp 26), (.tmp 30)] _ [.int .i64 ((1 : Nat) : Int), .string (s.extract k e)] (.tuple #[.agg #[.int .i64 0, .bool false, .int .u64 0, .int .u64 0, .int .u64 0, .int .u64 0, .int .i64 0, .bool false, .string ⟨#[]⟩, .int .i64 0], .bool true]) rfl rfl (fun _ _ => by kernel_rfl) (hm _) rfl ?_
 intro w3 hq
 replace Q1 := Q1.mo hq
 replace M := M.trans hq
 clear hq
 refine wl_m (.tmp 31) (.tuple #[.agg #[.int .i64 0, .bool false, .int .u64 0, .int .u64 0, .int .u64 0, .int .u64 0, .int .i64 0, .bool false, .string ⟨#[]⟩, .int .i64 0], .bool true]) ?_
 refine wl_un (fun v => Instr.extract v 0) (.tmp 25) (.tuple #[.agg #[.int .i64 0, .bool false, .int .u64 0, .int .u64 0, .int .u64 0, .int .u64 0, .int .i64 0, .bool false, .string ⟨#[]⟩, .int .i64 0], .bool true]) (.agg #[.int .i64 0, .bool false, .int .u64 0, .int .u64 0, .int .u64 0, .int .u64 0, .int .i64 0, .bool false, .string ⟨#[]⟩, .int .i64 0]) (fun _ => rfl) rfl (by kernel_rfl) rfl ?_
 refine wl_un (fun v => Instr.extract v 1) (.tmp 25) (.tuple #[.agg #[.int .i64 0, .bool false, .int .u64 0, .int .u64 0, .int .u64 0, .int .u64 0, .int .i64 0, .bool false, .string ⟨#[]⟩, .int .i64 0], .bool true]) (.bool true) (fun _ => rfl) rfl (by kernel_rfl) rfl ?_
 refine wl_alloc 35 #[.int .i64 0, .bool false, .int .u64 0, .int .u64 0, .int .u64 0, .int .u64 0, .int .i64 0, .bool false, .string ⟨#[]⟩, .int .i64 0] rfl (fun _ => by kernel_rfl) rfl ?_
 intro k2 w4 hk hz hq Q2
 have ne_k1_k2 : k1 ≠ k2 := by have := Q1.lt; omega
 have N_k2 : w.heap.size ≤ k2 := by have := M.size; omega
 replace Q1 := Q1.mo hq
 replace M := M.trans hq
 clear hk hz hq
 refine wl_st 35 (.tmp 8) (.tmp 32) k2 0 #[.int .i64 0, .bool false, .int .u64 0, .int .u64 0, .int .u64 0, .int .u64 0, .int .i64 0, .bool false, .string ⟨#[]⟩, .int .i64 0] _ [.int .i64 0, .bool false, .int .u64 0, .int .u64 0, .int .u64 0, .int .u64 0, .int .i64 0, .bool false, .string ⟨#[]⟩, .int .i64 0] Q2 rfl rfl rfl rfl rfl sz35 rfl rfl rfl ?_
 intro w5 hS Qn
 replace Q2 := Qn
 clear Qn
 replace Q1 := hS.other _ _ ne_k1_k2 Q1
 replace M := hS.mo _ N_k2 M
 clear hS
 refine wl_m (.tmp 33) (.bool true) ?_
 refine w_nil (xn_then (w_seq (w_seq (w_reg ?_))))
 refine wl_m (.tmp 9) (.bool true) ?_
 refine wl_un (fun v => Op.unary .not v) (.tmp 34) (.bool true) (.bool false) (fun _ => rfl) rfl (by kernel_rfl) rfl ?_
 refine w_nil (xn_then (w_condF rfl (w_skip (xn_then (w_seq ?_)))))
 refine w_any 8 [.inl (.int .i64 ((1 : Nat) : Int)), .inl (.string s), .inl (.int .i64 ((k : Nat) : Int)), .inl (.int .i64 ((e : Nat) : Int)), .inl (.string (s.extract k e)), .inl (.agg #[.int .i64 0, .bool false, .int .u64 0, .int .u64 0, .int .u64 0, .int .u64 0, .int .i64 0, .bool false, .string ⟨#[]⟩, .int .i64 0]), .inl (.int .i64 ((k : Nat) : Int)), .inl (.agg #[.int .i64 ((1 : Nat) : Int), .string (s.extract k e), .int .i64 0, .bool false, .int .u64 0, .int .u64 0, .int .u64 0, .int .u64 0, .int .i64 0, .bool false, .string ⟨#[]⟩, .int .i64 0, .int .i64 ((k : Nat) : Int)])] [] (by kernel_rfl) (by kernel_rfl) (by kernel_rfl) (by kernel_rfl) rfl (by kernel_rfl) (by kernel_rfl) late_nil ?_ ?_ ?_
 ·exact Ds.none rfl
 ·refine ea_cons ?_ (ea_cons ?_ (ea_cons ?_ (ea_cons ?_ (ea_cons ?_ (ea_cons ?_ (ea_cons ?_ (ea_cons ?_ (ea_nil))))))))
  ·exact og_eq _ rfl (fun f wf hq hd K hK => go_run rfl (wo_mv (.tmp 6) (.int .i64 ((1 : Nat) : Int)) (fun _ => rfl) rfl (hK _ (Mw.refl _))))
  ·exact og_eq _ rfl (fun f wf hq hd K hK => go_run rfl (wo_mv (.tmp 0) (.string s) (fun _ => rfl) rfl (hK _ (Mw.refl _))))
  ·exact og_eq _ rfl (fun f wf hq hd K hK => go_run rfl (wo_mv (.tmp 1) (.int .i64 ((k : Nat) : Int)) (fun _ => rfl) rfl (hK _ (Mw.refl _))))
  ·exact og_eq _ rfl (fun f wf hq hd K hK => go_run rfl (wo_mv (.tmp 7) (.int .i64 ((e : Nat) : Int)) (fun _ => rfl) rfl (hK _ (Mw.refl _))))
  ·exact og_eq _ rfl (fun f wf hq hd K hK => go_run rfl (wo_val (.string (s.extract k e)) (mid_run _ _ _ _ s (k) (e) (by exact (hd 1 rfl)) (by exact (hd 2 rfl)) (by exact (hd 3 rfl)) (by omega) (by omega) _ _ _ _ _ _) (hK _ (Mw.refl _))))
  ·exact og_eq _ rfl (fun f wf hq hd K hK => have Q2 := Q2.mo hq; go_run rfl (wo_load 35 (.tmp 8) (pt k2 0) (.agg #[.int .i64 0, .bool false, .int .u64 0, .int .u64 0, .int .u64 0, .int .u64 0, .int .i64 0, .bool false, .string ⟨#[]⟩, .int .i64 0]) rfl rfl (run_row Q2 35 0 10 _ rfl Tryd.underlying35 rfl sz35) (hK _ (Mw.refl _))))
  ·exact og_eq _ rfl (fun f wf hq hd K hK => go_run rfl (wo_mv (.tmp 1) (.int .i64 ((k : Nat) : Int)) (fun _ => rfl) rfl (hK _ (Mw.refl _))))
  ·exact og_eq _ rfl (fun f wf hq hd K hK => go_run rfl (wo_build 37 [(0, (.tmp 37)), (1, (.tmp 41)), (2, (.tmp 42)), (3, (.tmp 43))] [(0, .int .i64 ((1 : Nat) : Int)), (1, .string (s.extract k e)), (2, .agg #[.int .i64 0, .bool false, .int .u64 0, .int .u64 0, .int .u64 0, .int .u64 0, .int .i64 0, .bool false, .string ⟨#[]⟩, .int .i64 0]), (3, .int .i64 ((k : Nat) : Int))] (.agg #[.int .i64 ((1 : Nat) : Int), .string (s.extract k e), .int .i64 0, .bool false, .int .u64 0, .int .u64 0, .int .u64 0, .int .u64 0, .int .i64 0, .bool false, .string ⟨#[]⟩, .int .i64 0, .int .i64 ((k : Nat) : Int)]) rfl (lp4 (hd 0 rfl) (hd 4 rfl) (hd 5 rfl) (hd 6 rfl)) (by kernel_rfl) (hK _ (Mw.refl _))))
 intro kf6 w6 hq hR hne
 replace Q1 := Q1.mo hq
 replace Q2 := Q2.mo hq
 replace M := M.trans hq
 clear hq hR hne
 refine wl_st 37 (.tmp 4) (.tmp 44) k1 0 #[.int .i64 ((1 : Nat) : Int), .string (s.extract k e), .int .i64 0, .bool false, .int .u64 0, .int .u64 0, .int .u64 0, .int .u64 0, .int .i64 0, .bool false, .string ⟨#[]⟩, .int .i64 0, .int .i64 ((k : Nat) : Int)] _ [.int .i64 ((1 : Nat) : Int), .string (s.extract k e), .int .i64 0, .bool false, .int .u64 0, .int .u64 0, .int .u64 0, .int .u64 0, .int .i64 0, .bool false, .string ⟨#[]⟩, .int .i64 0, .int .i64 ((k : Nat) : Int)] Q1 rfl rfl rfl rfl rfl sz37 rfl rfl rfl ?_
 intro w7 hS Qn
 replace Q1 := Qn
 clear Qn
 replace Q2 := hS.other _ _ ne_k1_k2.symm Q2
 replace M := hS.mo _ N_k1 M
 clear hS
 refine wl_m (.const (.int .i64 (0))) (.int .i64 (0)) ?_
 refine w_nil (xn_then (w_ret ?_))
 exact w_ret2 _ _ (.agg #[.int .i64 ((1 : Nat) : Int), .string (s.extract k e), .int .i64 0, .bool false, .int .u64 0, .int .u64 0, .int .u64 0, .int .u64 0, .int .i64 0, .bool false, .string ⟨#[]⟩, .int .i64 0, .int .i64 ((k : Nat) : Int)]) (.int .i64 (0)) rfl ⟨k1, rfl, (run_row Q1 37 0 13 _ rfl Tryd.underlying37 rfl sz37)⟩ rfl ⟨rfl, M⟩
theorem next_1f (s : ByteArray) (k e : Nat) (w : World) (hs : s.size ≤ 140737488355328) (hk : k < s.size) (hr : rch s k = (1, e)) (hm : ∀ w, Calls Tryd.prog 28 #[.int .i64 ((1 : Nat) : Int), .string (s.extract k e)] w fun e' w' => e' = .returned (.tuple #[.agg #[.int .i64 0, .bool false, .int .u64 0, .int .u64 0, .int .u64 0, .int .u64 0, .int .i64 0, .bool false, .string ⟨#[]⟩, .int .i64 0], .bool false]) ∧ Mw w w') : Calls Tryd.prog 12 #[.string s, .int .i64 ((k : Nat) : Int)] w fun e' w' => e' = .returned (.tuple #[.agg #[.int .i64 0, .string ⟨#[]⟩, .int .i64 0, .bool false, .int .u64 0, .int .u64 0, .int .u64 0, .int .u64 0, .int .i64 0, .bool false, .string ⟨#[]⟩, .int .i64 0, .int .i64 0], .int .i64 70]) ∧ Mw w w' := by
 have hrg := rch_rg hk
 rw [hr] at hrg
 simp only at hrg
 refine w_enter 45 Tryd.func12 Tryd.ntmps12 rfl rfl ?_
 have M : Mw w w := Mw.refl _
 refine w_seq (w_reg ?_)
 refine wl_alloc 37 #[.int .i64 0, .string ⟨#[]⟩, .int .i64 0, .bool false, .int .u64 0, .int .u64 0, .int .u64 0, .int .u64 0, .int .i64 0, .bool false, .string ⟨#[]⟩, .int .i64 0, .int .i64 0] rfl (fun _ => by kernel_rfl) rfl ?_
 intro k1 w1 hk hz hq Q1
 have N_k1 : w.heap.size ≤ k1 := by have := M.size; omega
 replace M := M.trans hq
 clear hk hz hq
 refine wl_m (.const (.int .i64 (0))) (.int .i64 (0)) ?_
 refine w_nil (xn_then (w_seq (w_seq (w_reg ?_))))
 refine wl_m (.tmp 1) (.int .i64 ((k : Nat) : Int)) ?_
 refine wl_b .lss 3 (.tmp 10) (.const (.int .i64 (0))) (.int .i64 ((k : Nat) : Int)) (.int .i64 (0)) (.bool false) (lt3_run (r := false) (decide_eq_false (by omega)) _ _ _) ?_
 refine wl_m (.tmp 11) (.bool false) ?_
 refine wl_m (.tmp 1) (.int .i64 ((k : Nat) : Int)) ?_
 refine wl_m (.tmp 0) (.string s) ?_
 refine wl_val (.int .i64 ((s.size : Nat) : Int)) (len_s _ _ s (by exact rfl) _ _ _ _ _ _) rfl ?_
 refine wl_b .geq 3 (.tmp 13) (.tmp 15) (.int .i64 ((k : Nat) : Int)) (.int .i64 ((s.size : Nat) : Int)) (.bool false) (geN (decide_eq_false (by omega)) _ _ _) ?_
 refine wl_pick (.tmp 12) (.const (.bool true)) (.tmp 16) false (.bool false) (fun _ => rfl) rfl rfl rfl ?_
 refine w_nil (xn_then (w_condF rfl (w_skip (xn_then (w_seq (w_reg ?_))))))
 refine wl_m (.tmp 0) (.string s) ?_
 refine wl_m (.tmp 1) (.int .i64 ((k : Nat) : Int)) ?_
 refine wl_call 27 [(.tmp 20), (.tmp 21)] _ [.string s, .int .i64 ((k : Nat) : Int)] (.tuple #[.int .i64 ((1 : Nat) : Int), .int .i64 ((e : Nat) : Int)]) rfl rfl (fun _ _ => by kernel_rfl) (reach_c hr _ (by unfold maxLen; omega) hk) rfl ?_
 intro w2 hq
 replace Q1 := Q1.mo hq
 replace M := M.trans hq
 clear hq
 refine wl_m (.tmp 22) (.tuple #[.int .i64 ((1 : Nat) : Int), .int .i64 ((e : Nat) : Int)]) ?_
 refine wl_un (fun v => Instr.extract v 0) (.tmp 19) (.tuple #[.int .i64 ((1 : Nat) : Int), .int .i64 ((e : Nat) : Int)]) (.int .i64 ((1 : Nat) : Int)) (fun _ => rfl) rfl (by kernel_rfl) rfl ?_
 refine wl_un (fun v => Instr.extract v 1) (.tmp 19) (.tuple #[.int .i64 ((1 : Nat) : Int), .int .i64 ((e : Nat) : Int)]) (.int .i64 ((e : Nat) : Int)) (fun _ => rfl) rfl (by kernel_rfl) rfl ?_
 refine wl_m (.tmp 23) (.int .i64 ((1 : Nat) : Int)) ?_
 refine wl_m (.tmp 24) (.int .i64 ((e : Nat) : Int)) ?_
 refine w_nil (xn_then (w_seq (w_reg ?_)))
 refine wl_m (.tmp 6) (.int .i64 ((1 : Nat) : Int)) ?_
 refine wl_m (.tmp 0) (.string s) ?_
 refine wl_m (.tmp 1) (.int .i64 ((k : Nat) : Int)) ?_
 refine wl_m (.tmp 7) (.int .i64 ((e : Nat) : Int)) ?_
 refine wl_val (.string (s.extract k e)) (mid_run _ _ _ _ s (k) (e) (by exact rfl) (by exact rfl) (by exact rfl) (by omega) (by omega) _ _ _ _ _ _) rfl ?_
 refine wl_call 28 [(.tmp 26), (.tmp 30)] _ [.int .i64 ((1 : Nat) : Int), .string (s.extract k e)] (.tuple #[.agg #[.int .i64 0, .bool false, .int .u64 0, .int .u64 0, .int .u64 0, .int .u64 0, .int .i64 0, .bool false, .string ⟨#[]⟩, .int .i64 0], .bool false]) rfl rfl (fun _ _ => by kernel_rfl) (hm _) rfl ?_
 intro w3 hq
 replace Q1 := Q1.mo hq
 replace M := M.trans hq
 clear hq
 refine wl_m (.tmp 31) (.tuple #[.agg #[.int .i64 0, .bool false, .int .u64 0, .int .u64 0, .int .u64 0, .int .u64 0, .int .i64 0, .bool false, .string ⟨#[]⟩, .int .i64 0], .bool false]) ?_
 refine wl_un (fun v => Instr.extract v 0) (.tmp 25) (.tuple #[.agg #[.int .i64 0, .bool false, .int .u64 0, .int .u64 0, .int .u64 0, .int .u64 0, .int .i64 0, .bool false, .string ⟨#[]⟩, .int .i64 0], .bool false]) (.agg #[.int .i64 0, .bool false, .int .u64 0, .int .u64 0, .int .u64 0, .int .u64 0, .int .i64 0, .bool false, .string ⟨#[]⟩, .int .i64 0]) (fun _ => rfl) rfl (by kernel_rfl) rfl ?_
 refine wl_un (fun v => Instr.extract v 1) (.tmp 25) (.tuple #[.agg #[.int .i64 0, .bool false, .int .u64 0, .int .u64 0, .int .u64 0, .int .u64 0, .int .i64 0, .bool false, .string ⟨#[]⟩, .int .i64 0], .bool false]) (.bool false) (fun _ => rfl) rfl (by kernel_rfl) rfl ?_
 refine wl_alloc 35 #[.int .i64 0, .bool false, .int .u64 0, .int .u64 0, .int .u64 0, .int .u64 0, .int .i64 0, .bool false, .string ⟨#[]⟩, .int .i64 0] rfl (fun _ => by kernel_rfl) rfl ?_
 intro k2 w4 hk hz hq Q2
 have ne_k1_k2 : k1 ≠ k2 := by have := Q1.lt; omega
 have N_k2 : w.heap.size ≤ k2 := by have := M.size; omega
 replace Q1 := Q1.mo hq
 replace M := M.trans hq
 clear hk hz hq
 refine wl_st 35 (.tmp 8) (.tmp 32) k2 0 #[.int .i64 0, .bool false, .int .u64 0, .int .u64 0, .int .u64 0, .int .u64 0, .int .i64 0, .bool false, .string ⟨#[]⟩, .int .i64 0] _ [.int .i64 0, .bool false, .int .u64 0, .int .u64 0, .int .u64 0, .int .u64 0, .int .i64 0, .bool false, .string ⟨#[]⟩, .int .i64 0] Q2 rfl rfl rfl rfl rfl sz35 rfl rfl rfl ?_
 intro w5 hS Qn
 replace Q2 := Qn
 clear Qn
 replace Q1 := hS.other _ _ ne_k1_k2 Q1
 replace M := hS.mo _ N_k2 M
 clear hS
 refine wl_m (.tmp 33) (.bool false) ?_
 refine w_nil (xn_then (w_seq (w_seq (w_reg ?_))))
 refine wl_m (.tmp 9) (.bool false) ?_
 refine wl_un (fun v => Op.unary .not v) (.tmp 34) (.bool false) (.bool true) (fun _ => rfl) rfl (by kernel_rfl) rfl ?_
 refine w_nil (xn_then (w_condT rfl (w_seq (w_reg ?_))))
 refine wl_build 37 [] [] (.agg #[.int .i64 0, .string ⟨#[]⟩, .int .i64 0, .bool false, .int .u64 0, .int .u64 0, .int .u64 0, .int .u64 0, .int .i64 0, .bool false, .string ⟨#[]⟩, .int .i64 0, .int .i64 0]) rfl rfl (by kernel_rfl) rfl ?_
 refine wl_st 37 (.tmp 4) (.tmp 36) k1 0 #[.int .i64 0, .string ⟨#[]⟩, .int .i64 0, .bool false, .int .u64 0, .int .u64 0, .int .u64 0, .int .u64 0, .int .i64 0, .bool false, .string ⟨#[]⟩, .int .i64 0, .int .i64 0] _ [.int .i64 0, .string ⟨#[]⟩, .int .i64 0, .bool false, .int .u64 0, .int .u64 0, .int .u64 0, .int .u64 0, .int .i64 0, .bool false, .string ⟨#[]⟩, .int .i64 0, .int .i64 0] Q1 rfl rfl rfl rfl rfl sz37 rfl rfl rfl ?_
 intro w6 hS Qn
 replace Q1 := Qn
 clear Qn
 replace Q2 := hS.other _ _ ne_k1_k2.symm Q2
 replace M := hS.mo _ N_k1 M
 clear hS
 refine wl_m (.const (.int .i64 (70))) (.int .i64 (70)) ?_
 refine w_nil (xn_then (w_ret (xr_then ?_)))
 exact w_ret2 _ _ (.agg #[.int .i64 0, .string ⟨#[]⟩, .int .i64 0, .bool false, .int .u64 0, .int .u64 0, .int .u64 0, .int .u64 0, .int .i64 0, .bool false, .string ⟨#[]⟩, .int .i64 0, .int .i64 0]) (.int .i64 (70)) rfl ⟨k1, rfl, (run_row Q1 37 0 13 _ rfl Tryd.underlying37 rfl sz37)⟩ rfl ⟨rfl, M⟩
theorem next_2t (s : ByteArray) (k e : Nat) (b : Bool) (N : Int) (kk : Nat) (w : World) (hs : s.size ≤ 140737488355328) (hk : k < s.size) (hr : rch s k = (2, e)) (hm : ∀ w, Calls Tryd.prog 28 #[.int .i64 ((2 : Nat) : Int), .string (s.extract k e)] w fun e' w' => e' = .returned (.tuple #[.agg #[.int .i64 1, .bool b, .int .u64 (l0 (N)), .int .u64 (l1 (N)), .int .u64 (l2 (N)), .int .u64 (l3 (N)), .int .i64 ((kk : Int)), .bool false, .string ⟨#[]⟩, .int .i64 0], .bool true]) ∧ Mw w w') : Calls Tryd.prog 12 #[.string s, .int .i64 ((k : Nat) : Int)] w fun e' w' => e' = .returned (.tuple #[.agg #[.int .i64 ((2 : Nat) : Int), .string (s.extract k e), .int .i64 1, .bool b, .int .u64 (l0 (N)), .int .u64 (l1 (N)), .int .u64 (l2 (N)), .int .u64 (l3 (N)), .int .i64 ((kk : Int)), .bool false, .string ⟨#[]⟩, .int .i64 0, .int .i64 ((k : Nat) : Int)], .int .i64 0]) ∧ Mw w w' := by
 have hrg := rch_rg hk
 rw [hr] at hrg
 simp only at hrg
 refine w_enter 45 Tryd.func12 Tryd.ntmps12 rfl rfl ?_
 have M : Mw w w := Mw.refl _
 refine w_seq (w_reg ?_)
 refine wl_alloc 37 #[.int .i64 0, .string ⟨#[]⟩, .int .i64 0, .bool false, .int .u64 0, .int .u64 0, .int .u64 0, .int .u64 0, .int .i64 0, .bool false, .string ⟨#[]⟩, .int .i64 0, .int .i64 0] rfl (fun _ => by kernel_rfl) rfl ?_
 intro k1 w1 hk hz hq Q1
 have N_k1 : w.heap.size ≤ k1 := by have := M.size; omega
 replace M := M.trans hq
 clear hk hz hq
 refine wl_m (.const (.int .i64 (0))) (.int .i64 (0)) ?_
 refine w_nil (xn_then (w_seq (w_seq (w_reg ?_))))
 refine wl_m (.tmp 1) (.int .i64 ((k : Nat) : Int)) ?_
 refine wl_b .lss 3 (.tmp 10) (.const (.int .i64 (0))) (.int .i64 ((k : Nat) : Int)) (.int .i64 (0)) (.bool false) (lt3_run (r := false) (decide_eq_false (by omega)) _ _ _) ?_
 refine wl_m (.tmp 11) (.bool false) ?_
 refine wl_m (.tmp 1) (.int .i64 ((k : Nat) : Int)) ?_
 refine wl_m (.tmp 0) (.string s) ?_
 refine wl_val (.int .i64 ((s.size : Nat) : Int)) (len_s _ _ s (by exact rfl) _ _ _ _ _ _) rfl ?_
 refine wl_b .geq 3 (.tmp 13) (.tmp 15) (.int .i64 ((k : Nat) : Int)) (.int .i64 ((s.size : Nat) : Int)) (.bool false) (geN (decide_eq_false (by omega)) _ _ _) ?_
 refine wl_pick (.tmp 12) (.const (.bool true)) (.tmp 16) false (.bool false) (fun _ => rfl) rfl rfl rfl ?_
 refine w_nil (xn_then (w_condF rfl (w_skip (xn_then (w_seq (w_reg ?_))))))
 refine wl_m (.tmp 0) (.string s) ?_
 refine wl_m (.tmp 1) (.int .i64 ((k : Nat) : Int)) ?_
 refine wl_call 27 [(.tmp 20), (.tmp 21)] _ [.string s, .int .i64 ((k : Nat) : Int)] (.tuple #[.int .i64 ((2 : Nat) : Int), .int .i64 ((e : Nat) : Int)]) rfl rfl (fun _ _ => by kernel_rfl) (reach_c hr _ (by unfold maxLen; omega) hk) rfl ?_
 intro w2 hq
 replace Q1 := Q1.mo hq
 replace M := M.trans hq
 clear hq
 refine wl_m (.tmp 22) (.tuple #[.int .i64 ((2 : Nat) : Int), .int .i64 ((e : Nat) : Int)]) ?_
 refine wl_un (fun v => Instr.extract v 0) (.tmp 19) (.tuple #[.int .i64 ((2 : Nat) : Int), .int .i64 ((e : Nat) : Int)]) (.int .i64 ((2 : Nat) : Int)) (fun _ => rfl) rfl (by kernel_rfl) rfl ?_
 refine wl_un (fun v => Instr.extract v 1) (.tmp 19) (.tuple #[.int .i64 ((2 : Nat) : Int), .int .i64 ((e : Nat) : Int)]) (.int .i64 ((e : Nat) : Int)) (fun _ => rfl) rfl (by kernel_rfl) rfl ?_
 refine wl_m (.tmp 23) (.int .i64 ((2 : Nat) : Int)) ?_
 refine wl_m (.tmp 24) (.int .i64 ((e : Nat) : Int)) ?_
 refine w_nil (xn_then (w_seq (w_reg ?_)))
 refine wl_m (.tmp 6) (.int .i64 ((2 : Nat) : Int)) ?_
 refine wl_m (.tmp 0) (.string s) ?_
 refine wl_m (.tmp 1) (.int .i64 ((k : Nat) : Int)) ?_
 refine wl_m (.tmp 7) (.int .i64 ((e : Nat) : Int)) ?_
 refine wl_val (.string (s.extract k e)) (mid_run _ _ _ _ s (k) (e) (by exact rfl) (by exact rfl) (by exact rfl) (by omega) (by omega) _ _ _ _ _ _) rfl ?_
 refine wl_call 28 [(.tmp 26), (.tmp 30)] _ [.int .i64 ((2 : Nat) : Int), .string (s.extract k e)] (.tuple #[.agg #[.int .i64 1, .bool b, .int .u64 (l0 (N)), .int .u64 (l1 (N)), .int .u64 (l2 (N)), .int .u64 (l3 (N)), .int .i64 ((kk : Int)), .bool false, .string ⟨#[]⟩, .int .i64 0], .bool true]) rfl rfl (fun _ _ => by kernel_rfl) (hm _) rfl ?_
 intro w3 hq
 replace Q1 := Q1.mo hq
 replace M := M.trans hq
 clear hq
 refine wl_m (.tmp 31) (.tuple #[.agg #[.int .i64 1, .bool b, .int .u64 (l0 (N)), .int .u64 (l1 (N)), .int .u64 (l2 (N)), .int .u64 (l3 (N)), .int .i64 ((kk : Int)), .bool false, .string ⟨#[]⟩, .int .i64 0], .bool true]) ?_
 refine wl_un (fun v => Instr.extract v 0) (.tmp 25) (.tuple #[.agg #[.int .i64 1, .bool b, .int .u64 (l0 (N)), .int .u64 (l1 (N)), .int .u64 (l2 (N)), .int .u64 (l3 (N)), .int .i64 ((kk : Int)), .bool false, .string ⟨#[]⟩, .int .i64 0], .bool true]) (.agg #[.int .i64 1, .bool b, .int .u64 (l0 (N)), .int .u64 (l1 (N)), .int .u64 (l2 (N)), .int .u64 (l3 (N)), .int .i64 ((kk : Int)), .bool false, .string ⟨#[]⟩, .int .i64 0]) (fun _ => rfl) rfl (by kernel_rfl) rfl ?_
 refine wl_un (fun v => Instr.extract v 1) (.tmp 25) (.tuple #[.agg #[.int .i64 1, .bool b, .int .u64 (l0 (N)), .int .u64 (l1 (N)), .int .u64 (l2 (N)), .int .u64 (l3 (N)), .int .i64 ((kk : Int)), .bool false, .string ⟨#[]⟩, .int .i64 0], .bool true]) (.bool true) (fun _ => rfl) rfl (by kernel_rfl) rfl ?_
 refine wl_alloc 35 #[.int .i64 0, .bool false, .int .u64 0, .int .u64 0, .int .u64 0, .int .u64 0, .int .i64 0, .bool false, .string ⟨#[]⟩, .int .i64 0] rfl (fun _ => by kernel_rfl) rfl ?_
 intro k2 w4 hk hz hq Q2
 have ne_k1_k2 : k1 ≠ k2 := by have := Q1.lt; omega
 have N_k2 : w.heap.size ≤ k2 := by have := M.size; omega
 replace Q1 := Q1.mo hq
 replace M := M.trans hq
 clear hk hz hq
 refine wl_st 35 (.tmp 8) (.tmp 32) k2 0 #[.int .i64 1, .bool b, .int .u64 (l0 (N)), .int .u64 (l1 (N)), .int .u64 (l2 (N)), .int .u64 (l3 (N)), .int .i64 ((kk : Int)), .bool false, .string ⟨#[]⟩, .int .i64 0] _ [.int .i64 1, .bool b, .int .u64 (l0 (N)), .int .u64 (l1 (N)), .int .u64 (l2 (N)), .int .u64 (l3 (N)), .int .i64 ((kk : Int)), .bool false, .string ⟨#[]⟩, .int .i64 0] Q2 rfl rfl rfl rfl rfl sz35 rfl rfl rfl ?_
 intro w5 hS Qn
 replace Q2 := Qn
 clear Qn
 replace Q1 := hS.other _ _ ne_k1_k2 Q1
 replace M := hS.mo _ N_k2 M
 clear hS
 refine wl_m (.tmp 33) (.bool true) ?_
 refine w_nil (xn_then (w_seq (w_seq (w_reg ?_))))
 refine wl_m (.tmp 9) (.bool true) ?_
 refine wl_un (fun v => Op.unary .not v) (.tmp 34) (.bool true) (.bool false) (fun _ => rfl) rfl (by kernel_rfl) rfl ?_
 refine w_nil (xn_then (w_condF rfl (w_skip (xn_then (w_seq ?_)))))
 refine w_any 8 [.inl (.int .i64 ((2 : Nat) : Int)), .inl (.string s), .inl (.int .i64 ((k : Nat) : Int)), .inl (.int .i64 ((e : Nat) : Int)), .inl (.string (s.extract k e)), .inl (.agg #[.int .i64 1, .bool b, .int .u64 (l0 (N)), .int .u64 (l1 (N)), .int .u64 (l2 (N)), .int .u64 (l3 (N)), .int .i64 ((kk : Int)), .bool false, .string ⟨#[]⟩, .int .i64 0]), .inl (.int .i64 ((k : Nat) : Int)), .inl (.agg #[.int .i64 ((2 : Nat) : Int), .string (s.extract k e), .int .i64 1, .bool b, .int .u64 (l0 (N)), .int .u64 (l1 (N)), .int .u64 (l2 (N)), .int .u64 (l3 (N)), .int .i64 ((kk : Int)), .bool false, .string ⟨#[]⟩, .int .i64 0, .int .i64 ((k : Nat) : Int)])] [] (by kernel_rfl) (by kernel_rfl) (by kernel_rfl) (by kernel_rfl) rfl (by kernel_rfl) (by kernel_rfl) late_nil ?_ ?_ ?_
 ·exact Ds.none rfl
 ·refine ea_cons ?_ (ea_cons ?_ (ea_cons ?_ (ea_cons ?_ (ea_cons ?_ (ea_cons ?_ (ea_cons ?_ (ea_cons ?_ (ea_nil))))))))
  ·exact og_eq _ rfl (fun f wf hq hd K hK => go_run rfl (wo_mv (.tmp 6) (.int .i64 ((2 : Nat) : Int)) (fun _ => rfl) rfl (hK _ (Mw.refl _))))
  ·exact og_eq _ rfl (fun f wf hq hd K hK => go_run rfl (wo_mv (.tmp 0) (.string s) (fun _ => rfl) rfl (hK _ (Mw.refl _))))
  ·exact og_eq _ rfl (fun f wf hq hd K hK => go_run rfl (wo_mv (.tmp 1) (.int .i64 ((k : Nat) : Int)) (fun _ => rfl) rfl (hK _ (Mw.refl _))))
  ·exact og_eq _ rfl (fun f wf hq hd K hK => go_run rfl (wo_mv (.tmp 7) (.int .i64 ((e : Nat) : Int)) (fun _ => rfl) rfl (hK _ (Mw.refl _))))
  ·exact og_eq _ rfl (fun f wf hq hd K hK => go_run rfl (wo_val (.string (s.extract k e)) (mid_run _ _ _ _ s (k) (e) (by exact (hd 1 rfl)) (by exact (hd 2 rfl)) (by exact (hd 3 rfl)) (by omega) (by omega) _ _ _ _ _ _) (hK _ (Mw.refl _))))
  ·exact og_eq _ rfl (fun f wf hq hd K hK => have Q2 := Q2.mo hq; go_run rfl (wo_load 35 (.tmp 8) (pt k2 0) (.agg #[.int .i64 1, .bool b, .int .u64 (l0 (N)), .int .u64 (l1 (N)), .int .u64 (l2 (N)), .int .u64 (l3 (N)), .int .i64 ((kk : Int)), .bool false, .string ⟨#[]⟩, .int .i64 0]) rfl rfl (run_row Q2 35 0 10 _ rfl Tryd.underlying35 rfl sz35) (hK _ (Mw.refl _))))
  ·exact og_eq _ rfl (fun f wf hq hd K hK => go_run rfl (wo_mv (.tmp 1) (.int .i64 ((k : Nat) : Int)) (fun _ => rfl) rfl (hK _ (Mw.refl _))))
  ·exact og_eq _ rfl (fun f wf hq hd K hK => go_run rfl (wo_build 37 [(0, (.tmp 37)), (1, (.tmp 41)), (2, (.tmp 42)), (3, (.tmp 43))] [(0, .int .i64 ((2 : Nat) : Int)), (1, .string (s.extract k e)), (2, .agg #[.int .i64 1, .bool b, .int .u64 (l0 (N)), .int .u64 (l1 (N)), .int .u64 (l2 (N)), .int .u64 (l3 (N)), .int .i64 ((kk : Int)), .bool false, .string ⟨#[]⟩, .int .i64 0]), (3, .int .i64 ((k : Nat) : Int))] (.agg #[.int .i64 ((2 : Nat) : Int), .string (s.extract k e), .int .i64 1, .bool b, .int .u64 (l0 (N)), .int .u64 (l1 (N)), .int .u64 (l2 (N)), .int .u64 (l3 (N)), .int .i64 ((kk : Int)), .bool false, .string ⟨#[]⟩, .int .i64 0, .int .i64 ((k : Nat) : Int)]) rfl (lp4 (hd 0 rfl) (hd 4 rfl) (hd 5 rfl) (hd 6 rfl)) (by kernel_rfl) (hK _ (Mw.refl _))))
 intro kf6 w6 hq hR hne
 replace Q1 := Q1.mo hq
 replace Q2 := Q2.mo hq
 replace M := M.trans hq
 clear hq hR hne
 refine wl_st 37 (.tmp 4) (.tmp 44) k1 0 #[.int .i64 ((2 : Nat) : Int), .string (s.extract k e), .int .i64 1, .bool b, .int .u64 (l0 (N)), .int .u64 (l1 (N)), .int .u64 (l2 (N)), .int .u64 (l3 (N)), .int .i64 ((kk : Int)), .bool false, .string ⟨#[]⟩, .int .i64 0, .int .i64 ((k : Nat) : Int)] _ [.int .i64 ((2 : Nat) : Int), .string (s.extract k e), .int .i64 1, .bool b, .int .u64 (l0 (N)), .int .u64 (l1 (N)), .int .u64 (l2 (N)), .int .u64 (l3 (N)), .int .i64 ((kk : Int)), .bool false, .string ⟨#[]⟩, .int .i64 0, .int .i64 ((k : Nat) : Int)] Q1 rfl rfl rfl rfl rfl sz37 rfl rfl rfl ?_
 intro w7 hS Qn
 replace Q1 := Qn
 clear Qn
 replace Q2 := hS.other _ _ ne_k1_k2.symm Q2
 replace M := hS.mo _ N_k1 M
 clear hS
 refine wl_m (.const (.int .i64 (0))) (.int .i64 (0)) ?_
 refine w_nil (xn_then (w_ret ?_))
 exact w_ret2 _ _ (.agg #[.int .i64 ((2 : Nat) : Int), .string (s.extract k e), .int .i64 1, .bool b, .int .u64 (l0 (N)), .int .u64 (l1 (N)), .int .u64 (l2 (N)), .int .u64 (l3 (N)), .int .i64 ((kk : Int)), .bool false, .string ⟨#[]⟩, .int .i64 0, .int .i64 ((k : Nat) : Int)]) (.int .i64 (0)) rfl ⟨k1, rfl, (run_row Q1 37 0 13 _ rfl Tryd.underlying37 rfl sz37)⟩ rfl ⟨rfl, M⟩
theorem next_2f (s : ByteArray) (k e : Nat) (b : Bool) (N : Int) (kk : Nat) (w : World) (hs : s.size ≤ 140737488355328) (hk : k < s.size) (hr : rch s k = (2, e)) (hm : ∀ w, Calls Tryd.prog 28 #[.int .i64 ((2 : Nat) : Int), .string (s.extract k e)] w fun e' w' => e' = .returned (.tuple #[.agg #[.int .i64 1, .bool b, .int .u64 (l0 (N)), .int .u64 (l1 (N)), .int .u64 (l2 (N)), .int .u64 (l3 (N)), .int .i64 ((kk : Int)), .bool false, .string ⟨#[]⟩, .int .i64 0], .bool false]) ∧ Mw w w') : Calls Tryd.prog 12 #[.string s, .int .i64 ((k : Nat) : Int)] w fun e' w' => e' = .returned (.tuple #[.agg #[.int .i64 0, .string ⟨#[]⟩, .int .i64 0, .bool false, .int .u64 0, .int .u64 0, .int .u64 0, .int .u64 0, .int .i64 0, .bool false, .string ⟨#[]⟩, .int .i64 0, .int .i64 0], .int .i64 70]) ∧ Mw w w' := by
 have hrg := rch_rg hk
 rw [hr] at hrg
 simp only at hrg
 refine w_enter 45 Tryd.func12 Tryd.ntmps12 rfl rfl ?_
 have M : Mw w w := Mw.refl _
 refine w_seq (w_reg ?_)
 refine wl_alloc 37 #[.int .i64 0, .string ⟨#[]⟩, .int .i64 0, .bool false, .int .u64 0, .int .u64 0, .int .u64 0, .int .u64 0, .int .i64 0, .bool false, .string ⟨#[]⟩, .int .i64 0, .int .i64 0] rfl (fun _ => by kernel_rfl) rfl ?_
 intro k1 w1 hk hz hq Q1
 have N_k1 : w.heap.size ≤ k1 := by have := M.size; omega
 replace M := M.trans hq
 clear hk hz hq
 refine wl_m (.const (.int .i64 (0))) (.int .i64 (0)) ?_
 refine w_nil (xn_then (w_seq (w_seq (w_reg ?_))))
 refine wl_m (.tmp 1) (.int .i64 ((k : Nat) : Int)) ?_
 refine wl_b .lss 3 (.tmp 10) (.const (.int .i64 (0))) (.int .i64 ((k : Nat) : Int)) (.int .i64 (0)) (.bool false) (lt3_run (r := false) (decide_eq_false (by omega)) _ _ _) ?_
 refine wl_m (.tmp 11) (.bool false) ?_
 refine wl_m (.tmp 1) (.int .i64 ((k : Nat) : Int)) ?_
 refine wl_m (.tmp 0) (.string s) ?_
 refine wl_val (.int .i64 ((s.size : Nat) : Int)) (len_s _ _ s (by exact rfl) _ _ _ _ _ _) rfl ?_
 refine wl_b .geq 3 (.tmp 13) (.tmp 15) (.int .i64 ((k : Nat) : Int)) (.int .i64 ((s.size : Nat) : Int)) (.bool false) (geN (decide_eq_false (by omega)) _ _ _) ?_
 refine wl_pick (.tmp 12) (.const (.bool true)) (.tmp 16) false (.bool false) (fun _ => rfl) rfl rfl rfl ?_
 refine w_nil (xn_then (w_condF rfl (w_skip (xn_then (w_seq (w_reg ?_))))))
 refine wl_m (.tmp 0) (.string s) ?_
 refine wl_m (.tmp 1) (.int .i64 ((k : Nat) : Int)) ?_
 refine wl_call 27 [(.tmp 20), (.tmp 21)] _ [.string s, .int .i64 ((k : Nat) : Int)] (.tuple #[.int .i64 ((2 : Nat) : Int), .int .i64 ((e : Nat) : Int)]) rfl rfl (fun _ _ => by kernel_rfl) (reach_c hr _ (by unfold maxLen; omega) hk) rfl ?_
 intro w2 hq
 replace Q1 := Q1.mo hq
 replace M := M.trans hq
 clear hq
 refine wl_m (.tmp 22) (.tuple #[.int .i64 ((2 : Nat) : Int), .int .i64 ((e : Nat) : Int)]) ?_
 refine wl_un (fun v => Instr.extract v 0) (.tmp 19) (.tuple #[.int .i64 ((2 : Nat) : Int), .int .i64 ((e : Nat) : Int)]) (.int .i64 ((2 : Nat) : Int)) (fun _ => rfl) rfl (by kernel_rfl) rfl ?_
 refine wl_un (fun v => Instr.extract v 1) (.tmp 19) (.tuple #[.int .i64 ((2 : Nat) : Int), .int .i64 ((e : Nat) : Int)]) (.int .i64 ((e : Nat) : Int)) (fun _ => rfl) rfl (by kernel_rfl) rfl ?_
 refine wl_m (.tmp 23) (.int .i64 ((2 : Nat) : Int)) ?_
 refine wl_m (.tmp 24) (.int .i64 ((e : Nat) : Int)) ?_
 refine w_nil (xn_then (w_seq (w_reg ?_)))
 refine wl_m (.tmp 6) (.int .i64 ((2 : Nat) : Int)) ?_
 refine wl_m (.tmp 0) (.string s) ?_
 refine wl_m (.tmp 1) (.int .i64 ((k : Nat) : Int)) ?_
 refine wl_m (.tmp 7) (.int .i64 ((e : Nat) : Int)) ?_
 refine wl_val (.string (s.extract k e)) (mid_run _ _ _ _ s (k) (e) (by exact rfl) (by exact rfl) (by exact rfl) (by omega) (by omega) _ _ _ _ _ _) rfl ?_
 refine wl_call 28 [(.tmp 26), (.tmp 30)] _ [.int .i64 ((2 : Nat) : Int), .string (s.extract k e)] (.tuple #[.agg #[.int .i64 1, .bool b, .int .u64 (l0 (N)), .int .u64 (l1 (N)), .int .u64 (l2 (N)), .int .u64 (l3 (N)), .int .i64 ((kk : Int)), .bool false, .string ⟨#[]⟩, .int .i64 0], .bool false]) rfl rfl (fun _ _ => by kernel_rfl) (hm _) rfl ?_
 intro w3 hq
 replace Q1 := Q1.mo hq
 replace M := M.trans hq
 clear hq
 refine wl_m (.tmp 31) (.tuple #[.agg #[.int .i64 1, .bool b, .int .u64 (l0 (N)), .int .u64 (l1 (N)), .int .u64 (l2 (N)), .int .u64 (l3 (N)), .int .i64 ((kk : Int)), .bool false, .string ⟨#[]⟩, .int .i64 0], .bool false]) ?_
 refine wl_un (fun v => Instr.extract v 0) (.tmp 25) (.tuple #[.agg #[.int .i64 1, .bool b, .int .u64 (l0 (N)), .int .u64 (l1 (N)), .int .u64 (l2 (N)), .int .u64 (l3 (N)), .int .i64 ((kk : Int)), .bool false, .string ⟨#[]⟩, .int .i64 0], .bool false]) (.agg #[.int .i64 1, .bool b, .int .u64 (l0 (N)), .int .u64 (l1 (N)), .int .u64 (l2 (N)), .int .u64 (l3 (N)), .int .i64 ((kk : Int)), .bool false, .string ⟨#[]⟩, .int .i64 0]) (fun _ => rfl) rfl (by kernel_rfl) rfl ?_
 refine wl_un (fun v => Instr.extract v 1) (.tmp 25) (.tuple #[.agg #[.int .i64 1, .bool b, .int .u64 (l0 (N)), .int .u64 (l1 (N)), .int .u64 (l2 (N)), .int .u64 (l3 (N)), .int .i64 ((kk : Int)), .bool false, .string ⟨#[]⟩, .int .i64 0], .bool false]) (.bool false) (fun _ => rfl) rfl (by kernel_rfl) rfl ?_
 refine wl_alloc 35 #[.int .i64 0, .bool false, .int .u64 0, .int .u64 0, .int .u64 0, .int .u64 0, .int .i64 0, .bool false, .string ⟨#[]⟩, .int .i64 0] rfl (fun _ => by kernel_rfl) rfl ?_
 intro k2 w4 hk hz hq Q2
 have ne_k1_k2 : k1 ≠ k2 := by have := Q1.lt; omega
 have N_k2 : w.heap.size ≤ k2 := by have := M.size; omega
 replace Q1 := Q1.mo hq
 replace M := M.trans hq
 clear hk hz hq
 refine wl_st 35 (.tmp 8) (.tmp 32) k2 0 #[.int .i64 1, .bool b, .int .u64 (l0 (N)), .int .u64 (l1 (N)), .int .u64 (l2 (N)), .int .u64 (l3 (N)), .int .i64 ((kk : Int)), .bool false, .string ⟨#[]⟩, .int .i64 0] _ [.int .i64 1, .bool b, .int .u64 (l0 (N)), .int .u64 (l1 (N)), .int .u64 (l2 (N)), .int .u64 (l3 (N)), .int .i64 ((kk : Int)), .bool false, .string ⟨#[]⟩, .int .i64 0] Q2 rfl rfl rfl rfl rfl sz35 rfl rfl rfl ?_
 intro w5 hS Qn
 replace Q2 := Qn
 clear Qn
 replace Q1 := hS.other _ _ ne_k1_k2 Q1
 replace M := hS.mo _ N_k2 M
 clear hS
 refine wl_m (.tmp 33) (.bool false) ?_
 refine w_nil (xn_then (w_seq (w_seq (w_reg ?_))))
 refine wl_m (.tmp 9) (.bool false) ?_
 refine wl_un (fun v => Op.unary .not v) (.tmp 34) (.bool false) (.bool true) (fun _ => rfl) rfl (by kernel_rfl) rfl ?_
 refine w_nil (xn_then (w_condT rfl (w_seq (w_reg ?_))))
 refine wl_build 37 [] [] (.agg #[.int .i64 0, .string ⟨#[]⟩, .int .i64 0, .bool false, .int .u64 0, .int .u64 0, .int .u64 0, .int .u64 0, .int .i64 0, .bool false, .string ⟨#[]⟩, .int .i64 0, .int .i64 0]) rfl rfl (by kernel_rfl) rfl ?_
 refine wl_st 37 (.tmp 4) (.tmp 36) k1 0 #[.int .i64 0, .string ⟨#[]⟩, .int .i64 0, .bool false, .int .u64 0, .int .u64 0, .int .u64 0, .int .u64 0, .int .i64 0, .bool false, .string ⟨#[]⟩, .int .i64 0, .int .i64 0] _ [.int .i64 0, .string ⟨#[]⟩, .int .i64 0, .bool false, .int .u64 0, .int .u64 0, .int .u64 0, .int .u64 0, .int .i64 0, .bool false, .string ⟨#[]⟩, .int .i64 0, .int .i64 0] Q1 rfl rfl rfl rfl rfl sz37 rfl rfl rfl ?_
 intro w6 hS Qn
 replace Q1 := Qn
 clear Qn
 replace Q2 := hS.other _ _ ne_k1_k2.symm Q2
 replace M := hS.mo _ N_k1 M
 clear hS
 refine wl_m (.const (.int .i64 (70))) (.int .i64 (70)) ?_
 refine w_nil (xn_then (w_ret (xr_then ?_)))
 exact w_ret2 _ _ (.agg #[.int .i64 0, .string ⟨#[]⟩, .int .i64 0, .bool false, .int .u64 0, .int .u64 0, .int .u64 0, .int .u64 0, .int .i64 0, .bool false, .string ⟨#[]⟩, .int .i64 0, .int .i64 0]) (.int .i64 (70)) rfl ⟨k1, rfl, (run_row Q1 37 0 13 _ rfl Tryd.underlying37 rfl sz37)⟩ rfl ⟨rfl, M⟩
theorem next_3t (s : ByteArray) (k e : Nat) (w : World) (hs : s.size ≤ 140737488355328) (hk : k < s.size) (hr : rch s k = (3, e)) (hm : ∀ w, Calls Tryd.prog 28 #[.int .i64 ((3 : Nat) : Int), .string (s.extract k e)] w fun e' w' => e' = .returned (.tuple #[.agg #[.int .i64 3, .bool false, .int .u64 0, .int .u64 0, .int .u64 0, .int .u64 0, .int .i64 0, .bool false, .string (unq (s.extract k e)).1, .int .i64 0], .bool true]) ∧ Mw w w') : Calls Tryd.prog 12 #[.string s, .int .i64 ((k : Nat) : Int)] w fun e' w' => e' = .returned (.tuple #[.agg #[.int .i64 ((3 : Nat) : Int), .string (s.extract k e), .int .i64 3, .bool false, .int .u64 0, .int .u64 0, .int .u64 0, .int .u64 0, .int .i64 0, .bool false, .string (unq (s.extract k e)).1, .int .i64 0, .int .i64 ((k : Nat) : Int)], .int .i64 0]) ∧ Mw w w' := by
 have hrg := rch_rg hk
 rw [hr] at hrg
 simp only at hrg
 refine w_enter 45 Tryd.func12 Tryd.ntmps12 rfl rfl ?_
 have M : Mw w w := Mw.refl _
 refine w_seq (w_reg ?_)
 refine wl_alloc 37 #[.int .i64 0, .string ⟨#[]⟩, .int .i64 0, .bool false, .int .u64 0, .int .u64 0, .int .u64 0, .int .u64 0, .int .i64 0, .bool false, .string ⟨#[]⟩, .int .i64 0, .int .i64 0] rfl (fun _ => by kernel_rfl) rfl ?_
 intro k1 w1 hk hz hq Q1
 have N_k1 : w.heap.size ≤ k1 := by have := M.size; omega
 replace M := M.trans hq
 clear hk hz hq
 refine wl_m (.const (.int .i64 (0))) (.int .i64 (0)) ?_
 refine w_nil (xn_then (w_seq (w_seq (w_reg ?_))))
 refine wl_m (.tmp 1) (.int .i64 ((k : Nat) : Int)) ?_
 refine wl_b .lss 3 (.tmp 10) (.const (.int .i64 (0))) (.int .i64 ((k : Nat) : Int)) (.int .i64 (0)) (.bool false) (lt3_run (r := false) (decide_eq_false (by omega)) _ _ _) ?_
 refine wl_m (.tmp 11) (.bool false) ?_
 refine wl_m (.tmp 1) (.int .i64 ((k : Nat) : Int)) ?_
 refine wl_m (.tmp 0) (.string s) ?_
 refine wl_val (.int .i64 ((s.size : Nat) : Int)) (len_s _ _ s (by exact rfl) _ _ _ _ _ _) rfl ?_
 refine wl_b .geq 3 (.tmp 13) (.tmp 15) (.int .i64 ((k : Nat) : Int)) (.int .i64 ((s.size : Nat) : Int)) (.bool false) (geN (decide_eq_false (by omega)) _ _ _) ?_
 refine wl_pick (.tmp 12) (.const (.bool true)) (.tmp 16) false (.bool false) (fun _ => rfl) rfl rfl rfl ?_
 refine w_nil (xn_then (w_condF rfl (w_skip (xn_then (w_seq (w_reg ?_))))))
 refine wl_m (.tmp 0) (.string s) ?_
 refine wl_m (.tmp 1) (.int .i64 ((k : Nat) : Int)) ?_
 refine wl_call 27 [(.tmp 20), (.tmp 21)] _ [.string s, .int .i64 ((k : Nat) : Int)] (.tuple #[.int .i64 ((3 : Nat) : Int), .int .i64 ((e : Nat) : Int)]) rfl rfl (fun _ _ => by kernel_rfl) (reach_c hr _ (by unfold maxLen; omega) hk) rfl ?_
 intro w2 hq
 replace Q1 := Q1.mo hq
 replace M := M.trans hq
 clear hq
 refine wl_m (.tmp 22) (.tuple #[.int .i64 ((3 : Nat) : Int), .int .i64 ((e : Nat) : Int)]) ?_
 refine wl_un (fun v => Instr.extract v 0) (.tmp 19) (.tuple #[.int .i64 ((3 : Nat) : Int), .int .i64 ((e : Nat) : Int)]) (.int .i64 ((3 : Nat) : Int)) (fun _ => rfl) rfl (by kernel_rfl) rfl ?_
 refine wl_un (fun v => Instr.extract v 1) (.tmp 19) (.tuple #[.int .i64 ((3 : Nat) : Int), .int .i64 ((e : Nat) : Int)]) (.int .i64 ((e : Nat) : Int)) (fun _ => rfl) rfl (by kernel_rfl) rfl ?_
 refine wl_m (.tmp 23) (.int .i64 ((3 : Nat) : Int)) ?_
 refine wl_m (.tmp 24) (.int .i64 ((e : Nat) : Int)) ?_
 refine w_nil (xn_then (w_seq (w_reg ?_)))
 refine wl_m (.tmp 6) (.int .i64 ((3 : Nat) : Int)) ?_
 refine wl_m (.tmp 0) (.string s) ?_
 refine wl_m (.tmp 1) (.int .i64 ((k : Nat) : Int)) ?_
 refine wl_m (.tmp 7) (.int .i64 ((e : Nat) : Int)) ?_
 refine wl_val (.string (s.extract k e)) (mid_run _ _ _ _ s (k) (e) (by exact rfl) (by exact rfl) (by exact rfl) (by omega) (by omega) _ _ _ _ _ _) rfl ?_
 refine wl_call 28 [(.tmp 26), (.tmp 30)] _ [.int .i64 ((3 : Nat) : Int), .string (s.extract k e)] (.tuple #[.agg #[.int .i64 3, .bool false, .int .u64 0, .int .u64 0, .int .u64 0, .int .u64 0, .int .i64 0, .bool false, .string (unq (s.extract k e)).1, .int .i64 0], .bool true]) rfl rfl (fun _ _ => by kernel_rfl) (hm _) rfl ?_
 intro w3 hq
 replace Q1 := Q1.mo hq
 replace M := M.trans hq
 clear hq
 refine wl_m (.tmp 31) (.tuple #[.agg #[.int .i64 3, .bool false, .int .u64 0, .int .u64 0, .int .u64 0, .int .u64 0, .int .i64 0, .bool false, .string (unq (s.extract k e)).1, .int .i64 0], .bool true]) ?_
 refine wl_un (fun v => Instr.extract v 0) (.tmp 25) (.tuple #[.agg #[.int .i64 3, .bool false, .int .u64 0, .int .u64 0, .int .u64 0, .int .u64 0, .int .i64 0, .bool false, .string (unq (s.extract k e)).1, .int .i64 0], .bool true]) (.agg #[.int .i64 3, .bool false, .int .u64 0, .int .u64 0, .int .u64 0, .int .u64 0, .int .i64 0, .bool false, .string (unq (s.extract k e)).1, .int .i64 0]) (fun _ => rfl) rfl (by kernel_rfl) rfl ?_
 refine wl_un (fun v => Instr.extract v 1) (.tmp 25) (.tuple #[.agg #[.int .i64 3, .bool false, .int .u64 0, .int .u64 0, .int .u64 0, .int .u64 0, .int .i64 0, .bool false, .string (unq (s.extract k e)).1, .int .i64 0], .bool true]) (.bool true) (fun _ => rfl) rfl (by kernel_rfl) rfl ?_
 refine wl_alloc 35 #[.int .i64 0, .bool false, .int .u64 0, .int .u64 0, .int .u64 0, .int .u64 0, .int .i64 0, .bool false, .string ⟨#[]⟩, .int .i64 0] rfl (fun _ => by kernel_rfl) rfl ?_
 intro k2 w4 hk hz hq Q2
 have ne_k1_k2 : k1 ≠ k2 := by have := Q1.lt; omega
 have N_k2 : w.heap.size ≤ k2 := by have := M.size; omega
 replace Q1 := Q1.mo hq
 replace M := M.trans hq
 clear hk hz hq
 refine wl_st 35 (.tmp 8) (.tmp 32) k2 0 #[.int .i64 3, .bool false, .int .u64 0, .int .u64 0, .int .u64 0, .int .u64 0, .int .i64 0, .bool false, .string (unq (s.extract k e)).1, .int .i64 0] _ [.int .i64 3, .bool false, .int .u64 0, .int .u64 0, .int .u64 0, .int .u64 0, .int .i64 0, .bool false, .string (unq (s.extract k e)).1, .int .i64 0] Q2 rfl rfl rfl rfl rfl sz35 rfl rfl rfl ?_
 intro w5 hS Qn
 replace Q2 := Qn
 clear Qn
 replace Q1 := hS.other _ _ ne_k1_k2 Q1
 replace M := hS.mo _ N_k2 M
 clear hS
 refine wl_m (.tmp 33) (.bool true) ?_
 refine w_nil (xn_then (w_seq (w_seq (w_reg ?_))))
 refine wl_m (.tmp 9) (.bool true) ?_
 refine wl_un (fun v => Op.unary .not v) (.tmp 34) (.bool true) (.bool false) (fun _ => rfl) rfl (by kernel_rfl) rfl ?_
 refine w_nil (xn_then (w_condF rfl (w_skip (xn_then (w_seq ?_)))))
 refine w_any 8 [.inl (.int .i64 ((3 : Nat) : Int)), .inl (.string s), .inl (.int .i64 ((k : Nat) : Int)), .inl (.int .i64 ((e : Nat) : Int)), .inl (.string (s.extract k e)), .inl (.agg #[.int .i64 3, .bool false, .int .u64 0, .int .u64 0, .int .u64 0, .int .u64 0, .int .i64 0, .bool false, .string (unq (s.extract k e)).1, .int .i64 0]), .inl (.int .i64 ((k : Nat) : Int)), .inl (.agg #[.int .i64 ((3 : Nat) : Int), .string (s.extract k e), .int .i64 3, .bool false, .int .u64 0, .int .u64 0, .int .u64 0, .int .u64 0, .int .i64 0, .bool false, .string (unq (s.extract k e)).1, .int .i64 0, .int .i64 ((k : Nat) : Int)])] [] (by kernel_rfl) (by kernel_rfl) (by kernel_rfl) (by kernel_rfl) rfl (by kernel_rfl) (by kernel_rfl) late_nil ?_ ?_ ?_
 ·exact Ds.none rfl
 ·refine ea_cons ?_ (ea_cons ?_ (ea_cons ?_ (ea_cons ?_ (ea_cons ?_ (ea_cons ?_ (ea_cons ?_ (ea_cons ?_ (ea_nil))))))))
  ·exact og_eq _ rfl (fun f wf hq hd K hK => go_run rfl (wo_mv (.tmp 6) (.int .i64 ((3 : Nat) : Int)) (fun _ => rfl) rfl (hK _ (Mw.refl _))))
  ·exact og_eq _ rfl (fun f wf hq hd K hK => go_run rfl (wo_mv (.tmp 0) (.string s) (fun _ => rfl) rfl (hK _ (Mw.refl _))))
  ·exact og_eq _ rfl (fun f wf hq hd K hK => go_run rfl (wo_mv (.tmp 1) (.int .i64 ((k : Nat) : Int)) (fun _ => rfl) rfl (hK _ (Mw.refl _))))
  ·exact og_eq _ rfl (fun f wf hq hd K hK => go_run rfl (wo_mv (.tmp 7) (.int .i64 ((e : Nat) : Int)) (fun _ => rfl) rfl (hK _ (Mw.refl _))))
  ·exact og_eq _ rfl (fun f wf hq hd K hK => go_run rfl (wo_val (.string (s.extract k e)) (mid_run _ _ _ _ s (k) (e) (by exact (hd 1 rfl)) (by exact (hd 2 rfl)) (by exact (hd 3 rfl)) (by omega) (by omega) _ _ _ _ _ _) (hK _ (Mw.refl _))))
  ·exact og_eq _ rfl (fun f wf hq hd K hK => have Q2 := Q2.mo hq; go_run rfl (wo_load 35 (.tmp 8) (pt k2 0) (.agg #[.int .i64 3, .bool false, .int .u64 0, .int .u64 0, .int .u64 0, .int .u64 0, .int .i64 0, .bool false, .string (unq (s.extract k e)).1, .int .i64 0]) rfl rfl (run_row Q2 35 0 10 _ rfl Tryd.underlying35 rfl sz35) (hK _ (Mw.refl _))))
  ·exact og_eq _ rfl (fun f wf hq hd K hK => go_run rfl (wo_mv (.tmp 1) (.int .i64 ((k : Nat) : Int)) (fun _ => rfl) rfl (hK _ (Mw.refl _))))
  ·exact og_eq _ rfl (fun f wf hq hd K hK => go_run rfl (wo_build 37 [(0, (.tmp 37)), (1, (.tmp 41)), (2, (.tmp 42)), (3, (.tmp 43))] [(0, .int .i64 ((3 : Nat) : Int)), (1, .string (s.extract k e)), (2, .agg #[.int .i64 3, .bool false, .int .u64 0, .int .u64 0, .int .u64 0, .int .u64 0, .int .i64 0, .bool false, .string (unq (s.extract k e)).1, .int .i64 0]), (3, .int .i64 ((k : Nat) : Int))] (.agg #[.int .i64 ((3 : Nat) : Int), .string (s.extract k e), .int .i64 3, .bool false, .int .u64 0, .int .u64 0, .int .u64 0, .int .u64 0, .int .i64 0, .bool false, .string (unq (s.extract k e)).1, .int .i64 0, .int .i64 ((k : Nat) : Int)]) rfl (lp4 (hd 0 rfl) (hd 4 rfl) (hd 5 rfl) (hd 6 rfl)) (by kernel_rfl) (hK _ (Mw.refl _))))
 intro kf6 w6 hq hR hne
 replace Q1 := Q1.mo hq
 replace Q2 := Q2.mo hq
 replace M := M.trans hq
 clear hq hR hne
 refine wl_st 37 (.tmp 4) (.tmp 44) k1 0 #[.int .i64 ((3 : Nat) : Int), .string (s.extract k e), .int .i64 3, .bool false, .int .u64 0, .int .u64 0, .int .u64 0, .int .u64 0, .int .i64 0, .bool false, .string (unq (s.extract k e)).1, .int .i64 0, .int .i64 ((k : Nat) : Int)] _ [.int .i64 ((3 : Nat) : Int), .string (s.extract k e), .int .i64 3, .bool false, .int .u64 0, .int .u64 0, .int .u64 0, .int .u64 0, .int .i64 0, .bool false, .string (unq (s.extract k e)).1, .int .i64 0, .int .i64 ((k : Nat) : Int)] Q1 rfl rfl rfl rfl rfl sz37 rfl rfl rfl ?_
 intro w7 hS Qn
 replace Q1 := Qn
 clear Qn
 replace Q2 := hS.other _ _ ne_k1_k2.symm Q2
 replace M := hS.mo _ N_k1 M
 clear hS
 refine wl_m (.const (.int .i64 (0))) (.int .i64 (0)) ?_
 refine w_nil (xn_then (w_ret ?_))
 exact w_ret2 _ _ (.agg #[.int .i64 ((3 : Nat) : Int), .string (s.extract k e), .int .i64 3, .bool false, .int .u64 0, .int .u64 0, .int .u64 0, .int .u64 0, .int .i64 0, .bool false, .string (unq (s.extract k e)).1, .int .i64 0, .int .i64 ((k : Nat) : Int)]) (.int .i64 (0)) rfl ⟨k1, rfl, (run_row Q1 37 0 13 _ rfl Tryd.underlying37 rfl sz37)⟩ rfl ⟨rfl, M⟩
theorem next_3f (s : ByteArray) (k e : Nat) (w : World) (hs : s.size ≤ 140737488355328) (hk : k < s.size) (hr : rch s k = (3, e)) (hm : ∀ w, Calls Tryd.prog 28 #[.int .i64 ((3 : Nat) : Int), .string (s.extract k e)] w fun e' w' => e' = .returned (.tuple #[.agg #[.int .i64 3, .bool false, .int .u64 0, .int .u64 0, .int .u64 0, .int .u64 0, .int .i64 0, .bool false, .string (unq (s.extract k e)).1, .int .i64 0], .bool false]) ∧ Mw w w') : Calls Tryd.prog 12 #[.string s, .int .i64 ((k : Nat) : Int)] w fun e' w' => e' = .returned (.tuple #[.agg #[.int .i64 0, .string ⟨#[]⟩, .int .i64 0, .bool false, .int .u64 0, .int .u64 0, .int .u64 0, .int .u64 0, .int .i64 0, .bool false, .string ⟨#[]⟩, .int .i64 0, .int .i64 0], .int .i64 70]) ∧ Mw w w' := by
 have hrg := rch_rg hk
 rw [hr] at hrg
 simp only at hrg
 refine w_enter 45 Tryd.func12 Tryd.ntmps12 rfl rfl ?_
 have M : Mw w w := Mw.refl _
 refine w_seq (w_reg ?_)
 refine wl_alloc 37 #[.int .i64 0, .string ⟨#[]⟩, .int .i64 0, .bool false, .int .u64 0, .int .u64 0, .int .u64 0, .int .u64 0, .int .i64 0, .bool false, .string ⟨#[]⟩, .int .i64 0, .int .i64 0] rfl (fun _ => by kernel_rfl) rfl ?_
 intro k1 w1 hk hz hq Q1
 have N_k1 : w.heap.size ≤ k1 := by have := M.size; omega
 replace M := M.trans hq
 clear hk hz hq
 refine wl_m (.const (.int .i64 (0))) (.int .i64 (0)) ?_
 refine w_nil (xn_then (w_seq (w_seq (w_reg ?_))))
 refine wl_m (.tmp 1) (.int .i64 ((k : Nat) : Int)) ?_
 refine wl_b .lss 3 (.tmp 10) (.const (.int .i64 (0))) (.int .i64 ((k : Nat) : Int)) (.int .i64 (0)) (.bool false) (lt3_run (r := false) (decide_eq_false (by omega)) _ _ _) ?_
 refine wl_m (.tmp 11) (.bool false) ?_
 refine wl_m (.tmp 1) (.int .i64 ((k : Nat) : Int)) ?_
 refine wl_m (.tmp 0) (.string s) ?_
 refine wl_val (.int .i64 ((s.size : Nat) : Int)) (len_s _ _ s (by exact rfl) _ _ _ _ _ _) rfl ?_
 refine wl_b .geq 3 (.tmp 13) (.tmp 15) (.int .i64 ((k : Nat) : Int)) (.int .i64 ((s.size : Nat) : Int)) (.bool false) (geN (decide_eq_false (by omega)) _ _ _) ?_
 refine wl_pick (.tmp 12) (.const (.bool true)) (.tmp 16) false (.bool false) (fun _ => rfl) rfl rfl rfl ?_
 refine w_nil (xn_then (w_condF rfl (w_skip (xn_then (w_seq (w_reg ?_))))))
 refine wl_m (.tmp 0) (.string s) ?_
 refine wl_m (.tmp 1) (.int .i64 ((k : Nat) : Int)) ?_
 refine wl_call 27 [(.tmp 20), (.tmp 21)] _ [.string s, .int .i64 ((k : Nat) : Int)] (.tuple #[.int .i64 ((3 : Nat) : Int), .int .i64 ((e : Nat) : Int)]) rfl rfl (fun _ _ => by kernel_rfl) (reach_c hr _ (by unfold maxLen; omega) hk) rfl ?_
 intro w2 hq
 replace Q1 := Q1.mo hq
 replace M := M.trans hq
 clear hq
 refine wl_m (.tmp 22) (.tuple #[.int .i64 ((3 : Nat) : Int), .int .i64 ((e : Nat) : Int)]) ?_
 refine wl_un (fun v => Instr.extract v 0) (.tmp 19) (.tuple #[.int .i64 ((3 : Nat) : Int), .int .i64 ((e : Nat) : Int)]) (.int .i64 ((3 : Nat) : Int)) (fun _ => rfl) rfl (by kernel_rfl) rfl ?_
 refine wl_un (fun v => Instr.extract v 1) (.tmp 19) (.tuple #[.int .i64 ((3 : Nat) : Int), .int .i64 ((e : Nat) : Int)]) (.int .i64 ((e : Nat) : Int)) (fun _ => rfl) rfl (by kernel_rfl) rfl ?_
 refine wl_m (.tmp 23) (.int .i64 ((3 : Nat) : Int)) ?_
 refine wl_m (.tmp 24) (.int .i64 ((e : Nat) : Int)) ?_
 refine w_nil (xn_then (w_seq (w_reg ?_)))
 refine wl_m (.tmp 6) (.int .i64 ((3 : Nat) : Int)) ?_
 refine wl_m (.tmp 0) (.string s) ?_
 refine wl_m (.tmp 1) (.int .i64 ((k : Nat) : Int)) ?_
 refine wl_m (.tmp 7) (.int .i64 ((e : Nat) : Int)) ?_
 refine wl_val (.string (s.extract k e)) (mid_run _ _ _ _ s (k) (e) (by exact rfl) (by exact rfl) (by exact rfl) (by omega) (by omega) _ _ _ _ _ _) rfl ?_
 refine wl_call 28 [(.tmp 26), (.tmp 30)] _ [.int .i64 ((3 : Nat) : Int), .string (s.extract k e)] (.tuple #[.agg #[.int .i64 3, .bool false, .int .u64 0, .int .u64 0, .int .u64 0, .int .u64 0, .int .i64 0, .bool false, .string (unq (s.extract k e)).1, .int .i64 0], .bool false]) rfl rfl (fun _ _ => by kernel_rfl) (hm _) rfl ?_
 intro w3 hq
 replace Q1 := Q1.mo hq
 replace M := M.trans hq
 clear hq
 refine wl_m (.tmp 31) (.tuple #[.agg #[.int .i64 3, .bool false, .int .u64 0, .int .u64 0, .int .u64 0, .int .u64 0, .int .i64 0, .bool false, .string (unq (s.extract k e)).1, .int .i64 0], .bool false]) ?_
 refine wl_un (fun v => Instr.extract v 0) (.tmp 25) (.tuple #[.agg #[.int .i64 3, .bool false, .int .u64 0, .int .u64 0, .int .u64 0, .int .u64 0, .int .i64 0, .bool false, .string (unq (s.extract k e)).1, .int .i64 0], .bool false]) (.agg #[.int .i64 3, .bool false, .int .u64 0, .int .u64 0, .int .u64 0, .int .u64 0, .int .i64 0, .bool false, .string (unq (s.extract k e)).1, .int .i64 0]) (fun _ => rfl) rfl (by kernel_rfl) rfl ?_
 refine wl_un (fun v => Instr.extract v 1) (.tmp 25) (.tuple #[.agg #[.int .i64 3, .bool false, .int .u64 0, .int .u64 0, .int .u64 0, .int .u64 0, .int .i64 0, .bool false, .string (unq (s.extract k e)).1, .int .i64 0], .bool false]) (.bool false) (fun _ => rfl) rfl (by kernel_rfl) rfl ?_
 refine wl_alloc 35 #[.int .i64 0, .bool false, .int .u64 0, .int .u64 0, .int .u64 0, .int .u64 0, .int .i64 0, .bool false, .string ⟨#[]⟩, .int .i64 0] rfl (fun _ => by kernel_rfl) rfl ?_
 intro k2 w4 hk hz hq Q2
 have ne_k1_k2 : k1 ≠ k2 := by have := Q1.lt; omega
 have N_k2 : w.heap.size ≤ k2 := by have := M.size; omega
 replace Q1 := Q1.mo hq
 replace M := M.trans hq
 clear hk hz hq
 refine wl_st 35 (.tmp 8) (.tmp 32) k2 0 #[.int .i64 3, .bool false, .int .u64 0, .int .u64 0, .int .u64 0, .int .u64 0, .int .i64 0, .bool false, .string (unq (s.extract k e)).1, .int .i64 0] _ [.int .i64 3, .bool false, .int .u64 0, .int .u64 0, .int .u64 0, .int .u64 0, .int .i64 0, .bool false, .string (unq (s.extract k e)).1, .int .i64 0] Q2 rfl rfl rfl rfl rfl sz35 rfl rfl rfl ?_
 intro w5 hS Qn
 replace Q2 := Qn
 clear Qn
 replace Q1 := hS.other _ _ ne_k1_k2 Q1
 replace M := hS.mo _ N_k2 M
 clear hS
 refine wl_m (.tmp 33) (.bool false) ?_
 refine w_nil (xn_then (w_seq (w_seq (w_reg ?_))))
 refine wl_m (.tmp 9) (.bool false) ?_
 refine wl_un (fun v => Op.unary .not v) (.tmp 34) (.bool false) (.bool true) (fun _ => rfl) rfl (by kernel_rfl) rfl ?_
 refine w_nil (xn_then (w_condT rfl (w_seq (w_reg ?_))))
 refine wl_build 37 [] [] (.agg #[.int .i64 0, .string ⟨#[]⟩, .int .i64 0, .bool false, .int .u64 0, .int .u64 0, .int .u64 0, .int .u64 0, .int .i64 0, .bool false, .string ⟨#[]⟩, .int .i64 0, .int .i64 0]) rfl rfl (by kernel_rfl) rfl ?_
 refine wl_st 37 (.tmp 4) (.tmp 36) k1 0 #[.int .i64 0, .string ⟨#[]⟩, .int .i64 0, .bool false, .int .u64 0, .int .u64 0, .int .u64 0, .int .u64 0, .int .i64 0, .bool false, .string ⟨#[]⟩, .int .i64 0, .int .i64 0] _ [.int .i64 0, .string ⟨#[]⟩, .int .i64 0, .bool false, .int .u64 0, .int .u64 0, .int .u64 0, .int .u64 0, .int .i64 0, .bool false, .string ⟨#[]⟩, .int .i64 0, .int .i64 0] Q1 rfl rfl rfl rfl rfl sz37 rfl rfl rfl ?_
 intro w6 hS Qn
 replace Q1 := Qn
 clear Qn
 replace Q2 := hS.other _ _ ne_k1_k2.symm Q2
 replace M := hS.mo _ N_k1 M
 clear hS
 refine wl_m (.const (.int .i64 (70))) (.int .i64 (70)) ?_
 refine w_nil (xn_then (w_ret (xr_then ?_)))
 exact w_ret2 _ _ (.agg #[.int .i64 0, .string ⟨#[]⟩, .int .i64 0, .bool false, .int .u64 0, .int .u64 0, .int .u64 0, .int .u64 0, .int .i64 0, .bool false, .string ⟨#[]⟩, .int .i64 0, .int .i64 0]) (.int .i64 (70)) rfl ⟨k1, rfl, (run_row Q1 37 0 13 _ rfl Tryd.underlying37 rfl sz37)⟩ rfl ⟨rfl, M⟩
theorem next_4t (s : ByteArray) (k e : Nat) (w : World) (hs : s.size ≤ 140737488355328) (hk : k < s.size) (hr : rch s k = (4, e)) (hm : ∀ w, Calls Tryd.prog 28 #[.int .i64 ((4 : Nat) : Int), .string (s.extract k e)] w fun e' w' => e' = .returned (.tuple #[.agg #[.int .i64 0, .bool false, .int .u64 0, .int .u64 0, .int .u64 0, .int .u64 0, .int .i64 0, .bool false, .string ⟨#[]⟩, .int .i64 0], .bool true]) ∧ Mw w w') : Calls Tryd.prog 12 #[.string s, .int .i64 ((k : Nat) : Int)] w fun e' w' => e' = .returned (.tuple #[.agg #[.int .i64 ((4 : Nat) : Int), .string (s.extract k e), .int .i64 0, .bool false, .int .u64 0, .int .u64 0, .int .u64 0, .int .u64 0, .int .i64 0, .bool false, .string ⟨#[]⟩, .int .i64 0, .int .i64 ((k : Nat) : Int)], .int .i64 0]) ∧ Mw w w' := by
 have hrg := rch_rg hk
 rw [hr] at hrg
 simp only at hrg
 refine w_enter 45 Tryd.func12 Tryd.ntmps12 rfl rfl ?_
 have M : Mw w w := Mw.refl _
 refine w_seq (w_reg ?_)
 refine wl_alloc 37 #[.int .i64 0, .string ⟨#[]⟩, .int .i64 0, .bool false, .int .u64 0, .int .u64 0, .int .u64 0, .int .u64 0, .int .i64 0, .bool false, .string ⟨#[]⟩, .int .i64 0, .int .i64 0] rfl (fun _ => by kernel_rfl) rfl ?_
 intro k1 w1 hk hz hq Q1
 have N_k1 : w.heap.size ≤ k1 := by have := M.size; omega
 replace M := M.trans hq
 clear hk hz hq
 refine wl_m (.const (.int .i64 (0))) (.int .i64 (0)) ?_
 refine w_nil (xn_then (w_seq (w_seq (w_reg ?_))))
 refine wl_m (.tmp 1) (.int .i64 ((k : Nat) : Int)) ?_
 refine wl_b .lss 3 (.tmp 10) (.const (.int .i64 (0))) (.int .i64 ((k : Nat) : Int)) (.int .i64 (0)) (.bool false) (lt3_run (r := false) (decide_eq_false (by omega)) _ _ _) ?_
 refine wl_m (.tmp 11) (.bool false) ?_
 refine wl_m (.tmp 1) (.int .i64 ((k : Nat) : Int)) ?_
 refine wl_m (.tmp 0) (.string s) ?_
 refine wl_val (.int .i64 ((s.size : Nat) : Int)) (len_s _ _ s (by exact rfl) _ _ _ _ _ _) rfl ?_
 refine wl_b .geq 3 (.tmp 13) (.tmp 15) (.int .i64 ((k : Nat) : Int)) (.int .i64 ((s.size : Nat) : Int)) (.bool false) (geN (decide_eq_false (by omega)) _ _ _) ?_
 refine wl_pick (.tmp 12) (.const (.bool true)) (.tmp 16) false (.bool false) (fun _ => rfl) rfl rfl rfl ?_
 refine w_nil (xn_then (w_condF rfl (w_skip (xn_then (w_seq (w_reg ?_))))))
 refine wl_m (.tmp 0) (.string s) ?_
 refine wl_m (.tmp 1) (.int .i64 ((k : Nat) : Int)) ?_
 refine wl_call 27 [(.tmp 20), (.tmp 21)] _ [.string s, .int .i64 ((k : Nat) : Int)] (.tuple #[.int .i64 ((4 : Nat) : Int), .int .i64 ((e : Nat) : Int)]) rfl rfl (fun _ _ => by kernel_rfl) (reach_c hr _ (by unfold maxLen; omega) hk) rfl ?_
 intro w2 hq
 replace Q1 := Q1.mo hq
 replace M := M.trans hq
 clear hq
 refine wl_m (.tmp 22) (.tuple #[.int .i64 ((4 : Nat) : Int), .int .i64 ((e : Nat) : Int)]) ?_
 refine wl_un (fun v => Instr.extract v 0) (.tmp 19) (.tuple #[.int .i64 ((4 : Nat) : Int), .int .i64 ((e : Nat) : Int)]) (.int .i64 ((4 : Nat) : Int)) (fun _ => rfl) rfl (by kernel_rfl) rfl ?_
 refine wl_un (fun v => Instr.extract v 1) (.tmp 19) (.tuple #[.int .i64 ((4 : Nat) : Int), .int .i64 ((e : Nat) : Int)]) (.int .i64 ((e : Nat) : Int)) (fun _ => rfl) rfl (by kernel_rfl) rfl ?_
 refine wl_m (.tmp 23) (.int .i64 ((4 : Nat) : Int)) ?_
 refine wl_m (.tmp 24) (.int .i64 ((e : Nat) : Int)) ?_
 refine w_nil (xn_then (w_seq (w_reg ?_)))
 refine wl_m (.tmp 6) (.int .i64 ((4 : Nat) : Int)) ?_
 refine wl_m (.tmp 0) (.string s) ?_
 refine wl_m (.tmp 1) (.int .i64 ((k : Nat) : Int)) ?_
 refine wl_m (.tmp 7) (.int .i64 ((e : Nat) : Int)) ?_
 refine wl_val (.string (s.extract k e)) (mid_run _ _ _ _ s (k) (e) (by exact rfl) (by exact rfl) (by exact rfl) (by omega) (by omega) _ _ _ _ _ _) rfl ?_
 refine wl_call 28 [(.tmp 26), (.tmp 30)] _ [.int .i64 ((4 : Nat) : Int), .string (s.extract k e)] (.tuple #[.agg #[.int .i64 0, .bool false, .int .u64 0, .int .u64 0, .int .u64 0, .int .u64 0, .int .i64 0, .bool false, .string ⟨#[]⟩, .int .i64 0], .bool true]) rfl rfl (fun _ _ => by kernel_rfl) (hm _) rfl ?_
 intro w3 hq
 replace Q1 := Q1.mo hq
 replace M := M.trans hq
 clear hq
 refine wl_m (.tmp 31) (.tuple #[.agg #[.int .i64 0, .bool false, .int .u64 0, .int .u64 0, .int .u64 0, .int .u64 0, .int .i64 0, .bool false, .string ⟨#[]⟩, .int .i64 0], .bool true]) ?_
 refine wl_un (fun v => Instr.extract v 0) (.tmp 25) (.tuple #[.agg #[.int .i64 0, .bool false, .int .u64 0, .int .u64 0, .int .u64 0, .int .u64 0, .int .i64 0, .bool false, .string ⟨#[]⟩, .int .i64 0], .bool true]) (.agg #[.int .i64 0, .bool false, .int .u64 0, .int .u64 0, .int .u64 0, .int .u64 0, .int .i64 0, .bool false, .string ⟨#[]⟩, .int .i64 0]) (fun _ => rfl) rfl (by kernel_rfl) rfl ?_
 refine wl_un (fun v => Instr.extract v 1) (.tmp 25) (.tuple #[.agg #[.int .i64 0, .bool false, .int .u64 0, .int .u64 0, .int .u64 0, .int .u64 0, .int .i64 0, .bool false, .string ⟨#[]⟩, .int .i64 0], .bool true]) (.bool true) (fun _ => rfl) rfl (by kernel_rfl) rfl ?_
 refine wl_alloc 35 #[.int .i64 0, .bool false, .int .u64 0, .int .u64 0, .int .u64 0, .int .u64 0, .int .i64 0, .bool false, .string ⟨#[]⟩, .int .i64 0] rfl (fun _ => by kernel_rfl) rfl ?_
 intro k2 w4 hk hz hq Q2
 have ne_k1_k2 : k1 ≠ k2 := by have := Q1.lt; omega
 have N_k2 : w.heap.size ≤ k2 := by have := M.size; omega
 replace Q1 := Q1.mo hq
 replace M := M.trans hq
 clear hk hz hq
 refine wl_st 35 (.tmp 8) (.tmp 32) k2 0 #[.int .i64 0, .bool false, .int .u64 0, .int .u64 0, .int .u64 0, .int .u64 0, .int .i64 0, .bool false, .string ⟨#[]⟩, .int .i64 0] _ [.int .i64 0, .bool false, .int .u64 0, .int .u64 0, .int .u64 0, .int .u64 0, .int .i64 0, .bool false, .string ⟨#[]⟩, .int .i64 0] Q2 rfl rfl rfl rfl rfl sz35 rfl rfl rfl ?_
 intro w5 hS Qn
 replace Q2 := Qn
 clear Qn
 replace Q1 := hS.other _ _ ne_k1_k2 Q1
 replace M := hS.mo _ N_k2 M
 clear hS
 refine wl_m (.tmp 33) (.bool true) ?_
 refine w_nil (xn_then (w_seq (w_seq (w_reg ?_))))
 refine wl_m (.tmp 9) (.bool true) ?_
 refine wl_un (fun v => Op.unary .not v) (.tmp 34) (.bool true) (.bool false) (fun _ => rfl) rfl (by kernel_rfl) rfl ?_
 refine w_nil (xn_then (w_condF rfl (w_skip (xn_then (w_seq ?_)))))
 refine w_any 8 [.inl (.int .i64 ((4 : Nat) : Int)), .inl (.string s), .inl (.int .i64 ((k : Nat) : Int)), .inl (.int .i64 ((e : Nat) : Int)), .inl (.string (s.extract k e)), .inl (.agg #[.int .i64 0, .bool false, .int .u64 0, .int .u64 0, .int .u64 0, .int .u64 0, .int .i64 0, .bool false, .string ⟨#[]⟩, .int .i64 0]), .inl (.int .i64 ((k : Nat) : Int)), .inl (.agg #[.int .i64 ((4 : Nat) : Int), .string (s.extract k e), .int .i64 0, .bool false, .int .u64 0, .int .u64 0, .int .u64 0, .int .u64 0, .int .i64 0, .bool false, .string ⟨#[]⟩, .int .i64 0, .int .i64 ((k : Nat) : Int)])] [] (by kernel_rfl) (by kernel_rfl) (by kernel_rfl) (by kernel_rfl) rfl (by kernel_rfl) (by kernel_rfl) late_nil ?_ ?_ ?_
 ·exact Ds.none rfl
 ·refine ea_cons ?_ (ea_cons ?_ (ea_cons ?_ (ea_cons ?_ (ea_cons ?_ (ea_cons ?_ (ea_cons ?_ (ea_cons ?_ (ea_nil))))))))
  ·exact og_eq _ rfl (fun f wf hq hd K hK => go_run rfl (wo_mv (.tmp 6) (.int .i64 ((4 : Nat) : Int)) (fun _ => rfl) rfl (hK _ (Mw.refl _))))
  ·exact og_eq _ rfl (fun f wf hq hd K hK => go_run rfl (wo_mv (.tmp 0) (.string s) (fun _ => rfl) rfl (hK _ (Mw.refl _))))
  ·exact og_eq _ rfl (fun f wf hq hd K hK => go_run rfl (wo_mv (.tmp 1) (.int .i64 ((k : Nat) : Int)) (fun _ => rfl) rfl (hK _ (Mw.refl _))))
  ·exact og_eq _ rfl (fun f wf hq hd K hK => go_run rfl (wo_mv (.tmp 7) (.int .i64 ((e : Nat) : Int)) (fun _ => rfl) rfl (hK _ (Mw.refl _))))
  ·exact og_eq _ rfl (fun f wf hq hd K hK => go_run rfl (wo_val (.string (s.extract k e)) (mid_run _ _ _ _ s (k) (e) (by exact (hd 1 rfl)) (by exact (hd 2 rfl)) (by exact (hd 3 rfl)) (by omega) (by omega) _ _ _ _ _ _) (hK _ (Mw.refl _))))
  ·exact og_eq _ rfl (fun f wf hq hd K hK => have Q2 := Q2.mo hq; go_run rfl (wo_load 35 (.tmp 8) (pt k2 0) (.agg #[.int .i64 0, .bool false, .int .u64 0, .int .u64 0, .int .u64 0, .int .u64 0, .int .i64 0, .bool false, .string ⟨#[]⟩, .int .i64 0]) rfl rfl (run_row Q2 35 0 10 _ rfl Tryd.underlying35 rfl sz35) (hK _ (Mw.refl _))))
  ·exact og_eq _ rfl (fun f wf hq hd K hK => go_run rfl (wo_mv (.tmp 1) (.int .i64 ((k : Nat) : Int)) (fun _ => rfl) rfl (hK _ (Mw.refl _))))
  ·exact og_eq _ rfl (fun f wf hq hd K hK => go_run rfl (wo_build 37 [(0, (.tmp 37)), (1, (.tmp 41)), (2, (.tmp 42)), (3, (.tmp 43))] [(0, .int .i64 ((4 : Nat) : Int)), (1, .string (s.extract k e)), (2, .agg #[.int .i64 0, .bool false, .int .u64 0, .int .u64 0, .int .u64 0, .int .u64 0, .int .i64 0, .bool false, .string ⟨#[]⟩, .int .i64 0]), (3, .int .i64 ((k : Nat) : Int))] (.agg #[.int .i64 ((4 : Nat) : Int), .string (s.extract k e), .int .i64 0, .bool false, .int .u64 0, .int .u64 0, .int .u64 0, .int .u64 0, .int .i64 0, .bool false, .string ⟨#[]⟩, .int .i64 0, .int .i64 ((k : Nat) : Int)]) rfl (lp4 (hd 0 rfl) (hd 4 rfl) (hd 5 rfl) (hd 6 rfl)) (by kernel_rfl) (hK _ (Mw.refl _))))
 intro kf6 w6 hq hR hne
 replace Q1 := Q1.mo hq
 replace Q2 := Q2.mo hq
 replace M := M.trans hq
 clear hq hR hne
 refine wl_st 37 (.tmp 4) (.tmp 44) k1 0 #[.int .i64 ((4 : Nat) : Int), .string (s.extract k e), .int .i64 0, .bool false, .int .u64 0, .int .u64 0, .int .u64 0, .int .u64 0, .int .i64 0, .bool false, .string ⟨#[]⟩, .int .i64 0, .int .i64 ((k : Nat) : Int)] _ [.int .i64 ((4 : Nat) : Int), .string (s.extract k e), .int .i64 0, .bool false, .int .u64 0, .int .u64 0, .int .u64 0, .int .u64 0, .int .i64 0, .bool false, .string ⟨#[]⟩, .int .i64 0, .int .i64 ((k : Nat) : Int)] Q1 rfl rfl rfl rfl rfl sz37 rfl rfl rfl ?_
 intro w7 hS Qn
 replace Q1 := Qn
 clear Qn
 replace Q2 := hS.other _ _ ne_k1_k2.symm Q2
 replace M := hS.mo _ N_k1 M
 clear hS
 refine wl_m (.const (.int .i64 (0))) (.int .i64 (0)) ?_
 refine w_nil (xn_then (w_ret ?_))
 exact w_ret2 _ _ (.agg #[.int .i64 ((4 : Nat) : Int), .string (s.extract k e), .int .i64 0, .bool false, .int .u64 0, .int .u64 0, .int .u64 0, .int .u64 0, .int .i64 0, .bool false, .string ⟨#[]⟩, .int .i64 0, .int .i64 ((k : Nat) : Int)]) (.int .i64 (0)) rfl ⟨k1, rfl, (run_row Q1 37 0 13 _ rfl Tryd.underlying37 rfl sz37)⟩ rfl ⟨rfl, M⟩
theorem next_4f (s : ByteArray) (k e : Nat) (w : World) (hs : s.size ≤ 140737488355328) (hk : k < s.size) (hr : rch s k = (4, e)) (hm : ∀ w, Calls Tryd.prog 28 #[.int .i64 ((4 : Nat) : Int), .string (s.extract k e)] w fun e' w' => e' = .returned (.tuple #[.agg #[.int .i64 0, .bool false, .int .u64 0, .int .u64 0, .int .u64 0, .int .u64 0, .int .i64 0, .bool false, .string ⟨#[]⟩, .int .i64 0], .bool false]) ∧ Mw w w') : Calls Tryd.prog 12 #[.string s, .int .i64 ((k : Nat) : Int)] w fun e' w' => e' = .returned (.tuple #[.agg #[.int .i64 0, .string ⟨#[]⟩, .int .i64 0, .bool false, .int .u64 0, .int .u64 0, .int .u64 0, .int .u64 0, .int .i64 0, .bool false, .string ⟨#[]⟩, .int .i64 0, .int .i64 0], .int .i64 70]) ∧ Mw w w' := by
 have hrg := rch_rg hk
 rw [hr] at hrg
 simp only at hrg
 refine w_enter 45 Tryd.func12 Tryd.ntmps12 rfl rfl ?_
 have M : Mw w w := Mw.refl _
 refine w_seq (w_reg ?_)
 refine wl_alloc 37 #[.int .i64 0, .string ⟨#[]⟩, .int .i64 0, .bool false, .int .u64 0, .int .u64 0, .int .u64 0, .int .u64 0, .int .i64 0, .bool false, .string ⟨#[]⟩, .int .i64 0, .int .i64 0] rfl (fun _ => by kernel_rfl) rfl ?_
 intro k1 w1 hk hz hq Q1
 have N_k1 : w.heap.size ≤ k1 := by have := M.size; omega
 replace M := M.trans hq
 clear hk hz hq
 refine wl_m (.const (.int .i64 (0))) (.int .i64 (0)) ?_
 refine w_nil (xn_then (w_seq (w_seq (w_reg ?_))))
 refine wl_m (.tmp 1) (.int .i64 ((k : Nat) : Int)) ?_
 refine wl_b .lss 3 (.tmp 10) (.const (.int .i64 (0))) (.int .i64 ((k : Nat) : Int)) (.int .i64 (0)) (.bool false) (lt3_run (r := false) (decide_eq_false (by omega)) _ _ _) ?_
 refine wl_m (.tmp 11) (.bool false) ?_
 refine wl_m (.tmp 1) (.int .i64 ((k : Nat) : Int)) ?_
 refine wl_m (.tmp 0) (.string s) ?_
 refine wl_val (.int .i64 ((s.size : Nat) : Int)) (len_s _ _ s (by exact rfl) _ _ _ _ _ _) rfl ?_
 refine wl_b .geq 3 (.tmp 13) (.tmp 15) (.int .i64 ((k : Nat) : Int)) (.int .i64 ((s.size : Nat) : Int)) (.bool false) (geN (decide_eq_false (by omega)) _ _ _) ?_
 refine wl_pick (.tmp 12) (.const (.bool true)) (.tmp 16) false (.bool false) (fun _ => rfl) rfl rfl rfl ?_
 refine w_nil (xn_then (w_condF rfl (w_skip (xn_then (w_seq (w_reg ?_))))))
 refine wl_m (.tmp 0) (.string s) ?_
 refine wl_m (.tmp 1) (.int .i64 ((k : Nat) : Int)) ?_
 refine wl_call 27 [(.tmp 20), (.tmp 21)] _ [.string s, .int .i64 ((k : Nat) : Int)] (.tuple #[.int .i64 ((4 : Nat) : Int), .int .i64 ((e : Nat) : Int)]) rfl rfl (fun _ _ => by kernel_rfl) (reach_c hr _ (by unfold maxLen; omega) hk) rfl ?_
 intro w2 hq
 replace Q1 := Q1.mo hq
 replace M := M.trans hq
 clear hq
 refine wl_m (.tmp 22) (.tuple #[.int .i64 ((4 : Nat) : Int), .int .i64 ((e : Nat) : Int)]) ?_
 refine wl_un (fun v => Instr.extract v 0) (.tmp 19) (.tuple #[.int .i64 ((4 : Nat) : Int), .int .i64 ((e : Nat) : Int)]) (.int .i64 ((4 : Nat) : Int)) (fun _ => rfl) rfl (by kernel_rfl) rfl ?_
 refine wl_un (fun v => Instr.extract v 1) (.tmp 19) (.tuple #[.int .i64 ((4 : Nat) : Int), .int .i64 ((e : Nat) : Int)]) (.int .i64 ((e : Nat) : Int)) (fun _ => rfl) rfl (by kernel_rfl) rfl ?_
 refine wl_m (.tmp 23) (.int .i64 ((4 : Nat) : Int)) ?_
 refine wl_m (.tmp 24) (.int .i64 ((e : Nat) : Int)) ?_
 refine w_nil (xn_then (w_seq (w_reg ?_)))
 refine wl_m (.tmp 6) (.int .i64 ((4 : Nat) : Int)) ?_
 refine wl_m (.tmp 0) (.string s) ?_
 refine wl_m (.tmp 1) (.int .i64 ((k : Nat) : Int)) ?_
 refine wl_m (.tmp 7) (.int .i64 ((e : Nat) : Int)) ?_
 refine wl_val (.string (s.extract k e)) (mid_run _ _ _ _ s (k) (e) (by exact rfl) (by exact rfl) (by exact rfl) (by omega) (by omega) _ _ _ _ _ _) rfl ?_
 refine wl_call 28 [(.tmp 26), (.tmp 30)] _ [.int .i64 ((4 : Nat) : Int), .string (s.extract k e)] (.tuple #[.agg #[.int .i64 0, .bool false, .int .u64 0, .int .u64 0, .int .u64 0, .int .u64 0, .int .i64 0, .bool false, .string ⟨#[]⟩, .int .i64 0], .bool false]) rfl rfl (fun _ _ => by kernel_rfl) (hm _) rfl ?_
 intro w3 hq
 replace Q1 := Q1.mo hq
 replace M := M.trans hq
 clear hq
 refine wl_m (.tmp 31) (.tuple #[.agg #[.int .i64 0, .bool false, .int .u64 0, .int .u64 0, .int .u64 0, .int .u64 0, .int .i64 0, .bool false, .string ⟨#[]⟩, .int .i64 0], .bool false]) ?_
 refine wl_un (fun v => Instr.extract v 0) (.tmp 25) (.tuple #[.agg #[.int .i64 0, .bool false, .int .u64 0, .int .u64 0, .int .u64 0, .int .u64 0, .int .i64 0, .bool false, .string ⟨#[]⟩, .int .i64 0], .bool false]) (.agg #[.int .i64 0, .bool false, .int .u64 0, .int .u64 0, .int .u64 0, .int .u64 0, .int .i64 0, .bool false, .string ⟨#[]⟩, .int .i64 0]) (fun _ => rfl) rfl (by kernel_rfl) rfl ?_
 refine wl_un (fun v => Instr.extract v 1) (.tmp 25) (.tuple #[.agg #[.int .i64 0, .bool false, .int .u64 0, .int .u64 0, .int .u64 0, .int .u64 0, .int .i64 0, .bool false, .string ⟨#[]⟩, .int .i64 0], .bool false]) (.bool false) (fun _ => rfl) rfl (by kernel_rfl) rfl ?_
 refine wl_alloc 35 #[.int .i64 0, .bool false, .int .u64 0, .int .u64 0, .int .u64 0, .int .u64 0, .int .i64 0, .bool false, .string ⟨#[]⟩, .int .i64 0] rfl (fun _ => by kernel_rfl) rfl ?_
 intro k2 w4 hk hz hq Q2
 have ne_k1_k2 : k1 ≠ k2 := by have := Q1.lt; omega
 have N_k2 : w.heap.size ≤ k2 := by have := M.size; omega
 replace Q1 := Q1.mo hq
 replace M := M.trans hq
 clear hk hz hq
 refine wl_st 35 (.tmp 8) (.tmp 32) k2 0 #[.int .i64 0, .bool false, .int .u64 0, .int .u64 0, .int .u64 0, .int .u64 0, .int .i64 0, .bool false, .string ⟨#[]⟩, .int .i64 0] _ [.int .i64 0, .bool false, .int .u64 0, .int .u64 0, .int .u64 0, .int .u64 0, .int .i64 0, .bool false, .string ⟨#[]⟩, .int .i64 0] Q2 rfl rfl rfl rfl rfl sz35 rfl rfl rfl ?_
 intro w5 hS Qn
 replace Q2 := Qn
 clear Qn
 replace Q1 := hS.other _ _ ne_k1_k2 Q1
 replace M := hS.mo _ N_k2 M
 clear hS
 refine wl_m (.tmp 33) (.bool false) ?_
 refine w_nil (xn_then (w_seq (w_seq (w_reg ?_))))
 refine wl_m (.tmp 9) (.bool false) ?_
 refine wl_un (fun v => Op.unary .not v) (.tmp 34) (.bool false) (.bool true) (fun _ => rfl) rfl (by kernel_rfl) rfl ?_
 refine w_nil (xn_then (w_condT rfl (w_seq (w_reg ?_))))
 refine wl_build 37 [] [] (.agg #[.int .i64 0, .string ⟨#[]⟩, .int .i64 0, .bool false, .int .u64 0, .int .u64 0, .int .u64 0, .int .u64 0, .int .i64 0, .bool false, .string ⟨#[]⟩, .int .i64 0, .int .i64 0]) rfl rfl (by kernel_rfl) rfl ?_
 refine wl_st 37 (.tmp 4) (.tmp 36) k1 0 #[.int .i64 0, .string ⟨#[]⟩, .int .i64 0, .bool false, .int .u64 0, .int .u64 0, .int .u64 0, .int .u64 0, .int .i64 0, .bool false, .string ⟨#[]⟩, .int .i64 0, .int .i64 0] _ [.int .i64 0, .string ⟨#[]⟩, .int .i64 0, .bool false, .int .u64 0, .int .u64 0, .int .u64 0, .int .u64 0, .int .i64 0, .bool false, .string ⟨#[]⟩, .int .i64 0, .int .i64 0] Q1 rfl rfl rfl rfl rfl sz37 rfl rfl rfl ?_
 intro w6 hS Qn
 replace Q1 := Qn
 clear Qn
 replace Q2 := hS.other _ _ ne_k1_k2.symm Q2
 replace M := hS.mo _ N_k1 M
 clear hS
 refine wl_m (.const (.int .i64 (70))) (.int .i64 (70)) ?_
 refine w_nil (xn_then (w_ret (xr_then ?_)))
 exact w_ret2 _ _ (.agg #[.int .i64 0, .string ⟨#[]⟩, .int .i64 0, .bool false, .int .u64 0, .int .u64 0, .int .u64 0, .int .u64 0, .int .i64 0, .bool false, .string ⟨#[]⟩, .int .i64 0, .int .i64 0]) (.int .i64 (70)) rfl ⟨k1, rfl, (run_row Q1 37 0 13 _ rfl Tryd.underlying37 rfl sz37)⟩ rfl ⟨rfl, M⟩
end Go.Proofs.YthgknegocfhdbaaDoor.V
/-
 Words put behind a slice of one's own.
-/
namespace Go.Proofs.YthgknegocfhdbaaDoor
open Go.RowKit
theorem inf37 : ∃ i, Tryd.prog.info? 37 = some i ∧ i.zero = some (.agg #[.int .i64 0, .string ⟨#[]⟩, .int .i64 0, .bool false, .int .u64 0, .int .u64 0, .int .u64 0, .int .u64 0, .int .i64 0, .bool false, .string ⟨#[]⟩, .int .i64 0, .int .i64 0]) ∧ i.size = 13 ∧ i.bytes = 120 := by
 have h : (Tryd.prog.info? 37).map (fun i => (i.zero, i.size, i.bytes)) = some (some (.agg #[.int .i64 0, .string ⟨#[]⟩, .int .i64 0, .bool false, .int .u64 0, .int .u64 0, .int .u64 0, .int .u64 0, .int .i64 0, .bool false, .string ⟨#[]⟩, .int .i64 0, .int .i64 0]), 13, 120) := by kernel_rfl
 cases hi : Tryd.prog.info? 37 with
 | none => rw [hi] at h; cases h
 | some i =>
  rw [hi] at h
  simp at h
  exact ⟨i, rfl, h.1, h.2.1, h.2.2⟩
theorem app37 (w : World) (ty : TypeId) (N : Nat) (v : Value) (n : Nat) (xs : List Value) (hown : w.ownsRow N 37 13 v n xs) (k m c : Nat) (news : List Value) (hl : news.length = m * 13) (hA : At w k news) (h1 : ∀ u ∈ news, u.oneCell' = true) (hm : 0 < m) (hn : n + m ≤ 700000000000) (hN : N ≤ w.heap.size) :
  ∃ v' w', (Builtin.append_ #[22, 22] ty #[v, .slice (some ⟨k, 0, none⟩) m c]).run Tryd.prog w = .ok v' w' ∧ w'.ownsRow N 37 13 v' (n + m) (xs ++ news) ∧ AppW v w w' ∧ (v'.ownBlock = v.ownBlock ∨ v'.ownBlock = some w.heap.size) := by
 obtain ⟨i, hi, hz, hs, hby⟩ := inf37
 have hnews : ∀ j u, news[j]? = some u → w.cell? ((⟨k, 0, none⟩ : Addr).add j) = some u := fun j u hu => by
  rw [Addr.add_mid]; have := hA.1 j u hu; simpa using this
 obtain ⟨v', w', hr, h2, h3, _, h5⟩ := run_append_own_at (P := Tryd.prog) w N 22 ty 37 i _ 13 120 Tryd.underlying22 hi hz hs hby rfl (by decide) v n xs hown ⟨k, 0, none⟩ m c news hl hnews h1 (by unfold maxLen; omega) (by omega) hN
 refine ⟨v', w', hr, h2, ⟨h3.os, h3.tape, h3.output, h3.size, fun j hj hne => h3.block j hj (fun e => hne e.symm), ?_⟩, h5⟩
 rcases hown.2 with ⟨rfl, rfl⟩ | ⟨g, cap, cur, rfl, hbg, hg, hnc, hcm, hcs, htake⟩
 ·have hr2 := run_append_nil (P := Tryd.prog) w 22 ty 37 i _ Tryd.underlying22 hi hz ⟨k, 0, none⟩ m c news (by rw [hs]; exact hl) hnews hm (by omega) (by first | omega | (rw [hby]; omega) | (rw [hby]; exact growslice_fits (n := 0) (by omega) (by omega)))
  rw [hr2] at hr
  cases hr
  exact ((Mo.refl w).drew.alloc _ _).2
 ·by_cases hroom : n + m ≤ cap
  ·have hr2 := run_append_room (P := Tryd.prog) w 22 ty 37 i Tryd.underlying22 hi g n cap cur hg ⟨k, 0, none⟩ m c news (by rw [hs]; exact hl) hnews h1 hroom (by rw [hs]; first | omega | (rw [hl]; omega) | (simp [hl]; omega))
   rw [hr2] at hr
   cases hr
   intro a
   by_cases e : a.block = g
   ·have h9 := setRow_heap w g cur (cur.toList.take (n * i.size) ++ news ++ cur.toList.drop (n * i.size + news.length)).toArray 37 (0, 0) hg
    simp only [World.frozen?, e, h9, hg]
   ·exact World.frozen?_of_block (setRow_other w g a.block _ e)
  ·have hr2 := run_append_grow (P := Tryd.prog) w 22 ty 37 i _ Tryd.underlying22 hi hz ⟨g, 0, none⟩ n cap xs (by rw [hs]; exact hown.1) (hown.cells (g := g) rfl) ⟨k, 0, none⟩ m c news (by rw [hs]; exact hl) hnews (by omega) (by omega) (by rw [hby]; exact growslice_fits (by omega) (by omega))
   rw [hr2] at hr
   cases hr
   exact ((Mo.refl w).drew.alloc _ _).2
namespace V
theorem own_mw37 {w w' : World} {N : Nat} {v : Value} {n : Nat} {xs : List Value} (h : w.ownsRow N 37 13 v n xs) (m : Mw w w') : w'.ownsRow N 37 13 v n xs :=
 h.kept (row := none) ⟨m.os, m.tape, m.output, m.size, fun k hk _ => m.block k hk⟩ (by cases e : v.ownBlock <;> simp)
section
variable {o : Oper} {n : Nat} {l : List (Nat × Value)} {w : World} {ops : Array Oper} {rest : List Oper} {Q : Exit → Act → World → Prop}
theorem wl_app37 (s x : Operand) (N : Nat) (v : Value) (q : Nat) (xs : List Value) (k m c : Nat) (news : List Value) (ho : o.op = .call { callee := .builtin .append, args := #[s, x], argTypes := #[22, 22] }) (hs : evl n l s = v) (hx : evl n l x = .slice (some ⟨k, 0, none⟩) m c)
  (hown : w.ownsRow N 37 13 v q xs) (hl : news.length = m * 13) (hA : At w k news) (h1 : ∀ u ∈ news, u.oneCell' = true) (hm : 0 < m) (hn : q + m ≤ 700000000000) (hN : N ≤ w.heap.size) (hg : wnt n l ops o = true)
  (hk : ∀ v' w', w'.ownsRow N 37 13 v' (q + m) (xs ++ news) → AppW v w w' → (v'.ownBlock = v.ownBlock ∨ v'.ownBlock = some w.heap.size) → WL Tryd.prog ops Q rest n (ext l o.dst v') w') : WL Tryd.prog ops Q (o :: rest) n l w := by
 obtain ⟨v', w', hr, h2, h3, h4⟩ := app37 w o.type N v q xs hown k m c news hl hA h1 hm hn hN
 refine ⟨l_step hg (o_val v' (w' := w') ?_ (hk v' w' h2 h3 h4).out)⟩
 unfold execOp
 simp only [ho, resolve, invoke, builtin, Sem.run_bind, Sem.run_pure, Result.andThen_ok, List.map_toArray, List.map_cons, List.map_nil, hs, hx, hr]
end
end V
end Go.Proofs.YthgknegocfhdbaaDoor
/-
 lex.Scan, out of what Next answers place by place.
-/
namespace Go.Proofs.YthgknegocfhdbaaDoor.V
open Go.RowKit
theorem blk_rg (s : ByteArray) : ∀ (d k : Nat), s.size - k ≤ d → k ≤ s.size → k ≤ blk s k ∧ blk s k ≤ s.size := by
 intro d
 induction d with
 | zero => intro k hd hk; rw [blk_end (by omega)]; omega
 | succ d ih =>
  intro k hd hk
  by_cases h : k < s.size
  ·cases h2 : isb (bt s k) with
   | true => rw [blk_b h h2]; have := ih (k + 1) (by omega) (by omega); omega
   | false =>
    cases h3 : ((bt s k == 47) && (bt s (k + 1) == 47)) with
    | true =>
     rw [blk_c h h2 h3]
     have h4 := lnx_ge' s (k + 1)
     have h5 := lnx_le' (s := s) (k := k + 1) (by omega)
     have := ih (lnx s (k + 1)) (by omega) h5
     omega
    | false => rw [blk_n h2 h3]; omega
  ·rw [blk_end h]; omega
structure St2 (k : Nat) (w w' : World) : Prop extends St k w w' where
 os : w'.os = w.os
 tape : w'.tape = w.tape
 output : w'.output = w.output
 block : ∀ j, j ≠ k → w'.heap[j]? = w.heap[j]?
theorem St2.mk2 (w : World) (k o : Nat) (l : List Value) : St2 k w (w.setCells k o l) :=
 { St.mk' w k o l with
  os := (heap_setCells k (k + 1) (by omega) l o w).2.1
  tape := (heap_setCells k (k + 1) (by omega) l o w).2.2.1
  output := (heap_setCells k (k + 1) (by omega) l o w).2.2.2
  block := fun j hj => (heap_setCells k j hj l o w).1 }
theorem own_st {w w' : World} {N k : Nat} {v : Value} {n : Nat} {xs : List Value} (m : St2 k w w') (h : w.ownsRow N 37 13 v n xs) (hne : v.ownBlock ≠ some k) : w'.ownsRow N 37 13 v n xs :=
 h.kept (row := some k) ⟨m.os, m.tape, m.output, Nat.le_of_eq m.size.symm, fun j _ hj => m.block j (fun e => hj (by rw [e]))⟩ (Or.inr hne)
theorem own_mo {w w' : World} {N : Nat} {v : Value} {n : Nat} {xs : List Value} (h : w.ownsRow N 37 13 v n xs) (m : Mw w w') : w'.ownsRow N 37 13 v n xs := own_mw37 h m
section
variable {P : Program} {o : Oper} {n : Nat} {l : List (Nat × Value)} {w : World} {ops : Array Oper} {rest : List Oper} {Q : Exit → Act → World → Prop}
theorem wl_stx (ty : TypeId) (x y : Operand) (k off : Nat) (us : Array Value) (vs vs' : List Value) (hA : At w k vs) (ho : o.op = .store ty x y) (hd : o.dst = none) (hx : evl n l x = pt k off) (hy : evl n l y = .agg us)
  (hl : Nat.ble (off + us.size) vs.length = true) (hi : (P.info? ty).map (·.size) = some us.size) (h1 : us.toList.all (·.oneCell') = true) (hvs : vs' = vs.take off ++ us.toList ++ vs.drop (off + us.toList.length)) (hg : wnt n l ops o = true)
  (hk : ∀ w', St2 k w w' → At w' k vs' → WL P ops Q rest n l w') : WL P ops Q (o :: rest) n l w :=
 ⟨l_step hg (o_store ty x y _ _ ho hd hx hy (run_put hA ty off us (Nat.le_of_ble_eq_true hl) hi (by rw [← Array.all_toList]; exact h1)) (hk _ (St2.mk2 w k off us.toList) (hA.set off us.toList (by have := Nat.le_of_ble_eq_true hl; simpa using this) vs' hvs)).out)⟩
theorem w_ret3 {fn : Func} {R : Ending → World → Prop} (x y z : Tmp) (v u t : Value) (hf : fn.results = #[.tmp x, .tmp y, .tmp z]) (h : resv n l P w v (.tmp x)) (g : resv n l P w u (.tmp y)) (k : resv n l P w t (.tmp z)) (hR : R (.returned (.tuple #[v, u, t])) w) : WX (bodyPost P fn R) .ret n l w := by
 refine ⟨bodyPost_ret (v := .tuple #[v, u, t]) ?_ rfl hR⟩
 have h1 := resv_tmp h
 have g1 := resv_tmp g
 have k1 := resv_tmp k
 simp [results, hf, h1, g1, k1]
end
inductive Sc (s : ByteArray) : Nat → List (List Value) → Nat → Int → Prop
 | done {k : Nat} (h : ¬ k < s.size) : Sc s k [] 0 0
 | err {k : Nat} (h : k < s.size) (hn : ∀ w, Calls Tryd.prog 12 #[.string s, .int .i64 ((k : Nat) : Int)] w fun e' w' => e' = .returned (.tuple #[.agg #[.int .i64 0, .string ⟨#[]⟩, .int .i64 0, .bool false, .int .u64 0, .int .u64 0, .int .u64 0, .int .u64 0, .int .i64 0, .bool false, .string ⟨#[]⟩, .int .i64 0, .int .i64 0], .int .i64 70]) ∧ Mw w w') : Sc s k [] k 70
 | tok {k e K : Nat} {v0 v1 v2 v3 v4 v5 v6 v7 v8 v9 : Value} {L : List (List Value)} {p : Nat} {E : Int} (h : k < s.size) (hke : k < e) (hes : e ≤ s.size) (hoc : ([.int .i64 ((K : Nat) : Int), .string (s.extract k e), v0, v1, v2, v3, v4, v5, v6, v7, v8, v9, .int .i64 ((k : Nat) : Int)] : List Value).all (·.oneCell') = true)
   (hn : ∀ w, Calls Tryd.prog 12 #[.string s, .int .i64 ((k : Nat) : Int)] w fun e' w' => e' = .returned (.tuple #[.agg #[.int .i64 ((K : Nat) : Int), .string (s.extract k e), v0, v1, v2, v3, v4, v5, v6, v7, v8, v9, .int .i64 ((k : Nat) : Int)], .int .i64 0]) ∧ Mw w w') (hr : Sc s (blk s e) L p E) : Sc s k ([.int .i64 ((K : Nat) : Int), .string (s.extract k e), v0, v1, v2, v3, v4, v5, v6, v7, v8, v9, .int .i64 ((k : Nat) : Int)] :: L) p E
theorem AppW.mw {v : Value} {a b c : World} (h : AppW v b c) (hM : Mw a b) (hn : ∀ k, v.ownBlock = some k → a.heap.size ≤ k) : Mw a c :=
 ⟨h.os.trans hM.os, h.tape.trans hM.tape, h.output.trans hM.output, Nat.le_trans hM.size h.size, fun k hk => (h.block k (Nat.lt_of_lt_of_le hk hM.size) (fun e => by have := hn k e; omega)).trans (hM.block k hk)⟩
theorem bs22 (c0 c1 c2 c3 c4 c5 c6 c7 c8 c9 c10 c11 c12 : Value) (w : World) : (Instr.buildSlice 22 1 #[(0, .agg #[c0, c1, c2, c3, c4, c5, c6, c7, c8, c9, c10, c11, c12])]).run Tryd.prog w = .ok (.slice (some ⟨w.heap.size, 0, none⟩) 1 1) (w.alloc (.cells #[c0, c1, c2, c3, c4, c5, c6, c7, c8, c9, c10, c11, c12] 37)) := by kernel_rfl
section
variable {o : Oper} {n : Nat} {l : List (Nat × Value)} {w : World} {ops : Array Oper} {rest : List Oper} {Q : Exit → Act → World → Prop}
theorem wl_bs22 (x : Operand) (c0 c1 c2 c3 c4 c5 c6 c7 c8 c9 c10 c11 c12 : Value) (ho : o.op = .buildSlice 22 1 #[(0, x)]) (hx : evl n l x = .agg #[c0, c1, c2, c3, c4, c5, c6, c7, c8, c9, c10, c11, c12]) (hg : wnt n l ops o = true)
  (hk : ∀ k w', w.heap.size = k → w'.heap.size = k + 1 → Mw w w' → At w' k [c0, c1, c2, c3, c4, c5, c6, c7, c8, c9, c10, c11, c12] → WL Tryd.prog ops Q rest n (ext l o.dst (.slice (some ⟨k, 0, none⟩) 1 1)) w') : WL Tryd.prog ops Q (o :: rest) n l w :=
 ⟨l_step hg (o_val (.slice (some ⟨w.heap.size, 0, none⟩) 1 1) (w' := w.alloc (.cells #[c0, c1, c2, c3, c4, c5, c6, c7, c8, c9, c10, c11, c12] 37)) (by
  have h := bs22 c0 c1 c2 c3 c4 c5 c6 c7 c8 c9 c10 c11 c12 w
  simp [execOp, ho, hx, h]) (hk _ _ rfl (by simp) ((Mw.refl _).alloc _ _) (At.new w #[c0, c1, c2, c3, c4, c5, c6, c7, c8, c9, c10, c11, c12] 37)).out)⟩
end
theorem len_e {t : ByteArray} {m : Nat} (ht : t.size = m) (ρ : Operand → Value) (x : Operand) (hx : ρ x = .string t) (dst : Option Tmp) (type : TypeId) (pos : String) (after : Array Edge) (guard : Option (Nat × Bool)) (w : World) : (execOp ρ { dst, op := .call { callee := .builtin .len, args := #[x], argTypes := #[9] }, type, pos, after, guard }).run Tryd.prog w = .ok (.value (.int .i64 (m : Int))) w := by
 subst ht; exact len_z _ _ _ hx _ _ _ _ _ _
theorem scan_n (s : ByteArray) (L : List (List Value)) (p : Nat) (E : Int) (w : World) (hS0 : Sc s (blk s 0) L p E) (hlong : decide (16384 < s.size) = false) : Calls Tryd.prog 8 #[.string s] w fun e' w' => ∃ v, e' = .returned (.tuple #[v, .int .i64 ((p : Nat) : Int), .int .i64 E]) ∧ (E = 0 → w'.ownsRow w.heap.size 37 13 v L.length L.flatten) ∧ (E ≠ 0 → v = .slice none 0 0) ∧ Mw w w' := by
 have hlp := of_decide_eq_false hlong
 refine w_enter 40 Tryd.func8 Tryd.ntmps8 rfl rfl ?_
 have M : Mw w w := Mw.refl _
 refine w_seq (w_reg ?_)
 refine wl_m (.const (.slice none 0 0)) (.slice none 0 0) ?_
 refine wl_m (.const (.int .i64 (0))) (.int .i64 (0)) ?_
 refine wl_m (.const (.int .i64 (0))) (.int .i64 (0)) ?_
 refine w_nil (xn_then (w_seq (w_seq (w_reg ?_))))
 refine wl_m (.tmp 0) (.string s) ?_
 refine wl_val (.int .i64 ((s.size : Nat) : Int)) (len_s _ _ s (by exact rfl) _ _ _ _ _ _) rfl ?_
 refine wl_b .gtr 3 (.tmp 10) (.const (.int .i64 (16384))) (.int .i64 ((s.size : Nat) : Int)) (.int .i64 (16384)) (.bool false) (gtN hlong _ _ _) ?_
 refine w_nil (xn_then (w_condF rfl (w_skip (xn_then (w_seq (w_reg ?_))))))
 refine wl_m (.const (.slice none 0 0)) (.slice none 0 0) ?_
 refine w_nil (xn_then (w_seq (w_seq (w_reg ?_))))
 refine wl_m (.tmp 0) (.string s) ?_
 refine wl_call 14 [(.tmp 12), (.const (.int .i64 (0)))] _ [.string s, .int .i64 (0)] (.int .i64 ((blk s 0 : Nat) : Int)) rfl rfl (fun _ _ => by kernel_rfl) (wk (blank_n s 0 _ (by unfold maxLen; omega) (by omega))) rfl ?_
 intro w1 hq
 replace M := M.trans hq
 clear hq
 refine wl_m (.tmp 13) (.int .i64 ((blk s 0 : Nat) : Int)) ?_
 refine w_nil (xn_then (w_block ?_))
 refine w_loop (fun m l w1 => ∃ (k : Nat) (D R : List (List Value)) (v : Value), m = s.size + 1 - k ∧ look l 0 = .string s ∧ look l 5 = v ∧ look l 6 = .int .i64 ((k : Nat) : Int) ∧ k ≤ s.size ∧ D.length ≤ k ∧ w1.ownsRow w.heap.size 37 13 v D.length D.flatten ∧ Sc s k R p E ∧ (E = 0 → L = D ++ R) ∧ Mw w w1) _ ⟨blk s 0, [], L, .slice none 0 0, rfl, rfl, rfl, rfl, (blk_rg s _ 0 (Nat.le_refl _) (by omega)).2, Nat.zero_le _, ⟨rfl, .inl ⟨rfl, rfl⟩⟩, hS0, fun _ => rfl, M⟩ ?_
 clear M
 rintro m l wl ⟨k, D, R, v, rfl, e0, e5, e6, hk, hDk, hown, hSc, hLD, M⟩
 cases hSc with
 | done h =>
  have hkd := decide_eq_false h
  refine w_seq (w_seq (w_reg ?_))
  refine wl_mv (.tmp 6) (.int .i64 ((k : Nat) : Int)) (fun _ => rfl) e6 rfl ?_
  refine wl_mv (.tmp 0) (.string s) (fun _ => rfl) e0 rfl ?_
  refine wl_val (.int .i64 ((s.size : Nat) : Int)) (len_s _ _ s (by exact rfl) _ _ _ _ _ _) rfl ?_
  refine wl_b .lss 3 (.tmp 14) (.tmp 16) (.int .i64 ((k : Nat) : Int)) (.int .i64 ((s.size : Nat) : Int)) (.bool false) (ltN hkd _ _ _) ?_
  refine w_nil (xn_then (w_condF rfl (w_exit (xx_then (xx_then (xx_blk (xn_then (w_seq (w_reg ?_)))))))))
  refine wl_mv (.tmp 5) (v) (fun _ => rfl) e5 rfl ?_
  refine wl_m (.tmp 39) (v) ?_
  refine wl_m (.const (.int .i64 (0))) (.int .i64 (0)) ?_
  refine wl_m (.const (.int .i64 (0))) (.int .i64 (0)) ?_
  refine w_nil (xn_then (w_ret ?_))
  exact w_ret3 _ _ _ (v) (.int .i64 (0)) (.int .i64 (0)) rfl rfl rfl rfl ⟨v, rfl, fun _ => by rw [hLD rfl, List.append_nil]; exact hown, fun h => absurd rfl h, M⟩
 | err h hn =>
  have hkd := decide_eq_true h
  refine w_seq (w_seq (w_reg ?_))
  refine wl_mv (.tmp 6) (.int .i64 ((p : Nat) : Int)) (fun _ => rfl) e6 rfl ?_
  refine wl_mv (.tmp 0) (.string s) (fun _ => rfl) e0 rfl ?_
  refine wl_val (.int .i64 ((s.size : Nat) : Int)) (len_s _ _ s (by exact rfl) _ _ _ _ _ _) rfl ?_
  refine wl_b .lss 3 (.tmp 14) (.tmp 16) (.int .i64 ((p : Nat) : Int)) (.int .i64 ((s.size : Nat) : Int)) (.bool true) (ltN hkd _ _ _) ?_
  refine w_nil (xn_then (w_condT rfl (w_skip (xn_then (w_block (w_seq (w_reg ?_)))))))
  refine wl_mv (.tmp 0) (.string s) (fun _ => rfl) e0 rfl ?_
  refine wl_mv (.tmp 6) (.int .i64 ((p : Nat) : Int)) (fun _ => rfl) e6 rfl ?_
  refine wl_call 12 [(.tmp 19), (.tmp 20)] _ [.string s, .int .i64 ((p : Nat) : Int)] (.tuple #[.agg #[.int .i64 0, .string ⟨#[]⟩, .int .i64 0, .bool false, .int .u64 0, .int .u64 0, .int .u64 0, .int .u64 0, .int .i64 0, .bool false, .string ⟨#[]⟩, .int .i64 0, .int .i64 0], .int .i64 (70)]) rfl rfl (fun _ _ => by kernel_rfl) (hn _) rfl ?_
  intro w11 hq
  replace hown := own_mo hown hq
  replace M := M.trans hq
  clear hq
  refine wl_m (.tmp 21) (.tuple #[.agg #[.int .i64 0, .string ⟨#[]⟩, .int .i64 0, .bool false, .int .u64 0, .int .u64 0, .int .u64 0, .int .u64 0, .int .i64 0, .bool false, .string ⟨#[]⟩, .int .i64 0, .int .i64 0], .int .i64 (70)]) ?_
  refine wl_un (fun v => Instr.extract v 0) (.tmp 18) (.tuple #[.agg #[.int .i64 0, .string ⟨#[]⟩, .int .i64 0, .bool false, .int .u64 0, .int .u64 0, .int .u64 0, .int .u64 0, .int .i64 0, .bool false, .string ⟨#[]⟩, .int .i64 0, .int .i64 0], .int .i64 (70)]) (.agg #[.int .i64 0, .string ⟨#[]⟩, .int .i64 0, .bool false, .int .u64 0, .int .u64 0, .int .u64 0, .int .u64 0, .int .i64 0, .bool false, .string ⟨#[]⟩, .int .i64 0, .int .i64 0]) (fun _ => rfl) rfl (by kernel_rfl) rfl ?_
  refine wl_un (fun v => Instr.extract v 1) (.tmp 18) (.tuple #[.agg #[.int .i64 0, .string ⟨#[]⟩, .int .i64 0, .bool false, .int .u64 0, .int .u64 0, .int .u64 0, .int .u64 0, .int .i64 0, .bool false, .string ⟨#[]⟩, .int .i64 0, .int .i64 0], .int .i64 (70)]) (.int .i64 (70)) (fun _ => rfl) rfl (by kernel_rfl) rfl ?_
  refine wl_alloc 37 #[.int .i64 0, .string ⟨#[]⟩, .int .i64 0, .bool false, .int .u64 0, .int .u64 0, .int .u64 0, .int .u64 0, .int .i64 0, .bool false, .string ⟨#[]⟩, .int .i64 0, .int .i64 0] rfl (fun _ => by kernel_rfl) rfl ?_
  intro k1 w12 hk hz hq Q1
  have on_k1 : v.ownBlock ≠ some k1 := fun e => by have := (hown.lt _ e).2; omega
  have N_k1 : w.heap.size ≤ k1 := by have := M.size; omega
  replace hown := own_mo hown hq
  replace M := M.trans hq
  clear hk hz hq
  refine wl_stx 37 (.tmp 7) (.tmp 22) k1 0 #[.int .i64 0, .string ⟨#[]⟩, .int .i64 0, .bool false, .int .u64 0, .int .u64 0, .int .u64 0, .int .u64 0, .int .i64 0, .bool false, .string ⟨#[]⟩, .int .i64 0, .int .i64 0] _ [.int .i64 0, .string ⟨#[]⟩, .int .i64 0, .bool false, .int .u64 0, .int .u64 0, .int .u64 0, .int .u64 0, .int .i64 0, .bool false, .string ⟨#[]⟩, .int .i64 0, .int .i64 0] Q1 rfl rfl rfl rfl rfl sz37 rfl rfl rfl ?_
  intro w13 hS Qn
  replace Q1 := Qn
  clear Qn
  replace hown := own_st hS hown on_k1
  replace M := hS.mo _ N_k1 M
  clear hS
  refine wl_m (.tmp 23) (.int .i64 (70)) ?_
  refine w_nil (xn_then (w_seq (w_seq (w_reg ?_))))
  refine wl_m (.tmp 8) (.int .i64 (70)) ?_
  refine wl_b .neq 23 (.tmp 24) (.const (.int .i64 (0))) (.int .i64 (70)) (.int .i64 (0)) (.bool true) (by kernel_rfl) ?_
  refine w_nil (xn_then (w_condT rfl (w_seq (w_reg ?_))))
  refine wl_mv (.tmp 6) (.int .i64 ((p : Nat) : Int)) (fun _ => rfl) e6 rfl ?_
  refine wl_m (.tmp 8) (.int .i64 (70)) ?_
  refine wl_m (.const (.slice none 0 0)) (.slice none 0 0) ?_
  refine wl_m (.tmp 26) (.int .i64 ((p : Nat) : Int)) ?_
  refine wl_m (.tmp 27) (.int .i64 (70)) ?_
  refine w_nil (xn_then (w_ret (xr_then (xr_blk (xr_then (xr_blk (xr_then ?_)))))))
  exact w_ret3 _ _ _ (.slice none 0 0) (.int .i64 ((p : Nat) : Int)) (.int .i64 (70)) rfl rfl rfl rfl ⟨_, rfl, (fun h => by cases h), fun _ => rfl, M⟩
 | @tok _ e K v0 v1 v2 v3 v4 v5 v6 v7 v8 v9 R9 _ _ h hke hes hoc hn hr =>
  have hkd := decide_eq_true h
  have hsz : (s.extract k e).size = e - k := by rw [ByteArray.size_extract, Nat.min_eq_left hes]
  refine w_seq (w_seq (w_reg ?_))
  refine wl_mv (.tmp 6) (.int .i64 ((k : Nat) : Int)) (fun _ => rfl) e6 rfl ?_
  refine wl_mv (.tmp 0) (.string s) (fun _ => rfl) e0 rfl ?_
  refine wl_val (.int .i64 ((s.size : Nat) : Int)) (len_s _ _ s (by exact rfl) _ _ _ _ _ _) rfl ?_
  refine wl_b .lss 3 (.tmp 14) (.tmp 16) (.int .i64 ((k : Nat) : Int)) (.int .i64 ((s.size : Nat) : Int)) (.bool true) (ltN hkd _ _ _) ?_
  refine w_nil (xn_then (w_condT rfl (w_skip (xn_then (w_block (w_seq (w_reg ?_)))))))
  refine wl_mv (.tmp 0) (.string s) (fun _ => rfl) e0 rfl ?_
  refine wl_mv (.tmp 6) (.int .i64 ((k : Nat) : Int)) (fun _ => rfl) e6 rfl ?_
  refine wl_call 12 [(.tmp 19), (.tmp 20)] _ [.string s, .int .i64 ((k : Nat) : Int)] (.tuple #[.agg #[.int .i64 ((K : Nat) : Int), .string (s.extract k e), v0, v1, v2, v3, v4, v5, v6, v7, v8, v9, .int .i64 ((k : Nat) : Int)], .int .i64 (0)]) rfl rfl (fun _ _ => by kernel_rfl) (hn _) rfl ?_
  intro w11 hq
  replace hown := own_mo hown hq
  replace M := M.trans hq
  clear hq
  refine wl_m (.tmp 21) (.tuple #[.agg #[.int .i64 ((K : Nat) : Int), .string (s.extract k e), v0, v1, v2, v3, v4, v5, v6, v7, v8, v9, .int .i64 ((k : Nat) : Int)], .int .i64 (0)]) ?_
  refine wl_un (fun v => Instr.extract v 0) (.tmp 18) (.tuple #[.agg #[.int .i64 ((K : Nat) : Int), .string (s.extract k e), v0, v1, v2, v3, v4, v5, v6, v7, v8, v9, .int .i64 ((k : Nat) : Int)], .int .i64 (0)]) (.agg #[.int .i64 ((K : Nat) : Int), .string (s.extract k e), v0, v1, v2, v3, v4, v5, v6, v7, v8, v9, .int .i64 ((k : Nat) : Int)]) (fun _ => rfl) rfl (by kernel_rfl) rfl ?_
  refine wl_un (fun v => Instr.extract v 1) (.tmp 18) (.tuple #[.agg #[.int .i64 ((K : Nat) : Int), .string (s.extract k e), v0, v1, v2, v3, v4, v5, v6, v7, v8, v9, .int .i64 ((k : Nat) : Int)], .int .i64 (0)]) (.int .i64 (0)) (fun _ => rfl) rfl (by kernel_rfl) rfl ?_
  refine wl_alloc 37 #[.int .i64 0, .string ⟨#[]⟩, .int .i64 0, .bool false, .int .u64 0, .int .u64 0, .int .u64 0, .int .u64 0, .int .i64 0, .bool false, .string ⟨#[]⟩, .int .i64 0, .int .i64 0] rfl (fun _ => by kernel_rfl) rfl ?_
  intro k1 w12 hk hz hq Q1
  have on_k1 : v.ownBlock ≠ some k1 := fun e => by have := (hown.lt _ e).2; omega
  have N_k1 : w.heap.size ≤ k1 := by have := M.size; omega
  replace hown := own_mo hown hq
  replace M := M.trans hq
  clear hk hz hq
  refine wl_stx 37 (.tmp 7) (.tmp 22) k1 0 #[.int .i64 ((K : Nat) : Int), .string (s.extract k e), v0, v1, v2, v3, v4, v5, v6, v7, v8, v9, .int .i64 ((k : Nat) : Int)] _ [.int .i64 ((K : Nat) : Int), .string (s.extract k e), v0, v1, v2, v3, v4, v5, v6, v7, v8, v9, .int .i64 ((k : Nat) : Int)] Q1 rfl rfl rfl rfl rfl sz37 hoc rfl rfl ?_
  intro w13 hS Qn
  replace Q1 := Qn
  clear Qn
  replace hown := own_st hS hown on_k1
  replace M := hS.mo _ N_k1 M
  clear hS
  refine wl_m (.tmp 23) (.int .i64 (0)) ?_
  refine w_nil (xn_then (w_seq (w_seq (w_reg ?_))))
  refine wl_m (.tmp 8) (.int .i64 (0)) ?_
  refine wl_b .neq 23 (.tmp 24) (.const (.int .i64 (0))) (.int .i64 (0)) (.int .i64 (0)) (.bool false) (by kernel_rfl) ?_
  refine w_nil (xn_then (w_condF rfl (w_skip (xn_then (w_seq (w_reg ?_))))))
  refine wl_mv (.tmp 5) (v) (fun _ => rfl) e5 rfl ?_
  refine wl_l 37 (.tmp 7) (pt k1 0) (.agg #[.int .i64 ((K : Nat) : Int), .string (s.extract k e), v0, v1, v2, v3, v4, v5, v6, v7, v8, v9, .int .i64 ((k : Nat) : Int)]) (run_row Q1 37 0 13 _ rfl Tryd.underlying37 rfl sz37) ?_
  refine wl_bs22 (.tmp 29) (.int .i64 ((K : Nat) : Int)) (.string (s.extract k e)) (v0) (v1) (v2) (v3) (v4) (v5) (v6) (v7) (v8) (v9) (.int .i64 ((k : Nat) : Int)) rfl rfl rfl ?_
  intro kn w14 hkn hzn hq QN
  replace hown := own_mo hown hq
  replace Q1 := Q1.mo hq
  replace M := M.trans hq
  clear hq
  refine wl_app37 (.tmp 28) (.tmp 30) w.heap.size v D.length D.flatten kn 1 1 [.int .i64 ((K : Nat) : Int), .string (s.extract k e), v0, v1, v2, v3, v4, v5, v6, v7, v8, v9, .int .i64 ((k : Nat) : Int)] rfl rfl rfl hown rfl QN (fun u hu => by have := List.all_eq_true.1 hoc u hu; exact this) (by decide) (by omega) (by have := M.size; omega) rfl ?_
  intro va9 w15 hO9 hA9 hb9
  replace Q1 : At w15 k1 [.int .i64 ((K : Nat) : Int), .string (s.extract k e), v0, v1, v2, v3, v4, v5, v6, v7, v8, v9, .int .i64 ((k : Nat) : Int)] := AppW.at hA9 Q1 on_k1
  replace M := AppW.mw hA9 M (fun j e => (hown.lt j e).1)
  replace hown := hO9
  refine wl_m (.tmp 31) (va9) ?_
  refine w_nil (xn_then (w_reg ?_))
  refine wl_mv (.tmp 0) (.string s) (fun _ => rfl) e0 rfl ?_
  refine wl_mv (.tmp 6) (.int .i64 ((k : Nat) : Int)) (fun _ => rfl) e6 rfl ?_
  refine wl_f 37 1 (.tmp 7) (pt k1 0) (pt k1 1) ?_
  refine wl_l 9 (.tmp 34) (pt k1 1) (.string (s.extract k e)) (run_one Q1 9 1 rfl Tryd.underlying9 rfl) ?_
  refine wl_val (.int .i64 ((e - k : Nat) : Int)) (len_e hsz _ _ (by exact rfl) _ _ _ _ _ _) rfl ?_
  refine wl_b .add 3 (.tmp 33) (.tmp 36) (.int .i64 ((k : Nat) : Int)) (.int .i64 ((e - k : Nat) : Int)) (.int .i64 ((e : Nat) : Int)) (addk (by omega) (by omega) _ _ _) ?_
  refine wl_call 14 [(.tmp 32), (.tmp 37)] _ [.string s, .int .i64 ((e : Nat) : Int)] (.int .i64 ((blk s e : Nat) : Int)) rfl rfl (fun _ _ => by kernel_rfl) (wk (blank_n s e _ (by unfold maxLen; omega) (by omega))) rfl ?_
  intro w16 hq
  replace hown := own_mo hown hq
  replace Q1 := Q1.mo hq
  replace M := M.trans hq
  clear hq
  refine wl_m (.tmp 38) (.int .i64 ((blk s e : Nat) : Int)) ?_
  refine w_nil (xn_blk ?_)
  exact xn_loop (s.size + 1 - blk s e) (by have := blk_rg s _ e (Nat.le_refl _) hes; omega) ⟨blk s e, D ++ [_], R9, va9, rfl, e0, rfl, rfl, (blk_rg s _ e (Nat.le_refl _) hes).2, by have := blk_rg s _ e (Nat.le_refl _) hes; rw [List.length_append]; simp only [List.length_singleton]; omega, by rw [List.length_append, List.flatten_append]; simpa using hown, hr, fun hE => by rw [hLD hE, List.append_assoc]; rfl, M⟩
end Go.Proofs.YthgknegocfhdbaaDoor.V
