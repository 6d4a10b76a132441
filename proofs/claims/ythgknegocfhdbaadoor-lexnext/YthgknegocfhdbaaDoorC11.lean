/-
  A part of the proof.
-/
import Derived.Test.YthgknegocfhdbaaDoorC9
import Derived.Test.YthgknegocfhdbaaDoorC10
/-
 The document's Next, kind by kind.
-/
namespace Go.Proofs.YthgknegocfhdbaaDoor.V
open Go.RowKit
theorem sz9 : (Tryd.prog.info? 9).map (·.size) = some 1 := by kernel_rfl
section
variable {P : Program} {o : Oper} {n : Nat} {l : List (Nat × Value)}
theorem la_bin (F : Value → Value → Sem Value) (x y : Operand) (p q v : Value) (ho : ∀ ρ, execOp ρ o = (do pure (.value (← F (ρ x) (ρ y))))) (hx : evl n l x = p) (hy : evl n l y = q) (h : ∀ w, (F p q).run P w = .ok v w) : ∀ w, (execOp (evl n l) o).run P w = .ok (.value v) w := fun w => by
 rw [ho, hx, hy]; simp [h]
end
theorem rsym_c {s : ByteArray} {r : Bool} (h : symb s = r) (w : World) : Calls Tryd.prog 19 #[.string s] w fun e w' => e = .returned (.bool r) ∧ Mw w w' := h ▸ wk (rsym_n s w)
theorem rnam_c {s : ByteArray} {r : Bool} (h : nam s = r) (w : World) (hs : s.size ≤ maxLen) : Calls Tryd.prog 17 #[.string s] w fun e w' => e = .returned (.bool r) ∧ Mw w w' := h ▸ wk (rname_n s w hs)
theorem rnm_c {s : ByteArray} {k e : Nat} (h : nme s k = e) (w : World) (hs : s.size ≤ maxLen - 8) (hk : k ≤ s.size) : Calls Tryd.prog 30 #[.string s, .int .i64 ((k : Nat) : Int)] w fun e' w' => e' = .returned (.int .i64 ((e : Nat) : Int)) ∧ Mw w w' := h ▸ wk (rnm_n s k w hs hk)
theorem rpfx_c {s : ByteArray} {k e : Nat} (h : k + pfx (s.extract k s.size) = e) (w : World) (hs : s.size ≤ 1000000000000) (hk : k < s.size) : Calls Tryd.prog 32 #[.string (s.extract (k) s.size)] w fun e' w' => e' = .returned (.int .i64 ((e - k : Nat) : Int)) ∧ Mw w w' := by
 have h2 := wk (rprefix_n (s.extract k s.size) w (by rw [ByteArray.size_extract, Nat.min_self]; unfold maxLen; omega))
 rw [show pfx (s.extract k s.size) = e - k by omega] at h2
 exact h2
theorem clo_c {s : ByteArray} {k : Nat} {o : Option Nat} (h : cl s (k + 1) = o) (w : World) (hs : s.size ≤ maxLen - 8) (hk : k < s.size) : Calls Tryd.prog 34 #[.string s, .int .i64 ((k : Nat) : Int)] w fun e' w' => e' = .returned (.tuple #[.int .i64 ((o.getD 0 : Nat) : Int), .bool o.isSome]) ∧ Mw w w' := h ▸ wk (closes_n s k w hs hk)
theorem runq_c {s : ByteArray} {r : Bool} (h : (unq s).2 = r) (w : World) (hs : s.size ≤ 1000000000000) : Calls Tryd.prog 21 #[.string s] w fun e w' => e = .returned (.tuple #[.string (unq s).1, .bool r]) ∧ Mw w w' := h ▸ runquote_n s w hs
theorem rlt_c {c : Int} {r : Bool} (h : ltr c = r) (w : World) : Calls Tryd.prog 29 #[.int .u8 c] w fun e w' => e = .returned (.bool r) ∧ Mw w w' := h ▸ wk (letter_n c w)
theorem rdg_c {c : Int} {r : Bool} (h : dgt c = r) (w : World) : Calls Tryd.prog 31 #[.int .u8 c] w fun e w' => e = .returned (.bool r) ∧ Mw w w' := h ▸ wk (rdigit_n c w)
theorem rnext_1t (s : ByteArray) (k e : Nat) (w : World) (hs : s.size ≤ 1000000000000) (hk : k < s.size) (h1 : ltr (bt s k) = true) (he : nme s k = e) (ho : nam (s.extract k e) = true) : Calls Tryd.prog 13 #[.string s, .int .i64 ((k : Nat) : Int)] w fun e' w' => e' = .returned (.tuple #[.agg #[.int .i64 (1), .string (s.extract k e), .int .i64 0, .bool false, .int .u64 0, .int .u64 0, .int .u64 0, .int .u64 0, .int .i64 0, .bool false, .string ⟨#[]⟩, .int .i64 0, .int .i64 ((k : Nat) : Int)], .int .i64 0]) ∧ Mw w w' := by
 have hrg := nme_rg s _ k rfl (by omega)
 rw [he] at hrg
 have hsz : (s.extract k e).size ≤ s.size := by rw [ByteArray.size_extract]; omega
 refine w_enter 134 Tryd.func13 Tryd.ntmps13 rfl rfl ?_
 have M : Mw w w := Mw.refl _
 refine w_seq (w_reg ?_)
 refine wl_alloc 37 #[.int .i64 0, .string ⟨#[]⟩, .int .i64 0, .bool false, .int .u64 0, .int .u64 0, .int .u64 0, .int .u64 0, .int .i64 0, .bool false, .string ⟨#[]⟩, .int .i64 0, .int .i64 0] rfl (fun _ => by kernel_rfl) rfl ?_
 intro k1 w1 hk hz hq Q1
 have N_k1 : w.heap.size ≤ k1 := by have := M.size; omega
 replace M := M.trans hq
 clear hk hz hq
 refine wl_m (.const (.int .i64 (0))) (.int .i64 (0)) ?_
 refine w_nil (xn_then (w_seq (w_seq (w_reg ?_))))
 refine wl_m (.tmp 1) (.int .i64 ((k : Nat) : Int)) ?_
 refine wl_b .lss 3 (.tmp 15) (.const (.int .i64 (0))) (.int .i64 ((k : Nat) : Int)) (.int .i64 (0)) (.bool false) (lt3_run (r := false) (decide_eq_false (by omega)) _ _ _) ?_
 refine wl_m (.tmp 16) (.bool false) ?_
 refine wl_m (.tmp 1) (.int .i64 ((k : Nat) : Int)) ?_
 refine wl_m (.tmp 0) (.string s) ?_
 refine wl_val (.int .i64 ((s.size : Nat) : Int)) (len_s _ _ s (by exact rfl) _ _ _ _ _ _) rfl ?_
 refine wl_b .geq 3 (.tmp 18) (.tmp 20) (.int .i64 ((k : Nat) : Int)) (.int .i64 ((s.size : Nat) : Int)) (.bool false) (geN (decide_eq_false (by omega)) _ _ _) ?_
 refine wl_pick (.tmp 17) (.const (.bool true)) (.tmp 21) false (.bool false) (fun _ => rfl) rfl rfl rfl ?_
 refine w_nil (xn_then (w_condF rfl (w_skip (xn_then (w_seq (w_reg ?_))))))
 refine wl_m (.tmp 1) (.int .i64 ((k : Nat) : Int)) ?_
 refine wl_build 37 [(3, (.tmp 24))] [(3, .int .i64 ((k : Nat) : Int))] (.agg #[.int .i64 0, .string ⟨#[]⟩, .int .i64 0, .bool false, .int .u64 0, .int .u64 0, .int .u64 0, .int .u64 0, .int .i64 0, .bool false, .string ⟨#[]⟩, .int .i64 0, .int .i64 ((k : Nat) : Int)]) rfl rfl (by kernel_rfl) rfl ?_
 refine wl_alloc 37 #[.int .i64 0, .string ⟨#[]⟩, .int .i64 0, .bool false, .int .u64 0, .int .u64 0, .int .u64 0, .int .u64 0, .int .i64 0, .bool false, .string ⟨#[]⟩, .int .i64 0, .int .i64 0] rfl (fun _ => by kernel_rfl) rfl ?_
 intro k2 w2 hk hz hq Q2
 have ne_k1_k2 : k1 ≠ k2 := by have := Q1.lt; omega
 have N_k2 : w.heap.size ≤ k2 := by have := M.size; omega
 replace Q1 := Q1.mo hq
 replace M := M.trans hq
 clear hk hz hq
 refine wl_st 37 (.tmp 6) (.tmp 25) k2 0 #[.int .i64 0, .string ⟨#[]⟩, .int .i64 0, .bool false, .int .u64 0, .int .u64 0, .int .u64 0, .int .u64 0, .int .i64 0, .bool false, .string ⟨#[]⟩, .int .i64 0, .int .i64 ((k : Nat) : Int)] _ [.int .i64 0, .string ⟨#[]⟩, .int .i64 0, .bool false, .int .u64 0, .int .u64 0, .int .u64 0, .int .u64 0, .int .i64 0, .bool false, .string ⟨#[]⟩, .int .i64 0, .int .i64 ((k : Nat) : Int)] Q2 rfl rfl rfl rfl rfl sz37 rfl rfl rfl ?_
 intro w3 hS Qn
 replace Q2 := Qn
 clear Qn
 replace Q1 := hS.other _ _ ne_k1_k2 Q1
 replace M := hS.mo _ N_k2 M
 clear hS
 refine w_nil (xn_then (w_seq (w_reg ?_)))
 refine wl_m (.tmp 0) (.string s) ?_
 refine wl_m (.tmp 1) (.int .i64 ((k : Nat) : Int)) ?_
 refine wl_bin (fun x y => Instr.index 9 x y) (.tmp 26) (.tmp 27) (.string s) (.int .i64 ((k : Nat) : Int)) (.int .u8 (bt s (k))) (fun _ => rfl) rfl rfl (idx_b (k := k) (by omega) _) rfl ?_
 refine wl_m (.tmp 28) (.int .u8 (bt s (k))) ?_
 refine w_nil (xn_then (w_seq (w_reg ?_)))
 refine wl_m (.const (.bool false)) (.bool false) ?_
 refine w_nil (xn_then (w_seq (w_block (w_seq (w_reg ?_)))))
 refine wl_m (.tmp 7) (.int .u8 (bt s (k))) ?_
 refine wl_call 29 [(.tmp 40)] _ [.int .u8 (bt s (k))] (.bool true) rfl rfl (fun _ _ => by kernel_rfl) (rlt_c h1 _) rfl ?_
 intro w4 hq
 replace Q1 := Q1.mo hq
 replace Q2 := Q2.mo hq
 replace M := M.trans hq
 clear hq
 refine wl_m (.tmp 41) (.bool true) ?_
 refine w_nil (xn_then (w_condT rfl (w_seq ?_)))
 refine w_any 7 [.inl (.string s), .inl (.int .i64 ((k : Nat) : Int)), .inl (.string s), .inl (.int .i64 ((k : Nat) : Int)), .inl (.int .i64 ((e : Nat) : Int)), .inl (.string (s.extract k e)), .inl (pt k2 0)] [0, 1, 5] (by kernel_rfl) (by kernel_rfl) (by kernel_rfl) (by kernel_rfl) rfl (by kernel_rfl) (by kernel_rfl) (late_cons ⟨_, _, rfl, rfl, fun _ _ _ _ h => h, fun f hd => ⟨rfl, la_mv (.tmp 0) (.string s) (fun _ => rfl) rfl⟩⟩ (late_cons ⟨_, _, rfl, rfl, fun _ _ _ _ h => h, fun f hd => ⟨rfl, la_mv (.tmp 1) (.int .i64 ((k : Nat) : Int)) (fun _ => rfl) rfl⟩⟩ (late_cons ⟨_, _, rfl, rfl, fun _ _ _ _ h => h, fun f hd => ⟨rfl, (fun w => (mid_run _ _ _ _ s (k) (e) (by exact (hd 0 rfl _ rfl)) (by exact (hd 1 rfl _ rfl)) (by exact (hd 4 rfl _ rfl)) (by omega) (by omega) _ _ _ _ _ w))⟩⟩ late_nil))) ?_ ?_ ?_
 ·exact Ds.none rfl
 ·refine ea_cons ?_ (ea_cons ?_ (ea_cons ?_ (ea_cons ?_ (ea_cons ?_ (ea_cons ?_ (ea_cons ?_ (ea_nil)))))))
  ·exact og_eq _ rfl (fun f wf hq hd K hK => go_run rfl (wo_mv (.tmp 0) (.string s) (fun _ => rfl) rfl (hK _ (Mw.refl _))))
  ·exact og_eq _ rfl (fun f wf hq hd K hK => go_run rfl (wo_mv (.tmp 1) (.int .i64 ((k : Nat) : Int)) (fun _ => rfl) rfl (hK _ (Mw.refl _))))
  ·exact og_eq _ rfl (fun f wf hq hd K hK => go_run rfl (wo_mv (.tmp 0) (.string s) (fun _ => rfl) rfl (hK _ (Mw.refl _))))
  ·exact og_eq _ rfl (fun f wf hq hd K hK => go_run rfl (wo_mv (.tmp 1) (.int .i64 ((k : Nat) : Int)) (fun _ => rfl) rfl (hK _ (Mw.refl _))))
  ·exact og_eq _ rfl (fun f wf hq hd K hK => go_run rfl (wo_call 30 [(.tmp 44), (.tmp 45)] _ [.string s, .int .i64 ((k : Nat) : Int)] (.int .i64 ((e : Nat) : Int)) rfl (li2 (hd 2 rfl) (hd 3 rfl)) (fun _ _ => by kernel_rfl) (rnm_c he _ (by unfold maxLen; omega) (by omega)) hK))
  ·exact og_eq _ rfl (fun f wf hq hd K hK => go_run rfl (wo_val (.string (s.extract k e)) (mid_run _ _ _ _ s (k) (e) (by exact (hd 0 rfl)) (by exact (hd 1 rfl)) (by exact (hd 4 rfl)) (by omega) (by omega) _ _ _ _ _ _) (hK _ (Mw.refl _))))
  ·exact og_eq _ rfl (fun f wf hq hd K hK => go_run rfl (wo_un (fun v => Instr.fieldAt 37 v 0) (.tmp 6) (pt k2 0) (pt k2 0) (fun _ => rfl) rfl (by kernel_rfl) (hK _ (Mw.refl _))))
 intro kf5 w5 hq hR hne
 replace Q1 := Q1.mo hq
 replace Q2 := Q2.mo hq
 replace M := M.trans hq
 clear hq hR hne
 refine wl_st1 3 (.tmp 48) (.const (.int .i64 (1))) k2 0 (.int .i64 (1)) _ [.int .i64 (1), .string ⟨#[]⟩, .int .i64 0, .bool false, .int .u64 0, .int .u64 0, .int .u64 0, .int .u64 0, .int .i64 0, .bool false, .string ⟨#[]⟩, .int .i64 0, .int .i64 ((k : Nat) : Int)] Q2 rfl rfl rfl rfl rfl sz3 rfl rfl rfl rfl ?_
 intro w6 hS Qn
 replace Q2 := Qn
 clear Qn
 replace Q1 := hS.other _ _ ne_k1_k2 Q1
 replace M := hS.mo _ N_k2 M
 clear hS
 refine wl_f 37 1 (.tmp 6) (pt k2 0) (pt k2 1) ?_
 refine wl_st1 9 (.tmp 49) (.tmp 47) k2 1 (.string (s.extract k e)) _ [.int .i64 (1), .string (s.extract k e), .int .i64 0, .bool false, .int .u64 0, .int .u64 0, .int .u64 0, .int .u64 0, .int .i64 0, .bool false, .string ⟨#[]⟩, .int .i64 0, .int .i64 ((k : Nat) : Int)] Q2 rfl rfl rfl rfl rfl sz9 rfl rfl rfl rfl ?_
 intro w7 hS Qn
 replace Q2 := Qn
 clear Qn
 replace Q1 := hS.other _ _ ne_k1_k2 Q1
 replace M := hS.mo _ N_k2 M
 clear hS
 refine w_nil (xn_then (w_reg ?_))
 refine wl_f 37 1 (.tmp 6) (pt k2 0) (pt k2 1) ?_
 refine wl_l 9 (.tmp 50) (pt k2 1) (.string (s.extract k e)) (run_one Q2 9 1 rfl Tryd.underlying9 rfl) ?_
 refine wl_call 17 [(.tmp 51)] _ [.string (s.extract k e)] (.bool true) rfl rfl (fun _ _ => by kernel_rfl) (rnam_c ho _ (by unfold maxLen; omega)) rfl ?_
 intro w8 hq
 replace Q1 := Q1.mo hq
 replace Q2 := Q2.mo hq
 replace M := M.trans hq
 clear hq
 refine wl_m (.tmp 52) (.bool true) ?_
 refine w_nil (xn_blk (xn_then (w_seq (w_seq (w_reg ?_)))))
 refine wl_m (.tmp 8) (.bool true) ?_
 refine wl_un (fun v => Op.unary .not v) (.tmp 130) (.bool true) (.bool false) (fun _ => rfl) rfl (by kernel_rfl) rfl ?_
 refine w_nil (xn_then (w_condF rfl (w_skip (xn_then (w_seq (w_reg ?_))))))
 refine wl_l 37 (.tmp 6) (pt k2 0) (.agg #[.int .i64 (1), .string (s.extract k e), .int .i64 0, .bool false, .int .u64 0, .int .u64 0, .int .u64 0, .int .u64 0, .int .i64 0, .bool false, .string ⟨#[]⟩, .int .i64 0, .int .i64 ((k : Nat) : Int)]) (run_row Q2 37 0 13 _ rfl Tryd.underlying37 rfl sz37) ?_
 refine wl_st 37 (.tmp 4) (.tmp 133) k1 0 #[.int .i64 (1), .string (s.extract k e), .int .i64 0, .bool false, .int .u64 0, .int .u64 0, .int .u64 0, .int .u64 0, .int .i64 0, .bool false, .string ⟨#[]⟩, .int .i64 0, .int .i64 ((k : Nat) : Int)] _ [.int .i64 (1), .string (s.extract k e), .int .i64 0, .bool false, .int .u64 0, .int .u64 0, .int .u64 0, .int .u64 0, .int .i64 0, .bool false, .string ⟨#[]⟩, .int .i64 0, .int .i64 ((k : Nat) : Int)] Q1 rfl rfl rfl rfl rfl sz37 rfl rfl rfl ?_
 intro w9 hS Qn
 replace Q1 := Qn
 clear Qn
 replace Q2 := hS.other _ _ ne_k1_k2.symm Q2
 replace M := hS.mo _ N_k1 M
 clear hS
 refine wl_m (.const (.int .i64 (0))) (.int .i64 (0)) ?_
 refine w_nil (xn_then (w_ret ?_))
 exact w_ret2 _ _ (.agg #[.int .i64 (1), .string (s.extract k e), .int .i64 0, .bool false, .int .u64 0, .int .u64 0, .int .u64 0, .int .u64 0, .int .i64 0, .bool false, .string ⟨#[]⟩, .int .i64 0, .int .i64 ((k : Nat) : Int)]) (.int .i64 (0)) rfl ⟨k1, rfl, (run_row Q1 37 0 13 _ rfl Tryd.underlying37 rfl sz37)⟩ rfl ⟨rfl, M⟩
theorem rnext_2t (s : ByteArray) (k e : Nat) (w : World) (hs : s.size ≤ 1000000000000) (hk : k < s.size) (h1 : ltr (bt s k) = false) (h2 : dgt (bt s k) = true) (he : k + pfx (s.extract k s.size) = e) (hes : e ≤ s.size) (b : Bool) (N E : Int) (kk : Nat) (hE : (E == 0) = true) (hP : ∀ w, Calls Tryd.prog 33 #[.string (s.extract k e)] w fun e w' => e = .returned (.tuple #[dc b N (kk : Int), .int .i64 E]) ∧ Mo w w') : Calls Tryd.prog 13 #[.string s, .int .i64 ((k : Nat) : Int)] w fun e' w' => e' = .returned (.tuple #[.agg #[.int .i64 (2), .string (s.extract k e), .int .i64 1, .bool b, .int .u64 (l0 (N)), .int .u64 (l1 (N)), .int .u64 (l2 (N)), .int .u64 (l3 (N)), .int .i64 ((kk : Int)), .bool false, .string ⟨#[]⟩, .int .i64 0, .int .i64 ((k : Nat) : Int)], .int .i64 0]) ∧ Mw w w' := by
 have hsz : (s.extract k e).size ≤ s.size := by rw [ByteArray.size_extract]; omega
 refine w_enter 134 Tryd.func13 Tryd.ntmps13 rfl rfl ?_
 have M : Mw w w := Mw.refl _
 refine w_seq (w_reg ?_)
 refine wl_alloc 37 #[.int .i64 0, .string ⟨#[]⟩, .int .i64 0, .bool false, .int .u64 0, .int .u64 0, .int .u64 0, .int .u64 0, .int .i64 0, .bool false, .string ⟨#[]⟩, .int .i64 0, .int .i64 0] rfl (fun _ => by kernel_rfl) rfl ?_
 intro k1 w1 hk hz hq Q1
 have N_k1 : w.heap.size ≤ k1 := by have := M.size; omega
 replace M := M.trans hq
 clear hk hz hq
 refine wl_m (.const (.int .i64 (0))) (.int .i64 (0)) ?_
 refine w_nil (xn_then (w_seq (w_seq (w_reg ?_))))
 refine wl_m (.tmp 1) (.int .i64 ((k : Nat) : Int)) ?_
 refine wl_b .lss 3 (.tmp 15) (.const (.int .i64 (0))) (.int .i64 ((k : Nat) : Int)) (.int .i64 (0)) (.bool false) (lt3_run (r := false) (decide_eq_false (by omega)) _ _ _) ?_
 refine wl_m (.tmp 16) (.bool false) ?_
 refine wl_m (.tmp 1) (.int .i64 ((k : Nat) : Int)) ?_
 refine wl_m (.tmp 0) (.string s) ?_
 refine wl_val (.int .i64 ((s.size : Nat) : Int)) (len_s _ _ s (by exact rfl) _ _ _ _ _ _) rfl ?_
 refine wl_b .geq 3 (.tmp 18) (.tmp 20) (.int .i64 ((k : Nat) : Int)) (.int .i64 ((s.size : Nat) : Int)) (.bool false) (geN (decide_eq_false (by omega)) _ _ _) ?_
 refine wl_pick (.tmp 17) (.const (.bool true)) (.tmp 21) false (.bool false) (fun _ => rfl) rfl rfl rfl ?_
 refine w_nil (xn_then (w_condF rfl (w_skip (xn_then (w_seq (w_reg ?_))))))
 refine wl_m (.tmp 1) (.int .i64 ((k : Nat) : Int)) ?_
 refine wl_build 37 [(3, (.tmp 24))] [(3, .int .i64 ((k : Nat) : Int))] (.agg #[.int .i64 0, .string ⟨#[]⟩, .int .i64 0, .bool false, .int .u64 0, .int .u64 0, .int .u64 0, .int .u64 0, .int .i64 0, .bool false, .string ⟨#[]⟩, .int .i64 0, .int .i64 ((k : Nat) : Int)]) rfl rfl (by kernel_rfl) rfl ?_
 refine wl_alloc 37 #[.int .i64 0, .string ⟨#[]⟩, .int .i64 0, .bool false, .int .u64 0, .int .u64 0, .int .u64 0, .int .u64 0, .int .i64 0, .bool false, .string ⟨#[]⟩, .int .i64 0, .int .i64 0] rfl (fun _ => by kernel_rfl) rfl ?_
 intro k2 w2 hk hz hq Q2
 have ne_k1_k2 : k1 ≠ k2 := by have := Q1.lt; omega
 have N_k2 : w.heap.size ≤ k2 := by have := M.size; omega
 replace Q1 := Q1.mo hq
 replace M := M.trans hq
 clear hk hz hq
 refine wl_st 37 (.tmp 6) (.tmp 25) k2 0 #[.int .i64 0, .string ⟨#[]⟩, .int .i64 0, .bool false, .int .u64 0, .int .u64 0, .int .u64 0, .int .u64 0, .int .i64 0, .bool false, .string ⟨#[]⟩, .int .i64 0, .int .i64 ((k : Nat) : Int)] _ [.int .i64 0, .string ⟨#[]⟩, .int .i64 0, .bool false, .int .u64 0, .int .u64 0, .int .u64 0, .int .u64 0, .int .i64 0, .bool false, .string ⟨#[]⟩, .int .i64 0, .int .i64 ((k : Nat) : Int)] Q2 rfl rfl rfl rfl rfl sz37 rfl rfl rfl ?_
 intro w3 hS Qn
 replace Q2 := Qn
 clear Qn
 replace Q1 := hS.other _ _ ne_k1_k2 Q1
 replace M := hS.mo _ N_k2 M
 clear hS
 refine w_nil (xn_then (w_seq (w_reg ?_)))
 refine wl_m (.tmp 0) (.string s) ?_
 refine wl_m (.tmp 1) (.int .i64 ((k : Nat) : Int)) ?_
 refine wl_bin (fun x y => Instr.index 9 x y) (.tmp 26) (.tmp 27) (.string s) (.int .i64 ((k : Nat) : Int)) (.int .u8 (bt s (k))) (fun _ => rfl) rfl rfl (idx_b (k := k) (by omega) _) rfl ?_
 refine wl_m (.tmp 28) (.int .u8 (bt s (k))) ?_
 refine w_nil (xn_then (w_seq (w_reg ?_)))
 refine wl_m (.const (.bool false)) (.bool false) ?_
 refine w_nil (xn_then (w_seq (w_block (w_seq (w_reg ?_)))))
 refine wl_m (.tmp 7) (.int .u8 (bt s (k))) ?_
 refine wl_call 29 [(.tmp 40)] _ [.int .u8 (bt s (k))] (.bool false) rfl rfl (fun _ _ => by kernel_rfl) (rlt_c h1 _) rfl ?_
 intro w4 hq
 replace Q1 := Q1.mo hq
 replace Q2 := Q2.mo hq
 replace M := M.trans hq
 clear hq
 refine wl_m (.tmp 41) (.bool false) ?_
 refine w_nil (xn_then (w_condF rfl (w_seq (w_reg ?_))))
 refine wl_m (.tmp 7) (.int .u8 (bt s (k))) ?_
 refine wl_call 31 [(.tmp 54)] _ [.int .u8 (bt s (k))] (.bool true) rfl rfl (fun _ _ => by kernel_rfl) (rdg_c h2 _) rfl ?_
 intro w5 hq
 replace Q1 := Q1.mo hq
 replace Q2 := Q2.mo hq
 replace M := M.trans hq
 clear hq
 refine wl_m (.tmp 55) (.bool true) ?_
 refine w_nil (xn_then (w_condT rfl (w_seq ?_)))
 refine w_any 10 [.inl (.string s), .inl (.int .i64 ((k : Nat) : Int)), .inl (.int .i64 ((k : Nat) : Int)), .inl (.string s), .inl (.int .i64 ((k : Nat) : Int)), .inl (.string (s.extract (k) s.size)), .inl (.int .i64 ((e - k : Nat) : Int)), .inl (.int .i64 ((e : Nat) : Int)), .inl (.string (s.extract k e)), .inl (pt k2 0)] [0, 1, 2, 7, 8] (by kernel_rfl) (by kernel_rfl) (by kernel_rfl) (by kernel_rfl) rfl (by kernel_rfl) (by kernel_rfl) (late_cons ⟨_, _, rfl, rfl, fun _ _ _ _ h => h, fun f hd => ⟨rfl, la_mv (.tmp 0) (.string s) (fun _ => rfl) rfl⟩⟩ (late_cons ⟨_, _, rfl, rfl, fun _ _ _ _ h => h, fun f hd => ⟨rfl, la_mv (.tmp 1) (.int .i64 ((k : Nat) : Int)) (fun _ => rfl) rfl⟩⟩ (late_cons ⟨_, _, rfl, rfl, fun _ _ _ _ h => h, fun f hd => ⟨rfl, la_mv (.tmp 1) (.int .i64 ((k : Nat) : Int)) (fun _ => rfl) rfl⟩⟩ (late_cons ⟨_, _, rfl, rfl, fun _ _ _ _ h => h, fun f hd => ⟨rfl, la_bin (fun x y => do eqGuard .add 3 (.tmp 58) (.tmp 62) x y; binOp .add 3 x y) (.tmp 58) (.tmp 62) (.int .i64 ((k : Nat) : Int)) (.int .i64 ((e - k : Nat) : Int)) (.int .i64 ((e : Nat) : Int)) (fun _ => rfl) (hd 2 rfl _ rfl) (hd 6 rfl _ rfl) (fun w => (addk (a := k) (b := e - k) (c := e) (by omega) (by omega) _ _ w))⟩⟩ (late_cons ⟨_, _, rfl, rfl, fun _ _ _ _ h => h, fun f hd => ⟨rfl, (fun w => (mid_run _ _ _ _ s (k) (e) (by exact (hd 0 rfl _ rfl)) (by exact (hd 1 rfl _ rfl)) (by exact (hd 7 rfl _ rfl)) (by omega) (by omega) _ _ _ _ _ w))⟩⟩ late_nil))))) ?_ ?_ ?_
 ·exact Ds.none rfl
 ·refine ea_cons ?_ (ea_cons ?_ (ea_cons ?_ (ea_cons ?_ (ea_cons ?_ (ea_cons ?_ (ea_cons ?_ (ea_cons ?_ (ea_cons ?_ (ea_cons ?_ (ea_nil))))))))))
  ·exact og_eq _ rfl (fun f wf hq hd K hK => go_run rfl (wo_mv (.tmp 0) (.string s) (fun _ => rfl) rfl (hK _ (Mw.refl _))))
  ·exact og_eq _ rfl (fun f wf hq hd K hK => go_run rfl (wo_mv (.tmp 1) (.int .i64 ((k : Nat) : Int)) (fun _ => rfl) rfl (hK _ (Mw.refl _))))
  ·exact og_eq _ rfl (fun f wf hq hd K hK => go_run rfl (wo_mv (.tmp 1) (.int .i64 ((k : Nat) : Int)) (fun _ => rfl) rfl (hK _ (Mw.refl _))))
  ·exact og_eq _ rfl (fun f wf hq hd K hK => go_run rfl (wo_mv (.tmp 0) (.string s) (fun _ => rfl) rfl (hK _ (Mw.refl _))))
  ·exact og_eq _ rfl (fun f wf hq hd K hK => go_run rfl (wo_mv (.tmp 1) (.int .i64 ((k : Nat) : Int)) (fun _ => rfl) rfl (hK _ (Mw.refl _))))
  ·exact og_eq _ rfl (fun f wf hq hd K hK => go_run rfl (wo_val (.string (s.extract (k) s.size)) (lo2_run _ _ _ s (k) (by exact (hd 3 rfl)) (by exact (hd 4 rfl)) (by omega) _ _ _ _ _ _) (hK _ (Mw.refl _))))
  ·exact og_eq _ rfl (fun f wf hq hd K hK => go_run rfl (wo_call 32 [(.tmp 61)] _ [.string (s.extract (k) s.size)] (.int .i64 ((e - k : Nat) : Int)) rfl (li1 (hd 5 rfl)) (fun _ _ => by kernel_rfl) (rpfx_c he _ hs hk) hK))
  ·exact og_eq _ rfl (fun f wf hq hd K hK => go_run rfl (wo_bin (fun x y => do eqGuard .add 3 (.tmp 58) (.tmp 62) x y; binOp .add 3 x y) (.tmp 58) (.tmp 62) (.int .i64 ((k : Nat) : Int)) (.int .i64 ((e - k : Nat) : Int)) (.int .i64 ((e : Nat) : Int)) (fun _ => rfl) (hd 2 rfl) (hd 6 rfl) (addk (a := k) (b := e - k) (c := e) (by omega) (by omega) _ _ _) (hK _ (Mw.refl _))))
  ·exact og_eq _ rfl (fun f wf hq hd K hK => go_run rfl (wo_val (.string (s.extract k e)) (mid_run _ _ _ _ s (k) (e) (by exact (hd 0 rfl)) (by exact (hd 1 rfl)) (by exact (hd 7 rfl)) (by omega) (by omega) _ _ _ _ _ _) (hK _ (Mw.refl _))))
  ·exact og_eq _ rfl (fun f wf hq hd K hK => go_run rfl (wo_un (fun v => Instr.fieldAt 37 v 0) (.tmp 6) (pt k2 0) (pt k2 0) (fun _ => rfl) rfl (by kernel_rfl) (hK _ (Mw.refl _))))
 intro kf6 w6 hq hR hne
 replace Q1 := Q1.mo hq
 replace Q2 := Q2.mo hq
 replace M := M.trans hq
 clear hq hR hne
 refine wl_st1 3 (.tmp 65) (.const (.int .i64 (2))) k2 0 (.int .i64 (2)) _ [.int .i64 (2), .string ⟨#[]⟩, .int .i64 0, .bool false, .int .u64 0, .int .u64 0, .int .u64 0, .int .u64 0, .int .i64 0, .bool false, .string ⟨#[]⟩, .int .i64 0, .int .i64 ((k : Nat) : Int)] Q2 rfl rfl rfl rfl rfl sz3 rfl rfl rfl rfl ?_
 intro w7 hS Qn
 replace Q2 := Qn
 clear Qn
 replace Q1 := hS.other _ _ ne_k1_k2 Q1
 replace M := hS.mo _ N_k2 M
 clear hS
 refine wl_f 37 1 (.tmp 6) (pt k2 0) (pt k2 1) ?_
 refine wl_st1 9 (.tmp 66) (.tmp 64) k2 1 (.string (s.extract k e)) _ [.int .i64 (2), .string (s.extract k e), .int .i64 0, .bool false, .int .u64 0, .int .u64 0, .int .u64 0, .int .u64 0, .int .i64 0, .bool false, .string ⟨#[]⟩, .int .i64 0, .int .i64 ((k : Nat) : Int)] Q2 rfl rfl rfl rfl rfl sz9 rfl rfl rfl rfl ?_
 intro w8 hS Qn
 replace Q2 := Qn
 clear Qn
 replace Q1 := hS.other _ _ ne_k1_k2 Q1
 replace M := hS.mo _ N_k2 M
 clear hS
 refine w_nil (xn_then (w_seq (w_reg ?_)))
 refine wl_f 37 1 (.tmp 6) (pt k2 0) (pt k2 1) ?_
 refine wl_l 9 (.tmp 68) (pt k2 1) (.string (s.extract k e)) (run_one Q2 9 1 rfl Tryd.underlying9 rfl) ?_
 refine wl_call 33 [(.tmp 69)] _ [.string (s.extract k e)] (.tuple #[.agg #[.bool b, .int .u64 (l0 (N)), .int .u64 (l1 (N)), .int .u64 (l2 (N)), .int .u64 (l3 (N)), .int .i64 ((kk : Int))], .int .i64 (E)]) rfl rfl (fun _ _ => by kernel_rfl) (wk (hP _)) rfl ?_
 intro w9 hq
 replace Q1 := Q1.mo hq
 replace Q2 := Q2.mo hq
 replace M := M.trans hq
 clear hq
 refine wl_m (.tmp 70) (.tuple #[.agg #[.bool b, .int .u64 (l0 (N)), .int .u64 (l1 (N)), .int .u64 (l2 (N)), .int .u64 (l3 (N)), .int .i64 ((kk : Int))], .int .i64 (E)]) ?_
 refine wl_un (fun v => Instr.extract v 0) (.tmp 67) (.tuple #[.agg #[.bool b, .int .u64 (l0 (N)), .int .u64 (l1 (N)), .int .u64 (l2 (N)), .int .u64 (l3 (N)), .int .i64 ((kk : Int))], .int .i64 (E)]) (.agg #[.bool b, .int .u64 (l0 (N)), .int .u64 (l1 (N)), .int .u64 (l2 (N)), .int .u64 (l3 (N)), .int .i64 ((kk : Int))]) (fun _ => rfl) rfl (by kernel_rfl) rfl ?_
 refine wl_un (fun v => Instr.extract v 1) (.tmp 67) (.tuple #[.agg #[.bool b, .int .u64 (l0 (N)), .int .u64 (l1 (N)), .int .u64 (l2 (N)), .int .u64 (l3 (N)), .int .i64 ((kk : Int))], .int .i64 (E)]) (.int .i64 (E)) (fun _ => rfl) rfl (by kernel_rfl) rfl ?_
 refine wl_alloc 33 #[.bool false, .int .u64 0, .int .u64 0, .int .u64 0, .int .u64 0, .int .i64 0] rfl (fun _ => by kernel_rfl) rfl ?_
 intro k3 w10 hk hz hq Q3
 have ne_k1_k3 : k1 ≠ k3 := by have := Q1.lt; omega
 have ne_k2_k3 : k2 ≠ k3 := by have := Q2.lt; omega
 have N_k3 : w.heap.size ≤ k3 := by have := M.size; omega
 replace Q1 := Q1.mo hq
 replace Q2 := Q2.mo hq
 replace M := M.trans hq
 clear hk hz hq
 refine wl_st 33 (.tmp 9) (.tmp 71) k3 0 #[.bool b, .int .u64 (l0 (N)), .int .u64 (l1 (N)), .int .u64 (l2 (N)), .int .u64 (l3 (N)), .int .i64 ((kk : Int))] _ [.bool b, .int .u64 (l0 (N)), .int .u64 (l1 (N)), .int .u64 (l2 (N)), .int .u64 (l3 (N)), .int .i64 ((kk : Int))] Q3 rfl rfl rfl rfl rfl sz33 rfl rfl rfl ?_
 intro w11 hS Qn
 replace Q3 := Qn
 clear Qn
 replace Q1 := hS.other _ _ ne_k1_k3 Q1
 replace Q2 := hS.other _ _ ne_k2_k3 Q2
 replace M := hS.mo _ N_k3 M
 clear hS
 refine wl_m (.tmp 72) (.int .i64 (E)) ?_
 refine w_nil (xn_then (w_seq (w_reg ?_)))
 refine wl_l 33 (.tmp 9) (pt k3 0) (.agg #[.bool b, .int .u64 (l0 (N)), .int .u64 (l1 (N)), .int .u64 (l2 (N)), .int .u64 (l3 (N)), .int .i64 ((kk : Int))]) (run_row Q3 33 0 6 _ rfl Tryd.underlying33 rfl sz33) ?_
 refine wl_build 35 [(0, (.const (.int .i64 (1)))), (1, (.tmp 73))] [(0, .int .i64 (1)), (1, .agg #[.bool b, .int .u64 (l0 (N)), .int .u64 (l1 (N)), .int .u64 (l2 (N)), .int .u64 (l3 (N)), .int .i64 ((kk : Int))])] (.agg #[.int .i64 (1), .bool b, .int .u64 (l0 (N)), .int .u64 (l1 (N)), .int .u64 (l2 (N)), .int .u64 (l3 (N)), .int .i64 ((kk : Int)), .bool false, .string ⟨#[]⟩, .int .i64 0]) rfl rfl (by kernel_rfl) rfl ?_
 refine wl_f 37 2 (.tmp 6) (pt k2 0) (pt k2 2) ?_
 refine wl_st 35 (.tmp 75) (.tmp 74) k2 2 #[.int .i64 (1), .bool b, .int .u64 (l0 (N)), .int .u64 (l1 (N)), .int .u64 (l2 (N)), .int .u64 (l3 (N)), .int .i64 ((kk : Int)), .bool false, .string ⟨#[]⟩, .int .i64 0] _ [.int .i64 (2), .string (s.extract k e), .int .i64 (1), .bool b, .int .u64 (l0 (N)), .int .u64 (l1 (N)), .int .u64 (l2 (N)), .int .u64 (l3 (N)), .int .i64 ((kk : Int)), .bool false, .string ⟨#[]⟩, .int .i64 0, .int .i64 ((k : Nat) : Int)] Q2 rfl rfl rfl rfl rfl sz35 rfl rfl rfl ?_
 intro w12 hS Qn
 replace Q2 := Qn
 clear Qn
 replace Q1 := hS.other _ _ ne_k1_k2 Q1
 replace Q3 := hS.other _ _ ne_k2_k3.symm Q3
 replace M := hS.mo _ N_k2 M
 clear hS
 refine w_nil (xn_then (w_reg ?_))
 refine wl_m (.tmp 10) (.int .i64 (E)) ?_
 refine wl_b .eql 23 (.tmp 76) (.const (.int .i64 (0))) (.int .i64 (E)) (.int .i64 (0)) (.bool true) (eq23 hE _ _ _) ?_
 refine wl_m (.tmp 77) (.bool true) ?_
 refine w_nil (xn_blk (xn_then (w_seq (w_seq (w_reg ?_)))))
 refine wl_m (.tmp 8) (.bool true) ?_
 refine wl_un (fun v => Op.unary .not v) (.tmp 130) (.bool true) (.bool false) (fun _ => rfl) rfl (by kernel_rfl) rfl ?_
 refine w_nil (xn_then (w_condF rfl (w_skip (xn_then (w_seq (w_reg ?_))))))
 refine wl_l 37 (.tmp 6) (pt k2 0) (.agg #[.int .i64 (2), .string (s.extract k e), .int .i64 (1), .bool b, .int .u64 (l0 (N)), .int .u64 (l1 (N)), .int .u64 (l2 (N)), .int .u64 (l3 (N)), .int .i64 ((kk : Int)), .bool false, .string ⟨#[]⟩, .int .i64 0, .int .i64 ((k : Nat) : Int)]) (run_row Q2 37 0 13 _ rfl Tryd.underlying37 rfl sz37) ?_
 refine wl_st 37 (.tmp 4) (.tmp 133) k1 0 #[.int .i64 (2), .string (s.extract k e), .int .i64 (1), .bool b, .int .u64 (l0 (N)), .int .u64 (l1 (N)), .int .u64 (l2 (N)), .int .u64 (l3 (N)), .int .i64 ((kk : Int)), .bool false, .string ⟨#[]⟩, .int .i64 0, .int .i64 ((k : Nat) : Int)] _ [.int .i64 (2), .string (s.extract k e), .int .i64 (1), .bool b, .int .u64 (l0 (N)), .int .u64 (l1 (N)), .int .u64 (l2 (N)), .int .u64 (l3 (N)), .int .i64 ((kk : Int)), .bool false, .string ⟨#[]⟩, .int .i64 0, .int .i64 ((k : Nat) : Int)] Q1 rfl rfl rfl rfl rfl sz37 rfl rfl rfl ?_
 intro w13 hS Qn
 replace Q1 := Qn
 clear Qn
 replace Q2 := hS.other _ _ ne_k1_k2.symm Q2
 replace Q3 := hS.other _ _ ne_k1_k3.symm Q3
 replace M := hS.mo _ N_k1 M
 clear hS
 refine wl_m (.const (.int .i64 (0))) (.int .i64 (0)) ?_
 refine w_nil (xn_then (w_ret ?_))
 exact w_ret2 _ _ (.agg #[.int .i64 (2), .string (s.extract k e), .int .i64 (1), .bool b, .int .u64 (l0 (N)), .int .u64 (l1 (N)), .int .u64 (l2 (N)), .int .u64 (l3 (N)), .int .i64 ((kk : Int)), .bool false, .string ⟨#[]⟩, .int .i64 0, .int .i64 ((k : Nat) : Int)]) (.int .i64 (0)) rfl ⟨k1, rfl, (run_row Q1 37 0 13 _ rfl Tryd.underlying37 rfl sz37)⟩ rfl ⟨rfl, M⟩
theorem rnext_3t (s : ByteArray) (k e : Nat) (w : World) (hs : s.size ≤ 1000000000000) (hk : k < s.size) (h1 : ltr (bt s k) = false) (h2 : dgt (bt s k) = false) (h34 : (bt s k == 34) = true) (he : cl s (k + 1) = some e) (hu : (unq (s.extract k e)).2 = true) (h64 : decide ((unq (s.extract k e)).1.size ≤ 64) = true) : Calls Tryd.prog 13 #[.string s, .int .i64 ((k : Nat) : Int)] w fun e' w' => e' = .returned (.tuple #[.agg #[.int .i64 (3), .string (s.extract k e), .int .i64 3, .bool false, .int .u64 0, .int .u64 0, .int .u64 0, .int .u64 0, .int .i64 0, .bool false, .string (unq (s.extract k e)).1, .int .i64 0, .int .i64 ((k : Nat) : Int)], .int .i64 0]) ∧ Mw w w' := by
 have hrg := cl_rg s _ (k + 1) (Nat.le_refl _) e he
 have hsz : (s.extract k e).size ≤ s.size := by rw [ByteArray.size_extract]; omega
 refine w_enter 134 Tryd.func13 Tryd.ntmps13 rfl rfl ?_
 have M : Mw w w := Mw.refl _
 refine w_seq (w_reg ?_)
 refine wl_alloc 37 #[.int .i64 0, .string ⟨#[]⟩, .int .i64 0, .bool false, .int .u64 0, .int .u64 0, .int .u64 0, .int .u64 0, .int .i64 0, .bool false, .string ⟨#[]⟩, .int .i64 0, .int .i64 0] rfl (fun _ => by kernel_rfl) rfl ?_
 intro k1 w1 hk hz hq Q1
 have N_k1 : w.heap.size ≤ k1 := by have := M.size; omega
 replace M := M.trans hq
 clear hk hz hq
 refine wl_m (.const (.int .i64 (0))) (.int .i64 (0)) ?_
 refine w_nil (xn_then (w_seq (w_seq (w_reg ?_))))
 refine wl_m (.tmp 1) (.int .i64 ((k : Nat) : Int)) ?_
 refine wl_b .lss 3 (.tmp 15) (.const (.int .i64 (0))) (.int .i64 ((k : Nat) : Int)) (.int .i64 (0)) (.bool false) (lt3_run (r := false) (decide_eq_false (by omega)) _ _ _) ?_
 refine wl_m (.tmp 16) (.bool false) ?_
 refine wl_m (.tmp 1) (.int .i64 ((k : Nat) : Int)) ?_
 refine wl_m (.tmp 0) (.string s) ?_
 refine wl_val (.int .i64 ((s.size : Nat) : Int)) (len_s _ _ s (by exact rfl) _ _ _ _ _ _) rfl ?_
 refine wl_b .geq 3 (.tmp 18) (.tmp 20) (.int .i64 ((k : Nat) : Int)) (.int .i64 ((s.size : Nat) : Int)) (.bool false) (geN (decide_eq_false (by omega)) _ _ _) ?_
 refine wl_pick (.tmp 17) (.const (.bool true)) (.tmp 21) false (.bool false) (fun _ => rfl) rfl rfl rfl ?_
 refine w_nil (xn_then (w_condF rfl (w_skip (xn_then (w_seq (w_reg ?_))))))
 refine wl_m (.tmp 1) (.int .i64 ((k : Nat) : Int)) ?_
 refine wl_build 37 [(3, (.tmp 24))] [(3, .int .i64 ((k : Nat) : Int))] (.agg #[.int .i64 0, .string ⟨#[]⟩, .int .i64 0, .bool false, .int .u64 0, .int .u64 0, .int .u64 0, .int .u64 0, .int .i64 0, .bool false, .string ⟨#[]⟩, .int .i64 0, .int .i64 ((k : Nat) : Int)]) rfl rfl (by kernel_rfl) rfl ?_
 refine wl_alloc 37 #[.int .i64 0, .string ⟨#[]⟩, .int .i64 0, .bool false, .int .u64 0, .int .u64 0, .int .u64 0, .int .u64 0, .int .i64 0, .bool false, .string ⟨#[]⟩, .int .i64 0, .int .i64 0] rfl (fun _ => by kernel_rfl) rfl ?_
 intro k2 w2 hk hz hq Q2
 have ne_k1_k2 : k1 ≠ k2 := by have := Q1.lt; omega
 have N_k2 : w.heap.size ≤ k2 := by have := M.size; omega
 replace Q1 := Q1.mo hq
 replace M := M.trans hq
 clear hk hz hq
 refine wl_st 37 (.tmp 6) (.tmp 25) k2 0 #[.int .i64 0, .string ⟨#[]⟩, .int .i64 0, .bool false, .int .u64 0, .int .u64 0, .int .u64 0, .int .u64 0, .int .i64 0, .bool false, .string ⟨#[]⟩, .int .i64 0, .int .i64 ((k : Nat) : Int)] _ [.int .i64 0, .string ⟨#[]⟩, .int .i64 0, .bool false, .int .u64 0, .int .u64 0, .int .u64 0, .int .u64 0, .int .i64 0, .bool false, .string ⟨#[]⟩, .int .i64 0, .int .i64 ((k : Nat) : Int)] Q2 rfl rfl rfl rfl rfl sz37 rfl rfl rfl ?_
 intro w3 hS Qn
 replace Q2 := Qn
 clear Qn
 replace Q1 := hS.other _ _ ne_k1_k2 Q1
 replace M := hS.mo _ N_k2 M
 clear hS
 refine w_nil (xn_then (w_seq (w_reg ?_)))
 refine wl_m (.tmp 0) (.string s) ?_
 refine wl_m (.tmp 1) (.int .i64 ((k : Nat) : Int)) ?_
 refine wl_bin (fun x y => Instr.index 9 x y) (.tmp 26) (.tmp 27) (.string s) (.int .i64 ((k : Nat) : Int)) (.int .u8 (bt s (k))) (fun _ => rfl) rfl rfl (idx_b (k := k) (by omega) _) rfl ?_
 refine wl_m (.tmp 28) (.int .u8 (bt s (k))) ?_
 refine w_nil (xn_then (w_seq (w_reg ?_)))
 refine wl_m (.const (.bool false)) (.bool false) ?_
 refine w_nil (xn_then (w_seq (w_block (w_seq (w_reg ?_)))))
 refine wl_m (.tmp 7) (.int .u8 (bt s (k))) ?_
 refine wl_call 29 [(.tmp 40)] _ [.int .u8 (bt s (k))] (.bool false) rfl rfl (fun _ _ => by kernel_rfl) (rlt_c h1 _) rfl ?_
 intro w4 hq
 replace Q1 := Q1.mo hq
 replace Q2 := Q2.mo hq
 replace M := M.trans hq
 clear hq
 refine wl_m (.tmp 41) (.bool false) ?_
 refine w_nil (xn_then (w_condF rfl (w_seq (w_reg ?_))))
 refine wl_m (.tmp 7) (.int .u8 (bt s (k))) ?_
 refine wl_call 31 [(.tmp 54)] _ [.int .u8 (bt s (k))] (.bool false) rfl rfl (fun _ _ => by kernel_rfl) (rdg_c h2 _) rfl ?_
 intro w5 hq
 replace Q1 := Q1.mo hq
 replace Q2 := Q2.mo hq
 replace M := M.trans hq
 clear hq
 refine wl_m (.tmp 55) (.bool false) ?_
 refine w_nil (xn_then (w_condF rfl (w_seq (w_reg ?_))))
 refine wl_m (.tmp 7) (.int .u8 (bt s (k))) ?_
 refine wl_b .eql 5 (.tmp 79) (.const (.int .u8 (34))) (.int .u8 (bt s (k))) (.int .u8 (34)) (.bool true) (eq5r h34 _ _ _) ?_
 refine wl_m (.tmp 80) (.bool true) ?_
 refine w_nil (xn_then (w_condT rfl (w_seq (w_reg ?_))))
 refine wl_m (.tmp 0) (.string s) ?_
 refine wl_m (.tmp 1) (.int .i64 ((k : Nat) : Int)) ?_
 refine wl_call 34 [(.tmp 82), (.tmp 83)] _ [.string s, .int .i64 ((k : Nat) : Int)] (.tuple #[.int .i64 ((e : Nat) : Int), .bool true]) rfl rfl (fun _ _ => by kernel_rfl) (clo_c he _ (by unfold maxLen; omega) hk) rfl ?_
 intro w6 hq
 replace Q1 := Q1.mo hq
 replace Q2 := Q2.mo hq
 replace M := M.trans hq
 clear hq
 refine wl_m (.tmp 84) (.tuple #[.int .i64 ((e : Nat) : Int), .bool true]) ?_
 refine wl_un (fun v => Instr.extract v 0) (.tmp 81) (.tuple #[.int .i64 ((e : Nat) : Int), .bool true]) (.int .i64 ((e : Nat) : Int)) (fun _ => rfl) rfl (by kernel_rfl) rfl ?_
 refine wl_un (fun v => Instr.extract v 1) (.tmp 81) (.tuple #[.int .i64 ((e : Nat) : Int), .bool true]) (.bool true) (fun _ => rfl) rfl (by kernel_rfl) rfl ?_
 refine wl_m (.tmp 85) (.int .i64 ((e : Nat) : Int)) ?_
 refine wl_m (.tmp 86) (.bool true) ?_
 refine w_nil (xn_then (w_seq (w_reg ?_)))
 refine wl_m (.tmp 12) (.bool true) ?_
 refine w_nil (xn_then (w_condT rfl (w_seq ?_)))
 refine w_any 5 [.inl (.string s), .inl (.int .i64 ((k : Nat) : Int)), .inl (.int .i64 ((e : Nat) : Int)), .inl (.string (s.extract k e)), .inl (pt k2 0)] [0, 1, 2, 3] (by kernel_rfl) (by kernel_rfl) (by kernel_rfl) (by kernel_rfl) rfl (by kernel_rfl) (by kernel_rfl) (late_cons ⟨_, _, rfl, rfl, fun _ _ _ _ h => h, fun f hd => ⟨rfl, la_mv (.tmp 0) (.string s) (fun _ => rfl) rfl⟩⟩ (late_cons ⟨_, _, rfl, rfl, fun _ _ _ _ h => h, fun f hd => ⟨rfl, la_mv (.tmp 1) (.int .i64 ((k : Nat) : Int)) (fun _ => rfl) rfl⟩⟩ (late_cons ⟨_, _, rfl, rfl, fun _ _ _ _ h => h, fun f hd => ⟨rfl, la_mv (.tmp 11) (.int .i64 ((e : Nat) : Int)) (fun _ => rfl) rfl⟩⟩ (late_cons ⟨_, _, rfl, rfl, fun _ _ _ _ h => h, fun f hd => ⟨rfl, (fun w => (mid_run _ _ _ _ s (k) (e) (by exact (hd 0 rfl _ rfl)) (by exact (hd 1 rfl _ rfl)) (by exact (hd 2 rfl _ rfl)) (by omega) (by omega) _ _ _ _ _ w))⟩⟩ late_nil)))) ?_ ?_ ?_
 ·exact Ds.none rfl
 ·refine ea_cons ?_ (ea_cons ?_ (ea_cons ?_ (ea_cons ?_ (ea_cons ?_ (ea_nil)))))
  ·exact og_eq _ rfl (fun f wf hq hd K hK => go_run rfl (wo_mv (.tmp 0) (.string s) (fun _ => rfl) rfl (hK _ (Mw.refl _))))
  ·exact og_eq _ rfl (fun f wf hq hd K hK => go_run rfl (wo_mv (.tmp 1) (.int .i64 ((k : Nat) : Int)) (fun _ => rfl) rfl (hK _ (Mw.refl _))))
  ·exact og_eq _ rfl (fun f wf hq hd K hK => go_run rfl (wo_mv (.tmp 11) (.int .i64 ((e : Nat) : Int)) (fun _ => rfl) rfl (hK _ (Mw.refl _))))
  ·exact og_eq _ rfl (fun f wf hq hd K hK => go_run rfl (wo_val (.string (s.extract k e)) (mid_run _ _ _ _ s (k) (e) (by exact (hd 0 rfl)) (by exact (hd 1 rfl)) (by exact (hd 2 rfl)) (by omega) (by omega) _ _ _ _ _ _) (hK _ (Mw.refl _))))
  ·exact og_eq _ rfl (fun f wf hq hd K hK => go_run rfl (wo_un (fun v => Instr.fieldAt 37 v 0) (.tmp 6) (pt k2 0) (pt k2 0) (fun _ => rfl) rfl (by kernel_rfl) (hK _ (Mw.refl _))))
 intro kf7 w7 hq hR hne
 replace Q1 := Q1.mo hq
 replace Q2 := Q2.mo hq
 replace M := M.trans hq
 clear hq hR hne
 refine wl_st1 3 (.tmp 92) (.const (.int .i64 (3))) k2 0 (.int .i64 (3)) _ [.int .i64 (3), .string ⟨#[]⟩, .int .i64 0, .bool false, .int .u64 0, .int .u64 0, .int .u64 0, .int .u64 0, .int .i64 0, .bool false, .string ⟨#[]⟩, .int .i64 0, .int .i64 ((k : Nat) : Int)] Q2 rfl rfl rfl rfl rfl sz3 rfl rfl rfl rfl ?_
 intro w8 hS Qn
 replace Q2 := Qn
 clear Qn
 replace Q1 := hS.other _ _ ne_k1_k2 Q1
 replace M := hS.mo _ N_k2 M
 clear hS
 refine wl_f 37 1 (.tmp 6) (pt k2 0) (pt k2 1) ?_
 refine wl_st1 9 (.tmp 93) (.tmp 91) k2 1 (.string (s.extract k e)) _ [.int .i64 (3), .string (s.extract k e), .int .i64 0, .bool false, .int .u64 0, .int .u64 0, .int .u64 0, .int .u64 0, .int .i64 0, .bool false, .string ⟨#[]⟩, .int .i64 0, .int .i64 ((k : Nat) : Int)] Q2 rfl rfl rfl rfl rfl sz9 rfl rfl rfl rfl ?_
 intro w9 hS Qn
 replace Q2 := Qn
 clear Qn
 replace Q1 := hS.other _ _ ne_k1_k2 Q1
 replace M := hS.mo _ N_k2 M
 clear hS
 refine w_nil (xn_then (w_seq (w_reg ?_)))
 refine wl_f 37 1 (.tmp 6) (pt k2 0) (pt k2 1) ?_
 refine wl_l 9 (.tmp 95) (pt k2 1) (.string (s.extract k e)) (run_one Q2 9 1 rfl Tryd.underlying9 rfl) ?_
 refine wl_call 21 [(.tmp 96)] _ [.string (s.extract k e)] (.tuple #[.string (unq (s.extract k e)).1, .bool true]) rfl rfl (fun _ _ => by kernel_rfl) (runq_c hu _ (by omega)) rfl ?_
 intro w10 hq
 replace Q1 := Q1.mo hq
 replace Q2 := Q2.mo hq
 replace M := M.trans hq
 clear hq
 refine wl_m (.tmp 97) (.tuple #[.string (unq (s.extract k e)).1, .bool true]) ?_
 refine wl_un (fun v => Instr.extract v 0) (.tmp 94) (.tuple #[.string (unq (s.extract k e)).1, .bool true]) (.string (unq (s.extract k e)).1) (fun _ => rfl) rfl (by kernel_rfl) rfl ?_
 refine wl_un (fun v => Instr.extract v 1) (.tmp 94) (.tuple #[.string (unq (s.extract k e)).1, .bool true]) (.bool true) (fun _ => rfl) rfl (by kernel_rfl) rfl ?_
 refine wl_m (.tmp 98) (.string (unq (s.extract k e)).1) ?_
 refine wl_m (.tmp 99) (.bool true) ?_
 refine w_nil (xn_then (w_seq (w_reg ?_)))
 refine wl_m (.tmp 13) (.string (unq (s.extract k e)).1) ?_
 refine wl_build 35 [(0, (.const (.int .i64 (3)))), (3, (.tmp 100))] [(0, .int .i64 (3)), (3, .string (unq (s.extract k e)).1)] (.agg #[.int .i64 (3), .bool false, .int .u64 0, .int .u64 0, .int .u64 0, .int .u64 0, .int .i64 0, .bool false, .string (unq (s.extract k e)).1, .int .i64 0]) rfl rfl (by kernel_rfl) rfl ?_
 refine wl_f 37 2 (.tmp 6) (pt k2 0) (pt k2 2) ?_
 refine wl_st 35 (.tmp 102) (.tmp 101) k2 2 #[.int .i64 (3), .bool false, .int .u64 0, .int .u64 0, .int .u64 0, .int .u64 0, .int .i64 0, .bool false, .string (unq (s.extract k e)).1, .int .i64 0] _ [.int .i64 (3), .string (s.extract k e), .int .i64 (3), .bool false, .int .u64 0, .int .u64 0, .int .u64 0, .int .u64 0, .int .i64 0, .bool false, .string (unq (s.extract k e)).1, .int .i64 0, .int .i64 ((k : Nat) : Int)] Q2 rfl rfl rfl rfl rfl sz35 rfl rfl rfl ?_
 intro w11 hS Qn
 replace Q2 := Qn
 clear Qn
 replace Q1 := hS.other _ _ ne_k1_k2 Q1
 replace M := hS.mo _ N_k2 M
 clear hS
 refine w_nil (xn_then (w_reg ?_))
 refine wl_m (.tmp 14) (.bool true) ?_
 refine wl_m (.tmp 103) (.bool true) ?_
 refine wl_m (.tmp 13) (.string (unq (s.extract k e)).1) ?_
 refine wl_val (.int .i64 (((unq (s.extract k e)).1.size : Nat) : Int)) (len_z _ _ (unq (s.extract k e)).1 (by exact rfl) _ _ _ _ _ _) rfl ?_
 refine wl_b .leq 3 (.tmp 106) (.const (.int .i64 (64))) (.int .i64 (((unq (s.extract k e)).1.size : Nat) : Int)) (.int .i64 (64)) (.bool true) (leN h64 _ _ _) ?_
 refine wl_pick (.tmp 104) (.tmp 107) (.const (.bool false)) true (.bool true) (fun _ => rfl) rfl rfl rfl ?_
 refine wl_m (.tmp 108) (.bool true) ?_
 refine w_nil (xn_blk (xn_then (w_seq (w_seq (w_reg ?_)))))
 refine wl_m (.tmp 8) (.bool true) ?_
 refine wl_un (fun v => Op.unary .not v) (.tmp 130) (.bool true) (.bool false) (fun _ => rfl) rfl (by kernel_rfl) rfl ?_
 refine w_nil (xn_then (w_condF rfl (w_skip (xn_then (w_seq (w_reg ?_))))))
 refine wl_l 37 (.tmp 6) (pt k2 0) (.agg #[.int .i64 (3), .string (s.extract k e), .int .i64 (3), .bool false, .int .u64 0, .int .u64 0, .int .u64 0, .int .u64 0, .int .i64 0, .bool false, .string (unq (s.extract k e)).1, .int .i64 0, .int .i64 ((k : Nat) : Int)]) (run_row Q2 37 0 13 _ rfl Tryd.underlying37 rfl sz37) ?_
 refine wl_st 37 (.tmp 4) (.tmp 133) k1 0 #[.int .i64 (3), .string (s.extract k e), .int .i64 (3), .bool false, .int .u64 0, .int .u64 0, .int .u64 0, .int .u64 0, .int .i64 0, .bool false, .string (unq (s.extract k e)).1, .int .i64 0, .int .i64 ((k : Nat) : Int)] _ [.int .i64 (3), .string (s.extract k e), .int .i64 (3), .bool false, .int .u64 0, .int .u64 0, .int .u64 0, .int .u64 0, .int .i64 0, .bool false, .string (unq (s.extract k e)).1, .int .i64 0, .int .i64 ((k : Nat) : Int)] Q1 rfl rfl rfl rfl rfl sz37 rfl rfl rfl ?_
 intro w12 hS Qn
 replace Q1 := Qn
 clear Qn
 replace Q2 := hS.other _ _ ne_k1_k2.symm Q2
 replace M := hS.mo _ N_k1 M
 clear hS
 refine wl_m (.const (.int .i64 (0))) (.int .i64 (0)) ?_
 refine w_nil (xn_then (w_ret ?_))
 exact w_ret2 _ _ (.agg #[.int .i64 (3), .string (s.extract k e), .int .i64 (3), .bool false, .int .u64 0, .int .u64 0, .int .u64 0, .int .u64 0, .int .i64 0, .bool false, .string (unq (s.extract k e)).1, .int .i64 0, .int .i64 ((k : Nat) : Int)]) (.int .i64 (0)) rfl ⟨k1, rfl, (run_row Q1 37 0 13 _ rfl Tryd.underlying37 rfl sz37)⟩ rfl ⟨rfl, M⟩
theorem rnext_4t (s : ByteArray) (k e : Nat) (w : World) (hs : s.size ≤ 1000000000000) (hk : k < s.size) (h1 : ltr (bt s k) = false) (h2 : dgt (bt s k) = false) (h34 : (bt s k == 34) = false) (hz : k + 1 < s.size) (h4 : symb (s.extract k (k + 2)) = false) (he : k + 1 = e) (ho : symb (s.extract k e) = true) : Calls Tryd.prog 13 #[.string s, .int .i64 ((k : Nat) : Int)] w fun e' w' => e' = .returned (.tuple #[.agg #[.int .i64 (4), .string (s.extract k e), .int .i64 0, .bool false, .int .u64 0, .int .u64 0, .int .u64 0, .int .u64 0, .int .i64 0, .bool false, .string ⟨#[]⟩, .int .i64 0, .int .i64 ((k : Nat) : Int)], .int .i64 0]) ∧ Mw w w' := by
 have hsz : (s.extract k e).size ≤ s.size := by rw [ByteArray.size_extract]; omega
 refine w_enter 134 Tryd.func13 Tryd.ntmps13 rfl rfl ?_
 have M : Mw w w := Mw.refl _
 refine w_seq (w_reg ?_)
 refine wl_alloc 37 #[.int .i64 0, .string ⟨#[]⟩, .int .i64 0, .bool false, .int .u64 0, .int .u64 0, .int .u64 0, .int .u64 0, .int .i64 0, .bool false, .string ⟨#[]⟩, .int .i64 0, .int .i64 0] rfl (fun _ => by kernel_rfl) rfl ?_
 intro k1 w1 hk hz hq Q1
 have N_k1 : w.heap.size ≤ k1 := by have := M.size; omega
 replace M := M.trans hq
 clear hk hz hq
 refine wl_m (.const (.int .i64 (0))) (.int .i64 (0)) ?_
 refine w_nil (xn_then (w_seq (w_seq (w_reg ?_))))
 refine wl_m (.tmp 1) (.int .i64 ((k : Nat) : Int)) ?_
 refine wl_b .lss 3 (.tmp 15) (.const (.int .i64 (0))) (.int .i64 ((k : Nat) : Int)) (.int .i64 (0)) (.bool false) (lt3_run (r := false) (decide_eq_false (by omega)) _ _ _) ?_
 refine wl_m (.tmp 16) (.bool false) ?_
 refine wl_m (.tmp 1) (.int .i64 ((k : Nat) : Int)) ?_
 refine wl_m (.tmp 0) (.string s) ?_
 refine wl_val (.int .i64 ((s.size : Nat) : Int)) (len_s _ _ s (by exact rfl) _ _ _ _ _ _) rfl ?_
 refine wl_b .geq 3 (.tmp 18) (.tmp 20) (.int .i64 ((k : Nat) : Int)) (.int .i64 ((s.size : Nat) : Int)) (.bool false) (geN (decide_eq_false (by omega)) _ _ _) ?_
 refine wl_pick (.tmp 17) (.const (.bool true)) (.tmp 21) false (.bool false) (fun _ => rfl) rfl rfl rfl ?_
 refine w_nil (xn_then (w_condF rfl (w_skip (xn_then (w_seq (w_reg ?_))))))
 refine wl_m (.tmp 1) (.int .i64 ((k : Nat) : Int)) ?_
 refine wl_build 37 [(3, (.tmp 24))] [(3, .int .i64 ((k : Nat) : Int))] (.agg #[.int .i64 0, .string ⟨#[]⟩, .int .i64 0, .bool false, .int .u64 0, .int .u64 0, .int .u64 0, .int .u64 0, .int .i64 0, .bool false, .string ⟨#[]⟩, .int .i64 0, .int .i64 ((k : Nat) : Int)]) rfl rfl (by kernel_rfl) rfl ?_
 refine wl_alloc 37 #[.int .i64 0, .string ⟨#[]⟩, .int .i64 0, .bool false, .int .u64 0, .int .u64 0, .int .u64 0, .int .u64 0, .int .i64 0, .bool false, .string ⟨#[]⟩, .int .i64 0, .int .i64 0] rfl (fun _ => by kernel_rfl) rfl ?_
 intro k2 w2 hk hz hq Q2
 have ne_k1_k2 : k1 ≠ k2 := by have := Q1.lt; omega
 have N_k2 : w.heap.size ≤ k2 := by have := M.size; omega
 replace Q1 := Q1.mo hq
 replace M := M.trans hq
 clear hk hz hq
 refine wl_st 37 (.tmp 6) (.tmp 25) k2 0 #[.int .i64 0, .string ⟨#[]⟩, .int .i64 0, .bool false, .int .u64 0, .int .u64 0, .int .u64 0, .int .u64 0, .int .i64 0, .bool false, .string ⟨#[]⟩, .int .i64 0, .int .i64 ((k : Nat) : Int)] _ [.int .i64 0, .string ⟨#[]⟩, .int .i64 0, .bool false, .int .u64 0, .int .u64 0, .int .u64 0, .int .u64 0, .int .i64 0, .bool false, .string ⟨#[]⟩, .int .i64 0, .int .i64 ((k : Nat) : Int)] Q2 rfl rfl rfl rfl rfl sz37 rfl rfl rfl ?_
 intro w3 hS Qn
 replace Q2 := Qn
 clear Qn
 replace Q1 := hS.other _ _ ne_k1_k2 Q1
 replace M := hS.mo _ N_k2 M
 clear hS
 refine w_nil (xn_then (w_seq (w_reg ?_)))
 refine wl_m (.tmp 0) (.string s) ?_
 refine wl_m (.tmp 1) (.int .i64 ((k : Nat) : Int)) ?_
 refine wl_bin (fun x y => Instr.index 9 x y) (.tmp 26) (.tmp 27) (.string s) (.int .i64 ((k : Nat) : Int)) (.int .u8 (bt s (k))) (fun _ => rfl) rfl rfl (idx_b (k := k) (by omega) _) rfl ?_
 refine wl_m (.tmp 28) (.int .u8 (bt s (k))) ?_
 refine w_nil (xn_then (w_seq (w_reg ?_)))
 refine wl_m (.const (.bool false)) (.bool false) ?_
 refine w_nil (xn_then (w_seq (w_block (w_seq (w_reg ?_)))))
 refine wl_m (.tmp 7) (.int .u8 (bt s (k))) ?_
 refine wl_call 29 [(.tmp 40)] _ [.int .u8 (bt s (k))] (.bool false) rfl rfl (fun _ _ => by kernel_rfl) (rlt_c h1 _) rfl ?_
 intro w4 hq
 replace Q1 := Q1.mo hq
 replace Q2 := Q2.mo hq
 replace M := M.trans hq
 clear hq
 refine wl_m (.tmp 41) (.bool false) ?_
 refine w_nil (xn_then (w_condF rfl (w_seq (w_reg ?_))))
 refine wl_m (.tmp 7) (.int .u8 (bt s (k))) ?_
 refine wl_call 31 [(.tmp 54)] _ [.int .u8 (bt s (k))] (.bool false) rfl rfl (fun _ _ => by kernel_rfl) (rdg_c h2 _) rfl ?_
 intro w5 hq
 replace Q1 := Q1.mo hq
 replace Q2 := Q2.mo hq
 replace M := M.trans hq
 clear hq
 refine wl_m (.tmp 55) (.bool false) ?_
 refine w_nil (xn_then (w_condF rfl (w_seq (w_reg ?_))))
 refine wl_m (.tmp 7) (.int .u8 (bt s (k))) ?_
 refine wl_b .eql 5 (.tmp 79) (.const (.int .u8 (34))) (.int .u8 (bt s (k))) (.int .u8 (34)) (.bool false) (eq5r h34 _ _ _) ?_
 refine wl_m (.tmp 80) (.bool false) ?_
 refine w_nil (xn_then (w_condF rfl (w_seq (w_reg ?_))))
 refine wl_m (.tmp 1) (.int .i64 ((k : Nat) : Int)) ?_
 refine wl_b .add 3 (.tmp 110) (.const (.int .i64 (1))) (.int .i64 ((k : Nat) : Int)) (.int .i64 (1)) (.int .i64 ((e : Nat) : Int)) (addk (a := k) (b := 1) (c := e) (by omega) (by omega) _ _ _) ?_
 refine wl_m (.tmp 0) (.string s) ?_
 refine wl_val (.int .i64 ((s.size : Nat) : Int)) (len_s _ _ s (by exact rfl) _ _ _ _ _ _) rfl ?_
 refine wl_b .lss 3 (.tmp 111) (.tmp 113) (.int .i64 ((e : Nat) : Int)) (.int .i64 ((s.size : Nat) : Int)) (.bool true) (ltN (decide_eq_true (by omega)) _ _ _) ?_
 refine wl_m (.tmp 114) (.bool true) ?_
 refine wl_m (.tmp 0) (.string s) ?_
 refine wl_m (.tmp 1) (.int .i64 ((k : Nat) : Int)) ?_
 refine wl_m (.tmp 1) (.int .i64 ((k : Nat) : Int)) ?_
 refine wl_b .add 3 (.tmp 118) (.const (.int .i64 (2))) (.int .i64 ((k : Nat) : Int)) (.int .i64 (2)) (.int .i64 ((k + 2 : Nat) : Int)) (addk (a := k) (b := 2) rfl (by omega) _ _ _) ?_
 refine wl_val (.string (s.extract k (k + 2))) (mid_run _ _ _ _ s (k) (k + 2) (by exact rfl) (by exact rfl) (by exact rfl) (by omega) (by omega) _ _ _ _ _ _) rfl ?_
 refine wl_call 19 [(.tmp 120)] _ [.string (s.extract k (k + 2))] (.bool false) rfl rfl (fun _ _ => by kernel_rfl) (rsym_c h4 _) rfl ?_
 intro w6 hq
 replace Q1 := Q1.mo hq
 replace Q2 := Q2.mo hq
 replace M := M.trans hq
 clear hq
 refine wl_pick (.tmp 115) (.tmp 121) (.const (.bool false)) true (.bool false) (fun _ => rfl) rfl rfl rfl ?_
 refine wl_m (.tmp 122) (.bool false) ?_
 refine w_nil (xn_then (w_condF rfl (w_seq ?_)))
 refine w_any 6 [.inl (.string s), .inl (.int .i64 ((k : Nat) : Int)), .inl (.int .i64 ((k : Nat) : Int)), .inl (.int .i64 ((e : Nat) : Int)), .inl (.string (s.extract k e)), .inl (pt k2 0)] [0, 1, 2, 3, 4] (by kernel_rfl) (by kernel_rfl) (by kernel_rfl) (by kernel_rfl) rfl (by kernel_rfl) (by kernel_rfl) (late_cons ⟨_, _, rfl, rfl, fun _ _ _ _ h => h, fun f hd => ⟨rfl, la_mv (.tmp 0) (.string s) (fun _ => rfl) rfl⟩⟩ (late_cons ⟨_, _, rfl, rfl, fun _ _ _ _ h => h, fun f hd => ⟨rfl, la_mv (.tmp 1) (.int .i64 ((k : Nat) : Int)) (fun _ => rfl) rfl⟩⟩ (late_cons ⟨_, _, rfl, rfl, fun _ _ _ _ h => h, fun f hd => ⟨rfl, la_mv (.tmp 1) (.int .i64 ((k : Nat) : Int)) (fun _ => rfl) rfl⟩⟩ (late_cons ⟨_, _, rfl, rfl, fun _ _ _ _ h => h, fun f hd => ⟨rfl, la_bin (fun x y => do eqGuard .add 3 (.tmp 31) (.const (.int .i64 (1))) x y; binOp .add 3 x y) (.tmp 31) (.const (.int .i64 (1))) (.int .i64 ((k : Nat) : Int)) (.int .i64 (1)) (.int .i64 ((e : Nat) : Int)) (fun _ => rfl) (hd 2 rfl _ rfl) rfl (fun w => (addk (a := k) (b := 1) (c := e) (by omega) (by omega) _ _ w))⟩⟩ (late_cons ⟨_, _, rfl, rfl, fun _ _ _ _ h => h, fun f hd => ⟨rfl, (fun w => (mid_run _ _ _ _ s (k) (e) (by exact (hd 0 rfl _ rfl)) (by exact (hd 1 rfl _ rfl)) (by exact (hd 3 rfl _ rfl)) (by omega) (by omega) _ _ _ _ _ w))⟩⟩ late_nil))))) ?_ ?_ ?_
 ·exact Ds.none rfl
 ·refine ea_cons ?_ (ea_cons ?_ (ea_cons ?_ (ea_cons ?_ (ea_cons ?_ (ea_cons ?_ (ea_nil))))))
  ·exact og_eq _ rfl (fun f wf hq hd K hK => go_run rfl (wo_mv (.tmp 0) (.string s) (fun _ => rfl) rfl (hK _ (Mw.refl _))))
  ·exact og_eq _ rfl (fun f wf hq hd K hK => go_run rfl (wo_mv (.tmp 1) (.int .i64 ((k : Nat) : Int)) (fun _ => rfl) rfl (hK _ (Mw.refl _))))
  ·exact og_eq _ rfl (fun f wf hq hd K hK => go_run rfl (wo_mv (.tmp 1) (.int .i64 ((k : Nat) : Int)) (fun _ => rfl) rfl (hK _ (Mw.refl _))))
  ·exact og_eq _ rfl (fun f wf hq hd K hK => go_run rfl (wo_bin (fun x y => do eqGuard .add 3 (.tmp 31) (.const (.int .i64 (1))) x y; binOp .add 3 x y) (.tmp 31) (.const (.int .i64 (1))) (.int .i64 ((k : Nat) : Int)) (.int .i64 (1)) (.int .i64 ((e : Nat) : Int)) (fun _ => rfl) (hd 2 rfl) rfl (addk (a := k) (b := 1) (c := e) (by omega) (by omega) _ _ _) (hK _ (Mw.refl _))))
  ·exact og_eq _ rfl (fun f wf hq hd K hK => go_run rfl (wo_val (.string (s.extract k e)) (mid_run _ _ _ _ s (k) (e) (by exact (hd 0 rfl)) (by exact (hd 1 rfl)) (by exact (hd 3 rfl)) (by omega) (by omega) _ _ _ _ _ _) (hK _ (Mw.refl _))))
  ·exact og_eq _ rfl (fun f wf hq hd K hK => go_run rfl (wo_un (fun v => Instr.fieldAt 37 v 0) (.tmp 6) (pt k2 0) (pt k2 0) (fun _ => rfl) rfl (by kernel_rfl) (hK _ (Mw.refl _))))
 intro kf7 w7 hq hR hne
 replace Q1 := Q1.mo hq
 replace Q2 := Q2.mo hq
 replace M := M.trans hq
 clear hq hR hne
 refine wl_st1 3 (.tmp 34) (.const (.int .i64 (4))) k2 0 (.int .i64 (4)) _ [.int .i64 (4), .string ⟨#[]⟩, .int .i64 0, .bool false, .int .u64 0, .int .u64 0, .int .u64 0, .int .u64 0, .int .i64 0, .bool false, .string ⟨#[]⟩, .int .i64 0, .int .i64 ((k : Nat) : Int)] Q2 rfl rfl rfl rfl rfl sz3 rfl rfl rfl rfl ?_
 intro w8 hS Qn
 replace Q2 := Qn
 clear Qn
 replace Q1 := hS.other _ _ ne_k1_k2 Q1
 replace M := hS.mo _ N_k2 M
 clear hS
 refine wl_f 37 1 (.tmp 6) (pt k2 0) (pt k2 1) ?_
 refine wl_st1 9 (.tmp 35) (.tmp 33) k2 1 (.string (s.extract k e)) _ [.int .i64 (4), .string (s.extract k e), .int .i64 0, .bool false, .int .u64 0, .int .u64 0, .int .u64 0, .int .u64 0, .int .i64 0, .bool false, .string ⟨#[]⟩, .int .i64 0, .int .i64 ((k : Nat) : Int)] Q2 rfl rfl rfl rfl rfl sz9 rfl rfl rfl rfl ?_
 intro w9 hS Qn
 replace Q2 := Qn
 clear Qn
 replace Q1 := hS.other _ _ ne_k1_k2 Q1
 replace M := hS.mo _ N_k2 M
 clear hS
 refine w_nil (xn_then (w_reg ?_))
 refine wl_f 37 1 (.tmp 6) (pt k2 0) (pt k2 1) ?_
 refine wl_l 9 (.tmp 36) (pt k2 1) (.string (s.extract k e)) (run_one Q2 9 1 rfl Tryd.underlying9 rfl) ?_
 refine wl_call 19 [(.tmp 37)] _ [.string (s.extract k e)] (.bool true) rfl rfl (fun _ _ => by kernel_rfl) (rsym_c ho _) rfl ?_
 intro w10 hq
 replace Q1 := Q1.mo hq
 replace Q2 := Q2.mo hq
 replace M := M.trans hq
 clear hq
 refine wl_m (.tmp 38) (.bool true) ?_
 refine w_nil (xn_blk (xn_then (w_seq (w_seq (w_reg ?_)))))
 refine wl_m (.tmp 8) (.bool true) ?_
 refine wl_un (fun v => Op.unary .not v) (.tmp 130) (.bool true) (.bool false) (fun _ => rfl) rfl (by kernel_rfl) rfl ?_
 refine w_nil (xn_then (w_condF rfl (w_skip (xn_then (w_seq (w_reg ?_))))))
 refine wl_l 37 (.tmp 6) (pt k2 0) (.agg #[.int .i64 (4), .string (s.extract k e), .int .i64 0, .bool false, .int .u64 0, .int .u64 0, .int .u64 0, .int .u64 0, .int .i64 0, .bool false, .string ⟨#[]⟩, .int .i64 0, .int .i64 ((k : Nat) : Int)]) (run_row Q2 37 0 13 _ rfl Tryd.underlying37 rfl sz37) ?_
 refine wl_st 37 (.tmp 4) (.tmp 133) k1 0 #[.int .i64 (4), .string (s.extract k e), .int .i64 0, .bool false, .int .u64 0, .int .u64 0, .int .u64 0, .int .u64 0, .int .i64 0, .bool false, .string ⟨#[]⟩, .int .i64 0, .int .i64 ((k : Nat) : Int)] _ [.int .i64 (4), .string (s.extract k e), .int .i64 0, .bool false, .int .u64 0, .int .u64 0, .int .u64 0, .int .u64 0, .int .i64 0, .bool false, .string ⟨#[]⟩, .int .i64 0, .int .i64 ((k : Nat) : Int)] Q1 rfl rfl rfl rfl rfl sz37 rfl rfl rfl ?_
 intro w11 hS Qn
 replace Q1 := Qn
 clear Qn
 replace Q2 := hS.other _ _ ne_k1_k2.symm Q2
 replace M := hS.mo _ N_k1 M
 clear hS
 refine wl_m (.const (.int .i64 (0))) (.int .i64 (0)) ?_
 refine w_nil (xn_then (w_ret ?_))
 exact w_ret2 _ _ (.agg #[.int .i64 (4), .string (s.extract k e), .int .i64 0, .bool false, .int .u64 0, .int .u64 0, .int .u64 0, .int .u64 0, .int .i64 0, .bool false, .string ⟨#[]⟩, .int .i64 0, .int .i64 ((k : Nat) : Int)]) (.int .i64 (0)) rfl ⟨k1, rfl, (run_row Q1 37 0 13 _ rfl Tryd.underlying37 rfl sz37)⟩ rfl ⟨rfl, M⟩
theorem rnext_5t (s : ByteArray) (k e : Nat) (w : World) (hs : s.size ≤ 1000000000000) (hk : k < s.size) (h1 : ltr (bt s k) = false) (h2 : dgt (bt s k) = false) (h34 : (bt s k == 34) = false) (hz : ¬ k + 1 < s.size) (he : k + 1 = e) (ho : symb (s.extract k e) = true) : Calls Tryd.prog 13 #[.string s, .int .i64 ((k : Nat) : Int)] w fun e' w' => e' = .returned (.tuple #[.agg #[.int .i64 (4), .string (s.extract k e), .int .i64 0, .bool false, .int .u64 0, .int .u64 0, .int .u64 0, .int .u64 0, .int .i64 0, .bool false, .string ⟨#[]⟩, .int .i64 0, .int .i64 ((k : Nat) : Int)], .int .i64 0]) ∧ Mw w w' := by
 have hsz : (s.extract k e).size ≤ s.size := by rw [ByteArray.size_extract]; omega
 refine w_enter 134 Tryd.func13 Tryd.ntmps13 rfl rfl ?_
 have M : Mw w w := Mw.refl _
 refine w_seq (w_reg ?_)
 refine wl_alloc 37 #[.int .i64 0, .string ⟨#[]⟩, .int .i64 0, .bool false, .int .u64 0, .int .u64 0, .int .u64 0, .int .u64 0, .int .i64 0, .bool false, .string ⟨#[]⟩, .int .i64 0, .int .i64 0] rfl (fun _ => by kernel_rfl) rfl ?_
 intro k1 w1 hk hz hq Q1
 have N_k1 : w.heap.size ≤ k1 := by have := M.size; omega
 replace M := M.trans hq
 clear hk hz hq
 refine wl_m (.const (.int .i64 (0))) (.int .i64 (0)) ?_
 refine w_nil (xn_then (w_seq (w_seq (w_reg ?_))))
 refine wl_m (.tmp 1) (.int .i64 ((k : Nat) : Int)) ?_
 refine wl_b .lss 3 (.tmp 15) (.const (.int .i64 (0))) (.int .i64 ((k : Nat) : Int)) (.int .i64 (0)) (.bool false) (lt3_run (r := false) (decide_eq_false (by omega)) _ _ _) ?_
 refine wl_m (.tmp 16) (.bool false) ?_
 refine wl_m (.tmp 1) (.int .i64 ((k : Nat) : Int)) ?_
 refine wl_m (.tmp 0) (.string s) ?_
 refine wl_val (.int .i64 ((s.size : Nat) : Int)) (len_s _ _ s (by exact rfl) _ _ _ _ _ _) rfl ?_
 refine wl_b .geq 3 (.tmp 18) (.tmp 20) (.int .i64 ((k : Nat) : Int)) (.int .i64 ((s.size : Nat) : Int)) (.bool false) (geN (decide_eq_false (by omega)) _ _ _) ?_
 refine wl_pick (.tmp 17) (.const (.bool true)) (.tmp 21) false (.bool false) (fun _ => rfl) rfl rfl rfl ?_
 refine w_nil (xn_then (w_condF rfl (w_skip (xn_then (w_seq (w_reg ?_))))))
 refine wl_m (.tmp 1) (.int .i64 ((k : Nat) : Int)) ?_
 refine wl_build 37 [(3, (.tmp 24))] [(3, .int .i64 ((k : Nat) : Int))] (.agg #[.int .i64 0, .string ⟨#[]⟩, .int .i64 0, .bool false, .int .u64 0, .int .u64 0, .int .u64 0, .int .u64 0, .int .i64 0, .bool false, .string ⟨#[]⟩, .int .i64 0, .int .i64 ((k : Nat) : Int)]) rfl rfl (by kernel_rfl) rfl ?_
 refine wl_alloc 37 #[.int .i64 0, .string ⟨#[]⟩, .int .i64 0, .bool false, .int .u64 0, .int .u64 0, .int .u64 0, .int .u64 0, .int .i64 0, .bool false, .string ⟨#[]⟩, .int .i64 0, .int .i64 0] rfl (fun _ => by kernel_rfl) rfl ?_
 intro k2 w2 hk hz hq Q2
 have ne_k1_k2 : k1 ≠ k2 := by have := Q1.lt; omega
 have N_k2 : w.heap.size ≤ k2 := by have := M.size; omega
 replace Q1 := Q1.mo hq
 replace M := M.trans hq
 clear hk hz hq
 refine wl_st 37 (.tmp 6) (.tmp 25) k2 0 #[.int .i64 0, .string ⟨#[]⟩, .int .i64 0, .bool false, .int .u64 0, .int .u64 0, .int .u64 0, .int .u64 0, .int .i64 0, .bool false, .string ⟨#[]⟩, .int .i64 0, .int .i64 ((k : Nat) : Int)] _ [.int .i64 0, .string ⟨#[]⟩, .int .i64 0, .bool false, .int .u64 0, .int .u64 0, .int .u64 0, .int .u64 0, .int .i64 0, .bool false, .string ⟨#[]⟩, .int .i64 0, .int .i64 ((k : Nat) : Int)] Q2 rfl rfl rfl rfl rfl sz37 rfl rfl rfl ?_
 intro w3 hS Qn
 replace Q2 := Qn
 clear Qn
 replace Q1 := hS.other _ _ ne_k1_k2 Q1
 replace M := hS.mo _ N_k2 M
 clear hS
 refine w_nil (xn_then (w_seq (w_reg ?_)))
 refine wl_m (.tmp 0) (.string s) ?_
 refine wl_m (.tmp 1) (.int .i64 ((k : Nat) : Int)) ?_
 refine wl_bin (fun x y => Instr.index 9 x y) (.tmp 26) (.tmp 27) (.string s) (.int .i64 ((k : Nat) : Int)) (.int .u8 (bt s (k))) (fun _ => rfl) rfl rfl (idx_b (k := k) (by omega) _) rfl ?_
 refine wl_m (.tmp 28) (.int .u8 (bt s (k))) ?_
 refine w_nil (xn_then (w_seq (w_reg ?_)))
 refine wl_m (.const (.bool false)) (.bool false) ?_
 refine w_nil (xn_then (w_seq (w_block (w_seq (w_reg ?_)))))
 refine wl_m (.tmp 7) (.int .u8 (bt s (k))) ?_
 refine wl_call 29 [(.tmp 40)] _ [.int .u8 (bt s (k))] (.bool false) rfl rfl (fun _ _ => by kernel_rfl) (rlt_c h1 _) rfl ?_
 intro w4 hq
 replace Q1 := Q1.mo hq
 replace Q2 := Q2.mo hq
 replace M := M.trans hq
 clear hq
 refine wl_m (.tmp 41) (.bool false) ?_
 refine w_nil (xn_then (w_condF rfl (w_seq (w_reg ?_))))
 refine wl_m (.tmp 7) (.int .u8 (bt s (k))) ?_
 refine wl_call 31 [(.tmp 54)] _ [.int .u8 (bt s (k))] (.bool false) rfl rfl (fun _ _ => by kernel_rfl) (rdg_c h2 _) rfl ?_
 intro w5 hq
 replace Q1 := Q1.mo hq
 replace Q2 := Q2.mo hq
 replace M := M.trans hq
 clear hq
 refine wl_m (.tmp 55) (.bool false) ?_
 refine w_nil (xn_then (w_condF rfl (w_seq (w_reg ?_))))
 refine wl_m (.tmp 7) (.int .u8 (bt s (k))) ?_
 refine wl_b .eql 5 (.tmp 79) (.const (.int .u8 (34))) (.int .u8 (bt s (k))) (.int .u8 (34)) (.bool false) (eq5r h34 _ _ _) ?_
 refine wl_m (.tmp 80) (.bool false) ?_
 refine w_nil (xn_then (w_condF rfl (w_seq (w_reg ?_))))
 refine wl_m (.tmp 1) (.int .i64 ((k : Nat) : Int)) ?_
 refine wl_b .add 3 (.tmp 110) (.const (.int .i64 (1))) (.int .i64 ((k : Nat) : Int)) (.int .i64 (1)) (.int .i64 ((e : Nat) : Int)) (addk (a := k) (b := 1) (c := e) (by omega) (by omega) _ _ _) ?_
 refine wl_m (.tmp 0) (.string s) ?_
 refine wl_val (.int .i64 ((s.size : Nat) : Int)) (len_s _ _ s (by exact rfl) _ _ _ _ _ _) rfl ?_
 refine wl_b .lss 3 (.tmp 111) (.tmp 113) (.int .i64 ((e : Nat) : Int)) (.int .i64 ((s.size : Nat) : Int)) (.bool false) (ltN (decide_eq_false (by omega)) _ _ _) ?_
 refine wl_m (.tmp 114) (.bool false) ?_
 refine wl_skip rfl (wl_skip rfl (wl_skip rfl (wl_skip rfl (wl_skip rfl (wl_skip rfl ?_)))))
 refine wl_pick (.tmp 115) (.tmp 121) (.const (.bool false)) false (.bool false) (fun _ => rfl) rfl rfl rfl ?_
 refine wl_m (.tmp 122) (.bool false) ?_
 refine w_nil (xn_then (w_condF rfl (w_seq ?_)))
 refine w_any 6 [.inl (.string s), .inl (.int .i64 ((k : Nat) : Int)), .inl (.int .i64 ((k : Nat) : Int)), .inl (.int .i64 ((e : Nat) : Int)), .inl (.string (s.extract k e)), .inl (pt k2 0)] [0, 1, 2, 3, 4] (by kernel_rfl) (by kernel_rfl) (by kernel_rfl) (by kernel_rfl) rfl (by kernel_rfl) (by kernel_rfl) (late_cons ⟨_, _, rfl, rfl, fun _ _ _ _ h => h, fun f hd => ⟨rfl, la_mv (.tmp 0) (.string s) (fun _ => rfl) rfl⟩⟩ (late_cons ⟨_, _, rfl, rfl, fun _ _ _ _ h => h, fun f hd => ⟨rfl, la_mv (.tmp 1) (.int .i64 ((k : Nat) : Int)) (fun _ => rfl) rfl⟩⟩ (late_cons ⟨_, _, rfl, rfl, fun _ _ _ _ h => h, fun f hd => ⟨rfl, la_mv (.tmp 1) (.int .i64 ((k : Nat) : Int)) (fun _ => rfl) rfl⟩⟩ (late_cons ⟨_, _, rfl, rfl, fun _ _ _ _ h => h, fun f hd => ⟨rfl, la_bin (fun x y => do eqGuard .add 3 (.tmp 31) (.const (.int .i64 (1))) x y; binOp .add 3 x y) (.tmp 31) (.const (.int .i64 (1))) (.int .i64 ((k : Nat) : Int)) (.int .i64 (1)) (.int .i64 ((e : Nat) : Int)) (fun _ => rfl) (hd 2 rfl _ rfl) rfl (fun w => (addk (a := k) (b := 1) (c := e) (by omega) (by omega) _ _ w))⟩⟩ (late_cons ⟨_, _, rfl, rfl, fun _ _ _ _ h => h, fun f hd => ⟨rfl, (fun w => (mid_run _ _ _ _ s (k) (e) (by exact (hd 0 rfl _ rfl)) (by exact (hd 1 rfl _ rfl)) (by exact (hd 3 rfl _ rfl)) (by omega) (by omega) _ _ _ _ _ w))⟩⟩ late_nil))))) ?_ ?_ ?_
 ·exact Ds.none rfl
 ·refine ea_cons ?_ (ea_cons ?_ (ea_cons ?_ (ea_cons ?_ (ea_cons ?_ (ea_cons ?_ (ea_nil))))))
  ·exact og_eq _ rfl (fun f wf hq hd K hK => go_run rfl (wo_mv (.tmp 0) (.string s) (fun _ => rfl) rfl (hK _ (Mw.refl _))))
  ·exact og_eq _ rfl (fun f wf hq hd K hK => go_run rfl (wo_mv (.tmp 1) (.int .i64 ((k : Nat) : Int)) (fun _ => rfl) rfl (hK _ (Mw.refl _))))
  ·exact og_eq _ rfl (fun f wf hq hd K hK => go_run rfl (wo_mv (.tmp 1) (.int .i64 ((k : Nat) : Int)) (fun _ => rfl) rfl (hK _ (Mw.refl _))))
  ·exact og_eq _ rfl (fun f wf hq hd K hK => go_run rfl (wo_bin (fun x y => do eqGuard .add 3 (.tmp 31) (.const (.int .i64 (1))) x y; binOp .add 3 x y) (.tmp 31) (.const (.int .i64 (1))) (.int .i64 ((k : Nat) : Int)) (.int .i64 (1)) (.int .i64 ((e : Nat) : Int)) (fun _ => rfl) (hd 2 rfl) rfl (addk (a := k) (b := 1) (c := e) (by omega) (by omega) _ _ _) (hK _ (Mw.refl _))))
  ·exact og_eq _ rfl (fun f wf hq hd K hK => go_run rfl (wo_val (.string (s.extract k e)) (mid_run _ _ _ _ s (k) (e) (by exact (hd 0 rfl)) (by exact (hd 1 rfl)) (by exact (hd 3 rfl)) (by omega) (by omega) _ _ _ _ _ _) (hK _ (Mw.refl _))))
  ·exact og_eq _ rfl (fun f wf hq hd K hK => go_run rfl (wo_un (fun v => Instr.fieldAt 37 v 0) (.tmp 6) (pt k2 0) (pt k2 0) (fun _ => rfl) rfl (by kernel_rfl) (hK _ (Mw.refl _))))
 intro kf6 w6 hq hR hne
 replace Q1 := Q1.mo hq
 replace Q2 := Q2.mo hq
 replace M := M.trans hq
 clear hq hR hne
 refine wl_st1 3 (.tmp 34) (.const (.int .i64 (4))) k2 0 (.int .i64 (4)) _ [.int .i64 (4), .string ⟨#[]⟩, .int .i64 0, .bool false, .int .u64 0, .int .u64 0, .int .u64 0, .int .u64 0, .int .i64 0, .bool false, .string ⟨#[]⟩, .int .i64 0, .int .i64 ((k : Nat) : Int)] Q2 rfl rfl rfl rfl rfl sz3 rfl rfl rfl rfl ?_
 intro w7 hS Qn
 replace Q2 := Qn
 clear Qn
 replace Q1 := hS.other _ _ ne_k1_k2 Q1
 replace M := hS.mo _ N_k2 M
 clear hS
 refine wl_f 37 1 (.tmp 6) (pt k2 0) (pt k2 1) ?_
 refine wl_st1 9 (.tmp 35) (.tmp 33) k2 1 (.string (s.extract k e)) _ [.int .i64 (4), .string (s.extract k e), .int .i64 0, .bool false, .int .u64 0, .int .u64 0, .int .u64 0, .int .u64 0, .int .i64 0, .bool false, .string ⟨#[]⟩, .int .i64 0, .int .i64 ((k : Nat) : Int)] Q2 rfl rfl rfl rfl rfl sz9 rfl rfl rfl rfl ?_
 intro w8 hS Qn
 replace Q2 := Qn
 clear Qn
 replace Q1 := hS.other _ _ ne_k1_k2 Q1
 replace M := hS.mo _ N_k2 M
 clear hS
 refine w_nil (xn_then (w_reg ?_))
 refine wl_f 37 1 (.tmp 6) (pt k2 0) (pt k2 1) ?_
 refine wl_l 9 (.tmp 36) (pt k2 1) (.string (s.extract k e)) (run_one Q2 9 1 rfl Tryd.underlying9 rfl) ?_
 refine wl_call 19 [(.tmp 37)] _ [.string (s.extract k e)] (.bool true) rfl rfl (fun _ _ => by kernel_rfl) (rsym_c ho _) rfl ?_
 intro w9 hq
 replace Q1 := Q1.mo hq
 replace Q2 := Q2.mo hq
 replace M := M.trans hq
 clear hq
 refine wl_m (.tmp 38) (.bool true) ?_
 refine w_nil (xn_blk (xn_then (w_seq (w_seq (w_reg ?_)))))
 refine wl_m (.tmp 8) (.bool true) ?_
 refine wl_un (fun v => Op.unary .not v) (.tmp 130) (.bool true) (.bool false) (fun _ => rfl) rfl (by kernel_rfl) rfl ?_
 refine w_nil (xn_then (w_condF rfl (w_skip (xn_then (w_seq (w_reg ?_))))))
 refine wl_l 37 (.tmp 6) (pt k2 0) (.agg #[.int .i64 (4), .string (s.extract k e), .int .i64 0, .bool false, .int .u64 0, .int .u64 0, .int .u64 0, .int .u64 0, .int .i64 0, .bool false, .string ⟨#[]⟩, .int .i64 0, .int .i64 ((k : Nat) : Int)]) (run_row Q2 37 0 13 _ rfl Tryd.underlying37 rfl sz37) ?_
 refine wl_st 37 (.tmp 4) (.tmp 133) k1 0 #[.int .i64 (4), .string (s.extract k e), .int .i64 0, .bool false, .int .u64 0, .int .u64 0, .int .u64 0, .int .u64 0, .int .i64 0, .bool false, .string ⟨#[]⟩, .int .i64 0, .int .i64 ((k : Nat) : Int)] _ [.int .i64 (4), .string (s.extract k e), .int .i64 0, .bool false, .int .u64 0, .int .u64 0, .int .u64 0, .int .u64 0, .int .i64 0, .bool false, .string ⟨#[]⟩, .int .i64 0, .int .i64 ((k : Nat) : Int)] Q1 rfl rfl rfl rfl rfl sz37 rfl rfl rfl ?_
 intro w10 hS Qn
 replace Q1 := Qn
 clear Qn
 replace Q2 := hS.other _ _ ne_k1_k2.symm Q2
 replace M := hS.mo _ N_k1 M
 clear hS
 refine wl_m (.const (.int .i64 (0))) (.int .i64 (0)) ?_
 refine w_nil (xn_then (w_ret ?_))
 exact w_ret2 _ _ (.agg #[.int .i64 (4), .string (s.extract k e), .int .i64 0, .bool false, .int .u64 0, .int .u64 0, .int .u64 0, .int .u64 0, .int .i64 0, .bool false, .string ⟨#[]⟩, .int .i64 0, .int .i64 ((k : Nat) : Int)]) (.int .i64 (0)) rfl ⟨k1, rfl, (run_row Q1 37 0 13 _ rfl Tryd.underlying37 rfl sz37)⟩ rfl ⟨rfl, M⟩
theorem rnext_1f (s : ByteArray) (k e : Nat) (w : World) (hs : s.size ≤ 1000000000000) (hk : k < s.size) (h1 : ltr (bt s k) = true) (he : nme s k = e) (ho : nam (s.extract k e) = false) : Calls Tryd.prog 13 #[.string s, .int .i64 ((k : Nat) : Int)] w fun e' w' => e' = .returned (.tuple #[.agg #[.int .i64 0, .string ⟨#[]⟩, .int .i64 0, .bool false, .int .u64 0, .int .u64 0, .int .u64 0, .int .u64 0, .int .i64 0, .bool false, .string ⟨#[]⟩, .int .i64 0, .int .i64 0], .int .i64 70]) ∧ Mw w w' := by
 have hrg := nme_rg s _ k rfl (by omega)
 rw [he] at hrg
 have hsz : (s.extract k e).size ≤ s.size := by rw [ByteArray.size_extract]; omega
 refine w_enter 134 Tryd.func13 Tryd.ntmps13 rfl rfl ?_
 have M : Mw w w := Mw.refl _
 refine w_seq (w_reg ?_)
 refine wl_alloc 37 #[.int .i64 0, .string ⟨#[]⟩, .int .i64 0, .bool false, .int .u64 0, .int .u64 0, .int .u64 0, .int .u64 0, .int .i64 0, .bool false, .string ⟨#[]⟩, .int .i64 0, .int .i64 0] rfl (fun _ => by kernel_rfl) rfl ?_
 intro k1 w1 hk hz hq Q1
 have N_k1 : w.heap.size ≤ k1 := by have := M.size; omega
 replace M := M.trans hq
 clear hk hz hq
 refine wl_m (.const (.int .i64 (0))) (.int .i64 (0)) ?_
 refine w_nil (xn_then (w_seq (w_seq (w_reg ?_))))
 refine wl_m (.tmp 1) (.int .i64 ((k : Nat) : Int)) ?_
 refine wl_b .lss 3 (.tmp 15) (.const (.int .i64 (0))) (.int .i64 ((k : Nat) : Int)) (.int .i64 (0)) (.bool false) (lt3_run (r := false) (decide_eq_false (by omega)) _ _ _) ?_
 refine wl_m (.tmp 16) (.bool false) ?_
 refine wl_m (.tmp 1) (.int .i64 ((k : Nat) : Int)) ?_
 refine wl_m (.tmp 0) (.string s) ?_
 refine wl_val (.int .i64 ((s.size : Nat) : Int)) (len_s _ _ s (by exact rfl) _ _ _ _ _ _) rfl ?_
 refine wl_b .geq 3 (.tmp 18) (.tmp 20) (.int .i64 ((k : Nat) : Int)) (.int .i64 ((s.size : Nat) : Int)) (.bool false) (geN (decide_eq_false (by omega)) _ _ _) ?_
 refine wl_pick (.tmp 17) (.const (.bool true)) (.tmp 21) false (.bool false) (fun _ => rfl) rfl rfl rfl ?_
 refine w_nil (xn_then (w_condF rfl (w_skip (xn_then (w_seq (w_reg ?_))))))
 refine wl_m (.tmp 1) (.int .i64 ((k : Nat) : Int)) ?_
 refine wl_build 37 [(3, (.tmp 24))] [(3, .int .i64 ((k : Nat) : Int))] (.agg #[.int .i64 0, .string ⟨#[]⟩, .int .i64 0, .bool false, .int .u64 0, .int .u64 0, .int .u64 0, .int .u64 0, .int .i64 0, .bool false, .string ⟨#[]⟩, .int .i64 0, .int .i64 ((k : Nat) : Int)]) rfl rfl (by kernel_rfl) rfl ?_
 refine wl_alloc 37 #[.int .i64 0, .string ⟨#[]⟩, .int .i64 0, .bool false, .int .u64 0, .int .u64 0, .int .u64 0, .int .u64 0, .int .i64 0, .bool false, .string ⟨#[]⟩, .int .i64 0, .int .i64 0] rfl (fun _ => by kernel_rfl) rfl ?_
 intro k2 w2 hk hz hq Q2
 have ne_k1_k2 : k1 ≠ k2 := by have := Q1.lt; omega
 have N_k2 : w.heap.size ≤ k2 := by have := M.size; omega
 replace Q1 := Q1.mo hq
 replace M := M.trans hq
 clear hk hz hq
 refine wl_st 37 (.tmp 6) (.tmp 25) k2 0 #[.int .i64 0, .string ⟨#[]⟩, .int .i64 0, .bool false, .int .u64 0, .int .u64 0, .int .u64 0, .int .u64 0, .int .i64 0, .bool false, .string ⟨#[]⟩, .int .i64 0, .int .i64 ((k : Nat) : Int)] _ [.int .i64 0, .string ⟨#[]⟩, .int .i64 0, .bool false, .int .u64 0, .int .u64 0, .int .u64 0, .int .u64 0, .int .i64 0, .bool false, .string ⟨#[]⟩, .int .i64 0, .int .i64 ((k : Nat) : Int)] Q2 rfl rfl rfl rfl rfl sz37 rfl rfl rfl ?_
 intro w3 hS Qn
 replace Q2 := Qn
 clear Qn
 replace Q1 := hS.other _ _ ne_k1_k2 Q1
 replace M := hS.mo _ N_k2 M
 clear hS
 refine w_nil (xn_then (w_seq (w_reg ?_)))
 refine wl_m (.tmp 0) (.string s) ?_
 refine wl_m (.tmp 1) (.int .i64 ((k : Nat) : Int)) ?_
 refine wl_bin (fun x y => Instr.index 9 x y) (.tmp 26) (.tmp 27) (.string s) (.int .i64 ((k : Nat) : Int)) (.int .u8 (bt s (k))) (fun _ => rfl) rfl rfl (idx_b (k := k) (by omega) _) rfl ?_
 refine wl_m (.tmp 28) (.int .u8 (bt s (k))) ?_
 refine w_nil (xn_then (w_seq (w_reg ?_)))
 refine wl_m (.const (.bool false)) (.bool false) ?_
 refine w_nil (xn_then (w_seq (w_block (w_seq (w_reg ?_)))))
 refine wl_m (.tmp 7) (.int .u8 (bt s (k))) ?_
 refine wl_call 29 [(.tmp 40)] _ [.int .u8 (bt s (k))] (.bool true) rfl rfl (fun _ _ => by kernel_rfl) (rlt_c h1 _) rfl ?_
 intro w4 hq
 replace Q1 := Q1.mo hq
 replace Q2 := Q2.mo hq
 replace M := M.trans hq
 clear hq
 refine wl_m (.tmp 41) (.bool true) ?_
 refine w_nil (xn_then (w_condT rfl (w_seq ?_)))
 refine w_any 7 [.inl (.string s), .inl (.int .i64 ((k : Nat) : Int)), .inl (.string s), .inl (.int .i64 ((k : Nat) : Int)), .inl (.int .i64 ((e : Nat) : Int)), .inl (.string (s.extract k e)), .inl (pt k2 0)] [0, 1, 5] (by kernel_rfl) (by kernel_rfl) (by kernel_rfl) (by kernel_rfl) rfl (by kernel_rfl) (by kernel_rfl) (late_cons ⟨_, _, rfl, rfl, fun _ _ _ _ h => h, fun f hd => ⟨rfl, la_mv (.tmp 0) (.string s) (fun _ => rfl) rfl⟩⟩ (late_cons ⟨_, _, rfl, rfl, fun _ _ _ _ h => h, fun f hd => ⟨rfl, la_mv (.tmp 1) (.int .i64 ((k : Nat) : Int)) (fun _ => rfl) rfl⟩⟩ (late_cons ⟨_, _, rfl, rfl, fun _ _ _ _ h => h, fun f hd => ⟨rfl, (fun w => (mid_run _ _ _ _ s (k) (e) (by exact (hd 0 rfl _ rfl)) (by exact (hd 1 rfl _ rfl)) (by exact (hd 4 rfl _ rfl)) (by omega) (by omega) _ _ _ _ _ w))⟩⟩ late_nil))) ?_ ?_ ?_
 ·exact Ds.none rfl
 ·refine ea_cons ?_ (ea_cons ?_ (ea_cons ?_ (ea_cons ?_ (ea_cons ?_ (ea_cons ?_ (ea_cons ?_ (ea_nil)))))))
  ·exact og_eq _ rfl (fun f wf hq hd K hK => go_run rfl (wo_mv (.tmp 0) (.string s) (fun _ => rfl) rfl (hK _ (Mw.refl _))))
  ·exact og_eq _ rfl (fun f wf hq hd K hK => go_run rfl (wo_mv (.tmp 1) (.int .i64 ((k : Nat) : Int)) (fun _ => rfl) rfl (hK _ (Mw.refl _))))
  ·exact og_eq _ rfl (fun f wf hq hd K hK => go_run rfl (wo_mv (.tmp 0) (.string s) (fun _ => rfl) rfl (hK _ (Mw.refl _))))
  ·exact og_eq _ rfl (fun f wf hq hd K hK => go_run rfl (wo_mv (.tmp 1) (.int .i64 ((k : Nat) : Int)) (fun _ => rfl) rfl (hK _ (Mw.refl _))))
  ·exact og_eq _ rfl (fun f wf hq hd K hK => go_run rfl (wo_call 30 [(.tmp 44), (.tmp 45)] _ [.string s, .int .i64 ((k : Nat) : Int)] (.int .i64 ((e : Nat) : Int)) rfl (li2 (hd 2 rfl) (hd 3 rfl)) (fun _ _ => by kernel_rfl) (rnm_c he _ (by unfold maxLen; omega) (by omega)) hK))
  ·exact og_eq _ rfl (fun f wf hq hd K hK => go_run rfl (wo_val (.string (s.extract k e)) (mid_run _ _ _ _ s (k) (e) (by exact (hd 0 rfl)) (by exact (hd 1 rfl)) (by exact (hd 4 rfl)) (by omega) (by omega) _ _ _ _ _ _) (hK _ (Mw.refl _))))
  ·exact og_eq _ rfl (fun f wf hq hd K hK => go_run rfl (wo_un (fun v => Instr.fieldAt 37 v 0) (.tmp 6) (pt k2 0) (pt k2 0) (fun _ => rfl) rfl (by kernel_rfl) (hK _ (Mw.refl _))))
 intro kf5 w5 hq hR hne
 replace Q1 := Q1.mo hq
 replace Q2 := Q2.mo hq
 replace M := M.trans hq
 clear hq hR hne
 refine wl_st1 3 (.tmp 48) (.const (.int .i64 (1))) k2 0 (.int .i64 (1)) _ [.int .i64 (1), .string ⟨#[]⟩, .int .i64 0, .bool false, .int .u64 0, .int .u64 0, .int .u64 0, .int .u64 0, .int .i64 0, .bool false, .string ⟨#[]⟩, .int .i64 0, .int .i64 ((k : Nat) : Int)] Q2 rfl rfl rfl rfl rfl sz3 rfl rfl rfl rfl ?_
 intro w6 hS Qn
 replace Q2 := Qn
 clear Qn
 replace Q1 := hS.other _ _ ne_k1_k2 Q1
 replace M := hS.mo _ N_k2 M
 clear hS
 refine wl_f 37 1 (.tmp 6) (pt k2 0) (pt k2 1) ?_
 refine wl_st1 9 (.tmp 49) (.tmp 47) k2 1 (.string (s.extract k e)) _ [.int .i64 (1), .string (s.extract k e), .int .i64 0, .bool false, .int .u64 0, .int .u64 0, .int .u64 0, .int .u64 0, .int .i64 0, .bool false, .string ⟨#[]⟩, .int .i64 0, .int .i64 ((k : Nat) : Int)] Q2 rfl rfl rfl rfl rfl sz9 rfl rfl rfl rfl ?_
 intro w7 hS Qn
 replace Q2 := Qn
 clear Qn
 replace Q1 := hS.other _ _ ne_k1_k2 Q1
 replace M := hS.mo _ N_k2 M
 clear hS
 refine w_nil (xn_then (w_reg ?_))
 refine wl_f 37 1 (.tmp 6) (pt k2 0) (pt k2 1) ?_
 refine wl_l 9 (.tmp 50) (pt k2 1) (.string (s.extract k e)) (run_one Q2 9 1 rfl Tryd.underlying9 rfl) ?_
 refine wl_call 17 [(.tmp 51)] _ [.string (s.extract k e)] (.bool false) rfl rfl (fun _ _ => by kernel_rfl) (rnam_c ho _ (by unfold maxLen; omega)) rfl ?_
 intro w8 hq
 replace Q1 := Q1.mo hq
 replace Q2 := Q2.mo hq
 replace M := M.trans hq
 clear hq
 refine wl_m (.tmp 52) (.bool false) ?_
 refine w_nil (xn_blk (xn_then (w_seq (w_seq (w_reg ?_)))))
 refine wl_m (.tmp 8) (.bool false) ?_
 refine wl_un (fun v => Op.unary .not v) (.tmp 130) (.bool false) (.bool true) (fun _ => rfl) rfl (by kernel_rfl) rfl ?_
 refine w_nil (xn_then (w_condT rfl (w_seq (w_reg ?_))))
 refine wl_build 37 [] [] (.agg #[.int .i64 0, .string ⟨#[]⟩, .int .i64 0, .bool false, .int .u64 0, .int .u64 0, .int .u64 0, .int .u64 0, .int .i64 0, .bool false, .string ⟨#[]⟩, .int .i64 0, .int .i64 0]) rfl rfl (by kernel_rfl) rfl ?_
 refine wl_st 37 (.tmp 4) (.tmp 132) k1 0 #[.int .i64 0, .string ⟨#[]⟩, .int .i64 0, .bool false, .int .u64 0, .int .u64 0, .int .u64 0, .int .u64 0, .int .i64 0, .bool false, .string ⟨#[]⟩, .int .i64 0, .int .i64 0] _ [.int .i64 0, .string ⟨#[]⟩, .int .i64 0, .bool false, .int .u64 0, .int .u64 0, .int .u64 0, .int .u64 0, .int .i64 0, .bool false, .string ⟨#[]⟩, .int .i64 0, .int .i64 0] Q1 rfl rfl rfl rfl rfl sz37 rfl rfl rfl ?_
 intro w9 hS Qn
 replace Q1 := Qn
 clear Qn
 replace Q2 := hS.other _ _ ne_k1_k2.symm Q2
 replace M := hS.mo _ N_k1 M
 clear hS
 refine wl_m (.const (.int .i64 (70))) (.int .i64 (70)) ?_
 refine w_nil (xn_then (w_ret (xr_then ?_)))
 exact w_ret2 _ _ (.agg #[.int .i64 0, .string ⟨#[]⟩, .int .i64 0, .bool false, .int .u64 0, .int .u64 0, .int .u64 0, .int .u64 0, .int .i64 0, .bool false, .string ⟨#[]⟩, .int .i64 0, .int .i64 0]) (.int .i64 (70)) rfl ⟨k1, rfl, (run_row Q1 37 0 13 _ rfl Tryd.underlying37 rfl sz37)⟩ rfl ⟨rfl, M⟩
theorem rnext_2f (s : ByteArray) (k e : Nat) (w : World) (hs : s.size ≤ 1000000000000) (hk : k < s.size) (h1 : ltr (bt s k) = false) (h2 : dgt (bt s k) = true) (he : k + pfx (s.extract k s.size) = e) (hes : e ≤ s.size) (b : Bool) (N E : Int) (kk : Nat) (hE : (E == 0) = false) (hP : ∀ w, Calls Tryd.prog 33 #[.string (s.extract k e)] w fun e w' => e = .returned (.tuple #[dc b N (kk : Int), .int .i64 E]) ∧ Mo w w') : Calls Tryd.prog 13 #[.string s, .int .i64 ((k : Nat) : Int)] w fun e' w' => e' = .returned (.tuple #[.agg #[.int .i64 0, .string ⟨#[]⟩, .int .i64 0, .bool false, .int .u64 0, .int .u64 0, .int .u64 0, .int .u64 0, .int .i64 0, .bool false, .string ⟨#[]⟩, .int .i64 0, .int .i64 0], .int .i64 70]) ∧ Mw w w' := by
 have hsz : (s.extract k e).size ≤ s.size := by rw [ByteArray.size_extract]; omega
 refine w_enter 134 Tryd.func13 Tryd.ntmps13 rfl rfl ?_
 have M : Mw w w := Mw.refl _
 refine w_seq (w_reg ?_)
 refine wl_alloc 37 #[.int .i64 0, .string ⟨#[]⟩, .int .i64 0, .bool false, .int .u64 0, .int .u64 0, .int .u64 0, .int .u64 0, .int .i64 0, .bool false, .string ⟨#[]⟩, .int .i64 0, .int .i64 0] rfl (fun _ => by kernel_rfl) rfl ?_
 intro k1 w1 hk hz hq Q1
 have N_k1 : w.heap.size ≤ k1 := by have := M.size; omega
 replace M := M.trans hq
 clear hk hz hq
 refine wl_m (.const (.int .i64 (0))) (.int .i64 (0)) ?_
 refine w_nil (xn_then (w_seq (w_seq (w_reg ?_))))
 refine wl_m (.tmp 1) (.int .i64 ((k : Nat) : Int)) ?_
 refine wl_b .lss 3 (.tmp 15) (.const (.int .i64 (0))) (.int .i64 ((k : Nat) : Int)) (.int .i64 (0)) (.bool false) (lt3_run (r := false) (decide_eq_false (by omega)) _ _ _) ?_
 refine wl_m (.tmp 16) (.bool false) ?_
 refine wl_m (.tmp 1) (.int .i64 ((k : Nat) : Int)) ?_
 refine wl_m (.tmp 0) (.string s) ?_
 refine wl_val (.int .i64 ((s.size : Nat) : Int)) (len_s _ _ s (by exact rfl) _ _ _ _ _ _) rfl ?_
 refine wl_b .geq 3 (.tmp 18) (.tmp 20) (.int .i64 ((k : Nat) : Int)) (.int .i64 ((s.size : Nat) : Int)) (.bool false) (geN (decide_eq_false (by omega)) _ _ _) ?_
 refine wl_pick (.tmp 17) (.const (.bool true)) (.tmp 21) false (.bool false) (fun _ => rfl) rfl rfl rfl ?_
 refine w_nil (xn_then (w_condF rfl (w_skip (xn_then (w_seq (w_reg ?_))))))
 refine wl_m (.tmp 1) (.int .i64 ((k : Nat) : Int)) ?_
 refine wl_build 37 [(3, (.tmp 24))] [(3, .int .i64 ((k : Nat) : Int))] (.agg #[.int .i64 0, .string ⟨#[]⟩, .int .i64 0, .bool false, .int .u64 0, .int .u64 0, .int .u64 0, .int .u64 0, .int .i64 0, .bool false, .string ⟨#[]⟩, .int .i64 0, .int .i64 ((k : Nat) : Int)]) rfl rfl (by kernel_rfl) rfl ?_
 refine wl_alloc 37 #[.int .i64 0, .string ⟨#[]⟩, .int .i64 0, .bool false, .int .u64 0, .int .u64 0, .int .u64 0, .int .u64 0, .int .i64 0, .bool false, .string ⟨#[]⟩, .int .i64 0, .int .i64 0] rfl (fun _ => by kernel_rfl) rfl ?_
 intro k2 w2 hk hz hq Q2
 have ne_k1_k2 : k1 ≠ k2 := by have := Q1.lt; omega
 have N_k2 : w.heap.size ≤ k2 := by have := M.size; omega
 replace Q1 := Q1.mo hq
 replace M := M.trans hq
 clear hk hz hq
 refine wl_st 37 (.tmp 6) (.tmp 25) k2 0 #[.int .i64 0, .string ⟨#[]⟩, .int .i64 0, .bool false, .int .u64 0, .int .u64 0, .int .u64 0, .int .u64 0, .int .i64 0, .bool false, .string ⟨#[]⟩, .int .i64 0, .int .i64 ((k : Nat) : Int)] _ [.int .i64 0, .string ⟨#[]⟩, .int .i64 0, .bool false, .int .u64 0, .int .u64 0, .int .u64 0, .int .u64 0, .int .i64 0, .bool false, .string ⟨#[]⟩, .int .i64 0, .int .i64 ((k : Nat) : Int)] Q2 rfl rfl rfl rfl rfl sz37 rfl rfl rfl ?_
 intro w3 hS Qn
 replace Q2 := Qn
 clear Qn
 replace Q1 := hS.other _ _ ne_k1_k2 Q1
 replace M := hS.mo _ N_k2 M
 clear hS
 refine w_nil (xn_then (w_seq (w_reg ?_)))
 refine wl_m (.tmp 0) (.string s) ?_
 refine wl_m (.tmp 1) (.int .i64 ((k : Nat) : Int)) ?_
 refine wl_bin (fun x y => Instr.index 9 x y) (.tmp 26) (.tmp 27) (.string s) (.int .i64 ((k : Nat) : Int)) (.int .u8 (bt s (k))) (fun _ => rfl) rfl rfl (idx_b (k := k) (by omega) _) rfl ?_
 refine wl_m (.tmp 28) (.int .u8 (bt s (k))) ?_
 refine w_nil (xn_then (w_seq (w_reg ?_)))
 refine wl_m (.const (.bool false)) (.bool false) ?_
 refine w_nil (xn_then (w_seq (w_block (w_seq (w_reg ?_)))))
 refine wl_m (.tmp 7) (.int .u8 (bt s (k))) ?_
 refine wl_call 29 [(.tmp 40)] _ [.int .u8 (bt s (k))] (.bool false) rfl rfl (fun _ _ => by kernel_rfl) (rlt_c h1 _) rfl ?_
 intro w4 hq
 replace Q1 := Q1.mo hq
 replace Q2 := Q2.mo hq
 replace M := M.trans hq
 clear hq
 refine wl_m (.tmp 41) (.bool false) ?_
 refine w_nil (xn_then (w_condF rfl (w_seq (w_reg ?_))))
 refine wl_m (.tmp 7) (.int .u8 (bt s (k))) ?_
 refine wl_call 31 [(.tmp 54)] _ [.int .u8 (bt s (k))] (.bool true) rfl rfl (fun _ _ => by kernel_rfl) (rdg_c h2 _) rfl ?_
 intro w5 hq
 replace Q1 := Q1.mo hq
 replace Q2 := Q2.mo hq
 replace M := M.trans hq
 clear hq
 refine wl_m (.tmp 55) (.bool true) ?_
 refine w_nil (xn_then (w_condT rfl (w_seq ?_)))
 refine w_any 10 [.inl (.string s), .inl (.int .i64 ((k : Nat) : Int)), .inl (.int .i64 ((k : Nat) : Int)), .inl (.string s), .inl (.int .i64 ((k : Nat) : Int)), .inl (.string (s.extract (k) s.size)), .inl (.int .i64 ((e - k : Nat) : Int)), .inl (.int .i64 ((e : Nat) : Int)), .inl (.string (s.extract k e)), .inl (pt k2 0)] [0, 1, 2, 7, 8] (by kernel_rfl) (by kernel_rfl) (by kernel_rfl) (by kernel_rfl) rfl (by kernel_rfl) (by kernel_rfl) (late_cons ⟨_, _, rfl, rfl, fun _ _ _ _ h => h, fun f hd => ⟨rfl, la_mv (.tmp 0) (.string s) (fun _ => rfl) rfl⟩⟩ (late_cons ⟨_, _, rfl, rfl, fun _ _ _ _ h => h, fun f hd => ⟨rfl, la_mv (.tmp 1) (.int .i64 ((k : Nat) : Int)) (fun _ => rfl) rfl⟩⟩ (late_cons ⟨_, _, rfl, rfl, fun _ _ _ _ h => h, fun f hd => ⟨rfl, la_mv (.tmp 1) (.int .i64 ((k : Nat) : Int)) (fun _ => rfl) rfl⟩⟩ (late_cons ⟨_, _, rfl, rfl, fun _ _ _ _ h => h, fun f hd => ⟨rfl, la_bin (fun x y => do eqGuard .add 3 (.tmp 58) (.tmp 62) x y; binOp .add 3 x y) (.tmp 58) (.tmp 62) (.int .i64 ((k : Nat) : Int)) (.int .i64 ((e - k : Nat) : Int)) (.int .i64 ((e : Nat) : Int)) (fun _ => rfl) (hd 2 rfl _ rfl) (hd 6 rfl _ rfl) (fun w => (addk (a := k) (b := e - k) (c := e) (by omega) (by omega) _ _ w))⟩⟩ (late_cons ⟨_, _, rfl, rfl, fun _ _ _ _ h => h, fun f hd => ⟨rfl, (fun w => (mid_run _ _ _ _ s (k) (e) (by exact (hd 0 rfl _ rfl)) (by exact (hd 1 rfl _ rfl)) (by exact (hd 7 rfl _ rfl)) (by omega) (by omega) _ _ _ _ _ w))⟩⟩ late_nil))))) ?_ ?_ ?_
 ·exact Ds.none rfl
 ·refine ea_cons ?_ (ea_cons ?_ (ea_cons ?_ (ea_cons ?_ (ea_cons ?_ (ea_cons ?_ (ea_cons ?_ (ea_cons ?_ (ea_cons ?_ (ea_cons ?_ (ea_nil))))))))))
  ·exact og_eq _ rfl (fun f wf hq hd K hK => go_run rfl (wo_mv (.tmp 0) (.string s) (fun _ => rfl) rfl (hK _ (Mw.refl _))))
  ·exact og_eq _ rfl (fun f wf hq hd K hK => go_run rfl (wo_mv (.tmp 1) (.int .i64 ((k : Nat) : Int)) (fun _ => rfl) rfl (hK _ (Mw.refl _))))
  ·exact og_eq _ rfl (fun f wf hq hd K hK => go_run rfl (wo_mv (.tmp 1) (.int .i64 ((k : Nat) : Int)) (fun _ => rfl) rfl (hK _ (Mw.refl _))))
  ·exact og_eq _ rfl (fun f wf hq hd K hK => go_run rfl (wo_mv (.tmp 0) (.string s) (fun _ => rfl) rfl (hK _ (Mw.refl _))))
  ·exact og_eq _ rfl (fun f wf hq hd K hK => go_run rfl (wo_mv (.tmp 1) (.int .i64 ((k : Nat) : Int)) (fun _ => rfl) rfl (hK _ (Mw.refl _))))
  ·exact og_eq _ rfl (fun f wf hq hd K hK => go_run rfl (wo_val (.string (s.extract (k) s.size)) (lo2_run _ _ _ s (k) (by exact (hd 3 rfl)) (by exact (hd 4 rfl)) (by omega) _ _ _ _ _ _) (hK _ (Mw.refl _))))
  ·exact og_eq _ rfl (fun f wf hq hd K hK => go_run rfl (wo_call 32 [(.tmp 61)] _ [.string (s.extract (k) s.size)] (.int .i64 ((e - k : Nat) : Int)) rfl (li1 (hd 5 rfl)) (fun _ _ => by kernel_rfl) (rpfx_c he _ hs hk) hK))
  ·exact og_eq _ rfl (fun f wf hq hd K hK => go_run rfl (wo_bin (fun x y => do eqGuard .add 3 (.tmp 58) (.tmp 62) x y; binOp .add 3 x y) (.tmp 58) (.tmp 62) (.int .i64 ((k : Nat) : Int)) (.int .i64 ((e - k : Nat) : Int)) (.int .i64 ((e : Nat) : Int)) (fun _ => rfl) (hd 2 rfl) (hd 6 rfl) (addk (a := k) (b := e - k) (c := e) (by omega) (by omega) _ _ _) (hK _ (Mw.refl _))))
  ·exact og_eq _ rfl (fun f wf hq hd K hK => go_run rfl (wo_val (.string (s.extract k e)) (mid_run _ _ _ _ s (k) (e) (by exact (hd 0 rfl)) (by exact (hd 1 rfl)) (by exact (hd 7 rfl)) (by omega) (by omega) _ _ _ _ _ _) (hK _ (Mw.refl _))))
  ·exact og_eq _ rfl (fun f wf hq hd K hK => go_run rfl (wo_un (fun v => Instr.fieldAt 37 v 0) (.tmp 6) (pt k2 0) (pt k2 0) (fun _ => rfl) rfl (by kernel_rfl) (hK _ (Mw.refl _))))
 intro kf6 w6 hq hR hne
 replace Q1 := Q1.mo hq
 replace Q2 := Q2.mo hq
 replace M := M.trans hq
 clear hq hR hne
 refine wl_st1 3 (.tmp 65) (.const (.int .i64 (2))) k2 0 (.int .i64 (2)) _ [.int .i64 (2), .string ⟨#[]⟩, .int .i64 0, .bool false, .int .u64 0, .int .u64 0, .int .u64 0, .int .u64 0, .int .i64 0, .bool false, .string ⟨#[]⟩, .int .i64 0, .int .i64 ((k : Nat) : Int)] Q2 rfl rfl rfl rfl rfl sz3 rfl rfl rfl rfl ?_
 intro w7 hS Qn
 replace Q2 := Qn
 clear Qn
 replace Q1 := hS.other _ _ ne_k1_k2 Q1
 replace M := hS.mo _ N_k2 M
 clear hS
 refine wl_f 37 1 (.tmp 6) (pt k2 0) (pt k2 1) ?_
 refine wl_st1 9 (.tmp 66) (.tmp 64) k2 1 (.string (s.extract k e)) _ [.int .i64 (2), .string (s.extract k e), .int .i64 0, .bool false, .int .u64 0, .int .u64 0, .int .u64 0, .int .u64 0, .int .i64 0, .bool false, .string ⟨#[]⟩, .int .i64 0, .int .i64 ((k : Nat) : Int)] Q2 rfl rfl rfl rfl rfl sz9 rfl rfl rfl rfl ?_
 intro w8 hS Qn
 replace Q2 := Qn
 clear Qn
 replace Q1 := hS.other _ _ ne_k1_k2 Q1
 replace M := hS.mo _ N_k2 M
 clear hS
 refine w_nil (xn_then (w_seq (w_reg ?_)))
 refine wl_f 37 1 (.tmp 6) (pt k2 0) (pt k2 1) ?_
 refine wl_l 9 (.tmp 68) (pt k2 1) (.string (s.extract k e)) (run_one Q2 9 1 rfl Tryd.underlying9 rfl) ?_
 refine wl_call 33 [(.tmp 69)] _ [.string (s.extract k e)] (.tuple #[.agg #[.bool b, .int .u64 (l0 (N)), .int .u64 (l1 (N)), .int .u64 (l2 (N)), .int .u64 (l3 (N)), .int .i64 ((kk : Int))], .int .i64 (E)]) rfl rfl (fun _ _ => by kernel_rfl) (wk (hP _)) rfl ?_
 intro w9 hq
 replace Q1 := Q1.mo hq
 replace Q2 := Q2.mo hq
 replace M := M.trans hq
 clear hq
 refine wl_m (.tmp 70) (.tuple #[.agg #[.bool b, .int .u64 (l0 (N)), .int .u64 (l1 (N)), .int .u64 (l2 (N)), .int .u64 (l3 (N)), .int .i64 ((kk : Int))], .int .i64 (E)]) ?_
 refine wl_un (fun v => Instr.extract v 0) (.tmp 67) (.tuple #[.agg #[.bool b, .int .u64 (l0 (N)), .int .u64 (l1 (N)), .int .u64 (l2 (N)), .int .u64 (l3 (N)), .int .i64 ((kk : Int))], .int .i64 (E)]) (.agg #[.bool b, .int .u64 (l0 (N)), .int .u64 (l1 (N)), .int .u64 (l2 (N)), .int .u64 (l3 (N)), .int .i64 ((kk : Int))]) (fun _ => rfl) rfl (by kernel_rfl) rfl ?_
 refine wl_un (fun v => Instr.extract v 1) (.tmp 67) (.tuple #[.agg #[.bool b, .int .u64 (l0 (N)), .int .u64 (l1 (N)), .int .u64 (l2 (N)), .int .u64 (l3 (N)), .int .i64 ((kk : Int))], .int .i64 (E)]) (.int .i64 (E)) (fun _ => rfl) rfl (by kernel_rfl) rfl ?_
 refine wl_alloc 33 #[.bool false, .int .u64 0, .int .u64 0, .int .u64 0, .int .u64 0, .int .i64 0] rfl (fun _ => by kernel_rfl) rfl ?_
 intro k3 w10 hk hz hq Q3
 have ne_k1_k3 : k1 ≠ k3 := by have := Q1.lt; omega
 have ne_k2_k3 : k2 ≠ k3 := by have := Q2.lt; omega
 have N_k3 : w.heap.size ≤ k3 := by have := M.size; omega
 replace Q1 := Q1.mo hq
 replace Q2 := Q2.mo hq
 replace M := M.trans hq
 clear hk hz hq
 refine wl_st 33 (.tmp 9) (.tmp 71) k3 0 #[.bool b, .int .u64 (l0 (N)), .int .u64 (l1 (N)), .int .u64 (l2 (N)), .int .u64 (l3 (N)), .int .i64 ((kk : Int))] _ [.bool b, .int .u64 (l0 (N)), .int .u64 (l1 (N)), .int .u64 (l2 (N)), .int .u64 (l3 (N)), .int .i64 ((kk : Int))] Q3 rfl rfl rfl rfl rfl sz33 rfl rfl rfl ?_
 intro w11 hS Qn
 replace Q3 := Qn
 clear Qn
 replace Q1 := hS.other _ _ ne_k1_k3 Q1
 replace Q2 := hS.other _ _ ne_k2_k3 Q2
 replace M := hS.mo _ N_k3 M
 clear hS
 refine wl_m (.tmp 72) (.int .i64 (E)) ?_
 refine w_nil (xn_then (w_seq (w_reg ?_)))
 refine wl_l 33 (.tmp 9) (pt k3 0) (.agg #[.bool b, .int .u64 (l0 (N)), .int .u64 (l1 (N)), .int .u64 (l2 (N)), .int .u64 (l3 (N)), .int .i64 ((kk : Int))]) (run_row Q3 33 0 6 _ rfl Tryd.underlying33 rfl sz33) ?_
 refine wl_build 35 [(0, (.const (.int .i64 (1)))), (1, (.tmp 73))] [(0, .int .i64 (1)), (1, .agg #[.bool b, .int .u64 (l0 (N)), .int .u64 (l1 (N)), .int .u64 (l2 (N)), .int .u64 (l3 (N)), .int .i64 ((kk : Int))])] (.agg #[.int .i64 (1), .bool b, .int .u64 (l0 (N)), .int .u64 (l1 (N)), .int .u64 (l2 (N)), .int .u64 (l3 (N)), .int .i64 ((kk : Int)), .bool false, .string ⟨#[]⟩, .int .i64 0]) rfl rfl (by kernel_rfl) rfl ?_
 refine wl_f 37 2 (.tmp 6) (pt k2 0) (pt k2 2) ?_
 refine wl_st 35 (.tmp 75) (.tmp 74) k2 2 #[.int .i64 (1), .bool b, .int .u64 (l0 (N)), .int .u64 (l1 (N)), .int .u64 (l2 (N)), .int .u64 (l3 (N)), .int .i64 ((kk : Int)), .bool false, .string ⟨#[]⟩, .int .i64 0] _ [.int .i64 (2), .string (s.extract k e), .int .i64 (1), .bool b, .int .u64 (l0 (N)), .int .u64 (l1 (N)), .int .u64 (l2 (N)), .int .u64 (l3 (N)), .int .i64 ((kk : Int)), .bool false, .string ⟨#[]⟩, .int .i64 0, .int .i64 ((k : Nat) : Int)] Q2 rfl rfl rfl rfl rfl sz35 rfl rfl rfl ?_
 intro w12 hS Qn
 replace Q2 := Qn
 clear Qn
 replace Q1 := hS.other _ _ ne_k1_k2 Q1
 replace Q3 := hS.other _ _ ne_k2_k3.symm Q3
 replace M := hS.mo _ N_k2 M
 clear hS
 refine w_nil (xn_then (w_reg ?_))
 refine wl_m (.tmp 10) (.int .i64 (E)) ?_
 refine wl_b .eql 23 (.tmp 76) (.const (.int .i64 (0))) (.int .i64 (E)) (.int .i64 (0)) (.bool false) (eq23 hE _ _ _) ?_
 refine wl_m (.tmp 77) (.bool false) ?_
 refine w_nil (xn_blk (xn_then (w_seq (w_seq (w_reg ?_)))))
 refine wl_m (.tmp 8) (.bool false) ?_
 refine wl_un (fun v => Op.unary .not v) (.tmp 130) (.bool false) (.bool true) (fun _ => rfl) rfl (by kernel_rfl) rfl ?_
 refine w_nil (xn_then (w_condT rfl (w_seq (w_reg ?_))))
 refine wl_build 37 [] [] (.agg #[.int .i64 0, .string ⟨#[]⟩, .int .i64 0, .bool false, .int .u64 0, .int .u64 0, .int .u64 0, .int .u64 0, .int .i64 0, .bool false, .string ⟨#[]⟩, .int .i64 0, .int .i64 0]) rfl rfl (by kernel_rfl) rfl ?_
 refine wl_st 37 (.tmp 4) (.tmp 132) k1 0 #[.int .i64 0, .string ⟨#[]⟩, .int .i64 0, .bool false, .int .u64 0, .int .u64 0, .int .u64 0, .int .u64 0, .int .i64 0, .bool false, .string ⟨#[]⟩, .int .i64 0, .int .i64 0] _ [.int .i64 0, .string ⟨#[]⟩, .int .i64 0, .bool false, .int .u64 0, .int .u64 0, .int .u64 0, .int .u64 0, .int .i64 0, .bool false, .string ⟨#[]⟩, .int .i64 0, .int .i64 0] Q1 rfl rfl rfl rfl rfl sz37 rfl rfl rfl ?_
 intro w13 hS Qn
 replace Q1 := Qn
 clear Qn
 replace Q2 := hS.other _ _ ne_k1_k2.symm Q2
 replace Q3 := hS.other _ _ ne_k1_k3.symm Q3
 replace M := hS.mo _ N_k1 M
 clear hS
 refine wl_m (.const (.int .i64 (70))) (.int .i64 (70)) ?_
 refine w_nil (xn_then (w_ret (xr_then ?_)))
 exact w_ret2 _ _ (.agg #[.int .i64 0, .string ⟨#[]⟩, .int .i64 0, .bool false, .int .u64 0, .int .u64 0, .int .u64 0, .int .u64 0, .int .i64 0, .bool false, .string ⟨#[]⟩, .int .i64 0, .int .i64 0]) (.int .i64 (70)) rfl ⟨k1, rfl, (run_row Q1 37 0 13 _ rfl Tryd.underlying37 rfl sz37)⟩ rfl ⟨rfl, M⟩
theorem rnext_4f (s : ByteArray) (k e : Nat) (w : World) (hs : s.size ≤ 1000000000000) (hk : k < s.size) (h1 : ltr (bt s k) = false) (h2 : dgt (bt s k) = false) (h34 : (bt s k == 34) = false) (hz : k + 1 < s.size) (h4 : symb (s.extract k (k + 2)) = false) (he : k + 1 = e) (ho : symb (s.extract k e) = false) : Calls Tryd.prog 13 #[.string s, .int .i64 ((k : Nat) : Int)] w fun e' w' => e' = .returned (.tuple #[.agg #[.int .i64 0, .string ⟨#[]⟩, .int .i64 0, .bool false, .int .u64 0, .int .u64 0, .int .u64 0, .int .u64 0, .int .i64 0, .bool false, .string ⟨#[]⟩, .int .i64 0, .int .i64 0], .int .i64 70]) ∧ Mw w w' := by
 have hsz : (s.extract k e).size ≤ s.size := by rw [ByteArray.size_extract]; omega
 refine w_enter 134 Tryd.func13 Tryd.ntmps13 rfl rfl ?_
 have M : Mw w w := Mw.refl _
 refine w_seq (w_reg ?_)
 refine wl_alloc 37 #[.int .i64 0, .string ⟨#[]⟩, .int .i64 0, .bool false, .int .u64 0, .int .u64 0, .int .u64 0, .int .u64 0, .int .i64 0, .bool false, .string ⟨#[]⟩, .int .i64 0, .int .i64 0] rfl (fun _ => by kernel_rfl) rfl ?_
 intro k1 w1 hk hz hq Q1
 have N_k1 : w.heap.size ≤ k1 := by have := M.size; omega
 replace M := M.trans hq
 clear hk hz hq
 refine wl_m (.const (.int .i64 (0))) (.int .i64 (0)) ?_
 refine w_nil (xn_then (w_seq (w_seq (w_reg ?_))))
 refine wl_m (.tmp 1) (.int .i64 ((k : Nat) : Int)) ?_
 refine wl_b .lss 3 (.tmp 15) (.const (.int .i64 (0))) (.int .i64 ((k : Nat) : Int)) (.int .i64 (0)) (.bool false) (lt3_run (r := false) (decide_eq_false (by omega)) _ _ _) ?_
 refine wl_m (.tmp 16) (.bool false) ?_
 refine wl_m (.tmp 1) (.int .i64 ((k : Nat) : Int)) ?_
 refine wl_m (.tmp 0) (.string s) ?_
 refine wl_val (.int .i64 ((s.size : Nat) : Int)) (len_s _ _ s (by exact rfl) _ _ _ _ _ _) rfl ?_
 refine wl_b .geq 3 (.tmp 18) (.tmp 20) (.int .i64 ((k : Nat) : Int)) (.int .i64 ((s.size : Nat) : Int)) (.bool false) (geN (decide_eq_false (by omega)) _ _ _) ?_
 refine wl_pick (.tmp 17) (.const (.bool true)) (.tmp 21) false (.bool false) (fun _ => rfl) rfl rfl rfl ?_
 refine w_nil (xn_then (w_condF rfl (w_skip (xn_then (w_seq (w_reg ?_))))))
 refine wl_m (.tmp 1) (.int .i64 ((k : Nat) : Int)) ?_
 refine wl_build 37 [(3, (.tmp 24))] [(3, .int .i64 ((k : Nat) : Int))] (.agg #[.int .i64 0, .string ⟨#[]⟩, .int .i64 0, .bool false, .int .u64 0, .int .u64 0, .int .u64 0, .int .u64 0, .int .i64 0, .bool false, .string ⟨#[]⟩, .int .i64 0, .int .i64 ((k : Nat) : Int)]) rfl rfl (by kernel_rfl) rfl ?_
 refine wl_alloc 37 #[.int .i64 0, .string ⟨#[]⟩, .int .i64 0, .bool false, .int .u64 0, .int .u64 0, .int .u64 0, .int .u64 0, .int .i64 0, .bool false, .string ⟨#[]⟩, .int .i64 0, .int .i64 0] rfl (fun _ => by kernel_rfl) rfl ?_
 intro k2 w2 hk hz hq Q2
 have ne_k1_k2 : k1 ≠ k2 := by have := Q1.lt; omega
 have N_k2 : w.heap.size ≤ k2 := by have := M.size; omega
 replace Q1 := Q1.mo hq
 replace M := M.trans hq
 clear hk hz hq
 refine wl_st 37 (.tmp 6) (.tmp 25) k2 0 #[.int .i64 0, .string ⟨#[]⟩, .int .i64 0, .bool false, .int .u64 0, .int .u64 0, .int .u64 0, .int .u64 0, .int .i64 0, .bool false, .string ⟨#[]⟩, .int .i64 0, .int .i64 ((k : Nat) : Int)] _ [.int .i64 0, .string ⟨#[]⟩, .int .i64 0, .bool false, .int .u64 0, .int .u64 0, .int .u64 0, .int .u64 0, .int .i64 0, .bool false, .string ⟨#[]⟩, .int .i64 0, .int .i64 ((k : Nat) : Int)] Q2 rfl rfl rfl rfl rfl sz37 rfl rfl rfl ?_
 intro w3 hS Qn
 replace Q2 := Qn
 clear Qn
 replace Q1 := hS.other _ _ ne_k1_k2 Q1
 replace M := hS.mo _ N_k2 M
 clear hS
 refine w_nil (xn_then (w_seq (w_reg ?_)))
 refine wl_m (.tmp 0) (.string s) ?_
 refine wl_m (.tmp 1) (.int .i64 ((k : Nat) : Int)) ?_
 refine wl_bin (fun x y => Instr.index 9 x y) (.tmp 26) (.tmp 27) (.string s) (.int .i64 ((k : Nat) : Int)) (.int .u8 (bt s (k))) (fun _ => rfl) rfl rfl (idx_b (k := k) (by omega) _) rfl ?_
 refine wl_m (.tmp 28) (.int .u8 (bt s (k))) ?_
 refine w_nil (xn_then (w_seq (w_reg ?_)))
 refine wl_m (.const (.bool false)) (.bool false) ?_
 refine w_nil (xn_then (w_seq (w_block (w_seq (w_reg ?_)))))
 refine wl_m (.tmp 7) (.int .u8 (bt s (k))) ?_
 refine wl_call 29 [(.tmp 40)] _ [.int .u8 (bt s (k))] (.bool false) rfl rfl (fun _ _ => by kernel_rfl) (rlt_c h1 _) rfl ?_
 intro w4 hq
 replace Q1 := Q1.mo hq
 replace Q2 := Q2.mo hq
 replace M := M.trans hq
 clear hq
 refine wl_m (.tmp 41) (.bool false) ?_
 refine w_nil (xn_then (w_condF rfl (w_seq (w_reg ?_))))
 refine wl_m (.tmp 7) (.int .u8 (bt s (k))) ?_
 refine wl_call 31 [(.tmp 54)] _ [.int .u8 (bt s (k))] (.bool false) rfl rfl (fun _ _ => by kernel_rfl) (rdg_c h2 _) rfl ?_
 intro w5 hq
 replace Q1 := Q1.mo hq
 replace Q2 := Q2.mo hq
 replace M := M.trans hq
 clear hq
 refine wl_m (.tmp 55) (.bool false) ?_
 refine w_nil (xn_then (w_condF rfl (w_seq (w_reg ?_))))
 refine wl_m (.tmp 7) (.int .u8 (bt s (k))) ?_
 refine wl_b .eql 5 (.tmp 79) (.const (.int .u8 (34))) (.int .u8 (bt s (k))) (.int .u8 (34)) (.bool false) (eq5r h34 _ _ _) ?_
 refine wl_m (.tmp 80) (.bool false) ?_
 refine w_nil (xn_then (w_condF rfl (w_seq (w_reg ?_))))
 refine wl_m (.tmp 1) (.int .i64 ((k : Nat) : Int)) ?_
 refine wl_b .add 3 (.tmp 110) (.const (.int .i64 (1))) (.int .i64 ((k : Nat) : Int)) (.int .i64 (1)) (.int .i64 ((e : Nat) : Int)) (addk (a := k) (b := 1) (c := e) (by omega) (by omega) _ _ _) ?_
 refine wl_m (.tmp 0) (.string s) ?_
 refine wl_val (.int .i64 ((s.size : Nat) : Int)) (len_s _ _ s (by exact rfl) _ _ _ _ _ _) rfl ?_
 refine wl_b .lss 3 (.tmp 111) (.tmp 113) (.int .i64 ((e : Nat) : Int)) (.int .i64 ((s.size : Nat) : Int)) (.bool true) (ltN (decide_eq_true (by omega)) _ _ _) ?_
 refine wl_m (.tmp 114) (.bool true) ?_
 refine wl_m (.tmp 0) (.string s) ?_
 refine wl_m (.tmp 1) (.int .i64 ((k : Nat) : Int)) ?_
 refine wl_m (.tmp 1) (.int .i64 ((k : Nat) : Int)) ?_
 refine wl_b .add 3 (.tmp 118) (.const (.int .i64 (2))) (.int .i64 ((k : Nat) : Int)) (.int .i64 (2)) (.int .i64 ((k + 2 : Nat) : Int)) (addk (a := k) (b := 2) rfl (by omega) _ _ _) ?_
 refine wl_val (.string (s.extract k (k + 2))) (mid_run _ _ _ _ s (k) (k + 2) (by exact rfl) (by exact rfl) (by exact rfl) (by omega) (by omega) _ _ _ _ _ _) rfl ?_
 refine wl_call 19 [(.tmp 120)] _ [.string (s.extract k (k + 2))] (.bool false) rfl rfl (fun _ _ => by kernel_rfl) (rsym_c h4 _) rfl ?_
 intro w6 hq
 replace Q1 := Q1.mo hq
 replace Q2 := Q2.mo hq
 replace M := M.trans hq
 clear hq
 refine wl_pick (.tmp 115) (.tmp 121) (.const (.bool false)) true (.bool false) (fun _ => rfl) rfl rfl rfl ?_
 refine wl_m (.tmp 122) (.bool false) ?_
 refine w_nil (xn_then (w_condF rfl (w_seq ?_)))
 refine w_any 6 [.inl (.string s), .inl (.int .i64 ((k : Nat) : Int)), .inl (.int .i64 ((k : Nat) : Int)), .inl (.int .i64 ((e : Nat) : Int)), .inl (.string (s.extract k e)), .inl (pt k2 0)] [0, 1, 2, 3, 4] (by kernel_rfl) (by kernel_rfl) (by kernel_rfl) (by kernel_rfl) rfl (by kernel_rfl) (by kernel_rfl) (late_cons ⟨_, _, rfl, rfl, fun _ _ _ _ h => h, fun f hd => ⟨rfl, la_mv (.tmp 0) (.string s) (fun _ => rfl) rfl⟩⟩ (late_cons ⟨_, _, rfl, rfl, fun _ _ _ _ h => h, fun f hd => ⟨rfl, la_mv (.tmp 1) (.int .i64 ((k : Nat) : Int)) (fun _ => rfl) rfl⟩⟩ (late_cons ⟨_, _, rfl, rfl, fun _ _ _ _ h => h, fun f hd => ⟨rfl, la_mv (.tmp 1) (.int .i64 ((k : Nat) : Int)) (fun _ => rfl) rfl⟩⟩ (late_cons ⟨_, _, rfl, rfl, fun _ _ _ _ h => h, fun f hd => ⟨rfl, la_bin (fun x y => do eqGuard .add 3 (.tmp 31) (.const (.int .i64 (1))) x y; binOp .add 3 x y) (.tmp 31) (.const (.int .i64 (1))) (.int .i64 ((k : Nat) : Int)) (.int .i64 (1)) (.int .i64 ((e : Nat) : Int)) (fun _ => rfl) (hd 2 rfl _ rfl) rfl (fun w => (addk (a := k) (b := 1) (c := e) (by omega) (by omega) _ _ w))⟩⟩ (late_cons ⟨_, _, rfl, rfl, fun _ _ _ _ h => h, fun f hd => ⟨rfl, (fun w => (mid_run _ _ _ _ s (k) (e) (by exact (hd 0 rfl _ rfl)) (by exact (hd 1 rfl _ rfl)) (by exact (hd 3 rfl _ rfl)) (by omega) (by omega) _ _ _ _ _ w))⟩⟩ late_nil))))) ?_ ?_ ?_
 ·exact Ds.none rfl
 ·refine ea_cons ?_ (ea_cons ?_ (ea_cons ?_ (ea_cons ?_ (ea_cons ?_ (ea_cons ?_ (ea_nil))))))
  ·exact og_eq _ rfl (fun f wf hq hd K hK => go_run rfl (wo_mv (.tmp 0) (.string s) (fun _ => rfl) rfl (hK _ (Mw.refl _))))
  ·exact og_eq _ rfl (fun f wf hq hd K hK => go_run rfl (wo_mv (.tmp 1) (.int .i64 ((k : Nat) : Int)) (fun _ => rfl) rfl (hK _ (Mw.refl _))))
  ·exact og_eq _ rfl (fun f wf hq hd K hK => go_run rfl (wo_mv (.tmp 1) (.int .i64 ((k : Nat) : Int)) (fun _ => rfl) rfl (hK _ (Mw.refl _))))
  ·exact og_eq _ rfl (fun f wf hq hd K hK => go_run rfl (wo_bin (fun x y => do eqGuard .add 3 (.tmp 31) (.const (.int .i64 (1))) x y; binOp .add 3 x y) (.tmp 31) (.const (.int .i64 (1))) (.int .i64 ((k : Nat) : Int)) (.int .i64 (1)) (.int .i64 ((e : Nat) : Int)) (fun _ => rfl) (hd 2 rfl) rfl (addk (a := k) (b := 1) (c := e) (by omega) (by omega) _ _ _) (hK _ (Mw.refl _))))
  ·exact og_eq _ rfl (fun f wf hq hd K hK => go_run rfl (wo_val (.string (s.extract k e)) (mid_run _ _ _ _ s (k) (e) (by exact (hd 0 rfl)) (by exact (hd 1 rfl)) (by exact (hd 3 rfl)) (by omega) (by omega) _ _ _ _ _ _) (hK _ (Mw.refl _))))
  ·exact og_eq _ rfl (fun f wf hq hd K hK => go_run rfl (wo_un (fun v => Instr.fieldAt 37 v 0) (.tmp 6) (pt k2 0) (pt k2 0) (fun _ => rfl) rfl (by kernel_rfl) (hK _ (Mw.refl _))))
 intro kf7 w7 hq hR hne
 replace Q1 := Q1.mo hq
 replace Q2 := Q2.mo hq
 replace M := M.trans hq
 clear hq hR hne
 refine wl_st1 3 (.tmp 34) (.const (.int .i64 (4))) k2 0 (.int .i64 (4)) _ [.int .i64 (4), .string ⟨#[]⟩, .int .i64 0, .bool false, .int .u64 0, .int .u64 0, .int .u64 0, .int .u64 0, .int .i64 0, .bool false, .string ⟨#[]⟩, .int .i64 0, .int .i64 ((k : Nat) : Int)] Q2 rfl rfl rfl rfl rfl sz3 rfl rfl rfl rfl ?_
 intro w8 hS Qn
 replace Q2 := Qn
 clear Qn
 replace Q1 := hS.other _ _ ne_k1_k2 Q1
 replace M := hS.mo _ N_k2 M
 clear hS
 refine wl_f 37 1 (.tmp 6) (pt k2 0) (pt k2 1) ?_
 refine wl_st1 9 (.tmp 35) (.tmp 33) k2 1 (.string (s.extract k e)) _ [.int .i64 (4), .string (s.extract k e), .int .i64 0, .bool false, .int .u64 0, .int .u64 0, .int .u64 0, .int .u64 0, .int .i64 0, .bool false, .string ⟨#[]⟩, .int .i64 0, .int .i64 ((k : Nat) : Int)] Q2 rfl rfl rfl rfl rfl sz9 rfl rfl rfl rfl ?_
 intro w9 hS Qn
 replace Q2 := Qn
 clear Qn
 replace Q1 := hS.other _ _ ne_k1_k2 Q1
 replace M := hS.mo _ N_k2 M
 clear hS
 refine w_nil (xn_then (w_reg ?_))
 refine wl_f 37 1 (.tmp 6) (pt k2 0) (pt k2 1) ?_
 refine wl_l 9 (.tmp 36) (pt k2 1) (.string (s.extract k e)) (run_one Q2 9 1 rfl Tryd.underlying9 rfl) ?_
 refine wl_call 19 [(.tmp 37)] _ [.string (s.extract k e)] (.bool false) rfl rfl (fun _ _ => by kernel_rfl) (rsym_c ho _) rfl ?_
 intro w10 hq
 replace Q1 := Q1.mo hq
 replace Q2 := Q2.mo hq
 replace M := M.trans hq
 clear hq
 refine wl_m (.tmp 38) (.bool false) ?_
 refine w_nil (xn_blk (xn_then (w_seq (w_seq (w_reg ?_)))))
 refine wl_m (.tmp 8) (.bool false) ?_
 refine wl_un (fun v => Op.unary .not v) (.tmp 130) (.bool false) (.bool true) (fun _ => rfl) rfl (by kernel_rfl) rfl ?_
 refine w_nil (xn_then (w_condT rfl (w_seq (w_reg ?_))))
 refine wl_build 37 [] [] (.agg #[.int .i64 0, .string ⟨#[]⟩, .int .i64 0, .bool false, .int .u64 0, .int .u64 0, .int .u64 0, .int .u64 0, .int .i64 0, .bool false, .string ⟨#[]⟩, .int .i64 0, .int .i64 0]) rfl rfl (by kernel_rfl) rfl ?_
 refine wl_st 37 (.tmp 4) (.tmp 132) k1 0 #[.int .i64 0, .string ⟨#[]⟩, .int .i64 0, .bool false, .int .u64 0, .int .u64 0, .int .u64 0, .int .u64 0, .int .i64 0, .bool false, .string ⟨#[]⟩, .int .i64 0, .int .i64 0] _ [.int .i64 0, .string ⟨#[]⟩, .int .i64 0, .bool false, .int .u64 0, .int .u64 0, .int .u64 0, .int .u64 0, .int .i64 0, .bool false, .string ⟨#[]⟩, .int .i64 0, .int .i64 0] Q1 rfl rfl rfl rfl rfl sz37 rfl rfl rfl ?_
 intro w11 hS Qn
 replace Q1 := Qn
 clear Qn
 replace Q2 := hS.other _ _ ne_k1_k2.symm Q2
 replace M := hS.mo _ N_k1 M
 clear hS
 refine wl_m (.const (.int .i64 (70))) (.int .i64 (70)) ?_
 refine w_nil (xn_then (w_ret (xr_then ?_)))
 exact w_ret2 _ _ (.agg #[.int .i64 0, .string ⟨#[]⟩, .int .i64 0, .bool false, .int .u64 0, .int .u64 0, .int .u64 0, .int .u64 0, .int .i64 0, .bool false, .string ⟨#[]⟩, .int .i64 0, .int .i64 0]) (.int .i64 (70)) rfl ⟨k1, rfl, (run_row Q1 37 0 13 _ rfl Tryd.underlying37 rfl sz37)⟩ rfl ⟨rfl, M⟩
theorem rnext_5f (s : ByteArray) (k e : Nat) (w : World) (hs : s.size ≤ 1000000000000) (hk : k < s.size) (h1 : ltr (bt s k) = false) (h2 : dgt (bt s k) = false) (h34 : (bt s k == 34) = false) (hz : ¬ k + 1 < s.size) (he : k + 1 = e) (ho : symb (s.extract k e) = false) : Calls Tryd.prog 13 #[.string s, .int .i64 ((k : Nat) : Int)] w fun e' w' => e' = .returned (.tuple #[.agg #[.int .i64 0, .string ⟨#[]⟩, .int .i64 0, .bool false, .int .u64 0, .int .u64 0, .int .u64 0, .int .u64 0, .int .i64 0, .bool false, .string ⟨#[]⟩, .int .i64 0, .int .i64 0], .int .i64 70]) ∧ Mw w w' := by
 have hsz : (s.extract k e).size ≤ s.size := by rw [ByteArray.size_extract]; omega
 refine w_enter 134 Tryd.func13 Tryd.ntmps13 rfl rfl ?_
 have M : Mw w w := Mw.refl _
 refine w_seq (w_reg ?_)
 refine wl_alloc 37 #[.int .i64 0, .string ⟨#[]⟩, .int .i64 0, .bool false, .int .u64 0, .int .u64 0, .int .u64 0, .int .u64 0, .int .i64 0, .bool false, .string ⟨#[]⟩, .int .i64 0, .int .i64 0] rfl (fun _ => by kernel_rfl) rfl ?_
 intro k1 w1 hk hz hq Q1
 have N_k1 : w.heap.size ≤ k1 := by have := M.size; omega
 replace M := M.trans hq
 clear hk hz hq
 refine wl_m (.const (.int .i64 (0))) (.int .i64 (0)) ?_
 refine w_nil (xn_then (w_seq (w_seq (w_reg ?_))))
 refine wl_m (.tmp 1) (.int .i64 ((k : Nat) : Int)) ?_
 refine wl_b .lss 3 (.tmp 15) (.const (.int .i64 (0))) (.int .i64 ((k : Nat) : Int)) (.int .i64 (0)) (.bool false) (lt3_run (r := false) (decide_eq_false (by omega)) _ _ _) ?_
 refine wl_m (.tmp 16) (.bool false) ?_
 refine wl_m (.tmp 1) (.int .i64 ((k : Nat) : Int)) ?_
 refine wl_m (.tmp 0) (.string s) ?_
 refine wl_val (.int .i64 ((s.size : Nat) : Int)) (len_s _ _ s (by exact rfl) _ _ _ _ _ _) rfl ?_
 refine wl_b .geq 3 (.tmp 18) (.tmp 20) (.int .i64 ((k : Nat) : Int)) (.int .i64 ((s.size : Nat) : Int)) (.bool false) (geN (decide_eq_false (by omega)) _ _ _) ?_
 refine wl_pick (.tmp 17) (.const (.bool true)) (.tmp 21) false (.bool false) (fun _ => rfl) rfl rfl rfl ?_
 refine w_nil (xn_then (w_condF rfl (w_skip (xn_then (w_seq (w_reg ?_))))))
 refine wl_m (.tmp 1) (.int .i64 ((k : Nat) : Int)) ?_
 refine wl_build 37 [(3, (.tmp 24))] [(3, .int .i64 ((k : Nat) : Int))] (.agg #[.int .i64 0, .string ⟨#[]⟩, .int .i64 0, .bool false, .int .u64 0, .int .u64 0, .int .u64 0, .int .u64 0, .int .i64 0, .bool false, .string ⟨#[]⟩, .int .i64 0, .int .i64 ((k : Nat) : Int)]) rfl rfl (by kernel_rfl) rfl ?_
 refine wl_alloc 37 #[.int .i64 0, .string ⟨#[]⟩, .int .i64 0, .bool false, .int .u64 0, .int .u64 0, .int .u64 0, .int .u64 0, .int .i64 0, .bool false, .string ⟨#[]⟩, .int .i64 0, .int .i64 0] rfl (fun _ => by kernel_rfl) rfl ?_
 intro k2 w2 hk hz hq Q2
 have ne_k1_k2 : k1 ≠ k2 := by have := Q1.lt; omega
 have N_k2 : w.heap.size ≤ k2 := by have := M.size; omega
 replace Q1 := Q1.mo hq
 replace M := M.trans hq
 clear hk hz hq
 refine wl_st 37 (.tmp 6) (.tmp 25) k2 0 #[.int .i64 0, .string ⟨#[]⟩, .int .i64 0, .bool false, .int .u64 0, .int .u64 0, .int .u64 0, .int .u64 0, .int .i64 0, .bool false, .string ⟨#[]⟩, .int .i64 0, .int .i64 ((k : Nat) : Int)] _ [.int .i64 0, .string ⟨#[]⟩, .int .i64 0, .bool false, .int .u64 0, .int .u64 0, .int .u64 0, .int .u64 0, .int .i64 0, .bool false, .string ⟨#[]⟩, .int .i64 0, .int .i64 ((k : Nat) : Int)] Q2 rfl rfl rfl rfl rfl sz37 rfl rfl rfl ?_
 intro w3 hS Qn
 replace Q2 := Qn
 clear Qn
 replace Q1 := hS.other _ _ ne_k1_k2 Q1
 replace M := hS.mo _ N_k2 M
 clear hS
 refine w_nil (xn_then (w_seq (w_reg ?_)))
 refine wl_m (.tmp 0) (.string s) ?_
 refine wl_m (.tmp 1) (.int .i64 ((k : Nat) : Int)) ?_
 refine wl_bin (fun x y => Instr.index 9 x y) (.tmp 26) (.tmp 27) (.string s) (.int .i64 ((k : Nat) : Int)) (.int .u8 (bt s (k))) (fun _ => rfl) rfl rfl (idx_b (k := k) (by omega) _) rfl ?_
 refine wl_m (.tmp 28) (.int .u8 (bt s (k))) ?_
 refine w_nil (xn_then (w_seq (w_reg ?_)))
 refine wl_m (.const (.bool false)) (.bool false) ?_
 refine w_nil (xn_then (w_seq (w_block (w_seq (w_reg ?_)))))
 refine wl_m (.tmp 7) (.int .u8 (bt s (k))) ?_
 refine wl_call 29 [(.tmp 40)] _ [.int .u8 (bt s (k))] (.bool false) rfl rfl (fun _ _ => by kernel_rfl) (rlt_c h1 _) rfl ?_
 intro w4 hq
 replace Q1 := Q1.mo hq
 replace Q2 := Q2.mo hq
 replace M := M.trans hq
 clear hq
 refine wl_m (.tmp 41) (.bool false) ?_
 refine w_nil (xn_then (w_condF rfl (w_seq (w_reg ?_))))
 refine wl_m (.tmp 7) (.int .u8 (bt s (k))) ?_
 refine wl_call 31 [(.tmp 54)] _ [.int .u8 (bt s (k))] (.bool false) rfl rfl (fun _ _ => by kernel_rfl) (rdg_c h2 _) rfl ?_
 intro w5 hq
 replace Q1 := Q1.mo hq
 replace Q2 := Q2.mo hq
 replace M := M.trans hq
 clear hq
 refine wl_m (.tmp 55) (.bool false) ?_
 refine w_nil (xn_then (w_condF rfl (w_seq (w_reg ?_))))
 refine wl_m (.tmp 7) (.int .u8 (bt s (k))) ?_
 refine wl_b .eql 5 (.tmp 79) (.const (.int .u8 (34))) (.int .u8 (bt s (k))) (.int .u8 (34)) (.bool false) (eq5r h34 _ _ _) ?_
 refine wl_m (.tmp 80) (.bool false) ?_
 refine w_nil (xn_then (w_condF rfl (w_seq (w_reg ?_))))
 refine wl_m (.tmp 1) (.int .i64 ((k : Nat) : Int)) ?_
 refine wl_b .add 3 (.tmp 110) (.const (.int .i64 (1))) (.int .i64 ((k : Nat) : Int)) (.int .i64 (1)) (.int .i64 ((e : Nat) : Int)) (addk (a := k) (b := 1) (c := e) (by omega) (by omega) _ _ _) ?_
 refine wl_m (.tmp 0) (.string s) ?_
 refine wl_val (.int .i64 ((s.size : Nat) : Int)) (len_s _ _ s (by exact rfl) _ _ _ _ _ _) rfl ?_
 refine wl_b .lss 3 (.tmp 111) (.tmp 113) (.int .i64 ((e : Nat) : Int)) (.int .i64 ((s.size : Nat) : Int)) (.bool false) (ltN (decide_eq_false (by omega)) _ _ _) ?_
 refine wl_m (.tmp 114) (.bool false) ?_
 refine wl_skip rfl (wl_skip rfl (wl_skip rfl (wl_skip rfl (wl_skip rfl (wl_skip rfl ?_)))))
 refine wl_pick (.tmp 115) (.tmp 121) (.const (.bool false)) false (.bool false) (fun _ => rfl) rfl rfl rfl ?_
 refine wl_m (.tmp 122) (.bool false) ?_
 refine w_nil (xn_then (w_condF rfl (w_seq ?_)))
 refine w_any 6 [.inl (.string s), .inl (.int .i64 ((k : Nat) : Int)), .inl (.int .i64 ((k : Nat) : Int)), .inl (.int .i64 ((e : Nat) : Int)), .inl (.string (s.extract k e)), .inl (pt k2 0)] [0, 1, 2, 3, 4] (by kernel_rfl) (by kernel_rfl) (by kernel_rfl) (by kernel_rfl) rfl (by kernel_rfl) (by kernel_rfl) (late_cons ⟨_, _, rfl, rfl, fun _ _ _ _ h => h, fun f hd => ⟨rfl, la_mv (.tmp 0) (.string s) (fun _ => rfl) rfl⟩⟩ (late_cons ⟨_, _, rfl, rfl, fun _ _ _ _ h => h, fun f hd => ⟨rfl, la_mv (.tmp 1) (.int .i64 ((k : Nat) : Int)) (fun _ => rfl) rfl⟩⟩ (late_cons ⟨_, _, rfl, rfl, fun _ _ _ _ h => h, fun f hd => ⟨rfl, la_mv (.tmp 1) (.int .i64 ((k : Nat) : Int)) (fun _ => rfl) rfl⟩⟩ (late_cons ⟨_, _, rfl, rfl, fun _ _ _ _ h => h, fun f hd => ⟨rfl, la_bin (fun x y => do eqGuard .add 3 (.tmp 31) (.const (.int .i64 (1))) x y; binOp .add 3 x y) (.tmp 31) (.const (.int .i64 (1))) (.int .i64 ((k : Nat) : Int)) (.int .i64 (1)) (.int .i64 ((e : Nat) : Int)) (fun _ => rfl) (hd 2 rfl _ rfl) rfl (fun w => (addk (a := k) (b := 1) (c := e) (by omega) (by omega) _ _ w))⟩⟩ (late_cons ⟨_, _, rfl, rfl, fun _ _ _ _ h => h, fun f hd => ⟨rfl, (fun w => (mid_run _ _ _ _ s (k) (e) (by exact (hd 0 rfl _ rfl)) (by exact (hd 1 rfl _ rfl)) (by exact (hd 3 rfl _ rfl)) (by omega) (by omega) _ _ _ _ _ w))⟩⟩ late_nil))))) ?_ ?_ ?_
 ·exact Ds.none rfl
 ·refine ea_cons ?_ (ea_cons ?_ (ea_cons ?_ (ea_cons ?_ (ea_cons ?_ (ea_cons ?_ (ea_nil))))))
  ·exact og_eq _ rfl (fun f wf hq hd K hK => go_run rfl (wo_mv (.tmp 0) (.string s) (fun _ => rfl) rfl (hK _ (Mw.refl _))))
  ·exact og_eq _ rfl (fun f wf hq hd K hK => go_run rfl (wo_mv (.tmp 1) (.int .i64 ((k : Nat) : Int)) (fun _ => rfl) rfl (hK _ (Mw.refl _))))
  ·exact og_eq _ rfl (fun f wf hq hd K hK => go_run rfl (wo_mv (.tmp 1) (.int .i64 ((k : Nat) : Int)) (fun _ => rfl) rfl (hK _ (Mw.refl _))))
  ·exact og_eq _ rfl (fun f wf hq hd K hK => go_run rfl (wo_bin (fun x y => do eqGuard .add 3 (.tmp 31) (.const (.int .i64 (1))) x y; binOp .add 3 x y) (.tmp 31) (.const (.int .i64 (1))) (.int .i64 ((k : Nat) : Int)) (.int .i64 (1)) (.int .i64 ((e : Nat) : Int)) (fun _ => rfl) (hd 2 rfl) rfl (addk (a := k) (b := 1) (c := e) (by omega) (by omega) _ _ _) (hK _ (Mw.refl _))))
  ·exact og_eq _ rfl (fun f wf hq hd K hK => go_run rfl (wo_val (.string (s.extract k e)) (mid_run _ _ _ _ s (k) (e) (by exact (hd 0 rfl)) (by exact (hd 1 rfl)) (by exact (hd 3 rfl)) (by omega) (by omega) _ _ _ _ _ _) (hK _ (Mw.refl _))))
  ·exact og_eq _ rfl (fun f wf hq hd K hK => go_run rfl (wo_un (fun v => Instr.fieldAt 37 v 0) (.tmp 6) (pt k2 0) (pt k2 0) (fun _ => rfl) rfl (by kernel_rfl) (hK _ (Mw.refl _))))
 intro kf6 w6 hq hR hne
 replace Q1 := Q1.mo hq
 replace Q2 := Q2.mo hq
 replace M := M.trans hq
 clear hq hR hne
 refine wl_st1 3 (.tmp 34) (.const (.int .i64 (4))) k2 0 (.int .i64 (4)) _ [.int .i64 (4), .string ⟨#[]⟩, .int .i64 0, .bool false, .int .u64 0, .int .u64 0, .int .u64 0, .int .u64 0, .int .i64 0, .bool false, .string ⟨#[]⟩, .int .i64 0, .int .i64 ((k : Nat) : Int)] Q2 rfl rfl rfl rfl rfl sz3 rfl rfl rfl rfl ?_
 intro w7 hS Qn
 replace Q2 := Qn
 clear Qn
 replace Q1 := hS.other _ _ ne_k1_k2 Q1
 replace M := hS.mo _ N_k2 M
 clear hS
 refine wl_f 37 1 (.tmp 6) (pt k2 0) (pt k2 1) ?_
 refine wl_st1 9 (.tmp 35) (.tmp 33) k2 1 (.string (s.extract k e)) _ [.int .i64 (4), .string (s.extract k e), .int .i64 0, .bool false, .int .u64 0, .int .u64 0, .int .u64 0, .int .u64 0, .int .i64 0, .bool false, .string ⟨#[]⟩, .int .i64 0, .int .i64 ((k : Nat) : Int)] Q2 rfl rfl rfl rfl rfl sz9 rfl rfl rfl rfl ?_
 intro w8 hS Qn
 replace Q2 := Qn
 clear Qn
 replace Q1 := hS.other _ _ ne_k1_k2 Q1
 replace M := hS.mo _ N_k2 M
 clear hS
 refine w_nil (xn_then (w_reg ?_))
 refine wl_f 37 1 (.tmp 6) (pt k2 0) (pt k2 1) ?_
 refine wl_l 9 (.tmp 36) (pt k2 1) (.string (s.extract k e)) (run_one Q2 9 1 rfl Tryd.underlying9 rfl) ?_
 refine wl_call 19 [(.tmp 37)] _ [.string (s.extract k e)] (.bool false) rfl rfl (fun _ _ => by kernel_rfl) (rsym_c ho _) rfl ?_
 intro w9 hq
 replace Q1 := Q1.mo hq
 replace Q2 := Q2.mo hq
 replace M := M.trans hq
 clear hq
 refine wl_m (.tmp 38) (.bool false) ?_
 refine w_nil (xn_blk (xn_then (w_seq (w_seq (w_reg ?_)))))
 refine wl_m (.tmp 8) (.bool false) ?_
 refine wl_un (fun v => Op.unary .not v) (.tmp 130) (.bool false) (.bool true) (fun _ => rfl) rfl (by kernel_rfl) rfl ?_
 refine w_nil (xn_then (w_condT rfl (w_seq (w_reg ?_))))
 refine wl_build 37 [] [] (.agg #[.int .i64 0, .string ⟨#[]⟩, .int .i64 0, .bool false, .int .u64 0, .int .u64 0, .int .u64 0, .int .u64 0, .int .i64 0, .bool false, .string ⟨#[]⟩, .int .i64 0, .int .i64 0]) rfl rfl (by kernel_rfl) rfl ?_
 refine wl_st 37 (.tmp 4) (.tmp 132) k1 0 #[.int .i64 0, .string ⟨#[]⟩, .int .i64 0, .bool false, .int .u64 0, .int .u64 0, .int .u64 0, .int .u64 0, .int .i64 0, .bool false, .string ⟨#[]⟩, .int .i64 0, .int .i64 0] _ [.int .i64 0, .string ⟨#[]⟩, .int .i64 0, .bool false, .int .u64 0, .int .u64 0, .int .u64 0, .int .u64 0, .int .i64 0, .bool false, .string ⟨#[]⟩, .int .i64 0, .int .i64 0] Q1 rfl rfl rfl rfl rfl sz37 rfl rfl rfl ?_
 intro w10 hS Qn
 replace Q1 := Qn
 clear Qn
 replace Q2 := hS.other _ _ ne_k1_k2.symm Q2
 replace M := hS.mo _ N_k1 M
 clear hS
 refine wl_m (.const (.int .i64 (70))) (.int .i64 (70)) ?_
 refine w_nil (xn_then (w_ret (xr_then ?_)))
 exact w_ret2 _ _ (.agg #[.int .i64 0, .string ⟨#[]⟩, .int .i64 0, .bool false, .int .u64 0, .int .u64 0, .int .u64 0, .int .u64 0, .int .i64 0, .bool false, .string ⟨#[]⟩, .int .i64 0, .int .i64 0]) (.int .i64 (70)) rfl ⟨k1, rfl, (run_row Q1 37 0 13 _ rfl Tryd.underlying37 rfl sz37)⟩ rfl ⟨rfl, M⟩
theorem rnext_3f (s : ByteArray) (k e : Nat) (w : World) (hs : s.size ≤ 1000000000000) (hk : k < s.size) (h1 : ltr (bt s k) = false) (h2 : dgt (bt s k) = false) (h34 : (bt s k == 34) = true) (he : cl s (k + 1) = some e) (hu : (unq (s.extract k e)).2 = false) : Calls Tryd.prog 13 #[.string s, .int .i64 ((k : Nat) : Int)] w fun e' w' => e' = .returned (.tuple #[.agg #[.int .i64 0, .string ⟨#[]⟩, .int .i64 0, .bool false, .int .u64 0, .int .u64 0, .int .u64 0, .int .u64 0, .int .i64 0, .bool false, .string ⟨#[]⟩, .int .i64 0, .int .i64 0], .int .i64 70]) ∧ Mw w w' := by
 have hrg := cl_rg s _ (k + 1) (Nat.le_refl _) e he
 have hsz : (s.extract k e).size ≤ s.size := by rw [ByteArray.size_extract]; omega
 refine w_enter 134 Tryd.func13 Tryd.ntmps13 rfl rfl ?_
 have M : Mw w w := Mw.refl _
 refine w_seq (w_reg ?_)
 refine wl_alloc 37 #[.int .i64 0, .string ⟨#[]⟩, .int .i64 0, .bool false, .int .u64 0, .int .u64 0, .int .u64 0, .int .u64 0, .int .i64 0, .bool false, .string ⟨#[]⟩, .int .i64 0, .int .i64 0] rfl (fun _ => by kernel_rfl) rfl ?_
 intro k1 w1 hk hz hq Q1
 have N_k1 : w.heap.size ≤ k1 := by have := M.size; omega
 replace M := M.trans hq
 clear hk hz hq
 refine wl_m (.const (.int .i64 (0))) (.int .i64 (0)) ?_
 refine w_nil (xn_then (w_seq (w_seq (w_reg ?_))))
 refine wl_m (.tmp 1) (.int .i64 ((k : Nat) : Int)) ?_
 refine wl_b .lss 3 (.tmp 15) (.const (.int .i64 (0))) (.int .i64 ((k : Nat) : Int)) (.int .i64 (0)) (.bool false) (lt3_run (r := false) (decide_eq_false (by omega)) _ _ _) ?_
 refine wl_m (.tmp 16) (.bool false) ?_
 refine wl_m (.tmp 1) (.int .i64 ((k : Nat) : Int)) ?_
 refine wl_m (.tmp 0) (.string s) ?_
 refine wl_val (.int .i64 ((s.size : Nat) : Int)) (len_s _ _ s (by exact rfl) _ _ _ _ _ _) rfl ?_
 refine wl_b .geq 3 (.tmp 18) (.tmp 20) (.int .i64 ((k : Nat) : Int)) (.int .i64 ((s.size : Nat) : Int)) (.bool false) (geN (decide_eq_false (by omega)) _ _ _) ?_
 refine wl_pick (.tmp 17) (.const (.bool true)) (.tmp 21) false (.bool false) (fun _ => rfl) rfl rfl rfl ?_
 refine w_nil (xn_then (w_condF rfl (w_skip (xn_then (w_seq (w_reg ?_))))))
 refine wl_m (.tmp 1) (.int .i64 ((k : Nat) : Int)) ?_
 refine wl_build 37 [(3, (.tmp 24))] [(3, .int .i64 ((k : Nat) : Int))] (.agg #[.int .i64 0, .string ⟨#[]⟩, .int .i64 0, .bool false, .int .u64 0, .int .u64 0, .int .u64 0, .int .u64 0, .int .i64 0, .bool false, .string ⟨#[]⟩, .int .i64 0, .int .i64 ((k : Nat) : Int)]) rfl rfl (by kernel_rfl) rfl ?_
 refine wl_alloc 37 #[.int .i64 0, .string ⟨#[]⟩, .int .i64 0, .bool false, .int .u64 0, .int .u64 0, .int .u64 0, .int .u64 0, .int .i64 0, .bool false, .string ⟨#[]⟩, .int .i64 0, .int .i64 0] rfl (fun _ => by kernel_rfl) rfl ?_
 intro k2 w2 hk hz hq Q2
 have ne_k1_k2 : k1 ≠ k2 := by have := Q1.lt; omega
 have N_k2 : w.heap.size ≤ k2 := by have := M.size; omega
 replace Q1 := Q1.mo hq
 replace M := M.trans hq
 clear hk hz hq
 refine wl_st 37 (.tmp 6) (.tmp 25) k2 0 #[.int .i64 0, .string ⟨#[]⟩, .int .i64 0, .bool false, .int .u64 0, .int .u64 0, .int .u64 0, .int .u64 0, .int .i64 0, .bool false, .string ⟨#[]⟩, .int .i64 0, .int .i64 ((k : Nat) : Int)] _ [.int .i64 0, .string ⟨#[]⟩, .int .i64 0, .bool false, .int .u64 0, .int .u64 0, .int .u64 0, .int .u64 0, .int .i64 0, .bool false, .string ⟨#[]⟩, .int .i64 0, .int .i64 ((k : Nat) : Int)] Q2 rfl rfl rfl rfl rfl sz37 rfl rfl rfl ?_
 intro w3 hS Qn
 replace Q2 := Qn
 clear Qn
 replace Q1 := hS.other _ _ ne_k1_k2 Q1
 replace M := hS.mo _ N_k2 M
 clear hS
 refine w_nil (xn_then (w_seq (w_reg ?_)))
 refine wl_m (.tmp 0) (.string s) ?_
 refine wl_m (.tmp 1) (.int .i64 ((k : Nat) : Int)) ?_
 refine wl_bin (fun x y => Instr.index 9 x y) (.tmp 26) (.tmp 27) (.string s) (.int .i64 ((k : Nat) : Int)) (.int .u8 (bt s (k))) (fun _ => rfl) rfl rfl (idx_b (k := k) (by omega) _) rfl ?_
 refine wl_m (.tmp 28) (.int .u8 (bt s (k))) ?_
 refine w_nil (xn_then (w_seq (w_reg ?_)))
 refine wl_m (.const (.bool false)) (.bool false) ?_
 refine w_nil (xn_then (w_seq (w_block (w_seq (w_reg ?_)))))
 refine wl_m (.tmp 7) (.int .u8 (bt s (k))) ?_
 refine wl_call 29 [(.tmp 40)] _ [.int .u8 (bt s (k))] (.bool false) rfl rfl (fun _ _ => by kernel_rfl) (rlt_c h1 _) rfl ?_
 intro w4 hq
 replace Q1 := Q1.mo hq
 replace Q2 := Q2.mo hq
 replace M := M.trans hq
 clear hq
 refine wl_m (.tmp 41) (.bool false) ?_
 refine w_nil (xn_then (w_condF rfl (w_seq (w_reg ?_))))
 refine wl_m (.tmp 7) (.int .u8 (bt s (k))) ?_
 refine wl_call 31 [(.tmp 54)] _ [.int .u8 (bt s (k))] (.bool false) rfl rfl (fun _ _ => by kernel_rfl) (rdg_c h2 _) rfl ?_
 intro w5 hq
 replace Q1 := Q1.mo hq
 replace Q2 := Q2.mo hq
 replace M := M.trans hq
 clear hq
 refine wl_m (.tmp 55) (.bool false) ?_
 refine w_nil (xn_then (w_condF rfl (w_seq (w_reg ?_))))
 refine wl_m (.tmp 7) (.int .u8 (bt s (k))) ?_
 refine wl_b .eql 5 (.tmp 79) (.const (.int .u8 (34))) (.int .u8 (bt s (k))) (.int .u8 (34)) (.bool true) (eq5r h34 _ _ _) ?_
 refine wl_m (.tmp 80) (.bool true) ?_
 refine w_nil (xn_then (w_condT rfl (w_seq (w_reg ?_))))
 refine wl_m (.tmp 0) (.string s) ?_
 refine wl_m (.tmp 1) (.int .i64 ((k : Nat) : Int)) ?_
 refine wl_call 34 [(.tmp 82), (.tmp 83)] _ [.string s, .int .i64 ((k : Nat) : Int)] (.tuple #[.int .i64 ((e : Nat) : Int), .bool true]) rfl rfl (fun _ _ => by kernel_rfl) (clo_c he _ (by unfold maxLen; omega) hk) rfl ?_
 intro w6 hq
 replace Q1 := Q1.mo hq
 replace Q2 := Q2.mo hq
 replace M := M.trans hq
 clear hq
 refine wl_m (.tmp 84) (.tuple #[.int .i64 ((e : Nat) : Int), .bool true]) ?_
 refine wl_un (fun v => Instr.extract v 0) (.tmp 81) (.tuple #[.int .i64 ((e : Nat) : Int), .bool true]) (.int .i64 ((e : Nat) : Int)) (fun _ => rfl) rfl (by kernel_rfl) rfl ?_
 refine wl_un (fun v => Instr.extract v 1) (.tmp 81) (.tuple #[.int .i64 ((e : Nat) : Int), .bool true]) (.bool true) (fun _ => rfl) rfl (by kernel_rfl) rfl ?_
 refine wl_m (.tmp 85) (.int .i64 ((e : Nat) : Int)) ?_
 refine wl_m (.tmp 86) (.bool true) ?_
 refine w_nil (xn_then (w_seq (w_reg ?_)))
 refine wl_m (.tmp 12) (.bool true) ?_
 refine w_nil (xn_then (w_condT rfl (w_seq ?_)))
 refine w_any 5 [.inl (.string s), .inl (.int .i64 ((k : Nat) : Int)), .inl (.int .i64 ((e : Nat) : Int)), .inl (.string (s.extract k e)), .inl (pt k2 0)] [0, 1, 2, 3] (by kernel_rfl) (by kernel_rfl) (by kernel_rfl) (by kernel_rfl) rfl (by kernel_rfl) (by kernel_rfl) (late_cons ⟨_, _, rfl, rfl, fun _ _ _ _ h => h, fun f hd => ⟨rfl, la_mv (.tmp 0) (.string s) (fun _ => rfl) rfl⟩⟩ (late_cons ⟨_, _, rfl, rfl, fun _ _ _ _ h => h, fun f hd => ⟨rfl, la_mv (.tmp 1) (.int .i64 ((k : Nat) : Int)) (fun _ => rfl) rfl⟩⟩ (late_cons ⟨_, _, rfl, rfl, fun _ _ _ _ h => h, fun f hd => ⟨rfl, la_mv (.tmp 11) (.int .i64 ((e : Nat) : Int)) (fun _ => rfl) rfl⟩⟩ (late_cons ⟨_, _, rfl, rfl, fun _ _ _ _ h => h, fun f hd => ⟨rfl, (fun w => (mid_run _ _ _ _ s (k) (e) (by exact (hd 0 rfl _ rfl)) (by exact (hd 1 rfl _ rfl)) (by exact (hd 2 rfl _ rfl)) (by omega) (by omega) _ _ _ _ _ w))⟩⟩ late_nil)))) ?_ ?_ ?_
 ·exact Ds.none rfl
 ·refine ea_cons ?_ (ea_cons ?_ (ea_cons ?_ (ea_cons ?_ (ea_cons ?_ (ea_nil)))))
  ·exact og_eq _ rfl (fun f wf hq hd K hK => go_run rfl (wo_mv (.tmp 0) (.string s) (fun _ => rfl) rfl (hK _ (Mw.refl _))))
  ·exact og_eq _ rfl (fun f wf hq hd K hK => go_run rfl (wo_mv (.tmp 1) (.int .i64 ((k : Nat) : Int)) (fun _ => rfl) rfl (hK _ (Mw.refl _))))
  ·exact og_eq _ rfl (fun f wf hq hd K hK => go_run rfl (wo_mv (.tmp 11) (.int .i64 ((e : Nat) : Int)) (fun _ => rfl) rfl (hK _ (Mw.refl _))))
  ·exact og_eq _ rfl (fun f wf hq hd K hK => go_run rfl (wo_val (.string (s.extract k e)) (mid_run _ _ _ _ s (k) (e) (by exact (hd 0 rfl)) (by exact (hd 1 rfl)) (by exact (hd 2 rfl)) (by omega) (by omega) _ _ _ _ _ _) (hK _ (Mw.refl _))))
  ·exact og_eq _ rfl (fun f wf hq hd K hK => go_run rfl (wo_un (fun v => Instr.fieldAt 37 v 0) (.tmp 6) (pt k2 0) (pt k2 0) (fun _ => rfl) rfl (by kernel_rfl) (hK _ (Mw.refl _))))
 intro kf7 w7 hq hR hne
 replace Q1 := Q1.mo hq
 replace Q2 := Q2.mo hq
 replace M := M.trans hq
 clear hq hR hne
 refine wl_st1 3 (.tmp 92) (.const (.int .i64 (3))) k2 0 (.int .i64 (3)) _ [.int .i64 (3), .string ⟨#[]⟩, .int .i64 0, .bool false, .int .u64 0, .int .u64 0, .int .u64 0, .int .u64 0, .int .i64 0, .bool false, .string ⟨#[]⟩, .int .i64 0, .int .i64 ((k : Nat) : Int)] Q2 rfl rfl rfl rfl rfl sz3 rfl rfl rfl rfl ?_
 intro w8 hS Qn
 replace Q2 := Qn
 clear Qn
 replace Q1 := hS.other _ _ ne_k1_k2 Q1
 replace M := hS.mo _ N_k2 M
 clear hS
 refine wl_f 37 1 (.tmp 6) (pt k2 0) (pt k2 1) ?_
 refine wl_st1 9 (.tmp 93) (.tmp 91) k2 1 (.string (s.extract k e)) _ [.int .i64 (3), .string (s.extract k e), .int .i64 0, .bool false, .int .u64 0, .int .u64 0, .int .u64 0, .int .u64 0, .int .i64 0, .bool false, .string ⟨#[]⟩, .int .i64 0, .int .i64 ((k : Nat) : Int)] Q2 rfl rfl rfl rfl rfl sz9 rfl rfl rfl rfl ?_
 intro w9 hS Qn
 replace Q2 := Qn
 clear Qn
 replace Q1 := hS.other _ _ ne_k1_k2 Q1
 replace M := hS.mo _ N_k2 M
 clear hS
 refine w_nil (xn_then (w_seq (w_reg ?_)))
 refine wl_f 37 1 (.tmp 6) (pt k2 0) (pt k2 1) ?_
 refine wl_l 9 (.tmp 95) (pt k2 1) (.string (s.extract k e)) (run_one Q2 9 1 rfl Tryd.underlying9 rfl) ?_
 refine wl_call 21 [(.tmp 96)] _ [.string (s.extract k e)] (.tuple #[.string (unq (s.extract k e)).1, .bool false]) rfl rfl (fun _ _ => by kernel_rfl) (runq_c hu _ (by omega)) rfl ?_
 intro w10 hq
 replace Q1 := Q1.mo hq
 replace Q2 := Q2.mo hq
 replace M := M.trans hq
 clear hq
 refine wl_m (.tmp 97) (.tuple #[.string (unq (s.extract k e)).1, .bool false]) ?_
 refine wl_un (fun v => Instr.extract v 0) (.tmp 94) (.tuple #[.string (unq (s.extract k e)).1, .bool false]) (.string (unq (s.extract k e)).1) (fun _ => rfl) rfl (by kernel_rfl) rfl ?_
 refine wl_un (fun v => Instr.extract v 1) (.tmp 94) (.tuple #[.string (unq (s.extract k e)).1, .bool false]) (.bool false) (fun _ => rfl) rfl (by kernel_rfl) rfl ?_
 refine wl_m (.tmp 98) (.string (unq (s.extract k e)).1) ?_
 refine wl_m (.tmp 99) (.bool false) ?_
 refine w_nil (xn_then (w_seq (w_reg ?_)))
 refine wl_m (.tmp 13) (.string (unq (s.extract k e)).1) ?_
 refine wl_build 35 [(0, (.const (.int .i64 (3)))), (3, (.tmp 100))] [(0, .int .i64 (3)), (3, .string (unq (s.extract k e)).1)] (.agg #[.int .i64 (3), .bool false, .int .u64 0, .int .u64 0, .int .u64 0, .int .u64 0, .int .i64 0, .bool false, .string (unq (s.extract k e)).1, .int .i64 0]) rfl rfl (by kernel_rfl) rfl ?_
 refine wl_f 37 2 (.tmp 6) (pt k2 0) (pt k2 2) ?_
 refine wl_st 35 (.tmp 102) (.tmp 101) k2 2 #[.int .i64 (3), .bool false, .int .u64 0, .int .u64 0, .int .u64 0, .int .u64 0, .int .i64 0, .bool false, .string (unq (s.extract k e)).1, .int .i64 0] _ [.int .i64 (3), .string (s.extract k e), .int .i64 (3), .bool false, .int .u64 0, .int .u64 0, .int .u64 0, .int .u64 0, .int .i64 0, .bool false, .string (unq (s.extract k e)).1, .int .i64 0, .int .i64 ((k : Nat) : Int)] Q2 rfl rfl rfl rfl rfl sz35 rfl rfl rfl ?_
 intro w11 hS Qn
 replace Q2 := Qn
 clear Qn
 replace Q1 := hS.other _ _ ne_k1_k2 Q1
 replace M := hS.mo _ N_k2 M
 clear hS
 refine w_nil (xn_then (w_reg ?_))
 refine wl_m (.tmp 14) (.bool false) ?_
 refine wl_m (.tmp 103) (.bool false) ?_
 refine wl_skip rfl (wl_skip rfl (wl_skip rfl ?_))
 refine wl_pick (.tmp 104) (.tmp 107) (.const (.bool false)) false (.bool false) (fun _ => rfl) rfl rfl rfl ?_
 refine wl_m (.tmp 108) (.bool false) ?_
 refine w_nil (xn_blk (xn_then (w_seq (w_seq (w_reg ?_)))))
 refine wl_m (.tmp 8) (.bool false) ?_
 refine wl_un (fun v => Op.unary .not v) (.tmp 130) (.bool false) (.bool true) (fun _ => rfl) rfl (by kernel_rfl) rfl ?_
 refine w_nil (xn_then (w_condT rfl (w_seq (w_reg ?_))))
 refine wl_build 37 [] [] (.agg #[.int .i64 0, .string ⟨#[]⟩, .int .i64 0, .bool false, .int .u64 0, .int .u64 0, .int .u64 0, .int .u64 0, .int .i64 0, .bool false, .string ⟨#[]⟩, .int .i64 0, .int .i64 0]) rfl rfl (by kernel_rfl) rfl ?_
 refine wl_st 37 (.tmp 4) (.tmp 132) k1 0 #[.int .i64 0, .string ⟨#[]⟩, .int .i64 0, .bool false, .int .u64 0, .int .u64 0, .int .u64 0, .int .u64 0, .int .i64 0, .bool false, .string ⟨#[]⟩, .int .i64 0, .int .i64 0] _ [.int .i64 0, .string ⟨#[]⟩, .int .i64 0, .bool false, .int .u64 0, .int .u64 0, .int .u64 0, .int .u64 0, .int .i64 0, .bool false, .string ⟨#[]⟩, .int .i64 0, .int .i64 0] Q1 rfl rfl rfl rfl rfl sz37 rfl rfl rfl ?_
 intro w12 hS Qn
 replace Q1 := Qn
 clear Qn
 replace Q2 := hS.other _ _ ne_k1_k2.symm Q2
 replace M := hS.mo _ N_k1 M
 clear hS
 refine wl_m (.const (.int .i64 (70))) (.int .i64 (70)) ?_
 refine w_nil (xn_then (w_ret (xr_then ?_)))
 exact w_ret2 _ _ (.agg #[.int .i64 0, .string ⟨#[]⟩, .int .i64 0, .bool false, .int .u64 0, .int .u64 0, .int .u64 0, .int .u64 0, .int .i64 0, .bool false, .string ⟨#[]⟩, .int .i64 0, .int .i64 0]) (.int .i64 (70)) rfl ⟨k1, rfl, (run_row Q1 37 0 13 _ rfl Tryd.underlying37 rfl sz37)⟩ rfl ⟨rfl, M⟩
theorem rnext_3g (s : ByteArray) (k e : Nat) (w : World) (hs : s.size ≤ 1000000000000) (hk : k < s.size) (h1 : ltr (bt s k) = false) (h2 : dgt (bt s k) = false) (h34 : (bt s k == 34) = true) (he : cl s (k + 1) = some e) (hu : (unq (s.extract k e)).2 = true) (h64 : decide ((unq (s.extract k e)).1.size ≤ 64) = false) : Calls Tryd.prog 13 #[.string s, .int .i64 ((k : Nat) : Int)] w fun e' w' => e' = .returned (.tuple #[.agg #[.int .i64 0, .string ⟨#[]⟩, .int .i64 0, .bool false, .int .u64 0, .int .u64 0, .int .u64 0, .int .u64 0, .int .i64 0, .bool false, .string ⟨#[]⟩, .int .i64 0, .int .i64 0], .int .i64 70]) ∧ Mw w w' := by
 have hrg := cl_rg s _ (k + 1) (Nat.le_refl _) e he
 have hsz : (s.extract k e).size ≤ s.size := by rw [ByteArray.size_extract]; omega
 refine w_enter 134 Tryd.func13 Tryd.ntmps13 rfl rfl ?_
 have M : Mw w w := Mw.refl _
 refine w_seq (w_reg ?_)
 refine wl_alloc 37 #[.int .i64 0, .string ⟨#[]⟩, .int .i64 0, .bool false, .int .u64 0, .int .u64 0, .int .u64 0, .int .u64 0, .int .i64 0, .bool false, .string ⟨#[]⟩, .int .i64 0, .int .i64 0] rfl (fun _ => by kernel_rfl) rfl ?_
 intro k1 w1 hk hz hq Q1
 have N_k1 : w.heap.size ≤ k1 := by have := M.size; omega
 replace M := M.trans hq
 clear hk hz hq
 refine wl_m (.const (.int .i64 (0))) (.int .i64 (0)) ?_
 refine w_nil (xn_then (w_seq (w_seq (w_reg ?_))))
 refine wl_m (.tmp 1) (.int .i64 ((k : Nat) : Int)) ?_
 refine wl_b .lss 3 (.tmp 15) (.const (.int .i64 (0))) (.int .i64 ((k : Nat) : Int)) (.int .i64 (0)) (.bool false) (lt3_run (r := false) (decide_eq_false (by omega)) _ _ _) ?_
 refine wl_m (.tmp 16) (.bool false) ?_
 refine wl_m (.tmp 1) (.int .i64 ((k : Nat) : Int)) ?_
 refine wl_m (.tmp 0) (.string s) ?_
 refine wl_val (.int .i64 ((s.size : Nat) : Int)) (len_s _ _ s (by exact rfl) _ _ _ _ _ _) rfl ?_
 refine wl_b .geq 3 (.tmp 18) (.tmp 20) (.int .i64 ((k : Nat) : Int)) (.int .i64 ((s.size : Nat) : Int)) (.bool false) (geN (decide_eq_false (by omega)) _ _ _) ?_
 refine wl_pick (.tmp 17) (.const (.bool true)) (.tmp 21) false (.bool false) (fun _ => rfl) rfl rfl rfl ?_
 refine w_nil (xn_then (w_condF rfl (w_skip (xn_then (w_seq (w_reg ?_))))))
 refine wl_m (.tmp 1) (.int .i64 ((k : Nat) : Int)) ?_
 refine wl_build 37 [(3, (.tmp 24))] [(3, .int .i64 ((k : Nat) : Int))] (.agg #[.int .i64 0, .string ⟨#[]⟩, .int .i64 0, .bool false, .int .u64 0, .int .u64 0, .int .u64 0, .int .u64 0, .int .i64 0, .bool false, .string ⟨#[]⟩, .int .i64 0, .int .i64 ((k : Nat) : Int)]) rfl rfl (by kernel_rfl) rfl ?_
 refine wl_alloc 37 #[.int .i64 0, .string ⟨#[]⟩, .int .i64 0, .bool false, .int .u64 0, .int .u64 0, .int .u64 0, .int .u64 0, .int .i64 0, .bool false, .string ⟨#[]⟩, .int .i64 0, .int .i64 0] rfl (fun _ => by kernel_rfl) rfl ?_
 intro k2 w2 hk hz hq Q2
 have ne_k1_k2 : k1 ≠ k2 := by have := Q1.lt; omega
 have N_k2 : w.heap.size ≤ k2 := by have := M.size; omega
 replace Q1 := Q1.mo hq
 replace M := M.trans hq
 clear hk hz hq
 refine wl_st 37 (.tmp 6) (.tmp 25) k2 0 #[.int .i64 0, .string ⟨#[]⟩, .int .i64 0, .bool false, .int .u64 0, .int .u64 0, .int .u64 0, .int .u64 0, .int .i64 0, .bool false, .string ⟨#[]⟩, .int .i64 0, .int .i64 ((k : Nat) : Int)] _ [.int .i64 0, .string ⟨#[]⟩, .int .i64 0, .bool false, .int .u64 0, .int .u64 0, .int .u64 0, .int .u64 0, .int .i64 0, .bool false, .string ⟨#[]⟩, .int .i64 0, .int .i64 ((k : Nat) : Int)] Q2 rfl rfl rfl rfl rfl sz37 rfl rfl rfl ?_
 intro w3 hS Qn
 replace Q2 := Qn
 clear Qn
 replace Q1 := hS.other _ _ ne_k1_k2 Q1
 replace M := hS.mo _ N_k2 M
 clear hS
 refine w_nil (xn_then (w_seq (w_reg ?_)))
 refine wl_m (.tmp 0) (.string s) ?_
 refine wl_m (.tmp 1) (.int .i64 ((k : Nat) : Int)) ?_
 refine wl_bin (fun x y => Instr.index 9 x y) (.tmp 26) (.tmp 27) (.string s) (.int .i64 ((k : Nat) : Int)) (.int .u8 (bt s (k))) (fun _ => rfl) rfl rfl (idx_b (k := k) (by omega) _) rfl ?_
 refine wl_m (.tmp 28) (.int .u8 (bt s (k))) ?_
 refine w_nil (xn_then (w_seq (w_reg ?_)))
 refine wl_m (.const (.bool false)) (.bool false) ?_
 refine w_nil (xn_then (w_seq (w_block (w_seq (w_reg ?_)))))
 refine wl_m (.tmp 7) (.int .u8 (bt s (k))) ?_
 refine wl_call 29 [(.tmp 40)] _ [.int .u8 (bt s (k))] (.bool false) rfl rfl (fun _ _ => by kernel_rfl) (rlt_c h1 _) rfl ?_
 intro w4 hq
 replace Q1 := Q1.mo hq
 replace Q2 := Q2.mo hq
 replace M := M.trans hq
 clear hq
 refine wl_m (.tmp 41) (.bool false) ?_
 refine w_nil (xn_then (w_condF rfl (w_seq (w_reg ?_))))
 refine wl_m (.tmp 7) (.int .u8 (bt s (k))) ?_
 refine wl_call 31 [(.tmp 54)] _ [.int .u8 (bt s (k))] (.bool false) rfl rfl (fun _ _ => by kernel_rfl) (rdg_c h2 _) rfl ?_
 intro w5 hq
 replace Q1 := Q1.mo hq
 replace Q2 := Q2.mo hq
 replace M := M.trans hq
 clear hq
 refine wl_m (.tmp 55) (.bool false) ?_
 refine w_nil (xn_then (w_condF rfl (w_seq (w_reg ?_))))
 refine wl_m (.tmp 7) (.int .u8 (bt s (k))) ?_
 refine wl_b .eql 5 (.tmp 79) (.const (.int .u8 (34))) (.int .u8 (bt s (k))) (.int .u8 (34)) (.bool true) (eq5r h34 _ _ _) ?_
 refine wl_m (.tmp 80) (.bool true) ?_
 refine w_nil (xn_then (w_condT rfl (w_seq (w_reg ?_))))
 refine wl_m (.tmp 0) (.string s) ?_
 refine wl_m (.tmp 1) (.int .i64 ((k : Nat) : Int)) ?_
 refine wl_call 34 [(.tmp 82), (.tmp 83)] _ [.string s, .int .i64 ((k : Nat) : Int)] (.tuple #[.int .i64 ((e : Nat) : Int), .bool true]) rfl rfl (fun _ _ => by kernel_rfl) (clo_c he _ (by unfold maxLen; omega) hk) rfl ?_
 intro w6 hq
 replace Q1 := Q1.mo hq
 replace Q2 := Q2.mo hq
 replace M := M.trans hq
 clear hq
 refine wl_m (.tmp 84) (.tuple #[.int .i64 ((e : Nat) : Int), .bool true]) ?_
 refine wl_un (fun v => Instr.extract v 0) (.tmp 81) (.tuple #[.int .i64 ((e : Nat) : Int), .bool true]) (.int .i64 ((e : Nat) : Int)) (fun _ => rfl) rfl (by kernel_rfl) rfl ?_
 refine wl_un (fun v => Instr.extract v 1) (.tmp 81) (.tuple #[.int .i64 ((e : Nat) : Int), .bool true]) (.bool true) (fun _ => rfl) rfl (by kernel_rfl) rfl ?_
 refine wl_m (.tmp 85) (.int .i64 ((e : Nat) : Int)) ?_
 refine wl_m (.tmp 86) (.bool true) ?_
 refine w_nil (xn_then (w_seq (w_reg ?_)))
 refine wl_m (.tmp 12) (.bool true) ?_
 refine w_nil (xn_then (w_condT rfl (w_seq ?_)))
 refine w_any 5 [.inl (.string s), .inl (.int .i64 ((k : Nat) : Int)), .inl (.int .i64 ((e : Nat) : Int)), .inl (.string (s.extract k e)), .inl (pt k2 0)] [0, 1, 2, 3] (by kernel_rfl) (by kernel_rfl) (by kernel_rfl) (by kernel_rfl) rfl (by kernel_rfl) (by kernel_rfl) (late_cons ⟨_, _, rfl, rfl, fun _ _ _ _ h => h, fun f hd => ⟨rfl, la_mv (.tmp 0) (.string s) (fun _ => rfl) rfl⟩⟩ (late_cons ⟨_, _, rfl, rfl, fun _ _ _ _ h => h, fun f hd => ⟨rfl, la_mv (.tmp 1) (.int .i64 ((k : Nat) : Int)) (fun _ => rfl) rfl⟩⟩ (late_cons ⟨_, _, rfl, rfl, fun _ _ _ _ h => h, fun f hd => ⟨rfl, la_mv (.tmp 11) (.int .i64 ((e : Nat) : Int)) (fun _ => rfl) rfl⟩⟩ (late_cons ⟨_, _, rfl, rfl, fun _ _ _ _ h => h, fun f hd => ⟨rfl, (fun w => (mid_run _ _ _ _ s (k) (e) (by exact (hd 0 rfl _ rfl)) (by exact (hd 1 rfl _ rfl)) (by exact (hd 2 rfl _ rfl)) (by omega) (by omega) _ _ _ _ _ w))⟩⟩ late_nil)))) ?_ ?_ ?_
 ·exact Ds.none rfl
 ·refine ea_cons ?_ (ea_cons ?_ (ea_cons ?_ (ea_cons ?_ (ea_cons ?_ (ea_nil)))))
  ·exact og_eq _ rfl (fun f wf hq hd K hK => go_run rfl (wo_mv (.tmp 0) (.string s) (fun _ => rfl) rfl (hK _ (Mw.refl _))))
  ·exact og_eq _ rfl (fun f wf hq hd K hK => go_run rfl (wo_mv (.tmp 1) (.int .i64 ((k : Nat) : Int)) (fun _ => rfl) rfl (hK _ (Mw.refl _))))
  ·exact og_eq _ rfl (fun f wf hq hd K hK => go_run rfl (wo_mv (.tmp 11) (.int .i64 ((e : Nat) : Int)) (fun _ => rfl) rfl (hK _ (Mw.refl _))))
  ·exact og_eq _ rfl (fun f wf hq hd K hK => go_run rfl (wo_val (.string (s.extract k e)) (mid_run _ _ _ _ s (k) (e) (by exact (hd 0 rfl)) (by exact (hd 1 rfl)) (by exact (hd 2 rfl)) (by omega) (by omega) _ _ _ _ _ _) (hK _ (Mw.refl _))))
  ·exact og_eq _ rfl (fun f wf hq hd K hK => go_run rfl (wo_un (fun v => Instr.fieldAt 37 v 0) (.tmp 6) (pt k2 0) (pt k2 0) (fun _ => rfl) rfl (by kernel_rfl) (hK _ (Mw.refl _))))
 intro kf7 w7 hq hR hne
 replace Q1 := Q1.mo hq
 replace Q2 := Q2.mo hq
 replace M := M.trans hq
 clear hq hR hne
 refine wl_st1 3 (.tmp 92) (.const (.int .i64 (3))) k2 0 (.int .i64 (3)) _ [.int .i64 (3), .string ⟨#[]⟩, .int .i64 0, .bool false, .int .u64 0, .int .u64 0, .int .u64 0, .int .u64 0, .int .i64 0, .bool false, .string ⟨#[]⟩, .int .i64 0, .int .i64 ((k : Nat) : Int)] Q2 rfl rfl rfl rfl rfl sz3 rfl rfl rfl rfl ?_
 intro w8 hS Qn
 replace Q2 := Qn
 clear Qn
 replace Q1 := hS.other _ _ ne_k1_k2 Q1
 replace M := hS.mo _ N_k2 M
 clear hS
 refine wl_f 37 1 (.tmp 6) (pt k2 0) (pt k2 1) ?_
 refine wl_st1 9 (.tmp 93) (.tmp 91) k2 1 (.string (s.extract k e)) _ [.int .i64 (3), .string (s.extract k e), .int .i64 0, .bool false, .int .u64 0, .int .u64 0, .int .u64 0, .int .u64 0, .int .i64 0, .bool false, .string ⟨#[]⟩, .int .i64 0, .int .i64 ((k : Nat) : Int)] Q2 rfl rfl rfl rfl rfl sz9 rfl rfl rfl rfl ?_
 intro w9 hS Qn
 replace Q2 := Qn
 clear Qn
 replace Q1 := hS.other _ _ ne_k1_k2 Q1
 replace M := hS.mo _ N_k2 M
 clear hS
 refine w_nil (xn_then (w_seq (w_reg ?_)))
 refine wl_f 37 1 (.tmp 6) (pt k2 0) (pt k2 1) ?_
 refine wl_l 9 (.tmp 95) (pt k2 1) (.string (s.extract k e)) (run_one Q2 9 1 rfl Tryd.underlying9 rfl) ?_
 refine wl_call 21 [(.tmp 96)] _ [.string (s.extract k e)] (.tuple #[.string (unq (s.extract k e)).1, .bool true]) rfl rfl (fun _ _ => by kernel_rfl) (runq_c hu _ (by omega)) rfl ?_
 intro w10 hq
 replace Q1 := Q1.mo hq
 replace Q2 := Q2.mo hq
 replace M := M.trans hq
 clear hq
 refine wl_m (.tmp 97) (.tuple #[.string (unq (s.extract k e)).1, .bool true]) ?_
 refine wl_un (fun v => Instr.extract v 0) (.tmp 94) (.tuple #[.string (unq (s.extract k e)).1, .bool true]) (.string (unq (s.extract k e)).1) (fun _ => rfl) rfl (by kernel_rfl) rfl ?_
 refine wl_un (fun v => Instr.extract v 1) (.tmp 94) (.tuple #[.string (unq (s.extract k e)).1, .bool true]) (.bool true) (fun _ => rfl) rfl (by kernel_rfl) rfl ?_
 refine wl_m (.tmp 98) (.string (unq (s.extract k e)).1) ?_
 refine wl_m (.tmp 99) (.bool true) ?_
 refine w_nil (xn_then (w_seq (w_reg ?_)))
 refine wl_m (.tmp 13) (.string (unq (s.extract k e)).1) ?_
 refine wl_build 35 [(0, (.const (.int .i64 (3)))), (3, (.tmp 100))] [(0, .int .i64 (3)), (3, .string (unq (s.extract k e)).1)] (.agg #[.int .i64 (3), .bool false, .int .u64 0, .int .u64 0, .int .u64 0, .int .u64 0, .int .i64 0, .bool false, .string (unq (s.extract k e)).1, .int .i64 0]) rfl rfl (by kernel_rfl) rfl ?_
 refine wl_f 37 2 (.tmp 6) (pt k2 0) (pt k2 2) ?_
 refine wl_st 35 (.tmp 102) (.tmp 101) k2 2 #[.int .i64 (3), .bool false, .int .u64 0, .int .u64 0, .int .u64 0, .int .u64 0, .int .i64 0, .bool false, .string (unq (s.extract k e)).1, .int .i64 0] _ [.int .i64 (3), .string (s.extract k e), .int .i64 (3), .bool false, .int .u64 0, .int .u64 0, .int .u64 0, .int .u64 0, .int .i64 0, .bool false, .string (unq (s.extract k e)).1, .int .i64 0, .int .i64 ((k : Nat) : Int)] Q2 rfl rfl rfl rfl rfl sz35 rfl rfl rfl ?_
 intro w11 hS Qn
 replace Q2 := Qn
 clear Qn
 replace Q1 := hS.other _ _ ne_k1_k2 Q1
 replace M := hS.mo _ N_k2 M
 clear hS
 refine w_nil (xn_then (w_reg ?_))
 refine wl_m (.tmp 14) (.bool true) ?_
 refine wl_m (.tmp 103) (.bool true) ?_
 refine wl_m (.tmp 13) (.string (unq (s.extract k e)).1) ?_
 refine wl_val (.int .i64 (((unq (s.extract k e)).1.size : Nat) : Int)) (len_z _ _ (unq (s.extract k e)).1 (by exact rfl) _ _ _ _ _ _) rfl ?_
 refine wl_b .leq 3 (.tmp 106) (.const (.int .i64 (64))) (.int .i64 (((unq (s.extract k e)).1.size : Nat) : Int)) (.int .i64 (64)) (.bool false) (leN h64 _ _ _) ?_
 refine wl_pick (.tmp 104) (.tmp 107) (.const (.bool false)) true (.bool false) (fun _ => rfl) rfl rfl rfl ?_
 refine wl_m (.tmp 108) (.bool false) ?_
 refine w_nil (xn_blk (xn_then (w_seq (w_seq (w_reg ?_)))))
 refine wl_m (.tmp 8) (.bool false) ?_
 refine wl_un (fun v => Op.unary .not v) (.tmp 130) (.bool false) (.bool true) (fun _ => rfl) rfl (by kernel_rfl) rfl ?_
 refine w_nil (xn_then (w_condT rfl (w_seq (w_reg ?_))))
 refine wl_build 37 [] [] (.agg #[.int .i64 0, .string ⟨#[]⟩, .int .i64 0, .bool false, .int .u64 0, .int .u64 0, .int .u64 0, .int .u64 0, .int .i64 0, .bool false, .string ⟨#[]⟩, .int .i64 0, .int .i64 0]) rfl rfl (by kernel_rfl) rfl ?_
 refine wl_st 37 (.tmp 4) (.tmp 132) k1 0 #[.int .i64 0, .string ⟨#[]⟩, .int .i64 0, .bool false, .int .u64 0, .int .u64 0, .int .u64 0, .int .u64 0, .int .i64 0, .bool false, .string ⟨#[]⟩, .int .i64 0, .int .i64 0] _ [.int .i64 0, .string ⟨#[]⟩, .int .i64 0, .bool false, .int .u64 0, .int .u64 0, .int .u64 0, .int .u64 0, .int .i64 0, .bool false, .string ⟨#[]⟩, .int .i64 0, .int .i64 0] Q1 rfl rfl rfl rfl rfl sz37 rfl rfl rfl ?_
 intro w12 hS Qn
 replace Q1 := Qn
 clear Qn
 replace Q2 := hS.other _ _ ne_k1_k2.symm Q2
 replace M := hS.mo _ N_k1 M
 clear hS
 refine wl_m (.const (.int .i64 (70))) (.int .i64 (70)) ?_
 refine w_nil (xn_then (w_ret (xr_then ?_)))
 exact w_ret2 _ _ (.agg #[.int .i64 0, .string ⟨#[]⟩, .int .i64 0, .bool false, .int .u64 0, .int .u64 0, .int .u64 0, .int .u64 0, .int .i64 0, .bool false, .string ⟨#[]⟩, .int .i64 0, .int .i64 0]) (.int .i64 (70)) rfl ⟨k1, rfl, (run_row Q1 37 0 13 _ rfl Tryd.underlying37 rfl sz37)⟩ rfl ⟨rfl, M⟩
theorem rnext_3n (s : ByteArray) (k : Nat) (w : World) (hs : s.size ≤ 1000000000000) (hk : k < s.size) (h1 : ltr (bt s k) = false) (h2 : dgt (bt s k) = false) (h34 : (bt s k == 34) = true) (he : cl s (k + 1) = none) : Calls Tryd.prog 13 #[.string s, .int .i64 ((k : Nat) : Int)] w fun e' w' => e' = .returned (.tuple #[.agg #[.int .i64 0, .string ⟨#[]⟩, .int .i64 0, .bool false, .int .u64 0, .int .u64 0, .int .u64 0, .int .u64 0, .int .i64 0, .bool false, .string ⟨#[]⟩, .int .i64 0, .int .i64 0], .int .i64 70]) ∧ Mw w w' := by
 refine w_enter 134 Tryd.func13 Tryd.ntmps13 rfl rfl ?_
 have M : Mw w w := Mw.refl _
 refine w_seq (w_reg ?_)
 refine wl_alloc 37 #[.int .i64 0, .string ⟨#[]⟩, .int .i64 0, .bool false, .int .u64 0, .int .u64 0, .int .u64 0, .int .u64 0, .int .i64 0, .bool false, .string ⟨#[]⟩, .int .i64 0, .int .i64 0] rfl (fun _ => by kernel_rfl) rfl ?_
 intro k1 w1 hk hz hq Q1
 have N_k1 : w.heap.size ≤ k1 := by have := M.size; omega
 replace M := M.trans hq
 clear hk hz hq
 refine wl_m (.const (.int .i64 (0))) (.int .i64 (0)) ?_
 refine w_nil (xn_then (w_seq (w_seq (w_reg ?_))))
 refine wl_m (.tmp 1) (.int .i64 ((k : Nat) : Int)) ?_
 refine wl_b .lss 3 (.tmp 15) (.const (.int .i64 (0))) (.int .i64 ((k : Nat) : Int)) (.int .i64 (0)) (.bool false) (lt3_run (r := false) (decide_eq_false (by omega)) _ _ _) ?_
 refine wl_m (.tmp 16) (.bool false) ?_
 refine wl_m (.tmp 1) (.int .i64 ((k : Nat) : Int)) ?_
 refine wl_m (.tmp 0) (.string s) ?_
 refine wl_val (.int .i64 ((s.size : Nat) : Int)) (len_s _ _ s (by exact rfl) _ _ _ _ _ _) rfl ?_
 refine wl_b .geq 3 (.tmp 18) (.tmp 20) (.int .i64 ((k : Nat) : Int)) (.int .i64 ((s.size : Nat) : Int)) (.bool false) (geN (decide_eq_false (by omega)) _ _ _) ?_
 refine wl_pick (.tmp 17) (.const (.bool true)) (.tmp 21) false (.bool false) (fun _ => rfl) rfl rfl rfl ?_
 refine w_nil (xn_then (w_condF rfl (w_skip (xn_then (w_seq (w_reg ?_))))))
 refine wl_m (.tmp 1) (.int .i64 ((k : Nat) : Int)) ?_
 refine wl_build 37 [(3, (.tmp 24))] [(3, .int .i64 ((k : Nat) : Int))] (.agg #[.int .i64 0, .string ⟨#[]⟩, .int .i64 0, .bool false, .int .u64 0, .int .u64 0, .int .u64 0, .int .u64 0, .int .i64 0, .bool false, .string ⟨#[]⟩, .int .i64 0, .int .i64 ((k : Nat) : Int)]) rfl rfl (by kernel_rfl) rfl ?_
 refine wl_alloc 37 #[.int .i64 0, .string ⟨#[]⟩, .int .i64 0, .bool false, .int .u64 0, .int .u64 0, .int .u64 0, .int .u64 0, .int .i64 0, .bool false, .string ⟨#[]⟩, .int .i64 0, .int .i64 0] rfl (fun _ => by kernel_rfl) rfl ?_
 intro k2 w2 hk hz hq Q2
 have ne_k1_k2 : k1 ≠ k2 := by have := Q1.lt; omega
 have N_k2 : w.heap.size ≤ k2 := by have := M.size; omega
 replace Q1 := Q1.mo hq
 replace M := M.trans hq
 clear hk hz hq
 refine wl_st 37 (.tmp 6) (.tmp 25) k2 0 #[.int .i64 0, .string ⟨#[]⟩, .int .i64 0, .bool false, .int .u64 0, .int .u64 0, .int .u64 0, .int .u64 0, .int .i64 0, .bool false, .string ⟨#[]⟩, .int .i64 0, .int .i64 ((k : Nat) : Int)] _ [.int .i64 0, .string ⟨#[]⟩, .int .i64 0, .bool false, .int .u64 0, .int .u64 0, .int .u64 0, .int .u64 0, .int .i64 0, .bool false, .string ⟨#[]⟩, .int .i64 0, .int .i64 ((k : Nat) : Int)] Q2 rfl rfl rfl rfl rfl sz37 rfl rfl rfl ?_
 intro w3 hS Qn
 replace Q2 := Qn
 clear Qn
 replace Q1 := hS.other _ _ ne_k1_k2 Q1
 replace M := hS.mo _ N_k2 M
 clear hS
 refine w_nil (xn_then (w_seq (w_reg ?_)))
 refine wl_m (.tmp 0) (.string s) ?_
 refine wl_m (.tmp 1) (.int .i64 ((k : Nat) : Int)) ?_
 refine wl_bin (fun x y => Instr.index 9 x y) (.tmp 26) (.tmp 27) (.string s) (.int .i64 ((k : Nat) : Int)) (.int .u8 (bt s (k))) (fun _ => rfl) rfl rfl (idx_b (k := k) (by omega) _) rfl ?_
 refine wl_m (.tmp 28) (.int .u8 (bt s (k))) ?_
 refine w_nil (xn_then (w_seq (w_reg ?_)))
 refine wl_m (.const (.bool false)) (.bool false) ?_
 refine w_nil (xn_then (w_seq (w_block (w_seq (w_reg ?_)))))
 refine wl_m (.tmp 7) (.int .u8 (bt s (k))) ?_
 refine wl_call 29 [(.tmp 40)] _ [.int .u8 (bt s (k))] (.bool false) rfl rfl (fun _ _ => by kernel_rfl) (rlt_c h1 _) rfl ?_
 intro w4 hq
 replace Q1 := Q1.mo hq
 replace Q2 := Q2.mo hq
 replace M := M.trans hq
 clear hq
 refine wl_m (.tmp 41) (.bool false) ?_
 refine w_nil (xn_then (w_condF rfl (w_seq (w_reg ?_))))
 refine wl_m (.tmp 7) (.int .u8 (bt s (k))) ?_
 refine wl_call 31 [(.tmp 54)] _ [.int .u8 (bt s (k))] (.bool false) rfl rfl (fun _ _ => by kernel_rfl) (rdg_c h2 _) rfl ?_
 intro w5 hq
 replace Q1 := Q1.mo hq
 replace Q2 := Q2.mo hq
 replace M := M.trans hq
 clear hq
 refine wl_m (.tmp 55) (.bool false) ?_
 refine w_nil (xn_then (w_condF rfl (w_seq (w_reg ?_))))
 refine wl_m (.tmp 7) (.int .u8 (bt s (k))) ?_
 refine wl_b .eql 5 (.tmp 79) (.const (.int .u8 (34))) (.int .u8 (bt s (k))) (.int .u8 (34)) (.bool true) (eq5r h34 _ _ _) ?_
 refine wl_m (.tmp 80) (.bool true) ?_
 refine w_nil (xn_then (w_condT rfl (w_seq (w_reg ?_))))
 refine wl_m (.tmp 0) (.string s) ?_
 refine wl_m (.tmp 1) (.int .i64 ((k : Nat) : Int)) ?_
 refine wl_call 34 [(.tmp 82), (.tmp 83)] _ [.string s, .int .i64 ((k : Nat) : Int)] (.tuple #[.int .i64 ((0 : Nat) : Int), .bool false]) rfl rfl (fun _ _ => by kernel_rfl) (clo_c he _ (by unfold maxLen; omega) hk) rfl ?_
 intro w6 hq
 replace Q1 := Q1.mo hq
 replace Q2 := Q2.mo hq
 replace M := M.trans hq
 clear hq
 refine wl_m (.tmp 84) (.tuple #[.int .i64 ((0 : Nat) : Int), .bool false]) ?_
 refine wl_un (fun v => Instr.extract v 0) (.tmp 81) (.tuple #[.int .i64 ((0 : Nat) : Int), .bool false]) (.int .i64 ((0 : Nat) : Int)) (fun _ => rfl) rfl (by kernel_rfl) rfl ?_
 refine wl_un (fun v => Instr.extract v 1) (.tmp 81) (.tuple #[.int .i64 ((0 : Nat) : Int), .bool false]) (.bool false) (fun _ => rfl) rfl (by kernel_rfl) rfl ?_
 refine wl_m (.tmp 85) (.int .i64 ((0 : Nat) : Int)) ?_
 refine wl_m (.tmp 86) (.bool false) ?_
 refine w_nil (xn_then (w_seq (w_reg ?_)))
 refine wl_m (.tmp 12) (.bool false) ?_
 refine w_nil (xn_then (w_condF rfl (w_skip (xn_blk (xn_then (w_seq (w_seq (w_reg ?_))))))))
 refine wl_m (.tmp 8) (.bool false) ?_
 refine wl_un (fun v => Op.unary .not v) (.tmp 130) (.bool false) (.bool true) (fun _ => rfl) rfl (by kernel_rfl) rfl ?_
 refine w_nil (xn_then (w_condT rfl (w_seq (w_reg ?_))))
 refine wl_build 37 [] [] (.agg #[.int .i64 0, .string ⟨#[]⟩, .int .i64 0, .bool false, .int .u64 0, .int .u64 0, .int .u64 0, .int .u64 0, .int .i64 0, .bool false, .string ⟨#[]⟩, .int .i64 0, .int .i64 0]) rfl rfl (by kernel_rfl) rfl ?_
 refine wl_st 37 (.tmp 4) (.tmp 132) k1 0 #[.int .i64 0, .string ⟨#[]⟩, .int .i64 0, .bool false, .int .u64 0, .int .u64 0, .int .u64 0, .int .u64 0, .int .i64 0, .bool false, .string ⟨#[]⟩, .int .i64 0, .int .i64 0] _ [.int .i64 0, .string ⟨#[]⟩, .int .i64 0, .bool false, .int .u64 0, .int .u64 0, .int .u64 0, .int .u64 0, .int .i64 0, .bool false, .string ⟨#[]⟩, .int .i64 0, .int .i64 0] Q1 rfl rfl rfl rfl rfl sz37 rfl rfl rfl ?_
 intro w7 hS Qn
 replace Q1 := Qn
 clear Qn
 replace Q2 := hS.other _ _ ne_k1_k2.symm Q2
 replace M := hS.mo _ N_k1 M
 clear hS
 refine wl_m (.const (.int .i64 (70))) (.int .i64 (70)) ?_
 refine w_nil (xn_then (w_ret (xr_then ?_)))
 exact w_ret2 _ _ (.agg #[.int .i64 0, .string ⟨#[]⟩, .int .i64 0, .bool false, .int .u64 0, .int .u64 0, .int .u64 0, .int .u64 0, .int .i64 0, .bool false, .string ⟨#[]⟩, .int .i64 0, .int .i64 0]) (.int .i64 (70)) rfl ⟨k1, rfl, (run_row Q1 37 0 13 _ rfl Tryd.underlying37 rfl sz37)⟩ rfl ⟨rfl, M⟩
theorem rnext_6 (s : ByteArray) (k e : Nat) (w : World) (hs : s.size ≤ 1000000000000) (hk : k < s.size) (h1 : ltr (bt s k) = false) (h2 : dgt (bt s k) = false) (h34 : (bt s k == 34) = false) (hz : k + 1 < s.size) (he : k + 2 = e) (h4 : symb (s.extract k e) = true) : Calls Tryd.prog 13 #[.string s, .int .i64 ((k : Nat) : Int)] w fun e' w' => e' = .returned (.tuple #[.agg #[.int .i64 (4), .string (s.extract k e), .int .i64 0, .bool false, .int .u64 0, .int .u64 0, .int .u64 0, .int .u64 0, .int .i64 0, .bool false, .string ⟨#[]⟩, .int .i64 0, .int .i64 ((k : Nat) : Int)], .int .i64 0]) ∧ Mw w w' := by
 have hsz : (s.extract k e).size ≤ s.size := by rw [ByteArray.size_extract]; omega
 refine w_enter 134 Tryd.func13 Tryd.ntmps13 rfl rfl ?_
 have M : Mw w w := Mw.refl _
 refine w_seq (w_reg ?_)
 refine wl_alloc 37 #[.int .i64 0, .string ⟨#[]⟩, .int .i64 0, .bool false, .int .u64 0, .int .u64 0, .int .u64 0, .int .u64 0, .int .i64 0, .bool false, .string ⟨#[]⟩, .int .i64 0, .int .i64 0] rfl (fun _ => by kernel_rfl) rfl ?_
 intro k1 w1 hk hz hq Q1
 have N_k1 : w.heap.size ≤ k1 := by have := M.size; omega
 replace M := M.trans hq
 clear hk hz hq
 refine wl_m (.const (.int .i64 (0))) (.int .i64 (0)) ?_
 refine w_nil (xn_then (w_seq (w_seq (w_reg ?_))))
 refine wl_m (.tmp 1) (.int .i64 ((k : Nat) : Int)) ?_
 refine wl_b .lss 3 (.tmp 15) (.const (.int .i64 (0))) (.int .i64 ((k : Nat) : Int)) (.int .i64 (0)) (.bool false) (lt3_run (r := false) (decide_eq_false (by omega)) _ _ _) ?_
 refine wl_m (.tmp 16) (.bool false) ?_
 refine wl_m (.tmp 1) (.int .i64 ((k : Nat) : Int)) ?_
 refine wl_m (.tmp 0) (.string s) ?_
 refine wl_val (.int .i64 ((s.size : Nat) : Int)) (len_s _ _ s (by exact rfl) _ _ _ _ _ _) rfl ?_
 refine wl_b .geq 3 (.tmp 18) (.tmp 20) (.int .i64 ((k : Nat) : Int)) (.int .i64 ((s.size : Nat) : Int)) (.bool false) (geN (decide_eq_false (by omega)) _ _ _) ?_
 refine wl_pick (.tmp 17) (.const (.bool true)) (.tmp 21) false (.bool false) (fun _ => rfl) rfl rfl rfl ?_
 refine w_nil (xn_then (w_condF rfl (w_skip (xn_then (w_seq (w_reg ?_))))))
 refine wl_m (.tmp 1) (.int .i64 ((k : Nat) : Int)) ?_
 refine wl_build 37 [(3, (.tmp 24))] [(3, .int .i64 ((k : Nat) : Int))] (.agg #[.int .i64 0, .string ⟨#[]⟩, .int .i64 0, .bool false, .int .u64 0, .int .u64 0, .int .u64 0, .int .u64 0, .int .i64 0, .bool false, .string ⟨#[]⟩, .int .i64 0, .int .i64 ((k : Nat) : Int)]) rfl rfl (by kernel_rfl) rfl ?_
 refine wl_alloc 37 #[.int .i64 0, .string ⟨#[]⟩, .int .i64 0, .bool false, .int .u64 0, .int .u64 0, .int .u64 0, .int .u64 0, .int .i64 0, .bool false, .string ⟨#[]⟩, .int .i64 0, .int .i64 0] rfl (fun _ => by kernel_rfl) rfl ?_
 intro k2 w2 hk hz hq Q2
 have ne_k1_k2 : k1 ≠ k2 := by have := Q1.lt; omega
 have N_k2 : w.heap.size ≤ k2 := by have := M.size; omega
 replace Q1 := Q1.mo hq
 replace M := M.trans hq
 clear hk hz hq
 refine wl_st 37 (.tmp 6) (.tmp 25) k2 0 #[.int .i64 0, .string ⟨#[]⟩, .int .i64 0, .bool false, .int .u64 0, .int .u64 0, .int .u64 0, .int .u64 0, .int .i64 0, .bool false, .string ⟨#[]⟩, .int .i64 0, .int .i64 ((k : Nat) : Int)] _ [.int .i64 0, .string ⟨#[]⟩, .int .i64 0, .bool false, .int .u64 0, .int .u64 0, .int .u64 0, .int .u64 0, .int .i64 0, .bool false, .string ⟨#[]⟩, .int .i64 0, .int .i64 ((k : Nat) : Int)] Q2 rfl rfl rfl rfl rfl sz37 rfl rfl rfl ?_
 intro w3 hS Qn
 replace Q2 := Qn
 clear Qn
 replace Q1 := hS.other _ _ ne_k1_k2 Q1
 replace M := hS.mo _ N_k2 M
 clear hS
 refine w_nil (xn_then (w_seq (w_reg ?_)))
 refine wl_m (.tmp 0) (.string s) ?_
 refine wl_m (.tmp 1) (.int .i64 ((k : Nat) : Int)) ?_
 refine wl_bin (fun x y => Instr.index 9 x y) (.tmp 26) (.tmp 27) (.string s) (.int .i64 ((k : Nat) : Int)) (.int .u8 (bt s (k))) (fun _ => rfl) rfl rfl (idx_b (k := k) (by omega) _) rfl ?_
 refine wl_m (.tmp 28) (.int .u8 (bt s (k))) ?_
 refine w_nil (xn_then (w_seq (w_reg ?_)))
 refine wl_m (.const (.bool false)) (.bool false) ?_
 refine w_nil (xn_then (w_seq (w_block (w_seq (w_reg ?_)))))
 refine wl_m (.tmp 7) (.int .u8 (bt s (k))) ?_
 refine wl_call 29 [(.tmp 40)] _ [.int .u8 (bt s (k))] (.bool false) rfl rfl (fun _ _ => by kernel_rfl) (rlt_c h1 _) rfl ?_
 intro w4 hq
 replace Q1 := Q1.mo hq
 replace Q2 := Q2.mo hq
 replace M := M.trans hq
 clear hq
 refine wl_m (.tmp 41) (.bool false) ?_
 refine w_nil (xn_then (w_condF rfl (w_seq (w_reg ?_))))
 refine wl_m (.tmp 7) (.int .u8 (bt s (k))) ?_
 refine wl_call 31 [(.tmp 54)] _ [.int .u8 (bt s (k))] (.bool false) rfl rfl (fun _ _ => by kernel_rfl) (rdg_c h2 _) rfl ?_
 intro w5 hq
 replace Q1 := Q1.mo hq
 replace Q2 := Q2.mo hq
 replace M := M.trans hq
 clear hq
 refine wl_m (.tmp 55) (.bool false) ?_
 refine w_nil (xn_then (w_condF rfl (w_seq (w_reg ?_))))
 refine wl_m (.tmp 7) (.int .u8 (bt s (k))) ?_
 refine wl_b .eql 5 (.tmp 79) (.const (.int .u8 (34))) (.int .u8 (bt s (k))) (.int .u8 (34)) (.bool false) (eq5r h34 _ _ _) ?_
 refine wl_m (.tmp 80) (.bool false) ?_
 refine w_nil (xn_then (w_condF rfl (w_seq (w_reg ?_))))
 refine wl_m (.tmp 1) (.int .i64 ((k : Nat) : Int)) ?_
 refine wl_b .add 3 (.tmp 110) (.const (.int .i64 (1))) (.int .i64 ((k : Nat) : Int)) (.int .i64 (1)) (.int .i64 ((k + 1 : Nat) : Int)) (addk (a := k) (b := 1) rfl (by omega) _ _ _) ?_
 refine wl_m (.tmp 0) (.string s) ?_
 refine wl_val (.int .i64 ((s.size : Nat) : Int)) (len_s _ _ s (by exact rfl) _ _ _ _ _ _) rfl ?_
 refine wl_b .lss 3 (.tmp 111) (.tmp 113) (.int .i64 ((k + 1 : Nat) : Int)) (.int .i64 ((s.size : Nat) : Int)) (.bool true) (ltN (decide_eq_true (by omega)) _ _ _) ?_
 refine wl_m (.tmp 114) (.bool true) ?_
 refine wl_m (.tmp 0) (.string s) ?_
 refine wl_m (.tmp 1) (.int .i64 ((k : Nat) : Int)) ?_
 refine wl_m (.tmp 1) (.int .i64 ((k : Nat) : Int)) ?_
 refine wl_b .add 3 (.tmp 118) (.const (.int .i64 (2))) (.int .i64 ((k : Nat) : Int)) (.int .i64 (2)) (.int .i64 ((e : Nat) : Int)) (addk (a := k) (b := 2) (c := e) (by omega) (by omega) _ _ _) ?_
 refine wl_val (.string (s.extract k e)) (mid_run _ _ _ _ s (k) (e) (by exact rfl) (by exact rfl) (by exact rfl) (by omega) (by omega) _ _ _ _ _ _) rfl ?_
 refine wl_call 19 [(.tmp 120)] _ [.string (s.extract k e)] (.bool true) rfl rfl (fun _ _ => by kernel_rfl) (rsym_c h4 _) rfl ?_
 intro w6 hq
 replace Q1 := Q1.mo hq
 replace Q2 := Q2.mo hq
 replace M := M.trans hq
 clear hq
 refine wl_pick (.tmp 115) (.tmp 121) (.const (.bool false)) true (.bool true) (fun _ => rfl) rfl rfl rfl ?_
 refine wl_m (.tmp 122) (.bool true) ?_
 refine w_nil (xn_then (w_condT rfl (w_seq ?_)))
 refine w_any 6 [.inl (.string s), .inl (.int .i64 ((k : Nat) : Int)), .inl (.int .i64 ((k : Nat) : Int)), .inl (.int .i64 ((e : Nat) : Int)), .inl (.string (s.extract k e)), .inl (pt k2 0)] [0, 1, 2, 3, 4] (by kernel_rfl) (by kernel_rfl) (by kernel_rfl) (by kernel_rfl) rfl (by kernel_rfl) (by kernel_rfl) (late_cons ⟨_, _, rfl, rfl, fun _ _ _ _ h => h, fun f hd => ⟨rfl, la_mv (.tmp 0) (.string s) (fun _ => rfl) rfl⟩⟩ (late_cons ⟨_, _, rfl, rfl, fun _ _ _ _ h => h, fun f hd => ⟨rfl, la_mv (.tmp 1) (.int .i64 ((k : Nat) : Int)) (fun _ => rfl) rfl⟩⟩ (late_cons ⟨_, _, rfl, rfl, fun _ _ _ _ h => h, fun f hd => ⟨rfl, la_mv (.tmp 1) (.int .i64 ((k : Nat) : Int)) (fun _ => rfl) rfl⟩⟩ (late_cons ⟨_, _, rfl, rfl, fun _ _ _ _ h => h, fun f hd => ⟨rfl, la_bin (fun x y => do eqGuard .add 3 (.tmp 125) (.const (.int .i64 (2))) x y; binOp .add 3 x y) (.tmp 125) (.const (.int .i64 (2))) (.int .i64 ((k : Nat) : Int)) (.int .i64 (2)) (.int .i64 ((e : Nat) : Int)) (fun _ => rfl) (hd 2 rfl _ rfl) rfl (fun w => (addk (a := k) (b := 2) (c := e) (by omega) (by omega) _ _ w))⟩⟩ (late_cons ⟨_, _, rfl, rfl, fun _ _ _ _ h => h, fun f hd => ⟨rfl, (fun w => (mid_run _ _ _ _ s (k) (e) (by exact (hd 0 rfl _ rfl)) (by exact (hd 1 rfl _ rfl)) (by exact (hd 3 rfl _ rfl)) (by omega) (by omega) _ _ _ _ _ w))⟩⟩ late_nil))))) ?_ ?_ ?_
 ·exact Ds.none rfl
 ·refine ea_cons ?_ (ea_cons ?_ (ea_cons ?_ (ea_cons ?_ (ea_cons ?_ (ea_cons ?_ (ea_nil))))))
  ·exact og_eq _ rfl (fun f wf hq hd K hK => go_run rfl (wo_mv (.tmp 0) (.string s) (fun _ => rfl) rfl (hK _ (Mw.refl _))))
  ·exact og_eq _ rfl (fun f wf hq hd K hK => go_run rfl (wo_mv (.tmp 1) (.int .i64 ((k : Nat) : Int)) (fun _ => rfl) rfl (hK _ (Mw.refl _))))
  ·exact og_eq _ rfl (fun f wf hq hd K hK => go_run rfl (wo_mv (.tmp 1) (.int .i64 ((k : Nat) : Int)) (fun _ => rfl) rfl (hK _ (Mw.refl _))))
  ·exact og_eq _ rfl (fun f wf hq hd K hK => go_run rfl (wo_bin (fun x y => do eqGuard .add 3 (.tmp 125) (.const (.int .i64 (2))) x y; binOp .add 3 x y) (.tmp 125) (.const (.int .i64 (2))) (.int .i64 ((k : Nat) : Int)) (.int .i64 (2)) (.int .i64 ((e : Nat) : Int)) (fun _ => rfl) (hd 2 rfl) rfl (addk (a := k) (b := 2) (c := e) (by omega) (by omega) _ _ _) (hK _ (Mw.refl _))))
  ·exact og_eq _ rfl (fun f wf hq hd K hK => go_run rfl (wo_val (.string (s.extract k e)) (mid_run _ _ _ _ s (k) (e) (by exact (hd 0 rfl)) (by exact (hd 1 rfl)) (by exact (hd 3 rfl)) (by omega) (by omega) _ _ _ _ _ _) (hK _ (Mw.refl _))))
  ·exact og_eq _ rfl (fun f wf hq hd K hK => go_run rfl (wo_un (fun v => Instr.fieldAt 37 v 0) (.tmp 6) (pt k2 0) (pt k2 0) (fun _ => rfl) rfl (by kernel_rfl) (hK _ (Mw.refl _))))
 intro kf7 w7 hq hR hne
 replace Q1 := Q1.mo hq
 replace Q2 := Q2.mo hq
 replace M := M.trans hq
 clear hq hR hne
 refine wl_st1 3 (.tmp 128) (.const (.int .i64 (4))) k2 0 (.int .i64 (4)) _ [.int .i64 (4), .string ⟨#[]⟩, .int .i64 0, .bool false, .int .u64 0, .int .u64 0, .int .u64 0, .int .u64 0, .int .i64 0, .bool false, .string ⟨#[]⟩, .int .i64 0, .int .i64 ((k : Nat) : Int)] Q2 rfl rfl rfl rfl rfl sz3 rfl rfl rfl rfl ?_
 intro w8 hS Qn
 replace Q2 := Qn
 clear Qn
 replace Q1 := hS.other _ _ ne_k1_k2 Q1
 replace M := hS.mo _ N_k2 M
 clear hS
 refine wl_f 37 1 (.tmp 6) (pt k2 0) (pt k2 1) ?_
 refine wl_st1 9 (.tmp 129) (.tmp 127) k2 1 (.string (s.extract k e)) _ [.int .i64 (4), .string (s.extract k e), .int .i64 0, .bool false, .int .u64 0, .int .u64 0, .int .u64 0, .int .u64 0, .int .i64 0, .bool false, .string ⟨#[]⟩, .int .i64 0, .int .i64 ((k : Nat) : Int)] Q2 rfl rfl rfl rfl rfl sz9 rfl rfl rfl rfl ?_
 intro w9 hS Qn
 replace Q2 := Qn
 clear Qn
 replace Q1 := hS.other _ _ ne_k1_k2 Q1
 replace M := hS.mo _ N_k2 M
 clear hS
 refine w_nil (xn_then (w_reg ?_))
 refine wl_m (.const (.bool true)) (.bool true) ?_
 refine w_nil (xn_blk (xn_then (w_seq (w_seq (w_reg ?_)))))
 refine wl_m (.tmp 8) (.bool true) ?_
 refine wl_un (fun v => Op.unary .not v) (.tmp 130) (.bool true) (.bool false) (fun _ => rfl) rfl (by kernel_rfl) rfl ?_
 refine w_nil (xn_then (w_condF rfl (w_skip (xn_then (w_seq (w_reg ?_))))))
 refine wl_l 37 (.tmp 6) (pt k2 0) (.agg #[.int .i64 (4), .string (s.extract k e), .int .i64 0, .bool false, .int .u64 0, .int .u64 0, .int .u64 0, .int .u64 0, .int .i64 0, .bool false, .string ⟨#[]⟩, .int .i64 0, .int .i64 ((k : Nat) : Int)]) (run_row Q2 37 0 13 _ rfl Tryd.underlying37 rfl sz37) ?_
 refine wl_st 37 (.tmp 4) (.tmp 133) k1 0 #[.int .i64 (4), .string (s.extract k e), .int .i64 0, .bool false, .int .u64 0, .int .u64 0, .int .u64 0, .int .u64 0, .int .i64 0, .bool false, .string ⟨#[]⟩, .int .i64 0, .int .i64 ((k : Nat) : Int)] _ [.int .i64 (4), .string (s.extract k e), .int .i64 0, .bool false, .int .u64 0, .int .u64 0, .int .u64 0, .int .u64 0, .int .i64 0, .bool false, .string ⟨#[]⟩, .int .i64 0, .int .i64 ((k : Nat) : Int)] Q1 rfl rfl rfl rfl rfl sz37 rfl rfl rfl ?_
 intro w10 hS Qn
 replace Q1 := Qn
 clear Qn
 replace Q2 := hS.other _ _ ne_k1_k2.symm Q2
 replace M := hS.mo _ N_k1 M
 clear hS
 refine wl_m (.const (.int .i64 (0))) (.int .i64 (0)) ?_
 refine w_nil (xn_then (w_ret ?_))
 exact w_ret2 _ _ (.agg #[.int .i64 (4), .string (s.extract k e), .int .i64 0, .bool false, .int .u64 0, .int .u64 0, .int .u64 0, .int .u64 0, .int .i64 0, .bool false, .string ⟨#[]⟩, .int .i64 0, .int .i64 ((k : Nat) : Int)]) (.int .i64 (0)) rfl ⟨k1, rfl, (run_row Q1 37 0 13 _ rfl Tryd.underlying37 rfl sz37)⟩ rfl ⟨rfl, M⟩
end Go.Proofs.YthgknegocfhdbaaDoor.V
