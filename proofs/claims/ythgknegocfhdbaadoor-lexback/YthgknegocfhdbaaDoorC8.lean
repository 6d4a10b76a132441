/-
  A part of the proof.
-/
import Derived.Test.YthgknegocfhdbaaDoorC7
import Derived.Test.YthgknegocfhdbaaDoorC6
import Derived.Test.YthgknegocfhdbaaDoorC5
/-
 lex.Next, kind by kind.
-/
namespace Go.Proofs.YthgknegocfhdbaaDoor.V
open Go.RowKit
theorem lp4 {i j q u : Nat} {a b c d e f g h : Value} (k1 : a = b) (k2 : c = d) (k3 : e = f) (k4 : g = h) : [(i, a), (j, c), (q, e), (u, g)] = [(i, b), (j, d), (q, f), (u, h)] := by rw [k1, k2, k3, k4]
theorem nme_rg (s : ByteArray) : ∀ (d k : Nat), d = s.size - k → k ≤ s.size → k ≤ nme s k ∧ nme s k ≤ s.size := by
 intro d
 induction d with
 | zero => intro k hd hk; rw [nme_end (by rw [bt_out (by omega)]; rfl)]; omega
 | succ d ih =>
  intro k hd hk
  cases h : (ltr (bt s k) || dgt (bt s k)) with
  | true => rw [nme_on h]; have := ih (k + 1) (by omega) (by omega); omega
  | false => rw [nme_end h]; omega
theorem cl_rg (s : ByteArray) : ∀ (d k : Nat), s.size - k ≤ d → ∀ e, cl s k = some e → k < e ∧ e ≤ s.size := by
 intro d
 induction d with
 | zero => intro k hd e he; rw [cl_end (by omega)] at he; cases he
 | succ d ih =>
  intro k hd e he
  by_cases h : k < s.size
  ·cases h2 : (bt s k == 92) with
   | true => rw [cl_e h h2] at he; have := ih (k + 2) (by omega) e he; omega
   | false =>
    cases h3 : (bt s k == 34) with
    | true => rw [cl_q h h2 h3] at he; cases he; omega
    | false => rw [cl_o h h2 h3] at he; have := ih (k + 1) (by omega) e he; omega
  ·rw [cl_end h] at he; cases he
theorem rch_rg {s : ByteArray} {k : Nat} (hk : k < s.size) : k ≤ (rch s k).2 ∧ (rch s k).2 ≤ s.size := by
 unfold rch
 split
 ·have := nme_rg s _ (k + 1) rfl (by omega)
  show k ≤ nme s (k + 1) ∧ nme s (k + 1) ≤ s.size
  omega
 ·split
  ·have := pfx_le (s.extract k s.size)
   rw [ByteArray.size_extract, Nat.min_self] at this
   show k ≤ k + pfx (s.extract k s.size) ∧ k + pfx (s.extract k s.size) ≤ s.size
   omega
  ·split
   ·show k ≤ qte s k k ∧ qte s k k ≤ s.size
    rw [qte_cl s k _ k (Nat.le_refl _)]
    cases h : cl s (k + 1) with
    | none => show k ≤ k ∧ k ≤ s.size; omega
    | some e => have := cl_rg s _ (k + 1) (Nat.le_refl _) e h; show k ≤ e ∧ e ≤ s.size; omega
   ·show k ≤ (if k + 2 ≤ s.size ∧ symb (s.extract k (k + 2)) = true then k + 2 else k + 1) ∧ (if k + 2 ≤ s.size ∧ symb (s.extract k (k + 2)) = true then k + 2 else k + 1) ≤ s.size
    split <;> omega
theorem reach_c {s : ByteArray} {k K e : Nat} (hr : rch s k = (K, e)) (w : World) (hs : s.size ≤ maxLen - 8) (hk : k < s.size) : Calls Tryd.prog 27 #[.string s, .int .i64 ((k : Nat) : Int)] w fun e' w' => e' = .returned (.tuple #[.int .i64 ((K : Nat) : Int), .int .i64 ((e : Nat) : Int)]) ∧ Mw w w' := by
 have h := wk (reach_n s k w hs hk)
 rw [hr] at h; exact h
theorem next_1t (s : ByteArray) (k e : Nat) (w : World) (hs : s.size ≤ 140737488355328) (hk : k < s.size) (hr : rch s k = (1, e)) (hm : ∀ w, Calls Tryd.prog 28 #[.int .i64 ((1 : Nat) : Int), .string (s.extract k e)] w fun e' w' => e' = .returned (.tuple #[.agg #[.int .i64 0, .bool false, .int .u64 0, .int .u64 0, .int .u64 0, .int .u64 0, .int .i64 0, .bool false, .string ⟨#[]⟩, .int .i64 0], .bool true]) ∧ Mw w w') : Calls Tryd.prog 12 #[.string s, .int .i64 ((k : Nat) : Int)] w fun e' w' => e' = .returned (.tuple #[.agg #[.int .i64 ((1 : Nat) : Int), .string (s.extract k e), .int .i64 0, .bool false, .int .u64 0, .int .u64 0, .int .u64 0, .int .u64 0, .int .i64 0, .bool false, .string ⟨#[]⟩, .int .i64 0, .int .i64 ((k : Nat) : Int)], .int .i64 0]) ∧ Mw w w' := by
 have hrg := rch_rg hk
 rw [hr] at hrg
 simp only at hrg
 refine w_enter 45 Tryd.func12 Tryd.ntmps12 rfl rfl ?_
 have M : Mw w w := Mw.refl _
 refine w_seq (w_reg ?_)
 refine wl_alloc 37 #[.int .i64 0, .string ⟨#[]⟩, .int .i64 0, .bool false, .int .u64 0, .int .u64 0, .int .u64 0, .int .u64 0, .int .i64 0, .bool false, .string ⟨#[]⟩, .int .i64 0, .int .i64 0] rfl (fun _ => by kernel_rfl) rfl ?_
 intro k1 w1 hk hz hq Q1
 have N_k1 : w.heap.size ≤ k1 := by have := M.size; omega
 replace M := M.trans hq
 clear hk hz hq
 refine wl_m (.const (.int .i64 (0))) (.int .i64 (0)) ?_
 refine w_nil (xn_then (w_seq (w_seq (w_reg ?_))))
 refine wl_m (.tmp 1) (.int .i64 ((k : Nat) : Int)) ?_
 refine wl_b .lss 3 (.tmp 10) (.const (.int .i64 (0))) (.int .i64 ((k : Nat) : Int)) (.int .i64 (0)) (.bool false) (lt3_run (r := false) (decide_eq_false (by omega)) _ _ _) ?_
 refine wl_m (.tmp 11) (.bool false) ?_
 refine wl_m (.tmp 1) (.int .i64 ((k : Nat) : Int)) ?_
 refine wl_m (.tmp 0) (.string s) ?_
 refine wl_val (.int .i64 ((s.size : Nat) : Int)) (len_s _ _ s (by exact rfl) _ _ _ _ _ _) rfl ?_
 refine wl_b .geq 3 (.tmp 13) (.tmp 15) (.int .i64 ((k : Nat) : Int)) (.int .i64 ((s.size : Nat) : Int)) (.bool false) (geN (decide_eq_false (by omega)) _ _ _) ?_
 refine wl_pick (.tmp 12) (.const (.bool true)) (.tmp 16) false (.bool false) (fun _ => rfl) rfl rfl rfl ?_
 refine w_nil (xn_then (w_condF rfl (w_skip (xn_then (w_seq (w_reg ?_))))))
 refine wl_m (.tmp 0) (.string s) ?_
 refine wl_m (.tmp 1) (.int .i64 ((k : Nat) : Int)) ?_
 refine wl_call 27 [(.tmp 20), (.tmp 21)] _ [.string s, .int .i64 ((k : Nat) : Int)] (.tuple #[.int .i64 ((1 : Nat) : Int), .int .i64 ((e : Nat) : Int)]) rfl rfl (fun _ _ => by kernel_rfl) (reach_c hr _ (by unfold maxLen; omega) hk) rfl ?_
 intro w2 hq
 replace Q1 := Q1.mo hq
 replace M := M.trans hq
 clear hq
 refine wl_m (.tmp 22) (.tuple #[.int .i64 ((1 : Nat) : Int), .int .i64 ((e : Nat) : Int)]) ?_
 refine wl_un (fun v => Instr.extract v 0) (.tmp 19) (.tuple #[.int .i64 ((1 : Nat) : Int), .int .i64 ((e : Nat) : Int)]) (.int .i64 ((1 : Nat) : Int)) (fun _ => rfl) rfl (by kernel_rfl) rfl ?_
 refine wl_un (fun v => Instr.extract v 1) (.tmp 19) (.tuple #[.int .i64 ((1 : Nat) : Int), .int .i64 ((e : Nat) : Int)]) (.int .i64 ((e : Nat) : Int)) (fun _ => rfl) rfl (by kernel_rfl) rfl ?_
 refine wl_m (.tmp 23) (.int .i64 ((1 : Nat) : Int)) ?_
 refine wl_m (.tmp 24) (.int .i64 ((e : Nat) : Int)) ?_
 refine w_nil (xn_then (w_seq (w_reg ?_)))
 refine wl_m (.tmp 6) (.int .i64 ((1 : Nat) : Int)) ?_
 refine wl_m (.tmp 0) (.string s) ?_
 refine wl_m (.tmp 1) (.int .i64 ((k : Nat) : Int)) ?_
 refine wl_m (.tmp 7) (.int .i64 ((e : Nat) : Int)) ?_
 refine wl_val (.string (s.extract k e)) (mid_run _ _ _ _ s (k) (e) (by exact rfl) (by exact rfl) (by exact rfl) (by omega) (by omega) _ _ _ _ _ _) rfl ?_
 refine wl_call 28 [(.tmp 26), (.tmp 30)] _ [.int .i64 ((1 : Nat) : Int), .string (s.extract k e)] (.tuple #[.agg #[.int .i64 0, .bool false, .int .u64 0, .int .u64 0, .int .u64 0, .int .u64 0, .int .i64 0, .bool false, .string ⟨#[]⟩, .int .i64 0], .bool true]) rfl rfl (fun _ _ => by kernel_rfl) (hm _) rfl ?_
 intro w3 hq
 replace Q1 := Q1.mo hq
 replace M := M.trans hq
 clear hq
 refine wl_m (.tmp 31) (.tuple #[.agg #[.int .i64 0, .bool false, .int .u64 0, .int .u64 0, .int .u64 0, .int .u64 0, .int .i64 0, .bool false, .string ⟨#[]⟩, .int .i64 0], .bool true]) ?_
 refine wl_un (fun v => Instr.extract v 0) (.tmp 25) (.tuple #[.agg #[.int .i64 0, .bool false, .int .u64 0, .int .u64 0, .int .u64 0, .int .u64 0, .int .i64 0, .bool false, .string ⟨#[]⟩, .int .i64 0], .bool true]) (.agg #[.int .i64 0, .bool false, .int .u64 0, .int .u64 0, .int .u64 0, .int .u64 0, .int .i64 0, .bool false, .string ⟨#[]⟩, .int .i64 0]) (fun _ => rfl) rfl (by kernel_rfl) rfl ?_
 refine wl_un (fun v => Instr.extract v 1) (.tmp 25) (.tuple #[.agg #[.int .i64 0, .bool false, .int .u64 0, .int .u64 0, .int .u64 0, .int .u64 0, .int .i64 0, .bool false, .string ⟨#[]⟩, .int .i64 0], .bool true]) (.bool true) (fun _ => rfl) rfl (by kernel_rfl) rfl ?_
 refine wl_alloc 35 #[.int .i64 0, .bool false, .int .u64 0, .int .u64 0, .int .u64 0, .int .u64 0, .int .i64 0, .bool false, .string ⟨#[]⟩, .int .i64 0] rfl (fun _ => by kernel_rfl) rfl ?_
 intro k2 w4 hk hz hq Q2
 have ne_k1_k2 : k1 ≠ k2 := by have := Q1.lt; omega
 have N_k2 : w.heap.size ≤ k2 := by have := M.size; omega
 replace Q1 := Q1.mo hq
 replace M := M.trans hq
 clear hk hz hq
 refine wl_st 35 (.tmp 8) (.tmp 32) k2 0 #[.int .i64 0, .bool false, .int .u64 0, .int .u64 0, .int .u64 0, .int .u64 0, .int .i64 0, .bool false, .string ⟨#[]⟩, .int .i64 0] _ [.int .i64 0, .bool false, .int .u64 0, .int .u64 0, .int .u64 0, .int .u64 0, .int .i64 0, .bool false, .string ⟨#[]⟩, .int .i64 0] Q2 rfl rfl rfl rfl rfl sz35 rfl rfl rfl ?_
 intro w5 hS Qn
 replace Q2 := Qn
 clear Qn
 replace Q1 := hS.other _ _ ne_k1_k2 Q1
 replace M := hS.mo _ N_k2 M
 clear hS
 refine wl_m (.tmp 33) (.bool true) ?_
 refine w_nil (xn_then (w_seq (w_seq (w_reg ?_))))
 refine wl_m (.tmp 9) (.bool true) ?_
 refine wl_un (fun v => Op.unary .not v) (.tmp 34) (.bool true) (.bool false) (fun _ => rfl) rfl (by kernel_rfl) rfl ?_
 refine w_nil (xn_then (w_condF rfl (w_skip (xn_then (w_seq ?_)))))
 refine w_any 8 [.inl (.int .i64 ((1 : Nat) : Int)), .inl (.string s), .inl (.int .i64 ((k : Nat) : Int)), .inl (.int .i64 ((e : Nat) : Int)), .inl (.string (s.extract k e)), .inl (.agg #[.int .i64 0, .bool false, .int .u64 0, .int .u64 0, .int .u64 0, .int .u64 0, .int .i64 0, .bool false, .string ⟨#[]⟩, .int .i64 0]), .inl (.int .i64 ((k : Nat) : Int)), .inl (.agg #[.int .i64 ((1 : Nat) : Int), .string (s.extract k e), .int .i64 0, .bool false, .int .u64 0, .int .u64 0, .int .u64 0, .int .u64 0, .int .i64 0, .bool false, .string ⟨#[]⟩, .int .i64 0, .int .i64 ((k : Nat) : Int)])] [] (by kernel_rfl) (by kernel_rfl) (by kernel_rfl) (by kernel_rfl) rfl (by kernel_rfl) (by kernel_rfl) late_nil ?_ ?_ ?_
 ·exact Ds.none rfl
 ·refine ea_cons ?_ (ea_cons ?_ (ea_cons ?_ (ea_cons ?_ (ea_cons ?_ (ea_cons ?_ (ea_cons ?_ (ea_cons ?_ (ea_nil))))))))
  ·exact og_eq _ rfl (fun f wf hq hd K hK => go_run rfl (wo_mv (.tmp 6) (.int .i64 ((1 : Nat) : Int)) (fun _ => rfl) rfl (hK _ (Mw.refl _))))
  ·exact og_eq _ rfl (fun f wf hq hd K hK => go_run rfl (wo_mv (.tmp 0) (.string s) (fun _ => rfl) rfl (hK _ (Mw.refl _))))
  ·exact og_eq _ rfl (fun f wf hq hd K hK => go_run rfl (wo_mv (.tmp 1) (.int .i64 ((k : Nat) : Int)) (fun _ => rfl) rfl (hK _ (Mw.refl _))))
  ·exact og_eq _ rfl (fun f wf hq hd K hK => go_run rfl (wo_mv (.tmp 7) (.int .i64 ((e : Nat) : Int)) (fun _ => rfl) rfl (hK _ (Mw.refl _))))
  ·exact og_eq _ rfl (fun f wf hq hd K hK => go_run rfl (wo_val (.string (s.extract k e)) (mid_run _ _ _ _ s (k) (e) (by exact (hd 1 rfl)) (by exact (hd 2 rfl)) (by exact (hd 3 rfl)) (by omega) (by omega) _ _ _ _ _ _) (hK _ (Mw.refl _))))
  ·exact og_eq _ rfl (fun f wf hq hd K hK => have Q2 := Q2.mo hq; go_run rfl (wo_load 35 (.tmp 8) (pt k2 0) (.agg #[.int .i64 0, .bool false, .int .u64 0, .int .u64 0, .int .u64 0, .int .u64 0, .int .i64 0, .bool false, .string ⟨#[]⟩, .int .i64 0]) rfl rfl (run_row Q2 35 0 10 _ rfl Tryd.underlying35 rfl sz35) (hK _ (Mw.refl _))))
  ·exact og_eq _ rfl (fun f wf hq hd K hK => go_run rfl (wo_mv (.tmp 1) (.int .i64 ((k : Nat) : Int)) (fun _ => rfl) rfl (hK _ (Mw.refl _))))
  ·exact og_eq _ rfl (fun f wf hq hd K hK => go_run rfl (wo_build 37 [(0, (.tmp 37)), (1, (.tmp 41)), (2, (.tmp 42)), (3, (.tmp 43))] [(0, .int .i64 ((1 : Nat) : Int)), (1, .string (s.extract k e)), (2, .agg #[.int .i64 0, .bool false, .int .u64 0, .int .u64 0, .int .u64 0, .int .u64 0, .int .i64 0, .bool false, .string ⟨#[]⟩, .int .i64 0]), (3, .int .i64 ((k : Nat) : Int))] (.agg #[.int .i64 ((1 : Nat) : Int), .string (s.extract k e), .int .i64 0, .bool false, .int .u64 0, .int .u64 0, .int .u64 0, .int .u64 0, .int .i64 0, .bool false, .string ⟨#[]⟩, .int .i64 0, .int .i64 ((k : Nat) : Int)]) rfl (lp4 (hd 0 rfl) (hd 4 rfl) (hd 5 rfl) (hd 6 rfl)) (by kernel_rfl) (hK _ (Mw.refl _))))
 intro kf6 w6 hq hR hne
 replace Q1 := Q1.mo hq
 replace Q2 := Q2.mo hq
 replace M := M.trans hq
 clear hq hR hne
 refine wl_st 37 (.tmp 4) (.tmp 44) k1 0 #[.int .i64 ((1 : Nat) : Int), .string (s.extract k e), .int .i64 0, .bool false, .int .u64 0, .int .u64 0, .int .u64 0, .int .u64 0, .int .i64 0, .bool false, .string ⟨#[]⟩, .int .i64 0, .int .i64 ((k : Nat) : Int)] _ [.int .i64 ((1 : Nat) : Int), .string (s.extract k e), .int .i64 0, .bool false, .int .u64 0, .int .u64 0, .int .u64 0, .int .u64 0, .int .i64 0, .bool false, .string ⟨#[]⟩, .int .i64 0, .int .i64 ((k : Nat) : Int)] Q1 rfl rfl rfl rfl rfl sz37 rfl rfl rfl ?_
 intro w7 hS Qn
 replace Q1 := Qn
 clear Qn
 replace Q2 := hS.other _ _ ne_k1_k2.symm Q2
 replace M := hS.mo _ N_k1 M
 clear hS
 refine wl_m (.const (.int .i64 (0))) (.int .i64 (0)) ?_
 refine w_nil (xn_then (w_ret ?_))
 exact w_ret2 _ _ (.agg #[.int .i64 ((1 : Nat) : Int), .string (s.extract k e), .int .i64 0, .bool false, .int .u64 0, .int .u64 0, .int .u64 0, .int .u64 0, .int .i64 0, .bool false, .string ⟨#[]⟩, .int .i64 0, .int .i64 ((k : Nat) : Int)]) (.int .i64 (0)) rfl ⟨k1, rfl, (run_row Q1 37 0 13 _ rfl Tryd.underlying37 rfl sz37)⟩ rfl ⟨rfl, M⟩
theorem next_1f (s : ByteArray) (k e : Nat) (w : World) (hs : s.size ≤ 140737488355328) (hk : k < s.size) (hr : rch s k = (1, e)) (hm : ∀ w, Calls Tryd.prog 28 #[.int .i64 ((1 : Nat) : Int), .string (s.extract k e)] w fun e' w' => e' = .returned (.tuple #[.agg #[.int .i64 0, .bool false, .int .u64 0, .int .u64 0, .int .u64 0, .int .u64 0, .int .i64 0, .bool false, .string ⟨#[]⟩, .int .i64 0], .bool false]) ∧ Mw w w') : Calls Tryd.prog 12 #[.string s, .int .i64 ((k : Nat) : Int)] w fun e' w' => e' = .returned (.tuple #[.agg #[.int .i64 0, .string ⟨#[]⟩, .int .i64 0, .bool false, .int .u64 0, .int .u64 0, .int .u64 0, .int .u64 0, .int .i64 0, .bool false, .string ⟨#[]⟩, .int .i64 0, .int .i64 0], .int .i64 70]) ∧ Mw w w' := by
 have hrg := rch_rg hk
 rw [hr] at hrg
 simp only at hrg
 refine w_enter 45 Tryd.func12 Tryd.ntmps12 rfl rfl ?_
 have M : Mw w w := Mw.refl _
 refine w_seq (w_reg ?_)
 refine wl_alloc 37 #[.int .i64 0, .string ⟨#[]⟩, .int .i64 0, .bool false, .int .u64 0, .int .u64 0, .int .u64 0, .int .u64 0, .int .i64 0, .bool false, .string ⟨#[]⟩, .int .i64 0, .int .i64 0] rfl (fun _ => by kernel_rfl) rfl ?_
 intro k1 w1 hk hz hq Q1
 have N_k1 : w.heap.size ≤ k1 := by have := M.size; omega
 replace M := M.trans hq
 clear hk hz hq
 refine wl_m (.const (.int .i64 (0))) (.int .i64 (0)) ?_
 refine w_nil (xn_then (w_seq (w_seq (w_reg ?_))))
 refine wl_m (.tmp 1) (.int .i64 ((k : Nat) : Int)) ?_
 refine wl_b .lss 3 (.tmp 10) (.const (.int .i64 (0))) (.int .i64 ((k : Nat) : Int)) (.int .i64 (0)) (.bool false) (lt3_run (r := false) (decide_eq_false (by omega)) _ _ _) ?_
 refine wl_m (.tmp 11) (.bool false) ?_
 refine wl_m (.tmp 1) (.int .i64 ((k : Nat) : Int)) ?_
 refine wl_m (.tmp 0) (.string s) ?_
 refine wl_val (.int .i64 ((s.size : Nat) : Int)) (len_s _ _ s (by exact rfl) _ _ _ _ _ _) rfl ?_
 refine wl_b .geq 3 (.tmp 13) (.tmp 15) (.int .i64 ((k : Nat) : Int)) (.int .i64 ((s.size : Nat) : Int)) (.bool false) (geN (decide_eq_false (by omega)) _ _ _) ?_
 refine wl_pick (.tmp 12) (.const (.bool true)) (.tmp 16) false (.bool false) (fun _ => rfl) rfl rfl rfl ?_
 refine w_nil (xn_then (w_condF rfl (w_skip (xn_then (w_seq (w_reg ?_))))))
 refine wl_m (.tmp 0) (.string s) ?_
 refine wl_m (.tmp 1) (.int .i64 ((k : Nat) : Int)) ?_
 refine wl_call 27 [(.tmp 20), (.tmp 21)] _ [.string s, .int .i64 ((k : Nat) : Int)] (.tuple #[.int .i64 ((1 : Nat) : Int), .int .i64 ((e : Nat) : Int)]) rfl rfl (fun _ _ => by kernel_rfl) (reach_c hr _ (by unfold maxLen; omega) hk) rfl ?_
 intro w2 hq
 replace Q1 := Q1.mo hq
 replace M := M.trans hq
 clear hq
 refine wl_m (.tmp 22) (.tuple #[.int .i64 ((1 : Nat) : Int), .int .i64 ((e : Nat) : Int)]) ?_
 refine wl_un (fun v => Instr.extract v 0) (.tmp 19) (.tuple #[.int .i64 ((1 : Nat) : Int), .int .i64 ((e : Nat) : Int)]) (.int .i64 ((1 : Nat) : Int)) (fun _ => rfl) rfl (by kernel_rfl) rfl ?_
 refine wl_un (fun v => Instr.extract v 1) (.tmp 19) (.tuple #[.int .i64 ((1 : Nat) : Int), .int .i64 ((e : Nat) : Int)]) (.int .i64 ((e : Nat) : Int)) (fun _ => rfl) rfl (by kernel_rfl) rfl ?_
 refine wl_m (.tmp 23) (.int .i64 ((1 : Nat) : Int)) ?_
 refine wl_m (.tmp 24) (.int .i64 ((e : Nat) : Int)) ?_
 refine w_nil (xn_then (w_seq (w_reg ?_)))
 refine wl_m (.tmp 6) (.int .i64 ((1 : Nat) : Int)) ?_
 refine wl_m (.tmp 0) (.string s) ?_
 refine wl_m (.tmp 1) (.int .i64 ((k : Nat) : Int)) ?_
 refine wl_m (.tmp 7) (.int .i64 ((e : Nat) : Int)) ?_
 refine wl_val (.string (s.extract k e)) (mid_run _ _ _ _ s (k) (e) (by exact rfl) (by exact rfl) (by exact rfl) (by omega) (by omega) _ _ _ _ _ _) rfl ?_
 refine wl_call 28 [(.tmp 26), (.tmp 30)] _ [.int .i64 ((1 : Nat) : Int), .string (s.extract k e)] (.tuple #[.agg #[.int .i64 0, .bool false, .int .u64 0, .int .u64 0, .int .u64 0, .int .u64 0, .int .i64 0, .bool false, .string ⟨#[]⟩, .int .i64 0], .bool false]) rfl rfl (fun _ _ => by kernel_rfl) (hm _) rfl ?_
 intro w3 hq
 replace Q1 := Q1.mo hq
 replace M := M.trans hq
 clear hq
 refine wl_m (.tmp 31) (.tuple #[.agg #[.int .i64 0, .bool false, .int .u64 0, .int .u64 0, .int .u64 0, .int .u64 0, .int .i64 0, .bool false, .string ⟨#[]⟩, .int .i64 0], .bool false]) ?_
 refine wl_un (fun v => Instr.extract v 0) (.tmp 25) (.tuple #[.agg #[.int .i64 0, .bool false, .int .u64 0, .int .u64 0, .int .u64 0, .int .u64 0, .int .i64 0, .bool false, .string ⟨#[]⟩, .int .i64 0], .bool false]) (.agg #[.int .i64 0, .bool false, .int .u64 0, .int .u64 0, .int .u64 0, .int .u64 0, .int .i64 0, .bool false, .string ⟨#[]⟩, .int .i64 0]) (fun _ => rfl) rfl (by kernel_rfl) rfl ?_
 refine wl_un (fun v => Instr.extract v 1) (.tmp 25) (.tuple #[.agg #[.int .i64 0, .bool false, .int .u64 0, .int .u64 0, .int .u64 0, .int .u64 0, .int .i64 0, .bool false, .string ⟨#[]⟩, .int .i64 0], .bool false]) (.bool false) (fun _ => rfl) rfl (by kernel_rfl) rfl ?_
 refine wl_alloc 35 #[.int .i64 0, .bool false, .int .u64 0, .int .u64 0, .int .u64 0, .int .u64 0, .int .i64 0, .bool false, .string ⟨#[]⟩, .int .i64 0] rfl (fun _ => by kernel_rfl) rfl ?_
 intro k2 w4 hk hz hq Q2
 have ne_k1_k2 : k1 ≠ k2 := by have := Q1.lt; omega
 have N_k2 : w.heap.size ≤ k2 := by have := M.size; omega
 replace Q1 := Q1.mo hq
 replace M := M.trans hq
 clear hk hz hq
 refine wl_st 35 (.tmp 8) (.tmp 32) k2 0 #[.int .i64 0, .bool false, .int .u64 0, .int .u64 0, .int .u64 0, .int .u64 0, .int .i64 0, .bool false, .string ⟨#[]⟩, .int .i64 0] _ [.int .i64 0, .bool false, .int .u64 0, .int .u64 0, .int .u64 0, .int .u64 0, .int .i64 0, .bool false, .string ⟨#[]⟩, .int .i64 0] Q2 rfl rfl rfl rfl rfl sz35 rfl rfl rfl ?_
 intro w5 hS Qn
 replace Q2 := Qn
 clear Qn
 replace Q1 := hS.other _ _ ne_k1_k2 Q1
 replace M := hS.mo _ N_k2 M
 clear hS
 refine wl_m (.tmp 33) (.bool false) ?_
 refine w_nil (xn_then (w_seq (w_seq (w_reg ?_))))
 refine wl_m (.tmp 9) (.bool false) ?_
 refine wl_un (fun v => Op.unary .not v) (.tmp 34) (.bool false) (.bool true) (fun _ => rfl) rfl (by kernel_rfl) rfl ?_
 refine w_nil (xn_then (w_condT rfl (w_seq (w_reg ?_))))
 refine wl_build 37 [] [] (.agg #[.int .i64 0, .string ⟨#[]⟩, .int .i64 0, .bool false, .int .u64 0, .int .u64 0, .int .u64 0, .int .u64 0, .int .i64 0, .bool false, .string ⟨#[]⟩, .int .i64 0, .int .i64 0]) rfl rfl (by kernel_rfl) rfl ?_
 refine wl_st 37 (.tmp 4) (.tmp 36) k1 0 #[.int .i64 0, .string ⟨#[]⟩, .int .i64 0, .bool false, .int .u64 0, .int .u64 0, .int .u64 0, .int .u64 0, .int .i64 0, .bool false, .string ⟨#[]⟩, .int .i64 0, .int .i64 0] _ [.int .i64 0, .string ⟨#[]⟩, .int .i64 0, .bool false, .int .u64 0, .int .u64 0, .int .u64 0, .int .u64 0, .int .i64 0, .bool false, .string ⟨#[]⟩, .int .i64 0, .int .i64 0] Q1 rfl rfl rfl rfl rfl sz37 rfl rfl rfl ?_
 intro w6 hS Qn
 replace Q1 := Qn
 clear Qn
 replace Q2 := hS.other _ _ ne_k1_k2.symm Q2
 replace M := hS.mo _ N_k1 M
 clear hS
 refine wl_m (.const (.int .i64 (70))) (.int .i64 (70)) ?_
 refine w_nil (xn_then (w_ret (xr_then ?_)))
 exact w_ret2 _ _ (.agg #[.int .i64 0, .string ⟨#[]⟩, .int .i64 0, .bool false, .int .u64 0, .int .u64 0, .int .u64 0, .int .u64 0, .int .i64 0, .bool false, .string ⟨#[]⟩, .int .i64 0, .int .i64 0]) (.int .i64 (70)) rfl ⟨k1, rfl, (run_row Q1 37 0 13 _ rfl Tryd.underlying37 rfl sz37)⟩ rfl ⟨rfl, M⟩
theorem next_2t (s : ByteArray) (k e : Nat) (b : Bool) (N : Int) (kk : Nat) (w : World) (hs : s.size ≤ 140737488355328) (hk : k < s.size) (hr : rch s k = (2, e)) (hm : ∀ w, Calls Tryd.prog 28 #[.int .i64 ((2 : Nat) : Int), .string (s.extract k e)] w fun e' w' => e' = .returned (.tuple #[.agg #[.int .i64 1, .bool b, .int .u64 (l0 (N)), .int .u64 (l1 (N)), .int .u64 (l2 (N)), .int .u64 (l3 (N)), .int .i64 ((kk : Int)), .bool false, .string ⟨#[]⟩, .int .i64 0], .bool true]) ∧ Mw w w') : Calls Tryd.prog 12 #[.string s, .int .i64 ((k : Nat) : Int)] w fun e' w' => e' = .returned (.tuple #[.agg #[.int .i64 ((2 : Nat) : Int), .string (s.extract k e), .int .i64 1, .bool b, .int .u64 (l0 (N)), .int .u64 (l1 (N)), .int .u64 (l2 (N)), .int .u64 (l3 (N)), .int .i64 ((kk : Int)), .bool false, .string ⟨#[]⟩, .int .i64 0, .int .i64 ((k : Nat) : Int)], .int .i64 0]) ∧ Mw w w' := by
 have hrg := rch_rg hk
 rw [hr] at hrg
 simp only at hrg
 refine w_enter 45 Tryd.func12 Tryd.ntmps12 rfl rfl ?_
 have M : Mw w w := Mw.refl _
 refine w_seq (w_reg ?_)
 refine wl_alloc 37 #[.int .i64 0, .string ⟨#[]⟩, .int .i64 0, .bool false, .int .u64 0, .int .u64 0, .int .u64 0, .int .u64 0, .int .i64 0, .bool false, .string ⟨#[]⟩, .int .i64 0, .int .i64 0] rfl (fun _ => by kernel_rfl) rfl ?_
 intro k1 w1 hk hz hq Q1
 have N_k1 : w.heap.size ≤ k1 := by have := M.size; omega
 replace M := M.trans hq
 clear hk hz hq
 refine wl_m (.const (.int .i64 (0))) (.int .i64 (0)) ?_
 refine w_nil (xn_then (w_seq (w_seq (w_reg ?_))))
 refine wl_m (.tmp 1) (.int .i64 ((k : Nat) : Int)) ?_
 refine wl_b .lss 3 (.tmp 10) (.const (.int .i64 (0))) (.int .i64 ((k : Nat) : Int)) (.int .i64 (0)) (.bool false) (lt3_run (r := false) (decide_eq_false (by omega)) _ _ _) ?_
 refine wl_m (.tmp 11) (.bool false) ?_
 refine wl_m (.tmp 1) (.int .i64 ((k : Nat) : Int)) ?_
 refine wl_m (.tmp 0) (.string s) ?_
 refine wl_val (.int .i64 ((s.size : Nat) : Int)) (len_s _ _ s (by exact rfl) _ _ _ _ _ _) rfl ?_
 refine wl_b .geq 3 (.tmp 13) (.tmp 15) (.int .i64 ((k : Nat) : Int)) (.int .i64 ((s.size : Nat) : Int)) (.bool false) (geN (decide_eq_false (by omega)) _ _ _) ?_
 refine wl_pick (.tmp 12) (.const (.bool true)) (.tmp 16) false (.bool false) (fun _ => rfl) rfl rfl rfl ?_
 refine w_nil (xn_then (w_condF rfl (w_skip (xn_then (w_seq (w_reg ?_))))))
 refine wl_m (.tmp 0) (.string s) ?_
 refine wl_m (.tmp 1) (.int .i64 ((k : Nat) : Int)) ?_
 refine wl_call 27 [(.tmp 20), (.tmp 21)] _ [.string s, .int .i64 ((k : Nat) : Int)] (.tuple #[.int .i64 ((2 : Nat) : Int), .int .i64 ((e : Nat) : Int)]) rfl rfl (fun _ _ => by kernel_rfl) (reach_c hr _ (by unfold maxLen; omega) hk) rfl ?_
 intro w2 hq
 replace Q1 := Q1.mo hq
 replace M := M.trans hq
 clear hq
 refine wl_m (.tmp 22) (.tuple #[.int .i64 ((2 : Nat) : Int), .int .i64 ((e : Nat) : Int)]) ?_
 refine wl_un (fun v => Instr.extract v 0) (.tmp 19) (.tuple #[.int .i64 ((2 : Nat) : Int), .int .i64 ((e : Nat) : Int)]) (.int .i64 ((2 : Nat) : Int)) (fun _ => rfl) rfl (by kernel_rfl) rfl ?_
 refine wl_un (fun v => Instr.extract v 1) (.tmp 19) (.tuple #[.int .i64 ((2 : Nat) : Int), .int .i64 ((e : Nat) : Int)]) (.int .i64 ((e : Nat) : Int)) (fun _ => rfl) rfl (by kernel_rfl) rfl ?_
 refine wl_m (.tmp 23) (.int .i64 ((2 : Nat) : Int)) ?_
 refine wl_m (.tmp 24) (.int .i64 ((e : Nat) : Int)) ?_
 refine w_nil (xn_then (w_seq (w_reg ?_)))
 refine wl_m (.tmp 6) (.int .i64 ((2 : Nat) : Int)) ?_
 refine wl_m (.tmp 0) (.string s) ?_
 refine wl_m (.tmp 1) (.int .i64 ((k : Nat) : Int)) ?_
 refine wl_m (.tmp 7) (.int .i64 ((e : Nat) : Int)) ?_
 refine wl_val (.string (s.extract k e)) (mid_run _ _ _ _ s (k) (e) (by exact rfl) (by exact rfl) (by exact rfl) (by omega) (by omega) _ _ _ _ _ _) rfl ?_
 refine wl_call 28 [(.tmp 26), (.tmp 30)] _ [.int .i64 ((2 : Nat) : Int), .string (s.extract k e)] (.tuple #[.agg #[.int .i64 1, .bool b, .int .u64 (l0 (N)), .int .u64 (l1 (N)), .int .u64 (l2 (N)), .int .u64 (l3 (N)), .int .i64 ((kk : Int)), .bool false, .string ⟨#[]⟩, .int .i64 0], .bool true]) rfl rfl (fun _ _ => by kernel_rfl) (hm _) rfl ?_
 intro w3 hq
 replace Q1 := Q1.mo hq
 replace M := M.trans hq
 clear hq
 refine wl_m (.tmp 31) (.tuple #[.agg #[.int .i64 1, .bool b, .int .u64 (l0 (N)), .int .u64 (l1 (N)), .int .u64 (l2 (N)), .int .u64 (l3 (N)), .int .i64 ((kk : Int)), .bool false, .string ⟨#[]⟩, .int .i64 0], .bool true]) ?_
 refine wl_un (fun v => Instr.extract v 0) (.tmp 25) (.tuple #[.agg #[.int .i64 1, .bool b, .int .u64 (l0 (N)), .int .u64 (l1 (N)), .int .u64 (l2 (N)), .int .u64 (l3 (N)), .int .i64 ((kk : Int)), .bool false, .string ⟨#[]⟩, .int .i64 0], .bool true]) (.agg #[.int .i64 1, .bool b, .int .u64 (l0 (N)), .int .u64 (l1 (N)), .int .u64 (l2 (N)), .int .u64 (l3 (N)), .int .i64 ((kk : Int)), .bool false, .string ⟨#[]⟩, .int .i64 0]) (fun _ => rfl) rfl (by kernel_rfl) rfl ?_
 refine wl_un (fun v => Instr.extract v 1) (.tmp 25) (.tuple #[.agg #[.int .i64 1, .bool b, .int .u64 (l0 (N)), .int .u64 (l1 (N)), .int .u64 (l2 (N)), .int .u64 (l3 (N)), .int .i64 ((kk : Int)), .bool false, .string ⟨#[]⟩, .int .i64 0], .bool true]) (.bool true) (fun _ => rfl) rfl (by kernel_rfl) rfl ?_
 refine wl_alloc 35 #[.int .i64 0, .bool false, .int .u64 0, .int .u64 0, .int .u64 0, .int .u64 0, .int .i64 0, .bool false, .string ⟨#[]⟩, .int .i64 0] rfl (fun _ => by kernel_rfl) rfl ?_
 intro k2 w4 hk hz hq Q2
 have ne_k1_k2 : k1 ≠ k2 := by have := Q1.lt; omega
 have N_k2 : w.heap.size ≤ k2 := by have := M.size; omega
 replace Q1 := Q1.mo hq
 replace M := M.trans hq
 clear hk hz hq
 refine wl_st 35 (.tmp 8) (.tmp 32) k2 0 #[.int .i64 1, .bool b, .int .u64 (l0 (N)), .int .u64 (l1 (N)), .int .u64 (l2 (N)), .int .u64 (l3 (N)), .int .i64 ((kk : Int)), .bool false, .string ⟨#[]⟩, .int .i64 0] _ [.int .i64 1, .bool b, .int .u64 (l0 (N)), .int .u64 (l1 (N)), .int .u64 (l2 (N)), .int .u64 (l3 (N)), .int .i64 ((kk : Int)), .bool false, .string ⟨#[]⟩, .int .i64 0] Q2 rfl rfl rfl rfl rfl sz35 rfl rfl rfl ?_
 intro w5 hS Qn
 replace Q2 := Qn
 clear Qn
 replace Q1 := hS.other _ _ ne_k1_k2 Q1
 replace M := hS.mo _ N_k2 M
 clear hS
 refine wl_m (.tmp 33) (.bool true) ?_
 refine w_nil (xn_then (w_seq (w_seq (w_reg ?_))))
 refine wl_m (.tmp 9) (.bool true) ?_
 refine wl_un (fun v => Op.unary .not v) (.tmp 34) (.bool true) (.bool false) (fun _ => rfl) rfl (by kernel_rfl) rfl ?_
 refine w_nil (xn_then (w_condF rfl (w_skip (xn_then (w_seq ?_)))))
 refine w_any 8 [.inl (.int .i64 ((2 : Nat) : Int)), .inl (.string s), .inl (.int .i64 ((k : Nat) : Int)), .inl (.int .i64 ((e : Nat) : Int)), .inl (.string (s.extract k e)), .inl (.agg #[.int .i64 1, .bool b, .int .u64 (l0 (N)), .int .u64 (l1 (N)), .int .u64 (l2 (N)), .int .u64 (l3 (N)), .int .i64 ((kk : Int)), .bool false, .string ⟨#[]⟩, .int .i64 0]), .inl (.int .i64 ((k : Nat) : Int)), .inl (.agg #[.int .i64 ((2 : Nat) : Int), .string (s.extract k e), .int .i64 1, .bool b, .int .u64 (l0 (N)), .int .u64 (l1 (N)), .int .u64 (l2 (N)), .int .u64 (l3 (N)), .int .i64 ((kk : Int)), .bool false, .string ⟨#[]⟩, .int .i64 0, .int .i64 ((k : Nat) : Int)])] [] (by kernel_rfl) (by kernel_rfl) (by kernel_rfl) (by kernel_rfl) rfl (by kernel_rfl) (by kernel_rfl) late_nil ?_ ?_ ?_
 ·exact Ds.none rfl
 ·refine ea_cons ?_ (ea_cons ?_ (ea_cons ?_ (ea_cons ?_ (ea_cons ?_ (ea_cons ?_ (ea_cons ?_ (ea_cons ?_ (ea_nil))))))))
  ·exact og_eq _ rfl (fun f wf hq hd K hK => go_run rfl (wo_mv (.tmp 6) (.int .i64 ((2 : Nat) : Int)) (fun _ => rfl) rfl (hK _ (Mw.refl _))))
  ·exact og_eq _ rfl (fun f wf hq hd K hK => go_run rfl (wo_mv (.tmp 0) (.string s) (fun _ => rfl) rfl (hK _ (Mw.refl _))))
  ·exact og_eq _ rfl (fun f wf hq hd K hK => go_run rfl (wo_mv (.tmp 1) (.int .i64 ((k : Nat) : Int)) (fun _ => rfl) rfl (hK _ (Mw.refl _))))
  ·exact og_eq _ rfl (fun f wf hq hd K hK => go_run rfl (wo_mv (.tmp 7) (.int .i64 ((e : Nat) : Int)) (fun _ => rfl) rfl (hK _ (Mw.refl _))))
  ·exact og_eq _ rfl (fun f wf hq hd K hK => go_run rfl (wo_val (.string (s.extract k e)) (mid_run _ _ _ _ s (k) (e) (by exact (hd 1 rfl)) (by exact (hd 2 rfl)) (by exact (hd 3 rfl)) (by omega) (by omega) _ _ _ _ _ _) (hK _ (Mw.refl _))))
  ·exact og_eq _ rfl (fun f wf hq hd K hK => have Q2 := Q2.mo hq; go_run rfl (wo_load 35 (.tmp 8) (pt k2 0) (.agg #[.int .i64 1, .bool b, .int .u64 (l0 (N)), .int .u64 (l1 (N)), .int .u64 (l2 (N)), .int .u64 (l3 (N)), .int .i64 ((kk : Int)), .bool false, .string ⟨#[]⟩, .int .i64 0]) rfl rfl (run_row Q2 35 0 10 _ rfl Tryd.underlying35 rfl sz35) (hK _ (Mw.refl _))))
  ·exact og_eq _ rfl (fun f wf hq hd K hK => go_run rfl (wo_mv (.tmp 1) (.int .i64 ((k : Nat) : Int)) (fun _ => rfl) rfl (hK _ (Mw.refl _))))
  ·exact og_eq _ rfl (fun f wf hq hd K hK => go_run rfl (wo_build 37 [(0, (.tmp 37)), (1, (.tmp 41)), (2, (.tmp 42)), (3, (.tmp 43))] [(0, .int .i64 ((2 : Nat) : Int)), (1, .string (s.extract k e)), (2, .agg #[.int .i64 1, .bool b, .int .u64 (l0 (N)), .int .u64 (l1 (N)), .int .u64 (l2 (N)), .int .u64 (l3 (N)), .int .i64 ((kk : Int)), .bool false, .string ⟨#[]⟩, .int .i64 0]), (3, .int .i64 ((k : Nat) : Int))] (.agg #[.int .i64 ((2 : Nat) : Int), .string (s.extract k e), .int .i64 1, .bool b, .int .u64 (l0 (N)), .int .u64 (l1 (N)), .int .u64 (l2 (N)), .int .u64 (l3 (N)), .int .i64 ((kk : Int)), .bool false, .string ⟨#[]⟩, .int .i64 0, .int .i64 ((k : Nat) : Int)]) rfl (lp4 (hd 0 rfl) (hd 4 rfl) (hd 5 rfl) (hd 6 rfl)) (by kernel_rfl) (hK _ (Mw.refl _))))
 intro kf6 w6 hq hR hne
 replace Q1 := Q1.mo hq
 replace Q2 := Q2.mo hq
 replace M := M.trans hq
 clear hq hR hne
 refine wl_st 37 (.tmp 4) (.tmp 44) k1 0 #[.int .i64 ((2 : Nat) : Int), .string (s.extract k e), .int .i64 1, .bool b, .int .u64 (l0 (N)), .int .u64 (l1 (N)), .int .u64 (l2 (N)), .int .u64 (l3 (N)), .int .i64 ((kk : Int)), .bool false, .string ⟨#[]⟩, .int .i64 0, .int .i64 ((k : Nat) : Int)] _ [.int .i64 ((2 : Nat) : Int), .string (s.extract k e), .int .i64 1, .bool b, .int .u64 (l0 (N)), .int .u64 (l1 (N)), .int .u64 (l2 (N)), .int .u64 (l3 (N)), .int .i64 ((kk : Int)), .bool false, .string ⟨#[]⟩, .int .i64 0, .int .i64 ((k : Nat) : Int)] Q1 rfl rfl rfl rfl rfl sz37 rfl rfl rfl ?_
 intro w7 hS Qn
 replace Q1 := Qn
 clear Qn
 replace Q2 := hS.other _ _ ne_k1_k2.symm Q2
 replace M := hS.mo _ N_k1 M
 clear hS
 refine wl_m (.const (.int .i64 (0))) (.int .i64 (0)) ?_
 refine w_nil (xn_then (w_ret ?_))
 exact w_ret2 _ _ (.agg #[.int .i64 ((2 : Nat) : Int), .string (s.extract k e), .int .i64 1, .bool b, .int .u64 (l0 (N)), .int .u64 (l1 (N)), .int .u64 (l2 (N)), .int .u64 (l3 (N)), .int .i64 ((kk : Int)), .bool false, .string ⟨#[]⟩, .int .i64 0, .int .i64 ((k : Nat) : Int)]) (.int .i64 (0)) rfl ⟨k1, rfl, (run_row Q1 37 0 13 _ rfl Tryd.underlying37 rfl sz37)⟩ rfl ⟨rfl, M⟩
theorem next_2f (s : ByteArray) (k e : Nat) (b : Bool) (N : Int) (kk : Nat) (w : World) (hs : s.size ≤ 140737488355328) (hk : k < s.size) (hr : rch s k = (2, e)) (hm : ∀ w, Calls Tryd.prog 28 #[.int .i64 ((2 : Nat) : Int), .string (s.extract k e)] w fun e' w' => e' = .returned (.tuple #[.agg #[.int .i64 1, .bool b, .int .u64 (l0 (N)), .int .u64 (l1 (N)), .int .u64 (l2 (N)), .int .u64 (l3 (N)), .int .i64 ((kk : Int)), .bool false, .string ⟨#[]⟩, .int .i64 0], .bool false]) ∧ Mw w w') : Calls Tryd.prog 12 #[.string s, .int .i64 ((k : Nat) : Int)] w fun e' w' => e' = .returned (.tuple #[.agg #[.int .i64 0, .string ⟨#[]⟩, .int .i64 0, .bool false, .int .u64 0, .int .u64 0, .int .u64 0, .int .u64 0, .int .i64 0, .bool false, .string ⟨#[]⟩, .int .i64 0, .int .i64 0], .int .i64 70]) ∧ Mw w w' := by
 have hrg := rch_rg hk
 rw [hr] at hrg
 simp only at hrg
 refine w_enter 45 Tryd.func12 Tryd.ntmps12 rfl rfl ?_
 have M : Mw w w := Mw.refl _
 refine w_seq (w_reg ?_)
 refine wl_alloc 37 #[.int .i64 0, .string ⟨#[]⟩, .int .i64 0, .bool false, .int .u64 0, .int .u64 0, .int .u64 0, .int .u64 0, .int .i64 0, .bool false, .string ⟨#[]⟩, .int .i64 0, .int .i64 0] rfl (fun _ => by kernel_rfl) rfl ?_
 intro k1 w1 hk hz hq Q1
 have N_k1 : w.heap.size ≤ k1 := by have := M.size; omega
 replace M := M.trans hq
 clear hk hz hq
 refine wl_m (.const (.int .i64 (0))) (.int .i64 (0)) ?_
 refine w_nil (xn_then (w_seq (w_seq (w_reg ?_))))
 refine wl_m (.tmp 1) (.int .i64 ((k : Nat) : Int)) ?_
 refine wl_b .lss 3 (.tmp 10) (.const (.int .i64 (0))) (.int .i64 ((k : Nat) : Int)) (.int .i64 (0)) (.bool false) (lt3_run (r := false) (decide_eq_false (by omega)) _ _ _) ?_
 refine wl_m (.tmp 11) (.bool false) ?_
 refine wl_m (.tmp 1) (.int .i64 ((k : Nat) : Int)) ?_
 refine wl_m (.tmp 0) (.string s) ?_
 refine wl_val (.int .i64 ((s.size : Nat) : Int)) (len_s _ _ s (by exact rfl) _ _ _ _ _ _) rfl ?_
 refine wl_b .geq 3 (.tmp 13) (.tmp 15) (.int .i64 ((k : Nat) : Int)) (.int .i64 ((s.size : Nat) : Int)) (.bool false) (geN (decide_eq_false (by omega)) _ _ _) ?_
 refine wl_pick (.tmp 12) (.const (.bool true)) (.tmp 16) false (.bool false) (fun _ => rfl) rfl rfl rfl ?_
 refine w_nil (xn_then (w_condF rfl (w_skip (xn_then (w_seq (w_reg ?_))))))
 refine wl_m (.tmp 0) (.string s) ?_
 refine wl_m (.tmp 1) (.int .i64 ((k : Nat) : Int)) ?_
 refine wl_call 27 [(.tmp 20), (.tmp 21)] _ [.string s, .int .i64 ((k : Nat) : Int)] (.tuple #[.int .i64 ((2 : Nat) : Int), .int .i64 ((e : Nat) : Int)]) rfl rfl (fun _ _ => by kernel_rfl) (reach_c hr _ (by unfold maxLen; omega) hk) rfl ?_
 intro w2 hq
 replace Q1 := Q1.mo hq
 replace M := M.trans hq
 clear hq
 refine wl_m (.tmp 22) (.tuple #[.int .i64 ((2 : Nat) : Int), .int .i64 ((e : Nat) : Int)]) ?_
 refine wl_un (fun v => Instr.extract v 0) (.tmp 19) (.tuple #[.int .i64 ((2 : Nat) : Int), .int .i64 ((e : Nat) : Int)]) (.int .i64 ((2 : Nat) : Int)) (fun _ => rfl) rfl (by kernel_rfl) rfl ?_
 refine wl_un (fun v => Instr.extract v 1) (.tmp 19) (.tuple #[.int .i64 ((2 : Nat) : Int), .int .i64 ((e : Nat) : Int)]) (.int .i64 ((e : Nat) : Int)) (fun _ => rfl) rfl (by kernel_rfl) rfl ?_
 refine wl_m (.tmp 23) (.int .i64 ((2 : Nat) : Int)) ?_
 refine wl_m (.tmp 24) (.int .i64 ((e : Nat) : Int)) ?_
 refine w_nil (xn_then (w_seq (w_reg ?_)))
 refine wl_m (.tmp 6) (.int .i64 ((2 : Nat) : Int)) ?_
 refine wl_m (.tmp 0) (.string s) ?_
 refine wl_m (.tmp 1) (.int .i64 ((k : Nat) : Int)) ?_
 refine wl_m (.tmp 7) (.int .i64 ((e : Nat) : Int)) ?_
 refine wl_val (.string (s.extract k e)) (mid_run _ _ _ _ s (k) (e) (by exact rfl) (by exact rfl) (by exact rfl) (by omega) (by omega) _ _ _ _ _ _) rfl ?_
 refine wl_call 28 [(.tmp 26), (.tmp 30)] _ [.int .i64 ((2 : Nat) : Int), .string (s.extract k e)] (.tuple #[.agg #[.int .i64 1, .bool b, .int .u64 (l0 (N)), .int .u64 (l1 (N)), .int .u64 (l2 (N)), .int .u64 (l3 (N)), .int .i64 ((kk : Int)), .bool false, .string ⟨#[]⟩, .int .i64 0], .bool false]) rfl rfl (fun _ _ => by kernel_rfl) (hm _) rfl ?_
 intro w3 hq
 replace Q1 := Q1.mo hq
 replace M := M.trans hq
 clear hq
 refine wl_m (.tmp 31) (.tuple #[.agg #[.int .i64 1, .bool b, .int .u64 (l0 (N)), .int .u64 (l1 (N)), .int .u64 (l2 (N)), .int .u64 (l3 (N)), .int .i64 ((kk : Int)), .bool false, .string ⟨#[]⟩, .int .i64 0], .bool false]) ?_
 refine wl_un (fun v => Instr.extract v 0) (.tmp 25) (.tuple #[.agg #[.int .i64 1, .bool b, .int .u64 (l0 (N)), .int .u64 (l1 (N)), .int .u64 (l2 (N)), .int .u64 (l3 (N)), .int .i64 ((kk : Int)), .bool false, .string ⟨#[]⟩, .int .i64 0], .bool false]) (.agg #[.int .i64 1, .bool b, .int .u64 (l0 (N)), .int .u64 (l1 (N)), .int .u64 (l2 (N)), .int .u64 (l3 (N)), .int .i64 ((kk : Int)), .bool false, .string ⟨#[]⟩, .int .i64 0]) (fun _ => rfl) rfl (by kernel_rfl) rfl ?_
 refine wl_un (fun v => Instr.extract v 1) (.tmp 25) (.tuple #[.agg #[.int .i64 1, .bool b, .int .u64 (l0 (N)), .int .u64 (l1 (N)), .int .u64 (l2 (N)), .int .u64 (l3 (N)), .int .i64 ((kk : Int)), .bool false, .string ⟨#[]⟩, .int .i64 0], .bool false]) (.bool false) (fun _ => rfl) rfl (by kernel_rfl) rfl ?_
 refine wl_alloc 35 #[.int .i64 0, .bool false, .int .u64 0, .int .u64 0, .int .u64 0, .int .u64 0, .int .i64 0, .bool false, .string ⟨#[]⟩, .int .i64 0] rfl (fun _ => by kernel_rfl) rfl ?_
 intro k2 w4 hk hz hq Q2
 have ne_k1_k2 : k1 ≠ k2 := by have := Q1.lt; omega
 have N_k2 : w.heap.size ≤ k2 := by have := M.size; omega
 replace Q1 := Q1.mo hq
 replace M := M.trans hq
 clear hk hz hq
 refine wl_st 35 (.tmp 8) (.tmp 32) k2 0 #[.int .i64 1, .bool b, .int .u64 (l0 (N)), .int .u64 (l1 (N)), .int .u64 (l2 (N)), .int .u64 (l3 (N)), .int .i64 ((kk : Int)), .bool false, .string ⟨#[]⟩, .int .i64 0] _ [.int .i64 1, .bool b, .int .u64 (l0 (N)), .int .u64 (l1 (N)), .int .u64 (l2 (N)), .int .u64 (l3 (N)), .int .i64 ((kk : Int)), .bool false, .string ⟨#[]⟩, .int .i64 0] Q2 rfl rfl rfl rfl rfl sz35 rfl rfl rfl ?_
 intro w5 hS Qn
 replace Q2 := Qn
 clear Qn
 replace Q1 := hS.other _ _ ne_k1_k2 Q1
 replace M := hS.mo _ N_k2 M
 clear hS
 refine wl_m (.tmp 33) (.bool false) ?_
 refine w_nil (xn_then (w_seq (w_seq (w_reg ?_))))
 refine wl_m (.tmp 9) (.bool false) ?_
 refine wl_un (fun v => Op.unary .not v) (.tmp 34) (.bool false) (.bool true) (fun _ => rfl) rfl (by kernel_rfl) rfl ?_
 refine w_nil (xn_then (w_condT rfl (w_seq (w_reg ?_))))
 refine wl_build 37 [] [] (.agg #[.int .i64 0, .string ⟨#[]⟩, .int .i64 0, .bool false, .int .u64 0, .int .u64 0, .int .u64 0, .int .u64 0, .int .i64 0, .bool false, .string ⟨#[]⟩, .int .i64 0, .int .i64 0]) rfl rfl (by kernel_rfl) rfl ?_
 refine wl_st 37 (.tmp 4) (.tmp 36) k1 0 #[.int .i64 0, .string ⟨#[]⟩, .int .i64 0, .bool false, .int .u64 0, .int .u64 0, .int .u64 0, .int .u64 0, .int .i64 0, .bool false, .string ⟨#[]⟩, .int .i64 0, .int .i64 0] _ [.int .i64 0, .string ⟨#[]⟩, .int .i64 0, .bool false, .int .u64 0, .int .u64 0, .int .u64 0, .int .u64 0, .int .i64 0, .bool false, .string ⟨#[]⟩, .int .i64 0, .int .i64 0] Q1 rfl rfl rfl rfl rfl sz37 rfl rfl rfl ?_
 intro w6 hS Qn
 replace Q1 := Qn
 clear Qn
 replace Q2 := hS.other _ _ ne_k1_k2.symm Q2
 replace M := hS.mo _ N_k1 M
 clear hS
 refine wl_m (.const (.int .i64 (70))) (.int .i64 (70)) ?_
 refine w_nil (xn_then (w_ret (xr_then ?_)))
 exact w_ret2 _ _ (.agg #[.int .i64 0, .string ⟨#[]⟩, .int .i64 0, .bool false, .int .u64 0, .int .u64 0, .int .u64 0, .int .u64 0, .int .i64 0, .bool false, .string ⟨#[]⟩, .int .i64 0, .int .i64 0]) (.int .i64 (70)) rfl ⟨k1, rfl, (run_row Q1 37 0 13 _ rfl Tryd.underlying37 rfl sz37)⟩ rfl ⟨rfl, M⟩
theorem next_3t (s : ByteArray) (k e : Nat) (w : World) (hs : s.size ≤ 140737488355328) (hk : k < s.size) (hr : rch s k = (3, e)) (hm : ∀ w, Calls Tryd.prog 28 #[.int .i64 ((3 : Nat) : Int), .string (s.extract k e)] w fun e' w' => e' = .returned (.tuple #[.agg #[.int .i64 3, .bool false, .int .u64 0, .int .u64 0, .int .u64 0, .int .u64 0, .int .i64 0, .bool false, .string (unq (s.extract k e)).1, .int .i64 0], .bool true]) ∧ Mw w w') : Calls Tryd.prog 12 #[.string s, .int .i64 ((k : Nat) : Int)] w fun e' w' => e' = .returned (.tuple #[.agg #[.int .i64 ((3 : Nat) : Int), .string (s.extract k e), .int .i64 3, .bool false, .int .u64 0, .int .u64 0, .int .u64 0, .int .u64 0, .int .i64 0, .bool false, .string (unq (s.extract k e)).1, .int .i64 0, .int .i64 ((k : Nat) : Int)], .int .i64 0]) ∧ Mw w w' := by
 have hrg := rch_rg hk
 rw [hr] at hrg
 simp only at hrg
 refine w_enter 45 Tryd.func12 Tryd.ntmps12 rfl rfl ?_
 have M : Mw w w := Mw.refl _
 refine w_seq (w_reg ?_)
 refine wl_alloc 37 #[.int .i64 0, .string ⟨#[]⟩, .int .i64 0, .bool false, .int .u64 0, .int .u64 0, .int .u64 0, .int .u64 0, .int .i64 0, .bool false, .string ⟨#[]⟩, .int .i64 0, .int .i64 0] rfl (fun _ => by kernel_rfl) rfl ?_
 intro k1 w1 hk hz hq Q1
 have N_k1 : w.heap.size ≤ k1 := by have := M.size; omega
 replace M := M.trans hq
 clear hk hz hq
 refine wl_m (.const (.int .i64 (0))) (.int .i64 (0)) ?_
 refine w_nil (xn_then (w_seq (w_seq (w_reg ?_))))
 refine wl_m (.tmp 1) (.int .i64 ((k : Nat) : Int)) ?_
 refine wl_b .lss 3 (.tmp 10) (.const (.int .i64 (0))) (.int .i64 ((k : Nat) : Int)) (.int .i64 (0)) (.bool false) (lt3_run (r := false) (decide_eq_false (by omega)) _ _ _) ?_
 refine wl_m (.tmp 11) (.bool false) ?_
 refine wl_m (.tmp 1) (.int .i64 ((k : Nat) : Int)) ?_
 refine wl_m (.tmp 0) (.string s) ?_
 refine wl_val (.int .i64 ((s.size : Nat) : Int)) (len_s _ _ s (by exact rfl) _ _ _ _ _ _) rfl ?_
 refine wl_b .geq 3 (.tmp 13) (.tmp 15) (.int .i64 ((k : Nat) : Int)) (.int .i64 ((s.size : Nat) : Int)) (.bool false) (geN (decide_eq_false (by omega)) _ _ _) ?_
 refine wl_pick (.tmp 12) (.const (.bool true)) (.tmp 16) false (.bool false) (fun _ => rfl) rfl rfl rfl ?_
 refine w_nil (xn_then (w_condF rfl (w_skip (xn_then (w_seq (w_reg ?_))))))
 refine wl_m (.tmp 0) (.string s) ?_
 refine wl_m (.tmp 1) (.int .i64 ((k : Nat) : Int)) ?_
 refine wl_call 27 [(.tmp 20), (.tmp 21)] _ [.string s, .int .i64 ((k : Nat) : Int)] (.tuple #[.int .i64 ((3 : Nat) : Int), .int .i64 ((e : Nat) : Int)]) rfl rfl (fun _ _ => by kernel_rfl) (reach_c hr _ (by unfold maxLen; omega) hk) rfl ?_
 intro w2 hq
 replace Q1 := Q1.mo hq
 replace M := M.trans hq
 clear hq
 refine wl_m (.tmp 22) (.tuple #[.int .i64 ((3 : Nat) : Int), .int .i64 ((e : Nat) : Int)]) ?_
 refine wl_un (fun v => Instr.extract v 0) (.tmp 19) (.tuple #[.int .i64 ((3 : Nat) : Int), .int .i64 ((e : Nat) : Int)]) (.int .i64 ((3 : Nat) : Int)) (fun _ => rfl) rfl (by kernel_rfl) rfl ?_
 refine wl_un (fun v => Instr.extract v 1) (.tmp 19) (.tuple #[.int .i64 ((3 : Nat) : Int), .int .i64 ((e : Nat) : Int)]) (.int .i64 ((e : Nat) : Int)) (fun _ => rfl) rfl (by kernel_rfl) rfl ?_
 refine wl_m (.tmp 23) (.int .i64 ((3 : Nat) : Int)) ?_
 refine wl_m (.tmp 24) (.int .i64 ((e : Nat) : Int)) ?_
 refine w_nil (xn_then (w_seq (w_reg ?_)))
 refine wl_m (.tmp 6) (.int .i64 ((3 : Nat) : Int)) ?_
 refine wl_m (.tmp 0) (.string s) ?_
 refine wl_m (.tmp 1) (.int .i64 ((k : Nat) : Int)) ?_
 refine wl_m (.tmp 7) (.int .i64 ((e : Nat) : Int)) ?_
 refine wl_val (.string (s.extract k e)) (mid_run _ _ _ _ s (k) (e) (by exact rfl) (by exact rfl) (by exact rfl) (by omega) (by omega) _ _ _ _ _ _) rfl ?_
 refine wl_call 28 [(.tmp 26), (.tmp 30)] _ [.int .i64 ((3 : Nat) : Int), .string (s.extract k e)] (.tuple #[.agg #[.int .i64 3, .bool false, .int .u64 0, .int .u64 0, .int .u64 0, .int .u64 0, .int .i64 0, .bool false, .string (unq (s.extract k e)).1, .int .i64 0], .bool true]) rfl rfl (fun _ _ => by kernel_rfl) (hm _) rfl ?_
 intro w3 hq
 replace Q1 := Q1.mo hq
 replace M := M.trans hq
 clear hq
 refine wl_m (.tmp 31) (.tuple #[.agg #[.int .i64 3, .bool false, .int .u64 0, .int .u64 0, .int .u64 0, .int .u64 0, .int .i64 0, .bool false, .string (unq (s.extract k e)).1, .int .i64 0], .bool true]) ?_
 refine wl_un (fun v => Instr.extract v 0) (.tmp 25) (.tuple #[.agg #[.int .i64 3, .bool false, .int .u64 0, .int .u64 0, .int .u64 0, .int .u64 0, .int .i64 0, .bool false, .string (unq (s.extract k e)).1, .int .i64 0], .bool true]) (.agg #[.int .i64 3, .bool false, .int .u64 0, .int .u64 0, .int .u64 0, .int .u64 0, .int .i64 0, .bool false, .string (unq (s.extract k e)).1, .int .i64 0]) (fun _ => rfl) rfl (by kernel_rfl) rfl ?_
 refine wl_un (fun v => Instr.extract v 1) (.tmp 25) (.tuple #[.agg #[.int .i64 3, .bool false, .int .u64 0, .int .u64 0, .int .u64 0, .int .u64 0, .int .i64 0, .bool false, .string (unq (s.extract k e)).1, .int .i64 0], .bool true]) (.bool true) (fun _ => rfl) rfl (by kernel_rfl) rfl ?_
 refine wl_alloc 35 #[.int .i64 0, .bool false, .int .u64 0, .int .u64 0, .int .u64 0, .int .u64 0, .int .i64 0, .bool false, .string ⟨#[]⟩, .int .i64 0] rfl (fun _ => by kernel_rfl) rfl ?_
 intro k2 w4 hk hz hq Q2
 have ne_k1_k2 : k1 ≠ k2 := by have := Q1.lt; omega
 have N_k2 : w.heap.size ≤ k2 := by have := M.size; omega
 replace Q1 := Q1.mo hq
 replace M := M.trans hq
 clear hk hz hq
 refine wl_st 35 (.tmp 8) (.tmp 32) k2 0 #[.int .i64 3, .bool false, .int .u64 0, .int .u64 0, .int .u64 0, .int .u64 0, .int .i64 0, .bool false, .string (unq (s.extract k e)).1, .int .i64 0] _ [.int .i64 3, .bool false, .int .u64 0, .int .u64 0, .int .u64 0, .int .u64 0, .int .i64 0, .bool false, .string (unq (s.extract k e)).1, .int .i64 0] Q2 rfl rfl rfl rfl rfl sz35 rfl rfl rfl ?_
 intro w5 hS Qn
 replace Q2 := Qn
 clear Qn
 replace Q1 := hS.other _ _ ne_k1_k2 Q1
 replace M := hS.mo _ N_k2 M
 clear hS
 refine wl_m (.tmp 33) (.bool true) ?_
 refine w_nil (xn_then (w_seq (w_seq (w_reg ?_))))
 refine wl_m (.tmp 9) (.bool true) ?_
 refine wl_un (fun v => Op.unary .not v) (.tmp 34) (.bool true) (.bool false) (fun _ => rfl) rfl (by kernel_rfl) rfl ?_
 refine w_nil (xn_then (w_condF rfl (w_skip (xn_then (w_seq ?_)))))
 refine w_any 8 [.inl (.int .i64 ((3 : Nat) : Int)), .inl (.string s), .inl (.int .i64 ((k : Nat) : Int)), .inl (.int .i64 ((e : Nat) : Int)), .inl (.string (s.extract k e)), .inl (.agg #[.int .i64 3, .bool false, .int .u64 0, .int .u64 0, .int .u64 0, .int .u64 0, .int .i64 0, .bool false, .string (unq (s.extract k e)).1, .int .i64 0]), .inl (.int .i64 ((k : Nat) : Int)), .inl (.agg #[.int .i64 ((3 : Nat) : Int), .string (s.extract k e), .int .i64 3, .bool false, .int .u64 0, .int .u64 0, .int .u64 0, .int .u64 0, .int .i64 0, .bool false, .string (unq (s.extract k e)).1, .int .i64 0, .int .i64 ((k : Nat) : Int)])] [] (by kernel_rfl) (by kernel_rfl) (by kernel_rfl) (by kernel_rfl) rfl (by kernel_rfl) (by kernel_rfl) late_nil ?_ ?_ ?_
 ·exact Ds.none rfl
 ·refine ea_cons ?_ (ea_cons ?_ (ea_cons ?_ (ea_cons ?_ (ea_cons ?_ (ea_cons ?_ (ea_cons ?_ (ea_cons ?_ (ea_nil))))))))
  ·exact og_eq _ rfl (fun f wf hq hd K hK => go_run rfl (wo_mv (.tmp 6) (.int .i64 ((3 : Nat) : Int)) (fun _ => rfl) rfl (hK _ (Mw.refl _))))
  ·exact og_eq _ rfl (fun f wf hq hd K hK => go_run rfl (wo_mv (.tmp 0) (.string s) (fun _ => rfl) rfl (hK _ (Mw.refl _))))
  ·exact og_eq _ rfl (fun f wf hq hd K hK => go_run rfl (wo_mv (.tmp 1) (.int .i64 ((k : Nat) : Int)) (fun _ => rfl) rfl (hK _ (Mw.refl _))))
  ·exact og_eq _ rfl (fun f wf hq hd K hK => go_run rfl (wo_mv (.tmp 7) (.int .i64 ((e : Nat) : Int)) (fun _ => rfl) rfl (hK _ (Mw.refl _))))
  ·exact og_eq _ rfl (fun f wf hq hd K hK => go_run rfl (wo_val (.string (s.extract k e)) (mid_run _ _ _ _ s (k) (e) (by exact (hd 1 rfl)) (by exact (hd 2 rfl)) (by exact (hd 3 rfl)) (by omega) (by omega) _ _ _ _ _ _) (hK _ (Mw.refl _))))
  ·exact og_eq _ rfl (fun f wf hq hd K hK => have Q2 := Q2.mo hq; go_run rfl (wo_load 35 (.tmp 8) (pt k2 0) (.agg #[.int .i64 3, .bool false, .int .u64 0, .int .u64 0, .int .u64 0, .int .u64 0, .int .i64 0, .bool false, .string (unq (s.extract k e)).1, .int .i64 0]) rfl rfl (run_row Q2 35 0 10 _ rfl Tryd.underlying35 rfl sz35) (hK _ (Mw.refl _))))
  ·exact og_eq _ rfl (fun f wf hq hd K hK => go_run rfl (wo_mv (.tmp 1) (.int .i64 ((k : Nat) : Int)) (fun _ => rfl) rfl (hK _ (Mw.refl _))))
  ·exact og_eq _ rfl (fun f wf hq hd K hK => go_run rfl (wo_build 37 [(0, (.tmp 37)), (1, (.tmp 41)), (2, (.tmp 42)), (3, (.tmp 43))] [(0, .int .i64 ((3 : Nat) : Int)), (1, .string (s.extract k e)), (2, .agg #[.int .i64 3, .bool false, .int .u64 0, .int .u64 0, .int .u64 0, .int .u64 0, .int .i64 0, .bool false, .string (unq (s.extract k e)).1, .int .i64 0]), (3, .int .i64 ((k : Nat) : Int))] (.agg #[.int .i64 ((3 : Nat) : Int), .string (s.extract k e), .int .i64 3, .bool false, .int .u64 0, .int .u64 0, .int .u64 0, .int .u64 0, .int .i64 0, .bool false, .string (unq (s.extract k e)).1, .int .i64 0, .int .i64 ((k : Nat) : Int)]) rfl (lp4 (hd 0 rfl) (hd 4 rfl) (hd 5 rfl) (hd 6 rfl)) (by kernel_rfl) (hK _ (Mw.refl _))))
 intro kf6 w6 hq hR hne
 replace Q1 := Q1.mo hq
 replace Q2 := Q2.mo hq
 replace M := M.trans hq
 clear hq hR hne
 refine wl_st 37 (.tmp 4) (.tmp 44) k1 0 #[.int .i64 ((3 : Nat) : Int), .string (s.extract k e), .int .i64 3, .bool false, .int .u64 0, .int .u64 0, .int .u64 0, .int .u64 0, .int .i64 0, .bool false, .string (unq (s.extract k e)).1, .int .i64 0, .int .i64 ((k : Nat) : Int)] _ [.int .i64 ((3 : Nat) : Int), .string (s.extract k e), .int .i64 3, .bool false, .int .u64 0, .int .u64 0, .int .u64 0, .int .u64 0, .int .i64 0, .bool false, .string (unq (s.extract k e)).1, .int .i64 0, .int .i64 ((k : Nat) : Int)] Q1 rfl rfl rfl rfl rfl sz37 rfl rfl rfl ?_
 intro w7 hS Qn
 replace Q1 := Qn
 clear Qn
 replace Q2 := hS.other _ _ ne_k1_k2.symm Q2
 replace M := hS.mo _ N_k1 M
 clear hS
 refine wl_m (.const (.int .i64 (0))) (.int .i64 (0)) ?_
 refine w_nil (xn_then (w_ret ?_))
 exact w_ret2 _ _ (.agg #[.int .i64 ((3 : Nat) : Int), .string (s.extract k e), .int .i64 3, .bool false, .int .u64 0, .int .u64 0, .int .u64 0, .int .u64 0, .int .i64 0, .bool false, .string (unq (s.extract k e)).1, .int .i64 0, .int .i64 ((k : Nat) : Int)]) (.int .i64 (0)) rfl ⟨k1, rfl, (run_row Q1 37 0 13 _ rfl Tryd.underlying37 rfl sz37)⟩ rfl ⟨rfl, M⟩
theorem next_3f (s : ByteArray) (k e : Nat) (w : World) (hs : s.size ≤ 140737488355328) (hk : k < s.size) (hr : rch s k = (3, e)) (hm : ∀ w, Calls Tryd.prog 28 #[.int .i64 ((3 : Nat) : Int), .string (s.extract k e)] w fun e' w' => e' = .returned (.tuple #[.agg #[.int .i64 3, .bool false, .int .u64 0, .int .u64 0, .int .u64 0, .int .u64 0, .int .i64 0, .bool false, .string (unq (s.extract k e)).1, .int .i64 0], .bool false]) ∧ Mw w w') : Calls Tryd.prog 12 #[.string s, .int .i64 ((k : Nat) : Int)] w fun e' w' => e' = .returned (.tuple #[.agg #[.int .i64 0, .string ⟨#[]⟩, .int .i64 0, .bool false, .int .u64 0, .int .u64 0, .int .u64 0, .int .u64 0, .int .i64 0, .bool false, .string ⟨#[]⟩, .int .i64 0, .int .i64 0], .int .i64 70]) ∧ Mw w w' := by
 have hrg := rch_rg hk
 rw [hr] at hrg
 simp only at hrg
 refine w_enter 45 Tryd.func12 Tryd.ntmps12 rfl rfl ?_
 have M : Mw w w := Mw.refl _
 refine w_seq (w_reg ?_)
 refine wl_alloc 37 #[.int .i64 0, .string ⟨#[]⟩, .int .i64 0, .bool false, .int .u64 0, .int .u64 0, .int .u64 0, .int .u64 0, .int .i64 0, .bool false, .string ⟨#[]⟩, .int .i64 0, .int .i64 0] rfl (fun _ => by kernel_rfl) rfl ?_
 intro k1 w1 hk hz hq Q1
 have N_k1 : w.heap.size ≤ k1 := by have := M.size; omega
 replace M := M.trans hq
 clear hk hz hq
 refine wl_m (.const (.int .i64 (0))) (.int .i64 (0)) ?_
 refine w_nil (xn_then (w_seq (w_seq (w_reg ?_))))
 refine wl_m (.tmp 1) (.int .i64 ((k : Nat) : Int)) ?_
 refine wl_b .lss 3 (.tmp 10) (.const (.int .i64 (0))) (.int .i64 ((k : Nat) : Int)) (.int .i64 (0)) (.bool false) (lt3_run (r := false) (decide_eq_false (by omega)) _ _ _) ?_
 refine wl_m (.tmp 11) (.bool false) ?_
 refine wl_m (.tmp 1) (.int .i64 ((k : Nat) : Int)) ?_
 refine wl_m (.tmp 0) (.string s) ?_
 refine wl_val (.int .i64 ((s.size : Nat) : Int)) (len_s _ _ s (by exact rfl) _ _ _ _ _ _) rfl ?_
 refine wl_b .geq 3 (.tmp 13) (.tmp 15) (.int .i64 ((k : Nat) : Int)) (.int .i64 ((s.size : Nat) : Int)) (.bool false) (geN (decide_eq_false (by omega)) _ _ _) ?_
 refine wl_pick (.tmp 12) (.const (.bool true)) (.tmp 16) false (.bool false) (fun _ => rfl) rfl rfl rfl ?_
 refine w_nil (xn_then (w_condF rfl (w_skip (xn_then (w_seq (w_reg ?_))))))
 refine wl_m (.tmp 0) (.string s) ?_
 refine wl_m (.tmp 1) (.int .i64 ((k : Nat) : Int)) ?_
 refine wl_call 27 [(.tmp 20), (.tmp 21)] _ [.string s, .int .i64 ((k : Nat) : Int)] (.tuple #[.int .i64 ((3 : Nat) : Int), .int .i64 ((e : Nat) : Int)]) rfl rfl (fun _ _ => by kernel_rfl) (reach_c hr _ (by unfold maxLen; omega) hk) rfl ?_
 intro w2 hq
 replace Q1 := Q1.mo hq
 replace M := M.trans hq
 clear hq
 refine wl_m (.tmp 22) (.tuple #[.int .i64 ((3 : Nat) : Int), .int .i64 ((e : Nat) : Int)]) ?_
 refine wl_un (fun v => Instr.extract v 0) (.tmp 19) (.tuple #[.int .i64 ((3 : Nat) : Int), .int .i64 ((e : Nat) : Int)]) (.int .i64 ((3 : Nat) : Int)) (fun _ => rfl) rfl (by kernel_rfl) rfl ?_
 refine wl_un (fun v => Instr.extract v 1) (.tmp 19) (.tuple #[.int .i64 ((3 : Nat) : Int), .int .i64 ((e : Nat) : Int)]) (.int .i64 ((e : Nat) : Int)) (fun _ => rfl) rfl (by kernel_rfl) rfl ?_
 refine wl_m (.tmp 23) (.int .i64 ((3 : Nat) : Int)) ?_
 refine wl_m (.tmp 24) (.int .i64 ((e : Nat) : Int)) ?_
 refine w_nil (xn_then (w_seq (w_reg ?_)))
 refine wl_m (.tmp 6) (.int .i64 ((3 : Nat) : Int)) ?_
 refine wl_m (.tmp 0) (.string s) ?_
 refine wl_m (.tmp 1) (.int .i64 ((k : Nat) : Int)) ?_
 refine wl_m (.tmp 7) (.int .i64 ((e : Nat) : Int)) ?_
 refine wl_val (.string (s.extract k e)) (mid_run _ _ _ _ s (k) (e) (by exact rfl) (by exact rfl) (by exact rfl) (by omega) (by omega) _ _ _ _ _ _) rfl ?_
 refine wl_call 28 [(.tmp 26), (.tmp 30)] _ [.int .i64 ((3 : Nat) : Int), .string (s.extract k e)] (.tuple #[.agg #[.int .i64 3, .bool false, .int .u64 0, .int .u64 0, .int .u64 0, .int .u64 0, .int .i64 0, .bool false, .string (unq (s.extract k e)).1, .int .i64 0], .bool false]) rfl rfl (fun _ _ => by kernel_rfl) (hm _) rfl ?_
 intro w3 hq
 replace Q1 := Q1.mo hq
 replace M := M.trans hq
 clear hq
 refine wl_m (.tmp 31) (.tuple #[.agg #[.int .i64 3, .bool false, .int .u64 0, .int .u64 0, .int .u64 0, .int .u64 0, .int .i64 0, .bool false, .string (unq (s.extract k e)).1, .int .i64 0], .bool false]) ?_
 refine wl_un (fun v => Instr.extract v 0) (.tmp 25) (.tuple #[.agg #[.int .i64 3, .bool false, .int .u64 0, .int .u64 0, .int .u64 0, .int .u64 0, .int .i64 0, .bool false, .string (unq (s.extract k e)).1, .int .i64 0], .bool false]) (.agg #[.int .i64 3, .bool false, .int .u64 0, .int .u64 0, .int .u64 0, .int .u64 0, .int .i64 0, .bool false, .string (unq (s.extract k e)).1, .int .i64 0]) (fun _ => rfl) rfl (by kernel_rfl) rfl ?_
 refine wl_un (fun v => Instr.extract v 1) (.tmp 25) (.tuple #[.agg #[.int .i64 3, .bool false, .int .u64 0, .int .u64 0, .int .u64 0, .int .u64 0, .int .i64 0, .bool false, .string (unq (s.extract k e)).1, .int .i64 0], .bool false]) (.bool false) (fun _ => rfl) rfl (by kernel_rfl) rfl ?_
 refine wl_alloc 35 #[.int .i64 0, .bool false, .int .u64 0, .int .u64 0, .int .u64 0, .int .u64 0, .int .i64 0, .bool false, .string ⟨#[]⟩, .int .i64 0] rfl (fun _ => by kernel_rfl) rfl ?_
 intro k2 w4 hk hz hq Q2
 have ne_k1_k2 : k1 ≠ k2 := by have := Q1.lt; omega
 have N_k2 : w.heap.size ≤ k2 := by have := M.size; omega
 replace Q1 := Q1.mo hq
 replace M := M.trans hq
 clear hk hz hq
 refine wl_st 35 (.tmp 8) (.tmp 32) k2 0 #[.int .i64 3, .bool false, .int .u64 0, .int .u64 0, .int .u64 0, .int .u64 0, .int .i64 0, .bool false, .string (unq (s.extract k e)).1, .int .i64 0] _ [.int .i64 3, .bool false, .int .u64 0, .int .u64 0, .int .u64 0, .int .u64 0, .int .i64 0, .bool false, .string (unq (s.extract k e)).1, .int .i64 0] Q2 rfl rfl rfl rfl rfl sz35 rfl rfl rfl ?_
 intro w5 hS Qn
 replace Q2 := Qn
 clear Qn
 replace Q1 := hS.other _ _ ne_k1_k2 Q1
 replace M := hS.mo _ N_k2 M
 clear hS
 refine wl_m (.tmp 33) (.bool false) ?_
 refine w_nil (xn_then (w_seq (w_seq (w_reg ?_))))
 refine wl_m (.tmp 9) (.bool false) ?_
 refine wl_un (fun v => Op.unary .not v) (.tmp 34) (.bool false) (.bool true) (fun _ => rfl) rfl (by kernel_rfl) rfl ?_
 refine w_nil (xn_then (w_condT rfl (w_seq (w_reg ?_))))
 refine wl_build 37 [] [] (.agg #[.int .i64 0, .string ⟨#[]⟩, .int .i64 0, .bool false, .int .u64 0, .int .u64 0, .int .u64 0, .int .u64 0, .int .i64 0, .bool false, .string ⟨#[]⟩, .int .i64 0, .int .i64 0]) rfl rfl (by kernel_rfl) rfl ?_
 refine wl_st 37 (.tmp 4) (.tmp 36) k1 0 #[.int .i64 0, .string ⟨#[]⟩, .int .i64 0, .bool false, .int .u64 0, .int .u64 0, .int .u64 0, .int .u64 0, .int .i64 0, .bool false, .string ⟨#[]⟩, .int .i64 0, .int .i64 0] _ [.int .i64 0, .string ⟨#[]⟩, .int .i64 0, .bool false, .int .u64 0, .int .u64 0, .int .u64 0, .int .u64 0, .int .i64 0, .bool false, .string ⟨#[]⟩, .int .i64 0, .int .i64 0] Q1 rfl rfl rfl rfl rfl sz37 rfl rfl rfl ?_
 intro w6 hS Qn
 replace Q1 := Qn
 clear Qn
 replace Q2 := hS.other _ _ ne_k1_k2.symm Q2
 replace M := hS.mo _ N_k1 M
 clear hS
 refine wl_m (.const (.int .i64 (70))) (.int .i64 (70)) ?_
 refine w_nil (xn_then (w_ret (xr_then ?_)))
 exact w_ret2 _ _ (.agg #[.int .i64 0, .string ⟨#[]⟩, .int .i64 0, .bool false, .int .u64 0, .int .u64 0, .int .u64 0, .int .u64 0, .int .i64 0, .bool false, .string ⟨#[]⟩, .int .i64 0, .int .i64 0]) (.int .i64 (70)) rfl ⟨k1, rfl, (run_row Q1 37 0 13 _ rfl Tryd.underlying37 rfl sz37)⟩ rfl ⟨rfl, M⟩
theorem next_4t (s : ByteArray) (k e : Nat) (w : World) (hs : s.size ≤ 140737488355328) (hk : k < s.size) (hr : rch s k = (4, e)) (hm : ∀ w, Calls Tryd.prog 28 #[.int .i64 ((4 : Nat) : Int), .string (s.extract k e)] w fun e' w' => e' = .returned (.tuple #[.agg #[.int .i64 0, .bool false, .int .u64 0, .int .u64 0, .int .u64 0, .int .u64 0, .int .i64 0, .bool false, .string ⟨#[]⟩, .int .i64 0], .bool true]) ∧ Mw w w') : Calls Tryd.prog 12 #[.string s, .int .i64 ((k : Nat) : Int)] w fun e' w' => e' = .returned (.tuple #[.agg #[.int .i64 ((4 : Nat) : Int), .string (s.extract k e), .int .i64 0, .bool false, .int .u64 0, .int .u64 0, .int .u64 0, .int .u64 0, .int .i64 0, .bool false, .string ⟨#[]⟩, .int .i64 0, .int .i64 ((k : Nat) : Int)], .int .i64 0]) ∧ Mw w w' := by
 have hrg := rch_rg hk
 rw [hr] at hrg
 simp only at hrg
 refine w_enter 45 Tryd.func12 Tryd.ntmps12 rfl rfl ?_
 have M : Mw w w := Mw.refl _
 refine w_seq (w_reg ?_)
 refine wl_alloc 37 #[.int .i64 0, .string ⟨#[]⟩, .int .i64 0, .bool false, .int .u64 0, .int .u64 0, .int .u64 0, .int .u64 0, .int .i64 0, .bool false, .string ⟨#[]⟩, .int .i64 0, .int .i64 0] rfl (fun _ => by kernel_rfl) rfl ?_
 intro k1 w1 hk hz hq Q1
 have N_k1 : w.heap.size ≤ k1 := by have := M.size; omega
 replace M := M.trans hq
 clear hk hz hq
 refine wl_m (.const (.int .i64 (0))) (.int .i64 (0)) ?_
 refine w_nil (xn_then (w_seq (w_seq (w_reg ?_))))
 refine wl_m (.tmp 1) (.int .i64 ((k : Nat) : Int)) ?_
 refine wl_b .lss 3 (.tmp 10) (.const (.int .i64 (0))) (.int .i64 ((k : Nat) : Int)) (.int .i64 (0)) (.bool false) (lt3_run (r := false) (decide_eq_false (by omega)) _ _ _) ?_
 refine wl_m (.tmp 11) (.bool false) ?_
 refine wl_m (.tmp 1) (.int .i64 ((k : Nat) : Int)) ?_
 refine wl_m (.tmp 0) (.string s) ?_
 refine wl_val (.int .i64 ((s.size : Nat) : Int)) (len_s _ _ s (by exact rfl) _ _ _ _ _ _) rfl ?_
 refine wl_b .geq 3 (.tmp 13) (.tmp 15) (.int .i64 ((k : Nat) : Int)) (.int .i64 ((s.size : Nat) : Int)) (.bool false) (geN (decide_eq_false (by omega)) _ _ _) ?_
 refine wl_pick (.tmp 12) (.const (.bool true)) (.tmp 16) false (.bool false) (fun _ => rfl) rfl rfl rfl ?_
 refine w_nil (xn_then (w_condF rfl (w_skip (xn_then (w_seq (w_reg ?_))))))
 refine wl_m (.tmp 0) (.string s) ?_
 refine wl_m (.tmp 1) (.int .i64 ((k : Nat) : Int)) ?_
 refine wl_call 27 [(.tmp 20), (.tmp 21)] _ [.string s, .int .i64 ((k : Nat) : Int)] (.tuple #[.int .i64 ((4 : Nat) : Int), .int .i64 ((e : Nat) : Int)]) rfl rfl (fun _ _ => by kernel_rfl) (reach_c hr _ (by unfold maxLen; omega) hk) rfl ?_
 intro w2 hq
 replace Q1 := Q1.mo hq
 replace M := M.trans hq
 clear hq
 refine wl_m (.tmp 22) (.tuple #[.int .i64 ((4 : Nat) : Int), .int .i64 ((e : Nat) : Int)]) ?_
 refine wl_un (fun v => Instr.extract v 0) (.tmp 19) (.tuple #[.int .i64 ((4 : Nat) : Int), .int .i64 ((e : Nat) : Int)]) (.int .i64 ((4 : Nat) : Int)) (fun _ => rfl) rfl (by kernel_rfl) rfl ?_
 refine wl_un (fun v => Instr.extract v 1) (.tmp 19) (.tuple #[.int .i64 ((4 : Nat) : Int), .int .i64 ((e : Nat) : Int)]) (.int .i64 ((e : Nat) : Int)) (fun _ => rfl) rfl (by kernel_rfl) rfl ?_
 refine wl_m (.tmp 23) (.int .i64 ((4 : Nat) : Int)) ?_
 refine wl_m (.tmp 24) (.int .i64 ((e : Nat) : Int)) ?_
 refine w_nil (xn_then (w_seq (w_reg ?_)))
 refine wl_m (.tmp 6) (.int .i64 ((4 : Nat) : Int)) ?_
 refine wl_m (.tmp 0) (.string s) ?_
 refine wl_m (.tmp 1) (.int .i64 ((k : Nat) : Int)) ?_
 refine wl_m (.tmp 7) (.int .i64 ((e : Nat) : Int)) ?_
 refine wl_val (.string (s.extract k e)) (mid_run _ _ _ _ s (k) (e) (by exact rfl) (by exact rfl) (by exact rfl) (by omega) (by omega) _ _ _ _ _ _) rfl ?_
 refine wl_call 28 [(.tmp 26), (.tmp 30)] _ [.int .i64 ((4 : Nat) : Int), .string (s.extract k e)] (.tuple #[.agg #[.int .i64 0, .bool false, .int .u64 0, .int .u64 0, .int .u64 0, .int .u64 0, .int .i64 0, .bool false, .string ⟨#[]⟩, .int .i64 0], .bool true]) rfl rfl (fun _ _ => by kernel_rfl) (hm _) rfl ?_
 intro w3 hq
 replace Q1 := Q1.mo hq
 replace M := M.trans hq
 clear hq
 refine wl_m (.tmp 31) (.tuple #[.agg #[.int .i64 0, .bool false, .int .u64 0, .int .u64 0, .int .u64 0, .int .u64 0, .int .i64 0, .bool false, .string ⟨#[]⟩, .int .i64 0], .bool true]) ?_
 refine wl_un (fun v => Instr.extract v 0) (.tmp 25) (.tuple #[.agg #[.int .i64 0, .bool false, .int .u64 0, .int .u64 0, .int .u64 0, .int .u64 0, .int .i64 0, .bool false, .string ⟨#[]⟩, .int .i64 0], .bool true]) (.agg #[.int .i64 0, .bool false, .int .u64 0, .int .u64 0, .int .u64 0, .int .u64 0, .int .i64 0, .bool false, .string ⟨#[]⟩, .int .i64 0]) (fun _ => rfl) rfl (by kernel_rfl) rfl ?_
 refine wl_un (fun v => Instr.extract v 1) (.tmp 25) (.tuple #[.agg #[.int .i64 0, .bool false, .int .u64 0, .int .u64 0, .int .u64 0, .int .u64 0, .int .i64 0, .bool false, .string ⟨#[]⟩, .int .i64 0], .bool true]) (.bool true) (fun _ => rfl) rfl (by kernel_rfl) rfl ?_
 refine wl_alloc 35 #[.int .i64 0, .bool false, .int .u64 0, .int .u64 0, .int .u64 0, .int .u64 0, .int .i64 0, .bool false, .string ⟨#[]⟩, .int .i64 0] rfl (fun _ => by kernel_rfl) rfl ?_
 intro k2 w4 hk hz hq Q2
 have ne_k1_k2 : k1 ≠ k2 := by have := Q1.lt; omega
 have N_k2 : w.heap.size ≤ k2 := by have := M.size; omega
 replace Q1 := Q1.mo hq
 replace M := M.trans hq
 clear hk hz hq
 refine wl_st 35 (.tmp 8) (.tmp 32) k2 0 #[.int .i64 0, .bool false, .int .u64 0, .int .u64 0, .int .u64 0, .int .u64 0, .int .i64 0, .bool false, .string ⟨#[]⟩, .int .i64 0] _ [.int .i64 0, .bool false, .int .u64 0, .int .u64 0, .int .u64 0, .int .u64 0, .int .i64 0, .bool false, .string ⟨#[]⟩, .int .i64 0] Q2 rfl rfl rfl rfl rfl sz35 rfl rfl rfl ?_
 intro w5 hS Qn
 replace Q2 := Qn
 clear Qn
 replace Q1 := hS.other _ _ ne_k1_k2 Q1
 replace M := hS.mo _ N_k2 M
 clear hS
 refine wl_m (.tmp 33) (.bool true) ?_
 refine w_nil (xn_then (w_seq (w_seq (w_reg ?_))))
 refine wl_m (.tmp 9) (.bool true) ?_
 refine wl_un (fun v => Op.unary .not v) (.tmp 34) (.bool true) (.bool false) (fun _ => rfl) rfl (by kernel_rfl) rfl ?_
 refine w_nil (xn_then (w_condF rfl (w_skip (xn_then (w_seq ?_)))))
 refine w_any 8 [.inl (.int .i64 ((4 : Nat) : Int)), .inl (.string s), .inl (.int .i64 ((k : Nat) : Int)), .inl (.int .i64 ((e : Nat) : Int)), .inl (.string (s.extract k e)), .inl (.agg #[.int .i64 0, .bool false, .int .u64 0, .int .u64 0, .int .u64 0, .int .u64 0, .int .i64 0, .bool false, .string ⟨#[]⟩, .int .i64 0]), .inl (.int .i64 ((k : Nat) : Int)), .inl (.agg #[.int .i64 ((4 : Nat) : Int), .string (s.extract k e), .int .i64 0, .bool false, .int .u64 0, .int .u64 0, .int .u64 0, .int .u64 0, .int .i64 0, .bool false, .string ⟨#[]⟩, .int .i64 0, .int .i64 ((k : Nat) : Int)])] [] (by kernel_rfl) (by kernel_rfl) (by kernel_rfl) (by kernel_rfl) rfl (by kernel_rfl) (by kernel_rfl) late_nil ?_ ?_ ?_
 ·exact Ds.none rfl
 ·refine ea_cons ?_ (ea_cons ?_ (ea_cons ?_ (ea_cons ?_ (ea_cons ?_ (ea_cons ?_ (ea_cons ?_ (ea_cons ?_ (ea_nil))))))))
  ·exact og_eq _ rfl (fun f wf hq hd K hK => go_run rfl (wo_mv (.tmp 6) (.int .i64 ((4 : Nat) : Int)) (fun _ => rfl) rfl (hK _ (Mw.refl _))))
  ·exact og_eq _ rfl (fun f wf hq hd K hK => go_run rfl (wo_mv (.tmp 0) (.string s) (fun _ => rfl) rfl (hK _ (Mw.refl _))))
  ·exact og_eq _ rfl (fun f wf hq hd K hK => go_run rfl (wo_mv (.tmp 1) (.int .i64 ((k : Nat) : Int)) (fun _ => rfl) rfl (hK _ (Mw.refl _))))
  ·exact og_eq _ rfl (fun f wf hq hd K hK => go_run rfl (wo_mv (.tmp 7) (.int .i64 ((e : Nat) : Int)) (fun _ => rfl) rfl (hK _ (Mw.refl _))))
  ·exact og_eq _ rfl (fun f wf hq hd K hK => go_run rfl (wo_val (.string (s.extract k e)) (mid_run _ _ _ _ s (k) (e) (by exact (hd 1 rfl)) (by exact (hd 2 rfl)) (by exact (hd 3 rfl)) (by omega) (by omega) _ _ _ _ _ _) (hK _ (Mw.refl _))))
  ·exact og_eq _ rfl (fun f wf hq hd K hK => have Q2 := Q2.mo hq; go_run rfl (wo_load 35 (.tmp 8) (pt k2 0) (.agg #[.int .i64 0, .bool false, .int .u64 0, .int .u64 0, .int .u64 0, .int .u64 0, .int .i64 0, .bool false, .string ⟨#[]⟩, .int .i64 0]) rfl rfl (run_row Q2 35 0 10 _ rfl Tryd.underlying35 rfl sz35) (hK _ (Mw.refl _))))
  ·exact og_eq _ rfl (fun f wf hq hd K hK => go_run rfl (wo_mv (.tmp 1) (.int .i64 ((k : Nat) : Int)) (fun _ => rfl) rfl (hK _ (Mw.refl _))))
  ·exact og_eq _ rfl (fun f wf hq hd K hK => go_run rfl (wo_build 37 [(0, (.tmp 37)), (1, (.tmp 41)), (2, (.tmp 42)), (3, (.tmp 43))] [(0, .int .i64 ((4 : Nat) : Int)), (1, .string (s.extract k e)), (2, .agg #[.int .i64 0, .bool false, .int .u64 0, .int .u64 0, .int .u64 0, .int .u64 0, .int .i64 0, .bool false, .string ⟨#[]⟩, .int .i64 0]), (3, .int .i64 ((k : Nat) : Int))] (.agg #[.int .i64 ((4 : Nat) : Int), .string (s.extract k e), .int .i64 0, .bool false, .int .u64 0, .int .u64 0, .int .u64 0, .int .u64 0, .int .i64 0, .bool false, .string ⟨#[]⟩, .int .i64 0, .int .i64 ((k : Nat) : Int)]) rfl (lp4 (hd 0 rfl) (hd 4 rfl) (hd 5 rfl) (hd 6 rfl)) (by kernel_rfl) (hK _ (Mw.refl _))))
 intro kf6 w6 hq hR hne
 replace Q1 := Q1.mo hq
 replace Q2 := Q2.mo hq
 replace M := M.trans hq
 clear hq hR hne
 refine wl_st 37 (.tmp 4) (.tmp 44) k1 0 #[.int .i64 ((4 : Nat) : Int), .string (s.extract k e), .int .i64 0, .bool false, .int .u64 0, .int .u64 0, .int .u64 0, .int .u64 0, .int .i64 0, .bool false, .string ⟨#[]⟩, .int .i64 0, .int .i64 ((k : Nat) : Int)] _ [.int .i64 ((4 : Nat) : Int), .string (s.extract k e), .int .i64 0, .bool false, .int .u64 0, .int .u64 0, .int .u64 0, .int .u64 0, .int .i64 0, .bool false, .string ⟨#[]⟩, .int .i64 0, .int .i64 ((k : Nat) : Int)] Q1 rfl rfl rfl rfl rfl sz37 rfl rfl rfl ?_
 intro w7 hS Qn
 replace Q1 := Qn
 clear Qn
 replace Q2 := hS.other _ _ ne_k1_k2.symm Q2
 replace M := hS.mo _ N_k1 M
 clear hS
 refine wl_m (.const (.int .i64 (0))) (.int .i64 (0)) ?_
 refine w_nil (xn_then (w_ret ?_))
 exact w_ret2 _ _ (.agg #[.int .i64 ((4 : Nat) : Int), .string (s.extract k e), .int .i64 0, .bool false, .int .u64 0, .int .u64 0, .int .u64 0, .int .u64 0, .int .i64 0, .bool false, .string ⟨#[]⟩, .int .i64 0, .int .i64 ((k : Nat) : Int)]) (.int .i64 (0)) rfl ⟨k1, rfl, (run_row Q1 37 0 13 _ rfl Tryd.underlying37 rfl sz37)⟩ rfl ⟨rfl, M⟩
theorem next_4f (s : ByteArray) (k e : Nat) (w : World) (hs : s.size ≤ 140737488355328) (hk : k < s.size) (hr : rch s k = (4, e)) (hm : ∀ w, Calls Tryd.prog 28 #[.int .i64 ((4 : Nat) : Int), .string (s.extract k e)] w fun e' w' => e' = .returned (.tuple #[.agg #[.int .i64 0, .bool false, .int .u64 0, .int .u64 0, .int .u64 0, .int .u64 0, .int .i64 0, .bool false, .string ⟨#[]⟩, .int .i64 0], .bool false]) ∧ Mw w w') : Calls Tryd.prog 12 #[.string s, .int .i64 ((k : Nat) : Int)] w fun e' w' => e' = .returned (.tuple #[.agg #[.int .i64 0, .string ⟨#[]⟩, .int .i64 0, .bool false, .int .u64 0, .int .u64 0, .int .u64 0, .int .u64 0, .int .i64 0, .bool false, .string ⟨#[]⟩, .int .i64 0, .int .i64 0], .int .i64 70]) ∧ Mw w w' := by
 have hrg := rch_rg hk
 rw [hr] at hrg
 simp only at hrg
 refine w_enter 45 Tryd.func12 Tryd.ntmps12 rfl rfl ?_
 have M : Mw w w := Mw.refl _
 refine w_seq (w_reg ?_)
 refine wl_alloc 37 #[.int .i64 0, .string ⟨#[]⟩, .int .i64 0, .bool false, .int .u64 0, .int .u64 0, .int .u64 0, .int .u64 0, .int .i64 0, .bool false, .string ⟨#[]⟩, .int .i64 0, .int .i64 0] rfl (fun _ => by kernel_rfl) rfl ?_
 intro k1 w1 hk hz hq Q1
 have N_k1 : w.heap.size ≤ k1 := by have := M.size; omega
 replace M := M.trans hq
 clear hk hz hq
 refine wl_m (.const (.int .i64 (0))) (.int .i64 (0)) ?_
 refine w_nil (xn_then (w_seq (w_seq (w_reg ?_))))
 refine wl_m (.tmp 1) (.int .i64 ((k : Nat) : Int)) ?_
 refine wl_b .lss 3 (.tmp 10) (.const (.int .i64 (0))) (.int .i64 ((k : Nat) : Int)) (.int .i64 (0)) (.bool false) (lt3_run (r := false) (decide_eq_false (by omega)) _ _ _) ?_
 refine wl_m (.tmp 11) (.bool false) ?_
 refine wl_m (.tmp 1) (.int .i64 ((k : Nat) : Int)) ?_
 refine wl_m (.tmp 0) (.string s) ?_
 refine wl_val (.int .i64 ((s.size : Nat) : Int)) (len_s _ _ s (by exact rfl) _ _ _ _ _ _) rfl ?_
 refine wl_b .geq 3 (.tmp 13) (.tmp 15) (.int .i64 ((k : Nat) : Int)) (.int .i64 ((s.size : Nat) : Int)) (.bool false) (geN (decide_eq_false (by omega)) _ _ _) ?_
 refine wl_pick (.tmp 12) (.const (.bool true)) (.tmp 16) false (.bool false) (fun _ => rfl) rfl rfl rfl ?_
 refine w_nil (xn_then (w_condF rfl (w_skip (xn_then (w_seq (w_reg ?_))))))
 refine wl_m (.tmp 0) (.string s) ?_
 refine wl_m (.tmp 1) (.int .i64 ((k : Nat) : Int)) ?_
 refine wl_call 27 [(.tmp 20), (.tmp 21)] _ [.string s, .int .i64 ((k : Nat) : Int)] (.tuple #[.int .i64 ((4 : Nat) : Int), .int .i64 ((e : Nat) : Int)]) rfl rfl (fun _ _ => by kernel_rfl) (reach_c hr _ (by unfold maxLen; omega) hk) rfl ?_
 intro w2 hq
 replace Q1 := Q1.mo hq
 replace M := M.trans hq
 clear hq
 refine wl_m (.tmp 22) (.tuple #[.int .i64 ((4 : Nat) : Int), .int .i64 ((e : Nat) : Int)]) ?_
 refine wl_un (fun v => Instr.extract v 0) (.tmp 19) (.tuple #[.int .i64 ((4 : Nat) : Int), .int .i64 ((e : Nat) : Int)]) (.int .i64 ((4 : Nat) : Int)) (fun _ => rfl) rfl (by kernel_rfl) rfl ?_
 refine wl_un (fun v => Instr.extract v 1) (.tmp 19) (.tuple #[.int .i64 ((4 : Nat) : Int), .int .i64 ((e : Nat) : Int)]) (.int .i64 ((e : Nat) : Int)) (fun _ => rfl) rfl (by kernel_rfl) rfl ?_
 refine wl_m (.tmp 23) (.int .i64 ((4 : Nat) : Int)) ?_
 refine wl_m (.tmp 24) (.int .i64 ((e : Nat) : Int)) ?_
 refine w_nil (xn_then (w_seq (w_reg ?_)))
 refine wl_m (.tmp 6) (.int .i64 ((4 : Nat) : Int)) ?_
 refine wl_m (.tmp 0) (.string s) ?_
 refine wl_m (.tmp 1) (.int .i64 ((k : Nat) : Int)) ?_
 refine wl_m (.tmp 7) (.int .i64 ((e : Nat) : Int)) ?_
 refine wl_val (.string (s.extract k e)) (mid_run _ _ _ _ s (k) (e) (by exact rfl) (by exact rfl) (by exact rfl) (by omega) (by omega) _ _ _ _ _ _) rfl ?_
 refine wl_call 28 [(.tmp 26), (.tmp 30)] _ [.int .i64 ((4 : Nat) : Int), .string (s.extract k e)] (.tuple #[.agg #[.int .i64 0, .bool false, .int .u64 0, .int .u64 0, .int .u64 0, .int .u64 0, .int .i64 0, .bool false, .string ⟨#[]⟩, .int .i64 0], .bool false]) rfl rfl (fun _ _ => by kernel_rfl) (hm _) rfl ?_
 intro w3 hq
 replace Q1 := Q1.mo hq
 replace M := M.trans hq
 clear hq
 refine wl_m (.tmp 31) (.tuple #[.agg #[.int .i64 0, .bool false, .int .u64 0, .int .u64 0, .int .u64 0, .int .u64 0, .int .i64 0, .bool false, .string ⟨#[]⟩, .int .i64 0], .bool false]) ?_
 refine wl_un (fun v => Instr.extract v 0) (.tmp 25) (.tuple #[.agg #[.int .i64 0, .bool false, .int .u64 0, .int .u64 0, .int .u64 0, .int .u64 0, .int .i64 0, .bool false, .string ⟨#[]⟩, .int .i64 0], .bool false]) (.agg #[.int .i64 0, .bool false, .int .u64 0, .int .u64 0, .int .u64 0, .int .u64 0, .int .i64 0, .bool false, .string ⟨#[]⟩, .int .i64 0]) (fun _ => rfl) rfl (by kernel_rfl) rfl ?_
 refine wl_un (fun v => Instr.extract v 1) (.tmp 25) (.tuple #[.agg #[.int .i64 0, .bool false, .int .u64 0, .int .u64 0, .int .u64 0, .int .u64 0, .int .i64 0, .bool false, .string ⟨#[]⟩, .int .i64 0], .bool false]) (.bool false) (fun _ => rfl) rfl (by kernel_rfl) rfl ?_
 refine wl_alloc 35 #[.int .i64 0, .bool false, .int .u64 0, .int .u64 0, .int .u64 0, .int .u64 0, .int .i64 0, .bool false, .string ⟨#[]⟩, .int .i64 0] rfl (fun _ => by kernel_rfl) rfl ?_
 intro k2 w4 hk hz hq Q2
 have ne_k1_k2 : k1 ≠ k2 := by have := Q1.lt; omega
 have N_k2 : w.heap.size ≤ k2 := by have := M.size; omega
 replace Q1 := Q1.mo hq
 replace M := M.trans hq
 clear hk hz hq
 refine wl_st 35 (.tmp 8) (.tmp 32) k2 0 #[.int .i64 0, .bool false, .int .u64 0, .int .u64 0, .int .u64 0, .int .u64 0, .int .i64 0, .bool false, .string ⟨#[]⟩, .int .i64 0] _ [.int .i64 0, .bool false, .int .u64 0, .int .u64 0, .int .u64 0, .int .u64 0, .int .i64 0, .bool false, .string ⟨#[]⟩, .int .i64 0] Q2 rfl rfl rfl rfl rfl sz35 rfl rfl rfl ?_
 intro w5 hS Qn
 replace Q2 := Qn
 clear Qn
 replace Q1 := hS.other _ _ ne_k1_k2 Q1
 replace M := hS.mo _ N_k2 M
 clear hS
 refine wl_m (.tmp 33) (.bool false) ?_
 refine w_nil (xn_then (w_seq (w_seq (w_reg ?_))))
 refine wl_m (.tmp 9) (.bool false) ?_
 refine wl_un (fun v => Op.unary .not v) (.tmp 34) (.bool false) (.bool true) (fun _ => rfl) rfl (by kernel_rfl) rfl ?_
 refine w_nil (xn_then (w_condT rfl (w_seq (w_reg ?_))))
 refine wl_build 37 [] [] (.agg #[.int .i64 0, .string ⟨#[]⟩, .int .i64 0, .bool false, .int .u64 0, .int .u64 0, .int .u64 0, .int .u64 0, .int .i64 0, .bool false, .string ⟨#[]⟩, .int .i64 0, .int .i64 0]) rfl rfl (by kernel_rfl) rfl ?_
 refine wl_st 37 (.tmp 4) (.tmp 36) k1 0 #[.int .i64 0, .string ⟨#[]⟩, .int .i64 0, .bool false, .int .u64 0, .int .u64 0, .int .u64 0, .int .u64 0, .int .i64 0, .bool false, .string ⟨#[]⟩, .int .i64 0, .int .i64 0] _ [.int .i64 0, .string ⟨#[]⟩, .int .i64 0, .bool false, .int .u64 0, .int .u64 0, .int .u64 0, .int .u64 0, .int .i64 0, .bool false, .string ⟨#[]⟩, .int .i64 0, .int .i64 0] Q1 rfl rfl rfl rfl rfl sz37 rfl rfl rfl ?_
 intro w6 hS Qn
 replace Q1 := Qn
 clear Qn
 replace Q2 := hS.other _ _ ne_k1_k2.symm Q2
 replace M := hS.mo _ N_k1 M
 clear hS
 refine wl_m (.const (.int .i64 (70))) (.int .i64 (70)) ?_
 refine w_nil (xn_then (w_ret (xr_then ?_)))
 exact w_ret2 _ _ (.agg #[.int .i64 0, .string ⟨#[]⟩, .int .i64 0, .bool false, .int .u64 0, .int .u64 0, .int .u64 0, .int .u64 0, .int .i64 0, .bool false, .string ⟨#[]⟩, .int .i64 0, .int .i64 0]) (.int .i64 (70)) rfl ⟨k1, rfl, (run_row Q1 37 0 13 _ rfl Tryd.underlying37 rfl sz37)⟩ rfl ⟨rfl, M⟩
end Go.Proofs.YthgknegocfhdbaaDoor.V
/-
 Words put behind a slice of one's own.
-/
namespace Go.Proofs.YthgknegocfhdbaaDoor
open Go.RowKit
theorem inf37 : ∃ i, Tryd.prog.info? 37 = some i ∧ i.zero = some (.agg #[.int .i64 0, .string ⟨#[]⟩, .int .i64 0, .bool false, .int .u64 0, .int .u64 0, .int .u64 0, .int .u64 0, .int .i64 0, .bool false, .string ⟨#[]⟩, .int .i64 0, .int .i64 0]) ∧ i.size = 13 ∧ i.bytes = 120 := by
 have h : (Tryd.prog.info? 37).map (fun i => (i.zero, i.size, i.bytes)) = some (some (.agg #[.int .i64 0, .string ⟨#[]⟩, .int .i64 0, .bool false, .int .u64 0, .int .u64 0, .int .u64 0, .int .u64 0, .int .i64 0, .bool false, .string ⟨#[]⟩, .int .i64 0, .int .i64 0]), 13, 120) := by kernel_rfl
 cases hi : Tryd.prog.info? 37 with
 | none => rw [hi] at h; cases h
 | some i =>
  rw [hi] at h
  simp at h
  exact ⟨i, rfl, h.1, h.2.1, h.2.2⟩
theorem app37 (w : World) (ty : TypeId) (N : Nat) (v : Value) (n : Nat) (xs : List Value) (hown : w.ownsRow N 37 13 v n xs) (k m c : Nat) (news : List Value) (hl : news.length = m * 13) (hA : At w k news) (h1 : ∀ u ∈ news, u.oneCell' = true) (hm : 0 < m) (hn : n + m ≤ 700000000000) (hN : N ≤ w.heap.size) :
  ∃ v' w', (Builtin.append_ #[22, 22] ty #[v, .slice (some ⟨k, 0, none⟩) m c]).run Tryd.prog w = .ok v' w' ∧ w'.ownsRow N 37 13 v' (n + m) (xs ++ news) ∧ AppW v w w' ∧ (v'.ownBlock = v.ownBlock ∨ v'.ownBlock = some w.heap.size) := by
 obtain ⟨i, hi, hz, hs, hby⟩ := inf37
 have hnews : ∀ j u, news[j]? = some u → w.cell? ((⟨k, 0, none⟩ : Addr).add j) = some u := fun j u hu => by
  rw [Addr.add_mid]; have := hA.1 j u hu; simpa using this
 obtain ⟨v', w', hr, h2, h3, _, h5⟩ := run_append_own_at (P := Tryd.prog) w N 22 ty 37 i _ 13 120 Tryd.underlying22 hi hz hs hby rfl (by decide) v n xs hown ⟨k, 0, none⟩ m c news hl hnews h1 (by unfold maxLen; omega) (by omega) hN
 refine ⟨v', w', hr, h2, ⟨h3.os, h3.tape, h3.output, h3.size, fun j hj hne => h3.block j hj (fun e => hne e.symm), ?_⟩, h5⟩
 rcases hown.2 with ⟨rfl, rfl⟩ | ⟨g, cap, cur, rfl, hbg, hg, hnc, hcm, hcs, htake⟩
 ·have hr2 := run_append_nil (P := Tryd.prog) w 22 ty 37 i _ Tryd.underlying22 hi hz ⟨k, 0, none⟩ m c news (by rw [hs]; exact hl) hnews hm (by omega) (by first | omega | (rw [hby]; omega) | (rw [hby]; exact growslice_fits (n := 0) (by omega) (by omega)))
  rw [hr2] at hr
  cases hr
  exact ((Mo.refl w).drew.alloc _ _).2
 ·by_cases hroom : n + m ≤ cap
  ·have hr2 := run_append_room (P := Tryd.prog) w 22 ty 37 i Tryd.underlying22 hi g n cap cur hg ⟨k, 0, none⟩ m c news (by rw [hs]; exact hl) hnews h1 hroom (by rw [hs]; first | omega | (rw [hl]; omega) | (simp [hl]; omega))
   rw [hr2] at hr
   cases hr
   intro a
   by_cases e : a.block = g
   ·have h9 := setRow_heap w g cur (cur.toList.take (n * i.size) ++ news ++ cur.toList.drop (n * i.size + news.length)).toArray 37 (0, 0) hg
    simp only [World.frozen?, e, h9, hg]
   ·exact World.frozen?_of_block (setRow_other w g a.block _ e)
  ·have hr2 := run_append_grow (P := Tryd.prog) w 22 ty 37 i _ Tryd.underlying22 hi hz ⟨g, 0, none⟩ n cap xs (by rw [hs]; exact hown.1) (hown.cells (g := g) rfl) ⟨k, 0, none⟩ m c news (by rw [hs]; exact hl) hnews (by omega) (by omega) (by rw [hby]; exact growslice_fits (by omega) (by omega))
   rw [hr2] at hr
   cases hr
   exact ((Mo.refl w).drew.alloc _ _).2
namespace V
theorem own_mw37 {w w' : World} {N : Nat} {v : Value} {n : Nat} {xs : List Value} (h : w.ownsRow N 37 13 v n xs) (m : Mw w w') : w'.ownsRow N 37 13 v n xs :=
 h.kept (row := none) ⟨m.os, m.tape, m.output, m.size, fun k hk _ => m.block k hk⟩ (by cases e : v.ownBlock <;> simp)
section
variable {o : Oper} {n : Nat} {l : List (Nat × Value)} {w : World} {ops : Array Oper} {rest : List Oper} {Q : Exit → Act → World → Prop}
theorem wl_app37 (s x : Operand) (N : Nat) (v : Value) (q : Nat) (xs : List Value) (k m c : Nat) (news : List Value) (ho : o.op = .call { callee := .builtin .append, args := #[s, x], argTypes := #[22, 22] }) (hs : evl n l s = v) (hx : evl n l x = .slice (some ⟨k, 0, none⟩) m c)
  (hown : w.ownsRow N 37 13 v q xs) (hl : news.length = m * 13) (hA : At w k news) (h1 : ∀ u ∈ news, u.oneCell' = true) (hm : 0 < m) (hn : q + m ≤ 700000000000) (hN : N ≤ w.heap.size) (hg : wnt n l ops o = true)
  (hk : ∀ v' w', w'.ownsRow N 37 13 v' (q + m) (xs ++ news) → AppW v w w' → (v'.ownBlock = v.ownBlock ∨ v'.ownBlock = some w.heap.size) → WL Tryd.prog ops Q rest n (ext l o.dst v') w') : WL Tryd.prog ops Q (o :: rest) n l w := by
 obtain ⟨v', w', hr, h2, h3, h4⟩ := app37 w o.type N v q xs hown k m c news hl hA h1 hm hn hN
 refine ⟨l_step hg (o_val v' (w' := w') ?_ (hk v' w' h2 h3 h4).out)⟩
 unfold execOp
 simp only [ho, resolve, invoke, builtin, Sem.run_bind, Sem.run_pure, Result.andThen_ok, List.map_toArray, List.map_cons, List.map_nil, hs, hx, hr]
end
end V
end Go.Proofs.YthgknegocfhdbaaDoor
/-
 lex.Scan, out of what Next answers place by place.
-/
namespace Go.Proofs.YthgknegocfhdbaaDoor.V
open Go.RowKit
theorem blk_rg (s : ByteArray) : ∀ (d k : Nat), s.size - k ≤ d → k ≤ s.size → k ≤ blk s k ∧ blk s k ≤ s.size := by
 intro d
 induction d with
 | zero => intro k hd hk; rw [blk_end (by omega)]; omega
 | succ d ih =>
  intro k hd hk
  by_cases h : k < s.size
  ·cases h2 : isb (bt s k) with
   | true => rw [blk_b h h2]; have := ih (k + 1) (by omega) (by omega); omega
   | false =>
    cases h3 : ((bt s k == 47) && (bt s (k + 1) == 47)) with
    | true =>
     rw [blk_c h h2 h3]
     have h4 := lnx_ge' s (k + 1)
     have h5 := lnx_le' (s := s) (k := k + 1) (by omega)
     have := ih (lnx s (k + 1)) (by omega) h5
     omega
    | false => rw [blk_n h2 h3]; omega
  ·rw [blk_end h]; omega
structure St2 (k : Nat) (w w' : World) : Prop extends St k w w' where
 os : w'.os = w.os
 tape : w'.tape = w.tape
 output : w'.output = w.output
 block : ∀ j, j ≠ k → w'.heap[j]? = w.heap[j]?
theorem St2.mk2 (w : World) (k o : Nat) (l : List Value) : St2 k w (w.setCells k o l) :=
 { St.mk' w k o l with
  os := (heap_setCells k (k + 1) (by omega) l o w).2.1
  tape := (heap_setCells k (k + 1) (by omega) l o w).2.2.1
  output := (heap_setCells k (k + 1) (by omega) l o w).2.2.2
  block := fun j hj => (heap_setCells k j hj l o w).1 }
theorem own_st {w w' : World} {N k : Nat} {v : Value} {n : Nat} {xs : List Value} (m : St2 k w w') (h : w.ownsRow N 37 13 v n xs) (hne : v.ownBlock ≠ some k) : w'.ownsRow N 37 13 v n xs :=
 h.kept (row := some k) ⟨m.os, m.tape, m.output, Nat.le_of_eq m.size.symm, fun j _ hj => m.block j (fun e => hj (by rw [e]))⟩ (Or.inr hne)
theorem own_mo {w w' : World} {N : Nat} {v : Value} {n : Nat} {xs : List Value} (h : w.ownsRow N 37 13 v n xs) (m : Mw w w') : w'.ownsRow N 37 13 v n xs := own_mw37 h m
section
variable {P : Program} {o : Oper} {n : Nat} {l : List (Nat × Value)} {w : World} {ops : Array Oper} {rest : List Oper} {Q : Exit → Act → World → Prop}
theorem wl_stx (ty : TypeId) (x y : Operand) (k off : Nat) (us : Array Value) (vs vs' : List Value) (hA : At w k vs) (ho : o.op = .store ty x y) (hd : o.dst = none) (hx : evl n l x = pt k off) (hy : evl n l y = .agg us)
  (hl : Nat.ble (off + us.size) vs.length = true) (hi : (P.info? ty).map (·.size) = some us.size) (h1 : us.toList.all (·.oneCell') = true) (hvs : vs' = vs.take off ++ us.toList ++ vs.drop (off + us.toList.length)) (hg : wnt n l ops o = true)
  (hk : ∀ w', St2 k w w' → At w' k vs' → WL P ops Q rest n l w') : WL P ops Q (o :: rest) n l w :=
 ⟨l_step hg (o_store ty x y _ _ ho hd hx hy (run_put hA ty off us (Nat.le_of_ble_eq_true hl) hi (by rw [← Array.all_toList]; exact h1)) (hk _ (St2.mk2 w k off us.toList) (hA.set off us.toList (by have := Nat.le_of_ble_eq_true hl; simpa using this) vs' hvs)).out)⟩
theorem w_ret3 {fn : Func} {R : Ending → World → Prop} (x y z : Tmp) (v u t : Value) (hf : fn.results = #[.tmp x, .tmp y, .tmp z]) (h : resv n l P w v (.tmp x)) (g : resv n l P w u (.tmp y)) (k : resv n l P w t (.tmp z)) (hR : R (.returned (.tuple #[v, u, t])) w) : WX (bodyPost P fn R) .ret n l w := by
 refine ⟨bodyPost_ret (v := .tuple #[v, u, t]) ?_ rfl hR⟩
 have h1 := resv_tmp h
 have g1 := resv_tmp g
 have k1 := resv_tmp k
 simp [results, hf, h1, g1, k1]
end
inductive Sc (s : ByteArray) : Nat → List (List Value) → Nat → Int → Prop
 | done {k : Nat} (h : ¬ k < s.size) : Sc s k [] 0 0
 | err {k : Nat} (h : k < s.size) (hn : ∀ w, Calls Tryd.prog 12 #[.string s, .int .i64 ((k : Nat) : Int)] w fun e' w' => e' = .returned (.tuple #[.agg #[.int .i64 0, .string ⟨#[]⟩, .int .i64 0, .bool false, .int .u64 0, .int .u64 0, .int .u64 0, .int .u64 0, .int .i64 0, .bool false, .string ⟨#[]⟩, .int .i64 0, .int .i64 0], .int .i64 70]) ∧ Mw w w') : Sc s k [] k 70
 | tok {k e K : Nat} {v0 v1 v2 v3 v4 v5 v6 v7 v8 v9 : Value} {L : List (List Value)} {p : Nat} {E : Int} (h : k < s.size) (hke : k < e) (hes : e ≤ s.size) (hoc : ([.int .i64 ((K : Nat) : Int), .string (s.extract k e), v0, v1, v2, v3, v4, v5, v6, v7, v8, v9, .int .i64 ((k : Nat) : Int)] : List Value).all (·.oneCell') = true)
   (hn : ∀ w, Calls Tryd.prog 12 #[.string s, .int .i64 ((k : Nat) : Int)] w fun e' w' => e' = .returned (.tuple #[.agg #[.int .i64 ((K : Nat) : Int), .string (s.extract k e), v0, v1, v2, v3, v4, v5, v6, v7, v8, v9, .int .i64 ((k : Nat) : Int)], .int .i64 0]) ∧ Mw w w') (hr : Sc s (blk s e) L p E) : Sc s k ([.int .i64 ((K : Nat) : Int), .string (s.extract k e), v0, v1, v2, v3, v4, v5, v6, v7, v8, v9, .int .i64 ((k : Nat) : Int)] :: L) p E
theorem AppW.mw {v : Value} {a b c : World} (h : AppW v b c) (hM : Mw a b) (hn : ∀ k, v.ownBlock = some k → a.heap.size ≤ k) : Mw a c :=
 ⟨h.os.trans hM.os, h.tape.trans hM.tape, h.output.trans hM.output, Nat.le_trans hM.size h.size, fun k hk => (h.block k (Nat.lt_of_lt_of_le hk hM.size) (fun e => by have := hn k e; omega)).trans (hM.block k hk)⟩
theorem bs22 (c0 c1 c2 c3 c4 c5 c6 c7 c8 c9 c10 c11 c12 : Value) (w : World) : (Instr.buildSlice 22 1 #[(0, .agg #[c0, c1, c2, c3, c4, c5, c6, c7, c8, c9, c10, c11, c12])]).run Tryd.prog w = .ok (.slice (some ⟨w.heap.size, 0, none⟩) 1 1) (w.alloc (.cells #[c0, c1, c2, c3, c4, c5, c6, c7, c8, c9, c10, c11, c12] 37)) := by kernel_rfl
section
variable {o : Oper} {n : Nat} {l : List (Nat × Value)} {w : World} {ops : Array Oper} {rest : List Oper} {Q : Exit → Act → World → Prop}
theorem wl_bs22 (x : Operand) (c0 c1 c2 c3 c4 c5 c6 c7 c8 c9 c10 c11 c12 : Value) (ho : o.op = .buildSlice 22 1 #[(0, x)]) (hx : evl n l x = .agg #[c0, c1, c2, c3, c4, c5, c6, c7, c8, c9, c10, c11, c12]) (hg : wnt n l ops o = true)
  (hk : ∀ k w', w.heap.size = k → w'.heap.size = k + 1 → Mw w w' → At w' k [c0, c1, c2, c3, c4, c5, c6, c7, c8, c9, c10, c11, c12] → WL Tryd.prog ops Q rest n (ext l o.dst (.slice (some ⟨k, 0, none⟩) 1 1)) w') : WL Tryd.prog ops Q (o :: rest) n l w :=
 ⟨l_step hg (o_val (.slice (some ⟨w.heap.size, 0, none⟩) 1 1) (w' := w.alloc (.cells #[c0, c1, c2, c3, c4, c5, c6, c7, c8, c9, c10, c11, c12] 37)) (by
  have h := bs22 c0 c1 c2 c3 c4 c5 c6 c7 c8 c9 c10 c11 c12 w
  simp [execOp, ho, hx, h]) (hk _ _ rfl (by simp) ((Mw.refl _).alloc _ _) (At.new w #[c0, c1, c2, c3, c4, c5, c6, c7, c8, c9, c10, c11, c12] 37)).out)⟩
end
theorem len_e {t : ByteArray} {m : Nat} (ht : t.size = m) (ρ : Operand → Value) (x : Operand) (hx : ρ x = .string t) (dst : Option Tmp) (type : TypeId) (pos : String) (after : Array Edge) (guard : Option (Nat × Bool)) (w : World) : (execOp ρ { dst, op := .call { callee := .builtin .len, args := #[x], argTypes := #[9] }, type, pos, after, guard }).run Tryd.prog w = .ok (.value (.int .i64 (m : Int))) w := by
 subst ht; exact len_z _ _ _ hx _ _ _ _ _ _
theorem ne23 {a b : Int} {r : Bool} (h : (a == b) = r) (x y : Operand) (w : World) : (do eqGuard .neq 23 x y (.int .i64 a) (.int .i64 b); binOp .neq 23 (.int .i64 a) (.int .i64 b)).run Tryd.prog w = .ok (.bool (!r)) w := by
 subst h; kernel_rfl
theorem scan_n (s : ByteArray) (L : List (List Value)) (p : Nat) (E : Int) (w : World) (hS0 : Sc s (blk s 0) L p E) (hlong : decide (16384 < s.size) = false) : Calls Tryd.prog 8 #[.string s] w fun e' w' => ∃ v, e' = .returned (.tuple #[v, .int .i64 ((p : Nat) : Int), .int .i64 E]) ∧ (E = 0 → w'.ownsRow w.heap.size 37 13 v L.length L.flatten) ∧ (E ≠ 0 → v = .slice none 0 0) ∧ Mw w w' := by
 have hlp := of_decide_eq_false hlong
 refine w_enter 40 Tryd.func8 Tryd.ntmps8 rfl rfl ?_
 have M : Mw w w := Mw.refl _
 refine w_seq (w_reg ?_)
 refine wl_m (.const (.slice none 0 0)) (.slice none 0 0) ?_
 refine wl_m (.const (.int .i64 (0))) (.int .i64 (0)) ?_
 refine wl_m (.const (.int .i64 (0))) (.int .i64 (0)) ?_
 refine w_nil (xn_then (w_seq (w_seq (w_reg ?_))))
 refine wl_m (.tmp 0) (.string s) ?_
 refine wl_val (.int .i64 ((s.size : Nat) : Int)) (len_s _ _ s (by exact rfl) _ _ _ _ _ _) rfl ?_
 refine wl_b .gtr 3 (.tmp 10) (.const (.int .i64 (16384))) (.int .i64 ((s.size : Nat) : Int)) (.int .i64 (16384)) (.bool false) (gtN hlong _ _ _) ?_
 refine w_nil (xn_then (w_condF rfl (w_skip (xn_then (w_seq (w_reg ?_))))))
 refine wl_m (.const (.slice none 0 0)) (.slice none 0 0) ?_
 refine w_nil (xn_then (w_seq (w_seq (w_reg ?_))))
 refine wl_m (.tmp 0) (.string s) ?_
 refine wl_call 14 [(.tmp 12), (.const (.int .i64 (0)))] _ [.string s, .int .i64 (0)] (.int .i64 ((blk s 0 : Nat) : Int)) rfl rfl (fun _ _ => by kernel_rfl) (wk (blank_n s 0 _ (by unfold maxLen; omega) (by omega))) rfl ?_
 intro w1 hq
 replace M := M.trans hq
 clear hq
 refine wl_m (.tmp 13) (.int .i64 ((blk s 0 : Nat) : Int)) ?_
 refine w_nil (xn_then (w_block ?_))
 refine w_loop (fun m l w1 => ∃ (k : Nat) (D R : List (List Value)) (v : Value), m = s.size + 1 - k ∧ look l 0 = .string s ∧ look l 5 = v ∧ look l 6 = .int .i64 ((k : Nat) : Int) ∧ k ≤ s.size ∧ D.length ≤ k ∧ w1.ownsRow w.heap.size 37 13 v D.length D.flatten ∧ Sc s k R p E ∧ (E = 0 → L = D ++ R) ∧ Mw w w1) _ ⟨blk s 0, [], L, .slice none 0 0, rfl, rfl, rfl, rfl, (blk_rg s _ 0 (Nat.le_refl _) (by omega)).2, Nat.zero_le _, ⟨rfl, .inl ⟨rfl, rfl⟩⟩, hS0, fun _ => rfl, M⟩ ?_
 clear M
 rintro m l wl ⟨k, D, R, v, rfl, e0, e5, e6, hk, hDk, hown, hSc, hLD, M⟩
 cases hSc with
 | done h =>
  have hkd := decide_eq_false h
  refine w_seq (w_seq (w_reg ?_))
  refine wl_mv (.tmp 6) (.int .i64 ((k : Nat) : Int)) (fun _ => rfl) e6 rfl ?_
  refine wl_mv (.tmp 0) (.string s) (fun _ => rfl) e0 rfl ?_
  refine wl_val (.int .i64 ((s.size : Nat) : Int)) (len_s _ _ s (by exact rfl) _ _ _ _ _ _) rfl ?_
  refine wl_b .lss 3 (.tmp 14) (.tmp 16) (.int .i64 ((k : Nat) : Int)) (.int .i64 ((s.size : Nat) : Int)) (.bool false) (ltN hkd _ _ _) ?_
  refine w_nil (xn_then (w_condF rfl (w_exit (xx_then (xx_then (xx_blk (xn_then (w_seq (w_reg ?_)))))))))
  refine wl_mv (.tmp 5) (v) (fun _ => rfl) e5 rfl ?_
  refine wl_m (.tmp 39) (v) ?_
  refine wl_m (.const (.int .i64 (0))) (.int .i64 (0)) ?_
  refine wl_m (.const (.int .i64 (0))) (.int .i64 (0)) ?_
  refine w_nil (xn_then (w_ret ?_))
  exact w_ret3 _ _ _ (v) (.int .i64 (0)) (.int .i64 (0)) rfl rfl rfl rfl ⟨v, rfl, fun _ => by rw [hLD rfl, List.append_nil]; exact hown, fun h => absurd rfl h, M⟩
 | err h hn =>
  have hkd := decide_eq_true h
  refine w_seq (w_seq (w_reg ?_))
  refine wl_mv (.tmp 6) (.int .i64 ((p : Nat) : Int)) (fun _ => rfl) e6 rfl ?_
  refine wl_mv (.tmp 0) (.string s) (fun _ => rfl) e0 rfl ?_
  refine wl_val (.int .i64 ((s.size : Nat) : Int)) (len_s _ _ s (by exact rfl) _ _ _ _ _ _) rfl ?_
  refine wl_b .lss 3 (.tmp 14) (.tmp 16) (.int .i64 ((p : Nat) : Int)) (.int .i64 ((s.size : Nat) : Int)) (.bool true) (ltN hkd _ _ _) ?_
  refine w_nil (xn_then (w_condT rfl (w_skip (xn_then (w_block (w_seq (w_reg ?_)))))))
  refine wl_mv (.tmp 0) (.string s) (fun _ => rfl) e0 rfl ?_
  refine wl_mv (.tmp 6) (.int .i64 ((p : Nat) : Int)) (fun _ => rfl) e6 rfl ?_
  refine wl_call 12 [(.tmp 19), (.tmp 20)] _ [.string s, .int .i64 ((p : Nat) : Int)] (.tuple #[.agg #[.int .i64 0, .string ⟨#[]⟩, .int .i64 0, .bool false, .int .u64 0, .int .u64 0, .int .u64 0, .int .u64 0, .int .i64 0, .bool false, .string ⟨#[]⟩, .int .i64 0, .int .i64 0], .int .i64 (70)]) rfl rfl (fun _ _ => by kernel_rfl) (hn _) rfl ?_
  intro w11 hq
  replace hown := own_mo hown hq
  replace M := M.trans hq
  clear hq
  refine wl_m (.tmp 21) (.tuple #[.agg #[.int .i64 0, .string ⟨#[]⟩, .int .i64 0, .bool false, .int .u64 0, .int .u64 0, .int .u64 0, .int .u64 0, .int .i64 0, .bool false, .string ⟨#[]⟩, .int .i64 0, .int .i64 0], .int .i64 (70)]) ?_
  refine wl_un (fun v => Instr.extract v 0) (.tmp 18) (.tuple #[.agg #[.int .i64 0, .string ⟨#[]⟩, .int .i64 0, .bool false, .int .u64 0, .int .u64 0, .int .u64 0, .int .u64 0, .int .i64 0, .bool false, .string ⟨#[]⟩, .int .i64 0, .int .i64 0], .int .i64 (70)]) (.agg #[.int .i64 0, .string ⟨#[]⟩, .int .i64 0, .bool false, .int .u64 0, .int .u64 0, .int .u64 0, .int .u64 0, .int .i64 0, .bool false, .string ⟨#[]⟩, .int .i64 0, .int .i64 0]) (fun _ => rfl) rfl (by kernel_rfl) rfl ?_
  refine wl_un (fun v => Instr.extract v 1) (.tmp 18) (.tuple #[.agg #[.int .i64 0, .string ⟨#[]⟩, .int .i64 0, .bool false, .int .u64 0, .int .u64 0, .int .u64 0, .int .u64 0, .int .i64 0, .bool false, .string ⟨#[]⟩, .int .i64 0, .int .i64 0], .int .i64 (70)]) (.int .i64 (70)) (fun _ => rfl) rfl (by kernel_rfl) rfl ?_
  refine wl_alloc 37 #[.int .i64 0, .string ⟨#[]⟩, .int .i64 0, .bool false, .int .u64 0, .int .u64 0, .int .u64 0, .int .u64 0, .int .i64 0, .bool false, .string ⟨#[]⟩, .int .i64 0, .int .i64 0] rfl (fun _ => by kernel_rfl) rfl ?_
  intro k1 w12 hk hz hq Q1
  have on_k1 : v.ownBlock ≠ some k1 := fun e => by have := (hown.lt _ e).2; omega
  have N_k1 : w.heap.size ≤ k1 := by have := M.size; omega
  replace hown := own_mo hown hq
  replace M := M.trans hq
  clear hk hz hq
  refine wl_stx 37 (.tmp 7) (.tmp 22) k1 0 #[.int .i64 0, .string ⟨#[]⟩, .int .i64 0, .bool false, .int .u64 0, .int .u64 0, .int .u64 0, .int .u64 0, .int .i64 0, .bool false, .string ⟨#[]⟩, .int .i64 0, .int .i64 0] _ [.int .i64 0, .string ⟨#[]⟩, .int .i64 0, .bool false, .int .u64 0, .int .u64 0, .int .u64 0, .int .u64 0, .int .i64 0, .bool false, .string ⟨#[]⟩, .int .i64 0, .int .i64 0] Q1 rfl rfl rfl rfl rfl sz37 rfl rfl rfl ?_
  intro w13 hS Qn
  replace Q1 := Qn
  clear Qn
  replace hown := own_st hS hown on_k1
  replace M := hS.mo _ N_k1 M
  clear hS
  refine wl_m (.tmp 23) (.int .i64 (70)) ?_
  refine w_nil (xn_then (w_seq (w_seq (w_reg ?_))))
  refine wl_m (.tmp 8) (.int .i64 (70)) ?_
  refine wl_b .neq 23 (.tmp 24) (.const (.int .i64 (0))) (.int .i64 (70)) (.int .i64 (0)) (.bool true) (by kernel_rfl) ?_
  refine w_nil (xn_then (w_condT rfl (w_seq (w_reg ?_))))
  refine wl_mv (.tmp 6) (.int .i64 ((p : Nat) : Int)) (fun _ => rfl) e6 rfl ?_
  refine wl_m (.tmp 8) (.int .i64 (70)) ?_
  refine wl_m (.const (.slice none 0 0)) (.slice none 0 0) ?_
  refine wl_m (.tmp 26) (.int .i64 ((p : Nat) : Int)) ?_
  refine wl_m (.tmp 27) (.int .i64 (70)) ?_
  refine w_nil (xn_then (w_ret (xr_then (xr_blk (xr_then (xr_blk (xr_then ?_)))))))
  exact w_ret3 _ _ _ (.slice none 0 0) (.int .i64 ((p : Nat) : Int)) (.int .i64 (70)) rfl rfl rfl rfl ⟨_, rfl, (fun h => by cases h), fun _ => rfl, M⟩
 | @tok _ e K v0 v1 v2 v3 v4 v5 v6 v7 v8 v9 R9 _ _ h hke hes hoc hn hr =>
  have hkd := decide_eq_true h
  have hsz : (s.extract k e).size = e - k := by rw [ByteArray.size_extract, Nat.min_eq_left hes]
  refine w_seq (w_seq (w_reg ?_))
  refine wl_mv (.tmp 6) (.int .i64 ((k : Nat) : Int)) (fun _ => rfl) e6 rfl ?_
  refine wl_mv (.tmp 0) (.string s) (fun _ => rfl) e0 rfl ?_
  refine wl_val (.int .i64 ((s.size : Nat) : Int)) (len_s _ _ s (by exact rfl) _ _ _ _ _ _) rfl ?_
  refine wl_b .lss 3 (.tmp 14) (.tmp 16) (.int .i64 ((k : Nat) : Int)) (.int .i64 ((s.size : Nat) : Int)) (.bool true) (ltN hkd _ _ _) ?_
  refine w_nil (xn_then (w_condT rfl (w_skip (xn_then (w_block (w_seq (w_reg ?_)))))))
  refine wl_mv (.tmp 0) (.string s) (fun _ => rfl) e0 rfl ?_
  refine wl_mv (.tmp 6) (.int .i64 ((k : Nat) : Int)) (fun _ => rfl) e6 rfl ?_
  refine wl_call 12 [(.tmp 19), (.tmp 20)] _ [.string s, .int .i64 ((k : Nat) : Int)] (.tuple #[.agg #[.int .i64 ((K : Nat) : Int), .string (s.extract k e), v0, v1, v2, v3, v4, v5, v6, v7, v8, v9, .int .i64 ((k : Nat) : Int)], .int .i64 (0)]) rfl rfl (fun _ _ => by kernel_rfl) (hn _) rfl ?_
  intro w11 hq
  replace hown := own_mo hown hq
  replace M := M.trans hq
  clear hq
  refine wl_m (.tmp 21) (.tuple #[.agg #[.int .i64 ((K : Nat) : Int), .string (s.extract k e), v0, v1, v2, v3, v4, v5, v6, v7, v8, v9, .int .i64 ((k : Nat) : Int)], .int .i64 (0)]) ?_
  refine wl_un (fun v => Instr.extract v 0) (.tmp 18) (.tuple #[.agg #[.int .i64 ((K : Nat) : Int), .string (s.extract k e), v0, v1, v2, v3, v4, v5, v6, v7, v8, v9, .int .i64 ((k : Nat) : Int)], .int .i64 (0)]) (.agg #[.int .i64 ((K : Nat) : Int), .string (s.extract k e), v0, v1, v2, v3, v4, v5, v6, v7, v8, v9, .int .i64 ((k : Nat) : Int)]) (fun _ => rfl) rfl (by kernel_rfl) rfl ?_
  refine wl_un (fun v => Instr.extract v 1) (.tmp 18) (.tuple #[.agg #[.int .i64 ((K : Nat) : Int), .string (s.extract k e), v0, v1, v2, v3, v4, v5, v6, v7, v8, v9, .int .i64 ((k : Nat) : Int)], .int .i64 (0)]) (.int .i64 (0)) (fun _ => rfl) rfl (by kernel_rfl) rfl ?_
  refine wl_alloc 37 #[.int .i64 0, .string ⟨#[]⟩, .int .i64 0, .bool false, .int .u64 0, .int .u64 0, .int .u64 0, .int .u64 0, .int .i64 0, .bool false, .string ⟨#[]⟩, .int .i64 0, .int .i64 0] rfl (fun _ => by kernel_rfl) rfl ?_
  intro k1 w12 hk hz hq Q1
  have on_k1 : v.ownBlock ≠ some k1 := fun e => by have := (hown.lt _ e).2; omega
  have N_k1 : w.heap.size ≤ k1 := by have := M.size; omega
  replace hown := own_mo hown hq
  replace M := M.trans hq
  clear hk hz hq
  refine wl_stx 37 (.tmp 7) (.tmp 22) k1 0 #[.int .i64 ((K : Nat) : Int), .string (s.extract k e), v0, v1, v2, v3, v4, v5, v6, v7, v8, v9, .int .i64 ((k : Nat) : Int)] _ [.int .i64 ((K : Nat) : Int), .string (s.extract k e), v0, v1, v2, v3, v4, v5, v6, v7, v8, v9, .int .i64 ((k : Nat) : Int)] Q1 rfl rfl rfl rfl rfl sz37 hoc rfl rfl ?_
  intro w13 hS Qn
  replace Q1 := Qn
  clear Qn
  replace hown := own_st hS hown on_k1
  replace M := hS.mo _ N_k1 M
  clear hS
  refine wl_m (.tmp 23) (.int .i64 (0)) ?_
  refine w_nil (xn_then (w_seq (w_seq (w_reg ?_))))
  refine wl_m (.tmp 8) (.int .i64 (0)) ?_
  refine wl_b .neq 23 (.tmp 24) (.const (.int .i64 (0))) (.int .i64 (0)) (.int .i64 (0)) (.bool false) (by kernel_rfl) ?_
  refine w_nil (xn_then (w_condF rfl (w_skip (xn_then (w_seq (w_reg ?_))))))
  refine wl_mv (.tmp 5) (v) (fun _ => rfl) e5 rfl ?_
  refine wl_l 37 (.tmp 7) (pt k1 0) (.agg #[.int .i64 ((K : Nat) : Int), .string (s.extract k e), v0, v1, v2, v3, v4, v5, v6, v7, v8, v9, .int .i64 ((k : Nat) : Int)]) (run_row Q1 37 0 13 _ rfl Tryd.underlying37 rfl sz37) ?_
  refine wl_bs22 (.tmp 29) (.int .i64 ((K : Nat) : Int)) (.string (s.extract k e)) (v0) (v1) (v2) (v3) (v4) (v5) (v6) (v7) (v8) (v9) (.int .i64 ((k : Nat) : Int)) rfl rfl rfl ?_
  intro kn w14 hkn hzn hq QN
  replace hown := own_mo hown hq
  replace Q1 := Q1.mo hq
  replace M := M.trans hq
  clear hq
  refine wl_app37 (.tmp 28) (.tmp 30) w.heap.size v D.length D.flatten kn 1 1 [.int .i64 ((K : Nat) : Int), .string (s.extract k e), v0, v1, v2, v3, v4, v5, v6, v7, v8, v9, .int .i64 ((k : Nat) : Int)] rfl rfl rfl hown rfl QN (fun u hu => by have := List.all_eq_true.1 hoc u hu; exact this) (by decide) (by omega) (by have := M.size; omega) rfl ?_
  intro va9 w15 hO9 hA9 hb9
  replace Q1 : At w15 k1 [.int .i64 ((K : Nat) : Int), .string (s.extract k e), v0, v1, v2, v3, v4, v5, v6, v7, v8, v9, .int .i64 ((k : Nat) : Int)] := AppW.at hA9 Q1 on_k1
  replace M := AppW.mw hA9 M (fun j e => (hown.lt j e).1)
  replace hown := hO9
  refine wl_m (.tmp 31) (va9) ?_
  refine w_nil (xn_then (w_reg ?_))
  refine wl_mv (.tmp 0) (.string s) (fun _ => rfl) e0 rfl ?_
  refine wl_mv (.tmp 6) (.int .i64 ((k : Nat) : Int)) (fun _ => rfl) e6 rfl ?_
  refine wl_f 37 1 (.tmp 7) (pt k1 0) (pt k1 1) ?_
  refine wl_l 9 (.tmp 34) (pt k1 1) (.string (s.extract k e)) (run_one Q1 9 1 rfl Tryd.underlying9 rfl) ?_
  refine wl_val (.int .i64 ((e - k : Nat) : Int)) (len_e hsz _ _ (by exact rfl) _ _ _ _ _ _) rfl ?_
  refine wl_b .add 3 (.tmp 33) (.tmp 36) (.int .i64 ((k : Nat) : Int)) (.int .i64 ((e - k : Nat) : Int)) (.int .i64 ((e : Nat) : Int)) (addk (by omega) (by omega) _ _ _) ?_
  refine wl_call 14 [(.tmp 32), (.tmp 37)] _ [.string s, .int .i64 ((e : Nat) : Int)] (.int .i64 ((blk s e : Nat) : Int)) rfl rfl (fun _ _ => by kernel_rfl) (wk (blank_n s e _ (by unfold maxLen; omega) (by omega))) rfl ?_
  intro w16 hq
  replace hown := own_mo hown hq
  replace Q1 := Q1.mo hq
  replace M := M.trans hq
  clear hq
  refine wl_m (.tmp 38) (.int .i64 ((blk s e : Nat) : Int)) ?_
  refine w_nil (xn_blk ?_)
  exact xn_loop (s.size + 1 - blk s e) (by have := blk_rg s _ e (Nat.le_refl _) hes; omega) ⟨blk s e, D ++ [_], R9, va9, rfl, e0, rfl, rfl, (blk_rg s _ e (Nat.le_refl _) hes).2, by have := blk_rg s _ e (Nat.le_refl _) hes; rw [List.length_append]; simp only [List.length_singleton]; omega, by rw [List.length_append, List.flatten_append]; simpa using hown, hr, fun hE => by rw [hLD hE, List.append_assoc]; rfl, M⟩
end Go.Proofs.YthgknegocfhdbaaDoor.V
/-
 Texts in quotes, over lists: what Quote writes, what Unquote takes out, and that each is the other's way back.
-/
namespace Go.Proofs.YthgknegocfhdbaaDoor.V
open Go.RowKit
theorem sz_l (l : List UInt8) : (⟨l.toArray⟩ : ByteArray).size = l.length := by simp [ByteArray.size]
theorem ba_eta (s : ByteArray) : (⟨(by8 s).toArray⟩ : ByteArray) = s := by cases s; simp [by8]
def hx (n : Nat) : UInt8 := if n < 10 then (48 + n).toUInt8 else (87 + n).toUInt8
theorem u8_ne {c : UInt8} {k : Nat} (hk : k < 256) (h : c ≠ k.toUInt8) : ((c.toNat : Nat) : Int) ≠ (k : Int) := by
 intro e
 refine h (UInt8.toNat_inj.1 ?_)
 have : c.toNat = k := by omega
 rw [this, Nat.toUInt8, UInt8.toNat_ofNat']; omega
theorem u8_eq {c : UInt8} {k : Nat} (hk : k < 256) : ((c.toNat : Nat) : Int) = (k : Int) ↔ c = k.toUInt8 := by
 constructor
 ·intro h; exact Decidable.byContradiction fun e => u8_ne hk e h
 ·rintro rfl
  rw [Nat.toUInt8, UInt8.toNat_ofNat']; omega
end Go.Proofs.YthgknegocfhdbaaDoor.V
/-
 Bytes put behind a slice of one's own: some at once.
-/
namespace Go.Proofs.YthgknegocfhdbaaDoor
open Go.RowKit
theorem app62 (w : World) (ty : TypeId) (N : Nat) (v : Value) (n : Nat) (xs : List Value) (hown : w.ownsRow N 5 1 v n xs) (k m c : Nat) (news : List Value) (hl : news.length = m * 1) (hA : At w k news) (h1 : ∀ u ∈ news, u.oneCell' = true) (hm : 0 < m) (hn : n + m ≤ 70000000000000) (hN : N ≤ w.heap.size) :
  ∃ v' w', (Builtin.append_ #[62, 62] ty #[v, .slice (some ⟨k, 0, none⟩) m c]).run Tryd.prog w = .ok v' w' ∧ w'.ownsRow N 5 1 v' (n + m) (xs ++ news) ∧ AppW v w w' ∧ (v'.ownBlock = v.ownBlock ∨ v'.ownBlock = some w.heap.size) := by
 obtain ⟨i, hi, hz, hs, hby⟩ := inf5
 have hnews : ∀ j u, news[j]? = some u → w.cell? ((⟨k, 0, none⟩ : Addr).add j) = some u := fun j u hu => by
  rw [Addr.add_mid]; have := hA.1 j u hu; simpa using this
 obtain ⟨v', w', hr, h2, h3, _, h5⟩ := run_append_own_at (P := Tryd.prog) w N 62 ty 5 i _ 1 1 Tryd.underlying62 hi hz hs hby rfl (by decide) v n xs hown ⟨k, 0, none⟩ m c news hl hnews h1 (by unfold maxLen; omega) (by omega) hN
 refine ⟨v', w', hr, h2, ⟨h3.os, h3.tape, h3.output, h3.size, fun j hj hne => h3.block j hj (fun e => hne e.symm), ?_⟩, h5⟩
 rcases hown.2 with ⟨rfl, rfl⟩ | ⟨g, cap, cur, rfl, hbg, hg, hnc, hcm, hcs, htake⟩
 ·have hr2 := run_append_nil (P := Tryd.prog) w 62 ty 5 i _ Tryd.underlying62 hi hz ⟨k, 0, none⟩ m c news (by rw [hs]; exact hl) hnews hm (by omega) (by first | omega | (rw [hby]; omega) | (rw [hby]; exact growslice_fits (n := 0) (by omega) (by omega)))
  rw [hr2] at hr
  cases hr
  exact ((Mo.refl w).drew.alloc _ _).2
 ·by_cases hroom : n + m ≤ cap
  ·have hr2 := run_append_room (P := Tryd.prog) w 62 ty 5 i Tryd.underlying62 hi g n cap cur hg ⟨k, 0, none⟩ m c news (by rw [hs]; exact hl) hnews h1 hroom (by rw [hs]; first | omega | (rw [hl]; omega) | (simp [hl]; omega))
   rw [hr2] at hr
   cases hr
   intro a
   by_cases e : a.block = g
   ·have h9 := setRow_heap w g cur (cur.toList.take (n * i.size) ++ news ++ cur.toList.drop (n * i.size + news.length)).toArray 5 (0, 0) hg
    simp only [World.frozen?, e, h9, hg]
   ·exact World.frozen?_of_block (setRow_other w g a.block _ e)
  ·have hr2 := run_append_grow (P := Tryd.prog) w 62 ty 5 i _ Tryd.underlying62 hi hz ⟨g, 0, none⟩ n cap xs (by rw [hs]; exact hown.1) (hown.cells (g := g) rfl) ⟨k, 0, none⟩ m c news (by rw [hs]; exact hl) hnews (by omega) (by omega) (by rw [hby]; exact growslice_fits (by omega) (by omega))
   rw [hr2] at hr
   cases hr
   exact ((Mo.refl w).drew.alloc _ _).2
namespace V
theorem own_mw5 {w w' : World} {N : Nat} {v : Value} {n : Nat} {xs : List Value} (h : w.ownsRow N 5 1 v n xs) (m : Mw w w') : w'.ownsRow N 5 1 v n xs :=
 h.kept (row := none) ⟨m.os, m.tape, m.output, m.size, fun k hk _ => m.block k hk⟩ (by cases e : v.ownBlock <;> simp)
section
variable {o : Oper} {n : Nat} {l : List (Nat × Value)} {w : World} {ops : Array Oper} {rest : List Oper} {Q : Exit → Act → World → Prop}
theorem wl_app62 (s x : Operand) (N : Nat) (v : Value) (q : Nat) (xs : List Value) (k m c : Nat) (news : List Value) (ho : o.op = .call { callee := .builtin .append, args := #[s, x], argTypes := #[62, 62] }) (hs : evl n l s = v) (hx : evl n l x = .slice (some ⟨k, 0, none⟩) m c)
  (hown : w.ownsRow N 5 1 v q xs) (hl : news.length = m * 1) (hA : At w k news) (h1 : ∀ u ∈ news, u.oneCell' = true) (hm : 0 < m) (hn : q + m ≤ 70000000000000) (hN : N ≤ w.heap.size) (hg : wnt n l ops o = true)
  (hk : ∀ v' w', w'.ownsRow N 5 1 v' (q + m) (xs ++ news) → AppW v w w' → (v'.ownBlock = v.ownBlock ∨ v'.ownBlock = some w.heap.size) → WL Tryd.prog ops Q rest n (ext l o.dst v') w') : WL Tryd.prog ops Q (o :: rest) n l w := by
 obtain ⟨v', w', hr, h2, h3, h4⟩ := app62 w o.type N v q xs hown k m c news hl hA h1 hm hn hN
 refine ⟨l_step hg (o_val v' (w' := w') ?_ (hk v' w' h2 h3 h4).out)⟩
 unfold execOp
 simp only [ho, resolve, invoke, builtin, Sem.run_bind, Sem.run_pure, Result.andThen_ok, List.map_toArray, List.map_cons, List.map_nil, hs, hx, hr]
end
def OB (N : Nat) (v : Value) (L : List UInt8) (w : World) : Prop := w.ownsRow N 5 1 v L.length (Lib.byteCells L)
theorem OB.mw {N : Nat} {v : Value} {L : List UInt8} {w w' : World} (h : OB N v L w) (m : Mw w w') : OB N v L w' := own_mw5 h m
theorem OB.nil (N : Nat) (w : World) : OB N (.slice none 0 0) [] w := ⟨rfl, .inl ⟨rfl, rfl⟩⟩
theorem u8c {c : Int} (h : 0 ≤ c ∧ c ≤ 255) : (Value.int .u8 c) = .int .u8 ((c.toNat.toUInt8).toNat : Nat) := by
 have e : ((c.toNat.toUInt8).toNat : Int) = c := by
  rw [Nat.toUInt8, UInt8.toNat_ofNat']
  omega
 rw [e]
theorem fold_push : ∀ (L : List UInt8) (acc : ByteArray), List.foldl (fun r (n : Int) => r.push (UInt8.ofNat n.toNat)) acc (L.map (fun b => (b.toNat : Int))) = ⟨(acc.data.toList ++ L).toArray⟩
 | [], acc => by cases acc; simp
 | c :: L, acc => by
  rw [List.map_cons, List.foldl_cons, fold_push L]
  simp [ByteArray.push]
theorem str_own {w : World} {N : Nat} {v : Value} {L : List UInt8} (h : OB N v L w) : (convert 62 9 v).run Tryd.prog w = .ok (.string ⟨L.toArray⟩) w := by
 rcases h.2 with ⟨rfl, h0⟩ | ⟨g, cap, cur, rfl, hbg, hg, hnc, hcm, hcs, htake⟩
 ·have : L = [] := List.length_eq_zero_iff.1 h0
  subst this
  rw [run_convert_bytes_string w 62 9 5 _ _ _ Tryd.underlying62 Tryd.underlying5 Tryd.underlying9]
  rfl
 ·have hA := h.cells (g := g) rfl
  rw [run_convert_bytes_string w 62 9 5 _ _ _ Tryd.underlying62 Tryd.underlying5 Tryd.underlying9, run_bytesToString w _ _ _ (L.map (fun b => (b.toNat : Int)))]
  ·rw [fold_push]; rfl
  ·have := run_loadCells_list (P := Tryd.prog) w ⟨g, 0, none⟩ (Lib.byteCells L) (fun j v hv => hA j v hv)
   simpa [Lib.byteCells, Function.comp_def] using this
section
variable {o : Oper} {n : Nat} {l : List (Nat × Value)} {w : World} {ops : Array Oper} {rest : List Oper} {Q : Exit → Act → World → Prop}
theorem bs62_1 (c0 : Int) (w : World) : (Instr.buildSlice 62 1 #[(0, .int .u8 c0)]).run Tryd.prog w = .ok (.slice (some ⟨w.heap.size, 0, none⟩) 1 1) (w.alloc (.cells #[.int .u8 c0] 5)) := by kernel_rfl
theorem wl_put1 (o2 : Oper) (x0 s : Operand) (d : Nat) (c0 : Int) (N : Nat) (v : Value) (L : List UInt8) (ho : o.op = .buildSlice 62 1 #[(0, x0)]) (hd : o.dst = some d) (h0 : evl n l x0 = .int .u8 c0) (hg : wnt n l ops o = true)
  (ho2 : o2.op = .call { callee := .builtin .append, args := #[s, .tmp d], argTypes := #[62, 62] }) (hd9 : evl n (ext l (some d) (.slice (some ⟨w.heap.size, 0, none⟩) 1 1)) (.tmp d) = .slice (some ⟨w.heap.size, 0, none⟩) 1 1) (hs : evl n (ext l (some d) (.slice (some ⟨w.heap.size, 0, none⟩) 1 1)) s = v) (hg2 : wnt n (ext l (some d) (.slice (some ⟨w.heap.size, 0, none⟩) 1 1)) ops o2 = true)
  (hown : OB N v L w) (r0 : 0 ≤ c0 ∧ c0 ≤ 255) (hn : L.length + 1 ≤ 70000000000000) (hN : N ≤ w.heap.size)
  (hk : ∀ v' w', OB N v' (L ++ [c0.toNat.toUInt8]) w' → (∀ a : World, N = a.heap.size → Mw a w → Mw a w') → (∀ j vs, j < w.heap.size → v.ownBlock ≠ some j → At w j vs → At w' j vs) → WL Tryd.prog ops Q rest n (ext (ext l (some d) (.slice (some ⟨w.heap.size, 0, none⟩) 1 1)) o2.dst v') w') : WL Tryd.prog ops Q (o :: o2 :: rest) n l w := by
 refine ⟨l_step hg (o_val (.slice (some ⟨w.heap.size, 0, none⟩) 1 1) (w' := w.alloc (.cells #[.int .u8 c0] 5)) (by
  have h := bs62_1 c0 w
  simp [execOp, ho, h0, h]) ?_)⟩
 have hal : Mw w (w.alloc (.cells #[.int .u8 c0] 5)) := (Mw.refl _).alloc _ _
 rw [hd]
 refine (wl_app62 s (.tmp d) N v L.length (Lib.byteCells L) w.heap.size 1 1 [.int .u8 c0] ho2 hs hd9 (OB.mw hown hal) rfl (At.new w #[.int .u8 c0] 5) (fun u hu => by simp at hu; rcases hu with rfl <;> rfl) (by decide) hn (Nat.le_trans hN hal.size) hg2 ?_).out
 intro v' w' hO hA hb
 refine hk v' w' ?_ (fun a ha hM => AppW.mw hA (hM.trans hal) (fun j e => by rw [← ha]; exact ((OB.mw hown hal).lt j e).1)) (fun j vs hj hne hq => AppW.at hA (At.mo hq hal) hne)
 unfold OB
 rw [Lib.byteCells_append, List.length_append]
 have e : Lib.byteCells [c0.toNat.toUInt8] = [.int .u8 c0] := by
  simp only [Lib.byteCells, List.map_cons, List.map_nil]
  rw [u8c r0]
 rw [e]
 exact hO
end
end V
end Go.Proofs.YthgknegocfhdbaaDoor
/-
 The document's Unquote.
-/
namespace Go.Proofs.YthgknegocfhdbaaDoor.V
open Go.RowKit
theorem ne9g {a b : ByteArray} {r : Bool} (h : (a.toList == b.toList) = r) (x y : Operand) (w : World) : (do eqGuard .neq 9 x y (.string a) (.string b); binOp .neq 9 (.string a) (.string b)).run Tryd.prog w = .ok (.bool (!r)) w := by
 subst h; kernel_rfl
end Go.Proofs.YthgknegocfhdbaaDoor.V
/-
 The document's Next, kind by kind.
-/
namespace Go.Proofs.YthgknegocfhdbaaDoor.V
open Go.RowKit
theorem sz9 : (Tryd.prog.info? 9).map (·.size) = some 1 := by kernel_rfl
end Go.Proofs.YthgknegocfhdbaaDoor.V
/-
 What Scan tells, of every text.
-/
namespace Go.Proofs.YthgknegocfhdbaaDoor.V
open Go.RowKit
theorem rch_1 {s : ByteArray} {k e : Nat} (hk : k < s.size) (h : rch s k = (1, e)) : k < e := by
 unfold rch at h
 split at h
 ·have h9 := (Prod.mk.inj h).2
  have := nme_rg s _ (k + 1) rfl (by omega)
  omega
 ·split at h
  ·cases (Prod.mk.inj h).1
  ·split at h
   ·cases (Prod.mk.inj h).1
   ·cases (Prod.mk.inj h).1
theorem rch_4 {s : ByteArray} {k e : Nat} (h : rch s k = (4, e)) : k < e := by
 unfold rch at h
 split at h
 ·cases (Prod.mk.inj h).1
 ·split at h
  ·cases (Prod.mk.inj h).1
  ·split at h
   ·cases (Prod.mk.inj h).1
   ·have h9 := (Prod.mk.inj h).2
    split at h9 <;> omega
theorem size_ext {s : ByteArray} {k e : Nat} (he : e ≤ s.size) : (s.extract k e).size = e - k := by rw [ByteArray.size_extract, Nat.min_eq_left he]
theorem isDec_0 {t : ByteArray} (h : t.size = 0) : isDec t = false := by
 have h2 : t.toList.isEmpty = true := by rw [Lib.toList_data, List.isEmpty_iff]; exact List.length_eq_zero_iff.1 (by rw [by8_len]; exact h)
 unfold isDec
 rw [h2]; rfl
end Go.Proofs.YthgknegocfhdbaaDoor.V
/-
 Words against themselves; both Nexts say the same; what Scan tells, of both.
-/
namespace Go.Proofs.YthgknegocfhdbaaDoor.V
open Go.RowKit
theorem eqaS {ty : TypeId} {a b : Array Value} {r : Bool} {w : World} (hg : Tryd.prog.eqGuardType Tryd.prog.depth ty = false) (q : (Op.equalIn 10000 ty (.agg a) (.agg b)).run Tryd.prog w = .ok r w) (x y : Operand) :
  (do eqGuard .eql ty x y (.agg a) (.agg b); binOp .eql ty (.agg a) (.agg b)).run Tryd.prog w = .ok (.bool r) w := by
 have e : binOp .eql ty (.agg a) (.agg b) = (do pure (.bool (← Op.equalIn 10000 ty (.agg a) (.agg b)))) := rfl
 rw [Sem.run_bind, run_eqGuard_agg _ _ _ _ _ _ _ hg, e, Result.andThen_ok, Sem.run_bind, q]; rfl
theorem neaS {ty : TypeId} {a b : Array Value} {r : Bool} {w : World} (hg : Tryd.prog.eqGuardType Tryd.prog.depth ty = false) (q : (Op.equalIn 10000 ty (.agg a) (.agg b)).run Tryd.prog w = .ok r w) (x y : Operand) :
  (do eqGuard .neq ty x y (.agg a) (.agg b); binOp .neq ty (.agg a) (.agg b)).run Tryd.prog w = .ok (.bool (!r)) w := by
 have e : binOp .neq ty (.agg a) (.agg b) = (do pure (.bool (!(← Op.equalIn 10000 ty (.agg a) (.agg b))))) := rfl
 rw [Sem.run_bind, run_eqGuard_agg _ _ _ _ _ _ _ hg, e, Result.andThen_ok, Sem.run_bind, q]; rfl
theorem ht33 : Tryd.prog.underlying 33 = some (.struct (Tryd.prog.fieldsOf 33)) := by kernel_rfl
theorem hp33 : Tryd.prog.stoodInHeld 33 = false := by kernel_rfl
theorem fo33 : (Tryd.prog.fieldsOf 33).toList.map (fun f => (f.name, f.type, f.offset)) = [("Neg", 4, 0), ("N", 31, 1), ("Scale", 3, 5)] := by kernel_rfl
theorem ht35 : Tryd.prog.underlying 35 = some (.struct (Tryd.prog.fieldsOf 35)) := by kernel_rfl
theorem hp35 : Tryd.prog.stoodInHeld 35 = false := by kernel_rfl
theorem fo35 : (Tryd.prog.fieldsOf 35).toList.map (fun f => (f.name, f.type, f.offset)) = [("Kind", 3, 0), ("Num", 33, 1), ("Flag", 4, 7), ("Text", 9, 8), ("Err", 3, 9)] := by kernel_rfl
theorem ht37 : Tryd.prog.underlying 37 = some (.struct (Tryd.prog.fieldsOf 37)) := by kernel_rfl
theorem hp37 : Tryd.prog.stoodInHeld 37 = false := by kernel_rfl
theorem fo37 : (Tryd.prog.fieldsOf 37).toList.map (fun f => (f.name, f.type, f.offset)) = [("Kind", 3, 0), ("Text", 9, 1), ("Value", 35, 2), ("At", 3, 12)] := by kernel_rfl
theorem q33_0 (x0 x1 x2 x3 x4 x5 : Value) (w : World) : (part 4 #[x0, x1, x2, x3, x4, x5] 0).run Tryd.prog w = .ok x0 w := by kernel_rfl
theorem q33_1 (x0 x1 x2 x3 x4 x5 : Value) (w : World) : (part 31 #[x0, x1, x2, x3, x4, x5] 1).run Tryd.prog w = .ok (.agg #[x1, x2, x3, x4]) w := by kernel_rfl
theorem q33_5 (x0 x1 x2 x3 x4 x5 : Value) (w : World) : (part 3 #[x0, x1, x2, x3, x4, x5] 5).run Tryd.prog w = .ok x5 w := by kernel_rfl
theorem q35_0 (x0 x1 x2 x3 x4 x5 x6 x7 x8 x9 : Value) (w : World) : (part 3 #[x0, x1, x2, x3, x4, x5, x6, x7, x8, x9] 0).run Tryd.prog w = .ok x0 w := by kernel_rfl
theorem q35_1 (x0 x1 x2 x3 x4 x5 x6 x7 x8 x9 : Value) (w : World) : (part 33 #[x0, x1, x2, x3, x4, x5, x6, x7, x8, x9] 1).run Tryd.prog w = .ok (.agg #[x1, x2, x3, x4, x5, x6]) w := by kernel_rfl
theorem q35_7 (x0 x1 x2 x3 x4 x5 x6 x7 x8 x9 : Value) (w : World) : (part 4 #[x0, x1, x2, x3, x4, x5, x6, x7, x8, x9] 7).run Tryd.prog w = .ok x7 w := by kernel_rfl
theorem q35_8 (x0 x1 x2 x3 x4 x5 x6 x7 x8 x9 : Value) (w : World) : (part 9 #[x0, x1, x2, x3, x4, x5, x6, x7, x8, x9] 8).run Tryd.prog w = .ok x8 w := by kernel_rfl
theorem q35_9 (x0 x1 x2 x3 x4 x5 x6 x7 x8 x9 : Value) (w : World) : (part 3 #[x0, x1, x2, x3, x4, x5, x6, x7, x8, x9] 9).run Tryd.prog w = .ok x9 w := by kernel_rfl
theorem q37_0 (x0 x1 x2 x3 x4 x5 x6 x7 x8 x9 xa xb xc : Value) (w : World) : (part 3 #[x0, x1, x2, x3, x4, x5, x6, x7, x8, x9, xa, xb, xc] 0).run Tryd.prog w = .ok x0 w := by kernel_rfl
theorem q37_1 (x0 x1 x2 x3 x4 x5 x6 x7 x8 x9 xa xb xc : Value) (w : World) : (part 9 #[x0, x1, x2, x3, x4, x5, x6, x7, x8, x9, xa, xb, xc] 1).run Tryd.prog w = .ok x1 w := by kernel_rfl
theorem q37_2 (x0 x1 x2 x3 x4 x5 x6 x7 x8 x9 xa xb xc : Value) (w : World) : (part 35 #[x0, x1, x2, x3, x4, x5, x6, x7, x8, x9, xa, xb, xc] 2).run Tryd.prog w = .ok (.agg #[x2, x3, x4, x5, x6, x7, x8, x9, xa, xb]) w := by kernel_rfl
theorem q37_c (x0 x1 x2 x3 x4 x5 x6 x7 x8 x9 xa xb xc : Value) (w : World) : (part 3 #[x0, x1, x2, x3, x4, x5, x6, x7, x8, x9, xa, xb, xc] 12).run Tryd.prog w = .ok xc w := by kernel_rfl
theorem q31s (d : Nat) (a b c e : Int) (w : World) : (Op.equalIn (d + 1 + 1) 31 (.agg #[.int .u64 a, .int .u64 b, .int .u64 c, .int .u64 e]) (.agg #[.int .u64 a, .int .u64 b, .int .u64 c, .int .u64 e])).run Tryd.prog w = .ok true w := by
 obtain ⟨j, hj⟩ := info22
 rw [run_equalIn_array w (d + 1) _ _ Tryd.underlying31 hj, cells22]
 have q : ∀ (x : Int), (Op.equalIn (d + 1) 29 (.int .u64 x) (.int .u64 x)).run Tryd.prog w = .ok true w := fun x => by rw [run_equalIn_int w d 29 .u64 .u64 x x Tryd.underlying29]; simp
 rw [show List.range 4 = [0, 1, 2, 3] from rfl]
 simp [Op.eqItems, Sem.run_bind, part0, part1, part2, part3, Result.andThen_ok, q, Sem.run_pure]
theorem qbool (d : Nat) (b : Bool) (w : World) : (Op.equalIn (d + 1) 4 (.bool b) (.bool b)).run Tryd.prog w = .ok true w := by
 have : (Op.equalIn (d + 1) 4 (.bool b) (.bool b)).run Tryd.prog w = .ok (b == b) w := by kernel_rfl
 rw [this]; simp
theorem qint (d : Nat) (x : Int) (w : World) : (Op.equalIn (d + 1) 3 (.int .i64 x) (.int .i64 x)).run Tryd.prog w = .ok true w := by rw [run_equalIn_int w d 3 .i64 .i64 x x Tryd.underlying3]; simp
theorem qstr (d : Nat) (t : ByteArray) (w : World) : (Op.equalIn (d + 1) 9 (.string t) (.string t)).run Tryd.prog w = .ok true w := by
 have : (Op.equalIn (d + 1) 9 (.string t) (.string t)).run Tryd.prog w = .ok (t == t) w := by kernel_rfl
 have h2 : (t == t) = true := by
  obtain ⟨a⟩ := t
  show (a == a) = true
  exact beq_self_eq_true a
 rw [this, h2]
theorem q33s (d : Nat) (b : Bool) (n0 n1 n2 n3 s : Int) (w : World) : (Op.equalIn (d + 1 + 1 + 1) 33 (.agg #[.bool b, .int .u64 n0, .int .u64 n1, .int .u64 n2, .int .u64 n3, .int .i64 s]) (.agg #[.bool b, .int .u64 n0, .int .u64 n1, .int .u64 n2, .int .u64 n3, .int .i64 s])).run Tryd.prog w = .ok true w := by
 rw [run_equalIn_struct w (d + 1 + 1) 33 _ _ ht33 hp33]
 have h := fo33
 generalize (Tryd.prog.fieldsOf 33).toList = L at h
 have hl : L.length = 3 := by have := congrArg List.length h; simpa using this
 match L, hl with
 | [f0, f1, f2], _ =>
  simp at h
  obtain ⟨⟨a0, a1, a2⟩, ⟨b0, b1, b2⟩, ⟨c0, c1, c2⟩⟩ := h
  simp [Op.eqFields, a0, a1, a2, b0, b1, b2, c0, c1, c2, Sem.run_bind, q33_0, q33_1, q33_5, Result.andThen_ok, qbool, q31s, qint, Sem.run_pure]
theorem q35s (d : Nat) (K : Int) (b : Bool) (n0 n1 n2 n3 s : Int) (fl : Bool) (t : ByteArray) (er : Int) (w : World) : (Op.equalIn (d + 1 + 1 + 1 + 1) 35 (.agg #[.int .i64 K, .bool b, .int .u64 n0, .int .u64 n1, .int .u64 n2, .int .u64 n3, .int .i64 s, .bool fl, .string t, .int .i64 er]) (.agg #[.int .i64 K, .bool b, .int .u64 n0, .int .u64 n1, .int .u64 n2, .int .u64 n3, .int .i64 s, .bool fl, .string t, .int .i64 er])).run Tryd.prog w = .ok true w := by
 rw [run_equalIn_struct w (d + 1 + 1 + 1) 35 _ _ ht35 hp35]
 have h := fo35
 generalize (Tryd.prog.fieldsOf 35).toList = L at h
 have hl : L.length = 5 := by have := congrArg List.length h; simpa using this
 match L, hl with
 | [f0, f1, f2, f3, f4], _ =>
  simp at h
  obtain ⟨⟨a0, a1, a2⟩, ⟨b0, b1, b2⟩, ⟨c0, c1, c2⟩, ⟨g0, g1, g2⟩, ⟨i0, i1, i2⟩⟩ := h
  simp [Op.eqFields, a0, a1, a2, b0, b1, b2, c0, c1, c2, g0, g1, g2, i0, i1, i2, Sem.run_bind, q35_0, q35_1, q35_7, q35_8, q35_9, Result.andThen_ok, qbool, q33s, qint, qstr, Sem.run_pure]
theorem q37g (d : Nat) (A K B : Int) (u : ByteArray) (b : Bool) (n0 n1 n2 n3 s : Int) (fl : Bool) (t : ByteArray) (er : Int) (w : World) : (Op.equalIn (d + 1 + 1 + 1 + 1 + 1) 37 (.agg #[.int .i64 A, .string u, .int .i64 K, .bool b, .int .u64 n0, .int .u64 n1, .int .u64 n2, .int .u64 n3, .int .i64 s, .bool fl, .string t, .int .i64 er, .int .i64 B]) (.agg #[.int .i64 A, .string u, .int .i64 K, .bool b, .int .u64 n0, .int .u64 n1, .int .u64 n2, .int .u64 n3, .int .i64 s, .bool fl, .string t, .int .i64 er, .int .i64 B])).run Tryd.prog w = .ok true w := by
 rw [run_equalIn_struct w (d + 1 + 1 + 1 + 1) 37 _ _ ht37 hp37]
 have h := fo37
 generalize (Tryd.prog.fieldsOf 37).toList = L at h
 have hl : L.length = 4 := by have := congrArg List.length h; simpa using this
 match L, hl with
 | [f0, f1, f2, f3], _ =>
  simp at h
  obtain ⟨⟨a0, a1, a2⟩, ⟨b0, b1, b2⟩, ⟨c0, c1, c2⟩, ⟨g0, g1, g2⟩⟩ := h
  simp [Op.eqFields, a0, a1, a2, b0, b1, b2, c0, c1, c2, g0, g1, g2, Sem.run_bind, q37_0, q37_1, q37_2, q37_c, Result.andThen_ok, q35s, qint, qstr, Sem.run_pure]
theorem q37s (A K B : Int) (u : ByteArray) (b : Bool) (n0 n1 n2 n3 s : Int) (fl : Bool) (t : ByteArray) (er : Int) (w : World) : (Op.equalIn 10000 37 (.agg #[.int .i64 A, .string u, .int .i64 K, .bool b, .int .u64 n0, .int .u64 n1, .int .u64 n2, .int .u64 n3, .int .i64 s, .bool fl, .string t, .int .i64 er, .int .i64 B]) (.agg #[.int .i64 A, .string u, .int .i64 K, .bool b, .int .u64 n0, .int .u64 n1, .int .u64 n2, .int .u64 n3, .int .i64 s, .bool fl, .string t, .int .i64 er, .int .i64 B])).run Tryd.prog w = .ok true w := q37g 9995 A K B u b n0 n1 n2 n3 s fl t er w
theorem gt37 : Tryd.prog.eqGuardType Tryd.prog.depth 37 = false := by kernel_rfl
def SelfE (a : Array Value) : Prop := ∀ w : World, (Op.equalIn 10000 37 (.agg a) (.agg a)).run Tryd.prog w = .ok true w
theorem SelfE.eq {a : Array Value} (h : SelfE a) (x y : Operand) (w : World) : (do eqGuard .eql 37 x y (.agg a) (.agg a); binOp .eql 37 (.agg a) (.agg a)).run Tryd.prog w = .ok (.bool true) w := eqaS gt37 (h w) x y
theorem SelfE.ne {a : Array Value} (h : SelfE a) (x y : Operand) (w : World) : (do eqGuard .neq 37 x y (.agg a) (.agg a); binOp .neq 37 (.agg a) (.agg a)).run Tryd.prog w = .ok (.bool false) w := neaS gt37 (h w) x y
theorem rch_1l {s : ByteArray} {k : Nat} (h : ltr (bt s k) = true) : rch s k = (1, nme s k) := by
 unfold rch; rw [if_pos h, nme_on (k := k) (by rw [h]; rfl)]
theorem rch_2l {s : ByteArray} {k : Nat} (h : ltr (bt s k) = false) (h2 : dgt (bt s k) = true) : rch s k = (2, k + pfx (s.extract k s.size)) := by
 unfold rch; rw [if_neg (by rw [h]; simp), if_pos h2]
theorem rch_3l {s : ByteArray} {k : Nat} (h : ltr (bt s k) = false) (h2 : dgt (bt s k) = false) (h3 : (bt s k == 34) = true) : rch s k = (3, (cl s (k + 1)).getD k) := by
 unfold rch; rw [if_neg (by rw [h]; simp), if_neg (by rw [h2]; simp), if_pos h3, qte_cl s k _ k (Nat.le_refl _)]
theorem rch_4l {s : ByteArray} {k : Nat} (h : ltr (bt s k) = false) (h2 : dgt (bt s k) = false) (h3 : (bt s k == 34) = false) : rch s k = (4, if k + 2 ≤ s.size ∧ symb (s.extract k (k + 2)) = true then k + 2 else k + 1) := by
 unfold rch; rw [if_neg (by rw [h]; simp), if_neg (by rw [h2]; simp), if_neg (by rw [h3]; simp)]
theorem unq_0 {t : ByteArray} (h : t.size = 0) : (unq t).2 = false := by
 unfold unq; rw [if_pos (Or.inl (by omega))]
end Go.Proofs.YthgknegocfhdbaaDoor.V
/-
 A word that stands elsewhere, a blank or the end behind it, is the same word.
-/
namespace Go.Proofs.YthgknegocfhdbaaDoor.V
open Go.RowKit
theorem by8_inj {a b : ByteArray} (h : by8 a = by8 b) : a = b := by rw [← ba_eta a, h, ba_eta]
theorem at_get {J T : ByteArray} {j : Nat} (h : J.extract j (j + T.size) = T) {i : Nat} (hi : i < T.size) : (by8 J)[j + i]? = (by8 T)[i]? := by
 have h2 : by8 T = ((by8 J).drop j).take T.size := by
  have := by8_ext J j (j + T.size)
  rw [h, Nat.add_sub_cancel_left] at this; exact this
 rw [h2, List.getElem?_take_of_lt hi, List.getElem?_drop]
theorem bt_at {J T : ByteArray} {j : Nat} (h : J.extract j (j + T.size) = T) {i : Nat} (hi : i < T.size) : bt J (j + i) = bt T i := by
 rw [bt_tn, bt_tn, at_get h hi]
theorem nme_run (J : ByteArray) : ∀ (n j : Nat), (∀ i, i < n → (ltr (bt J (j + i)) || dgt (bt J (j + i))) = true) → (ltr (bt J (j + n)) || dgt (bt J (j + n))) = false → nme J j = j + n := by
 intro n
 induction n with
 | zero => intro j _ h; exact nme_end h
 | succ n ih =>
  intro j h1 h2
  rw [nme_on (k := j) (h1 0 (by omega)), ih (j + 1) (fun i hi => by rw [show j + 1 + i = j + (i + 1) by omega]; exact h1 (i + 1) (by omega)) (by rw [show j + 1 + n = j + (n + 1) by omega]; exact h2)]
  omega
theorem nmA_all {T : ByteArray} : ∀ (d k : Nat), T.size - k ≤ d → nmA T k = true → ∀ i, k ≤ i → i < T.size → (ltr (bt T i) || dgt (bt T i)) = true := by
 intro d
 induction d with
 | zero => intro k hd _ i h1 h2; omega
 | succ d ih =>
  intro k hd h i h1 h2
  rw [nmA_in (by omega), Bool.and_eq_true_iff] at h
  by_cases e : i = k
  ·subst e; exact h.1
  ·exact ih (k + 1) (by omega) h.2 i (by omega) h2
def Fe (J : ByteArray) (m : Nat) : Prop := m = J.size ∨ bt J m = 32
theorem Fe.nl {J : ByteArray} {m : Nat} (h : Fe J m) : (ltr (bt J m) || dgt (bt J m)) = false := by
 rcases h with h | h
 ·rw [bt_out (by omega)]; rfl
 ·rw [h]; rfl
theorem rch_w1 {J T : ByteArray} {j : Nat} (h : J.extract j (j + T.size) = T) (hF : Fe J (j + T.size)) (hn : nam T = true) : rch J j = (1, j + T.size) := by
 unfold nam at hn
 simp only [Bool.and_eq_true_iff, Bool.not_eq_true', decide_eq_false_iff_not] at hn
 obtain ⟨⟨⟨h0, _⟩, h1⟩, h2⟩ := hn
 have hb := bt_at h (i := 0) (by omega)
 rw [Nat.add_zero] at hb
 rw [rch_1l (by rw [hb]; exact h1), nme_run J T.size j (fun i hi => by rw [bt_at h hi]; exact nmA_all _ 0 (Nat.le_refl _) h2 i (Nat.zero_le _) hi) hF.nl]
theorem dec_no32 {U : ByteArray} (h : isDec U = true) : (32 : UInt8) ∉ by8 U := by
 obtain ⟨b, A, B, hd⟩ := df_dec h
 intro hm
 rw [hd.eq] at hm
 rcases List.mem_append.1 hm with hm | hm
 ·cases b with
  | true => exact absurd hm (by decide)
  | false => exact absurd hm (by decide)
 ·rcases List.mem_append.1 hm with hm | hm
  ·exact absurd (hd.ad _ hm) (by decide)
  ·by_cases hB : B = []
   ·rw [if_pos hB] at hm; cases hm
   ·rw [if_neg hB] at hm
    rcases List.mem_cons.1 hm with e | hm
    ·exact absurd e (by decide)
    ·exact absurd (hd.bd _ hm) (by decide)
theorem rch_w2 {J T : ByteArray} {j : Nat} (h : J.extract j (j + T.size) = T) (hz : j + T.size ≤ J.size) (hF : Fe J (j + T.size)) (h0 : 0 < T.size) (h1 : ltr (bt T 0) = false) (h2 : dgt (bt T 0) = true) (hd : isDec T = true) : rch J j = (2, j + T.size) := by
 have hb := bt_at h (i := 0) h0
 rw [Nat.add_zero] at hb
 rw [rch_2l (by rw [hb]; exact h1) (by rw [hb]; exact h2)]
 have hR : by8 (J.extract j J.size) = (by8 J).drop j := by
  have := by8_ext J j J.size
  rw [List.take_of_length_le (by rw [List.length_drop, by8_len]; exact Nat.le_refl _)] at this
  exact this
 have hT : by8 T = (by8 (J.extract j J.size)).take T.size := by
  have := by8_ext J j (j + T.size)
  rw [h, Nat.add_sub_cancel_left] at this
  rw [hR]; exact this
 have hs : (J.extract j J.size).size = J.size - j := size_ext (Nat.le_refl _)
 have hge := pfx_ge hT (by rw [hs]; omega) hd
 have hle := pfx_le (J.extract j J.size)
 rcases Nat.lt_or_ge T.size (pfx (J.extract j J.size)) with hlt | hle2
 ·exfalso
  have hU := pfx_dec (s := J.extract j J.size) (t := ⟨((by8 (J.extract j J.size)).take (pfx (J.extract j J.size))).toArray⟩) rfl (by omega)
  refine dec_no32 hU ?_
  have hj : j + T.size < J.size := by rw [hs] at hle; omega
  have h32 : (by8 J)[j + T.size]? = some 32 := by
   rcases hF with e | e
   ·omega
   ·rw [bt_in hj] at e
    rw [List.getElem?_eq_getElem (by rw [by8_len]; exact hj)]
    refine congrArg some ?_
    exact (u8_eq (c := J[j + T.size]) (k := 32) (by decide)).1 e
  show (32 : UInt8) ∈ (by8 (J.extract j J.size)).take (pfx (J.extract j J.size))
  rw [hR]
  refine List.mem_iff_getElem?.2 ⟨T.size, ?_⟩
  rw [List.getElem?_take_of_lt hlt, List.getElem?_drop]; exact h32
 ·rw [show pfx (J.extract j J.size) = T.size by omega]
theorem cl_sh {s J : ByteArray} {k j n : Nat} (hag : ∀ x, x < n → bt J (j + x) = bt s (k + x)) (hJ : j + n ≤ J.size) : ∀ (d i : Nat), n - i ≤ d → cl s (k + i) = some (k + n) → cl J (j + i) = some (j + n) := by
 intro d
 induction d with
 | zero =>
  intro i hd h
  have := cl_rg s _ (k + i) (Nat.le_refl _) _ h
  omega
 | succ d ih =>
  intro i hd h
  have hr := cl_rg s _ (k + i) (Nat.le_refl _) _ h
  have hks : k + i < s.size := by
   apply Classical.byContradiction
   intro hno
   rw [cl_end hno] at h; cases h
  have hb := hag i (by omega)
  cases h2 : (bt s (k + i) == 92) with
  | true =>
   rw [cl_e hks h2] at h
   rw [cl_e (by omega) (by rw [hb]; exact h2)]
   exact ih (i + 2) (by omega) h
  | false =>
   cases h3 : (bt s (k + i) == 34) with
   | true =>
    rw [cl_q hks h2 h3] at h
    have e := Option.some.inj h
    rw [cl_q (by omega) (by rw [hb]; exact h2) (by rw [hb]; exact h3)]
    exact congrArg some (by omega)
   | false =>
    rw [cl_o hks h2 h3] at h
    rw [cl_o (by omega) (by rw [hb]; exact h2) (by rw [hb]; exact h3)]
    exact ih (i + 1) (by omega) h
theorem rch_w3 {J T : ByteArray} {j : Nat} (h : J.extract j (j + T.size) = T) (hz : j + T.size ≤ J.size) (h0 : 0 < T.size) (h34 : bt T 0 = 34) (hc : cl T 1 = some T.size) : rch J j = (3, j + T.size) := by
 have hb := bt_at h (i := 0) h0
 rw [Nat.add_zero, h34] at hb
 have hc2 := cl_sh (s := T) (J := J) (k := 0) (j := j) (n := T.size) (fun x hx => by rw [Nat.zero_add]; exact bt_at h hx) hz _ 1 (Nat.le_refl _) (by rw [Nat.zero_add, Nat.zero_add]; exact hc)
 rw [rch_3l (by rw [hb]; rfl) (by rw [hb]; rfl) (by rw [hb]; rfl), hc2]
 rfl
theorem sym_mem {T : ByteArray} (h : symb T = true) : by8 T ∈ sys.map by8 := by
 unfold symb at h
 obtain ⟨x, hx, e⟩ := List.any_eq_true.1 h
 rw [Lib.toList_data, Lib.toList_data] at e
 exact List.mem_map.2 ⟨x, hx, (eq_of_beq e).symm⟩
set_option maxRecDepth 100000 in
theorem sys_ok : ∀ l ∈ sys.map by8, (l.length = 1 ∨ l.length = 2) ∧ ltr (tn (l[0]?)) = false ∧ dgt (tn (l[0]?)) = false ∧ (tn (l[0]?) == 34) = false ∧ isb (tn (l[0]?)) = false ∧ (tn (l[0]?) == 47) = false ∧ (l[1]?) ≠ some 32 := by decide +kernel
theorem rch_w4 {J T : ByteArray} {j : Nat} (h : J.extract j (j + T.size) = T) (hz : j + T.size ≤ J.size) (hF : Fe J (j + T.size)) (hs : symb T = true) : rch J j = (4, j + T.size) := by
 have hk := sys_ok _ (sym_mem hs)
 rw [by8_len] at hk
 obtain ⟨hsz, h1, h2, h3, _, _, _⟩ := hk
 have h0 : 0 < T.size := by omega
 have hb := bt_at h (i := 0) h0
 rw [Nat.add_zero, bt_tn T] at hb
 rw [rch_4l (by rw [hb]; exact h1) (by rw [hb]; exact h2) (by rw [hb]; exact h3)]
 rcases hsz with e | e
 ·rw [if_neg, e]
  rintro ⟨hz2, hs2⟩
  have hk2 := sys_ok _ (sym_mem hs2)
  refine hk2.2.2.2.2.2.2 ?_
  have hl : (J.extract j (j + 2)).size = 2 := by rw [size_ext hz2]; omega
  have hg := at_get (J := J) (T := J.extract j (j + 2)) (j := j) (by rw [hl]) (i := 1) (by omega)
  rw [← hg]
  rw [e] at hF
  rcases hF with e2 | e2
  ·omega
  ·have hj : j + 1 < J.size := by omega
   rw [bt_in hj] at e2
   rw [List.getElem?_eq_getElem (by rw [by8_len]; exact hj)]
   exact congrArg some ((u8_eq (c := J[j + 1]) (k := 32) (by decide)).1 e2)
 ·rw [e] at h hz ⊢
  rw [if_pos ⟨hz, by rw [h]; exact hs⟩]
end Go.Proofs.YthgknegocfhdbaaDoor.V
/-
 Words, wherever they stand.
-/
namespace Go.Proofs.YthgknegocfhdbaaDoor.V
open Go.RowKit
structure Tk where
 K : Nat
 T : ByteArray
 v0 : Value
 v1 : Value
 v2 : Value
 v3 : Value
 v4 : Value
 v5 : Value
 v6 : Value
 v7 : Value
 v8 : Value
 v9 : Value
def Tk.cells (t : Tk) (a : Nat) : List Value := [.int .i64 ((t.K : Nat) : Int), .string t.T, t.v0, t.v1, t.v2, t.v3, t.v4, t.v5, t.v6, t.v7, t.v8, t.v9, .int .i64 ((a : Nat) : Int)]
structure Wd (t : Tk) : Prop where
 oc : ∀ a : Nat, (t.cells a).all (·.oneCell') = true
 se : ∀ a : Nat, SelfE (t.cells a).toArray
 pos : 0 < t.T.size
 fb : isb (bt t.T 0) = false ∧ (bt t.T 0 == 47) = false
 nx : ∀ (J : ByteArray) (j : Nat), J.size ≤ 16384 → j + t.T.size ≤ J.size → J.extract j (j + t.T.size) = t.T → Fe J (j + t.T.size) → ∀ w, Calls Tryd.prog 12 #[.string J, .int .i64 ((j : Nat) : Int)] w fun e' w' => e' = .returned (.tuple #[.agg (t.cells j).toArray, .int .i64 0]) ∧ Mw w w'
theorem ltr_fb {c : Int} (h : ltr c = true) : isb c = false ∧ (c == 47) = false := by
 unfold ltr at h
 unfold isb
 simp only [Bool.or_eq_true, Bool.and_eq_true, decide_eq_true_iff, beq_iff_eq, Bool.or_eq_false_iff, beq_eq_false_iff_ne] at h ⊢
 omega
theorem dgt_fb {c : Int} (h : dgt c = true) : isb c = false ∧ (c == 47) = false := by
 unfold dgt at h
 unfold isb
 simp only [Bool.and_eq_true, decide_eq_true_iff, Bool.or_eq_false_iff, beq_eq_false_iff_ne] at h ⊢
 omega
structure Wk (s : ByteArray) (k e : Nat) (t : Tk) : Prop where
 lt : k < e
 le : e ≤ s.size
 tx : t.T = s.extract k e
 wd : Wd t
 n1 : ∀ w, Calls Tryd.prog 12 #[.string s, .int .i64 ((k : Nat) : Int)] w fun e' w' => e' = .returned (.tuple #[.agg (t.cells k).toArray, .int .i64 0]) ∧ Mw w w'
theorem wd_of (s : ByteArray) (hs : s.size ≤ 16384) (k : Nat) (hk : k < s.size) : (∃ (e : Nat) (t : Tk), Wk s k e t) ∨ (∀ w, Calls Tryd.prog 12 #[.string s, .int .i64 ((k : Nat) : Int)] w fun e' w' => e' = .returned (.tuple #[.agg #[.int .i64 0, .string ⟨#[]⟩, .int .i64 0, .bool false, .int .u64 0, .int .u64 0, .int .u64 0, .int .u64 0, .int .i64 0, .bool false, .string ⟨#[]⟩, .int .i64 0, .int .i64 0], .int .i64 70]) ∧ Mw w w') := by
 have hs47 : s.size ≤ 140737488355328 := by omega
 have hrg := rch_rg hk
 have hzz : ∀ e, (s.extract k e).size ≤ s.size := fun e => by rw [ByteArray.size_extract]; omega
 have bz : ∀ e, k < e → e ≤ s.size → bt (s.extract k e) 0 = bt s k := fun e h1 h2 => by
  have hz := size_ext (s := s) (k := k) h2
  have := bt_at (J := s) (T := s.extract k e) (j := k) (by rw [hz, show k + (e - k) = e by omega]) (i := 0) (by omega)
  rw [Nat.add_zero] at this; exact this.symm
 cases h1 : ltr (bt s k) with
 | true =>
  have hr := rch_1l h1
  obtain ⟨e, he⟩ : ∃ e, nme s k = e := ⟨_, rfl⟩
  rw [he] at hr
  rw [hr] at hrg
  simp only at hrg
  have hm := fun w => meaning_1 (s.extract k e) w (by have := hzz e; unfold maxLen; omega)
  cases ho : nam (s.extract k e) with
  | true =>
   simp only [ho] at hm
   have hke := rch_1 hk hr
   have hz := size_ext (s := s) (k := k) hrg.2
   refine Or.inl ⟨e, ⟨1, s.extract k e, .int .i64 0, .bool false, .int .u64 0, .int .u64 0, .int .u64 0, .int .u64 0, .int .i64 0, .bool false, .string ⟨#[]⟩, .int .i64 0⟩, hke, hrg.2, rfl, ⟨fun _ => rfl, fun _ w => q37s _ _ _ _ _ _ _ _ _ _ _ _ _ w, (by show 0 < (s.extract k e).size; omega), (by show isb (bt (s.extract k e) 0) = false ∧ _; rw [bz e hke hrg.2]; exact ltr_fb h1), fun J j hJ hz2 hx hF w => ?_⟩, fun w => next_1t s k e w hs47 hk hr hm⟩
   have hr2 := rch_w1 hx hF ho
   have h9 := next_1t J j (j + (s.extract k e).size) w (by omega) (by have h : j + (s.extract k e).size ≤ J.size := hz2; omega) hr2 (by rw [hx]; exact hm)
   rw [hx] at h9
   exact h9
  | false =>
   simp only [ho] at hm
   exact Or.inr (fun w => next_1f s k e w hs47 hk hr hm)
 | false =>
  cases h2 : dgt (bt s k) with
  | true =>
   have hr := rch_2l h1 h2
   obtain ⟨e, he⟩ : ∃ e, k + pfx (s.extract k s.size) = e := ⟨_, rfl⟩
   rw [he] at hr
   rw [hr] at hrg
   simp only at hrg
   have hz := size_ext (s := s) (k := k) hrg.2
   obtain ⟨b, N, E, kk, _, _, _, _, h30, hP, _⟩ := parse_both (s.extract k e) (by have := hzz e; omega)
   have hm := fun w => meaning_2 (s.extract k e) w b N E kk hP
   cases ho : (E == 0) with
   | true =>
    have hdc : isDec (s.extract k e) = true := by
     rw [eq_of_beq ho] at h30
     cases hd : isDec (s.extract k e) with
     | true => rfl
     | false => rw [hd] at h30; cases h30
    have hke : k < e := by
     rcases Nat.lt_or_ge k e with h | h
     ·exact h
     ·rw [isDec_0 (by rw [hz]; exact Nat.sub_eq_zero_of_le h)] at hdc; cases hdc
    simp only [ho] at hm
    refine Or.inl ⟨e, ⟨2, s.extract k e, .int .i64 1, .bool b, .int .u64 (l0 (N)), .int .u64 (l1 (N)), .int .u64 (l2 (N)), .int .u64 (l3 (N)), .int .i64 ((kk : Int)), .bool false, .string ⟨#[]⟩, .int .i64 0⟩, hke, hrg.2, rfl, ⟨fun _ => rfl, fun _ w => q37s _ _ _ _ _ _ _ _ _ _ _ _ _ w, (by show 0 < (s.extract k e).size; omega), (by show isb (bt (s.extract k e) 0) = false ∧ _; rw [bz e hke hrg.2]; exact dgt_fb h2), fun J j hJ hz2 hx hF w => ?_⟩, fun w => next_2t s k e b N kk w hs47 hk hr hm⟩
    have hb0 := bz e hke hrg.2
    have hr2 := rch_w2 hx hz2 hF (show 0 < (s.extract k e).size by omega) (by rw [hb0]; exact h1) (by rw [hb0]; exact h2) hdc
    have h9 := next_2t J j (j + (s.extract k e).size) b N kk w (by omega) (by have h : j + (s.extract k e).size ≤ J.size := hz2; omega) hr2 (by rw [hx]; exact hm)
    rw [hx] at h9
    exact h9
   | false =>
    simp only [ho] at hm
    exact Or.inr (fun w => next_2f s k e b N kk w hs47 hk hr hm)
  | false =>
   cases h3 : (bt s k == 34) with
   | true =>
    have hr := rch_3l h1 h2 h3
    cases hc : cl s (k + 1) with
    | none =>
     rw [hc] at hr
     simp only [Option.getD_none] at hr
     have hm := fun w => meaning_3 (s.extract k k) w (by have := hzz k; omega)
     have hu := unq_0 (t := s.extract k k) (by rw [size_ext (by omega)]; omega)
     simp only [hu, Bool.false_and] at hm
     exact Or.inr (fun w => next_3f s k k w hs47 hk hr hm)
    | some e =>
     rw [hc] at hr
     simp only [Option.getD_some] at hr
     have hg := cl_rg s _ (k + 1) (Nat.le_refl _) e hc
     have hm := fun w => meaning_3 (s.extract k e) w (by have := hzz e; omega)
     have hz := size_ext (s := s) (k := k) hg.2
     cases ho : ((unq (s.extract k e)).2 && decide ((unq (s.extract k e)).1.size ≤ 64)) with
     | false =>
      simp only [ho] at hm
      exact Or.inr (fun w => next_3f s k e w hs47 hk hr hm)
     | true =>
      simp only [ho] at hm
      have hke : k < e := by omega
      have hb0 := bz e hke hg.2
      have h34 := eq_of_beq h3
      refine Or.inl ⟨e, ⟨3, s.extract k e, .int .i64 3, .bool false, .int .u64 0, .int .u64 0, .int .u64 0, .int .u64 0, .int .i64 0, .bool false, .string (unq (s.extract k e)).1, .int .i64 0⟩, hke, hg.2, rfl, ⟨fun _ => rfl, fun _ w => q37s _ _ _ _ _ _ _ _ _ _ _ _ _ w, (by show 0 < (s.extract k e).size; omega), (by show isb (bt (s.extract k e) 0) = false ∧ _; rw [hb0, h34]; exact ⟨rfl, rfl⟩), fun J j hJ hz2 hx hF w => ?_⟩, fun w => next_3t s k e w hs47 hk hr hm⟩
      have hcT : cl (s.extract k e) 1 = some (s.extract k e).size := by
       have := cl_sh (s := s) (J := s.extract k e) (k := k) (j := 0) (n := e - k) (fun x hx => by
        have := bt_at (J := s) (T := s.extract k e) (j := k) (by rw [hz, show k + (e - k) = e by omega]) (i := x) (by omega)
        rw [Nat.zero_add]; exact this.symm) (by omega) _ 1 (Nat.le_refl _) (by rw [hc, show k + (e - k) = e by omega])
       rw [Nat.zero_add, Nat.zero_add] at this
       rw [hz]; exact this
      have hr2 := rch_w3 hx hz2 (show 0 < (s.extract k e).size by omega) (by rw [hb0]; exact h34) hcT
      have h9 := next_3t J j (j + (s.extract k e).size) w (by omega) (by have h : j + (s.extract k e).size ≤ J.size := hz2; omega) hr2 (by rw [hx]; exact hm)
      rw [hx] at h9
      exact h9
   | false =>
    have hr := rch_4l h1 h2 h3
    obtain ⟨e, he⟩ : ∃ e, (if k + 2 ≤ s.size ∧ symb (s.extract k (k + 2)) = true then k + 2 else k + 1) = e := ⟨_, rfl⟩
    rw [he] at hr
    rw [hr] at hrg
    simp only at hrg
    have hke := rch_4 hr
    have hz := size_ext (s := s) (k := k) hrg.2
    have hm := fun w => meaning_4 (s.extract k e) w
    cases ho : symb (s.extract k e) with
    | false =>
     simp only [ho] at hm
     exact Or.inr (fun w => next_4f s k e w hs47 hk hr hm)
    | true =>
     simp only [ho] at hm
     have hok := sys_ok _ (sym_mem ho)
     rw [← bt_tn] at hok
     refine Or.inl ⟨e, ⟨4, s.extract k e, .int .i64 0, .bool false, .int .u64 0, .int .u64 0, .int .u64 0, .int .u64 0, .int .i64 0, .bool false, .string ⟨#[]⟩, .int .i64 0⟩, hke, hrg.2, rfl, ⟨fun _ => rfl, fun _ w => q37s _ _ _ _ _ _ _ _ _ _ _ _ _ w, (by show 0 < (s.extract k e).size; omega), (by show isb (bt (s.extract k e) 0) = false ∧ _; exact ⟨hok.2.2.2.2.1, hok.2.2.2.2.2.1⟩), fun J j hJ hz2 hx hF w => ?_⟩, fun w => next_4t s k e w hs47 hk hr hm⟩
     have hr2 := rch_w4 hx hz2 hF ho
     have h9 := next_4t J j (j + (s.extract k e).size) w (by omega) (by have h : j + (s.extract k e).size ≤ J.size := hz2; omega) hr2 (by rw [hx]; exact hm)
     rw [hx] at h9
     exact h9
end Go.Proofs.YthgknegocfhdbaaDoor.V
/-
 Words, put together with a blank between two, are the same words.
-/
namespace Go.Proofs.YthgknegocfhdbaaDoor.V
open Go.RowKit
inductive Sb (s : ByteArray) : Nat → List Tk → List Nat → Prop
 | done {k : Nat} (h : ¬ k < s.size) : Sb s k [] []
 | tok {k e : Nat} {t : Tk} {W : List Tk} {ps : List Nat} (h : k < s.size) (hw : Wk s k e t) (hr : Sb s (blk s e) W ps) : Sb s k (t :: W) (k :: ps)
def cz (W : List Tk) (ps : List Nat) : List (List Value) := List.zipWith Tk.cells W ps
theorem sc_wk {s : ByteArray} {k e : Nat} {t : Tk} {L : List (List Value)} {p : Nat} {E : Int} (h : k < s.size) (hw : Wk s k e t) (hr : Sc s (blk s e) L p E) : Sc s k (t.cells k :: L) p E := by
 obtain ⟨K, T, v0, v1, v2, v3, v4, v5, v6, v7, v8, v9⟩ := t
 have ht : T = s.extract k e := hw.tx
 subst ht
 exact Sc.tok h hw.lt hw.le (hw.wd.oc k) hw.n1 hr
theorem Sb.sc {s : ByteArray} {k : Nat} {W : List Tk} {ps : List Nat} (h : Sb s k W ps) : Sc s k (cz W ps) 0 0 := by
 induction h with
 | done h => exact Sc.done h
 | tok h hw _ ih => exact sc_wk h hw ih
theorem Sb.len {s : ByteArray} {k : Nat} {W : List Tk} {ps : List Nat} (h : Sb s k W ps) : ps.length = W.length := by
 induction h with
 | done => rfl
 | tok _ _ _ ih => rw [List.length_cons, List.length_cons, ih]
theorem Sb.wd {s : ByteArray} {k : Nat} {W : List Tk} {ps : List Nat} (h : Sb s k W ps) : ∀ t ∈ W, Wd t := by
 induction h with
 | done => intro t ht; cases ht
 | tok _ hw _ ih =>
  intro t ht
  rcases List.mem_cons.1 ht with rfl | ht
  ·exact hw.wd
  ·exact ih t ht
theorem sb_ex (s : ByteArray) (hs : s.size ≤ 16384) : ∀ (d k : Nat), s.size - k ≤ d → k ≤ s.size → (∃ W ps, Sb s k W ps) ∨ (∃ L p, Sc s k L p 70) := by
 intro d
 induction d with
 | zero => intro k hd hk; exact Or.inl ⟨_, _, Sb.done (by omega)⟩
 | succ d ih =>
  intro k hd hk9
  by_cases hk : k < s.size
  ·rcases wd_of s hs k hk with ⟨e, t, hw⟩ | hn
   ·have hbl := blk_rg s _ e (Nat.le_refl _) hw.le
    have := hw.lt
    rcases ih (blk s e) (by omega) hbl.2 with ⟨W, ps, h⟩ | ⟨L, p, h⟩
    ·exact Or.inl ⟨_, _, Sb.tok hk hw h⟩
    ·exact Or.inr ⟨_, _, sc_wk hk hw h⟩
   ·exact Or.inr ⟨_, _, Sc.err hk hn⟩
  ·exact Or.inl ⟨_, _, Sb.done hk⟩
def jt (W : List Tk) : List UInt8 := W.flatMap (fun t => 32 :: by8 t.T)
def jl : List Tk → List UInt8
 | [] => []
 | t :: W => by8 t.T ++ jt W
theorem jt_cons (t : Tk) (W : List Tk) : jt (t :: W) = 32 :: by8 t.T ++ jt W := by simp [jt]
theorem jt_app (A B : List Tk) : jt (A ++ B) = jt A ++ jt B := by simp [jt]
theorem jl_join (W : List Tk) : Lib.join (W.map (fun t => by8 t.T)) [32] = jl W := by
 cases W with
 | nil => rfl
 | cons t W =>
  rw [List.map_cons, Lib.join_cons]
  show by8 t.T ++ Lib.joinTail [32] (W.map (fun t => by8 t.T)) = by8 t.T ++ jt W
  unfold Lib.joinTail jt
  rw [List.map_map, List.flatMap_def]; rfl
theorem jl_snoc {D : List Tk} (h : D ≠ []) (t : Tk) : jl (D ++ [t]) = jl D ++ [32] ++ by8 t.T := by
 cases D with
 | nil => exact absurd rfl h
 | cons x D =>
  show by8 x.T ++ jt (D ++ [t]) = by8 x.T ++ jt D ++ [32] ++ by8 t.T
  rw [jt_app, jt_cons]
  simp [jt]
theorem jl_one (t : Tk) : jl [t] = by8 t.T := by
 show by8 t.T ++ jt [] = by8 t.T
 simp [jt]
theorem Sb.jt_le {s : ByteArray} {k : Nat} {W : List Tk} {ps : List Nat} (h : Sb s k W ps) : (jt W).length ≤ 2 * (s.size - k) := by
 induction h with
 | done => exact Nat.zero_le _
 | @tok k e t W ps h hw _ ih =>
  have hbl := blk_rg s _ e (Nat.le_refl _) hw.le
  have h1 := hw.lt
  have h2 := hw.le
  have hz : t.T.size = e - k := by rw [hw.tx]; exact size_ext h2
  rw [jt_cons, List.length_append, List.length_cons, by8_len, hz]
  omega
theorem jl_le (W : List Tk) : (jl W).length ≤ (jt W).length := by
 cases W with
 | nil => exact Nat.zero_le _
 | cons t W => show (by8 t.T ++ jt W).length ≤ _; rw [jt_cons, List.length_append, List.length_append, List.length_cons]; omega
theorem bt_b {J : ByteArray} {A B : List UInt8} (h : by8 J = A ++ B) (i : Nat) : bt J (A.length + i) = tn (B[i]?) := by
 rw [bt_tn, h, List.getElem?_append_right (by omega), Nat.add_sub_cancel_left]
theorem wk_at {J : ByteArray} {t : Tk} {P Q : List UInt8} (hJ : J.size ≤ 16384) (ht : Wd t) (h : by8 J = P ++ (by8 t.T ++ Q)) (hF : Fe J (P.length + t.T.size)) : Wk J P.length (P.length + t.T.size) t := by
 have hl := congrArg List.length h
 rw [by8_len, List.length_append, List.length_append, by8_len] at hl
 have hx : J.extract P.length (P.length + t.T.size) = t.T := by
  apply by8_inj
  rw [by8_ext, h, List.drop_append_of_le_length (Nat.le_refl _), List.drop_length, List.nil_append, Nat.add_sub_cancel_left, List.take_append_of_le_length (by rw [by8_len]; exact Nat.le_refl _), List.take_of_length_le (by rw [by8_len]; exact Nat.le_refl _)]
 have hp := ht.pos
 exact ⟨by omega, by omega, hx.symm, ht, ht.nx J P.length hJ (by omega) hx hF⟩
theorem sb_join (J : ByteArray) (hJ : J.size ≤ 16384) : ∀ (W : List Tk) (t : Tk) (P : List UInt8), Wd t → (∀ x ∈ W, Wd x) → by8 J = P ++ (by8 t.T ++ jt W) → ∃ ps, Sb J P.length (t :: W) ps := by
 intro W
 induction W with
 | nil =>
  intro t P ht _ h
  have hl := congrArg List.length h
  rw [by8_len, List.length_append, List.length_append, by8_len] at hl
  have h0 : (jt []).length = 0 := rfl
  have hp := ht.pos
  refine ⟨_, Sb.tok (by omega) (wk_at hJ ht h (Or.inl (by omega))) (Sb.done ?_)⟩
  rw [blk_end (by omega)]; omega
 | cons t2 W ih =>
  intro t P ht hW h
  have ht2 := hW t2 (List.mem_cons_self ..)
  have hl := congrArg List.length h
  rw [by8_len, List.length_append, List.length_append, by8_len, jt_cons, List.length_append, List.length_cons, by8_len] at hl
  have hp := ht.pos
  have hp2 := ht2.pos
  have h2 : by8 J = (P ++ by8 t.T) ++ (32 :: (by8 t2.T ++ jt W)) := by rw [h, jt_cons]; simp
  have h3 : by8 J = (P ++ by8 t.T ++ [32]) ++ (by8 t2.T ++ jt W) := by rw [h, jt_cons]; simp
  have hlen : (P ++ by8 t.T).length = P.length + t.T.size := by rw [List.length_append, by8_len]
  have hlen3 : (P ++ by8 t.T ++ [32]).length = P.length + t.T.size + 1 := by rw [List.length_append, hlen]; rfl
  have hb32 : bt J (P.length + t.T.size) = 32 := by
   have := bt_b h2 0
   rw [Nat.add_zero, hlen] at this
   rw [this]; rfl
  have hbn : bt J (P.length + t.T.size + 1) = bt t2.T 0 := by
   have := bt_b h3 0
   rw [Nat.add_zero, hlen3] at this
   rw [this, bt_tn, List.getElem?_append_left (by rw [by8_len]; exact hp2)]
  obtain ⟨ps, hS⟩ := ih t2 (P ++ by8 t.T ++ [32]) ht2 (fun x hx => hW x (List.mem_cons_of_mem _ hx)) h3
  rw [hlen3] at hS
  refine ⟨P.length :: ps, Sb.tok (by omega) (wk_at hJ ht h (Or.inr hb32)) ?_⟩
  have hbk : blk J (P.length + t.T.size) = P.length + t.T.size + 1 := by
   rw [blk_b (by omega) (by rw [hb32]; rfl), blk_n (by rw [hbn]; exact ht2.fb.1) (by rw [hbn, ht2.fb.2]; rfl)]
  rw [hbk]
  exact hS
theorem sb_jl (W : List Tk) (hW : ∀ x ∈ W, Wd x) (hz : (jl W).length ≤ 16384) : ∃ ps, Sb ⟨(jl W).toArray⟩ (blk ⟨(jl W).toArray⟩ 0) W ps := by
 cases W with
 | nil =>
  refine ⟨_, Sb.done ?_⟩
  rw [sz_l]
  exact Nat.not_lt_zero _
 | cons t W =>
  have ht := hW t (List.mem_cons_self ..)
  obtain ⟨ps, hS⟩ := sb_join ⟨(jl (t :: W)).toArray⟩ (by rw [sz_l]; exact hz) W t [] ht (fun x hx => hW x (List.mem_cons_of_mem _ hx)) rfl
  have hb : bt ⟨(jl (t :: W)).toArray⟩ 0 = bt t.T 0 := by
   have hp := ht.pos
   have := bt_b (J := ⟨(jl (t :: W)).toArray⟩) (A := []) (B := by8 t.T ++ jt W) rfl 0
   rw [Nat.add_zero] at this
   rw [show (0 : Nat) = ([] : List UInt8).length from rfl, this, bt_tn, List.getElem?_append_left (by rw [by8_len]; exact hp)]; rfl
  refine ⟨ps, ?_⟩
  rw [blk_n (by rw [hb]; exact ht.fb.1) (by rw [hb, ht.fb.2]; rfl)]
  exact hS
end Go.Proofs.YthgknegocfhdbaaDoor.V
