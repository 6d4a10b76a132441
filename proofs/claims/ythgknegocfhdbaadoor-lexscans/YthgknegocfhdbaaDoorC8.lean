/-
  A part of the proof.
-/
import Derived.Test.YthgknegocfhdbaaDoorC7
/-
 lex.Next, kind by kind.
-/
namespace Go.Proofs.YthgknegocfhdbaaDoor.V
open Go.RowKit
theorem lp4 {i j q u : Nat} {a b c d e f g h : Value} (k1 : a = b) (k2 : c = d) (k3 : e = f) (k4 : g = h) : [(i, a), (j, c), (q, e), (u, g)] = [(i, b), (j, d), (q, f), (u, h)] := by rw [k1, k2, k3, k4]
theorem nme_rg (s : ByteArray) : ∀ (d k : Nat), d = s.size - k → k ≤ s.size → k ≤ nme s k ∧ nme s k ≤ s.size := by
 intro d
 induction d with
 | zero => intro k hd hk; rw [nme_end (by rw [bt_out (by omega)]; rfl)]; omega
 | succ d ih =>
  intro k hd hk
  cases h : (ltr (bt s k) || dgt (bt s k)) with
  | true => rw [nme_on h]; have := ih (k + 1) (by omega) (by omega); omega
  | false => rw [nme_end h]; omega
theorem cl_rg (s : ByteArray) : ∀ (d k : Nat), s.size - k ≤ d → ∀ e, cl s k = some e → k < e ∧ e ≤ s.size := by
 intro d
 induction d with
 | zero => intro k hd e he; rw [cl_end (by omega)] at he; cases he
 | succ d ih =>
  intro k hd e he
  by_cases h : k < s.size
  ·cases h2 : (bt s k == 92) with
   | true => rw [cl_e h h2] at he; have := ih (k + 2) (by omega) e he; omega
   | false =>
    cases h3 : (bt s k == 34) with
    | true => rw [cl_q h h2 h3] at he; cases he; omega
    | false => rw [cl_o h h2 h3] at he; have := ih (k + 1) (by omega) e he; omega
  ·rw [cl_end h] at he; cases he
theorem rch_rg {s : ByteArray} {k : Nat} (hk : k < s.size) : k ≤ (rch s k).2 ∧ (rch s k).2 ≤ s.size := by
 unfold rch
 split
 ·have := nme_rg s _ (k + 1) rfl (by omega)
  show k ≤ nme s (k + 1) ∧ nme s (k + 1) ≤ s.size
  omega
 ·split
  ·have := pfx_le (s.extract k s.size)
   rw [ByteArray.size_extract, Nat.min_self] at this
   show k ≤ k + pfx (s.extract k s.size) ∧ k + pfx (s.extract k s.size) ≤ s.size
   omega
  ·split
   ·show k ≤ qte s k k ∧ qte s k k ≤ s.size
    rw [qte_cl s k _ k (Nat.le_refl _)]
    cases h : cl s (k + 1) with
    | none => show k ≤ k ∧ k ≤ s.size; omega
    | some e => have := cl_rg s _ (k + 1) (Nat.le_refl _) e h; show k ≤ e ∧ e ≤ s.size; omega
   ·show k ≤ (if k + 2 ≤ s.size ∧ symb (s.extract k (k + 2)) = true then k + 2 else k + 1) ∧ (if k + 2 ≤ s.size ∧ symb (s.extract k (k + 2)) = true then k + 2 else k + 1) ≤ s.size
    split <;> omega
theorem reach_c {s : ByteArray} {k K e : Nat} (hr : rch s k = (K, e)) (w : World) (hs : s.size ≤ maxLen - 8) (hk : k < s.size) : Calls Tryd.prog 27 #[.string s, .int .i64 ((k : Nat) : Int)] w fun e' w' => e' = .returned (.tuple #[.int .i64 ((K : Nat) : Int), .int .i64 ((e : Nat) : Int)]) ∧ Mw w w' := by
 have h := wk (reach_n s k w hs hk)
 rw [hr] at h; exact h
theorem next_1t (s : ByteArray) (k e : Nat) (w : World) (hs : s.size ≤ 140737488355328) (hk : k < s.size) (hr : rch s k = (1, e)) (hm : ∀ w, Calls Tryd.prog 28 #[.int .i64 ((1 : Nat) : Int), .string (s.extract k e)] w fun e' w' => e' = .returned (.tuple #[.agg #[.int .i64 0, .bool false, .int .u64 0, .int .u64 0, .int .u64 0, .int .u64 0, .int .i64 0, .bool false, .string ⟨#[]⟩, .int .i64 0], .bool true]) ∧ Mw w w') : Calls Tryd.prog 12 #[.string s, .int .i64 ((k : Nat) : Int)] w fun e' w' => e' = .returned (.tuple #[.agg #[.int .i64 ((1 : Nat) : Int), .string (s.extract k e), .int .i64 0, .bool false, .int .u64 0, .int .u64 0, .int .u64 0, .int .u64 0, .int .i64 0, .bool false, .string ⟨#[]⟩, .int .i64 0, .int .i64 ((k : Nat) : Int)], .int .i64 0]) ∧ Mw w w' := by
 have hrg := rch_rg hk
 rw [hr] at hrg
 simp only at hrg
 refine w_enter 45 Tryd.func12 Tryd.ntmps12 rfl rfl ?_
 have M : Mw w w := Mw.refl _
 refine w_seq (w_reg ?_)
 refine wl_alloc 37 #[.int .i64 0, .string ⟨#[]⟩, .int .i64 0, .bool false, .int .u64 0, .int .u64 0, .int .u64 0, .int .u64 0, .int .i64 0, .bool false, .string ⟨#[]⟩, .int .i64 0, .int .i64 0] rfl (fun _ => by kernel_rfl) rfl ?_
 intro k1 w1 hk hz hq Q1
 have N_k1 : w.heap.size ≤ k1 := by have := M.size; omega
 replace M := M.trans hq
 clear hk hz hq
 refine wl_m (.const (.int .i64 (0))) (.int .i64 (0)) ?_
 refine w_nil (xn_then (w_seq (w_seq (w_reg ?_))))
 refine wl_m (.tmp 1) (.int .i64 ((k : Nat) : Int)) ?_
 refine wl_b .lss 3 (.tmp 10) (.const (.int .i64 (0))) (.int .i64 ((k : Nat) : Int)) (.int .i64 (0)) (.bool false) (lt3_run (r := false) (decide_eq_false (by omega)) _ _ _) ?_
 refine wl_m (.tmp 11) (.bool false) ?_
 refine wl_m (.tmp 1) (.int .i64 ((k : Nat) : Int)) ?_
 refine wl_m (.tmp 0) (.string s) ?_
 refine wl_val (.int .i64 ((s.size : Nat) : Int)) (len_s _ _ s (by exact rfl) _ _ _ _ _ _) rfl ?_
 refine wl_b .geq 3 (.tmp 13) (.tmp 15) (.int .i64 ((k : Nat) : Int)) (.int .i64 ((s.size : Nat) : Int)) (.bool false) (geN (decide_eq_false (by omega)) _ _ _) ?_
 refine wl_pick (.tmp 12) (.const (.bool true)) (.tmp 16) false (.bool false) (fun _ => rfl) rfl rfl rfl ?_
 refine w_nil (xn_then (w_condF rfl (w_skip (xn_then (w_seq (w_reg ?_))))))
 refine wl_m (.tmp 0) (.string s) ?_
 refine wl_m (.tmp 1) (.int .i64 ((k : Nat) : Int)) ?_
 refine wl_call 27 [(.tmp 20), (.tmp 21)] _ [.string s, .int .i64 ((k : Nat) : Int)] (.tuple #[.int .i64 ((1 : Nat) : Int), .int .i64 ((e : Nat) : Int)]) rfl rfl (fun _ _ => by kernel_rfl) (reach_c hr _ (by unfold maxLen; omega) hk) rfl ?_
 intro w2 hq
 replace Q1 := Q1.mo hq
 replace M := M.trans hq
 clear hq
 refine wl_m (.tmp 22) (.tuple #[.int .i64 ((1 : Nat) : Int), .int .i64 ((e : Nat) : Int)]) ?_
 refine wl_un (fun v => Instr.extract v 0) (.tmp 19) (.tuple #[.int .i64 ((1 : Nat) : Int), .int .i64 ((e : Nat) : Int)]) (.int .i64 ((1 : Nat) : Int)) (fun _ => rfl) rfl (by kernel_rfl) rfl ?_
 refine wl_un (fun v => Instr.extract v 1) (.tmp 19) (.tuple #[.int .i64 ((1 : Nat) : Int), .int .i64 ((e : Nat) : Int)]) (.int .i64 ((e : Nat) : Int)) (fun _ => rfl) rfl (by kernel_rfl) rfl ?_
 refine wl_m (.tmp 23) (.int .i64 ((1 : Nat) : Int)) ?_
 refine wl_m (.tmp 24) (.int .i64 ((e : Nat) : Int)) ?_
 refine w_nil (xn_then (w_seq (w_reg ?_)))
 refine wl_m (.tmp 6) (.int .i64 ((1 : Nat) : Int)) ?_
 refine wl_m (.tmp 0) (.string s) ?_
 refine wl_m (.tmp 1) (.int .i64 ((k : Nat) : Int)) ?_
 refine wl_m (.tmp 7) (.int .i64 ((e : Nat) : Int)) ?_
 refine wl_val (.string (s.extract k e)) (mid_run _ _ _ _ s (k) (e) (by exact rfl) (by exact rfl) (by exact rfl) (by omega) (by omega) _ _ _ _ _ _) rfl ?_
 refine wl_call 28 [(.tmp 26), (.tmp 30)] _ [.int .i64 ((1 : Nat) : Int), .string (s.extract k e)] (.tuple #[.agg #[.int .i64 0, .bool false, .int .u64 0, .int .u64 0, .int .u64 0, .int .u64 0, .int .i64 0, .bool false, .string ⟨#[]⟩, .int .i64 0], .bool true]) rfl rfl (fun _ _ => by kernel_rfl) (hm _) rfl ?_
 intro w3 hq
 replace Q1 := Q1.mo hq
 replace M := M.trans hq
 clear hq
 refine wl_m (.tmp 31) (.tuple #[.agg #[.int .i64 0, .bool false, .int .u64 0, .int .u64 0, .int .u64 0, .int .u64 0, .int .i64 0, .bool false, .string ⟨#[]⟩, .int .i64 0], .bool true]) ?_
 refine wl_un (fun v => Instr.extract v 0) (.tmp 25) (.tuple #[.agg #[.int .i64 0, .bool false, .int .u64 0, .int .u64 0, .int .u64 0, .int .u64 0, .int .i64 0, .bool false, .string ⟨#[]⟩, .int .i64 0], .bool true]) (.agg #[.int .i64 0, .bool false, .int .u64 0, .int .u64 0, .int .u64 0, .int .u64 0, .int .i64 0, .bool false, .string ⟨#[]⟩, .int .i64 0]) (fun _ => rfl) rfl (by kernel_rfl) rfl ?_
 refine wl_un (fun v => Instr.extract v 1) (.tmp 25) (.tuple #[.agg #[.int .i64 0, .bool false, .int .u64 0, .int .u64 0, .int .u64 0, .int .u64 0, .int .i64 0, .bool false, .string ⟨#[]⟩, .int .i64 0], .bool true]) (.bool true) (fun _ => rfl) rfl (by kernel_rfl) rfl ?_
 refine wl_alloc 35 #[.int .i64 0, .bool false, .int .u64 0, .int .u64 0, .int .u64 0, .int .u64 0, .int .i64 0, .bool false, .string ⟨#[]⟩, .int .i64 0] rfl (fun _ => by kernel_rfl) rfl ?_
 intro k2 w4 hk hz hq Q2
 have ne_k1_k2 : k1 ≠ k2 := by have := Q1.lt; omega
 have N_k2 : w.heap.size ≤ k2 := by have := M.size; omega
 replace Q1 := Q1.mo hq
 replace M := M.trans hq
 clear hk hz hq
 refine wl_st 35 (.tmp 8) (.tmp 32) k2 0 #[.int .i64 0, .bool false, .int .u64 0, .int .u64 0, .int .u64 0, .int .u64 0, .int .i64 0, .bool false, .string ⟨#[]⟩, .int .i64 0] _ [.int .i64 0, .bool false, .int .u64 0, .int .u64 0, .int .u64 0, .int .u64 0, .int .i64 0, .bool false, .string ⟨#[]⟩, .int .i64 0] Q2 rfl rfl rfl rfl rfl sz35 rfl rfl rfl ?_
 intro w5 hS Qn
 replace Q2 := Qn
 clear Qn
 replace Q1 := hS.other _ _ ne_k1_k2 Q1
 replace M := hS.mo _ N_k2 M
 clear hS
 refine wl_m (.tmp 33) (.bool true) ?_
 refine w_nil (xn_then (w_seq (w_seq (w_reg ?_))))
 refine wl_m (.tmp 9) (.bool true) ?_
 refine wl_un (fun v => Op.unary .not v) (.tmp 34) (.bool true) (.bool false) (fun _ => rfl) rfl (by kernel_rfl) rfl ?_
 refine w_nil (xn_then (w_condF rfl (w_skip (xn_then (w_seq ?_)))))
 refine w_any 8 [.inl (.int .i64 ((1 : Nat) : Int)), .inl (.string s), .inl (.int .i64 ((k : Nat) : Int)), .inl (.int .i64 ((e : Nat) : Int)), .inl (.string (s.extract k e)), .inl (.agg #[.int .i64 0, .bool false, .int .u64 0, .int .u64 0, .int .u64 0, .int .u64 0, .int .i64 0, .bool false, .string ⟨#[]⟩, .int .i64 0]), .inl (.int .i64 ((k : Nat) : Int)), .inl (.agg #[.int .i64 ((1 : Nat) : Int), .string (s.extract k e), .int .i64 0, .bool false, .int .u64 0, .int .u64 0, .int .u64 0, .int .u64 0, .int .i64 0, .bool false, .string ⟨#[]⟩, .int .i64 0, .int .i64 ((k : Nat) : Int)])] [] (by kernel_rfl) (by kernel_rfl) (by kernel_rfl) (by kernel_rfl) rfl (by kernel_rfl) (by kernel_rfl) late_nil ?_ ?_ ?_
 ·exact Ds.none rfl
 ·refine ea_cons ?_ (ea_cons ?_ (ea_cons ?_ (ea_cons ?_ (ea_cons ?_ (ea_cons ?_ (ea_cons ?_ (ea_cons ?_ (ea_nil))))))))
  ·exact og_eq _ rfl (fun f wf hq hd K hK => go_run rfl (wo_mv (.tmp 6) (.int .i64 ((1 : Nat) : Int)) (fun _ => rfl) rfl (hK _ (Mw.refl _))))
  ·exact og_eq _ rfl (fun f wf hq hd K hK => go_run rfl (wo_mv (.tmp 0) (.string s) (fun _ => rfl) rfl (hK _ (Mw.refl _))))
  ·exact og_eq _ rfl (fun f wf hq hd K hK => go_run rfl (wo_mv (.tmp 1) (.int .i64 ((k : Nat) : Int)) (fun _ => rfl) rfl (hK _ (Mw.refl _))))
  ·exact og_eq _ rfl (fun f wf hq hd K hK => go_run rfl (wo_mv (.tmp 7) (.int .i64 ((e : Nat) : Int)) (fun _ => rfl) rfl (hK _ (Mw.refl _))))
  ·exact og_eq _ rfl (fun f wf hq hd K hK => go_run rfl (wo_val (.string (s.extract k e)) (mid_run _ _ _ _ s (k) (e) (by exact (hd 1 rfl)) (by exact (hd 2 rfl)) (by exact (hd 3 rfl)) (by omega) (by omega) _ _ _ _ _ _) (hK _ (Mw.refl _))))
  ·exact og_eq _ rfl (fun f wf hq hd K hK => have Q2 := Q2.mo hq; go_run rfl (wo_load 35 (.tmp 8) (pt k2 0) (.agg #[.int .i64 0, .bool false, .int .u64 0, .int .u64 0, .int .u64 0, .int .u64 0, .int .i64 0, .bool false, .string ⟨#[]⟩, .int .i64 0]) rfl rfl (run_row Q2 35 0 10 _ rfl Tryd.underlying35 rfl sz35) (hK _ (Mw.refl _))))
  ·exact og_eq _ rfl (fun f wf hq hd K hK => go_run rfl (wo_mv (.tmp 1) (.int .i64 ((k : Nat) : Int)) (fun _ => rfl) rfl (hK _ (Mw.refl _))))
  ·exact og_eq _ rfl (fun f wf hq hd K hK => go_run rfl (wo_build 37 [(0, (.tmp 37)), (1, (.tmp 41)), (2, (.tmp 42)), (3, (.tmp 43))] [(0, .int .i64 ((1 : Nat) : Int)), (1, .string (s.extract k e)), (2, .agg #[.int .i64 0, .bool false, .int .u64 0, .int .u64 0, .int .u64 0, .int .u64 0, .int .i64 0, .bool false, .string ⟨#[]⟩, .int .i64 0]), (3, .int .i64 ((k : Nat) : Int))] (.agg #[.int .i64 ((1 : Nat) : Int), .string (s.extract k e), .int .i64 0, .bool false, .int .u64 0, .int .u64 0, .int .u64 0, .int .u64 0, .int .i64 0, .bool false, .string ⟨#[]⟩, .int .i64 0, .int .i64 ((k : Nat) : Int)]) rfl (lp4 (hd 0 rfl) (hd 4 rfl) (hd 5 rfl) (hd 6 rfl)) (by kernel_rfl) (hK _ (Mw.refl _))))
 intro kf6 w6 hq hR hne
 replace Q1 := Q1.mo hq
 replace Q2 := Q2.mo hq
 replace M := M.trans hq
 clear hq hR hne
 refine wl_st 37 (.tmp 4) (.tmp 44) k1 0 #[.int .i64 ((1 : Nat) : Int), .string (s.extract k e), .int .i64 0, .bool false, .int .u64 0, .int .u64 0, .int .u64 0, .int .u64 0, .int .i64 0, .bool false, .string ⟨#[]⟩, .int .i64 0, .int .i64 ((k : Nat) : Int)] _ [.int .i64 ((1 : Nat) : Int), .string (s.extract k e), .int .i64 0, .bool false, .int .u64 0, .int .u64 0, .int .u64 0, .int .u64 0, .int .i64 0, .bool false, .string ⟨#[]⟩, .int .i64 0, .int .i64 ((k : Nat) : Int)] Q1 rfl rfl rfl rfl rfl sz37 rfl rfl rfl ?_
 intro w7 hS Qn
 replace Q1 := Qn
 clear Qn
 replace Q2 := hS.other _ _ ne_k1_k2.symm Q2
 replace M := hS.mo _ N_k1 M
 clear hS
 refine wl_m (.const (.int .i64 (0))) (.int .i64 (0)) ?_
 refine w_nil (xn_then (w_ret ?_))
 exact w_ret2 _ _ (.agg #[.int .i64 ((1 : Nat) : Int), .string (s.extract k e), .int .i64 0, .bool false, .int .u64 0, .int .u64 0, .int .u64 0, .int .u64 0, .int .i64 0, .bool false, .string ⟨#[]⟩, .int .i64 0, .int .i64 ((k : Nat) : Int)]) (.int .i64 (0)) rfl ⟨k1, rfl, (run_row Q1 37 0 13 _ rfl Tryd.underlying37 rfl sz37)⟩ rfl ⟨rfl, M⟩
theorem next_1f (s : ByteArray) (k e : Nat) (w : World) (hs : s.size ≤ 140737488355328) (hk : k < s.size) (hr : rch s k = (1, e)) (hm : ∀ w, Calls Tryd.prog 28 #[.int .i64 ((1 : Nat) : Int), .string (s.extract k e)] w fun e' w' => e' = .returned (.tuple #[.agg #[.int .i64 0, .bool false, .int .u64 0, .int .u64 0, .int .u64 0, .int .u64 0, .int .i64 0, .bool false, .string ⟨#[]⟩, .int .i64 0], .bool false]) ∧ Mw w w') : Calls Tryd.prog 12 #[.string s, .int .i64 ((k : Nat) : Int)] w fun e' w' => e' = .returned (.tuple #[.agg #[.int .i64 0, .string ⟨#[]⟩, .int .i64 0, .bool false, .int .u64 0, .int .u64 0, .int .u64 0, .int .u64 0, .int .i64 0, .bool false, .string ⟨#[]⟩, .int .i64 0, .int .i64 0], .int .i64 70]) ∧ Mw w w' := by
 have hrg := rch_rg hk
 rw [hr] at hrg
 simp only at hrg
 refine w_enter 45 Tryd.func12 Tryd.ntmps12 rfl rfl ?_
 have M : Mw w w := Mw.refl _
 refine w_seq (w_reg ?_)
 refine wl_alloc 37 #[.int .i64 0, .string ⟨#[]⟩, .int .i64 0, .bool false, .int .u64 0, .int .u64 0, .int .u64 0, .int .u64 0, .int .i64 0, .bool false, .string ⟨#[]⟩, .int .i64 0, .int .i64 0] rfl (fun _ => by kernel_rfl) rfl ?_
 intro k1 w1 hk hz hq Q1
 have N_k1 : w.heap.size ≤ k1 := by have := M.size; omega
 replace M := M.trans hq
 clear hk hz hq
 refine wl_m (.const (.int .i64 (0))) (.int .i64 (0)) ?_
 refine w_nil (xn_then (w_seq (w_seq (w_reg ?_))))
 refine wl_m (.tmp 1) (.int .i64 ((k : Nat) : Int)) ?_
 refine wl_b .lss 3 (.tmp 10) (.const (.int .i64 (0))) (.int .i64 ((k : Nat) : Int)) (.int .i64 (0)) (.bool false) (lt3_run (r := false) (decide_eq_false (by omega)) _ _ _) ?_
 refine wl_m (.tmp 11) (.bool false) ?_
 refine wl_m (.tmp 1) (.int .i64 ((k : Nat) : Int)) ?_
 refine wl_m (.tmp 0) (.string s) ?_
 refine wl_val (.int .i64 ((s.size : Nat) : Int)) (len_s _ _ s (by exact rfl) _ _ _ _ _ _) rfl ?_
 refine wl_b .geq 3 (.tmp 13) (.tmp 15) (.int .i64 ((k : Nat) : Int)) (.int .i64 ((s.size : Nat) : Int)) (.bool false) (geN (decide_eq_false (by omega)) _ _ _) ?_
 refine wl_pick (.tmp 12) (.const (.bool true)) (.tmp 16) false (.bool false) (fun _ => rfl) rfl rfl rfl ?_
 refine w_nil (xn_then (w_condF rfl (w_skip (xn_then (w_seq (w_reg ?_))))))
 refine wl_m (.tmp 0) (.string s) ?_
 refine wl_m (.tmp 1) (.int .i64 ((k : Nat) : Int)) ?_
 refine wl_call 27 [(.tmp 20), (.tmp 21)] _ [.string s, .int .i64 ((k : Nat) : Int)] (.tuple #[.int .i64 ((1 : Nat) : Int), .int .i64 ((e : Nat) : Int)]) rfl rfl (fun _ _ => by kernel_rfl) (reach_c hr _ (by unfold maxLen; omega) hk) rfl ?_
 intro w2 hq
 replace Q1 := Q1.mo hq
 replace M := M.trans hq
 clear hq
 refine wl_m (.tmp 22) (.tuple #[.int .i64 ((1 : Nat) : Int), .int .i64 ((e : Nat) : Int)]) ?_
 refine wl_un (fun v => Instr.extract v 0) (.tmp 19) (.tuple #[.int .i64 ((1 : Nat) : Int), .int .i64 ((e : Nat) : Int)]) (.int .i64 ((1 : Nat) : Int)) (fun _ => rfl) rfl (by kernel_rfl) rfl ?_
 refine wl_un (fun v => Instr.extract v 1) (.tmp 19) (.tuple #[.int .i64 ((1 : Nat) : Int), .int .i64 ((e : Nat) : Int)]) (.int .i64 ((e : Nat) : Int)) (fun _ => rfl) rfl (by kernel_rfl) rfl ?_
 refine wl_m (.tmp 23) (.int .i64 ((1 : Nat) : Int)) ?_
 refine wl_m (.tmp 24) (.int .i64 ((e : Nat) : Int)) ?_
 refine w_nil (xn_then (w_seq (w_reg ?_)))
 refine wl_m (.tmp 6) (.int .i64 ((1 : Nat) : Int)) ?_
 refine wl_m (.tmp 0) (.string s) ?_
 refine wl_m (.tmp 1) (.int .i64 ((k : Nat) : Int)) ?_
 refine wl_m (.tmp 7) (.int .i64 ((e : Nat) : Int)) ?_
 refine wl_val (.string (s.extract k e)) (mid_run _ _ _ _ s (k) (e) (by exact rfl) (by exact rfl) (by exact rfl) (by omega) (by omega) _ _ _ _ _ _) rfl ?_
 refine wl_call 28 [(.tmp 26), (.tmp 30)] _ [.int .i64 ((1 : Nat) : Int), .string (s.extract k e)] (.tuple #[.agg #[.int .i64 0, .bool false, .int .u64 0, .int .u64 0, .int .u64 0, .int .u64 0, .int .i64 0, .bool false, .string ⟨#[]⟩, .int .i64 0], .bool false]) rfl rfl (fun _ _ => by kernel_rfl) (hm _) rfl ?_
 intro w3 hq
 replace Q1 := Q1.mo hq
 replace M := M.trans hq
 clear hq
 refine wl_m (.tmp 31) (.tuple #[.agg #[.int .i64 0, .bool false, .int .u64 0, .int .u64 0, .int .u64 0, .int .u64 0, .int .i64 0, .bool false, .string ⟨#[]⟩, .int .i64 0], .bool false]) ?_
 refine wl_un (fun v => Instr.extract v 0) (.tmp 25) (.tuple #[.agg #[.int .i64 0, .bool false, .int .u64 0, .int .u64 0, .int .u64 0, .int .u64 0, .int .i64 0, .bool false, .string ⟨#[]⟩, .int .i64 0], .bool false]) (.agg #[.int .i64 0, .bool false, .int .u64 0, .int .u64 0, .int .u64 0, .int .u64 0, .int .i64 0, .bool false, .string ⟨#[]⟩, .int .i64 0]) (fun _ => rfl) rfl (by kernel_rfl) rfl ?_
 refine wl_un (fun v => Instr.extract v 1) (.tmp 25) (.tuple #[.agg #[.int .i64 0, .bool false, .int .u64 0, .int .u64 0, .int .u64 0, .int .u64 0, .int .i64 0, .bool false, .string ⟨#[]⟩, .int .i64 0], .bool false]) (.bool false) (fun _ => rfl) rfl (by kernel_rfl) rfl ?_
 refine wl_alloc 35 #[.int .i64 0, .bool false, .int .u64 0, .int .u64 0, .int .u64 0, .int .u64 0, .int .i64 0, .bool false, .string ⟨#[]⟩, .int .i64 0] rfl (fun _ => by kernel_rfl) rfl ?_
 intro k2 w4 hk hz hq Q2
 have ne_k1_k2 : k1 ≠ k2 := by have := Q1.lt; omega
 have N_k2 : w.heap.size ≤ k2 := by have := M.size; omega
 replace Q1 := Q1.mo hq
 replace M := M.trans hq
 clear hk hz hq
 refine wl_st 35 (.tmp 8) (.tmp 32) k2 0 #[.int .i64 0, .bool false, .int .u64 0, .int .u64 0, .int .u64 0, .int .u64 0, .int .i64 0, .bool false, .string ⟨#[]⟩, .int .i64 0] _ [.int .i64 0, .bool false, .int .u64 0, .int .u64 0, .int .u64 0, .int .u64 0, .int .i64 0, .bool false, .string ⟨#[]⟩, .int .i64 0] Q2 rfl rfl rfl rfl rfl sz35 rfl rfl rfl ?_
 intro w5 hS Qn
 replace Q2 := Qn
 clear Qn
 replace Q1 := hS.other _ _ ne_k1_k2 Q1
 replace M := hS.mo _ N_k2 M
 clear hS
 refine wl_m (.tmp 33) (.bool false) ?_
 refine w_nil (xn_then (w_seq (w_seq (w_reg ?_))))
 refine wl_m (.tmp 9) (.bool false) ?_
 refine wl_un (fun v => Op.unary .not v) (.tmp 34) (.bool false) (.bool true) (fun _ => rfl) rfl (by kernel_rfl) rfl ?_
 refine w_nil (xn_then (w_condT rfl (w_seq (w_reg ?_))))
 refine wl_build 37 [] [] (.agg #[.int .i64 0, .string ⟨#[]⟩, .int .i64 0, .bool false, .int .u64 0, .int .u64 0, .int .u64 0, .int .u64 0, .int .i64 0, .bool false, .string ⟨#[]⟩, .int .i64 0, .int .i64 0]) rfl rfl (by kernel_rfl) rfl ?_
 refine wl_st 37 (.tmp 4) (.tmp 36) k1 0 #[.int .i64 0, .string ⟨#[]⟩, .int .i64 0, .bool false, .int .u64 0, .int .u64 0, .int .u64 0, .int .u64 0, .int .i64 0, .bool false, .string ⟨#[]⟩, .int .i64 0, .int .i64 0] _ [.int .i64 0, .string ⟨#[]⟩, .int .i64 0, .bool false, .int .u64 0, .int .u64 0, .int .u64 0, .int .u64 0, .int .i64 0, .bool false, .string ⟨#[]⟩, .int .i64 0, .int .i64 0] Q1 rfl rfl rfl rfl rfl sz37 rfl rfl rfl ?_
 intro w6 hS Qn
 replace Q1 := Qn
 clear Qn
 replace Q2 := hS.other _ _ ne_k1_k2.symm Q2
 replace M := hS.mo _ N_k1 M
 clear hS
 refine wl_m (.const (.int .i64 (70))) (.int .i64 (70)) ?_
 refine w_nil (xn_then (w_ret (xr_then ?_)))
 exact w_ret2 _ _ (.agg #[.int .i64 0, .string ⟨#[]⟩, .int .i64 0, .bool false, .int .u64 0, .int .u64 0, .int .u64 0, .int .u64 0, .int .i64 0, .bool false, .string ⟨#[]⟩, .int .i64 0, .int .i64 0]) (.int .i64 (70)) rfl ⟨k1, rfl, (run_row Q1 37 0 13 _ rfl Tryd.underlying37 rfl sz37)⟩ rfl ⟨rfl, M⟩
theorem next_2t (s : ByteArray) (k e : Nat) (b : Bool) (N : Int) (kk : Nat) (w : World) (hs : s.size ≤ 140737488355328) (hk : k < s.size) (hr : rch s k = (2, e)) (hm : ∀ w, Calls Tryd.prog 28 #[.int .i64 ((2 : Nat) : Int), .string (s.extract k e)] w fun e' w' => e' = .returned (.tuple #[.agg #[.int .i64 1, .bool b, .int .u64 (l0 (N)), .int .u64 (l1 (N)), .int .u64 (l2 (N)), .int .u64 (l3 (N)), .int .i64 ((kk : Int)), .bool false, .string ⟨#[]⟩, .int .i64 0], .bool true]) ∧ Mw w w') : Calls Tryd.prog 12 #[.string s, .int .i64 ((k : Nat) : Int)] w fun e' w' => e' = .returned (.tuple #[.agg #[.int .i64 ((2 : Nat) : Int), .string (s.extract k e), .int .i64 1, .bool b, .int .u64 (l0 (N)), .int .u64 (l1 (N)), .int .u64 (l2 (N)), .int .u64 (l3 (N)), .int .i64 ((kk : Int)), .bool false, .string ⟨#[]⟩, .int .i64 0, .int .i64 ((k : Nat) : Int)], .int .i64 0]) ∧ Mw w w' := by
 have hrg := rch_rg hk
 rw [hr] at hrg
 simp only at hrg
 refine w_enter 45 Tryd.func12 Tryd.ntmps12 rfl rfl ?_
 have M : Mw w w := Mw.refl _
 refine w_seq (w_reg ?_)
 refine wl_alloc 37 #[.int .i64 0, .string ⟨#[]⟩, .int .i64 0, .bool false, .int .u64 0, .int .u64 0, .int .u64 0, .int .u64 0, .int .i64 0, .bool false, .string ⟨#[]⟩, .int .i64 0, .int .i64 0] rfl (fun _ => by kernel_rfl) rfl ?_
 intro k1 w1 hk hz hq Q1
 have N_k1 : w.heap.size ≤ k1 := by have := M.size; omega
 replace M := M.trans hq
 clear hk hz hq
 refine wl_m (.const (.int .i64 (0))) (.int .i64 (0)) ?_
 refine w_nil (xn_then (w_seq (w_seq (w_reg ?_))))
 refine wl_m (.tmp 1) (.int .i64 ((k : Nat) : Int)) ?_
 refine wl_b .lss 3 (.tmp 10) (.const (.int .i64 (0))) (.int .i64 ((k : Nat) : Int)) (.int .i64 (0)) (.bool false) (lt3_run (r := false) (decide_eq_false (by omega)) _ _ _) ?_
 refine wl_m (.tmp 11) (.bool false) ?_
 refine wl_m (.tmp 1) (.int .i64 ((k : Nat) : Int)) ?_
 refine wl_m (.tmp 0) (.string s) ?_
 refine wl_val (.int .i64 ((s.size : Nat) : Int)) (len_s _ _ s (by exact rfl) _ _ _ _ _ _) rfl ?_
 refine wl_b .geq 3 (.tmp 13) (.tmp 15) (.int .i64 ((k : Nat) : Int)) (.int .i64 ((s.size : Nat) : Int)) (.bool false) (geN (decide_eq_false (by omega)) _ _ _) ?_
 refine wl_pick (.tmp 12) (.const (.bool true)) (.tmp 16) false (.bool false) (fun _ => rfl) rfl rfl rfl ?_
 refine w_nil (xn_then (w_condF rfl (w_skip (xn_then (w_seq (w_reg ?_))))))
 refine wl_m (.tmp 0) (.string s) ?_
 refine wl_m (.tmp 1) (.int .i64 ((k : Nat) : Int)) ?_
 refine wl_call 27 [(.tmp 20), (.tmp 21)] _ [.string s, .int .i64 ((k : Nat) : Int)] (.tuple #[.int .i64 ((2 : Nat) : Int), .int .i64 ((e : Nat) : Int)]) rfl rfl (fun _ _ => by kernel_rfl) (reach_c hr _ (by unfold maxLen; omega) hk) rfl ?_
 intro w2 hq
 replace Q1 := Q1.mo hq
 replace M := M.trans hq
 clear hq
 refine wl_m (.tmp 22) (.tuple #[.int .i64 ((2 : Nat) : Int), .int .i64 ((e : Nat) : Int)]) ?_
 refine wl_un (fun v => Instr.extract v 0) (.tmp 19) (.tuple #[.int .i64 ((2 : Nat) : Int), .int .i64 ((e : Nat) : Int)]) (.int .i64 ((2 : Nat) : Int)) (fun _ => rfl) rfl (by kernel_rfl) rfl ?_
 refine wl_un (fun v => Instr.extract v 1) (.tmp 19) (.tuple #[.int .i64 ((2 : Nat) : Int), .int .i64 ((e : Nat) : Int)]) (.int .i64 ((e : Nat) : Int)) (fun _ => rfl) rfl (by kernel_rfl) rfl ?_
 refine wl_m (.tmp 23) (.int .i64 ((2 : Nat) : Int)) ?_
 refine wl_m (.tmp 24) (.int .i64 ((e : Nat) : Int)) ?_
 refine w_nil (xn_then (w_seq (w_reg ?_)))
 refine wl_m (.tmp 6) (.int .i64 ((2 : Nat) : Int)) ?_
 refine wl_m (.tmp 0) (.string s) ?_
 refine wl_m (.tmp 1) (.int .i64 ((k : Nat) : Int)) ?_
 refine wl_m (.tmp 7) (.int .i64 ((e : Nat) : Int)) ?_
 refine wl_val (.string (s.extract k e)) (mid_run _ _ _ _ s (k) (e) (by exact rfl) (by exact rfl) (by exact rfl) (by omega) (by omega) _ _ _ _ _ _) rfl ?_
 refine wl_call 28 [(.tmp 26), (.tmp 30)] _ [.int .i64 ((2 : Nat) : Int), .string (s.extract k e)] (.tuple #[.agg #[.int .i64 1, .bool b, .int .u64 (l0 (N)), .int .u64 (l1 (N)), .int .u64 (l2 (N)), .int .u64 (l3 (N)), .int .i64 ((kk : Int)), .bool false, .string ⟨#[]⟩, .int .i64 0], .bool true]) rfl rfl (fun _ _ => by kernel_rfl) (hm _) rfl ?_
 intro w3 hq
 replace Q1 := Q1.mo hq
 replace M := M.trans hq
 clear hq
 refine wl_m (.tmp 31) (.tuple #[.agg #[.int .i64 1, .bool b, .int .u64 (l0 (N)), .int .u64 (l1 (N)), .int .u64 (l2 (N)), .int .u64 (l3 (N)), .int .i64 ((kk : Int)), .bool false, .string ⟨#[]⟩, .int .i64 0], .bool true]) ?_
 refine wl_un (fun v => Instr.extract v 0) (.tmp 25) (.tuple #[.agg #[.int .i64 1, .bool b, .int .u64 (l0 (N)), .int .u64 (l1 (N)), .int .u64 (l2 (N)), .int .u64 (l3 (N)), .int .i64 ((kk : Int)), .bool false, .string ⟨#[]⟩, .int .i64 0], .bool true]) (.agg #[.int .i64 1, .bool b, .int .u64 (l0 (N)), .int .u64 (l1 (N)), .int .u64 (l2 (N)), .int .u64 (l3 (N)), .int .i64 ((kk : Int)), .bool false, .string ⟨#[]⟩, .int .i64 0]) (fun _ => rfl) rfl (by kernel_rfl) rfl ?_
 refine wl_un (fun v => Instr.extract v 1) (.tmp 25) (.tuple #[.agg #[.int .i64 1, .bool b, .int .u64 (l0 (N)), .int .u64 (l1 (N)), .int .u64 (l2 (N)), .int .u64 (l3 (N)), .int .i64 ((kk : Int)), .bool false, .string ⟨#[]⟩, .int .i64 0], .bool true]) (.bool true) (fun _ => rfl) rfl (by kernel_rfl) rfl ?_
 refine wl_alloc 35 #[.int .i64 0, .bool false, .int .u64 0, .int .u64 0, .int .u64 0, .int .u64 0, .int .i64 0, .bool false, .string ⟨#[]⟩, .int .i64 0] rfl (fun _ => by kernel_rfl) rfl ?_
 intro k2 w4 hk hz hq Q2
 have ne_k1_k2 : k1 ≠ k2 := by have := Q1.lt; omega
 have N_k2 : w.heap.size ≤ k2 := by have := M.size; omega
 replace Q1 := Q1.mo hq
 replace M := M.trans hq
 clear hk hz hq
 refine wl_st 35 (.tmp 8) (.tmp 32) k2 0 #[.int .i64 1, .bool b, .int .u64 (l0 (N)), .int .u64 (l1 (N)), .int .u64 (l2 (N)), .int .u64 (l3 (N)), .int .i64 ((kk : Int)), .bool false, .string ⟨#[]⟩, .int .i64 0] _ [.int .i64 1, .bool b, .int .u64 (l0 (N)), .int .u64 (l1 (N)), .int .u64 (l2 (N)), .int .u64 (l3 (N)), .int .i64 ((kk : Int)), .bool false, .string ⟨#[]⟩, .int .i64 0] Q2 rfl rfl rfl rfl rfl sz35 rfl rfl rfl ?_
 intro w5 hS Qn
 replace Q2 := Qn
 clear Qn
 replace Q1 := hS.other _ _ ne_k1_k2 Q1
 replace M := hS.mo _ N_k2 M
 clear hS
 refine wl_m (.tmp 33) (.bool true) ?_
 refine w_nil (xn_then (w_seq (w_seq (w_reg ?_))))
 refine wl_m (.tmp 9) (.bool true) ?_
 refine wl_un (fun v => Op.unary .not v) (.tmp 34) (.bool true) (.bool false) (fun _ => rfl) rfl (by kernel_rfl) rfl ?_
 refine w_nil (xn_then (w_condF rfl (w_skip (xn_then (w_seq ?_)))))
 refine w_any 8 [.inl (.int .i64 ((2 : Nat) : Int)), .inl (.string s), .inl (.int .i64 ((k : Nat) : Int)), .inl (.int .i64 ((e : Nat) : Int)), .inl (.string (s.extract k e)), .inl (.agg #[.int .i64 1, .bool b, .int .u64 (l0 (N)), .int .u64 (l1 (N)), .int .u64 (l2 (N)), .int .u64 (l3 (N)), .int .i64 ((kk : Int)), .bool false, .string ⟨#[]⟩, .int .i64 0]), .inl (.int .i64 ((k : Nat) : Int)), .inl (.agg #[.int .i64 ((2 : Nat) : Int), .string (s.extract k e), .int .i64 1, .bool b, .int .u64 (l0 (N)), .int .u64 (l1 (N)), .int .u64 (l2 (N)), .int .u64 (l3 (N)), .int .i64 ((kk : Int)), .bool false, .string ⟨#[]⟩, .int .i64 0, .int .i64 ((k : Nat) : Int)])] [] (by kernel_rfl) (by kernel_rfl) (by kernel_rfl) (by kernel_rfl) rfl (by kernel_rfl) (by kernel_rfl) late_nil ?_ ?_ ?_
 ·exact Ds.none rfl
 ·refine ea_cons ?_ (ea_cons ?_ (ea_cons ?_ (ea_cons ?_ (ea_cons ?_ (ea_cons ?_ (ea_cons ?_ (ea_cons ?_ (ea_nil))))))))
  ·exact og_eq _ rfl (fun f wf hq hd K hK => go_run rfl (wo_mv (.tmp 6) (.int .i64 ((2 : Nat) : Int)) (fun _ => rfl) rfl (hK _ (Mw.refl _))))
  ·exact og_eq _ rfl (fun f wf hq hd K hK => go_run rfl (wo_mv (.tmp 0) (.string s) (fun _ => rfl) rfl (hK _ (Mw.refl _))))
  ·exact og_eq _ rfl (fun f wf hq hd K hK => go_run rfl (wo_mv (.tmp 1) (.int .i64 ((k : Nat) : Int)) (fun _ => rfl) rfl (hK _ (Mw.refl _))))
  ·exact og_eq _ rfl (fun f wf hq hd K hK => go_run rfl (wo_mv (.tmp 7) (.int .i64 ((e : Nat) : Int)) (fun _ => rfl) rfl (hK _ (Mw.refl _))))
  ·exact og_eq _ rfl (fun f wf hq hd K hK => go_run rfl (wo_val (.string (s.extract k e)) (mid_run _ _ _ _ s (k) (e) (by exact (hd 1 rfl)) (by exact (hd 2 rfl)) (by exact (hd 3 rfl)) (by omega) (by omega) _ _ _ _ _ _) (hK _ (Mw.refl _))))
  ·exact og_eq _ rfl (fun f wf hq hd K hK => have Q2 := Q2.mo hq; go_run rfl (wo_load 35 (.tmp 8) (pt k2 0) (.agg #[.int .i64 1, .bool b, .int .u64 (l0 (N)), .int .u64 (l1 (N)), .int .u64 (l2 (N)), .int .u64 (l3 (N)), .int .i64 ((kk : Int)), .bool false, .string ⟨#[]⟩, .int .i64 0]) rfl rfl (run_row Q2 35 0 10 _ rfl Tryd.underlying35 rfl sz35) (hK _ (Mw.refl _))))
  ·exact og_eq _ rfl (fun f wf hq hd K hK => go_run rfl (wo_mv (.tmp 1) (.int .i64 ((k : Nat) : Int)) (fun _ => rfl) rfl (hK _ (Mw.refl _))))
  ·exact og_eq _ rfl (fun f wf hq hd K hK => go_run rfl (wo_build 37 [(0, (.tmp 37)), (1, (.tmp 41)), (2, (.tmp 42)), (3, (.tmp 43))] [(0, .int .i64 ((2 : Nat) : Int)), (1, .string (s.extract k e)), (2, .agg #[.int .i64 1, .bool b, .int .u64 (l0 (N)), .int .u64 (l1 (N)), .int .u64 (l2 (N)), .int .u64 (l3 (N)), .int .i64 ((kk : Int)), .bool false, .string ⟨#[]⟩, .int .i64 0]), (3, .int .i64 ((k : Nat) : Int))] (.agg #[.int .i64 ((2 : Nat) : Int), .string (s.extract k e), .int .i64 1, .bool b, .int .u64 (l0 (N)), .int .u64 (l1 (N)), .int .u64 (l2 (N)), .int .u64 (l3 (N)), .int .i64 ((kk : Int)), .bool false, .string ⟨#[]⟩, .int .i64 0, .int .i64 ((k : Nat) : Int)]) rfl (lp4 (hd 0 rfl) (hd 4 rfl) (hd 5 rfl) (hd 6 rfl)) (by kernel_rfl) (hK _ (Mw.refl _))))
 intro kf6 w6 hq hR hne
 replace Q1 := Q1.mo hq
 replace Q2 := Q2.mo hq
 replace M := M.trans hq
 clear hq hR hne
 refine wl_st 37 (.tmp 4) (.tmp 44) k1 0 #[.int .i64 ((2 : Nat) : Int), .string (s.extract k e), .int .i64 1, .bool b, .int .u64 (l0 (N)), .int .u64 (l1 (N)), .int .u64 (l2 (N)), .int .u64 (l3 (N)), .int .i64 ((kk : Int)), .bool false, .string ⟨#[]⟩, .int .i64 0, .int .i64 ((k : Nat) : Int)] _ [.int .i64 ((2 : Nat) : Int), .string (s.extract k e), .int .i64 1, .bool b, .int .u64 (l0 (N)), .int .u64 (l1 (N)), .int .u64 (l2 (N)), .int .u64 (l3 (N)), .int .i64 ((kk : Int)), .bool false, .string ⟨#[]⟩, .int .i64 0, .int .i64 ((k : Nat) : Int)] Q1 rfl rfl rfl rfl rfl sz37 rfl rfl rfl ?_
 intro w7 hS Qn
 replace Q1 := Qn
 clear Qn
 replace Q2 := hS.other _ _ ne_k1_k2.symm Q2
 replace M := hS.mo _ N_k1 M
 clear hS
 refine wl_m (.const (.int .i64 (0))) (.int .i64 (0)) ?_
 refine w_nil (xn_then (w_ret ?_))
 exact w_ret2 _ _ (.agg #[.int .i64 ((2 : Nat) : Int), .string (s.extract k e), .int .i64 1, .bool b, .int .u64 (l0 (N)), .int .u64 (l1 (N)), .int .u64 (l2 (N)), .int .u64 (l3 (N)), .int .i64 ((kk : Int)), .bool false, .string ⟨#[]⟩, .int .i64 0, .int .i64 ((k : Nat) : Int)]) (.int .i64 (0)) rfl ⟨k1, rfl, (run_row Q1 37 0 13 _ rfl Tryd.underlying37 rfl sz37)⟩ rfl ⟨rfl, M⟩
theorem next_2f (s : ByteArray) (k e : Nat) (b : Bool) (N : Int) (kk : Nat) (w : World) (hs : s.size ≤ 140737488355328) (hk : k < s.size) (hr : rch s k = (2, e)) (hm : ∀ w, Calls Tryd.prog 28 #[.int .i64 ((2 : Nat) : Int), .string (s.extract k e)] w fun e' w' => e' = .returned (.tuple #[.agg #[.int .i64 1, .bool b, .int .u64 (l0 (N)), .int .u64 (l1 (N)), .int .u64 (l2 (N)), .int .u64 (l3 (N)), .int .i64 ((kk : Int)), .bool false, .string ⟨#[]⟩, .int .i64 0], .bool false]) ∧ Mw w w') : Calls Tryd.prog 12 #[.string s, .int .i64 ((k : Nat) : Int)] w fun e' w' => e' = .returned (.tuple #[.agg #[.int .i64 0, .string ⟨#[]⟩, .int .i64 0, .bool false, .int .u64 0, .int .u64 0, .int .u64 0, .int .u64 0, .int .i64 0, .bool false, .string ⟨#[]⟩, .int .i64 0, .int .i64 0], .int .i64 70]) ∧ Mw w w' := by
 have hrg := rch_rg hk
 rw [hr] at hrg
 simp only at hrg
 refine w_enter 45 Tryd.func12 Tryd.ntmps12 rfl rfl ?_
 have M : Mw w w := Mw.refl _
 refine w_seq (w_reg ?_)
 refine wl_alloc 37 #[.int .i64 0, .string ⟨#[]⟩, .int .i64 0, .bool false, .int .u64 0, .int .u64 0, .int .u64 0, .int .u64 0, .int .i64 0, .bool false, .string ⟨#[]⟩, .int .i64 0, .int .i64 0] rfl (fun _ => by kernel_rfl) rfl ?_
 intro k1 w1 hk hz hq Q1
 have N_k1 : w.heap.size ≤ k1 := by have := M.size; omega
 replace M := M.trans hq
 clear hk hz hq
 refine wl_m (.const (.int .i64 (0))) (.int .i64 (0)) ?_
 refine w_nil (xn_then (w_seq (w_seq (w_reg ?_))))
 refine wl_m (.tmp 1) (.int .i64 ((k : Nat) : Int)) ?_
 refine wl_b .lss 3 (.tmp 10) (.const (.int .i64 (0))) (.int .i64 ((k : Nat) : Int)) (.int .i64 (0)) (.bool false) (lt3_run (r := false) (decide_eq_false (by omega)) _ _ _) ?_
 refine wl_m (.tmp 11) (.bool false) ?_
 refine wl_m (.tmp 1) (.int .i64 ((k : Nat) : Int)) ?_
 refine wl_m (.tmp 0) (.string s) ?_
 refine wl_val (.int .i64 ((s.size : Nat) : Int)) (len_s _ _ s (by exact rfl) _ _ _ _ _ _) rfl ?_
 refine wl_b .geq 3 (.tmp 13) (.tmp 15) (.int .i64 ((k : Nat) : Int)) (.int .i64 ((s.size : Nat) : Int)) (.bool false) (geN (decide_eq_false (by omega)) _ _ _) ?_
 refine wl_pick (.tmp 12) (.const (.bool true)) (.tmp 16) false (.bool false) (fun _ => rfl) rfl rfl rfl ?_
 refine w_nil (xn_then (w_condF rfl (w_skip (xn_then (w_seq (w_reg ?_))))))
 refine wl_m (.tmp 0) (.string s) ?_
 refine wl_m (.tmp 1) (.int .i64 ((k : Nat) : Int)) ?_
 refine wl_call 27 [(.tmp 20), (.tmp 21)] _ [.string s, .int .i64 ((k : Nat) : Int)] (.tuple #[.int .i64 ((2 : Nat) : Int), .int .i64 ((e : Nat) : Int)]) rfl rfl (fun _ _ => by kernel_rfl) (reach_c hr _ (by unfold maxLen; omega) hk) rfl ?_
 intro w2 hq
 replace Q1 := Q1.mo hq
 replace M := M.trans hq
 clear hq
 refine wl_m (.tmp 22) (.tuple #[.int .i64 ((2 : Nat) : Int), .int .i64 ((e : Nat) : Int)]) ?_
 refine wl_un (fun v => Instr.extract v 0) (.tmp 19) (.tuple #[.int .i64 ((2 : Nat) : Int), .int .i64 ((e : Nat) : Int)]) (.int .i64 ((2 : Nat) : Int)) (fun _ => rfl) rfl (by kernel_rfl) rfl ?_
 refine wl_un (fun v => Instr.extract v 1) (.tmp 19) (.tuple #[.int .i64 ((2 : Nat) : Int), .int .i64 ((e : Nat) : Int)]) (.int .i64 ((e : Nat) : Int)) (fun _ => rfl) rfl (by kernel_rfl) rfl ?_
 refine wl_m (.tmp 23) (.int .i64 ((2 : Nat) : Int)) ?_
 refine wl_m (.tmp 24) (.int .i64 ((e : Nat) : Int)) ?_
 refine w_nil (xn_then (w_seq (w_reg ?_)))
 refine wl_m (.tmp 6) (.int .i64 ((2 : Nat) : Int)) ?_
 refine wl_m (.tmp 0) (.string s) ?_
 refine wl_m (.tmp 1) (.int .i64 ((k : Nat) : Int)) ?_
 refine wl_m (.tmp 7) (.int .i64 ((e : Nat) : Int)) ?_
 refine wl_val (.string (s.extract k e)) (mid_run _ _ _ _ s (k) (e) (by exact rfl) (by exact rfl) (by exact rfl) (by omega) (by omega) _ _ _ _ _ _) rfl ?_
 refine wl_call 28 [(.tmp 26), (.tmp 30)] _ [.int .i64 ((2 : Nat) : Int), .string (s.extract k e)] (.tuple #[.agg #[.int .i64 1, .bool b, .int .u64 (l0 (N)), .int .u64 (l1 (N)), .int .u64 (l2 (N)), .int .u64 (l3 (N)), .int .i64 ((kk : Int)), .bool false, .string ⟨#[]⟩, .int .i64 0], .bool false]) rfl rfl (fun _ _ => by kernel_rfl) (hm _) rfl ?_
 intro w3 hq
 replace Q1 := Q1.mo hq
 replace M := M.trans hq
 clear hq
 refine wl_m (.tmp 31) (.tuple #[.agg #[.int .i64 1, .bool b, .int .u64 (l0 (N)), .int .u64 (l1 (N)), .int .u64 (l2 (N)), .int .u64 (l3 (N)), .int .i64 ((kk : Int)), .bool false, .string ⟨#[]⟩, .int .i64 0], .bool false]) ?_
 refine wl_un (fun v => Instr.extract v 0) (.tmp 25) (.tuple #[.agg #[.int .i64 1, .bool b, .int .u64 (l0 (N)), .int .u64 (l1 (N)), .int .u64 (l2 (N)), .int .u64 (l3 (N)), .int .i64 ((kk : Int)), .bool false, .string ⟨#[]⟩, .int .i64 0], .bool false]) (.agg #[.int .i64 1, .bool b, .int .u64 (l0 (N)), .int .u64 (l1 (N)), .int .u64 (l2 (N)), .int .u64 (l3 (N)), .int .i64 ((kk : Int)), .bool false, .string ⟨#[]⟩, .int .i64 0]) (fun _ => rfl) rfl (by kernel_rfl) rfl ?_
 refine wl_un (fun v => Instr.extract v 1) (.tmp 25) (.tuple #[.agg #[.int .i64 1, .bool b, .int .u64 (l0 (N)), .int .u64 (l1 (N)), .int .u64 (l2 (N)), .int .u64 (l3 (N)), .int .i64 ((kk : Int)), .bool false, .string ⟨#[]⟩, .int .i64 0], .bool false]) (.bool false) (fun _ => rfl) rfl (by kernel_rfl) rfl ?_
 refine wl_alloc 35 #[.int .i64 0, .bool false, .int .u64 0, .int .u64 0, .int .u64 0, .int .u64 0, .int .i64 0, .bool false, .string ⟨#[]⟩, .int .i64 0] rfl (fun _ => by kernel_rfl) rfl ?_
 intro k2 w4 hk hz hq Q2
 have ne_k1_k2 : k1 ≠ k2 := by have := Q1.lt; omega
 have N_k2 : w.heap.size ≤ k2 := by have := M.size; omega
 replace Q1 := Q1.mo hq
 replace M := M.trans hq
 clear hk hz hq
 refine wl_st 35 (.tmp 8) (.tmp 32) k2 0 #[.int .i64 1, .bool b, .int .u64 (l0 (N)), .int .u64 (l1 (N)), .int .u64 (l2 (N)), .int .u64 (l3 (N)), .int .i64 ((kk : Int)), .bool false, .string ⟨#[]⟩, .int .i64 0] _ [.int .i64 1, .bool b, .int .u64 (l0 (N)), .int .u64 (l1 (N)), .int .u64 (l2 (N)), .int .u64 (l3 (N)), .int .i64 ((kk : Int)), .bool false, .string ⟨#[]⟩, .int .i64 0] Q2 rfl rfl rfl rfl rfl sz35 rfl rfl rfl ?_
 intro w5 hS Qn
 replace Q2 := Qn
 clear Qn
 replace Q1 := hS.other _ _ ne_k1_k2 Q1
 replace M := hS.mo _ N_k2 M
 clear hS
 refine wl_m (.tmp 33) (.bool false) ?_
 refine w_nil (xn_then (w_seq (w_seq (w_reg ?_))))
 refine wl_m (.tmp 9) (.bool false) ?_
 refine wl_un (fun v => Op.unary .not v) (.tmp 34) (.bool false) (.bool true) (fun _ => rfl) rfl (by kernel_rfl) rfl ?_
 refine w_nil (xn_then (w_condT rfl (w_seq (w_reg ?_))))
 refine wl_build 37 [] [] (.agg #[.int .i64 0, .string ⟨#[]⟩, .int .i64 0, .bool false, .int .u64 0, .int .u64 0, .int .u64 0, .int .u64 0, .int .i64 0, .bool false, .string ⟨#[]⟩, .int .i64 0, .int .i64 0]) rfl rfl (by kernel_rfl) rfl ?_
 refine wl_st 37 (.tmp 4) (.tmp 36) k1 0 #[.int .i64 0, .string ⟨#[]⟩, .int .i64 0, .bool false, .int .u64 0, .int .u64 0, .int .u64 0, .int .u64 0, .int .i64 0, .bool false, .string ⟨#[]⟩, .int .i64 0, .int .i64 0] _ [.int .i64 0, .string ⟨#[]⟩, .int .i64 0, .bool false, .int .u64 0, .int .u64 0, .int .u64 0, .int .u64 0, .int .i64 0, .bool false, .string ⟨#[]⟩, .int .i64 0, .int .i64 0] Q1 rfl rfl rfl rfl rfl sz37 rfl rfl rfl ?_
 intro w6 hS Qn
 replace Q1 := Qn
 clear Qn
 replace Q2 := hS.other _ _ ne_k1_k2.symm Q2
 replace M := hS.mo _ N_k1 M
 clear hS
 refine wl_m (.const (.int .i64 (70))) (.int .i64 (70)) ?_
 refine w_nil (xn_then (w_ret (xr_then ?_)))
 exact w_ret2 _ _ (.agg #[.int .i64 0, .string ⟨#[]⟩, .int .i64 0, .bool false, .int .u64 0, .int .u64 0, .int .u64 0, .int .u64 0, .int .i64 0, .bool false, .string ⟨#[]⟩, .int .i64 0, .int .i64 0]) (.int .i64 (70)) rfl ⟨k1, rfl, (run_row Q1 37 0 13 _ rfl Tryd.underlying37 rfl sz37)⟩ rfl ⟨rfl, M⟩
theorem next_3t (s : ByteArray) (k e : Nat) (w : World) (hs : s.size ≤ 140737488355328) (hk : k < s.size) (hr : rch s k = (3, e)) (hm : ∀ w, Calls Tryd.prog 28 #[.int .i64 ((3 : Nat) : Int), .string (s.extract k e)] w fun e' w' => e' = .returned (.tuple #[.agg #[.int .i64 3, .bool false, .int .u64 0, .int .u64 0, .int .u64 0, .int .u64 0, .int .i64 0, .bool false, .string (unq (s.extract k e)).1, .int .i64 0], .bool true]) ∧ Mw w w') : Calls Tryd.prog 12 #[.string s, .int .i64 ((k : Nat) : Int)] w fun e' w' => e' = .returned (.tuple #[.agg #[.int .i64 ((3 : Nat) : Int), .string (s.extract k e), .int .i64 3, .bool false, .int .u64 0, .int .u64 0, .int .u64 0, .int .u64 0, .int .i64 0, .bool false, .string (unq (s.extract k e)).1, .int .i64 0, .int .i64 ((k : Nat) : Int)], .int .i64 0]) ∧ Mw w w' := by
 have hrg := rch_rg hk
 rw [hr] at hrg
 simp only at hrg
 refine w_enter 45 Tryd.func12 Tryd.ntmps12 rfl rfl ?_
 have M : Mw w w := Mw.refl _
 refine w_seq (w_reg ?_)
 refine wl_alloc 37 #[.int .i64 0, .string ⟨#[]⟩, .int .i64 0, .bool false, .int .u64 0, .int .u64 0, .int .u64 0, .int .u64 0, .int .i64 0, .bool false, .string ⟨#[]⟩, .int .i64 0, .int .i64 0] rfl (fun _ => by kernel_rfl) rfl ?_
 intro k1 w1 hk hz hq Q1
 have N_k1 : w.heap.size ≤ k1 := by have := M.size; omega
 replace M := M.trans hq
 clear hk hz hq
 refine wl_m (.const (.int .i64 (0))) (.int .i64 (0)) ?_
 refine w_nil (xn_then (w_seq (w_seq (w_reg ?_))))
 refine wl_m (.tmp 1) (.int .i64 ((k : Nat) : Int)) ?_
 refine wl_b .lss 3 (.tmp 10) (.const (.int .i64 (0))) (.int .i64 ((k : Nat) : Int)) (.int .i64 (0)) (.bool false) (lt3_run (r := false) (decide_eq_false (by omega)) _ _ _) ?_
 refine wl_m (.tmp 11) (.bool false) ?_
 refine wl_m (.tmp 1) (.int .i64 ((k : Nat) : Int)) ?_
 refine wl_m (.tmp 0) (.string s) ?_
 refine wl_val (.int .i64 ((s.size : Nat) : Int)) (len_s _ _ s (by exact rfl) _ _ _ _ _ _) rfl ?_
 refine wl_b .geq 3 (.tmp 13) (.tmp 15) (.int .i64 ((k : Nat) : Int)) (.int .i64 ((s.size : Nat) : Int)) (.bool false) (geN (decide_eq_false (by omega)) _ _ _) ?_
 refine wl_pick (.tmp 12) (.const (.bool true)) (.tmp 16) false (.bool false) (fun _ => rfl) rfl rfl rfl ?_
 refine w_nil (xn_then (w_condF rfl (w_skip (xn_then (w_seq (w_reg ?_))))))
 refine wl_m (.tmp 0) (.string s) ?_
 refine wl_m (.tmp 1) (.int .i64 ((k : Nat) : Int)) ?_
 refine wl_call 27 [(.tmp 20), (.tmp 21)] _ [.string s, .int .i64 ((k : Nat) : Int)] (.tuple #[.int .i64 ((3 : Nat) : Int), .int .i64 ((e : Nat) : Int)]) rfl rfl (fun _ _ => by kernel_rfl) (reach_c hr _ (by unfold maxLen; omega) hk) rfl ?_
 intro w2 hq
 replace Q1 := Q1.mo hq
 replace M := M.trans hq
 clear hq
 refine wl_m (.tmp 22) (.tuple #[.int .i64 ((3 : Nat) : Int), .int .i64 ((e : Nat) : Int)]) ?_
 refine wl_un (fun v => Instr.extract v 0) (.tmp 19) (.tuple #[.int .i64 ((3 : Nat) : Int), .int .i64 ((e : Nat) : Int)]) (.int .i64 ((3 : Nat) : Int)) (fun _ => rfl) rfl (by kernel_rfl) rfl ?_
 refine wl_un (fun v => Instr.extract v 1) (.tmp 19) (.tuple #[.int .i64 ((3 : Nat) : Int), .int .i64 ((e : Nat) : Int)]) (.int .i64 ((e : Nat) : Int)) (fun _ => rfl) rfl (by kernel_rfl) rfl ?_
 refine wl_m (.tmp 23) (.int .i64 ((3 : Nat) : Int)) ?_
 refine wl_m (.tmp 24) (.int .i64 ((e : Nat) : Int)) ?_
 refine w_nil (xn_then (w_seq (w_reg ?_)))
 refine wl_m (.tmp 6) (.int .i64 ((3 : Nat) : Int)) ?_
 refine wl_m (.tmp 0) (.string s) ?_
 refine wl_m (.tmp 1) (.int .i64 ((k : Nat) : Int)) ?_
 refine wl_m (.tmp 7) (.int .i64 ((e : Nat) : Int)) ?_
 refine wl_val (.string (s.extract k e)) (mid_run _ _ _ _ s (k) (e) (by exact rfl) (by exact rfl) (by exact rfl) (by omega) (by omega) _ _ _ _ _ _) rfl ?_
 refine wl_call 28 [(.tmp 26), (.tmp 30)] _ [.int .i64 ((3 : Nat) : Int), .string (s.extract k e)] (.tuple #[.agg #[.int .i64 3, .bool false, .int .u64 0, .int .u64 0, .int .u64 0, .int .u64 0, .int .i64 0, .bool false, .string (unq (s.extract k e)).1, .int .i64 0], .bool true]) rfl rfl (fun _ _ => by kernel_rfl) (hm _) rfl ?_
 intro w3 hq
 replace Q1 := Q1.mo hq
 replace M := M.trans hq
 clear hq
 refine wl_m (.tmp 31) (.tuple #[.agg #[.int .i64 3, .bool false, .int .u64 0, .int .u64 0, .int .u64 0, .int .u64 0, .int .i64 0, .bool false, .string (unq (s.extract k e)).1, .int .i64 0], .bool true]) ?_
 refine wl_un (fun v => Instr.extract v 0) (.tmp 25) (.tuple #[.agg #[.int .i64 3, .bool false, .int .u64 0, .int .u64 0, .int .u64 0, .int .u64 0, .int .i64 0, .bool false, .string (unq (s.extract k e)).1, .int .i64 0], .bool true]) (.agg #[.int .i64 3, .bool false, .int .u64 0, .int .u64 0, .int .u64 0, .int .u64 0, .int .i64 0, .bool false, .string (unq (s.extract k e)).1, .int .i64 0]) (fun _ => rfl) rfl (by kernel_rfl) rfl ?_
 refine wl_un (fun v => Instr.extract v 1) (.tmp 25) (.tuple #[.agg #[.int .i64 3, .bool false, .int .u64 0, .int .u64 0, .int .u64 0, .int .u64 0, .int .i64 0, .bool false, .string (unq (s.extract k e)).1, .int .i64 0], .bool true]) (.bool true) (fun _ => rfl) rfl (by kernel_rfl) rfl ?_
 refine wl_alloc 35 #[.int .i64 0, .bool false, .int .u64 0, .int .u64 0, .int .u64 0, .int .u64 0, .int .i64 0, .bool false, .string ⟨#[]⟩, .int .i64 0] rfl (fun _ => by kernel_rfl) rfl ?_
 intro k2 w4 hk hz hq Q2
 have ne_k1_k2 : k1 ≠ k2 := by have := Q1.lt; omega
 have N_k2 : w.heap.size ≤ k2 := by have := M.size; omega
 replace Q1 := Q1.mo hq
 replace M := M.trans hq
 clear hk hz hq
 refine wl_st 35 (.tmp 8) (.tmp 32) k2 0 #[.int .i64 3, .bool false, .int .u64 0, .int .u64 0, .int .u64 0, .int .u64 0, .int .i64 0, .bool false, .string (unq (s.extract k e)).1, .int .i64 0] _ [.int .i64 3, .bool false, .int .u64 0, .int .u64 0, .int .u64 0, .int .u64 0, .int .i64 0, .bool false, .string (unq (s.extract k e)).1, .int .i64 0] Q2 rfl rfl rfl rfl rfl sz35 rfl rfl rfl ?_
 intro w5 hS Qn
 replace Q2 := Qn
 clear Qn
 replace Q1 := hS.other _ _ ne_k1_k2 Q1
 replace M := hS.mo _ N_k2 M
 clear hS
 refine wl_m (.tmp 33) (.bool true) ?_
 refine w_nil (xn_then (w_seq (w_seq (w_reg ?_))))
 refine wl_m (.tmp 9) (.bool true) ?_
 refine wl_un (fun v => Op.unary .not v) (.tmp 34) (.bool true) (.bool false) (fun _ => rfl) rfl (by kernel_rfl) rfl ?_
 refine w_nil (xn_then (w_condF rfl (w_skip (xn_then (w_seq ?_)))))
 refine w_any 8 [.inl (.int .i64 ((3 : Nat) : Int)), .inl (.string s), .inl (.int .i64 ((k : Nat) : Int)), .inl (.int .i64 ((e : Nat) : Int)), .inl (.string (s.extract k e)), .inl (.agg #[.int .i64 3, .bool false, .int .u64 0, .int .u64 0, .int .u64 0, .int .u64 0, .int .i64 0, .bool false, .string (unq (s.extract k e)).1, .int .i64 0]), .inl (.int .i64 ((k : Nat) : Int)), .inl (.agg #[.int .i64 ((3 : Nat) : Int), .string (s.extract k e), .int .i64 3, .bool false, .int .u64 0, .int .u64 0, .int .u64 0, .int .u64 0, .int .i64 0, .bool false, .string (unq (s.extract k e)).1, .int .i64 0, .int .i64 ((k : Nat) : Int)])] [] (by kernel_rfl) (by kernel_rfl) (by kernel_rfl) (by kernel_rfl) rfl (by kernel_rfl) (by kernel_rfl) late_nil ?_ ?_ ?_
 ·exact Ds.none rfl
 ·refine ea_cons ?_ (ea_cons ?_ (ea_cons ?_ (ea_cons ?_ (ea_cons ?_ (ea_cons ?_ (ea_cons ?_ (ea_cons ?_ (ea_nil))))))))
  ·exact og_eq _ rfl (fun f wf hq hd K hK => go_run rfl (wo_mv (.tmp 6) (.int .i64 ((3 : Nat) : Int)) (fun _ => rfl) rfl (hK _ (Mw.refl _))))
  ·exact og_eq _ rfl (fun f wf hq hd K hK => go_run rfl (wo_mv (.tmp 0) (.string s) (fun _ => rfl) rfl (hK _ (Mw.refl _))))
  ·exact og_eq _ rfl (fun f wf hq hd K hK => go_run rfl (wo_mv (.tmp 1) (.int .i64 ((k : Nat) : Int)) (fun _ => rfl) rfl (hK _ (Mw.refl _))))
  ·exact og_eq _ rfl (fun f wf hq hd K hK => go_run rfl (wo_mv (.tmp 7) (.int .i64 ((e : Nat) : Int)) (fun _ => rfl) rfl (hK _ (Mw.refl _))))
  ·exact og_eq _ rfl (fun f wf hq hd K hK => go_run rfl (wo_val (.string (s.extract k e)) (mid_run _ _ _ _ s (k) (e) (by exact (hd 1 rfl)) (by exact (hd 2 rfl)) (by exact (hd 3 rfl)) (by omega) (by omega) _ _ _ _ _ _) (hK _ (Mw.refl _))))
  ·exact og_eq _ rfl (fun f wf hq hd K hK => have Q2 := Q2.mo hq; go_run rfl (wo_load 35 (.tmp 8) (pt k2 0) (.agg #[.int .i64 3, .bool false, .int .u64 0, .int .u64 0, .int .u64 0, .int .u64 0, .int .i64 0, .bool false, .string (unq (s.extract k e)).1, .int .i64 0]) rfl rfl (run_row Q2 35 0 10 _ rfl Tryd.underlying35 rfl sz35) (hK _ (Mw.refl _))))
  ·exact og_eq _ rfl (fun f wf hq hd K hK => go_run rfl (wo_mv (.tmp 1) (.int .i64 ((k : Nat) : Int)) (fun _ => rfl) rfl (hK _ (Mw.refl _))))
  ·exact og_eq _ rfl (fun f wf hq hd K hK => go_run rfl (wo_build 37 [(0, (.tmp 37)), (1, (.tmp 41)), (2, (.tmp 42)), (3, (.tmp 43))] [(0, .int .i64 ((3 : Nat) : Int)), (1, .string (s.extract k e)), (2, .agg #[.int .i64 3, .bool false, .int .u64 0, .int .u64 0, .int .u64 0, .int .u64 0, .int .i64 0, .bool false, .string (unq (s.extract k e)).1, .int .i64 0]), (3, .int .i64 ((k : Nat) : Int))] (.agg #[.int .i64 ((3 : Nat) : Int), .string (s.extract k e), .int .i64 3, .bool false, .int .u64 0, .int .u64 0, .int .u64 0, .int .u64 0, .int .i64 0, .bool false, .string (unq (s.extract k e)).1, .int .i64 0, .int .i64 ((k : Nat) : Int)]) rfl (lp4 (hd 0 rfl) (hd 4 rfl) (hd 5 rfl) (hd 6 rfl)) (by kernel_rfl) (hK _ (Mw.refl _))))
 intro kf6 w6 hq hR hne
 replace Q1 := Q1.mo hq
 replace Q2 := Q2.mo hq
 replace M := M.trans hq
 clear hq hR hne
 refine wl_st 37 (.tmp 4) (.tmp 44) k1 0 #[.int .i64 ((3 : Nat) : Int), .string (s.extract k e), .int .i64 3, .bool false, .int .u64 0, .int .u64 0, .int .u64 0, .int .u64 0, .int .i64 0, .bool false, .string (unq (s.extract k e)).1, .int .i64 0, .int .i64 ((k : Nat) : Int)] _ [.int .i64 ((3 : Nat) : Int), .string (s.extract k e), .int .i64 3, .bool false, .int .u64 0, .int .u64 0, .int .u64 0, .int .u64 0, .int .i64 0, .bool false, .string (unq (s.extract k e)).1, .int .i64 0, .int .i64 ((k : Nat) : Int)] Q1 rfl rfl rfl rfl rfl sz37 rfl rfl rfl ?_
 intro w7 hS Qn
 replace Q1 := Qn
 clear Qn
 replace Q2 := hS.other _ _ ne_k1_k2.symm Q2
 replace M := hS.mo _ N_k1 M
 clear hS
 refine wl_m (.const (.int .i64 (0))) (.int .i64 (0)) ?_
 refine w_nil (xn_then (w_ret ?_))
 exact w_ret2 _ _ (.agg #[.int .i64 ((3 : Nat) : Int), .string (s.extract k e), .int .i64 3, .bool false, .int .u64 0, .int .u64 0, .int .u64 0, .int .u64 0, .int .i64 0, .bool false, .string (unq (s.extract k e)).1, .int .i64 0, .int .i64 ((k : Nat) : Int)]) (.int .i64 (0)) rfl ⟨k1, rfl, (run_row Q1 37 0 13 _ rfl Tryd.underlying37 rfl sz37)⟩ rfl ⟨rfl, M⟩
theorem next_3f (s : ByteArray) (k e : Nat) (w : World) (hs : s.size ≤ 140737488355328) (hk : k < s.size) (hr : rch s k = (3, e)) (hm : ∀ w, Calls Tryd.prog 28 #[.int .i64 ((3 : Nat) : Int), .string (s.extract k e)] w fun e' w' => e' = .returned (.tuple #[.agg #[.int .i64 3, .bool false, .int .u64 0, .int .u64 0, .int .u64 0, .int .u64 0, .int .i64 0, .bool false, .string (unq (s.extract k e)).1, .int .i64 0], .bool false]) ∧ Mw w w') : Calls Tryd.prog 12 #[.string s, .int .i64 ((k : Nat) : Int)] w fun e' w' => e' = .returned (.tuple #[.agg #[.int .i64 0, .string ⟨#[]⟩, .int .i64 0, .bool false, .int .u64 0, .int .u64 0, .int .u64 0, .int .u64 0, .int .i64 0, .bool false, .string ⟨#[]⟩, .int .i64 0, .int .i64 0], .int .i64 70]) ∧ Mw w w' := by
 have hrg := rch_rg hk
 rw [hr] at hrg
 simp only at hrg
 refine w_enter 45 Tryd.func12 Tryd.ntmps12 rfl rfl ?_
 have M : Mw w w := Mw.refl _
 refine w_seq (w_reg ?_)
 refine wl_alloc 37 #[.int .i64 0, .string ⟨#[]⟩, .int .i64 0, .bool false, .int .u64 0, .int .u64 0, .int .u64 0, .int .u64 0, .int .i64 0, .bool false, .string ⟨#[]⟩, .int .i64 0, .int .i64 0] rfl (fun _ => by kernel_rfl) rfl ?_
 intro k1 w1 hk hz hq Q1
 have N_k1 : w.heap.size ≤ k1 := by have := M.size; omega
 replace M := M.trans hq
 clear hk hz hq
 refine wl_m (.const (.int .i64 (0))) (.int .i64 (0)) ?_
 refine w_nil (xn_then (w_seq (w_seq (w_reg ?_))))
 refine wl_m (.tmp 1) (.int .i64 ((k : Nat) : Int)) ?_
 refine wl_b .lss 3 (.tmp 10) (.const (.int .i64 (0))) (.int .i64 ((k : Nat) : Int)) (.int .i64 (0)) (.bool false) (lt3_run (r := false) (decide_eq_false (by omega)) _ _ _) ?_
 refine wl_m (.tmp 11) (.bool false) ?_
 refine wl_m (.tmp 1) (.int .i64 ((k : Nat) : Int)) ?_
 refine wl_m (.tmp 0) (.string s) ?_
 refine wl_val (.int .i64 ((s.size : Nat) : Int)) (len_s _ _ s (by exact rfl) _ _ _ _ _ _) rfl ?_
 refine wl_b .geq 3 (.tmp 13) (.tmp 15) (.int .i64 ((k : Nat) : Int)) (.int .i64 ((s.size : Nat) : Int)) (.bool false) (geN (decide_eq_false (by omega)) _ _ _) ?_
 refine wl_pick (.tmp 12) (.const (.bool true)) (.tmp 16) false (.bool false) (fun _ => rfl) rfl rfl rfl ?_
 refine w_nil (xn_then (w_condF rfl (w_skip (xn_then (w_seq (w_reg ?_))))))
 refine wl_m (.tmp 0) (.string s) ?_
 refine wl_m (.tmp 1) (.int .i64 ((k : Nat) : Int)) ?_
 refine wl_call 27 [(.tmp 20), (.tmp 21)] _ [.string s, .int .i64 ((k : Nat) : Int)] (.tuple #[.int .i64 ((3 : Nat) : Int), .int .i64 ((e : Nat) : Int)]) rfl rfl (fun _ _ => by kernel_rfl) (reach_c hr _ (by unfold maxLen; omega) hk) rfl ?_
 intro w2 hq
 replace Q1 := Q1.mo hq
 replace M := M.trans hq
 clear hq
 refine wl_m (.tmp 22) (.tuple #[.int .i64 ((3 : Nat) : Int), .int .i64 ((e : Nat) : Int)]) ?_
 refine wl_un (fun v => Instr.extract v 0) (.tmp 19) (.tuple #[.int .i64 ((3 : Nat) : Int), .int .i64 ((e : Nat) : Int)]) (.int .i64 ((3 : Nat) : Int)) (fun _ => rfl) rfl (by kernel_rfl) rfl ?_
 refine wl_un (fun v => Instr.extract v 1) (.tmp 19) (.tuple #[.int .i64 ((3 : Nat) : Int), .int .i64 ((e : Nat) : Int)]) (.int .i64 ((e : Nat) : Int)) (fun _ => rfl) rfl (by kernel_rfl) rfl ?_
 refine wl_m (.tmp 23) (.int .i64 ((3 : Nat) : Int)) ?_
 refine wl_m (.tmp 24) (.int .i64 ((e : Nat) : Int)) ?_
 refine w_nil (xn_then (w_seq (w_reg ?_)))
 refine wl_m (.tmp 6) (.int .i64 ((3 : Nat) : Int)) ?_
 refine wl_m (.tmp 0) (.string s) ?_
 refine wl_m (.tmp 1) (.int .i64 ((k : Nat) : Int)) ?_
 refine wl_m (.tmp 7) (.int .i64 ((e : Nat) : Int)) ?_
 refine wl_val (.string (s.extract k e)) (mid_run _ _ _ _ s (k) (e) (by exact rfl) (by exact rfl) (by exact rfl) (by omega) (by omega) _ _ _ _ _ _) rfl ?_
 refine wl_call 28 [(.tmp 26), (.tmp 30)] _ [.int .i64 ((3 : Nat) : Int), .string (s.extract k e)] (.tuple #[.agg #[.int .i64 3, .bool false, .int .u64 0, .int .u64 0, .int .u64 0, .int .u64 0, .int .i64 0, .bool false, .string (unq (s.extract k e)).1, .int .i64 0], .bool false]) rfl rfl (fun _ _ => by kernel_rfl) (hm _) rfl ?_
 intro w3 hq
 replace Q1 := Q1.mo hq
 replace M := M.trans hq
 clear hq
 refine wl_m (.tmp 31) (.tuple #[.agg #[.int .i64 3, .bool false, .int .u64 0, .int .u64 0, .int .u64 0, .int .u64 0, .int .i64 0, .bool false, .string (unq (s.extract k e)).1, .int .i64 0], .bool false]) ?_
 refine wl_un (fun v => Instr.extract v 0) (.tmp 25) (.tuple #[.agg #[.int .i64 3, .bool false, .int .u64 0, .int .u64 0, .int .u64 0, .int .u64 0, .int .i64 0, .bool false, .string (unq (s.extract k e)).1, .int .i64 0], .bool false]) (.agg #[.int .i64 3, .bool false, .int .u64 0, .int .u64 0, .int .u64 0, .int .u64 0, .int .i64 0, .bool false, .string (unq (s.extract k e)).1, .int .i64 0]) (fun _ => rfl) rfl (by kernel_rfl) rfl ?_
 refine wl_un (fun v => Instr.extract v 1) (.tmp 25) (.tuple #[.agg #[.int .i64 3, .bool false, .int .u64 0, .int .u64 0, .int .u64 0, .int .u64 0, .int .i64 0, .bool false, .string (unq (s.extract k e)).1, .int .i64 0], .bool false]) (.bool false) (fun _ => rfl) rfl (by kernel_rfl) rfl ?_
 refine wl_alloc 35 #[.int .i64 0, .bool false, .int .u64 0, .int .u64 0, .int .u64 0, .int .u64 0, .int .i64 0, .bool false, .string ⟨#[]⟩, .int .i64 0] rfl (fun _ => by kernel_rfl) rfl ?_
 intro k2 w4 hk hz hq Q2
 have ne_k1_k2 : k1 ≠ k2 := by have := Q1.lt; omega
 have N_k2 : w.heap.size ≤ k2 := by have := M.size; omega
 replace Q1 := Q1.mo hq
 replace M := M.trans hq
 clear hk hz hq
 refine wl_st 35 (.tmp 8) (.tmp 32) k2 0 #[.int .i64 3, .bool false, .int .u64 0, .int .u64 0, .int .u64 0, .int .u64 0, .int .i64 0, .bool false, .string (unq (s.extract k e)).1, .int .i64 0] _ [.int .i64 3, .bool false, .int .u64 0, .int .u64 0, .int .u64 0, .int .u64 0, .int .i64 0, .bool false, .string (unq (s.extract k e)).1, .int .i64 0] Q2 rfl rfl rfl rfl rfl sz35 rfl rfl rfl ?_
 intro w5 hS Qn
 replace Q2 := Qn
 clear Qn
 replace Q1 := hS.other _ _ ne_k1_k2 Q1
 replace M := hS.mo _ N_k2 M
 clear hS
 refine wl_m (.tmp 33) (.bool false) ?_
 refine w_nil (xn_then (w_seq (w_seq (w_reg ?_))))
 refine wl_m (.tmp 9) (.bool false) ?_
 refine wl_un (fun v => Op.unary .not v) (.tmp 34) (.bool false) (.bool true) (fun _ => rfl) rfl (by kernel_rfl) rfl ?_
 refine w_nil (xn_then (w_condT rfl (w_seq (w_reg ?_))))
 refine wl_build 37 [] [] (.agg #[.int .i64 0, .string ⟨#[]⟩, .int .i64 0, .bool false, .int .u64 0, .int .u64 0, .int .u64 0, .int .u64 0, .int .i64 0, .bool false, .string ⟨#[]⟩, .int .i64 0, .int .i64 0]) rfl rfl (by kernel_rfl) rfl ?_
 refine wl_st 37 (.tmp 4) (.tmp 36) k1 0 #[.int .i64 0, .string ⟨#[]⟩, .int .i64 0, .bool false, .int .u64 0, .int .u64 0, .int .u64 0, .int .u64 0, .int .i64 0, .bool false, .string ⟨#[]⟩, .int .i64 0, .int .i64 0] _ [.int .i64 0, .string ⟨#[]⟩, .int .i64 0, .bool false, .int .u64 0, .int .u64 0, .int .u64 0, .int .u64 0, .int .i64 0, .bool false, .string ⟨#[]⟩, .int .i64 0, .int .i64 0] Q1 rfl rfl rfl rfl rfl sz37 rfl rfl rfl ?_
 intro w6 hS Qn
 replace Q1 := Qn
 clear Qn
 replace Q2 := hS.other _ _ ne_k1_k2.symm Q2
 replace M := hS.mo _ N_k1 M
 clear hS
 refine wl_m (.const (.int .i64 (70))) (.int .i64 (70)) ?_
 refine w_nil (xn_then (w_ret (xr_then ?_)))
 exact w_ret2 _ _ (.agg #[.int .i64 0, .string ⟨#[]⟩, .int .i64 0, .bool false, .int .u64 0, .int .u64 0, .int .u64 0, .int .u64 0, .int .i64 0, .bool false, .string ⟨#[]⟩, .int .i64 0, .int .i64 0]) (.int .i64 (70)) rfl ⟨k1, rfl, (run_row Q1 37 0 13 _ rfl Tryd.underlying37 rfl sz37)⟩ rfl ⟨rfl, M⟩
theorem next_4t (s : ByteArray) (k e : Nat) (w : World) (hs : s.size ≤ 140737488355328) (hk : k < s.size) (hr : rch s k = (4, e)) (hm : ∀ w, Calls Tryd.prog 28 #[.int .i64 ((4 : Nat) : Int), .string (s.extract k e)] w fun e' w' => e' = .returned (.tuple #[.agg #[.int .i64 0, .bool false, .int .u64 0, .int .u64 0, .int .u64 0, .int .u64 0, .int .i64 0, .bool false, .string ⟨#[]⟩, .int .i64 0], .bool true]) ∧ Mw w w') : Calls Tryd.prog 12 #[.string s, .int .i64 ((k : Nat) : Int)] w fun e' w' => e' = .returned (.tuple #[.agg #[.int .i64 ((4 : Nat) : Int), .string (s.extract k e), .int .i64 0, .bool false, .int .u64 0, .int .u64 0, .int .u64 0, .int .u64 0, .int .i64 0, .bool false, .string ⟨#[]⟩, .int .i64 0, .int .i64 ((k : Nat) : Int)], .int .i64 0]) ∧ Mw w w' := by
 have hrg := rch_rg hk
 rw [hr] at hrg
 simp only at hrg
 refine w_enter 45 Tryd.func12 Tryd.ntmps12 rfl rfl ?_
 have M : Mw w w := Mw.refl _
 refine w_seq (w_reg ?_)
 refine wl_alloc 37 #[.int .i64 0, .string ⟨#[]⟩, .int .i64 0, .bool false, .int .u64 0, .int .u64 0, .int .u64 0, .int .u64 0, .int .i64 0, .bool false, .string ⟨#[]⟩, .int .i64 0, .int .i64 0] rfl (fun _ => by kernel_rfl) rfl ?_
 intro k1 w1 hk hz hq Q1
 have N_k1 : w.heap.size ≤ k1 := by have := M.size; omega
 replace M := M.trans hq
 clear hk hz hq
 refine wl_m (.const (.int .i64 (0))) (.int .i64 (0)) ?_
 refine w_nil (xn_then (w_seq (w_seq (w_reg ?_))))
 refine wl_m (.tmp 1) (.int .i64 ((k : Nat) : Int)) ?_
 refine wl_b .lss 3 (.tmp 10) (.const (.int .i64 (0))) (.int .i64 ((k : Nat) : Int)) (.int .i64 (0)) (.bool false) (lt3_run (r := false) (decide_eq_false (by omega)) _ _ _) ?_
 refine wl_m (.tmp 11) (.bool false) ?_
 refine wl_m (.tmp 1) (.int .i64 ((k : Nat) : Int)) ?_
 refine wl_m (.tmp 0) (.string s) ?_
 refine wl_val (.int .i64 ((s.size : Nat) : Int)) (len_s _ _ s (by exact rfl) _ _ _ _ _ _) rfl ?_
 refine wl_b .geq 3 (.tmp 13) (.tmp 15) (.int .i64 ((k : Nat) : Int)) (.int .i64 ((s.size : Nat) : Int)) (.bool false) (geN (decide_eq_false (by omega)) _ _ _) ?_
 refine wl_pick (.tmp 12) (.const (.bool true)) (.tmp 16) false (.bool false) (fun _ => rfl) rfl rfl rfl ?_
 refine w_nil (xn_then (w_condF rfl (w_skip (xn_then (w_seq (w_reg ?_))))))
 refine wl_m (.tmp 0) (.string s) ?_
 refine wl_m (.tmp 1) (.int .i64 ((k : Nat) : Int)) ?_
 refine wl_call 27 [(.tmp 20), (.tmp 21)] _ [.string s, .int .i64 ((k : Nat) : Int)] (.tuple #[.int .i64 ((4 : Nat) : Int), .int .i64 ((e : Nat) : Int)]) rfl rfl (fun _ _ => by kernel_rfl) (reach_c hr _ (by unfold maxLen; omega) hk) rfl ?_
 intro w2 hq
 replace Q1 := Q1.mo hq
 replace M := M.trans hq
 clear hq
 refine wl_m (.tmp 22) (.tuple #[.int .i64 ((4 : Nat) : Int), .int .i64 ((e : Nat) : Int)]) ?_
 refine wl_un (fun v => Instr.extract v 0) (.tmp 19) (.tuple #[.int .i64 ((4 : Nat) : Int), .int .i64 ((e : Nat) : Int)]) (.int .i64 ((4 : Nat) : Int)) (fun _ => rfl) rfl (by kernel_rfl) rfl ?_
 refine wl_un (fun v => Instr.extract v 1) (.tmp 19) (.tuple #[.int .i64 ((4 : Nat) : Int), .int .i64 ((e : Nat) : Int)]) (.int .i64 ((e : Nat) : Int)) (fun _ => rfl) rfl (by kernel_rfl) rfl ?_
 refine wl_m (.tmp 23) (.int .i64 ((4 : Nat) : Int)) ?_
 refine wl_m (.tmp 24) (.int .i64 ((e : Nat) : Int)) ?_
 refine w_nil (xn_then (w_seq (w_reg ?_)))
 refine wl_m (.tmp 6) (.int .i64 ((4 : Nat) : Int)) ?_
 refine wl_m (.tmp 0) (.string s) ?_
 refine wl_m (.tmp 1) (.int .i64 ((k : Nat) : Int)) ?_
 refine wl_m (.tmp 7) (.int .i64 ((e : Nat) : Int)) ?_
 refine wl_val (.string (s.extract k e)) (mid_run _ _ _ _ s (k) (e) (by exact rfl) (by exact rfl) (by exact rfl) (by omega) (by omega) _ _ _ _ _ _) rfl ?_
 refine wl_call 28 [(.tmp 26), (.tmp 30)] _ [.int .i64 ((4 : Nat) : Int), .string (s.extract k e)] (.tuple #[.agg #[.int .i64 0, .bool false, .int .u64 0, .int .u64 0, .int .u64 0, .int .u64 0, .int .i64 0, .bool false, .string ⟨#[]⟩, .int .i64 0], .bool true]) rfl rfl (fun _ _ => by kernel_rfl) (hm _) rfl ?_
 intro w3 hq
 replace Q1 := Q1.mo hq
 replace M := M.trans hq
 clear hq
 refine wl_m (.tmp 31) (.tuple #[.agg #[.int .i64 0, .bool false, .int .u64 0, .int .u64 0, .int .u64 0, .int .u64 0, .int .i64 0, .bool false, .string ⟨#[]⟩, .int .i64 0], .bool true]) ?_
 refine wl_un (fun v => Instr.extract v 0) (.tmp 25) (.tuple #[.agg #[.int .i64 0, .bool false, .int .u64 0, .int .u64 0, .int .u64 0, .int .u64 0, .int .i64 0, .bool false, .string ⟨#[]⟩, .int .i64 0], .bool true]) (.agg #[.int .i64 0, .bool false, .int .u64 0, .int .u64 0, .int .u64 0, .int .u64 0, .int .i64 0, .bool false, .string ⟨#[]⟩, .int .i64 0]) (fun _ => rfl) rfl (by kernel_rfl) rfl ?_
 refine wl_un (fun v => Instr.extract v 1) (.tmp 25) (.tuple #[.agg #[.int .i64 0, .bool false, .int .u64 0, .int .u64 0, .int .u64 0, .int .u64 0, .int .i64 0, .bool false, .string ⟨#[]⟩, .int .i64 0], .bool true]) (.bool true) (fun _ => rfl) rfl (by kernel_rfl) rfl ?_
 refine wl_alloc 35 #[.int .i64 0, .bool false, .int .u64 0, .int .u64 0, .int .u64 0, .int .u64 0, .int .i64 0, .bool false, .string ⟨#[]⟩, .int .i64 0] rfl (fun _ => by kernel_rfl) rfl ?_
 intro k2 w4 hk hz hq Q2
 have ne_k1_k2 : k1 ≠ k2 := by have := Q1.lt; omega
 have N_k2 : w.heap.size ≤ k2 := by have := M.size; omega
 replace Q1 := Q1.mo hq
 replace M := M.trans hq
 clear hk hz hq
 refine wl_st 35 (.tmp 8) (.tmp 32) k2 0 #[.int .i64 0, .bool false, .int .u64 0, .int .u64 0, .int .u64 0, .int .u64 0, .int .i64 0, .bool false, .string ⟨#[]⟩, .int .i64 0] _ [.int .i64 0, .bool false, .int .u64 0, .int .u64 0, .int .u64 0, .int .u64 0, .int .i64 0, .bool false, .string ⟨#[]⟩, .int .i64 0] Q2 rfl rfl rfl rfl rfl sz35 rfl rfl rfl ?_
 intro w5 hS Qn
 replace Q2 := Qn
 clear Qn
 replace Q1 := hS.other _ _ ne_k1_k2 Q1
 replace M := hS.mo _ N_k2 M
 clear hS
 refine wl_m (.tmp 33) (.bool true) ?_
 refine w_nil (xn_then (w_seq (w_seq (w_reg ?_))))
 refine wl_m (.tmp 9) (.bool true) ?_
 refine wl_un (fun v => Op.unary .not v) (.tmp 34) (.bool true) (.bool false) (fun _ => rfl) rfl (by kernel_rfl) rfl ?_
 refine w_nil (xn_then (w_condF rfl (w_skip (xn_then (w_seq ?_)))))
 refine w_any 8 [.inl (.int .i64 ((4 : Nat) : Int)), .inl (.string s), .inl (.int .i64 ((k : Nat) : Int)), .inl (.int .i64 ((e : Nat) : Int)), .inl (.string (s.extract k e)), .inl (.agg #[.int .i64 0, .bool false, .int .u64 0, .int .u64 0, .int .u64 0, .int .u64 0, .int .i64 0, .bool false, .string ⟨#[]⟩, .int .i64 0]), .inl (.int .i64 ((k : Nat) : Int)), .inl (.agg #[.int .i64 ((4 : Nat) : Int), .string (s.extract k e), .int .i64 0, .bool false, .int .u64 0, .int .u64 0, .int .u64 0, .int .u64 0, .int .i64 0, .bool false, .string ⟨#[]⟩, .int .i64 0, .int .i64 ((k : Nat) : Int)])] [] (by kernel_rfl) (by kernel_rfl) (by kernel_rfl) (by kernel_rfl) rfl (by kernel_rfl) (by kernel_rfl) late_nil ?_ ?_ ?_
 ·exact Ds.none rfl
 ·refine ea_cons ?_ (ea_cons ?_ (ea_cons ?_ (ea_cons ?_ (ea_cons ?_ (ea_cons ?_ (ea_cons ?_ (ea_cons ?_ (ea_nil))))))))
  ·exact og_eq _ rfl (fun f wf hq hd K hK => go_run rfl (wo_mv (.tmp 6) (.int .i64 ((4 : Nat) : Int)) (fun _ => rfl) rfl (hK _ (Mw.refl _))))
  ·exact og_eq _ rfl (fun f wf hq hd K hK => go_run rfl (wo_mv (.tmp 0) (.string s) (fun _ => rfl) rfl (hK _ (Mw.refl _))))
  ·exact og_eq _ rfl (fun f wf hq hd K hK => go_run rfl (wo_mv (.tmp 1) (.int .i64 ((k : Nat) : Int)) (fun _ => rfl) rfl (hK _ (Mw.refl _))))
  ·exact og_eq _ rfl (fun f wf hq hd K hK => go_run rfl (wo_mv (.tmp 7) (.int .i64 ((e : Nat) : Int)) (fun _ => rfl) rfl (hK _ (Mw.refl _))))
  ·exact og_eq _ rfl (fun f wf hq hd K hK => go_run rfl (wo_val (.string (s.extract k e)) (mid_run _ _ _ _ s (k) (e) (by exact (hd 1 rfl)) (by exact (hd 2 rfl)) (by exact (hd 3 rfl)) (by omega) (by omega) _ _ _ _ _ _) (hK _ (Mw.refl _))))
  ·exact og_eq _ rfl (fun f wf hq hd K hK => have Q2 := Q2.mo hq; go_run rfl (wo_load 35 (.tmp 8) (pt k2 0) (.agg #[.int .i64 0, .bool false, .int .u64 0, .int .u64 0, .int .u64 0, .int .u64 0, .int .i64 0, .bool false, .string ⟨#[]⟩, .int .i64 0]) rfl rfl (run_row Q2 35 0 10 _ rfl Tryd.underlying35 rfl sz35) (hK _ (Mw.refl _))))
  ·exact og_eq _ rfl (fun f wf hq hd K hK => go_run rfl (wo_mv (.tmp 1) (.int .i64 ((k : Nat) : Int)) (fun _ => rfl) rfl (hK _ (Mw.refl _))))
  ·exact og_eq _ rfl (fun f wf hq hd K hK => go_run rfl (wo_build 37 [(0, (.tmp 37)), (1, (.tmp 41)), (2, (.tmp 42)), (3, (.tmp 43))] [(0, .int .i64 ((4 : Nat) : Int)), (1, .string (s.extract k e)), (2, .agg #[.int .i64 0, .bool false, .int .u64 0, .int .u64 0, .int .u64 0, .int .u64 0, .int .i64 0, .bool false, .string ⟨#[]⟩, .int .i64 0]), (3, .int .i64 ((k : Nat) : Int))] (.agg #[.int .i64 ((4 : Nat) : Int), .string (s.extract k e), .int .i64 0, .bool false, .int .u64 0, .int .u64 0, .int .u64 0, .int .u64 0, .int .i64 0, .bool false, .string ⟨#[]⟩, .int .i64 0, .int .i64 ((k : Nat) : Int)]) rfl (lp4 (hd 0 rfl) (hd 4 rfl) (hd 5 rfl) (hd 6 rfl)) (by kernel_rfl) (hK _ (Mw.refl _))))
 intro kf6 w6 hq hR hne
 replace Q1 := Q1.mo hq
 replace Q2 := Q2.mo hq
 replace M := M.trans hq
 clear hq hR hne
 refine wl_st 37 (.tmp 4) (.tmp 44) k1 0 #[.int .i64 ((4 : Nat) : Int), .string (s.extract k e), .int .i64 0, .bool false, .int .u64 0, .int .u64 0, .int .u64 0, .int .u64 0, .int .i64 0, .bool false, .string ⟨#[]⟩, .int .i64 0, .int .i64 ((k : Nat) : Int)] _ [.int .i64 ((4 : Nat) : Int), .string (s.extract k e), .int .i64 0, .bool false, .int .u64 0, .int .u64 0, .int .u64 0, .int .u64 0, .int .i64 0, .bool false, .string ⟨#[]⟩, .int .i64 0, .int .i64 ((k : Nat) : Int)] Q1 rfl rfl rfl rfl rfl sz37 rfl rfl rfl ?_
 intro w7 hS Qn
 replace Q1 := Qn
 clear Qn
 replace Q2 := hS.other _ _ ne_k1_k2.symm Q2
 replace M := hS.mo _ N_k1 M
 clear hS
 refine wl_m (.const (.int .i64 (0))) (.int .i64 (0)) ?_
 refine w_nil (xn_then (w_ret ?_))
 exact w_ret2 _ _ (.agg #[.int .i64 ((4 : Nat) : Int), .string (s.extract k e), .int .i64 0, .bool false, .int .u64 0, .int .u64 0, .int .u64 0, .int .u64 0, .int .i64 0, .bool false, .string ⟨#[]⟩, .int .i64 0, .int .i64 ((k : Nat) : Int)]) (.int .i64 (0)) rfl ⟨k1, rfl, (run_row Q1 37 0 13 _ rfl Tryd.underlying37 rfl sz37)⟩ rfl ⟨rfl, M⟩
theorem next_4f (s : ByteArray) (k e : Nat) (w : World) (hs : s.size ≤ 140737488355328) (hk : k < s.size) (hr : rch s k = (4, e)) (hm : ∀ w, Calls Tryd.prog 28 #[.int .i64 ((4 : Nat) : Int), .string (s.extract k e)] w fun e' w' => e' = .returned (.tuple #[.agg #[.int .i64 0, .bool false, .int .u64 0, .int .u64 0, .int .u64 0, .int .u64 0, .int .i64 0, .bool false, .string ⟨#[]⟩, .int .i64 0], .bool false]) ∧ Mw w w') : Calls Tryd.prog 12 #[.string s, .int .i64 ((k : Nat) : Int)] w fun e' w' => e' = .returned (.tuple #[.agg #[.int .i64 0, .string ⟨#[]⟩, .int .i64 0, .bool false, .int .u64 0, .int .u64 0, .int .u64 0, .int .u64 0, .int .i64 0, .bool false, .string ⟨#[]⟩, .int .i64 0, .int .i64 0], .int .i64 70]) ∧ Mw w w' := by
 have hrg := rch_rg hk
 rw [hr] at hrg
 simp only at hrg
 refine w_enter 45 Tryd.func12 Tryd.ntmps12 rfl rfl ?_
 have M : Mw w w := Mw.refl _
 refine w_seq (w_reg ?_)
 refine wl_alloc 37 #[.int .i64 0, .string ⟨#[]⟩, .int .i64 0, .bool false, .int .u64 0, .int .u64 0, .int .u64 0, .int .u64 0, .int .i64 0, .bool false, .string ⟨#[]⟩, .int .i64 0, .int .i64 0] rfl (fun _ => by kernel_rfl) rfl ?_
 intro k1 w1 hk hz hq Q1
 have N_k1 : w.heap.size ≤ k1 := by have := M.size; omega
 replace M := M.trans hq
 clear hk hz hq
 refine wl_m (.const (.int .i64 (0))) (.int .i64 (0)) ?_
 refine w_nil (xn_then (w_seq (w_seq (w_reg ?_))))
 refine wl_m (.tmp 1) (.int .i64 ((k : Nat) : Int)) ?_
 refine wl_b .lss 3 (.tmp 10) (.const (.int .i64 (0))) (.int .i64 ((k : Nat) : Int)) (.int .i64 (0)) (.bool false) (lt3_run (r := false) (decide_eq_false (by omega)) _ _ _) ?_
 refine wl_m (.tmp 11) (.bool false) ?_
 refine wl_m (.tmp 1) (.int .i64 ((k : Nat) : Int)) ?_
 refine wl_m (.tmp 0) (.string s) ?_
 refine wl_val (.int .i64 ((s.size : Nat) : Int)) (len_s _ _ s (by exact rfl) _ _ _ _ _ _) rfl ?_
 refine wl_b .geq 3 (.tmp 13) (.tmp 15) (.int .i64 ((k : Nat) : Int)) (.int .i64 ((s.size : Nat) : Int)) (.bool false) (geN (decide_eq_false (by omega)) _ _ _) ?_
 refine wl_pick (.tmp 12) (.const (.bool true)) (.tmp 16) false (.bool false) (fun _ => rfl) rfl rfl rfl ?_
 refine w_nil (xn_then (w_condF rfl (w_skip (xn_then (w_seq (w_reg ?_))))))
 refine wl_m (.tmp 0) (.string s) ?_
 refine wl_m (.tmp 1) (.int .i64 ((k : Nat) : Int)) ?_
 refine wl_call 27 [(.tmp 20), (.tmp 21)] _ [.string s, .int .i64 ((k : Nat) : Int)] (.tuple #[.int .i64 ((4 : Nat) : Int), .int .i64 ((e : Nat) : Int)]) rfl rfl (fun _ _ => by kernel_rfl) (reach_c hr _ (by unfold maxLen; omega) hk) rfl ?_
 intro w2 hq
 replace Q1 := Q1.mo hq
 replace M := M.trans hq
 clear hq
 refine wl_m (.tmp 22) (.tuple #[.int .i64 ((4 : Nat) : Int), .int .i64 ((e : Nat) : Int)]) ?_
 refine wl_un (fun v => Instr.extract v 0) (.tmp 19) (.tuple #[.int .i64 ((4 : Nat) : Int), .int .i64 ((e : Nat) : Int)]) (.int .i64 ((4 : Nat) : Int)) (fun _ => rfl) rfl (by kernel_rfl) rfl ?_
 refine wl_un (fun v => Instr.extract v 1) (.tmp 19) (.tuple #[.int .i64 ((4 : Nat) : Int), .int .i64 ((e : Nat) : Int)]) (.int .i64 ((e : Nat) : Int)) (fun _ => rfl) rfl (by kernel_rfl) rfl ?_
 refine wl_m (.tmp 23) (.int .i64 ((4 : Nat) : Int)) ?_
 refine wl_m (.tmp 24) (.int .i64 ((e : Nat) : Int)) ?_
 refine w_nil (xn_then (w_seq (w_reg ?_)))
 refine wl_m (.tmp 6) (.int .i64 ((4 : Nat) : Int)) ?_
 refine wl_m (.tmp 0) (.string s) ?_
 refine wl_m (.tmp 1) (.int .i64 ((k : Nat) : Int)) ?_
 refine wl_m (.tmp 7) (.int .i64 ((e : Nat) : Int)) ?_
 refine wl_val (.string (s.extract k e)) (mid_run _ _ _ _ s (k) (e) (by exact rfl) (by exact rfl) (by exact rfl) (by omega) (by omega) _ _ _ _ _ _) rfl ?_
 refine wl_call 28 [(.tmp 26), (.tmp 30)] _ [.int .i64 ((4 : Nat) : Int), .string (s.extract k e)] (.tuple #[.agg #[.int .i64 0, .bool false, .int .u64 0, .int .u64 0, .int .u64 0, .int .u64 0, .int .i64 0, .bool false, .string ⟨#[]⟩, .int .i64 0], .bool false]) rfl rfl (fun _ _ => by kernel_rfl) (hm _) rfl ?_
 intro w3 hq
 replace Q1 := Q1.mo hq
 replace M := M.trans hq
 clear hq
 refine wl_m (.tmp 31) (.tuple #[.agg #[.int .i64 0, .bool false, .int .u64 0, .int .u64 0, .int .u64 0, .int .u64 0, .int .i64 0, .bool false, .string ⟨#[]⟩, .int .i64 0], .bool false]) ?_
 refine wl_un (fun v => Instr.extract v 0) (.tmp 25) (.tuple #[.agg #[.int .i64 0, .bool false, .int .u64 0, .int .u64 0, .int .u64 0, .int .u64 0, .int .i64 0, .bool false, .string ⟨#[]⟩, .int .i64 0], .bool false]) (.agg #[.int .i64 0, .bool false, .int .u64 0, .int .u64 0, .int .u64 0, .int .u64 0, .int .i64 0, .bool false, .string ⟨#[]⟩, .int .i64 0]) (fun _ => rfl) rfl (by kernel_rfl) rfl ?_
 refine wl_un (fun v => Instr.extract v 1) (.tmp 25) (.tuple #[.agg #[.int .i64 0, .bool false, .int .u64 0, .int .u64 0, .int .u64 0, .int .u64 0, .int .i64 0, .bool false, .string ⟨#[]⟩, .int .i64 0], .bool false]) (.bool false) (fun _ => rfl) rfl (by kernel_rfl) rfl ?_
 refine wl_alloc 35 #[.int .i64 0, .bool false, .int .u64 0, .int .u64 0, .int .u64 0, .int .u64 0, .int .i64 0, .bool false, .string ⟨#[]⟩, .int .i64 0] rfl (fun _ => by kernel_rfl) rfl ?_
 intro k2 w4 hk hz hq Q2
 have ne_k1_k2 : k1 ≠ k2 := by have := Q1.lt; omega
 have N_k2 : w.heap.size ≤ k2 := by have := M.size; omega
 replace Q1 := Q1.mo hq
 replace M := M.trans hq
 clear hk hz hq
 refine wl_st 35 (.tmp 8) (.tmp 32) k2 0 #[.int .i64 0, .bool false, .int .u64 0, .int .u64 0, .int .u64 0, .int .u64 0, .int .i64 0, .bool false, .string ⟨#[]⟩, .int .i64 0] _ [.int .i64 0, .bool false, .int .u64 0, .int .u64 0, .int .u64 0, .int .u64 0, .int .i64 0, .bool false, .string ⟨#[]⟩, .int .i64 0] Q2 rfl rfl rfl rfl rfl sz35 rfl rfl rfl ?_
 intro w5 hS Qn
 replace Q2 := Qn
 clear Qn
 replace Q1 := hS.other _ _ ne_k1_k2 Q1
 replace M := hS.mo _ N_k2 M
 clear hS
 refine wl_m (.tmp 33) (.bool false) ?_
 refine w_nil (xn_then (w_seq (w_seq (w_reg ?_))))
 refine wl_m (.tmp 9) (.bool false) ?_
 refine wl_un (fun v => Op.unary .not v) (.tmp 34) (.bool false) (.bool true) (fun _ => rfl) rfl (by kernel_rfl) rfl ?_
 refine w_nil (xn_then (w_condT rfl (w_seq (w_reg ?_))))
 refine wl_build 37 [] [] (.agg #[.int .i64 0, .string ⟨#[]⟩, .int .i64 0, .bool false, .int .u64 0, .int .u64 0, .int .u64 0, .int .u64 0, .int .i64 0, .bool false, .string ⟨#[]⟩, .int .i64 0, .int .i64 0]) rfl rfl (by kernel_rfl) rfl ?_
 refine wl_st 37 (.tmp 4) (.tmp 36) k1 0 #[.int .i64 0, .string ⟨#[]⟩, .int .i64 0, .bool false, .int .u64 0, .int .u64 0, .int .u64 0, .int .u64 0, .int .i64 0, .bool false, .string ⟨#[]⟩, .int .i64 0, .int .i64 0] _ [.int .i64 0, .string ⟨#[]⟩, .int .i64 0, .bool false, .int .u64 0, .int .u64 0, .int .u64 0, .int .u64 0, .int .i64 0, .bool false, .string ⟨#[]⟩, .int .i64 0, .int .i64 0] Q1 rfl rfl rfl rfl rfl sz37 rfl rfl rfl ?_
 intro w6 hS Qn
 replace Q1 := Qn
 clear Qn
 replace Q2 := hS.other _ _ ne_k1_k2.symm Q2
 replace M := hS.mo _ N_k1 M
 clear hS
 refine wl_m (.const (.int .i64 (70))) (.int .i64 (70)) ?_
 refine w_nil (xn_then (w_ret (xr_then ?_)))
 exact w_ret2 _ _ (.agg #[.int .i64 0, .string ⟨#[]⟩, .int .i64 0, .bool false, .int .u64 0, .int .u64 0, .int .u64 0, .int .u64 0, .int .i64 0, .bool false, .string ⟨#[]⟩, .int .i64 0, .int .i64 0]) (.int .i64 (70)) rfl ⟨k1, rfl, (run_row Q1 37 0 13 _ rfl Tryd.underlying37 rfl sz37)⟩ rfl ⟨rfl, M⟩
end Go.Proofs.YthgknegocfhdbaaDoor.V
/-
 Words put behind a slice of one's own.
-/
namespace Go.Proofs.YthgknegocfhdbaaDoor
open Go.RowKit
theorem inf37 : ∃ i, Tryd.prog.info? 37 = some i ∧ i.zero = some (.agg #[.int .i64 0, .string ⟨#[]⟩, .int .i64 0, .bool false, .int .u64 0, .int .u64 0, .int .u64 0, .int .u64 0, .int .i64 0, .bool false, .string ⟨#[]⟩, .int .i64 0, .int .i64 0]) ∧ i.size = 13 ∧ i.bytes = 120 := by
 have h : (Tryd.prog.info? 37).map (fun i => (i.zero, i.size, i.bytes)) = some (some (.agg #[.int .i64 0, .string ⟨#[]⟩, .int .i64 0, .bool false, .int .u64 0, .int .u64 0, .int .u64 0, .int .u64 0, .int .i64 0, .bool false, .string ⟨#[]⟩, .int .i64 0, .int .i64 0]), 13, 120) := by kernel_rfl
 cases hi : Tryd.prog.info? 37 with
 | none => rw [hi] at h; cases h
 | some i =>
  rw [hi] at h
  simp at h
  exact ⟨i, rfl, h.1, h.2.1, h.2.2⟩
theorem app37 (w : World) (ty : TypeId) (N : Nat) (v : Value) (n : Nat) (xs : List Value) (hown : w.ownsRow N 37 13 v n xs) (k m c : Nat) (news : List Value) (hl : news.length = m * 13) (hA : At w k news) (h1 : ∀ u ∈ news, u.oneCell' = true) (hm : 0 < m) (hn : n + m ≤ 700000000000) (hN : N ≤ w.heap.size) :
  ∃ v' w', (Builtin.append_ #[22, 22] ty #[v, .slice (some ⟨k, 0, none⟩) m c]).run Tryd.prog w = .ok v' w' ∧ w'.ownsRow N 37 13 v' (n + m) (xs ++ news) ∧ AppW v w w' ∧ (v'.ownBlock = v.ownBlock ∨ v'.ownBlock = some w.heap.size) := by
 obtain ⟨i, hi, hz, hs, hby⟩ := inf37
 have hnews : ∀ j u, news[j]? = some u → w.cell? ((⟨k, 0, none⟩ : Addr).add j) = some u := fun j u hu => by
  rw [Addr.add_mid]; have := hA.1 j u hu; simpa using this
 obtain ⟨v', w', hr, h2, h3, _, h5⟩ := run_append_own_at (P := Tryd.prog) w N 22 ty 37 i _ 13 120 Tryd.underlying22 hi hz hs hby rfl (by decide) v n xs hown ⟨k, 0, none⟩ m c news hl hnews h1 (by unfold maxLen; omega) (by omega) hN
 refine ⟨v', w', hr, h2, ⟨h3.os, h3.tape, h3.output, h3.size, fun j hj hne => h3.block j hj (fun e => hne e.symm), ?_⟩, h5⟩
 rcases hown.2 with ⟨rfl, rfl⟩ | ⟨g, cap, cur, rfl, hbg, hg, hnc, hcm, hcs, htake⟩
 ·have hr2 := run_append_nil (P := Tryd.prog) w 22 ty 37 i _ Tryd.underlying22 hi hz ⟨k, 0, none⟩ m c news (by rw [hs]; exact hl) hnews hm (by omega) (by first | omega | (rw [hby]; omega) | (rw [hby]; exact growslice_fits (n := 0) (by omega) (by omega)))
  rw [hr2] at hr
  cases hr
  exact ((Mo.refl w).drew.alloc _ _).2
 ·by_cases hroom : n + m ≤ cap
  ·have hr2 := run_append_room (P := Tryd.prog) w 22 ty 37 i Tryd.underlying22 hi g n cap cur hg ⟨k, 0, none⟩ m c news (by rw [hs]; exact hl) hnews h1 hroom (by rw [hs]; first | omega | (rw [hl]; omega) | (simp [hl]; omega))
   rw [hr2] at hr
   cases hr
   intro a
   by_cases e : a.block = g
   ·have h9 := setRow_heap w g cur (cur.toList.take (n * i.size) ++ news ++ cur.toList.drop (n * i.size + news.length)).toArray 37 (0, 0) hg
    simp only [World.frozen?, e, h9, hg]
   ·exact World.frozen?_of_block (setRow_other w g a.block _ e)
  ·have hr2 := run_append_grow (P := Tryd.prog) w 22 ty 37 i _ Tryd.underlying22 hi hz ⟨g, 0, none⟩ n cap xs (by rw [hs]; exact hown.1) (hown.cells (g := g) rfl) ⟨k, 0, none⟩ m c news (by rw [hs]; exact hl) hnews (by omega) (by omega) (by rw [hby]; exact growslice_fits (by omega) (by omega))
   rw [hr2] at hr
   cases hr
   exact ((Mo.refl w).drew.alloc _ _).2
namespace V
theorem own_mw37 {w w' : World} {N : Nat} {v : Value} {n : Nat} {xs : List Value} (h : w.ownsRow N 37 13 v n xs) (m : Mw w w') : w'.ownsRow N 37 13 v n xs :=
 h.kept (row := none) ⟨m.os, m.tape, m.output, m.size, fun k hk _ => m.block k hk⟩ (by cases e : v.ownBlock <;> simp)
section
variable {o : Oper} {n : Nat} {l : List (Nat × Value)} {w : World} {ops : Array Oper} {rest : List Oper} {Q : Exit → Act → World → Prop}
theorem wl_app37 (s x : Operand) (N : Nat) (v : Value) (q : Nat) (xs : List Value) (k m c : Nat) (news : List Value) (ho : o.op = .call { callee := .builtin .append, args := #[s, x], argTypes := #[22, 22] }) (hs : evl n l s = v) (hx : evl n l x = .slice (some ⟨k, 0, none⟩) m c)
  (hown : w.ownsRow N 37 13 v q xs) (hl : news.length = m * 13) (hA : At w k news) (h1 : ∀ u ∈ news, u.oneCell' = true) (hm : 0 < m) (hn : q + m ≤ 700000000000) (hN : N ≤ w.heap.size) (hg : wnt n l ops o = true)
  (hk : ∀ v' w', w'.ownsRow N 37 13 v' (q + m) (xs ++ news) → AppW v w w' → (v'.ownBlock = v.ownBlock ∨ v'.ownBlock = some w.heap.size) → WL Tryd.prog ops Q rest n (ext l o.dst v') w') : WL Tryd.prog ops Q (o :: rest) n l w := by
 obtain ⟨v', w', hr, h2, h3, h4⟩ := app37 w o.type N v q xs hown k m c news hl hA h1 hm hn hN
 refine ⟨l_step hg (o_val v' (w' := w') ?_ (hk v' w' h2 h3 h4).out)⟩
 unfold execOp
 simp only [ho, resolve, invoke, builtin, Sem.run_bind, Sem.run_pure, Result.andThen_ok, List.map_toArray, List.map_cons, List.map_nil, hs, hx, hr]
end
end V
end Go.Proofs.YthgknegocfhdbaaDoor
/-
 lex.Scan, out of what Next answers place by place.
-/
namespace Go.Proofs.YthgknegocfhdbaaDoor.V
open Go.RowKit
theorem blk_rg (s : ByteArray) : ∀ (d k : Nat), s.size - k ≤ d → k ≤ s.size → k ≤ blk s k ∧ blk s k ≤ s.size := by
 intro d
 induction d with
 | zero => intro k hd hk; rw [blk_end (by omega)]; omega
 | succ d ih =>
  intro k hd hk
  by_cases h : k < s.size
  ·cases h2 : isb (bt s k) with
   | true => rw [blk_b h h2]; have := ih (k + 1) (by omega) (by omega); omega
   | false =>
    cases h3 : ((bt s k == 47) && (bt s (k + 1) == 47)) with
    | true =>
     rw [blk_c h h2 h3]
     have h4 := lnx_ge' s (k + 1)
     have h5 := lnx_le' (s := s) (k := k + 1) (by omega)
     have := ih (lnx s (k + 1)) (by omega) h5
     omega
    | false => rw [blk_n h2 h3]; omega
  ·rw [blk_end h]; omega
structure St2 (k : Nat) (w w' : World) : Prop extends St k w w' where
 os : w'.os = w.os
 tape : w'.tape = w.tape
 output : w'.output = w.output
 block : ∀ j, j ≠ k → w'.heap[j]? = w.heap[j]?
theorem St2.mk2 (w : World) (k o : Nat) (l : List Value) : St2 k w (w.setCells k o l) :=
 { St.mk' w k o l with
  os := (heap_setCells k (k + 1) (by omega) l o w).2.1
  tape := (heap_setCells k (k + 1) (by omega) l o w).2.2.1
  output := (heap_setCells k (k + 1) (by omega) l o w).2.2.2
  block := fun j hj => (heap_setCells k j hj l o w).1 }
theorem own_st {w w' : World} {N k : Nat} {v : Value} {n : Nat} {xs : List Value} (m : St2 k w w') (h : w.ownsRow N 37 13 v n xs) (hne : v.ownBlock ≠ some k) : w'.ownsRow N 37 13 v n xs :=
 h.kept (row := some k) ⟨m.os, m.tape, m.output, Nat.le_of_eq m.size.symm, fun j _ hj => m.block j (fun e => hj (by rw [e]))⟩ (Or.inr hne)
theorem own_mo {w w' : World} {N : Nat} {v : Value} {n : Nat} {xs : List Value} (h : w.ownsRow N 37 13 v n xs) (m : Mw w w') : w'.ownsRow N 37 13 v n xs := own_mw37 h m
section
variable {P : Program} {o : Oper} {n : Nat} {l : List (Nat × Value)} {w : World} {ops : Array Oper} {rest : List Oper} {Q : Exit → Act → World → Prop}
theorem wl_stx (ty : TypeId) (x y : Operand) (k off : Nat) (us : Array Value) (vs vs' : List Value) (hA : At w k vs) (ho : o.op = .store ty x y) (hd : o.dst = none) (hx : evl n l x = pt k off) (hy : evl n l y = .agg us)
  (hl : Nat.ble (off + us.size) vs.length = true) (hi : (P.info? ty).map (·.size) = some us.size) (h1 : us.toList.all (·.oneCell') = true) (hvs : vs' = vs.take off ++ us.toList ++ vs.drop (off + us.toList.length)) (hg : wnt n l ops o = true)
  (hk : ∀ w', St2 k w w' → At w' k vs' → WL P ops Q rest n l w') : WL P ops Q (o :: rest) n l w :=
 ⟨l_step hg (o_store ty x y _ _ ho hd hx hy (run_put hA ty off us (Nat.le_of_ble_eq_true hl) hi (by rw [← Array.all_toList]; exact h1)) (hk _ (St2.mk2 w k off us.toList) (hA.set off us.toList (by have := Nat.le_of_ble_eq_true hl; simpa using this) vs' hvs)).out)⟩
theorem w_ret3 {fn : Func} {R : Ending → World → Prop} (x y z : Tmp) (v u t : Value) (hf : fn.results = #[.tmp x, .tmp y, .tmp z]) (h : resv n l P w v (.tmp x)) (g : resv n l P w u (.tmp y)) (k : resv n l P w t (.tmp z)) (hR : R (.returned (.tuple #[v, u, t])) w) : WX (bodyPost P fn R) .ret n l w := by
 refine ⟨bodyPost_ret (v := .tuple #[v, u, t]) ?_ rfl hR⟩
 have h1 := resv_tmp h
 have g1 := resv_tmp g
 have k1 := resv_tmp k
 simp [results, hf, h1, g1, k1]
end
inductive Sc (s : ByteArray) : Nat → List (List Value) → Nat → Int → Prop
 | done {k : Nat} (h : ¬ k < s.size) : Sc s k [] 0 0
 | err {k : Nat} (h : k < s.size) (hn : ∀ w, Calls Tryd.prog 12 #[.string s, .int .i64 ((k : Nat) : Int)] w fun e' w' => e' = .returned (.tuple #[.agg #[.int .i64 0, .string ⟨#[]⟩, .int .i64 0, .bool false, .int .u64 0, .int .u64 0, .int .u64 0, .int .u64 0, .int .i64 0, .bool false, .string ⟨#[]⟩, .int .i64 0, .int .i64 0], .int .i64 70]) ∧ Mw w w') : Sc s k [] k 70
 | tok {k e K : Nat} {v0 v1 v2 v3 v4 v5 v6 v7 v8 v9 : Value} {L : List (List Value)} {p : Nat} {E : Int} (h : k < s.size) (hke : k < e) (hes : e ≤ s.size) (hoc : ([.int .i64 ((K : Nat) : Int), .string (s.extract k e), v0, v1, v2, v3, v4, v5, v6, v7, v8, v9, .int .i64 ((k : Nat) : Int)] : List Value).all (·.oneCell') = true)
   (hn : ∀ w, Calls Tryd.prog 12 #[.string s, .int .i64 ((k : Nat) : Int)] w fun e' w' => e' = .returned (.tuple #[.agg #[.int .i64 ((K : Nat) : Int), .string (s.extract k e), v0, v1, v2, v3, v4, v5, v6, v7, v8, v9, .int .i64 ((k : Nat) : Int)], .int .i64 0]) ∧ Mw w w') (hr : Sc s (blk s e) L p E) : Sc s k ([.int .i64 ((K : Nat) : Int), .string (s.extract k e), v0, v1, v2, v3, v4, v5, v6, v7, v8, v9, .int .i64 ((k : Nat) : Int)] :: L) p E
theorem AppW.mw {v : Value} {a b c : World} (h : AppW v b c) (hM : Mw a b) (hn : ∀ k, v.ownBlock = some k → a.heap.size ≤ k) : Mw a c :=
 ⟨h.os.trans hM.os, h.tape.trans hM.tape, h.output.trans hM.output, Nat.le_trans hM.size h.size, fun k hk => (h.block k (Nat.lt_of_lt_of_le hk hM.size) (fun e => by have := hn k e; omega)).trans (hM.block k hk)⟩
theorem bs22 (c0 c1 c2 c3 c4 c5 c6 c7 c8 c9 c10 c11 c12 : Value) (w : World) : (Instr.buildSlice 22 1 #[(0, .agg #[c0, c1, c2, c3, c4, c5, c6, c7, c8, c9, c10, c11, c12])]).run Tryd.prog w = .ok (.slice (some ⟨w.heap.size, 0, none⟩) 1 1) (w.alloc (.cells #[c0, c1, c2, c3, c4, c5, c6, c7, c8, c9, c10, c11, c12] 37)) := by kernel_rfl
section
variable {o : Oper} {n : Nat} {l : List (Nat × Value)} {w : World} {ops : Array Oper} {rest : List Oper} {Q : Exit → Act → World → Prop}
theorem wl_bs22 (x : Operand) (c0 c1 c2 c3 c4 c5 c6 c7 c8 c9 c10 c11 c12 : Value) (ho : o.op = .buildSlice 22 1 #[(0, x)]) (hx : evl n l x = .agg #[c0, c1, c2, c3, c4, c5, c6, c7, c8, c9, c10, c11, c12]) (hg : wnt n l ops o = true)
  (hk : ∀ k w', w.heap.size = k → w'.heap.size = k + 1 → Mw w w' → At w' k [c0, c1, c2, c3, c4, c5, c6, c7, c8, c9, c10, c11, c12] → WL Tryd.prog ops Q rest n (ext l o.dst (.slice (some ⟨k, 0, none⟩) 1 1)) w') : WL Tryd.prog ops Q (o :: rest) n l w :=
 ⟨l_step hg (o_val (.slice (some ⟨w.heap.size, 0, none⟩) 1 1) (w' := w.alloc (.cells #[c0, c1, c2, c3, c4, c5, c6, c7, c8, c9, c10, c11, c12] 37)) (by
  have h := bs22 c0 c1 c2 c3 c4 c5 c6 c7 c8 c9 c10 c11 c12 w
  simp [execOp, ho, hx, h]) (hk _ _ rfl (by simp) ((Mw.refl _).alloc _ _) (At.new w #[c0, c1, c2, c3, c4, c5, c6, c7, c8, c9, c10, c11, c12] 37)).out)⟩
end
theorem len_e {t : ByteArray} {m : Nat} (ht : t.size = m) (ρ : Operand → Value) (x : Operand) (hx : ρ x = .string t) (dst : Option Tmp) (type : TypeId) (pos : String) (after : Array Edge) (guard : Option (Nat × Bool)) (w : World) : (execOp ρ { dst, op := .call { callee := .builtin .len, args := #[x], argTypes := #[9] }, type, pos, after, guard }).run Tryd.prog w = .ok (.value (.int .i64 (m : Int))) w := by
 subst ht; exact len_z _ _ _ hx _ _ _ _ _ _
theorem scan_n (s : ByteArray) (L : List (List Value)) (p : Nat) (E : Int) (w : World) (hS0 : Sc s (blk s 0) L p E) (hlong : decide (16384 < s.size) = false) : Calls Tryd.prog 8 #[.string s] w fun e' w' => ∃ v, e' = .returned (.tuple #[v, .int .i64 ((p : Nat) : Int), .int .i64 E]) ∧ (E = 0 → w'.ownsRow w.heap.size 37 13 v L.length L.flatten) ∧ (E ≠ 0 → v = .slice none 0 0) ∧ Mw w w' := by
 have hlp := of_decide_eq_false hlong
 refine w_enter 40 Tryd.func8 Tryd.ntmps8 rfl rfl ?_
 have M : Mw w w := Mw.refl _
 refine w_seq (w_reg ?_)
 refine wl_m (.const (.slice none 0 0)) (.slice none 0 0) ?_
 refine wl_m (.const (.int .i64 (0))) (.int .i64 (0)) ?_
 refine wl_m (.const (.int .i64 (0))) (.int .i64 (0)) ?_
 refine w_nil (xn_then (w_seq (w_seq (w_reg ?_))))
 refine wl_m (.tmp 0) (.string s) ?_
 refine wl_val (.int .i64 ((s.size : Nat) : Int)) (len_s _ _ s (by exact rfl) _ _ _ _ _ _) rfl ?_
 refine wl_b .gtr 3 (.tmp 10) (.const (.int .i64 (16384))) (.int .i64 ((s.size : Nat) : Int)) (.int .i64 (16384)) (.bool false) (gtN hlong _ _ _) ?_
 refine w_nil (xn_then (w_condF rfl (w_skip (xn_then (w_seq (w_reg ?_))))))
 refine wl_m (.const (.slice none 0 0)) (.slice none 0 0) ?_
 refine w_nil (xn_then (w_seq (w_seq (w_reg ?_))))
 refine wl_m (.tmp 0) (.string s) ?_
 refine wl_call 14 [(.tmp 12), (.const (.int .i64 (0)))] _ [.string s, .int .i64 (0)] (.int .i64 ((blk s 0 : Nat) : Int)) rfl rfl (fun _ _ => by kernel_rfl) (wk (blank_n s 0 _ (by unfold maxLen; omega) (by omega))) rfl ?_
 intro w1 hq
 replace M := M.trans hq
 clear hq
 refine wl_m (.tmp 13) (.int .i64 ((blk s 0 : Nat) : Int)) ?_
 refine w_nil (xn_then (w_block ?_))
 refine w_loop (fun m l w1 => ∃ (k : Nat) (D R : List (List Value)) (v : Value), m = s.size + 1 - k ∧ look l 0 = .string s ∧ look l 5 = v ∧ look l 6 = .int .i64 ((k : Nat) : Int) ∧ k ≤ s.size ∧ D.length ≤ k ∧ w1.ownsRow w.heap.size 37 13 v D.length D.flatten ∧ Sc s k R p E ∧ (E = 0 → L = D ++ R) ∧ Mw w w1) _ ⟨blk s 0, [], L, .slice none 0 0, rfl, rfl, rfl, rfl, (blk_rg s _ 0 (Nat.le_refl _) (by omega)).2, Nat.zero_le _, ⟨rfl, .inl ⟨rfl, rfl⟩⟩, hS0, fun _ => rfl, M⟩ ?_
 clear M
 rintro m l wl ⟨k, D, R, v, rfl, e0, e5, e6, hk, hDk, hown, hSc, hLD, M⟩
 cases hSc with
 | done h =>
  have hkd := decide_eq_false h
  refine w_seq (w_seq (w_reg ?_))
  refine wl_mv (.tmp 6) (.int .i64 ((k : Nat) : Int)) (fun _ => rfl) e6 rfl ?_
  refine wl_mv (.tmp 0) (.string s) (fun _ => rfl) e0 rfl ?_
  refine wl_val (.int .i64 ((s.size : Nat) : Int)) (len_s _ _ s (by exact rfl) _ _ _ _ _ _) rfl ?_
  refine wl_b .lss 3 (.tmp 14) (.tmp 16) (.int .i64 ((k : Nat) : Int)) (.int .i64 ((s.size : Nat) : Int)) (.bool false) (ltN hkd _ _ _) ?_
  refine w_nil (xn_then (w_condF rfl (w_exit (xx_then (xx_then (xx_blk (xn_then (w_seq (w_reg ?_)))))))))
  refine wl_mv (.tmp 5) (v) (fun _ => rfl) e5 rfl ?_
  refine wl_m (.tmp 39) (v) ?_
  refine wl_m (.const (.int .i64 (0))) (.int .i64 (0)) ?_
  refine wl_m (.const (.int .i64 (0))) (.int .i64 (0)) ?_
  refine w_nil (xn_then (w_ret ?_))
  exact w_ret3 _ _ _ (v) (.int .i64 (0)) (.int .i64 (0)) rfl rfl rfl rfl ⟨v, rfl, fun _ => by rw [hLD rfl, List.append_nil]; exact hown, fun h => absurd rfl h, M⟩
 | err h hn =>
  have hkd := decide_eq_true h
  refine w_seq (w_seq (w_reg ?_))
  refine wl_mv (.tmp 6) (.int .i64 ((p : Nat) : Int)) (fun _ => rfl) e6 rfl ?_
  refine wl_mv (.tmp 0) (.string s) (fun _ => rfl) e0 rfl ?_
  refine wl_val (.int .i64 ((s.size : Nat) : Int)) (len_s _ _ s (by exact rfl) _ _ _ _ _ _) rfl ?_
  refine wl_b .lss 3 (.tmp 14) (.tmp 16) (.int .i64 ((p : Nat) : Int)) (.int .i64 ((s.size : Nat) : Int)) (.bool true) (ltN hkd _ _ _) ?_
  refine w_nil (xn_then (w_condT rfl (w_skip (xn_then (w_block (w_seq (w_reg ?_)))))))
  refine wl_mv (.tmp 0) (.string s) (fun _ => rfl) e0 rfl ?_
  refine wl_mv (.tmp 6) (.int .i64 ((p : Nat) : Int)) (fun _ => rfl) e6 rfl ?_
  refine wl_call 12 [(.tmp 19), (.tmp 20)] _ [.string s, .int .i64 ((p : Nat) : Int)] (.tuple #[.agg #[.int .i64 0, .string ⟨#[]⟩, .int .i64 0, .bool false, .int .u64 0, .int .u64 0, .int .u64 0, .int .u64 0, .int .i64 0, .bool false, .string ⟨#[]⟩, .int .i64 0, .int .i64 0], .int .i64 (70)]) rfl rfl (fun _ _ => by kernel_rfl) (hn _) rfl ?_
  intro w11 hq
  replace hown := own_mo hown hq
  replace M := M.trans hq
  clear hq
  refine wl_m (.tmp 21) (.tuple #[.agg #[.int .i64 0, .string ⟨#[]⟩, .int .i64 0, .bool false, .int .u64 0, .int .u64 0, .int .u64 0, .int .u64 0, .int .i64 0, .bool false, .string ⟨#[]⟩, .int .i64 0, .int .i64 0], .int .i64 (70)]) ?_
  refine wl_un (fun v => Instr.extract v 0) (.tmp 18) (.tuple #[.agg #[.int .i64 0, .string ⟨#[]⟩, .int .i64 0, .bool false, .int .u64 0, .int .u64 0, .int .u64 0, .int .u64 0, .int .i64 0, .bool false, .string ⟨#[]⟩, .int .i64 0, .int .i64 0], .int .i64 (70)]) (.agg #[.int .i64 0, .string ⟨#[]⟩, .int .i64 0, .bool false, .int .u64 0, .int .u64 0, .int .u64 0, .int .u64 0, .int .i64 0, .bool false, .string ⟨#[]⟩, .int .i64 0, .int .i64 0]) (fun _ => rfl) rfl (by kernel_rfl) rfl ?_
  refine wl_un (fun v => Instr.extract v 1) (.tmp 18) (.tuple #[.agg #[.int .i64 0, .string ⟨#[]⟩, .int .i64 0, .bool false, .int .u64 0, .int .u64 0, .int .u64 0, .int .u64 0, .int .i64 0, .bool false, .string ⟨#[]⟩, .int .i64 0, .int .i64 0], .int .i64 (70)]) (.int .i64 (70)) (fun _ => rfl) rfl (by kernel_rfl) rfl ?_
  refine wl_alloc 37 #[.int .i64 0, .string ⟨#[]⟩, .int .i64 0, .bool false, .int .u64 0, .int .u64 0, .int .u64 0, .int .u64 0, .int .i64 0, .bool false, .string ⟨#[]⟩, .int .i64 0, .int .i64 0] rfl (fun _ => by kernel_rfl) rfl ?_
  intro k1 w12 hk hz hq Q1
  have on_k1 : v.ownBlock ≠ some k1 := fun e => by have := (hown.lt _ e).2; omega
  have N_k1 : w.heap.size ≤ k1 := by have := M.size; omega
  replace hown := own_mo hown hq
  replace M := M.trans hq
  clear hk hz hq
  refine wl_stx 37 (.tmp 7) (.tmp 22) k1 0 #[.int .i64 0, .string ⟨#[]⟩, .int .i64 0, .bool false, .int .u64 0, .int .u64 0, .int .u64 0, .int .u64 0, .int .i64 0, .bool false, .string ⟨#[]⟩, .int .i64 0, .int .i64 0] _ [.int .i64 0, .string ⟨#[]⟩, .int .i64 0, .bool false, .int .u64 0, .int .u64 0, .int .u64 0, .int .u64 0, .int .i64 0, .bool false, .string ⟨#[]⟩, .int .i64 0, .int .i64 0] Q1 rfl rfl rfl rfl rfl sz37 rfl rfl rfl ?_
  intro w13 hS Qn
  replace Q1 := Qn
  clear Qn
  replace hown := own_st hS hown on_k1
  replace M := hS.mo _ N_k1 M
  clear hS
  refine wl_m (.tmp 23) (.int .i64 (70)) ?_
  refine w_nil (xn_then (w_seq (w_seq (w_reg ?_))))
  refine wl_m (.tmp 8) (.int .i64 (70)) ?_
  refine wl_b .neq 23 (.tmp 24) (.const (.int .i64 (0))) (.int .i64 (70)) (.int .i64 (0)) (.bool true) (by kernel_rfl) ?_
  refine w_nil (xn_then (w_condT rfl (w_seq (w_reg ?_))))
  refine wl_mv (.tmp 6) (.int .i64 ((p : Nat) : Int)) (fun _ => rfl) e6 rfl ?_
  refine wl_m (.tmp 8) (.int .i64 (70)) ?_
  refine wl_m (.const (.slice none 0 0)) (.slice none 0 0) ?_
  refine wl_m (.tmp 26) (.int .i64 ((p : Nat) : Int)) ?_
  refine wl_m (.tmp 27) (.int .i64 (70)) ?_
  refine w_nil (xn_then (w_ret (xr_then (xr_blk (xr_then (xr_blk (xr_then ?_)))))))
  exact w_ret3 _ _ _ (.slice none 0 0) (.int .i64 ((p : Nat) : Int)) (.int .i64 (70)) rfl rfl rfl rfl ⟨_, rfl, (fun h => by cases h), fun _ => rfl, M⟩
 | @tok _ e K v0 v1 v2 v3 v4 v5 v6 v7 v8 v9 R9 _ _ h hke hes hoc hn hr =>
  have hkd := decide_eq_true h
  have hsz : (s.extract k e).size = e - k := by rw [ByteArray.size_extract, Nat.min_eq_left hes]
  refine w_seq (w_seq (w_reg ?_))
  refine wl_mv (.tmp 6) (.int .i64 ((k : Nat) : Int)) (fun _ => rfl) e6 rfl ?_
  refine wl_mv (.tmp 0) (.string s) (fun _ => rfl) e0 rfl ?_
  refine wl_val (.int .i64 ((s.size : Nat) : Int)) (len_s _ _ s (by exact rfl) _ _ _ _ _ _) rfl ?_
  refine wl_b .lss 3 (.tmp 14) (.tmp 16) (.int .i64 ((k : Nat) : Int)) (.int .i64 ((s.size : Nat) : Int)) (.bool true) (ltN hkd _ _ _) ?_
  refine w_nil (xn_then (w_condT rfl (w_skip (xn_then (w_block (w_seq (w_reg ?_)))))))
  refine wl_mv (.tmp 0) (.string s) (fun _ => rfl) e0 rfl ?_
  refine wl_mv (.tmp 6) (.int .i64 ((k : Nat) : Int)) (fun _ => rfl) e6 rfl ?_
  refine wl_call 12 [(.tmp 19), (.tmp 20)] _ [.string s, .int .i64 ((k : Nat) : Int)] (.tuple #[.agg #[.int .i64 ((K : Nat) : Int), .string (s.extract k e), v0, v1, v2, v3, v4, v5, v6, v7, v8, v9, .int .i64 ((k : Nat) : Int)], .int .i64 (0)]) rfl rfl (fun _ _ => by kernel_rfl) (hn _) rfl ?_
  intro w11 hq
  replace hown := own_mo hown hq
  replace M := M.trans hq
  clear hq
  refine wl_m (.tmp 21) (.tuple #[.agg #[.int .i64 ((K : Nat) : Int), .string (s.extract k e), v0, v1, v2, v3, v4, v5, v6, v7, v8, v9, .int .i64 ((k : Nat) : Int)], .int .i64 (0)]) ?_
  refine wl_un (fun v => Instr.extract v 0) (.tmp 18) (.tuple #[.agg #[.int .i64 ((K : Nat) : Int), .string (s.extract k e), v0, v1, v2, v3, v4, v5, v6, v7, v8, v9, .int .i64 ((k : Nat) : Int)], .int .i64 (0)]) (.agg #[.int .i64 ((K : Nat) : Int), .string (s.extract k e), v0, v1, v2, v3, v4, v5, v6, v7, v8, v9, .int .i64 ((k : Nat) : Int)]) (fun _ => rfl) rfl (by kernel_rfl) rfl ?_
  refine wl_un (fun v => Instr.extract v 1) (.tmp 18) (.tuple #[.agg #[.int .i64 ((K : Nat) : Int), .string (s.extract k e), v0, v1, v2, v3, v4, v5, v6, v7, v8, v9, .int .i64 ((k : Nat) : Int)], .int .i64 (0)]) (.int .i64 (0)) (fun _ => rfl) rfl (by kernel_rfl) rfl ?_
  refine wl_alloc 37 #[.int .i64 0, .string ⟨#[]⟩, .int .i64 0, .bool false, .int .u64 0, .int .u64 0, .int .u64 0, .int .u64 0, .int .i64 0, .bool false, .string ⟨#[]⟩, .int .i64 0, .int .i64 0] rfl (fun _ => by kernel_rfl) rfl ?_
  intro k1 w12 hk hz hq Q1
  have on_k1 : v.ownBlock ≠ some k1 := fun e => by have := (hown.lt _ e).2; omega
  have N_k1 : w.heap.size ≤ k1 := by have := M.size; omega
  replace hown := own_mo hown hq
  replace M := M.trans hq
  clear hk hz hq
  refine wl_stx 37 (.tmp 7) (.tmp 22) k1 0 #[.int .i64 ((K : Nat) : Int), .string (s.extract k e), v0, v1, v2, v3, v4, v5, v6, v7, v8, v9, .int .i64 ((k : Nat) : Int)] _ [.int .i64 ((K : Nat) : Int), .string (s.extract k e), v0, v1, v2, v3, v4, v5, v6, v7, v8, v9, .int .i64 ((k : Nat) : Int)] Q1 rfl rfl rfl rfl rfl sz37 hoc rfl rfl ?_
  intro w13 hS Qn
  replace Q1 := Qn
  clear Qn
  replace hown := own_st hS hown on_k1
  replace M := hS.mo _ N_k1 M
  clear hS
  refine wl_m (.tmp 23) (.int .i64 (0)) ?_
  refine w_nil (xn_then (w_seq (w_seq (w_reg ?_))))
  refine wl_m (.tmp 8) (.int .i64 (0)) ?_
  refine wl_b .neq 23 (.tmp 24) (.const (.int .i64 (0))) (.int .i64 (0)) (.int .i64 (0)) (.bool false) (by kernel_rfl) ?_
  refine w_nil (xn_then (w_condF rfl (w_skip (xn_then (w_seq (w_reg ?_))))))
  refine wl_mv (.tmp 5) (v) (fun _ => rfl) e5 rfl ?_
  refine wl_l 37 (.tmp 7) (pt k1 0) (.agg #[.int .i64 ((K : Nat) : Int), .string (s.extract k e), v0, v1, v2, v3, v4, v5, v6, v7, v8, v9, .int .i64 ((k : Nat) : Int)]) (run_row Q1 37 0 13 _ rfl Tryd.underlying37 rfl sz37) ?_
  refine wl_bs22 (.tmp 29) (.int .i64 ((K : Nat) : Int)) (.string (s.extract k e)) (v0) (v1) (v2) (v3) (v4) (v5) (v6) (v7) (v8) (v9) (.int .i64 ((k : Nat) : Int)) rfl rfl rfl ?_
  intro kn w14 hkn hzn hq QN
  replace hown := own_mo hown hq
  replace Q1 := Q1.mo hq
  replace M := M.trans hq
  clear hq
  refine wl_app37 (.tmp 28) (.tmp 30) w.heap.size v D.length D.flatten kn 1 1 [.int .i64 ((K : Nat) : Int), .string (s.extract k e), v0, v1, v2, v3, v4, v5, v6, v7, v8, v9, .int .i64 ((k : Nat) : Int)] rfl rfl rfl hown rfl QN (fun u hu => by have := List.all_eq_true.1 hoc u hu; exact this) (by decide) (by omega) (by have := M.size; omega) rfl ?_
  intro va9 w15 hO9 hA9 hb9
  replace Q1 : At w15 k1 [.int .i64 ((K : Nat) : Int), .string (s.extract k e), v0, v1, v2, v3, v4, v5, v6, v7, v8, v9, .int .i64 ((k : Nat) : Int)] := AppW.at hA9 Q1 on_k1
  replace M := AppW.mw hA9 M (fun j e => (hown.lt j e).1)
  replace hown := hO9
  refine wl_m (.tmp 31) (va9) ?_
  refine w_nil (xn_then (w_reg ?_))
  refine wl_mv (.tmp 0) (.string s) (fun _ => rfl) e0 rfl ?_
  refine wl_mv (.tmp 6) (.int .i64 ((k : Nat) : Int)) (fun _ => rfl) e6 rfl ?_
  refine wl_f 37 1 (.tmp 7) (pt k1 0) (pt k1 1) ?_
  refine wl_l 9 (.tmp 34) (pt k1 1) (.string (s.extract k e)) (run_one Q1 9 1 rfl Tryd.underlying9 rfl) ?_
  refine wl_val (.int .i64 ((e - k : Nat) : Int)) (len_e hsz _ _ (by exact rfl) _ _ _ _ _ _) rfl ?_
  refine wl_b .add 3 (.tmp 33) (.tmp 36) (.int .i64 ((k : Nat) : Int)) (.int .i64 ((e - k : Nat) : Int)) (.int .i64 ((e : Nat) : Int)) (addk (by omega) (by omega) _ _ _) ?_
  refine wl_call 14 [(.tmp 32), (.tmp 37)] _ [.string s, .int .i64 ((e : Nat) : Int)] (.int .i64 ((blk s e : Nat) : Int)) rfl rfl (fun _ _ => by kernel_rfl) (wk (blank_n s e _ (by unfold maxLen; omega) (by omega))) rfl ?_
  intro w16 hq
  replace hown := own_mo hown hq
  replace Q1 := Q1.mo hq
  replace M := M.trans hq
  clear hq
  refine wl_m (.tmp 38) (.int .i64 ((blk s e : Nat) : Int)) ?_
  refine w_nil (xn_blk ?_)
  exact xn_loop (s.size + 1 - blk s e) (by have := blk_rg s _ e (Nat.le_refl _) hes; omega) ⟨blk s e, D ++ [_], R9, va9, rfl, e0, rfl, rfl, (blk_rg s _ e (Nat.le_refl _) hes).2, by have := blk_rg s _ e (Nat.le_refl _) hes; rw [List.length_append]; simp only [List.length_singleton]; omega, by rw [List.length_append, List.flatten_append]; simpa using hown, hr, fun hE => by rw [hLD hE, List.append_assoc]; rfl, M⟩
end Go.Proofs.YthgknegocfhdbaaDoor.V
/-
 Texts in quotes, over lists: what Quote writes, what Unquote takes out, and that each is the other's way back.
-/
namespace Go.Proofs.YthgknegocfhdbaaDoor.V
open Go.RowKit
theorem bt_l (l : List UInt8) (k : Nat) : bt ⟨l.toArray⟩ k = (((l[k]?).map (fun x => x.toNat)).getD 0 : Nat) := by
 unfold bt
 have e : (⟨l.toArray⟩ : ByteArray).size = l.length := by simp [ByteArray.size]
 by_cases h : k < l.length
 ·rw [dif_pos (by rw [e]; exact h), List.getElem?_eq_getElem h]; rfl
 ·rw [dif_neg (by rw [e]; exact h), List.getElem?_eq_none (by omega)]; rfl
theorem sz_l (l : List UInt8) : (⟨l.toArray⟩ : ByteArray).size = l.length := by simp [ByteArray.size]
theorem ba_eta (s : ByteArray) : (⟨(by8 s).toArray⟩ : ByteArray) = s := by cases s; simp [by8]
theorem ex_l (l : List UInt8) (i j : Nat) : (⟨l.toArray⟩ : ByteArray).extract i j = ⟨((l.drop i).take (j - i)).toArray⟩ := by
 have h := by8_ext ⟨l.toArray⟩ i j
 rw [← ba_eta ((⟨l.toArray⟩ : ByteArray).extract i j), h]
theorem u8_id (c : UInt8) : ((c.toNat : Nat) : Int).toNat.toUInt8 = c := by
 simp [Nat.toUInt8]
def hx (n : Nat) : UInt8 := if n < 10 then (48 + n).toUInt8 else (87 + n).toUInt8
def qb (c : UInt8) : List UInt8 := if c = 34 ∨ c = 92 then [92, c] else if c < 32 ∨ 126 < c then [92, 120, hx (c.toNat / 16), hx (c.toNat % 16)] else [c]
def qi (l : List UInt8) : List UInt8 := l.flatMap qb
def qt (l : List UInt8) : List UInt8 := 34 :: (qi l ++ [34])
theorem qi_cons (c : UInt8) (l : List UInt8) : qi (c :: l) = qb c ++ qi l := by simp [qi]
theorem qi_app (a b : List UInt8) : qi (a ++ b) = qi a ++ qi b := by simp [qi]
set_option maxRecDepth 100000 in
theorem hexB_fin : ∀ c : Fin 256, (c.val < 32 ∨ 126 < c.val) → hexB ((hx (c.val / 16)).toNat : Nat) ((hx (c.val % 16)).toNat : Nat) = (((c.val : Nat) : Int), 4) := by decide +kernel
theorem hexB_qb {c : UInt8} (h : c < 32 ∨ 126 < c) : hexB ((hx (c.toNat / 16)).toNat : Nat) ((hx (c.toNat % 16)).toNat : Nat) = (((c.toNat : Nat) : Int), 4) := by
 refine hexB_fin ⟨c.toNat, UInt8.toNat_lt c⟩ ?_
 rcases h with h | h
 ·exact Or.inl (UInt8.lt_iff_toNat_lt.1 h)
 ·exact Or.inr (UInt8.lt_iff_toNat_lt.1 h)
theorem u8_ne {c : UInt8} {k : Nat} (hk : k < 256) (h : c ≠ k.toUInt8) : ((c.toNat : Nat) : Int) ≠ (k : Int) := by
 intro e
 refine h (UInt8.toNat_inj.1 ?_)
 have : c.toNat = k := by omega
 rw [this, Nat.toUInt8, UInt8.toNat_ofNat']; omega
theorem u8_eq {c : UInt8} {k : Nat} (hk : k < 256) : ((c.toNat : Nat) : Int) = (k : Int) ↔ c = k.toUInt8 := by
 constructor
 ·intro h; exact Decidable.byContradiction fun e => u8_ne hk e h
 ·rintro rfl
  rw [Nat.toUInt8, UInt8.toNat_ofNat']; omega
theorem fb_qb (c : UInt8) (r : List UInt8) : fb ⟨(qb c ++ r).toArray⟩ = (((c.toNat : Nat) : Int), (((qb c).length : Nat) : Int)) := by
 unfold fb
 simp only [bt_l, sz_l]
 unfold qb
 by_cases h1 : c = 34 ∨ c = 92
 ·rw [if_pos h1]
  rcases h1 with rfl | rfl <;> simp
 ·rw [if_neg h1]
  have a34 : ¬ c = 34 := fun e => h1 (Or.inl e)
  have a92 : ¬ c = 92 := fun e => h1 (Or.inr e)
  have b34 : (((c.toNat : Nat) : Int) == 34) = false := by
   rw [beq_eq_false_iff_ne]; exact u8_ne (k := 34) (by decide) a34
  have b92 : (((c.toNat : Nat) : Int) == 92) = false := by
   rw [beq_eq_false_iff_ne]; exact u8_ne (k := 92) (by decide) a92
  by_cases h2 : c < 32 ∨ 126 < c
  ·rw [if_pos h2]
   have := hexB_qb h2
   simp [this]
  ·rw [if_neg h2]
   have hp : prn ((c.toNat : Nat) : Int) = true := by
    have h3 : ¬ c.toNat < 32 := fun e => h2 (Or.inl (UInt8.lt_iff_toNat_lt.2 e))
    have h4 : ¬ 126 < c.toNat := fun e => h2 (Or.inr (UInt8.lt_iff_toNat_lt.2 e))
    unfold prn; simp; omega
   simp [b34, b92, hp]
theorem qb_pos (c : UInt8) : 0 < (qb c).length := by
 unfold qb; split
 ·simp
 ·split <;> simp
theorem qb_le (c : UInt8) : (qb c).length ≤ 4 := by
 unfold qb; split
 ·simp
 ·split <;> simp
theorem uq_qi : ∀ l : List UInt8, uq ⟨(qi l).toArray⟩ = some l
 | [] => uq_0 (by rw [sz_l]; rfl)
 | c :: l => by
  have hp := qb_pos c
  have h := fb_qb c (qi l)
  rw [qi_cons]
  rw [uq_s (c := ((c.toNat : Nat) : Int)) (u := (qb c).length) (by rw [sz_l, List.length_append]; omega) (by rw [h]) (by rw [h]) (by omega), ex_l, sz_l]
  rw [List.drop_append_of_le_length (Nat.le_refl _), List.drop_length, List.nil_append, List.take_of_length_le (by rw [List.length_append]; omega), uq_qi l, u8_id]
  rfl
set_option maxRecDepth 100000 in
theorem hx_fin : ∀ a : Fin 16, (by8 ⟨#[48, 49, 50, 51, 52, 53, 54, 55, 56, 57, 97, 98, 99, 100, 101, 102]⟩)[a.val]? = some (hx a.val) := by decide +kernel
theorem hxd_hx {c : UInt8} {a : Nat} (ha : a < 16) (h : hxd ((c.toNat : Nat) : Int) = (a : Int)) : c = hx a := by
 unfold hxd at h
 rw [u8_id] at h
 have h1 := (Lib.indexByte_some h).1
 rw [hx_fin ⟨a, ha⟩] at h1
 exact (Option.some.inj h1).symm
theorem hexB_of {h l : UInt8} (hne : (hexB ((h.toNat : Nat) : Int) ((l.toNat : Nat) : Int)).2 ≠ 0) : ∃ a b : Nat, a < 16 ∧ b < 16 ∧ h = hx a ∧ l = hx b ∧ hexB ((h.toNat : Nat) : Int) ((l.toNat : Nat) : Int) = (((16 * a + b : Nat) : Int), 4) ∧ prn ((16 * a + b : Nat) : Int) = false := by
 unfold hexB at hne ⊢
 rcases hxd_cases ((h.toNat : Nat) : Int) with h1 | ⟨a, ha, h1⟩
 ·rw [if_pos (Or.inl (by omega))] at hne; exact absurd rfl hne
 ·rcases hxd_cases ((l.toNat : Nat) : Int) with h2 | ⟨b, hb, h2⟩
  ·rw [if_pos (Or.inr (by omega))] at hne; exact absurd rfl hne
  ·rw [h1, h2, if_neg (by omega), show (16 * (a : Int) + (b : Int)) = ((16 * a + b : Nat) : Int) by omega] at hne ⊢
   cases hp : prn ((16 * a + b : Nat) : Int) with
   | true => rw [hp, if_pos rfl] at hne; exact absurd rfl hne
   | false => exact ⟨a, b, ha, hb, hxd_hx ha h1, hxd_hx hb h2, by rw [if_neg (by simp)], hp⟩
theorem qb_hex {a b : Nat} (ha : a < 16) (hb : b < 16) (hp : prn ((16 * a + b : Nat) : Int) = false) : qb (16 * a + b).toUInt8 = [92, 120, hx a, hx b] := by
 have e : ((16 * a + b).toUInt8).toNat = 16 * a + b := by rw [Nat.toUInt8, UInt8.toNat_ofNat']; omega
 have hr : 16 * a + b < 32 ∨ 126 < 16 * a + b := by
  unfold prn at hp; simp at hp; omega
 have n34 : ¬ (16 * a + b).toUInt8 = 34 := fun h => by rw [h] at e; have : (34 : UInt8).toNat = 34 := rfl; omega
 have n92 : ¬ (16 * a + b).toUInt8 = 92 := fun h => by rw [h] at e; have : (92 : UInt8).toNat = 92 := rfl; omega
 unfold qb
 rw [if_neg (fun h => h.elim n34 n92), if_pos, e]
 ·rw [show (16 * a + b) / 16 = a by omega, show (16 * a + b) % 16 = b by omega]
 ·rw [UInt8.lt_iff_toNat_lt, UInt8.lt_iff_toNat_lt, e]; exact hr
theorem qb_self {c : UInt8} (h34 : ¬ c = 34) (h92 : ¬ c = 92) (hp : prn ((c.toNat : Nat) : Int) = true) : qb c = [c] := by
 unfold prn at hp; simp at hp
 unfold qb
 rw [if_neg (fun h => h.elim h34 h92), if_neg]
 rintro (h | h)
 ·have := UInt8.lt_iff_toNat_lt.1 h; have e : (32 : UInt8).toNat = 32 := rfl; omega
 ·have := UInt8.lt_iff_toNat_lt.1 h; have e : (126 : UInt8).toNat = 126 := rfl; omega
theorem beq34 (c : UInt8) : (((c.toNat : Nat) : Int) == 34) = decide (c = 34) := by
 rw [Bool.eq_iff_iff, beq_iff_eq, decide_eq_true_iff]; exact u8_eq (k := 34) (by decide)
theorem beq92 (c : UInt8) : (((c.toNat : Nat) : Int) == 92) = decide (c = 92) := by
 rw [Bool.eq_iff_iff, beq_iff_eq, decide_eq_true_iff]; exact u8_eq (k := 92) (by decide)
theorem beq120 (c : UInt8) : (((c.toNat : Nat) : Int) == 120) = decide (c = 120) := by
 rw [Bool.eq_iff_iff, beq_iff_eq, decide_eq_true_iff]; exact u8_eq (k := 120) (by decide)
theorem fb_take (l : List UInt8) (hl : l ≠ []) (hne : (fb ⟨l.toArray⟩).2 ≠ 0) : l.take (fb ⟨l.toArray⟩).2.toNat = qb (fb ⟨l.toArray⟩).1.toNat.toUInt8 := by
 unfold fb at hne ⊢
 simp only [bt_l, sz_l] at hne ⊢
 rcases l with _ | ⟨b0, l⟩
 ·exact absurd rfl hl
 simp only [List.getElem?_cons_zero, Option.map_some, Option.getD_some, beq92, beq34] at hne ⊢
 by_cases h0 : b0 = 92
 ·subst h0
  simp only [decide_true, Bool.true_eq_false, if_false] at hne ⊢
  rcases l with _ | ⟨b1, l⟩
  ·simp at hne
  simp only [List.getElem?_cons_succ, List.getElem?_cons_zero, Option.map_some, Option.getD_some, beq92, beq34, beq120, List.length_cons] at hne ⊢
  rw [if_neg (by omega)] at hne ⊢
  by_cases h1 : b1 = 34 ∨ b1 = 92
  ·rw [if_pos (by simpa using h1), u8_id]
   unfold qb
   rw [if_pos h1]; rfl
  ·rw [if_neg (by simpa using h1)] at hne ⊢
   by_cases h2 : b1 = 120
   ·subst h2
    rcases l with _ | ⟨b2, l⟩
    ·simp at hne
    rcases l with _ | ⟨b3, l⟩
    ·simp at hne
    simp only [List.getElem?_cons_succ, List.getElem?_cons_zero, Option.map_some, Option.getD_some, List.length_cons] at hne ⊢
    rw [if_pos ⟨by simp, by omega⟩] at hne ⊢
    obtain ⟨a, b, ha, hb, ea, eb, he, hp⟩ := hexB_of hne
    rw [he]
    show [92, 120, b2, b3] = qb (16 * a + b).toUInt8
    rw [qb_hex ha hb hp, ea, eb]
   ·rw [if_neg (fun h => h2 (by simpa using h.1))] at hne
    exact absurd rfl hne
 ·simp only [h0, decide_false, if_true] at hne ⊢
  by_cases h3 : b0 = 34
  ·rw [if_pos (Or.inl (by simpa using h3))] at hne; exact absurd rfl hne
  ·cases hp : prn ((b0.toNat : Nat) : Int) with
   | false => rw [if_pos (Or.inr hp)] at hne; exact absurd rfl hne
   | true =>
    rw [if_neg (by rintro (e | e); (exact h3 (by simpa using e)); (first | cases e | (rw [hp] at e; cases e))), u8_id, qb_self h3 h0 hp]
    rfl
theorem uq_of : ∀ (n : Nat) (l t : List UInt8), l.length ≤ n → uq ⟨l.toArray⟩ = some t → l = qi t := by
 intro n
 induction n with
 | zero =>
  intro l t hl h
  have : l = [] := List.length_eq_zero_iff.1 (by omega)
  subst this
  rw [uq_0 (by rw [sz_l]; rfl)] at h
  cases h; rfl
 | succ n ih =>
  intro l t hl h
  by_cases h0 : l = []
  ·subst h0
   rw [uq_0 (by rw [sz_l]; rfl)] at h
   cases h; rfl
  ·have hlen : 0 < l.length := List.length_pos_iff.2 h0
   have hs0 : ¬ (⟨l.toArray⟩ : ByteArray).size = 0 := by rw [sz_l]; omega
   have hok := fb_ok (s := ⟨l.toArray⟩) (by rw [sz_l]; omega)
   by_cases hz : (fb ⟨l.toArray⟩).2 = 0
   ·rw [uq_x hs0 hz] at h; cases h
   ·obtain ⟨u, hu⟩ : ∃ u : Nat, (fb ⟨l.toArray⟩).2 = (u : Int) := ⟨(fb ⟨l.toArray⟩).2.toNat, by omega⟩
    have ht := fb_take l h0 hz
    rw [uq_s hs0 rfl hu (by omega), ex_l, sz_l] at h
    rw [sz_l] at hok
    rw [hu] at ht
    simp only [Int.toNat_natCast] at ht
    rw [List.take_of_length_le (by rw [List.length_drop]; omega)] at h
    cases h2 : uq ⟨(l.drop u).toArray⟩ with
    | none => rw [h2] at h; cases h
    | some t2 =>
     rw [h2] at h
     cases h
     have h3 := ih (l.drop u) t2 (by rw [List.length_drop]; omega) h2
     rw [qi_cons, ← ht, ← h3, List.take_append_drop]
theorem unq_qt (l : List UInt8) : unq ⟨(qt l).toArray⟩ = (⟨l.toArray⟩, true) := by
 unfold unq
 have hs : (qt l).length = (qi l).length + 2 := by simp [qt]
 rw [if_neg]
 ·rw [ex_l, sz_l, hs]
  have e : ((qt l).drop 1).take ((qi l).length + 2 - 1 - 1) = qi l := by
   rw [show (qt l).drop 1 = qi l ++ [34] from rfl, show (qi l).length + 2 - 1 - 1 = (qi l).length by omega, List.take_left']
   rfl
  rw [e, uq_qi]
 ·rw [sz_l, hs, bt_l, bt_l]
  rintro (h | h | h)
  ·omega
  ·simp [qt] at h
  ·rw [show (qi l).length + 2 - 1 = (qi l).length + 1 by omega, show qt l = 34 :: (qi l ++ [34]) from rfl, List.getElem?_cons_succ, List.getElem?_append_right (Nat.le_refl _), Nat.sub_self] at h
   simp at h
theorem unq_of {s : ByteArray} (h : (unq s).2 = true) : by8 s = qt (by8 (unq s).1) := by
 unfold unq at h ⊢
 by_cases h1 : s.size < 2 ∨ (bt s 0 == 34) = false ∨ (bt s (s.size - 1) == 34) = false
 ·rw [if_pos h1] at h; cases h
 ·rw [if_neg h1] at h ⊢
  cases h2 : uq (s.extract 1 (s.size - 1)) with
  | none => rw [h2] at h; cases h
  | some t =>
   rw [← ba_eta (s.extract 1 (s.size - 1))] at h2
   have h3 := uq_of _ _ t (Nat.le_refl _) h2
   rw [by8_ext] at h3
   show by8 s = qt t
   have hsz : 2 ≤ s.size := by omega
   have b0 : bt s 0 = 34 := by
    have : (bt s 0 == 34) = true := by cases e : (bt s 0 == 34) with | true => rfl | false => exact absurd (Or.inr (Or.inl e)) h1
    exact beq_iff_eq.1 this
   have b1 : bt s (s.size - 1) = 34 := by
    have : (bt s (s.size - 1) == 34) = true := by cases e : (bt s (s.size - 1) == 34) with | true => rfl | false => exact absurd (Or.inr (Or.inr e)) h1
    exact beq_iff_eq.1 this
   have g : ∀ k (hk : k < s.size), bt s k = 34 → s[k] = 34 := fun k hk e => by
    rw [bt_in hk] at e; exact (u8_eq (k := 34) (by decide)).1 e
   have e0 := by8_drop (s := s) (k := 0) (by omega)
   rw [List.drop_zero, g 0 (by omega) b0] at e0
   have e1 := by8_drop (s := s) (k := s.size - 1) (by omega)
   rw [g _ (by omega) b1, show s.size - 1 + 1 = s.size by omega, show (by8 s).drop s.size = [] from List.drop_eq_nil_of_le (by rw [by8_len]; exact Nat.le_refl _)] at e1
   have e2 : (by8 s).drop 1 = ((by8 s).drop 1).take (s.size - 1 - 1) ++ (by8 s).drop (s.size - 1) := by
    have := (List.take_append_drop (s.size - 1 - 1) ((by8 s).drop 1)).symm
    rw [List.drop_drop, show 1 + (s.size - 1 - 1) = s.size - 1 by omega] at this
    exact this
   rw [e0, e2, h3, e1]; rfl
theorem unq_no {s : ByteArray} (h : (unq s).2 = false) : (unq s).1 = ⟨#[]⟩ := by
 unfold unq at h ⊢
 by_cases h1 : s.size < 2 ∨ (bt s 0 == 34) = false ∨ (bt s (s.size - 1) == 34) = false
 ·rw [if_pos h1]
 ·rw [if_neg h1] at h ⊢
  cases h2 : uq (s.extract 1 (s.size - 1)) with
  | none => rfl
  | some t => rw [h2] at h; cases h
def dhx (c : Int) : Int := if 97 ≤ c then c - 87 else (c - 48) % 256
def dh2 (a b : Int) : Int := (16 * dhx a % 256 + dhx b) % 256
def du (s : ByteArray) (i : Nat) : List UInt8 :=
  if h : i < s.size - 1 then
    (if (bt s i == 92) = true ∧ i + 1 < s.size - 1 ∧ (bt s (i + 1) == 120) = false then (bt s (i + 1)).toNat.toUInt8 :: du s (i + 2)
     else if (bt s i == 92) = true ∧ i + 3 < s.size - 1 then (dh2 (bt s (i + 2)) (bt s (i + 3))).toNat.toUInt8 :: du s (i + 4)
     else (bt s i).toNat.toUInt8 :: du s (i + 1))
  else []
termination_by s.size - i
theorem du_end {s : ByteArray} {i : Nat} (h : ¬ i < s.size - 1) : du s i = [] := by rw [du, dif_neg h]
theorem du_1 {s : ByteArray} {i : Nat} (h : i < s.size - 1) (h2 : (bt s i == 92) = true ∧ i + 1 < s.size - 1 ∧ (bt s (i + 1) == 120) = false) : du s i = (bt s (i + 1)).toNat.toUInt8 :: du s (i + 2) := by rw [du, dif_pos h, if_pos h2]
theorem du_2 {s : ByteArray} {i : Nat} (h : i < s.size - 1) (h2 : ¬ ((bt s i == 92) = true ∧ i + 1 < s.size - 1 ∧ (bt s (i + 1) == 120) = false)) (h3 : (bt s i == 92) = true ∧ i + 3 < s.size - 1) : du s i = (dh2 (bt s (i + 2)) (bt s (i + 3))).toNat.toUInt8 :: du s (i + 4) := by rw [du, dif_pos h, if_neg h2, if_pos h3]
theorem du_3 {s : ByteArray} {i : Nat} (h : i < s.size - 1) (h2 : ¬ ((bt s i == 92) = true ∧ i + 1 < s.size - 1 ∧ (bt s (i + 1) == 120) = false)) (h3 : ¬ ((bt s i == 92) = true ∧ i + 3 < s.size - 1)) : du s i = (bt s i).toNat.toUInt8 :: du s (i + 1) := by rw [du, dif_pos h, if_neg h2, if_neg h3]
theorem du_len (s : ByteArray) : ∀ (d i : Nat), s.size - i ≤ d → (du s i).length + i ≤ s.size + 1 ∨ du s i = [] := by
 intro d
 induction d with
 | zero => intro i h; exact Or.inr (du_end (by omega))
 | succ d ih =>
  intro i h
  by_cases h1 : i < s.size - 1
  ·left
   by_cases h2 : (bt s i == 92) = true ∧ i + 1 < s.size - 1 ∧ (bt s (i + 1) == 120) = false
   ·rw [du_1 h1 h2, List.length_cons]
    rcases ih (i + 2) (by omega) with e | e
    ·omega
    ·rw [e]; simp only [List.length_nil]; omega
   ·by_cases h3 : (bt s i == 92) = true ∧ i + 3 < s.size - 1
    ·rw [du_2 h1 h2 h3, List.length_cons]
     rcases ih (i + 4) (by omega) with e | e
     ·omega
     ·rw [e]; simp only [List.length_nil]; omega
    ·rw [du_3 h1 h2 h3, List.length_cons]
     rcases ih (i + 1) (by omega) with e | e
     ·omega
     ·rw [e]; simp only [List.length_nil]; omega
  ·exact Or.inr (du_end h1)
set_option maxRecDepth 100000 in
theorem dh2_fin : ∀ c : Fin 256, dh2 ((hx (c.val / 16)).toNat : Nat) ((hx (c.val % 16)).toNat : Nat) = ((c.val : Nat) : Int) := by decide +kernel
theorem du_qi : ∀ (l p : List UInt8), du ⟨(p ++ (qi l ++ [34])).toArray⟩ p.length = l := by
 intro l
 induction l with
 | nil =>
  intro p
  refine du_end ?_
  rw [sz_l]; simp [qi]
 | cons c l ih =>
  intro p
  have key : ∀ q : List UInt8, qb c = q → du ⟨(p ++ (q ++ (qi l ++ [34]))).toArray⟩ (p.length + q.length) = l := fun q hq => by
   have := ih (p ++ q)
   rw [List.length_append, List.append_assoc] at this
   exact this
  rw [qi_cons, List.append_assoc]
  have hg : ∀ (q r : List UInt8) (j : Nat), j < q.length → bt ⟨(p ++ (q ++ r)).toArray⟩ (p.length + j) = (((q[j]?).map (fun x => x.toNat)).getD 0 : Nat) := fun q r j hj => by
   rw [bt_l, List.getElem?_append_right (by omega), Nat.add_sub_cancel_left, List.getElem?_append_left hj]
  have hq := qb_pos c
  have hz : ∀ q : List UInt8, (⟨(p ++ (q ++ (qi l ++ [34]))).toArray⟩ : ByteArray).size - 1 = p.length + q.length + (qi l).length := fun q => by
   rw [sz_l]; simp only [List.length_append, List.length_singleton]; omega
  by_cases h1 : c = 34 ∨ c = 92
  ·have e : qb c = [92, c] := by unfold qb; rw [if_pos h1]
   have k := key _ e
   rw [e]
   have g0 := hg [92, c] (qi l ++ [34]) 0 (by simp)
   have g1 := hg [92, c] (qi l ++ [34]) 1 (by simp)
   simp only [List.getElem?_cons_zero, List.getElem?_cons_succ, Option.map_some, Option.getD_some, Nat.add_zero] at g0 g1
   rw [du_1 (by rw [hz]; simp only [List.length_cons, List.length_nil]; omega) ⟨by rw [g0]; rfl, by rw [hz]; simp only [List.length_cons, List.length_nil]; omega, by rw [g1]; rcases h1 with rfl | rfl <;> rfl⟩, g1, u8_id]
   rw [show p.length + 2 = p.length + [92, c].length from rfl, k]
  ·by_cases h2 : c < 32 ∨ 126 < c
   ·have e : qb c = [92, 120, hx (c.toNat / 16), hx (c.toNat % 16)] := by unfold qb; rw [if_neg h1, if_pos h2]
    have k := key _ e
    rw [e]
    have g0 := hg [92, 120, hx (c.toNat / 16), hx (c.toNat % 16)] (qi l ++ [34]) 0 (by simp)
    have g1 := hg [92, 120, hx (c.toNat / 16), hx (c.toNat % 16)] (qi l ++ [34]) 1 (by simp)
    have g2 := hg [92, 120, hx (c.toNat / 16), hx (c.toNat % 16)] (qi l ++ [34]) 2 (by simp)
    have g3 := hg [92, 120, hx (c.toNat / 16), hx (c.toNat % 16)] (qi l ++ [34]) 3 (by simp)
    simp only [List.getElem?_cons_zero, List.getElem?_cons_succ, Option.map_some, Option.getD_some, Nat.add_zero] at g0 g1 g2 g3
    rw [du_2 (by rw [hz]; simp only [List.length_cons, List.length_nil]; omega) (fun h => by rw [g1] at h; exact absurd h.2.2 (by decide)) ⟨by rw [g0]; rfl, by rw [hz]; simp only [List.length_cons, List.length_nil]; omega⟩, g2, g3]
    have hd := dh2_fin ⟨c.toNat, UInt8.toNat_lt c⟩
    simp only at hd
    rw [hd, u8_id, show p.length + 4 = p.length + [92, 120, hx (c.toNat / 16), hx (c.toNat % 16)].length from rfl, k]
   ·have e : qb c = [c] := by unfold qb; rw [if_neg h1, if_neg h2]
    have k := key _ e
    rw [e]
    have g0 := hg [c] (qi l ++ [34]) 0 (by simp)
    simp only [List.getElem?_cons_zero, Option.map_some, Option.getD_some, Nat.add_zero] at g0
    have n92 : ¬ ((((c.toNat : Nat) : Int) == 92) = true) := by rw [beq92]; simp; exact fun h => h1 (Or.inr h)
    rw [du_3 (by rw [hz]; simp only [List.length_cons, List.length_nil]; omega) (fun h => by rw [g0] at h; exact n92 h.1) (fun h => by rw [g0] at h; exact n92 h.1), g0, u8_id]
    rw [show p.length + 1 = p.length + [c].length from rfl, k]
theorem du_qt (l : List UInt8) : du ⟨(qt l).toArray⟩ 1 = l := du_qi l [34]
theorem unq_du (s : ByteArray) : unq s = if qt (du s 1) = by8 s then (⟨(du s 1).toArray⟩, true) else (⟨#[]⟩, false) := by
 by_cases h : qt (du s 1) = by8 s
 ·rw [if_pos h]
  have := unq_qt (du s 1)
  rw [h, ba_eta] at this
  exact this
 ·rw [if_neg h]
  cases h2 : (unq s).2 with
  | false => have := unq_no h2; exact Prod.ext this h2
  | true =>
   exfalso
   have h3 := unq_of h2
   have h4 := du_qt (by8 (unq s).1)
   rw [← h3, ba_eta] at h4
   rw [h4] at h
   exact h h3.symm
theorem qi_len (l : List UInt8) : (qi l).length ≤ 4 * l.length := by
 induction l with
 | nil => simp [qi]
 | cons c l ih => rw [qi_cons, List.length_append, List.length_cons]; have := qb_le c; omega
end Go.Proofs.YthgknegocfhdbaaDoor.V
/-
 Bytes put behind a slice of one's own: some at once.
-/
namespace Go.Proofs.YthgknegocfhdbaaDoor
open Go.RowKit
theorem app62 (w : World) (ty : TypeId) (N : Nat) (v : Value) (n : Nat) (xs : List Value) (hown : w.ownsRow N 5 1 v n xs) (k m c : Nat) (news : List Value) (hl : news.length = m * 1) (hA : At w k news) (h1 : ∀ u ∈ news, u.oneCell' = true) (hm : 0 < m) (hn : n + m ≤ 70000000000000) (hN : N ≤ w.heap.size) :
  ∃ v' w', (Builtin.append_ #[62, 62] ty #[v, .slice (some ⟨k, 0, none⟩) m c]).run Tryd.prog w = .ok v' w' ∧ w'.ownsRow N 5 1 v' (n + m) (xs ++ news) ∧ AppW v w w' ∧ (v'.ownBlock = v.ownBlock ∨ v'.ownBlock = some w.heap.size) := by
 obtain ⟨i, hi, hz, hs, hby⟩ := inf5
 have hnews : ∀ j u, news[j]? = some u → w.cell? ((⟨k, 0, none⟩ : Addr).add j) = some u := fun j u hu => by
  rw [Addr.add_mid]; have := hA.1 j u hu; simpa using this
 obtain ⟨v', w', hr, h2, h3, _, h5⟩ := run_append_own_at (P := Tryd.prog) w N 62 ty 5 i _ 1 1 Tryd.underlying62 hi hz hs hby rfl (by decide) v n xs hown ⟨k, 0, none⟩ m c news hl hnews h1 (by unfold maxLen; omega) (by omega) hN
 refine ⟨v', w', hr, h2, ⟨h3.os, h3.tape, h3.output, h3.size, fun j hj hne => h3.block j hj (fun e => hne e.symm), ?_⟩, h5⟩
 rcases hown.2 with ⟨rfl, rfl⟩ | ⟨g, cap, cur, rfl, hbg, hg, hnc, hcm, hcs, htake⟩
 ·have hr2 := run_append_nil (P := Tryd.prog) w 62 ty 5 i _ Tryd.underlying62 hi hz ⟨k, 0, none⟩ m c news (by rw [hs]; exact hl) hnews hm (by omega) (by first | omega | (rw [hby]; omega) | (rw [hby]; exact growslice_fits (n := 0) (by omega) (by omega)))
  rw [hr2] at hr
  cases hr
  exact ((Mo.refl w).drew.alloc _ _).2
 ·by_cases hroom : n + m ≤ cap
  ·have hr2 := run_append_room (P := Tryd.prog) w 62 ty 5 i Tryd.underlying62 hi g n cap cur hg ⟨k, 0, none⟩ m c news (by rw [hs]; exact hl) hnews h1 hroom (by rw [hs]; first | omega | (rw [hl]; omega) | (simp [hl]; omega))
   rw [hr2] at hr
   cases hr
   intro a
   by_cases e : a.block = g
   ·have h9 := setRow_heap w g cur (cur.toList.take (n * i.size) ++ news ++ cur.toList.drop (n * i.size + news.length)).toArray 5 (0, 0) hg
    simp only [World.frozen?, e, h9, hg]
   ·exact World.frozen?_of_block (setRow_other w g a.block _ e)
  ·have hr2 := run_append_grow (P := Tryd.prog) w 62 ty 5 i _ Tryd.underlying62 hi hz ⟨g, 0, none⟩ n cap xs (by rw [hs]; exact hown.1) (hown.cells (g := g) rfl) ⟨k, 0, none⟩ m c news (by rw [hs]; exact hl) hnews (by omega) (by omega) (by rw [hby]; exact growslice_fits (by omega) (by omega))
   rw [hr2] at hr
   cases hr
   exact ((Mo.refl w).drew.alloc _ _).2
namespace V
theorem own_mw5 {w w' : World} {N : Nat} {v : Value} {n : Nat} {xs : List Value} (h : w.ownsRow N 5 1 v n xs) (m : Mw w w') : w'.ownsRow N 5 1 v n xs :=
 h.kept (row := none) ⟨m.os, m.tape, m.output, m.size, fun k hk _ => m.block k hk⟩ (by cases e : v.ownBlock <;> simp)
section
variable {o : Oper} {n : Nat} {l : List (Nat × Value)} {w : World} {ops : Array Oper} {rest : List Oper} {Q : Exit → Act → World → Prop}
theorem wl_app62 (s x : Operand) (N : Nat) (v : Value) (q : Nat) (xs : List Value) (k m c : Nat) (news : List Value) (ho : o.op = .call { callee := .builtin .append, args := #[s, x], argTypes := #[62, 62] }) (hs : evl n l s = v) (hx : evl n l x = .slice (some ⟨k, 0, none⟩) m c)
  (hown : w.ownsRow N 5 1 v q xs) (hl : news.length = m * 1) (hA : At w k news) (h1 : ∀ u ∈ news, u.oneCell' = true) (hm : 0 < m) (hn : q + m ≤ 70000000000000) (hN : N ≤ w.heap.size) (hg : wnt n l ops o = true)
  (hk : ∀ v' w', w'.ownsRow N 5 1 v' (q + m) (xs ++ news) → AppW v w w' → (v'.ownBlock = v.ownBlock ∨ v'.ownBlock = some w.heap.size) → WL Tryd.prog ops Q rest n (ext l o.dst v') w') : WL Tryd.prog ops Q (o :: rest) n l w := by
 obtain ⟨v', w', hr, h2, h3, h4⟩ := app62 w o.type N v q xs hown k m c news hl hA h1 hm hn hN
 refine ⟨l_step hg (o_val v' (w' := w') ?_ (hk v' w' h2 h3 h4).out)⟩
 unfold execOp
 simp only [ho, resolve, invoke, builtin, Sem.run_bind, Sem.run_pure, Result.andThen_ok, List.map_toArray, List.map_cons, List.map_nil, hs, hx, hr]
end
def OB (N : Nat) (v : Value) (L : List UInt8) (w : World) : Prop := w.ownsRow N 5 1 v L.length (Lib.byteCells L)
theorem OB.mw {N : Nat} {v : Value} {L : List UInt8} {w w' : World} (h : OB N v L w) (m : Mw w w') : OB N v L w' := own_mw5 h m
theorem OB.nil (N : Nat) (w : World) : OB N (.slice none 0 0) [] w := ⟨rfl, .inl ⟨rfl, rfl⟩⟩
theorem u8c {c : Int} (h : 0 ≤ c ∧ c ≤ 255) : (Value.int .u8 c) = .int .u8 ((c.toNat.toUInt8).toNat : Nat) := by
 have e : ((c.toNat.toUInt8).toNat : Int) = c := by
  rw [Nat.toUInt8, UInt8.toNat_ofNat']
  omega
 rw [e]
theorem fold_push : ∀ (L : List UInt8) (acc : ByteArray), List.foldl (fun r (n : Int) => r.push (UInt8.ofNat n.toNat)) acc (L.map (fun b => (b.toNat : Int))) = ⟨(acc.data.toList ++ L).toArray⟩
 | [], acc => by cases acc; simp
 | c :: L, acc => by
  rw [List.map_cons, List.foldl_cons, fold_push L]
  simp [ByteArray.push]
theorem str_own {w : World} {N : Nat} {v : Value} {L : List UInt8} (h : OB N v L w) : (convert 62 9 v).run Tryd.prog w = .ok (.string ⟨L.toArray⟩) w := by
 rcases h.2 with ⟨rfl, h0⟩ | ⟨g, cap, cur, rfl, hbg, hg, hnc, hcm, hcs, htake⟩
 ·have : L = [] := List.length_eq_zero_iff.1 h0
  subst this
  rw [run_convert_bytes_string w 62 9 5 _ _ _ Tryd.underlying62 Tryd.underlying5 Tryd.underlying9]
  rfl
 ·have hA := h.cells (g := g) rfl
  rw [run_convert_bytes_string w 62 9 5 _ _ _ Tryd.underlying62 Tryd.underlying5 Tryd.underlying9, run_bytesToString w _ _ _ (L.map (fun b => (b.toNat : Int)))]
  ·rw [fold_push]; rfl
  ·have := run_loadCells_list (P := Tryd.prog) w ⟨g, 0, none⟩ (Lib.byteCells L) (fun j v hv => hA j v hv)
   simpa [Lib.byteCells, Function.comp_def] using this
section
variable {o : Oper} {n : Nat} {l : List (Nat × Value)} {w : World} {ops : Array Oper} {rest : List Oper} {Q : Exit → Act → World → Prop}
theorem bs62_1 (c0 : Int) (w : World) : (Instr.buildSlice 62 1 #[(0, .int .u8 c0)]).run Tryd.prog w = .ok (.slice (some ⟨w.heap.size, 0, none⟩) 1 1) (w.alloc (.cells #[.int .u8 c0] 5)) := by kernel_rfl
theorem wl_put1 (o2 : Oper) (x0 s : Operand) (d : Nat) (c0 : Int) (N : Nat) (v : Value) (L : List UInt8) (ho : o.op = .buildSlice 62 1 #[(0, x0)]) (hd : o.dst = some d) (h0 : evl n l x0 = .int .u8 c0) (hg : wnt n l ops o = true)
  (ho2 : o2.op = .call { callee := .builtin .append, args := #[s, .tmp d], argTypes := #[62, 62] }) (hd9 : evl n (ext l (some d) (.slice (some ⟨w.heap.size, 0, none⟩) 1 1)) (.tmp d) = .slice (some ⟨w.heap.size, 0, none⟩) 1 1) (hs : evl n (ext l (some d) (.slice (some ⟨w.heap.size, 0, none⟩) 1 1)) s = v) (hg2 : wnt n (ext l (some d) (.slice (some ⟨w.heap.size, 0, none⟩) 1 1)) ops o2 = true)
  (hown : OB N v L w) (r0 : 0 ≤ c0 ∧ c0 ≤ 255) (hn : L.length + 1 ≤ 70000000000000) (hN : N ≤ w.heap.size)
  (hk : ∀ v' w', OB N v' (L ++ [c0.toNat.toUInt8]) w' → (∀ a : World, N = a.heap.size → Mw a w → Mw a w') → (∀ j vs, j < w.heap.size → v.ownBlock ≠ some j → At w j vs → At w' j vs) → WL Tryd.prog ops Q rest n (ext (ext l (some d) (.slice (some ⟨w.heap.size, 0, none⟩) 1 1)) o2.dst v') w') : WL Tryd.prog ops Q (o :: o2 :: rest) n l w := by
 refine ⟨l_step hg (o_val (.slice (some ⟨w.heap.size, 0, none⟩) 1 1) (w' := w.alloc (.cells #[.int .u8 c0] 5)) (by
  have h := bs62_1 c0 w
  simp [execOp, ho, h0, h]) ?_)⟩
 have hal : Mw w (w.alloc (.cells #[.int .u8 c0] 5)) := (Mw.refl _).alloc _ _
 rw [hd]
 refine (wl_app62 s (.tmp d) N v L.length (Lib.byteCells L) w.heap.size 1 1 [.int .u8 c0] ho2 hs hd9 (OB.mw hown hal) rfl (At.new w #[.int .u8 c0] 5) (fun u hu => by simp at hu; rcases hu with rfl <;> rfl) (by decide) hn (Nat.le_trans hN hal.size) hg2 ?_).out
 intro v' w' hO hA hb
 refine hk v' w' ?_ (fun a ha hM => AppW.mw hA (hM.trans hal) (fun j e => by rw [← ha]; exact ((OB.mw hown hal).lt j e).1)) (fun j vs hj hne hq => AppW.at hA (At.mo hq hal) hne)
 unfold OB
 rw [Lib.byteCells_append, List.length_append]
 have e : Lib.byteCells [c0.toNat.toUInt8] = [.int .u8 c0] := by
  simp only [Lib.byteCells, List.map_cons, List.map_nil]
  rw [u8c r0]
 rw [e]
 exact hO
theorem bs62_2 (c0 c1 : Int) (w : World) : (Instr.buildSlice 62 2 #[(0, .int .u8 c0), (1, .int .u8 c1)]).run Tryd.prog w = .ok (.slice (some ⟨w.heap.size, 0, none⟩) 2 2) (w.alloc (.cells #[.int .u8 c0, .int .u8 c1] 5)) := by kernel_rfl
theorem wl_put2 (o2 : Oper) (x0 x1 s : Operand) (d : Nat) (c0 c1 : Int) (N : Nat) (v : Value) (L : List UInt8) (ho : o.op = .buildSlice 62 2 #[(0, x0), (1, x1)]) (hd : o.dst = some d) (h0 : evl n l x0 = .int .u8 c0) (h1 : evl n l x1 = .int .u8 c1) (hg : wnt n l ops o = true)
  (ho2 : o2.op = .call { callee := .builtin .append, args := #[s, .tmp d], argTypes := #[62, 62] }) (hd9 : evl n (ext l (some d) (.slice (some ⟨w.heap.size, 0, none⟩) 2 2)) (.tmp d) = .slice (some ⟨w.heap.size, 0, none⟩) 2 2) (hs : evl n (ext l (some d) (.slice (some ⟨w.heap.size, 0, none⟩) 2 2)) s = v) (hg2 : wnt n (ext l (some d) (.slice (some ⟨w.heap.size, 0, none⟩) 2 2)) ops o2 = true)
  (hown : OB N v L w) (r0 : 0 ≤ c0 ∧ c0 ≤ 255) (r1 : 0 ≤ c1 ∧ c1 ≤ 255) (hn : L.length + 2 ≤ 70000000000000) (hN : N ≤ w.heap.size)
  (hk : ∀ v' w', OB N v' (L ++ [c0.toNat.toUInt8, c1.toNat.toUInt8]) w' → (∀ a : World, N = a.heap.size → Mw a w → Mw a w') → (∀ j vs, j < w.heap.size → v.ownBlock ≠ some j → At w j vs → At w' j vs) → WL Tryd.prog ops Q rest n (ext (ext l (some d) (.slice (some ⟨w.heap.size, 0, none⟩) 2 2)) o2.dst v') w') : WL Tryd.prog ops Q (o :: o2 :: rest) n l w := by
 refine ⟨l_step hg (o_val (.slice (some ⟨w.heap.size, 0, none⟩) 2 2) (w' := w.alloc (.cells #[.int .u8 c0, .int .u8 c1] 5)) (by
  have h := bs62_2 c0 c1 w
  simp [execOp, ho, h0, h1, h]) ?_)⟩
 have hal : Mw w (w.alloc (.cells #[.int .u8 c0, .int .u8 c1] 5)) := (Mw.refl _).alloc _ _
 rw [hd]
 refine (wl_app62 s (.tmp d) N v L.length (Lib.byteCells L) w.heap.size 2 2 [.int .u8 c0, .int .u8 c1] ho2 hs hd9 (OB.mw hown hal) rfl (At.new w #[.int .u8 c0, .int .u8 c1] 5) (fun u hu => by simp at hu; rcases hu with rfl | rfl <;> rfl) (by decide) hn (Nat.le_trans hN hal.size) hg2 ?_).out
 intro v' w' hO hA hb
 refine hk v' w' ?_ (fun a ha hM => AppW.mw hA (hM.trans hal) (fun j e => by rw [← ha]; exact ((OB.mw hown hal).lt j e).1)) (fun j vs hj hne hq => AppW.at hA (At.mo hq hal) hne)
 unfold OB
 rw [Lib.byteCells_append, List.length_append]
 have e : Lib.byteCells [c0.toNat.toUInt8, c1.toNat.toUInt8] = [.int .u8 c0, .int .u8 c1] := by
  simp only [Lib.byteCells, List.map_cons, List.map_nil]
  rw [u8c r0, u8c r1]
 rw [e]
 exact hO
theorem bs62_4 (c0 c1 c2 c3 : Int) (w : World) : (Instr.buildSlice 62 4 #[(0, .int .u8 c0), (1, .int .u8 c1), (2, .int .u8 c2), (3, .int .u8 c3)]).run Tryd.prog w = .ok (.slice (some ⟨w.heap.size, 0, none⟩) 4 4) (w.alloc (.cells #[.int .u8 c0, .int .u8 c1, .int .u8 c2, .int .u8 c3] 5)) := by kernel_rfl
theorem wl_put4 (o2 : Oper) (x0 x1 x2 x3 s : Operand) (d : Nat) (c0 c1 c2 c3 : Int) (N : Nat) (v : Value) (L : List UInt8) (ho : o.op = .buildSlice 62 4 #[(0, x0), (1, x1), (2, x2), (3, x3)]) (hd : o.dst = some d) (h0 : evl n l x0 = .int .u8 c0) (h1 : evl n l x1 = .int .u8 c1) (h2 : evl n l x2 = .int .u8 c2) (h3 : evl n l x3 = .int .u8 c3) (hg : wnt n l ops o = true)
  (ho2 : o2.op = .call { callee := .builtin .append, args := #[s, .tmp d], argTypes := #[62, 62] }) (hd9 : evl n (ext l (some d) (.slice (some ⟨w.heap.size, 0, none⟩) 4 4)) (.tmp d) = .slice (some ⟨w.heap.size, 0, none⟩) 4 4) (hs : evl n (ext l (some d) (.slice (some ⟨w.heap.size, 0, none⟩) 4 4)) s = v) (hg2 : wnt n (ext l (some d) (.slice (some ⟨w.heap.size, 0, none⟩) 4 4)) ops o2 = true)
  (hown : OB N v L w) (r0 : 0 ≤ c0 ∧ c0 ≤ 255) (r1 : 0 ≤ c1 ∧ c1 ≤ 255) (r2 : 0 ≤ c2 ∧ c2 ≤ 255) (r3 : 0 ≤ c3 ∧ c3 ≤ 255) (hn : L.length + 4 ≤ 70000000000000) (hN : N ≤ w.heap.size)
  (hk : ∀ v' w', OB N v' (L ++ [c0.toNat.toUInt8, c1.toNat.toUInt8, c2.toNat.toUInt8, c3.toNat.toUInt8]) w' → (∀ a : World, N = a.heap.size → Mw a w → Mw a w') → (∀ j vs, j < w.heap.size → v.ownBlock ≠ some j → At w j vs → At w' j vs) → WL Tryd.prog ops Q rest n (ext (ext l (some d) (.slice (some ⟨w.heap.size, 0, none⟩) 4 4)) o2.dst v') w') : WL Tryd.prog ops Q (o :: o2 :: rest) n l w := by
 refine ⟨l_step hg (o_val (.slice (some ⟨w.heap.size, 0, none⟩) 4 4) (w' := w.alloc (.cells #[.int .u8 c0, .int .u8 c1, .int .u8 c2, .int .u8 c3] 5)) (by
  have h := bs62_4 c0 c1 c2 c3 w
  simp [execOp, ho, h0, h1, h2, h3, h]) ?_)⟩
 have hal : Mw w (w.alloc (.cells #[.int .u8 c0, .int .u8 c1, .int .u8 c2, .int .u8 c3] 5)) := (Mw.refl _).alloc _ _
 rw [hd]
 refine (wl_app62 s (.tmp d) N v L.length (Lib.byteCells L) w.heap.size 4 4 [.int .u8 c0, .int .u8 c1, .int .u8 c2, .int .u8 c3] ho2 hs hd9 (OB.mw hown hal) rfl (At.new w #[.int .u8 c0, .int .u8 c1, .int .u8 c2, .int .u8 c3] 5) (fun u hu => by simp at hu; rcases hu with rfl | rfl | rfl | rfl <;> rfl) (by decide) hn (Nat.le_trans hN hal.size) hg2 ?_).out
 intro v' w' hO hA hb
 refine hk v' w' ?_ (fun a ha hM => AppW.mw hA (hM.trans hal) (fun j e => by rw [← ha]; exact ((OB.mw hown hal).lt j e).1)) (fun j vs hj hne hq => AppW.at hA (At.mo hq hal) hne)
 unfold OB
 rw [Lib.byteCells_append, List.length_append]
 have e : Lib.byteCells [c0.toNat.toUInt8, c1.toNat.toUInt8, c2.toNat.toUInt8, c3.toNat.toUInt8] = [.int .u8 c0, .int .u8 c1, .int .u8 c2, .int .u8 c3] := by
  simp only [Lib.byteCells, List.map_cons, List.map_nil]
  rw [u8c r0, u8c r1, u8c r2, u8c r3]
 rw [e]
 exact hO
end
end V
end Go.Proofs.YthgknegocfhdbaaDoor
