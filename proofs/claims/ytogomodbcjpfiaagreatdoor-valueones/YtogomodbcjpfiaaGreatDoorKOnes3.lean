/-
  A part of the proof.
-/
import Derived.Test.YtogomodbcjpfiaaGreatDoorKOnes2
import Derived.Test.YtogomodbcjpfiaaGreatDoorKa22
import Derived.Test.YtogomodbcjpfiaaGreatDoorKa21
import Derived.Test.YtogomodbcjpfiaaGreatDoorKOnes1
import Derived.Test.YtogomodbcjpfiaaGreatDoorKa20
import Derived.Test.YtogomodbcjpfiaaGreatDoorKa19
import Derived.Test.YtogomodbcjpfiaaGreatDoorKa17
import Derived.Test.YtogomodbcjpfiaaGreatDoorKb6
import Derived.Test.YtogomodbcjpfiaaGreatDoorKa16
import Derived.Test.YtogomodbcjpfiaaGreatDoorKa15
import Derived.Test.YtogomodbcjpfiaaGreatDoorKa14
import Derived.Test.YtogomodbcjpfiaaGreatDoorKa1
import Derived.Shelf.Strings.Builder1
import Derived.Shelf.Strings.Builder2
import Derived.Shelf.Small.Bits
import Derived.Shelf.Small.Wraps
import Derived.Shelf.Strings.BuilderF
import Derived.Shelf.Strings.BuilderK
import Derived.Shelf.Strings.Prefix
import Derived.Shelf.Bits.Mul64
import Derived.Shelf.Strings.Repeat
import Derived.Test.YtogomodbcjpfiaaGreatDoorProg
import Derived.Shelf.Strconv.Itoa0
import Derived.Test.YtogomodbcjpfiaaGreatDoorKb5
import Derived.Test.YtogomodbcjpfiaaGreatDoorKb4
import Derived.Test.YtogomodbcjpfiaaGreatDoorKb3
import Derived.Test.YtogomodbcjpfiaaGreatDoorKa11
import Derived.Test.YtogomodbcjpfiaaGreatDoorKa9
import Derived.Test.YtogomodbcjpfiaaGreatDoorKa4
import Derived.Test.YtogomodbcjpfiaaGreatDoorKb1
import Derived.Test.YtogomodbcjpfiaaGreatDoorKa3
import Derived.Test.YtogomodbcjpfiaaGreatDoorKa2
import Derived.RegionTactic
import Derived.WalkKit
import Derived.WalkSpells
import Derived.Handy
import Derived.BigQuiet
import Derived.Deep.RegionHeld3
import Derived.Deep.MidRow
import Derived.BigCall
import Derived.Test.YtogomodbcjpfiaaGreatDoorKa8
import Derived.Test.YtogomodbcjpfiaaGreatDoorKb2
import Derived.Test.YtogomodbcjpfiaaGreatDoorKa5
import Derived.Deep.CutBlock
import Derived.Deep.CutRange
import Derived.Test.YtogomodbcjpfiaaGreatDoorKa7
import Derived.Test.YtogomodbcjpfiaaGreatDoorKa6
import Derived.ChangeKeysEq
import Derived.ScopeJumps
import Derived.WalkMore
import Derived.Laws.StructEq
import Derived.Test.YtogomodbcjpfiaaGreatDoorKa10
import Derived.Test.YtogomodbcjpfiaaGreatDoorKa13
import Derived.Test.YtogomodbcjpfiaaGreatDoorKa12
import Derived.Lib.CutLaws
import Derived.Lib.IndexBytes
import Derived.Maps.AppendAt
import Derived.Deep.AppendLies
import Derived.Laws.BytesString
import Derived.Test.YtogomodbcjpfiaaGreatDoorKa18
import Derived.Maps.OwnSet
import Derived.WalkArith
import Derived.StringKeys
import Derived.Test.YtogomodbcjpfiaaGreatDoorKb7
namespace Go.Proofs.YtogomodbcjpfiaaGreatDoor
open Go.RowKit Go.Lib
theorem sub3t_run {a b c : Nat} (h : a = b + c) (hc : a ≤ 9223372036854775807) (x y : Operand) (w : World) : (do eqGuard .sub 3 x y (.int .i64 (a : Int)) (.int .i64 (b : Int)); binOp .sub 3 (.int .i64 (a : Int)) (.int .i64 (b : Int))).run Tryz.prog w = .ok (.int .i64 (c : Int)) w := by
 have e : (do eqGuard .sub 3 x y (.int .i64 (a : Int)) (.int .i64 (b : Int)); binOp .sub 3 (.int .i64 (a : Int)) (.int .i64 (b : Int))).run Tryz.prog w = .ok (.int .i64 (IntKind.i64.wrap ((a : Int) - (b : Int)))) w := by kernel_rfl
 have h2 : IntKind.i64.wrap ((a : Int) - (b : Int)) = (c : Int) := by rw [IntKind.wrap_i64]; omega
 rw [e, h2]
theorem D_pos (n : Int) : 1 ≤ (V.dgs8 n).length := by
 show 1 ≤ (strOf (decF 78 n)).data.toList.length
 rw [strOf_list, List.length_map]
 have := decF_ne (f := 77) n
 cases h : decF 78 n with
 | nil => exact absurd h this
 | cons a r => simp
def LZ (D dl : List UInt8) (k : Nat) : Prop := ∃ j, dl = List.replicate j 48 ++ D ∧ (j = 0 ∨ dl.length ≤ k + 1)
theorem LZ.step {D dl : List UInt8} {k : Nat} (h : LZ D dl k) (hl : dl.length ≤ k) : LZ D (48 :: dl) k := by
 obtain ⟨j, rfl, _⟩ := h
 exact ⟨j + 1, by rw [List.replicate_succ]; rfl, Or.inr (by simp at *; omega)⟩
theorem LZ.done {D dl : List UInt8} {k : Nat} (h : LZ D dl k) (hl : ¬ dl.length ≤ k) : dl = leadz D k := by
 obtain ⟨j, rfl, h2⟩ := h
 unfold leadz
 congr 1
 simp at hl h2
 congr 1
 omega
theorem LZ.bound {D dl : List UInt8} {k : Nat} (h : LZ D dl k) : dl.length ≤ D.length + k + 1 := by
 obtain ⟨j, rfl, h2⟩ := h
 rcases h2 with rfl | h2
 ·simp; omega
 ·simp at *; omega
theorem fin0 {n : Int} {dl : List UInt8} (h : dl = leadz (V.dgs8 n) 0) (b : Bool) : tx (V.txt b n 0) = if b then tx (45 :: dl) else tx dl := by
 have h1 : dl = V.dgs8 n := by
  rw [h]; unfold leadz; have := D_pos n; rw [show 0 + 1 - (V.dgs8 n).length = 0 by omega]; rfl
 rw [h1]; unfold V.txt wpt; cases b <;> rfl
theorem fink {n : Int} {dl : List UInt8} {k c : Nat} (hk : k ≠ 0) (h : dl = leadz (V.dgs8 n) k) (hc : dl.length = k + c) (b : Bool) : tx (V.txt b n k) = if b then tx ([45] ++ (dl.take c ++ [46] ++ dl.drop c)) else tx (dl.take c ++ [46] ++ dl.drop c) := by
 unfold V.txt wpt; rw [if_neg hk, ← h, hc, show k + c - k = c by omega]; cases b <;> simp
theorem rtx_t0 (n : Int) (w : World) (hn0 : 0 ≤ n) (hnM : n < MM) (hck : ck true n ((0 : Nat) : Int) = 0) : Calls Tryz.prog 57 #[dc true n ((0 : Nat) : Int)] w fun e w' => e = .returned (tx (V.txt true n 0)) ∧ Mo w w' := by
 have hc0 : ((0 : Int) == 0) = true := rfl
 have hD : (V.dgs8 n).length ≤ 78 := by have := V.dgs8_len n; have e3 : (V.dgs8 n).length = (strOf (decF 78 n)).size := by8_len _; omega
 have hk0 : decide (((0 : Nat) : Int) > 0) = false := rfl
 refine w_enter 41 Tryz.func57 Tryz.ntmps57 rfl rfl ?_
 have M : Mo w w := Mo.refl _
 refine w_seq (w_reg ?_)
 refine wl_box 26 (.tmp 0) _ (#[.bool true, .int .u64 (l0 (n)), .int .u64 (l1 (n)), .int .u64 (l2 (n)), .int .u64 (l3 (n)), .int .i64 ((0 : Nat) : Int)]) rfl rfl (fun _ => by kernel_rfl) rfl ?_
 intro k1 w1 hk hz hq Q1
 have N_k1 : w.heap.size ≤ k1 := by have := M.size; omega
 replace M := M.trans hq
 clear hk hz hq
 refine wl_m (.const (.string ⟨#[]⟩)) (.string ⟨#[]⟩) ?_
 refine w_nil (xn_then (w_seq (w_seq (w_reg ?_))))
 refine wl_l 26 (.tmp 1) (pt k1 0) (.agg #[.bool true, .int .u64 (l0 (n)), .int .u64 (l1 (n)), .int .u64 (l2 (n)), .int .u64 (l3 (n)), .int .i64 ((0 : Nat) : Int)]) (run_row Q1 26 0 6 _ rfl Tryz.underlying26 rfl sz26) ?_
 refine wl_call 42 [(.tmp 4)] _ [.agg #[.bool true, .int .u64 (l0 (n)), .int .u64 (l1 (n)), .int .u64 (l2 (n)), .int .u64 (l3 (n)), .int .i64 ((0 : Nat) : Int)]] (.int .i64 (0)) rfl rfl (fun _ _ => by kernel_rfl) (rcheck_ok true n ((0 : Nat) : Int) _ hn0 hnM hck) rfl ?_
 intro w2 hq
 replace Q1 := Q1.mo hq
 replace M := M.trans hq
 clear hq
 refine wl_b .neq 32 (.tmp 5) (.const (.int .i64 (0))) (.int .i64 (0)) (.int .i64 (0)) (.bool false) (V.neE (r := true) hc0 _ _ _) ?_
 refine w_nil (xn_then (w_condF rfl (w_skip (xn_then (w_seq (w_reg ?_))))))
 refine wl_f 26 1 (.tmp 1) (pt k1 0) (pt k1 1) ?_
 refine wl_l 24 (.tmp 7) (pt k1 1) (.agg #[.int .u64 (l0 (n)), .int .u64 (l1 (n)), .int .u64 (l2 (n)), .int .u64 (l3 (n))]) (run_row Q1 24 1 4 _ rfl Tryz.underlying24 rfl sz24) ?_
 refine wl_call 83 [(.tmp 8)] _ [.agg #[.int .u64 (l0 (n)), .int .u64 (l1 (n)), .int .u64 (l2 (n)), .int .u64 (l3 (n))]] (tx (V.dgs8 n)) rfl rfl (fun _ _ => by kernel_rfl) (rtext_n n _ hn0 hnM) rfl ?_
 intro w3 hq
 replace Q1 := Q1.mo hq
 replace M := M.trans hq
 clear hq
 refine wl_m (.tmp 9) (tx (V.dgs8 n)) ?_
 refine w_nil (xn_then (w_seq (w_block ?_)))
 refine w_loop (fun m l w1 => ∃ dl : List UInt8, m = 0 + 1 - dl.length ∧ look l 1 = pt k1 0 ∧ look l 3 = tx dl ∧ LZ (V.dgs8 n) dl 0 ∧ At w1 k1 [.bool true, .int .u64 (l0 (n)), .int .u64 (l1 (n)), .int .u64 (l2 (n)), .int .u64 (l3 (n)), .int .i64 ((0 : Nat) : Int)] ∧ Mo w w1) _ ⟨V.dgs8 n, rfl, rfl, rfl, ⟨0, rfl, Or.inl rfl⟩, Q1, M⟩ ?_
 clear M Q1
 rintro m l wl ⟨dl, rfl, e1, e3, hz, Q1, M⟩
 have hb := hz.bound
 by_cases hlt : dl.length ≤ 0
 ·have hle : decide ((dl.length : Int) ≤ ((0 : Nat) : Int)) = true := decide_eq_true (by omega)
  refine w_seq (w_seq (w_reg ?_))
  refine wl_mv (.tmp 3) (tx dl) (fun _ => rfl) e3 rfl ?_
  refine wl_val (.int .i64 ((dl.length : Int))) (len_tx _ _ dl (by exact rfl) _ _ _ _ _ _) rfl ?_
  refine wl_un (fun v => Instr.fieldAt 26 v 2) (.tmp 1) (pt k1 0) (pt k1 5) (fun _ => rfl) e1 (by kernel_rfl) rfl ?_
  refine wl_l 3 (.tmp 12) (pt k1 5) (.int .i64 ((0 : Nat) : Int)) (run_one Q1 3 5 rfl Tryz.underlying3 rfl) ?_
  refine wl_b .leq 3 (.tmp 11) (.tmp 13) (.int .i64 ((dl.length : Int))) (.int .i64 ((0 : Nat) : Int)) (.bool true) (leq3_run hle _ _ _) ?_
  refine w_nil (xn_then (w_condT rfl (w_skip (xn_then (w_block (w_reg ?_))))))
  refine wl_mv (.tmp 3) (tx dl) (fun _ => rfl) e3 rfl ?_
  refine wl_b .add 9 (.const (.string ⟨#[48]⟩)) (.tmp 15) (.string ⟨#[48]⟩) (tx dl) (tx (48 :: dl)) (catl_run [48] dl (by simp; omega) _ _ _) ?_
  refine wl_m (.tmp 16) (tx (48 :: dl)) ?_
  refine w_nil (xn_blk ?_)
  exact xn_loop (0 + 1 - (48 :: dl).length) (by simp; omega) ⟨48 :: dl, rfl, e1, rfl, hz.step hlt, Q1, M⟩
 ·have hle : decide ((dl.length : Int) ≤ ((0 : Nat) : Int)) = false := decide_eq_false (by omega)
  obtain ⟨c, hc⟩ : ∃ c, dl.length = 0 + c := ⟨dl.length - 0, by omega⟩
  have hfin := fin0 (hz.done hlt) true
  refine w_seq (w_seq (w_reg ?_))
  refine wl_mv (.tmp 3) (tx dl) (fun _ => rfl) e3 rfl ?_
  refine wl_val (.int .i64 ((dl.length : Int))) (len_tx _ _ dl (by exact rfl) _ _ _ _ _ _) rfl ?_
  refine wl_un (fun v => Instr.fieldAt 26 v 2) (.tmp 1) (pt k1 0) (pt k1 5) (fun _ => rfl) e1 (by kernel_rfl) rfl ?_
  refine wl_l 3 (.tmp 12) (pt k1 5) (.int .i64 ((0 : Nat) : Int)) (run_one Q1 3 5 rfl Tryz.underlying3 rfl) ?_
  refine wl_b .leq 3 (.tmp 11) (.tmp 13) (.int .i64 ((dl.length : Int))) (.int .i64 ((0 : Nat) : Int)) (.bool false) (leq3_run hle _ _ _) ?_
  refine w_nil (xn_then (w_condF rfl (w_exit (xx_then (xx_then (xx_blk (xn_then (w_seq (w_seq (w_reg ?_))))))))))
  refine wl_un (fun v => Instr.fieldAt 26 v 2) (.tmp 1) (pt k1 0) (pt k1 5) (fun _ => rfl) e1 (by kernel_rfl) rfl ?_
  refine wl_l 3 (.tmp 17) (pt k1 5) (.int .i64 ((0 : Nat) : Int)) (run_one Q1 3 5 rfl Tryz.underlying3 rfl) ?_
  refine wl_b .gtr 3 (.tmp 18) (.const (.int .i64 (0))) (.int .i64 ((0 : Nat) : Int)) (.int .i64 (0)) (.bool false) (gt3_run hk0 _ _ _) ?_
  refine w_nil (xn_then (w_condF rfl (w_skip (xn_then (w_seq (w_seq (w_reg ?_)))))))
  refine wl_un (fun v => Instr.fieldAt 26 v 0) (.tmp 1) (pt k1 0) (pt k1 0) (fun _ => rfl) e1 (by kernel_rfl) rfl ?_
  refine wl_l 4 (.tmp 36) (pt k1 0) (.bool true) (run_one Q1 4 0 rfl Tryz.underlying4 rfl) ?_
  refine w_nil (xn_then (w_condT rfl (w_reg ?_)))
  refine wl_mv (.tmp 3) (tx dl) (fun _ => rfl) e3 rfl ?_
  refine wl_b .add 9 (.const (.string ⟨#[45]⟩)) (.tmp 38) (.string ⟨#[45]⟩) (tx dl) (tx (45 :: dl)) (catl_run [45] dl (by simp; omega) _ _ _) ?_
  refine wl_m (.tmp 39) (tx (45 :: dl)) ?_
  refine w_nil (xn_then (w_seq (w_reg ?_)))
  refine wl_m (.tmp 3) (tx (45 :: dl)) ?_
  refine wl_m (.tmp 40) (tx (45 :: dl)) ?_
  refine w_nil (xn_then (w_ret ?_))
  exact w_ret1 _ (tx (45 :: dl)) rfl rfl ⟨by rw [hfin]; rfl, M⟩
theorem rtx_t1 (n : Int) (k : Nat) (w : World) (hn0 : 0 ≤ n) (hnM : n < MM) (hk18 : k ≤ 18) (hkn : k ≠ 0) (hck : ck true n (k : Int) = 0) : Calls Tryz.prog 57 #[dc true n (k : Int)] w fun e w' => e = .returned (tx (V.txt true n k)) ∧ Mo w w' := by
 have hc0 : ((0 : Int) == 0) = true := rfl
 have hD : (V.dgs8 n).length ≤ 78 := by have := V.dgs8_len n; have e3 : (V.dgs8 n).length = (strOf (decF 78 n)).size := by8_len _; omega
 have hk0 : decide ((k : Int) > 0) = true := decide_eq_true (by omega)
 refine w_enter 41 Tryz.func57 Tryz.ntmps57 rfl rfl ?_
 have M : Mo w w := Mo.refl _
 refine w_seq (w_reg ?_)
 refine wl_box 26 (.tmp 0) _ (#[.bool true, .int .u64 (l0 (n)), .int .u64 (l1 (n)), .int .u64 (l2 (n)), .int .u64 (l3 (n)), .int .i64 (k : Int)]) rfl rfl (fun _ => by kernel_rfl) rfl ?_
 intro k1 w1 hk hz hq Q1
 have N_k1 : w.heap.size ≤ k1 := by have := M.size; omega
 replace M := M.trans hq
 clear hk hz hq
 refine wl_m (.const (.string ⟨#[]⟩)) (.string ⟨#[]⟩) ?_
 refine w_nil (xn_then (w_seq (w_seq (w_reg ?_))))
 refine wl_l 26 (.tmp 1) (pt k1 0) (.agg #[.bool true, .int .u64 (l0 (n)), .int .u64 (l1 (n)), .int .u64 (l2 (n)), .int .u64 (l3 (n)), .int .i64 (k : Int)]) (run_row Q1 26 0 6 _ rfl Tryz.underlying26 rfl sz26) ?_
 refine wl_call 42 [(.tmp 4)] _ [.agg #[.bool true, .int .u64 (l0 (n)), .int .u64 (l1 (n)), .int .u64 (l2 (n)), .int .u64 (l3 (n)), .int .i64 (k : Int)]] (.int .i64 (0)) rfl rfl (fun _ _ => by kernel_rfl) (rcheck_ok true n (k : Int) _ hn0 hnM hck) rfl ?_
 intro w2 hq
 replace Q1 := Q1.mo hq
 replace M := M.trans hq
 clear hq
 refine wl_b .neq 32 (.tmp 5) (.const (.int .i64 (0))) (.int .i64 (0)) (.int .i64 (0)) (.bool false) (V.neE (r := true) hc0 _ _ _) ?_
 refine w_nil (xn_then (w_condF rfl (w_skip (xn_then (w_seq (w_reg ?_))))))
 refine wl_f 26 1 (.tmp 1) (pt k1 0) (pt k1 1) ?_
 refine wl_l 24 (.tmp 7) (pt k1 1) (.agg #[.int .u64 (l0 (n)), .int .u64 (l1 (n)), .int .u64 (l2 (n)), .int .u64 (l3 (n))]) (run_row Q1 24 1 4 _ rfl Tryz.underlying24 rfl sz24) ?_
 refine wl_call 83 [(.tmp 8)] _ [.agg #[.int .u64 (l0 (n)), .int .u64 (l1 (n)), .int .u64 (l2 (n)), .int .u64 (l3 (n))]] (tx (V.dgs8 n)) rfl rfl (fun _ _ => by kernel_rfl) (rtext_n n _ hn0 hnM) rfl ?_
 intro w3 hq
 replace Q1 := Q1.mo hq
 replace M := M.trans hq
 clear hq
 refine wl_m (.tmp 9) (tx (V.dgs8 n)) ?_
 refine w_nil (xn_then (w_seq (w_block ?_)))
 refine w_loop (fun m l w1 => ∃ dl : List UInt8, m = k + 1 - dl.length ∧ look l 1 = pt k1 0 ∧ look l 3 = tx dl ∧ LZ (V.dgs8 n) dl k ∧ At w1 k1 [.bool true, .int .u64 (l0 (n)), .int .u64 (l1 (n)), .int .u64 (l2 (n)), .int .u64 (l3 (n)), .int .i64 (k : Int)] ∧ Mo w w1) _ ⟨V.dgs8 n, rfl, rfl, rfl, ⟨0, rfl, Or.inl rfl⟩, Q1, M⟩ ?_
 clear M Q1
 rintro m l wl ⟨dl, rfl, e1, e3, hz, Q1, M⟩
 have hb := hz.bound
 by_cases hlt : dl.length ≤ k
 ·have hle : decide ((dl.length : Int) ≤ (k : Int)) = true := decide_eq_true (by omega)
  refine w_seq (w_seq (w_reg ?_))
  refine wl_mv (.tmp 3) (tx dl) (fun _ => rfl) e3 rfl ?_
  refine wl_val (.int .i64 ((dl.length : Int))) (len_tx _ _ dl (by exact rfl) _ _ _ _ _ _) rfl ?_
  refine wl_un (fun v => Instr.fieldAt 26 v 2) (.tmp 1) (pt k1 0) (pt k1 5) (fun _ => rfl) e1 (by kernel_rfl) rfl ?_
  refine wl_l 3 (.tmp 12) (pt k1 5) (.int .i64 (k : Int)) (run_one Q1 3 5 rfl Tryz.underlying3 rfl) ?_
  refine wl_b .leq 3 (.tmp 11) (.tmp 13) (.int .i64 ((dl.length : Int))) (.int .i64 (k : Int)) (.bool true) (leq3_run hle _ _ _) ?_
  refine w_nil (xn_then (w_condT rfl (w_skip (xn_then (w_block (w_reg ?_))))))
  refine wl_mv (.tmp 3) (tx dl) (fun _ => rfl) e3 rfl ?_
  refine wl_b .add 9 (.const (.string ⟨#[48]⟩)) (.tmp 15) (.string ⟨#[48]⟩) (tx dl) (tx (48 :: dl)) (catl_run [48] dl (by simp; omega) _ _ _) ?_
  refine wl_m (.tmp 16) (tx (48 :: dl)) ?_
  refine w_nil (xn_blk ?_)
  exact xn_loop (k + 1 - (48 :: dl).length) (by simp; omega) ⟨48 :: dl, rfl, e1, rfl, hz.step hlt, Q1, M⟩
 ·have hle : decide ((dl.length : Int) ≤ (k : Int)) = false := decide_eq_false (by omega)
  obtain ⟨c, hc⟩ : ∃ c, dl.length = k + c := ⟨dl.length - k, by omega⟩
  have hfin := fink hkn (hz.done hlt) hc true
  refine w_seq (w_seq (w_reg ?_))
  refine wl_mv (.tmp 3) (tx dl) (fun _ => rfl) e3 rfl ?_
  refine wl_val (.int .i64 ((dl.length : Int))) (len_tx _ _ dl (by exact rfl) _ _ _ _ _ _) rfl ?_
  refine wl_un (fun v => Instr.fieldAt 26 v 2) (.tmp 1) (pt k1 0) (pt k1 5) (fun _ => rfl) e1 (by kernel_rfl) rfl ?_
  refine wl_l 3 (.tmp 12) (pt k1 5) (.int .i64 (k : Int)) (run_one Q1 3 5 rfl Tryz.underlying3 rfl) ?_
  refine wl_b .leq 3 (.tmp 11) (.tmp 13) (.int .i64 ((dl.length : Int))) (.int .i64 (k : Int)) (.bool false) (leq3_run hle _ _ _) ?_
  refine w_nil (xn_then (w_condF rfl (w_exit (xx_then (xx_then (xx_blk (xn_then (w_seq (w_seq (w_reg ?_))))))))))
  refine wl_un (fun v => Instr.fieldAt 26 v 2) (.tmp 1) (pt k1 0) (pt k1 5) (fun _ => rfl) e1 (by kernel_rfl) rfl ?_
  refine wl_l 3 (.tmp 17) (pt k1 5) (.int .i64 (k : Int)) (run_one Q1 3 5 rfl Tryz.underlying3 rfl) ?_
  refine wl_b .gtr 3 (.tmp 18) (.const (.int .i64 (0))) (.int .i64 (k : Int)) (.int .i64 (0)) (.bool true) (gt3_run hk0 _ _ _) ?_
  refine w_nil (xn_then (w_condT rfl ?_))
  refine w_any 15 [.inl (tx dl), .inl (tx dl), .inl (.int .i64 ((dl.length : Int))), .inl (pt k1 5), .inl (.int .i64 (k : Int)), .inl (.int .i64 ((c : Int))), .inl (tx (dl.take c)), .inl (tx (dl.take c ++ [46])), .inl (tx dl), .inl (tx dl), .inl (.int .i64 ((dl.length : Int))), .inl (pt k1 5), .inl (.int .i64 (k : Int)), .inl (.int .i64 ((c : Int))), .inl (tx (dl.drop c))] [] (by kernel_rfl) (by kernel_rfl) (by kernel_rfl) (by kernel_rfl) rfl (by kernel_rfl) (by kernel_rfl) late_nil ?_ ?_ ?_
  ·exact Ds.none rfl
  ·refine ea_cons ?_ (ea_cons ?_ (ea_cons ?_ (ea_cons ?_ (ea_cons ?_ (ea_cons ?_ (ea_cons ?_ (ea_cons ?_ (ea_cons ?_ (ea_cons ?_ (ea_cons ?_ (ea_cons ?_ (ea_cons ?_ (ea_cons ?_ (ea_cons ?_ (ea_nil)))))))))))))))
   ·exact og_eq _ rfl (fun f wf hq hd K hK => go_run rfl (wo_mv (.tmp 3) (tx dl) (fun _ => rfl) e3 (hK _ (Mo.refl _))))
   ·exact og_eq _ rfl (fun f wf hq hd K hK => go_run rfl (wo_mv (.tmp 3) (tx dl) (fun _ => rfl) e3 (hK _ (Mo.refl _))))
   ·exact og_eq _ rfl (fun f wf hq hd K hK => go_run rfl (wo_val (.int .i64 ((dl.length : Int))) (len_tx _ _ dl (by exact (hd 1 rfl)) _ _ _ _ _ _) (hK _ (Mo.refl _))))
   ·exact og_eq _ rfl (fun f wf hq hd K hK => go_run rfl (wo_un (fun v => Instr.fieldAt 26 v 2) (.tmp 1) (pt k1 0) (pt k1 5) (fun _ => rfl) e1 (by kernel_rfl) (hK _ (Mo.refl _))))
   ·exact og_eq _ rfl (fun f wf hq hd K hK => have Q1 := Q1.mo hq; go_run rfl (wo_load 3 (.tmp 23) (pt k1 5) (.int .i64 (k : Int)) rfl (hd 3 rfl) (run_one Q1 3 5 rfl Tryz.underlying3 rfl) (hK _ (Mo.refl _))))
   ·exact og_eq _ rfl (fun f wf hq hd K hK => go_run rfl (wo_bin (fun x y => do eqGuard .sub 3 (.tmp 22) (.tmp 24) x y; binOp .sub 3 x y) (.tmp 22) (.tmp 24) (.int .i64 ((dl.length : Int))) (.int .i64 (k : Int)) (.int .i64 ((c : Int))) (fun _ => rfl) (hd 2 rfl) (hd 4 rfl) (sub3t_run hc (by omega) _ _ _) (hK _ (Mo.refl _))))
   ·exact og_eq _ rfl (fun f wf hq hd K hK => go_run rfl (wo_val (tx (dl.take c)) (hi_run _ _ _ dl c (by exact (hd 0 rfl)) (by exact (hd 5 rfl)) (by omega) _ _ _ _ _ _) (hK _ (Mo.refl _))))
   ·exact og_eq _ rfl (fun f wf hq hd K hK => go_run rfl (wo_bin (fun x y => do eqGuard .add 9 (.tmp 26) (.const (.string ⟨#[46]⟩)) x y; binOp .add 9 x y) (.tmp 26) (.const (.string ⟨#[46]⟩)) (tx (dl.take c)) (.string ⟨#[46]⟩) (tx (dl.take c ++ [46])) (fun _ => rfl) (hd 6 rfl) rfl (catl_run (dl.take c) [46] (by simp; omega) _ _ _) (hK _ (Mo.refl _))))
   ·exact og_eq _ rfl (fun f wf hq hd K hK => go_run rfl (wo_mv (.tmp 3) (tx dl) (fun _ => rfl) e3 (hK _ (Mo.refl _))))
   ·exact og_eq _ rfl (fun f wf hq hd K hK => go_run rfl (wo_mv (.tmp 3) (tx dl) (fun _ => rfl) e3 (hK _ (Mo.refl _))))
   ·exact og_eq _ rfl (fun f wf hq hd K hK => go_run rfl (wo_val (.int .i64 ((dl.length : Int))) (len_tx _ _ dl (by exact (hd 9 rfl)) _ _ _ _ _ _) (hK _ (Mo.refl _))))
   ·exact og_eq _ rfl (fun f wf hq hd K hK => go_run rfl (wo_un (fun v => Instr.fieldAt 26 v 2) (.tmp 1) (pt k1 0) (pt k1 5) (fun _ => rfl) e1 (by kernel_rfl) (hK _ (Mo.refl _))))
   ·exact og_eq _ rfl (fun f wf hq hd K hK => have Q1 := Q1.mo hq; go_run rfl (wo_load 3 (.tmp 31) (pt k1 5) (.int .i64 (k : Int)) rfl (hd 11 rfl) (run_one Q1 3 5 rfl Tryz.underlying3 rfl) (hK _ (Mo.refl _))))
   ·exact og_eq _ rfl (fun f wf hq hd K hK => go_run rfl (wo_bin (fun x y => do eqGuard .sub 3 (.tmp 30) (.tmp 32) x y; binOp .sub 3 x y) (.tmp 30) (.tmp 32) (.int .i64 ((dl.length : Int))) (.int .i64 (k : Int)) (.int .i64 ((c : Int))) (fun _ => rfl) (hd 10 rfl) (hd 12 rfl) (sub3t_run hc (by omega) _ _ _) (hK _ (Mo.refl _))))
   ·exact og_eq _ rfl (fun f wf hq hd K hK => go_run rfl (wo_val (tx (dl.drop c)) (lo_run _ _ _ dl c (by exact (hd 8 rfl)) (by exact (hd 13 rfl)) (by omega) _ _ _ _ _ _) (hK _ (Mo.refl _))))
  intro kf21 w21 hq hR hne
  replace Q1 := Q1.mo hq
  replace M := M.trans hq
  clear hq hR hne
  refine wl_b .add 9 (.tmp 27) (.tmp 34) (tx (dl.take c ++ [46])) (tx (dl.drop c)) (tx (dl.take c ++ [46] ++ dl.drop c)) (catl_run (dl.take c ++ [46]) (dl.drop c) (by simp; omega) _ _ _) ?_
  refine wl_m (.tmp 35) (tx (dl.take c ++ [46] ++ dl.drop c)) ?_
  refine w_nil (xn_then (w_seq (w_seq (w_reg ?_))))
  refine wl_un (fun v => Instr.fieldAt 26 v 0) (.tmp 1) (pt k1 0) (pt k1 0) (fun _ => rfl) e1 (by kernel_rfl) rfl ?_
  refine wl_l 4 (.tmp 36) (pt k1 0) (.bool true) (run_one Q1 4 0 rfl Tryz.underlying4 rfl) ?_
  refine w_nil (xn_then (w_condT rfl (w_reg ?_)))
  refine wl_m (.tmp 3) (tx (dl.take c ++ [46] ++ dl.drop c)) ?_
  refine wl_b .add 9 (.const (.string ⟨#[45]⟩)) (.tmp 38) (.string ⟨#[45]⟩) (tx (dl.take c ++ [46] ++ dl.drop c)) (tx ([45] ++ (dl.take c ++ [46] ++ dl.drop c))) (catl_run [45] (dl.take c ++ [46] ++ dl.drop c) (by simp; omega) _ _ _) ?_
  refine wl_m (.tmp 39) (tx ([45] ++ (dl.take c ++ [46] ++ dl.drop c))) ?_
  refine w_nil (xn_then (w_seq (w_reg ?_)))
  refine wl_m (.tmp 3) (tx ([45] ++ (dl.take c ++ [46] ++ dl.drop c))) ?_
  refine wl_m (.tmp 40) (tx ([45] ++ (dl.take c ++ [46] ++ dl.drop c))) ?_
  refine w_nil (xn_then (w_ret ?_))
  exact w_ret1 _ (tx ([45] ++ (dl.take c ++ [46] ++ dl.drop c))) rfl rfl ⟨by rw [hfin]; rfl, M⟩
theorem rtx_f0 (n : Int) (w : World) (hn0 : 0 ≤ n) (hnM : n < MM) (hck : ck false n ((0 : Nat) : Int) = 0) : Calls Tryz.prog 57 #[dc false n ((0 : Nat) : Int)] w fun e w' => e = .returned (tx (V.txt false n 0)) ∧ Mo w w' := by
 have hc0 : ((0 : Int) == 0) = true := rfl
 have hD : (V.dgs8 n).length ≤ 78 := by have := V.dgs8_len n; have e3 : (V.dgs8 n).length = (strOf (decF 78 n)).size := by8_len _; omega
 have hk0 : decide (((0 : Nat) : Int) > 0) = false := rfl
 refine w_enter 41 Tryz.func57 Tryz.ntmps57 rfl rfl ?_
 have M : Mo w w := Mo.refl _
 refine w_seq (w_reg ?_)
 refine wl_box 26 (.tmp 0) _ (#[.bool false, .int .u64 (l0 (n)), .int .u64 (l1 (n)), .int .u64 (l2 (n)), .int .u64 (l3 (n)), .int .i64 ((0 : Nat) : Int)]) rfl rfl (fun _ => by kernel_rfl) rfl ?_
 intro k1 w1 hk hz hq Q1
 have N_k1 : w.heap.size ≤ k1 := by have := M.size; omega
 replace M := M.trans hq
 clear hk hz hq
 refine wl_m (.const (.string ⟨#[]⟩)) (.string ⟨#[]⟩) ?_
 refine w_nil (xn_then (w_seq (w_seq (w_reg ?_))))
 refine wl_l 26 (.tmp 1) (pt k1 0) (.agg #[.bool false, .int .u64 (l0 (n)), .int .u64 (l1 (n)), .int .u64 (l2 (n)), .int .u64 (l3 (n)), .int .i64 ((0 : Nat) : Int)]) (run_row Q1 26 0 6 _ rfl Tryz.underlying26 rfl sz26) ?_
 refine wl_call 42 [(.tmp 4)] _ [.agg #[.bool false, .int .u64 (l0 (n)), .int .u64 (l1 (n)), .int .u64 (l2 (n)), .int .u64 (l3 (n)), .int .i64 ((0 : Nat) : Int)]] (.int .i64 (0)) rfl rfl (fun _ _ => by kernel_rfl) (rcheck_ok false n ((0 : Nat) : Int) _ hn0 hnM hck) rfl ?_
 intro w2 hq
 replace Q1 := Q1.mo hq
 replace M := M.trans hq
 clear hq
 refine wl_b .neq 32 (.tmp 5) (.const (.int .i64 (0))) (.int .i64 (0)) (.int .i64 (0)) (.bool false) (V.neE (r := true) hc0 _ _ _) ?_
 refine w_nil (xn_then (w_condF rfl (w_skip (xn_then (w_seq (w_reg ?_))))))
 refine wl_f 26 1 (.tmp 1) (pt k1 0) (pt k1 1) ?_
 refine wl_l 24 (.tmp 7) (pt k1 1) (.agg #[.int .u64 (l0 (n)), .int .u64 (l1 (n)), .int .u64 (l2 (n)), .int .u64 (l3 (n))]) (run_row Q1 24 1 4 _ rfl Tryz.underlying24 rfl sz24) ?_
 refine wl_call 83 [(.tmp 8)] _ [.agg #[.int .u64 (l0 (n)), .int .u64 (l1 (n)), .int .u64 (l2 (n)), .int .u64 (l3 (n))]] (tx (V.dgs8 n)) rfl rfl (fun _ _ => by kernel_rfl) (rtext_n n _ hn0 hnM) rfl ?_
 intro w3 hq
 replace Q1 := Q1.mo hq
 replace M := M.trans hq
 clear hq
 refine wl_m (.tmp 9) (tx (V.dgs8 n)) ?_
 refine w_nil (xn_then (w_seq (w_block ?_)))
 refine w_loop (fun m l w1 => ∃ dl : List UInt8, m = 0 + 1 - dl.length ∧ look l 1 = pt k1 0 ∧ look l 3 = tx dl ∧ LZ (V.dgs8 n) dl 0 ∧ At w1 k1 [.bool false, .int .u64 (l0 (n)), .int .u64 (l1 (n)), .int .u64 (l2 (n)), .int .u64 (l3 (n)), .int .i64 ((0 : Nat) : Int)] ∧ Mo w w1) _ ⟨V.dgs8 n, rfl, rfl, rfl, ⟨0, rfl, Or.inl rfl⟩, Q1, M⟩ ?_
 clear M Q1
 rintro m l wl ⟨dl, rfl, e1, e3, hz, Q1, M⟩
 have hb := hz.bound
 by_cases hlt : dl.length ≤ 0
 ·have hle : decide ((dl.length : Int) ≤ ((0 : Nat) : Int)) = true := decide_eq_true (by omega)
  refine w_seq (w_seq (w_reg ?_))
  refine wl_mv (.tmp 3) (tx dl) (fun _ => rfl) e3 rfl ?_
  refine wl_val (.int .i64 ((dl.length : Int))) (len_tx _ _ dl (by exact rfl) _ _ _ _ _ _) rfl ?_
  refine wl_un (fun v => Instr.fieldAt 26 v 2) (.tmp 1) (pt k1 0) (pt k1 5) (fun _ => rfl) e1 (by kernel_rfl) rfl ?_
  refine wl_l 3 (.tmp 12) (pt k1 5) (.int .i64 ((0 : Nat) : Int)) (run_one Q1 3 5 rfl Tryz.underlying3 rfl) ?_
  refine wl_b .leq 3 (.tmp 11) (.tmp 13) (.int .i64 ((dl.length : Int))) (.int .i64 ((0 : Nat) : Int)) (.bool true) (leq3_run hle _ _ _) ?_
  refine w_nil (xn_then (w_condT rfl (w_skip (xn_then (w_block (w_reg ?_))))))
  refine wl_mv (.tmp 3) (tx dl) (fun _ => rfl) e3 rfl ?_
  refine wl_b .add 9 (.const (.string ⟨#[48]⟩)) (.tmp 15) (.string ⟨#[48]⟩) (tx dl) (tx (48 :: dl)) (catl_run [48] dl (by simp; omega) _ _ _) ?_
  refine wl_m (.tmp 16) (tx (48 :: dl)) ?_
  refine w_nil (xn_blk ?_)
  exact xn_loop (0 + 1 - (48 :: dl).length) (by simp; omega) ⟨48 :: dl, rfl, e1, rfl, hz.step hlt, Q1, M⟩
 ·have hle : decide ((dl.length : Int) ≤ ((0 : Nat) : Int)) = false := decide_eq_false (by omega)
  obtain ⟨c, hc⟩ : ∃ c, dl.length = 0 + c := ⟨dl.length - 0, by omega⟩
  have hfin := fin0 (hz.done hlt) false
  refine w_seq (w_seq (w_reg ?_))
  refine wl_mv (.tmp 3) (tx dl) (fun _ => rfl) e3 rfl ?_
  refine wl_val (.int .i64 ((dl.length : Int))) (len_tx _ _ dl (by exact rfl) _ _ _ _ _ _) rfl ?_
  refine wl_un (fun v => Instr.fieldAt 26 v 2) (.tmp 1) (pt k1 0) (pt k1 5) (fun _ => rfl) e1 (by kernel_rfl) rfl ?_
  refine wl_l 3 (.tmp 12) (pt k1 5) (.int .i64 ((0 : Nat) : Int)) (run_one Q1 3 5 rfl Tryz.underlying3 rfl) ?_
  refine wl_b .leq 3 (.tmp 11) (.tmp 13) (.int .i64 ((dl.length : Int))) (.int .i64 ((0 : Nat) : Int)) (.bool false) (leq3_run hle _ _ _) ?_
  refine w_nil (xn_then (w_condF rfl (w_exit (xx_then (xx_then (xx_blk (xn_then (w_seq (w_seq (w_reg ?_))))))))))
  refine wl_un (fun v => Instr.fieldAt 26 v 2) (.tmp 1) (pt k1 0) (pt k1 5) (fun _ => rfl) e1 (by kernel_rfl) rfl ?_
  refine wl_l 3 (.tmp 17) (pt k1 5) (.int .i64 ((0 : Nat) : Int)) (run_one Q1 3 5 rfl Tryz.underlying3 rfl) ?_
  refine wl_b .gtr 3 (.tmp 18) (.const (.int .i64 (0))) (.int .i64 ((0 : Nat) : Int)) (.int .i64 (0)) (.bool false) (gt3_run hk0 _ _ _) ?_
  refine w_nil (xn_then (w_condF rfl (w_skip (xn_then (w_seq (w_seq (w_reg ?_)))))))
  refine wl_un (fun v => Instr.fieldAt 26 v 0) (.tmp 1) (pt k1 0) (pt k1 0) (fun _ => rfl) e1 (by kernel_rfl) rfl ?_
  refine wl_l 4 (.tmp 36) (pt k1 0) (.bool false) (run_one Q1 4 0 rfl Tryz.underlying4 rfl) ?_
  refine w_nil (xn_then (w_condF rfl (w_skip (xn_then (w_seq (w_reg ?_))))))
  refine wl_mv (.tmp 3) (tx dl) (fun _ => rfl) e3 rfl ?_
  refine wl_m (.tmp 40) (tx dl) ?_
  refine w_nil (xn_then (w_ret ?_))
  exact w_ret1 _ (tx dl) rfl rfl ⟨by rw [hfin]; rfl, M⟩
theorem rtx_f1 (n : Int) (k : Nat) (w : World) (hn0 : 0 ≤ n) (hnM : n < MM) (hk18 : k ≤ 18) (hkn : k ≠ 0) (hck : ck false n (k : Int) = 0) : Calls Tryz.prog 57 #[dc false n (k : Int)] w fun e w' => e = .returned (tx (V.txt false n k)) ∧ Mo w w' := by
 have hc0 : ((0 : Int) == 0) = true := rfl
 have hD : (V.dgs8 n).length ≤ 78 := by have := V.dgs8_len n; have e3 : (V.dgs8 n).length = (strOf (decF 78 n)).size := by8_len _; omega
 have hk0 : decide ((k : Int) > 0) = true := decide_eq_true (by omega)
 refine w_enter 41 Tryz.func57 Tryz.ntmps57 rfl rfl ?_
 have M : Mo w w := Mo.refl _
 refine w_seq (w_reg ?_)
 refine wl_box 26 (.tmp 0) _ (#[.bool false, .int .u64 (l0 (n)), .int .u64 (l1 (n)), .int .u64 (l2 (n)), .int .u64 (l3 (n)), .int .i64 (k : Int)]) rfl rfl (fun _ => by kernel_rfl) rfl ?_
 intro k1 w1 hk hz hq Q1
 have N_k1 : w.heap.size ≤ k1 := by have := M.size; omega
 replace M := M.trans hq
 clear hk hz hq
 refine wl_m (.const (.string ⟨#[]⟩)) (.string ⟨#[]⟩) ?_
 refine w_nil (xn_then (w_seq (w_seq (w_reg ?_))))
 refine wl_l 26 (.tmp 1) (pt k1 0) (.agg #[.bool false, .int .u64 (l0 (n)), .int .u64 (l1 (n)), .int .u64 (l2 (n)), .int .u64 (l3 (n)), .int .i64 (k : Int)]) (run_row Q1 26 0 6 _ rfl Tryz.underlying26 rfl sz26) ?_
 refine wl_call 42 [(.tmp 4)] _ [.agg #[.bool false, .int .u64 (l0 (n)), .int .u64 (l1 (n)), .int .u64 (l2 (n)), .int .u64 (l3 (n)), .int .i64 (k : Int)]] (.int .i64 (0)) rfl rfl (fun _ _ => by kernel_rfl) (rcheck_ok false n (k : Int) _ hn0 hnM hck) rfl ?_
 intro w2 hq
 replace Q1 := Q1.mo hq
 replace M := M.trans hq
 clear hq
 refine wl_b .neq 32 (.tmp 5) (.const (.int .i64 (0))) (.int .i64 (0)) (.int .i64 (0)) (.bool false) (V.neE (r := true) hc0 _ _ _) ?_
 refine w_nil (xn_then (w_condF rfl (w_skip (xn_then (w_seq (w_reg ?_))))))
 refine wl_f 26 1 (.tmp 1) (pt k1 0) (pt k1 1) ?_
 refine wl_l 24 (.tmp 7) (pt k1 1) (.agg #[.int .u64 (l0 (n)), .int .u64 (l1 (n)), .int .u64 (l2 (n)), .int .u64 (l3 (n))]) (run_row Q1 24 1 4 _ rfl Tryz.underlying24 rfl sz24) ?_
 refine wl_call 83 [(.tmp 8)] _ [.agg #[.int .u64 (l0 (n)), .int .u64 (l1 (n)), .int .u64 (l2 (n)), .int .u64 (l3 (n))]] (tx (V.dgs8 n)) rfl rfl (fun _ _ => by kernel_rfl) (rtext_n n _ hn0 hnM) rfl ?_
 intro w3 hq
 replace Q1 := Q1.mo hq
 replace M := M.trans hq
 clear hq
 refine wl_m (.tmp 9) (tx (V.dgs8 n)) ?_
 refine w_nil (xn_then (w_seq (w_block ?_)))
 refine w_loop (fun m l w1 => ∃ dl : List UInt8, m = k + 1 - dl.length ∧ look l 1 = pt k1 0 ∧ look l 3 = tx dl ∧ LZ (V.dgs8 n) dl k ∧ At w1 k1 [.bool false, .int .u64 (l0 (n)), .int .u64 (l1 (n)), .int .u64 (l2 (n)), .int .u64 (l3 (n)), .int .i64 (k : Int)] ∧ Mo w w1) _ ⟨V.dgs8 n, rfl, rfl, rfl, ⟨0, rfl, Or.inl rfl⟩, Q1, M⟩ ?_
 clear M Q1
 rintro m l wl ⟨dl, rfl, e1, e3, hz, Q1, M⟩
 have hb := hz.bound
 by_cases hlt : dl.length ≤ k
 ·have hle : decide ((dl.length : Int) ≤ (k : Int)) = true := decide_eq_true (by omega)
  refine w_seq (w_seq (w_reg ?_))
  refine wl_mv (.tmp 3) (tx dl) (fun _ => rfl) e3 rfl ?_
  refine wl_val (.int .i64 ((dl.length : Int))) (len_tx _ _ dl (by exact rfl) _ _ _ _ _ _) rfl ?_
  refine wl_un (fun v => Instr.fieldAt 26 v 2) (.tmp 1) (pt k1 0) (pt k1 5) (fun _ => rfl) e1 (by kernel_rfl) rfl ?_
  refine wl_l 3 (.tmp 12) (pt k1 5) (.int .i64 (k : Int)) (run_one Q1 3 5 rfl Tryz.underlying3 rfl) ?_
  refine wl_b .leq 3 (.tmp 11) (.tmp 13) (.int .i64 ((dl.length : Int))) (.int .i64 (k : Int)) (.bool true) (leq3_run hle _ _ _) ?_
  refine w_nil (xn_then (w_condT rfl (w_skip (xn_then (w_block (w_reg ?_))))))
  refine wl_mv (.tmp 3) (tx dl) (fun _ => rfl) e3 rfl ?_
  refine wl_b .add 9 (.const (.string ⟨#[48]⟩)) (.tmp 15) (.string ⟨#[48]⟩) (tx dl) (tx (48 :: dl)) (catl_run [48] dl (by simp; omega) _ _ _) ?_
  refine wl_m (.tmp 16) (tx (48 :: dl)) ?_
  refine w_nil (xn_blk ?_)
  exact xn_loop (k + 1 - (48 :: dl).length) (by simp; omega) ⟨48 :: dl, rfl, e1, rfl, hz.step hlt, Q1, M⟩
 ·have hle : decide ((dl.length : Int) ≤ (k : Int)) = false := decide_eq_false (by omega)
  obtain ⟨c, hc⟩ : ∃ c, dl.length = k + c := ⟨dl.length - k, by omega⟩
  have hfin := fink hkn (hz.done hlt) hc false
  refine w_seq (w_seq (w_reg ?_))
  refine wl_mv (.tmp 3) (tx dl) (fun _ => rfl) e3 rfl ?_
  refine wl_val (.int .i64 ((dl.length : Int))) (len_tx _ _ dl (by exact rfl) _ _ _ _ _ _) rfl ?_
  refine wl_un (fun v => Instr.fieldAt 26 v 2) (.tmp 1) (pt k1 0) (pt k1 5) (fun _ => rfl) e1 (by kernel_rfl) rfl ?_
  refine wl_l 3 (.tmp 12) (pt k1 5) (.int .i64 (k : Int)) (run_one Q1 3 5 rfl Tryz.underlying3 rfl) ?_
  refine wl_b .leq 3 (.tmp 11) (.tmp 13) (.int .i64 ((dl.length : Int))) (.int .i64 (k : Int)) (.bool false) (leq3_run hle _ _ _) ?_
  refine w_nil (xn_then (w_condF rfl (w_exit (xx_then (xx_then (xx_blk (xn_then (w_seq (w_seq (w_reg ?_))))))))))
  refine wl_un (fun v => Instr.fieldAt 26 v 2) (.tmp 1) (pt k1 0) (pt k1 5) (fun _ => rfl) e1 (by kernel_rfl) rfl ?_
  refine wl_l 3 (.tmp 17) (pt k1 5) (.int .i64 (k : Int)) (run_one Q1 3 5 rfl Tryz.underlying3 rfl) ?_
  refine wl_b .gtr 3 (.tmp 18) (.const (.int .i64 (0))) (.int .i64 (k : Int)) (.int .i64 (0)) (.bool true) (gt3_run hk0 _ _ _) ?_
  refine w_nil (xn_then (w_condT rfl ?_))
  refine w_any 15 [.inl (tx dl), .inl (tx dl), .inl (.int .i64 ((dl.length : Int))), .inl (pt k1 5), .inl (.int .i64 (k : Int)), .inl (.int .i64 ((c : Int))), .inl (tx (dl.take c)), .inl (tx (dl.take c ++ [46])), .inl (tx dl), .inl (tx dl), .inl (.int .i64 ((dl.length : Int))), .inl (pt k1 5), .inl (.int .i64 (k : Int)), .inl (.int .i64 ((c : Int))), .inl (tx (dl.drop c))] [] (by kernel_rfl) (by kernel_rfl) (by kernel_rfl) (by kernel_rfl) rfl (by kernel_rfl) (by kernel_rfl) late_nil ?_ ?_ ?_
  ·exact Ds.none rfl
  ·refine ea_cons ?_ (ea_cons ?_ (ea_cons ?_ (ea_cons ?_ (ea_cons ?_ (ea_cons ?_ (ea_cons ?_ (ea_cons ?_ (ea_cons ?_ (ea_cons ?_ (ea_cons ?_ (ea_cons ?_ (ea_cons ?_ (ea_cons ?_ (ea_cons ?_ (ea_nil)))))))))))))))
   ·exact og_eq _ rfl (fun f wf hq hd K hK => go_run rfl (wo_mv (.tmp 3) (tx dl) (fun _ => rfl) e3 (hK _ (Mo.refl _))))
   ·exact og_eq _ rfl (fun f wf hq hd K hK => go_run rfl (wo_mv (.tmp 3) (tx dl) (fun _ => rfl) e3 (hK _ (Mo.refl _))))
   ·exact og_eq _ rfl (fun f wf hq hd K hK => go_run rfl (wo_val (.int .i64 ((dl.length : Int))) (len_tx _ _ dl (by exact (hd 1 rfl)) _ _ _ _ _ _) (hK _ (Mo.refl _))))
   ·exact og_eq _ rfl (fun f wf hq hd K hK => go_run rfl (wo_un (fun v => Instr.fieldAt 26 v 2) (.tmp 1) (pt k1 0) (pt k1 5) (fun _ => rfl) e1 (by kernel_rfl) (hK _ (Mo.refl _))))
   ·exact og_eq _ rfl (fun f wf hq hd K hK => have Q1 := Q1.mo hq; go_run rfl (wo_load 3 (.tmp 23) (pt k1 5) (.int .i64 (k : Int)) rfl (hd 3 rfl) (run_one Q1 3 5 rfl Tryz.underlying3 rfl) (hK _ (Mo.refl _))))
   ·exact og_eq _ rfl (fun f wf hq hd K hK => go_run rfl (wo_bin (fun x y => do eqGuard .sub 3 (.tmp 22) (.tmp 24) x y; binOp .sub 3 x y) (.tmp 22) (.tmp 24) (.int .i64 ((dl.length : Int))) (.int .i64 (k : Int)) (.int .i64 ((c : Int))) (fun _ => rfl) (hd 2 rfl) (hd 4 rfl) (sub3t_run hc (by omega) _ _ _) (hK _ (Mo.refl _))))
   ·exact og_eq _ rfl (fun f wf hq hd K hK => go_run rfl (wo_val (tx (dl.take c)) (hi_run _ _ _ dl c (by exact (hd 0 rfl)) (by exact (hd 5 rfl)) (by omega) _ _ _ _ _ _) (hK _ (Mo.refl _))))
   ·exact og_eq _ rfl (fun f wf hq hd K hK => go_run rfl (wo_bin (fun x y => do eqGuard .add 9 (.tmp 26) (.const (.string ⟨#[46]⟩)) x y; binOp .add 9 x y) (.tmp 26) (.const (.string ⟨#[46]⟩)) (tx (dl.take c)) (.string ⟨#[46]⟩) (tx (dl.take c ++ [46])) (fun _ => rfl) (hd 6 rfl) rfl (catl_run (dl.take c) [46] (by simp; omega) _ _ _) (hK _ (Mo.refl _))))
   ·exact og_eq _ rfl (fun f wf hq hd K hK => go_run rfl (wo_mv (.tmp 3) (tx dl) (fun _ => rfl) e3 (hK _ (Mo.refl _))))
   ·exact og_eq _ rfl (fun f wf hq hd K hK => go_run rfl (wo_mv (.tmp 3) (tx dl) (fun _ => rfl) e3 (hK _ (Mo.refl _))))
   ·exact og_eq _ rfl (fun f wf hq hd K hK => go_run rfl (wo_val (.int .i64 ((dl.length : Int))) (len_tx _ _ dl (by exact (hd 9 rfl)) _ _ _ _ _ _) (hK _ (Mo.refl _))))
   ·exact og_eq _ rfl (fun f wf hq hd K hK => go_run rfl (wo_un (fun v => Instr.fieldAt 26 v 2) (.tmp 1) (pt k1 0) (pt k1 5) (fun _ => rfl) e1 (by kernel_rfl) (hK _ (Mo.refl _))))
   ·exact og_eq _ rfl (fun f wf hq hd K hK => have Q1 := Q1.mo hq; go_run rfl (wo_load 3 (.tmp 31) (pt k1 5) (.int .i64 (k : Int)) rfl (hd 11 rfl) (run_one Q1 3 5 rfl Tryz.underlying3 rfl) (hK _ (Mo.refl _))))
   ·exact og_eq _ rfl (fun f wf hq hd K hK => go_run rfl (wo_bin (fun x y => do eqGuard .sub 3 (.tmp 30) (.tmp 32) x y; binOp .sub 3 x y) (.tmp 30) (.tmp 32) (.int .i64 ((dl.length : Int))) (.int .i64 (k : Int)) (.int .i64 ((c : Int))) (fun _ => rfl) (hd 10 rfl) (hd 12 rfl) (sub3t_run hc (by omega) _ _ _) (hK _ (Mo.refl _))))
   ·exact og_eq _ rfl (fun f wf hq hd K hK => go_run rfl (wo_val (tx (dl.drop c)) (lo_run _ _ _ dl c (by exact (hd 8 rfl)) (by exact (hd 13 rfl)) (by omega) _ _ _ _ _ _) (hK _ (Mo.refl _))))
  intro kf21 w21 hq hR hne
  replace Q1 := Q1.mo hq
  replace M := M.trans hq
  clear hq hR hne
  refine wl_b .add 9 (.tmp 27) (.tmp 34) (tx (dl.take c ++ [46])) (tx (dl.drop c)) (tx (dl.take c ++ [46] ++ dl.drop c)) (catl_run (dl.take c ++ [46]) (dl.drop c) (by simp; omega) _ _ _) ?_
  refine wl_m (.tmp 35) (tx (dl.take c ++ [46] ++ dl.drop c)) ?_
  refine w_nil (xn_then (w_seq (w_seq (w_reg ?_))))
  refine wl_un (fun v => Instr.fieldAt 26 v 0) (.tmp 1) (pt k1 0) (pt k1 0) (fun _ => rfl) e1 (by kernel_rfl) rfl ?_
  refine wl_l 4 (.tmp 36) (pt k1 0) (.bool false) (run_one Q1 4 0 rfl Tryz.underlying4 rfl) ?_
  refine w_nil (xn_then (w_condF rfl (w_skip (xn_then (w_seq (w_reg ?_))))))
  refine wl_m (.tmp 3) (tx (dl.take c ++ [46] ++ dl.drop c)) ?_
  refine wl_m (.tmp 40) (tx (dl.take c ++ [46] ++ dl.drop c)) ?_
  refine w_nil (xn_then (w_ret ?_))
  exact w_ret1 _ (tx (dl.take c ++ [46] ++ dl.drop c)) rfl rfl ⟨by rw [hfin]; rfl, M⟩
theorem rtx_ok (b : Bool) (n : Int) (k : Nat) (w : World) (hn0 : 0 ≤ n) (hnM : n < MM) (hk18 : k ≤ 18) (hck : ck b n (k : Int) = 0) : Calls Tryz.prog 57 #[dc b n (k : Int)] w fun e w' => e = .returned (tx (V.txt b n k)) ∧ Mo w w' := by
 by_cases h : k = 0
 ·subst h
  cases b
  ·exact rtx_f0 n w hn0 hnM hck
  ·exact rtx_t0 n w hn0 hnM hck
 ·cases b
  ·exact rtx_f1 n k w hn0 hnM hk18 h hck
  ·exact rtx_t1 n k w hn0 hnM hk18 h hck
end Go.Proofs.YtogomodbcjpfiaaGreatDoor

namespace Go.Proofs.YtogomodbcjpfiaaGreatDoor.V
open Go.RowKit
theorem rptext_n (b : Bool) (n s : Int) (w : World) (hn0 : 0 ≤ n) (hn : n < MM) (h : ck b n s = 0) : Calls Tryz.prog 57 #[dc b n s] w fun e9 w' => e9 = .returned (.string ⟨(txt b n s.toNat).toArray⟩) ∧ Mo w w' := by
 have hs := sc_iff.1 (ck_s h)
 obtain ⟨k, rfl⟩ : ∃ k : Nat, s = (k : Int) := ⟨s.toNat, by omega⟩
 exact rtx_ok b n k w hn0 hn (by omega) h
theorem add48 {e : Int} (h : isE e = true) (x y : Operand) (w : World) : (do eqGuard .add 3 x y (.int .i64 48) (.int .i64 e); binOp .add 3 (.int .i64 48) (.int .i64 e)).run Tryz.prog w = .ok (.int .i64 (48 + e)) w := by
 rcases isE_c h with rfl | rfl | rfl | rfl | rfl <;> kernel_rfl
theorem cv21 {e : Int} (h : isE e = true) (w : World) : (convert 3 21 (.int .i64 (48 + e))).run Tryz.prog w = .ok (.int .i32 (48 + e)) w := by
 rcases isE_c h with rfl | rfl | rfl | rfl | rfl <;> kernel_rfl
theorem cv9 {e : Int} (h : isE e = true) (w : World) : (convert 21 9 (.int .i32 (48 + e))).run Tryz.prog w = .ok (.string (erT e)) w := by
 rcases isE_c h with rfl | rfl | rfl | rfl | rfl <;> kernel_rfl
theorem e_of {x : VL} (hx : x.ok) (c : ckv x = true) (h0 : ¬ x.k = 0) (h1 : ¬ x.k = 1) (h2 : ¬ x.k = 2) (h3 : ¬ x.k = 3) : x.k = 4 := by
 have := ckv_k hx c
 omega
theorem rtext_n (x : VL) (w : World) (hx : x.ok) : Calls Tryz.prog 26 #[x.v] w fun e9 w' => e9 = .returned (.string (txtB x)) ∧ Mw w w' := by
 refine w_enter 30 Tryz.func26 Tryz.ntmps26 rfl rfl ?_
 have M : Mw w w := Mw.refl _
 refine w_seq (w_reg ?_)
 refine wl_box 28 (.tmp 0) _ (((x.cells).toArray)) rfl rfl (fun _ => by kernel_rfl) rfl ?_
 intro k1 u1 hk hz hq Q1
 have N_k1 : w.heap.size ≤ k1 := by have := M.size; omega
 replace M := M.trans hq
 clear hk hz hq
 refine wl_m (.const (.string ⟨#[]⟩)) (.string ⟨#[]⟩) ?_
 refine w_nil (xn_then (w_seq (w_seq (w_reg ?_))))
 refine wl_l 28 (.tmp 1) (pt k1 0) (.agg (x.cells).toArray) (run_row Q1 28 0 10 (x.cells) rfl Tryz.underlying28 rfl sz28) ?_
 cases hf0 : ckv x with
 | true =>
  refine wl_call 14 [(.tmp 3)] _ [.agg (x.cells).toArray] (.int .i64 (0)) rfl rfl (fun _ _ => by kernel_rfl) (wk (rcheck_t hf0 hx _)) rfl ?_
  intro u2 hq
  replace Q1 := Q1.mo hq
  replace M := M.trans hq
  clear hq
  refine wl_b .neq 32 (.tmp 4) (.const (.int .i64 (0))) (.int .i64 (0)) (.int .i64 (0)) (.bool false) (ne34 (r := true) rfl _ _ _) ?_
  refine w_nil (xn_then (w_condF rfl (w_skip (xn_then (w_seq (w_seq (w_reg ?_)))))))
  refine wl_f 28 0 (.tmp 1) (pt k1 0) (pt k1 0) ?_
  refine wl_l 3 (.tmp 6) (pt k1 0) (.int .i64 (x.k)) (run_one Q1 3 0 rfl Tryz.underlying3 rfl) ?_
  refine w_nil (xn_then (w_block (w_seq (w_reg ?_))))
  cases hf1 : decide (x.k = 0) with
  | true =>
   have hf1p := of_decide_eq_true hf1
   refine wl_b .eql 3 (.tmp 7) (.const (.int .i64 (0))) (.int .i64 (x.k)) (.int .i64 (0)) (.bool true) (eq3 hf1 _ _ _) ?_
   refine wl_m (.tmp 9) (.bool true) ?_
   refine w_nil (xn_then (w_condT rfl (w_seq (w_reg ?_))))
   refine wl_m (.const (.string ⟨#[98, 108, 97, 110, 107]⟩)) (.string (⟨#[98, 108, 97, 110, 107]⟩)) ?_
   refine w_nil (xn_then (w_ret (xr_blk (xr_then ?_))))
   exact w_ret1 _ (.string (⟨#[98, 108, 97, 110, 107]⟩)) rfl rfl ⟨congrArg Ending.returned (congrArg Value.string (by simp [txtB, hf0, if_neg (show ¬ x.k = 1 by omega), if_neg (show ¬ x.k = 2 by omega), if_neg (show ¬ x.k = 3 by omega), if_neg (show ¬ x.k = 4 by omega)] <;> rfl)), M⟩
  | false =>
   have hf1p := of_decide_eq_false hf1
   refine wl_b .eql 3 (.tmp 7) (.const (.int .i64 (0))) (.int .i64 (x.k)) (.int .i64 (0)) (.bool false) (eq3 hf1 _ _ _) ?_
   refine wl_m (.tmp 9) (.bool false) ?_
   refine w_nil (xn_then (w_condF rfl (w_seq (w_reg ?_))))
   cases hf2 : decide (x.k = 1) with
   | true =>
    have hf2p := of_decide_eq_true hf2
    refine wl_b .eql 3 (.tmp 7) (.const (.int .i64 (1))) (.int .i64 (x.k)) (.int .i64 (1)) (.bool true) (eq3 hf2 _ _ _) ?_
    refine wl_m (.tmp 11) (.bool true) ?_
    refine w_nil (xn_then (w_condT rfl (w_seq (w_reg ?_))))
    refine wl_f 28 1 (.tmp 1) (pt k1 0) (pt k1 1) ?_
    refine wl_l 26 (.tmp 12) (pt k1 1) (.agg #[.bool x.b, .int .u64 (l0 x.n), .int .u64 (l1 x.n), .int .u64 (l2 x.n), .int .u64 (l3 x.n), .int .i64 x.s]) (run_row Q1 26 1 6 _ rfl Tryz.underlying26 rfl sz26) ?_
    refine wl_call 57 [(.tmp 13)] _ [.agg #[.bool x.b, .int .u64 (l0 x.n), .int .u64 (l1 x.n), .int .u64 (l2 x.n), .int .u64 (l3 x.n), .int .i64 x.s]] (.string (⟨(txt x.b x.n x.s.toNat).toArray⟩)) rfl rfl (fun _ _ => by kernel_rfl) (wk (rptext_n x.b x.n x.s _ hx.1 hx.2 (ckv_num hx hf0 (by assumption)).2)) rfl ?_
    intro u3 hq
    replace Q1 := Q1.mo hq
    replace M := M.trans hq
    clear hq
    refine wl_m (.tmp 14) (.string (⟨(txt x.b x.n x.s.toNat).toArray⟩)) ?_
    refine w_nil (xn_then (w_ret (xr_blk (xr_then ?_))))
    exact w_ret1 _ (.string (⟨(txt x.b x.n x.s.toNat).toArray⟩)) rfl rfl ⟨congrArg Ending.returned (congrArg Value.string (by simp [txtB, hf0, if_pos hf2p] <;> rfl)), M⟩
   | false =>
    have hf2p := of_decide_eq_false hf2
    refine wl_b .eql 3 (.tmp 7) (.const (.int .i64 (1))) (.int .i64 (x.k)) (.int .i64 (1)) (.bool false) (eq3 hf2 _ _ _) ?_
    refine wl_m (.tmp 11) (.bool false) ?_
    refine w_nil (xn_then (w_condF rfl (w_seq (w_reg ?_))))
    cases hf3 : decide (x.k = 2) with
    | true =>
     have hf3p := of_decide_eq_true hf3
     refine wl_b .eql 3 (.tmp 7) (.const (.int .i64 (2))) (.int .i64 (x.k)) (.int .i64 (2)) (.bool true) (eq3 hf3 _ _ _) ?_
     refine wl_m (.tmp 16) (.bool true) ?_
     refine w_nil (xn_then (w_condT rfl (w_seq (w_seq (w_reg ?_)))))
     refine wl_f 28 2 (.tmp 1) (pt k1 0) (pt k1 7) ?_
     refine wl_l 4 (.tmp 17) (pt k1 7) (.bool x.f) (run_one Q1 4 7 rfl Tryz.underlying4 rfl) ?_
     refine w_nil (xn_then ?_)
     cases hf4 : x.f with
     | true =>
      refine w_condT rfl (w_seq (w_reg ?_))
      refine wl_m (.const (.string ⟨#[116, 114, 117, 101]⟩)) (.string (⟨#[116, 114, 117, 101]⟩)) ?_
      refine w_nil (xn_then (w_ret (xr_then (xr_blk (xr_then ?_)))))
      exact w_ret1 _ (.string (⟨#[116, 114, 117, 101]⟩)) rfl rfl ⟨congrArg Ending.returned (congrArg Value.string (by simp [txtB, hf0, if_neg hf2p, if_pos hf3p, hf4] <;> rfl)), M⟩
     | false =>
      refine w_condF rfl (w_skip (xn_then (w_seq (w_reg ?_))))
      refine wl_m (.const (.string ⟨#[102, 97, 108, 115, 101]⟩)) (.string (⟨#[102, 97, 108, 115, 101]⟩)) ?_
      refine w_nil (xn_then (w_ret (xr_blk (xr_then ?_))))
      exact w_ret1 _ (.string (⟨#[102, 97, 108, 115, 101]⟩)) rfl rfl ⟨congrArg Ending.returned (congrArg Value.string (by simp [txtB, hf0, if_neg hf2p, if_pos hf3p, hf4] <;> rfl)), M⟩
    | false =>
     have hf3p := of_decide_eq_false hf3
     refine wl_b .eql 3 (.tmp 7) (.const (.int .i64 (2))) (.int .i64 (x.k)) (.int .i64 (2)) (.bool false) (eq3 hf3 _ _ _) ?_
     refine wl_m (.tmp 16) (.bool false) ?_
     refine w_nil (xn_then (w_condF rfl (w_seq (w_reg ?_))))
     cases hf4 : decide (x.k = 3) with
     | true =>
      have hf4p := of_decide_eq_true hf4
      refine wl_b .eql 3 (.tmp 7) (.const (.int .i64 (3))) (.int .i64 (x.k)) (.int .i64 (3)) (.bool true) (eq3 hf4 _ _ _) ?_
      refine wl_m (.tmp 20) (.bool true) ?_
      refine w_nil (xn_then (w_condT rfl (w_seq (w_reg ?_))))
      refine wl_f 28 3 (.tmp 1) (pt k1 0) (pt k1 8) ?_
      refine wl_l 9 (.tmp 21) (pt k1 8) (.string x.t) (run_one Q1 9 8 rfl Tryz.underlying9 rfl) ?_
      refine wl_call 58 [(.tmp 22)] _ [.string x.t] (.string (⟨(qt (by8 x.t)).toArray⟩)) rfl rfl (fun _ _ => by kernel_rfl) (rquote_n x.t _ (txt_sz hf0 (by assumption))) rfl ?_
      intro u3 hq
      replace Q1 := Q1.mo hq
      replace M := M.trans hq
      clear hq
      refine wl_m (.tmp 23) (.string (⟨(qt (by8 x.t)).toArray⟩)) ?_
      refine w_nil (xn_then (w_ret (xr_blk (xr_then ?_))))
      exact w_ret1 _ (.string (⟨(qt (by8 x.t)).toArray⟩)) rfl rfl ⟨congrArg Ending.returned (congrArg Value.string (by simp [txtB, hf0, if_neg hf2p, if_neg hf3p, if_pos hf4p] <;> rfl)), M⟩
     | false =>
      have hf4p := of_decide_eq_false hf4
      refine wl_b .eql 3 (.tmp 7) (.const (.int .i64 (3))) (.int .i64 (x.k)) (.int .i64 (3)) (.bool false) (eq3 hf4 _ _ _) ?_
      refine wl_m (.tmp 20) (.bool false) ?_
      refine w_nil (xn_then (w_condF rfl (w_skip (xn_blk (xn_then (w_seq (w_reg ?_)))))))
      refine wl_f 28 4 (.tmp 1) (pt k1 0) (pt k1 9) ?_
      refine wl_l 3 (.tmp 24) (pt k1 9) (.int .i64 (x.e)) (run_one Q1 3 9 rfl Tryz.underlying3 rfl) ?_
      have h4 : x.k = 4 := e_of hx hf0 (by assumption) (by assumption) (by assumption) (by assumption)
      have hE : isE x.e = true := (ckv_err hx hf0 h4).2
      refine wl_b .add 3 (.const (.int .i64 (48))) (.tmp 25) (.int .i64 (48)) (.int .i64 (x.e)) (.int .i64 (48 + x.e)) (add48 hE _ _ _) ?_
      refine wl_un (fun v => convert 3 21 v) (.tmp 26) (.int .i64 (48 + x.e)) (.int .i32 (48 + x.e)) (fun _ => rfl) rfl (cv21 hE _) rfl ?_
      refine wl_un (fun v => convert 21 9 v) (.tmp 27) (.int .i32 (48 + x.e)) (.string (erT x.e)) (fun _ => rfl) rfl (cv9 hE _) rfl ?_
      refine wl_b .add 9 (.const (.string ⟨#[33]⟩)) (.tmp 28) (.string ⟨#[33]⟩) (.string (erT x.e)) (.string ((⟨#[33]⟩ : ByteArray) ++ erT x.e)) (cat9 (by rw [erT_size]; decide) _ _ _) ?_
      refine wl_m (.tmp 29) (.string ((⟨#[33]⟩ : ByteArray) ++ erT x.e)) ?_
      refine w_nil (xn_then (w_ret ?_))
      exact w_ret1 _ (.string ((⟨#[33]⟩ : ByteArray) ++ erT x.e)) rfl rfl ⟨congrArg Ending.returned (congrArg Value.string (by simp [txtB, hf0, if_neg hf2p, if_neg hf3p, if_neg hf4p, if_pos h4] <;> rfl)), M⟩
 | false =>
  refine wl_call 14 [(.tmp 3)] _ [.agg (x.cells).toArray] (.int .i64 (1)) rfl rfl (fun _ _ => by kernel_rfl) (wk (rcheck_f hf0 hx _)) rfl ?_
  intro u2 hq
  replace Q1 := Q1.mo hq
  replace M := M.trans hq
  clear hq
  refine wl_b .neq 32 (.tmp 4) (.const (.int .i64 (0))) (.int .i64 (1)) (.int .i64 (0)) (.bool true) (ne34 (r := false) rfl _ _ _) ?_
  refine w_nil (xn_then (w_condT rfl (w_seq (w_reg ?_))))
  refine wl_m (.const (.string ⟨#[63]⟩)) (.string ⟨#[63]⟩) ?_
  refine w_nil (xn_then (w_ret (xr_then ?_)))
  exact w_ret1 _ (.string ⟨#[63]⟩) rfl rfl ⟨congrArg Ending.returned (congrArg Value.string (by simp [txtB, hf0] <;> rfl)), M⟩
end Go.Proofs.YtogomodbcjpfiaaGreatDoor.V
namespace Go.Proofs.YtogomodbcjpfiaaGreatDoor.V
open Go.RowKit
theorem ones_law (x : VL) (S p : Int) (w : World) (hx : x.ok) : Calls Tryz.prog 4 #[x.v, .int .i64 S, .int .i64 p] w fun e9 w' => e9 = .returned (.bool true) ∧ Mw w w' := by
 refine w_enter 61 Tryz.func4 Tryz.ntmps4 rfl rfl ?_
 have M : Mw w w := Mw.refl _
 refine w_seq (w_reg ?_)
 refine wl_box 28 (.tmp 0) _ (((x.cells).toArray)) rfl rfl (fun _ => by kernel_rfl) rfl ?_
 intro k1 u1 hk hz hq Q1
 have N_k1 : w.heap.size ≤ k1 := by have := M.size; omega
 replace M := M.trans hq
 clear hk hz hq
 refine wl_m (.const (.bool false)) (.bool false) ?_
 refine w_nil (xn_then (w_seq ?_))
 refine w_any 51 [.inl (.bool true), .inl (.bool true), .inl (.agg (x.cells).toArray), .inl (.int .i64 (ckI x)), .inl (.agg (x.cells).toArray), .inl (.int .i64 (ckI x)), .inl (.bool true), .inl (.bool true), .inl (.bool true), .inl (.int .i64 (S)), .inl (.agg ((vBad S).cells).toArray), .inl (.int .i64 (S)), .inl (.agg ((vBad S).cells).toArray), .inl (.bool true), .inl (.bool true), .inl (.bool true), .inl (.agg (x.cells).toArray), .inl (.agg ((negV x).cells).toArray), .inl (.agg (x.cells).toArray), .inl (.agg ((negV x).cells).toArray), .inl (.bool true), .inl (.bool true), .inl (.bool true), .inl (.agg (x.cells).toArray), .inl (.agg ((notV x).cells).toArray), .inl (.agg (x.cells).toArray), .inl (.agg ((notV x).cells).toArray), .inl (.bool true), .inl (.bool true), .inl (.bool true), .inl (.agg (x.cells).toArray), .inl (.agg ((blkV x).cells).toArray), .inl (.agg (x.cells).toArray), .inl (.agg ((blkV x).cells).toArray), .inl (.bool true), .inl (.bool true), .inl (.bool true), .inl (.agg (x.cells).toArray), .inl (.int .i64 (S)), .inl (.int .i64 (p)), .inl (.agg ((rndV x S p).cells).toArray), .inl (.agg (x.cells).toArray), .inl (.int .i64 (S)), .inl (.int .i64 (p)), .inl (.agg ((rndV x S p).cells).toArray), .inl (.bool true), .inl (.bool true), .inl (.bool true), .inl (.agg (x.cells).toArray), .inl (.string (txtB x)), .inl (.agg (x.cells).toArray)] [] (by kernel_rfl) (by kernel_rfl) (by kernel_rfl) (by kernel_rfl) rfl (by kernel_rfl) (by kernel_rfl) late_nil ?_ ?_ ?_
 ·exact Ds.none rfl
 ·refine ea_cons ?_ (ea_cons ?_ (ea_cons ?_ (ea_cons ?_ (ea_cons ?_ (ea_cons ?_ (ea_cons ?_ (ea_cons ?_ (ea_cons ?_ (ea_cons ?_ (ea_cons ?_ (ea_cons ?_ (ea_cons ?_ (ea_cons ?_ (ea_cons ?_ (ea_cons ?_ (ea_cons ?_ (ea_cons ?_ (ea_cons ?_ (ea_cons ?_ (ea_cons ?_ (ea_cons ?_ (ea_cons ?_ (ea_cons ?_ (ea_cons ?_ (ea_cons ?_ (ea_cons ?_ (ea_cons ?_ (ea_cons ?_ (ea_cons ?_ (ea_cons ?_ (ea_cons ?_ (ea_cons ?_ (ea_cons ?_ (ea_cons ?_ (ea_cons ?_ (ea_cons ?_ (ea_cons ?_ (ea_cons ?_ (ea_cons ?_ (ea_cons ?_ (ea_cons ?_ (ea_cons ?_ (ea_cons ?_ (ea_cons ?_ (ea_cons ?_ (ea_cons ?_ (ea_cons ?_ (ea_cons ?_ (ea_cons ?_ (ea_cons ?_ (ea_nil)))))))))))))))))))))))))))))))))))))))))))))))))))
  ·exact og_eq _ rfl (fun f wf hq hd K hK => go_run rfl (wo_call 10 [] _ [] (.bool true) rfl rfl (fun _ _ => by kernel_rfl) (live_n _) hK))
  ·exact og_eq _ rfl (fun f wf hq hd K hK => go_run rfl (wo_mv (.tmp 7) (.bool true) (fun _ => rfl) (hd 0 rfl) (hK _ (Mw.refl _))))
  ·exact og_eq _ rfl (fun f wf hq hd K hK => have Q1 := Q1.mo hq; go_run (wnt_g rfl rfl rfl (hd 1 rfl) rfl) (wo_load 28 (.tmp 3) (pt k1 0) (.agg (x.cells).toArray) rfl rfl (run_row Q1 28 0 10 (x.cells) rfl Tryz.underlying28 rfl sz28) (hK _ (Mw.refl _))))
  ·exact og_eq _ rfl (fun f wf hq hd K hK => go_run (wnt_g rfl rfl rfl (hd 1 rfl) rfl) (wo_call 13 [(.tmp 9)] _ [.agg (x.cells).toArray] (.int .i64 (ckI x)) rfl (li1 (hd 2 rfl)) (fun _ _ => by kernel_rfl) (wk (chk_n x _ hx)) hK))
  ·exact og_eq _ rfl (fun f wf hq hd K hK => have Q1 := Q1.mo hq; go_run (wnt_g rfl rfl rfl (hd 1 rfl) rfl) (wo_load 28 (.tmp 3) (pt k1 0) (.agg (x.cells).toArray) rfl rfl (run_row Q1 28 0 10 (x.cells) rfl Tryz.underlying28 rfl sz28) (hK _ (Mw.refl _))))
  ·exact og_eq _ rfl (fun f wf hq hd K hK => go_run (wnt_g rfl rfl rfl (hd 1 rfl) rfl) (wo_call 14 [(.tmp 11)] _ [.agg (x.cells).toArray] (.int .i64 (ckI x)) rfl (li1 (hd 4 rfl)) (fun _ _ => by kernel_rfl) (wk (rchk_n x _ hx)) hK))
  ·exact og_eq _ rfl (fun f wf hq hd K hK => go_run (wnt_g rfl rfl rfl (hd 1 rfl) rfl) (wo_bin (fun x y => do eqGuard .eql 32 (.tmp 10) (.tmp 12) x y; binOp .eql 32 x y) (.tmp 10) (.tmp 12) (.int .i64 (ckI x)) (.int .i64 (ckI x)) (.bool true) (fun _ => rfl) (hd 3 rfl) (hd 5 rfl) (eq34 (decide_eq_true rfl) _ _ _) (hK _ (Mw.refl _))))
  ·exact og_eq _ rfl (fun f wf hq hd K hK => go_run rfl (wo_pick (.tmp 8) (.tmp 13) (.const (.bool false)) true (.bool true) (fun _ => rfl) (hd 1 rfl) (hd 6 rfl) (hK _ (Mw.refl _))))
  ·exact og_eq _ rfl (fun f wf hq hd K hK => go_run rfl (wo_mv (.tmp 14) (.bool true) (fun _ => rfl) (hd 7 rfl) (hK _ (Mw.refl _))))
  ·exact og_eq _ rfl (fun f wf hq hd K hK => go_run (wnt_g rfl rfl rfl (hd 8 rfl) rfl) (wo_mv (.tmp 1) (.int .i64 (S)) (fun _ => rfl) rfl (hK _ (Mw.refl _))))
  ·exact og_eq _ rfl (fun f wf hq hd K hK => go_run (wnt_g rfl rfl rfl (hd 8 rfl) rfl) (wo_call 15 [(.tmp 16)] _ [.int .i64 (S)] (.agg ((vBad S).cells).toArray) rfl (li1 (hd 9 rfl)) (fun _ _ => by kernel_rfl) (wk (bad_n S _)) hK))
  ·exact og_eq _ rfl (fun f wf hq hd K hK => go_run (wnt_g rfl rfl rfl (hd 8 rfl) rfl) (wo_mv (.tmp 1) (.int .i64 (S)) (fun _ => rfl) rfl (hK _ (Mw.refl _))))
  ·exact og_eq _ rfl (fun f wf hq hd K hK => go_run (wnt_g rfl rfl rfl (hd 8 rfl) rfl) (wo_call 16 [(.tmp 18)] _ [.int .i64 (S)] (.agg ((vBad S).cells).toArray) rfl (li1 (hd 11 rfl)) (fun _ _ => by kernel_rfl) (wk (rbad_n S _)) hK))
  ·exact og_eq _ rfl (fun f wf hq hd K hK => go_run (wnt_g rfl rfl rfl (hd 8 rfl) rfl) (wo_bin (fun x y => do eqGuard .eql 28 (.tmp 17) (.tmp 19) x y; binOp .eql 28 x y) (.tmp 17) (.tmp 19) (.agg ((vBad S).cells).toArray) (.agg ((vBad S).cells).toArray) (.bool true) (fun _ => rfl) (hd 10 rfl) (hd 12 rfl) (eqW (svv_self _) _ _ _) (hK _ (Mw.refl _))))
  ·exact og_eq _ rfl (fun f wf hq hd K hK => go_run rfl (wo_pick (.tmp 15) (.tmp 20) (.const (.bool false)) true (.bool true) (fun _ => rfl) (hd 8 rfl) (hd 13 rfl) (hK _ (Mw.refl _))))
  ·exact og_eq _ rfl (fun f wf hq hd K hK => go_run rfl (wo_mv (.tmp 21) (.bool true) (fun _ => rfl) (hd 14 rfl) (hK _ (Mw.refl _))))
  ·exact og_eq _ rfl (fun f wf hq hd K hK => have Q1 := Q1.mo hq; go_run (wnt_g rfl rfl rfl (hd 15 rfl) rfl) (wo_load 28 (.tmp 3) (pt k1 0) (.agg (x.cells).toArray) rfl rfl (run_row Q1 28 0 10 (x.cells) rfl Tryz.underlying28 rfl sz28) (hK _ (Mw.refl _))))
  ·exact og_eq _ rfl (fun f wf hq hd K hK => go_run (wnt_g rfl rfl rfl (hd 15 rfl) rfl) (wo_call 17 [(.tmp 23)] _ [.agg (x.cells).toArray] (.agg ((negV x).cells).toArray) rfl (li1 (hd 16 rfl)) (fun _ _ => by kernel_rfl) (wk (neg_n x _ hx)) hK))
  ·exact og_eq _ rfl (fun f wf hq hd K hK => have Q1 := Q1.mo hq; go_run (wnt_g rfl rfl rfl (hd 15 rfl) rfl) (wo_load 28 (.tmp 3) (pt k1 0) (.agg (x.cells).toArray) rfl rfl (run_row Q1 28 0 10 (x.cells) rfl Tryz.underlying28 rfl sz28) (hK _ (Mw.refl _))))
  ·exact og_eq _ rfl (fun f wf hq hd K hK => go_run (wnt_g rfl rfl rfl (hd 15 rfl) rfl) (wo_call 18 [(.tmp 25)] _ [.agg (x.cells).toArray] (.agg ((negV x).cells).toArray) rfl (li1 (hd 18 rfl)) (fun _ _ => by kernel_rfl) (wk (rnegV_n x _ hx)) hK))
  ·exact og_eq _ rfl (fun f wf hq hd K hK => go_run (wnt_g rfl rfl rfl (hd 15 rfl) rfl) (wo_bin (fun x y => do eqGuard .eql 28 (.tmp 24) (.tmp 26) x y; binOp .eql 28 x y) (.tmp 24) (.tmp 26) (.agg ((negV x).cells).toArray) (.agg ((negV x).cells).toArray) (.bool true) (fun _ => rfl) (hd 17 rfl) (hd 19 rfl) (eqW (svv_self _) _ _ _) (hK _ (Mw.refl _))))
  ·exact og_eq _ rfl (fun f wf hq hd K hK => go_run rfl (wo_pick (.tmp 22) (.tmp 27) (.const (.bool false)) true (.bool true) (fun _ => rfl) (hd 15 rfl) (hd 20 rfl) (hK _ (Mw.refl _))))
  ·exact og_eq _ rfl (fun f wf hq hd K hK => go_run rfl (wo_mv (.tmp 28) (.bool true) (fun _ => rfl) (hd 21 rfl) (hK _ (Mw.refl _))))
  ·exact og_eq _ rfl (fun f wf hq hd K hK => have Q1 := Q1.mo hq; go_run (wnt_g rfl rfl rfl (hd 22 rfl) rfl) (wo_load 28 (.tmp 3) (pt k1 0) (.agg (x.cells).toArray) rfl rfl (run_row Q1 28 0 10 (x.cells) rfl Tryz.underlying28 rfl sz28) (hK _ (Mw.refl _))))
  ·exact og_eq _ rfl (fun f wf hq hd K hK => go_run (wnt_g rfl rfl rfl (hd 22 rfl) rfl) (wo_call 19 [(.tmp 30)] _ [.agg (x.cells).toArray] (.agg ((notV x).cells).toArray) rfl (li1 (hd 23 rfl)) (fun _ _ => by kernel_rfl) (wk (not_n x _ hx)) hK))
  ·exact og_eq _ rfl (fun f wf hq hd K hK => have Q1 := Q1.mo hq; go_run (wnt_g rfl rfl rfl (hd 22 rfl) rfl) (wo_load 28 (.tmp 3) (pt k1 0) (.agg (x.cells).toArray) rfl rfl (run_row Q1 28 0 10 (x.cells) rfl Tryz.underlying28 rfl sz28) (hK _ (Mw.refl _))))
  ·exact og_eq _ rfl (fun f wf hq hd K hK => go_run (wnt_g rfl rfl rfl (hd 22 rfl) rfl) (wo_call 20 [(.tmp 32)] _ [.agg (x.cells).toArray] (.agg ((notV x).cells).toArray) rfl (li1 (hd 25 rfl)) (fun _ _ => by kernel_rfl) (wk (rnotV_n x _ hx)) hK))
  ·exact og_eq _ rfl (fun f wf hq hd K hK => go_run (wnt_g rfl rfl rfl (hd 22 rfl) rfl) (wo_bin (fun x y => do eqGuard .eql 28 (.tmp 31) (.tmp 33) x y; binOp .eql 28 x y) (.tmp 31) (.tmp 33) (.agg ((notV x).cells).toArray) (.agg ((notV x).cells).toArray) (.bool true) (fun _ => rfl) (hd 24 rfl) (hd 26 rfl) (eqW (svv_self _) _ _ _) (hK _ (Mw.refl _))))
  ·exact og_eq _ rfl (fun f wf hq hd K hK => go_run rfl (wo_pick (.tmp 29) (.tmp 34) (.const (.bool false)) true (.bool true) (fun _ => rfl) (hd 22 rfl) (hd 27 rfl) (hK _ (Mw.refl _))))
  ·exact og_eq _ rfl (fun f wf hq hd K hK => go_run rfl (wo_mv (.tmp 35) (.bool true) (fun _ => rfl) (hd 28 rfl) (hK _ (Mw.refl _))))
  ·exact og_eq _ rfl (fun f wf hq hd K hK => have Q1 := Q1.mo hq; go_run (wnt_g rfl rfl rfl (hd 29 rfl) rfl) (wo_load 28 (.tmp 3) (pt k1 0) (.agg (x.cells).toArray) rfl rfl (run_row Q1 28 0 10 (x.cells) rfl Tryz.underlying28 rfl sz28) (hK _ (Mw.refl _))))
  ·exact og_eq _ rfl (fun f wf hq hd K hK => go_run (wnt_g rfl rfl rfl (hd 29 rfl) rfl) (wo_call 21 [(.tmp 37)] _ [.agg (x.cells).toArray] (.agg ((blkV x).cells).toArray) rfl (li1 (hd 30 rfl)) (fun _ _ => by kernel_rfl) (wk (blk_n x _ hx)) hK))
  ·exact og_eq _ rfl (fun f wf hq hd K hK => have Q1 := Q1.mo hq; go_run (wnt_g rfl rfl rfl (hd 29 rfl) rfl) (wo_load 28 (.tmp 3) (pt k1 0) (.agg (x.cells).toArray) rfl rfl (run_row Q1 28 0 10 (x.cells) rfl Tryz.underlying28 rfl sz28) (hK _ (Mw.refl _))))
  ·exact og_eq _ rfl (fun f wf hq hd K hK => go_run (wnt_g rfl rfl rfl (hd 29 rfl) rfl) (wo_call 22 [(.tmp 39)] _ [.agg (x.cells).toArray] (.agg ((blkV x).cells).toArray) rfl (li1 (hd 32 rfl)) (fun _ _ => by kernel_rfl) (wk (rblkV_n x _ hx)) hK))
  ·exact og_eq _ rfl (fun f wf hq hd K hK => go_run (wnt_g rfl rfl rfl (hd 29 rfl) rfl) (wo_bin (fun x y => do eqGuard .eql 28 (.tmp 38) (.tmp 40) x y; binOp .eql 28 x y) (.tmp 38) (.tmp 40) (.agg ((blkV x).cells).toArray) (.agg ((blkV x).cells).toArray) (.bool true) (fun _ => rfl) (hd 31 rfl) (hd 33 rfl) (eqW (svv_self _) _ _ _) (hK _ (Mw.refl _))))
  ·exact og_eq _ rfl (fun f wf hq hd K hK => go_run rfl (wo_pick (.tmp 36) (.tmp 41) (.const (.bool false)) true (.bool true) (fun _ => rfl) (hd 29 rfl) (hd 34 rfl) (hK _ (Mw.refl _))))
  ·exact og_eq _ rfl (fun f wf hq hd K hK => go_run rfl (wo_mv (.tmp 42) (.bool true) (fun _ => rfl) (hd 35 rfl) (hK _ (Mw.refl _))))
  ·exact og_eq _ rfl (fun f wf hq hd K hK => have Q1 := Q1.mo hq; go_run (wnt_g rfl rfl rfl (hd 36 rfl) rfl) (wo_load 28 (.tmp 3) (pt k1 0) (.agg (x.cells).toArray) rfl rfl (run_row Q1 28 0 10 (x.cells) rfl Tryz.underlying28 rfl sz28) (hK _ (Mw.refl _))))
  ·exact og_eq _ rfl (fun f wf hq hd K hK => go_run (wnt_g rfl rfl rfl (hd 36 rfl) rfl) (wo_mv (.tmp 1) (.int .i64 (S)) (fun _ => rfl) rfl (hK _ (Mw.refl _))))
  ·exact og_eq _ rfl (fun f wf hq hd K hK => go_run (wnt_g rfl rfl rfl (hd 36 rfl) rfl) (wo_mv (.tmp 2) (.int .i64 (p)) (fun _ => rfl) rfl (hK _ (Mw.refl _))))
  ·exact og_eq _ rfl (fun f wf hq hd K hK => go_run (wnt_g rfl rfl rfl (hd 36 rfl) rfl) (wo_call 23 [(.tmp 44), (.tmp 45), (.tmp 46)] _ [.agg (x.cells).toArray, .int .i64 (S), .int .i64 (p)] (.agg ((rndV x S p).cells).toArray) rfl (li3 (hd 37 rfl) (hd 38 rfl) (hd 39 rfl)) (fun _ _ => by kernel_rfl) (wk (rnd_n x S p _ hx)) hK))
  ·exact og_eq _ rfl (fun f wf hq hd K hK => have Q1 := Q1.mo hq; go_run (wnt_g rfl rfl rfl (hd 36 rfl) rfl) (wo_load 28 (.tmp 3) (pt k1 0) (.agg (x.cells).toArray) rfl rfl (run_row Q1 28 0 10 (x.cells) rfl Tryz.underlying28 rfl sz28) (hK _ (Mw.refl _))))
  ·exact og_eq _ rfl (fun f wf hq hd K hK => go_run (wnt_g rfl rfl rfl (hd 36 rfl) rfl) (wo_mv (.tmp 1) (.int .i64 (S)) (fun _ => rfl) rfl (hK _ (Mw.refl _))))
  ·exact og_eq _ rfl (fun f wf hq hd K hK => go_run (wnt_g rfl rfl rfl (hd 36 rfl) rfl) (wo_mv (.tmp 2) (.int .i64 (p)) (fun _ => rfl) rfl (hK _ (Mw.refl _))))
  ·exact og_eq _ rfl (fun f wf hq hd K hK => go_run (wnt_g rfl rfl rfl (hd 36 rfl) rfl) (wo_call 24 [(.tmp 48), (.tmp 49), (.tmp 50)] _ [.agg (x.cells).toArray, .int .i64 (S), .int .i64 (p)] (.agg ((rndV x S p).cells).toArray) rfl (li3 (hd 41 rfl) (hd 42 rfl) (hd 43 rfl)) (fun _ _ => by kernel_rfl) (wk (rrndV_n x S p _ hx)) hK))
  ·exact og_eq _ rfl (fun f wf hq hd K hK => go_run (wnt_g rfl rfl rfl (hd 36 rfl) rfl) (wo_bin (fun x y => do eqGuard .eql 28 (.tmp 47) (.tmp 51) x y; binOp .eql 28 x y) (.tmp 47) (.tmp 51) (.agg ((rndV x S p).cells).toArray) (.agg ((rndV x S p).cells).toArray) (.bool true) (fun _ => rfl) (hd 40 rfl) (hd 44 rfl) (eqW (svv_self _) _ _ _) (hK _ (Mw.refl _))))
  ·exact og_eq _ rfl (fun f wf hq hd K hK => go_run rfl (wo_pick (.tmp 43) (.tmp 52) (.const (.bool false)) true (.bool true) (fun _ => rfl) (hd 36 rfl) (hd 45 rfl) (hK _ (Mw.refl _))))
  ·exact og_eq _ rfl (fun f wf hq hd K hK => go_run rfl (wo_mv (.tmp 53) (.bool true) (fun _ => rfl) (hd 46 rfl) (hK _ (Mw.refl _))))
  ·exact og_eq _ rfl (fun f wf hq hd K hK => have Q1 := Q1.mo hq; go_run (wnt_g rfl rfl rfl (hd 47 rfl) rfl) (wo_load 28 (.tmp 3) (pt k1 0) (.agg (x.cells).toArray) rfl rfl (run_row Q1 28 0 10 (x.cells) rfl Tryz.underlying28 rfl sz28) (hK _ (Mw.refl _))))
  ·exact og_eq _ rfl (fun f wf hq hd K hK => go_run (wnt_g rfl rfl rfl (hd 47 rfl) rfl) (wo_call 25 [(.tmp 55)] _ [.agg (x.cells).toArray] (.string (txtB x)) rfl (li1 (hd 48 rfl)) (fun _ _ => by kernel_rfl) (text_n x _ hx) hK))
  ·exact og_eq _ rfl (fun f wf hq hd K hK => have Q1 := Q1.mo hq; go_run (wnt_g rfl rfl rfl (hd 47 rfl) rfl) (wo_load 28 (.tmp 3) (pt k1 0) (.agg (x.cells).toArray) rfl rfl (run_row Q1 28 0 10 (x.cells) rfl Tryz.underlying28 rfl sz28) (hK _ (Mw.refl _))))
 intro kf2 u2 hq hR hne
 replace Q1 := Q1.mo hq
 replace M := M.trans hq
 clear hq hR hne
 refine wl_call 26 [(.tmp 57)] _ [.agg (x.cells).toArray] (.string (txtB x)) rfl rfl (fun _ _ => by kernel_rfl) (rtext_n x _ hx) rfl ?_
 intro u3 hq
 replace Q1 := Q1.mo hq
 replace M := M.trans hq
 clear hq
 refine wl_b .eql 9 (.tmp 56) (.tmp 58) (.string (txtB x)) (.string (txtB x)) (.bool true) (s9 (decide_eq_true rfl) _ _ _) ?_
 refine wl_pick (.tmp 54) (.tmp 59) (.const (.bool false)) true (.bool true) (fun _ => rfl) rfl rfl rfl ?_
 refine wl_m (.tmp 60) (.bool true) ?_
 refine w_nil (xn_then (w_ret ?_))
 exact w_ret1 _ _ rfl rfl ⟨rfl, M⟩
end Go.Proofs.YtogomodbcjpfiaaGreatDoor.V
