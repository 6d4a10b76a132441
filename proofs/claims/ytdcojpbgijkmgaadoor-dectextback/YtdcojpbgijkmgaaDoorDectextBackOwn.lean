/-
  For every number and every text exciselaw03.DectextBack returns true, and its arguments read behind the call as they read before; the two tables of unicode/utf8 lie as the program's text lays them.
-/
import Derived.Test.YtdcojpbgijkmgaaDoorRows
import Derived.Test.YtdcojpbgijkmgaaDoorNum
import Derived.ProofKit
import Derived.OpenShut
import Derived.Lib.SmallJoins
import Derived.ChangeSame
import Derived.Test.YtdcojpbgijkmgaaDoorDec0
import Derived.Carry
import Derived.ChangeMaps5
import Derived.ChangeVars
import Derived.JoinedOf
import Derived.RowKitTokens
import Derived.LaidLaws
import Derived.LaidHandle
import Derived.Stop.Joined
import Derived.Lib.LaidIn
import Derived.Test.YtdcojpbgijkmgaaDoorCards
import Derived.Test.YtdcojpbgijkmgaaDoorTie
import Derived.SevenTiedAt
import Derived.SizedLaws
import Derived.Test.YtdcojpbgijkmgaaDoorU4
/-
  Parse of a decimal text: what the program says.
-/
namespace Go.Proofs.YtdcojpbgijkmgaaDoor
open Go.RowKit
/-- What Parse says of a decimal text: the error's number. -/
def pe (A B : List UInt8) : Int := if 18 < B.length then 31 else if nof A B < MM then 0 else 7
theorem lp_n {z : List UInt8} (hc : Cn z) (hl : z.length ≤ maxLen) (w : World) : Calls Tryd.prog 29 #[tx z] w fun e w' => e = .returned (.tuple #[nv (if pv z < MM then pv z else 0), .int .i64 (if pv z < MM then 0 else 7)]) ∧ Mo w w' := by
  haveI := Classical.propDecidable (isT ⟨z.toArray⟩)
  refine (parse_n ⟨z.toArray⟩ w (by rw [tx_size]; exact hl)).mono fun e w' ⟨he, hm⟩ => ⟨?_, hm⟩
  rw [he, if_pos (cn_isT hc)]
  unfold resP
  rw [pvk_z8]
  by_cases h : pv z < MM
  · rw [if_pos h, if_pos h, if_pos h]
  · rw [if_neg h, if_neg h, if_neg h]; rfl
theorem woz_len (L : List UInt8) : (woz L).length ≤ L.length + 1 := by
  unfold woz
  split
  · simp
  · have := (List.dropWhile_sublist (p := (· == (48 : UInt8))) (l := L)).length_le; omega
theorem Df.len {l A B : List UInt8} {b : Bool} (h : Df l b A B) : A.length + B.length ≤ l.length := by
  rw [h.eq]
  by_cases hB : B = []
  · rw [if_pos hB, hB]; simp
  · rw [if_neg hB]; simp; omega
theorem woz_len2 {L : List UInt8} (h : L ≠ []) : (woz L).length ≤ L.length := by
  have hp := List.length_pos_iff.2 h
  unfold woz
  split
  · simp; omega
  · exact (List.dropWhile_sublist (p := (· == (48 : UInt8))) (l := L)).length_le
/-- The answer to a decimal text. -/
def pva (b : Bool) (A B : List UInt8) : Value := if pe A B = 0 then .tuple #[dc b (nof A B) (B.length : Int), .int .i64 0] else er (pe A B)
theorem parse13_df {s : ByteArray} {b : Bool} {A B : List UInt8} (h : Df (by8 s) b A B) (hs : s.size ≤ maxLen) (w : World) : Calls Tryd.prog 13 #[.string s] w fun e w' => e = .returned (pva b A B) ∧ Mo w w' := by
  have hi : ∀ w, Calls Tryd.prog 26 #[.string s] w fun e w' => e = .returned (.bool true) ∧ Mo w w' := fun w => by
    have := isDec_n s w hs; rw [dec_df h] at this; exact this
  obtain ⟨hp1, hp2⟩ := pre_df h
  have hC : ∀ w, Calls Tryd.prog 27 #[.string s, .string ⟨#[45]⟩] w fun e w' => e = .returned (.tuple #[tx (A ++ (if B = [] then [] else 46 :: B)), .bool b]) ∧ Mo w w' := fun w => by
    refine (Tryd.strings_CutPrefix s ⟨#[45]⟩ w).mono fun e w' ⟨he, hm⟩ => ⟨?_, by rw [hm]; exact Mo.refl _⟩
    rw [he]
    show Ending.returned (.tuple #[tx (Lib.trimPrefix (by8 s) [45]), .bool (Lib.hasPrefix (by8 s) [45])]) = _
    rw [hp1, hp2]
  have hlen := h.len
  rw [by8_len] at hlen
  have hlt : (A ++ (if B = [] then [] else 46 :: B)).length ≤ s.size := by
    rw [← by8_len, h.eq]; simp only [List.length_append]; omega
  obtain ⟨hc1, hc2⟩ := cut_df (B := B) h.ad
  have hD : ∀ w, Calls Tryd.prog 28 #[tx (A ++ (if B = [] then [] else 46 :: B)), .string ⟨#[46]⟩] w fun e w' => e = .returned (.tuple #[tx A, tx B, .bool (Lib.cut (A ++ (if B = [] then [] else 46 :: B)) [46]).2.2]) ∧ Mo w w' := fun w => by
    refine (cut_n ⟨(A ++ (if B = [] then [] else 46 :: B)).toArray⟩ 46 w (by rw [tx_size]; omega)).mono fun e w' ⟨he, hm⟩ => ⟨?_, hm⟩
    rw [he]
    show Ending.returned (.tuple #[tx (Lib.cut (A ++ (if B = [] then [] else 46 :: B)) [46]).1, tx (Lib.cut (A ++ (if B = [] then [] else 46 :: B)) [46]).2.1, .bool (Lib.cut (A ++ (if B = [] then [] else 46 :: B)) [46]).2.2]) = _
    rw [hc1, hc2]
  unfold pva pe
  by_cases h18 : 18 < B.length
  · rw [if_pos h18, if_neg (by decide)]
    exact parse_b s w hi _ A B b _ hC hD (decide_eq_true (by omega))
  · rw [if_neg h18]
    have hl : decide ((B.length : Int) > 18) = false := decide_eq_false (by omega)
    have hy : (⟨A.toArray⟩ : ByteArray) ++ ⟨B.toArray⟩ = ⟨(A ++ B).toArray⟩ := by
      have e : by8 ((⟨A.toArray⟩ : ByteArray) ++ ⟨B.toArray⟩) = A ++ B := by rw [by8_app]
      calc (⟨A.toArray⟩ : ByteArray) ++ ⟨B.toArray⟩ = ⟨((⟨A.toArray⟩ : ByteArray) ++ ⟨B.toArray⟩).data⟩ := rfl
        _ = ⟨(by8 ((⟨A.toArray⟩ : ByteArray) ++ ⟨B.toArray⟩)).toArray⟩ := by rw [Array.toArray_toList]
        _ = ⟨(A ++ B).toArray⟩ := by rw [e]
    have hZ : ∀ w, Calls Tryd.prog 30 #[.string ⟨(A ++ B).toArray⟩] w fun e w' => e = .returned (tx (woz (A ++ B))) ∧ Mo w w' := fun w => withoutZeros_n ⟨(A ++ B).toArray⟩ w
    have hwl := woz_len2 (L := A ++ B) (by simp [h.ne])
    simp only [List.length_append] at hwl
    have hP := fun w => lp_n (cn_woz h.dg) (by omega) w
    unfold maxLen at hs
    by_cases hM : nof A B < MM
    · rw [if_pos hM, if_pos rfl]
      have hM' : pv (woz (A ++ B)) < MM := hM
      simp only [if_pos hM'] at hP
      exact parse_d s w hi _ A B b _ hC hD _ hl (by omega) _ hy hZ _ 0 hP rfl
    · rw [if_neg hM, if_neg (by decide)]
      have hM' : ¬ pv (woz (A ++ B)) < MM := hM
      simp only [if_neg hM'] at hP
      exact parse_c s w hi _ A B b _ hC hD _ hl (by omega) _ hy hZ _ 7 hP rfl
theorem parse13_no {s : ByteArray} (h : isDec s = false) (hs : s.size ≤ maxLen) (w : World) : Calls Tryd.prog 13 #[.string s] w fun e w' => e = .returned (er 30) ∧ Mo w w' :=
  parse_a s w (fun w => by have := isDec_n s w hs; rw [h] at this; exact this)
end Go.Proofs.YtdcojpbgijkmgaaDoor
/-
  exciseref03.Short, whatever the number.
-/
namespace Go.Proofs.YtdcojpbgijkmgaaDoor
open Go.RowKit Go.Lib
theorem eqq_run {l : List UInt8} {r : Bool} (h : (l == [63]) = r) (x y : Operand) (w : World) : (do eqGuard .eql 9 x y (tx l) (.string ⟨#[63]⟩); binOp .eql 9 (tx l) (.string ⟨#[63]⟩)).run Tryd.prog w = .ok (.bool r) w := by
  subst h
  have e : (⟨#[63]⟩ : ByteArray).toList = [63] := by rw [ByteArray.toList_eq]
  have e2 : (⟨l.toArray⟩ : ByteArray).toList = l := by rw [ByteArray.toList_eq]
  rw [← e2]
  unfold tx
  generalize (⟨l.toArray⟩ : ByteArray) = s
  simp [go_sem, e]
theorem txt_ne (b : Bool) (n : Int) (k : Nat) : (V.txt b n k == [63]) = false := by
  cases h : (V.txt b n k == [63]) with
  | false => rfl
  | true =>
    exfalso
    have h := eq_of_beq h
    unfold V.txt at h
    cases b with
    | true => simp at h
    | false =>
      simp only [Bool.false_eq_true, if_false] at h
      unfold wpt at h
      split at h
      · have hm : (63 : UInt8) ∈ V.dgs8 n := by rw [h]; simp
        rw [dgs8_map] at hm
        obtain ⟨d, hd, he⟩ := List.mem_map.1 hm
        have hb := decF_digits 78 n d hd
        have := congrArg UInt8.toNat he
        rw [UInt8.toNat_ofNat'] at this
        have e63 : (63 : UInt8).toNat = 63 := rfl
        rw [e63] at this
        omega
      · have hm : (46 : UInt8) ∈ [63] := by rw [← h]; simp
        simp at hm
theorem ptx_len (b : Bool) (n : Int) (k : Nat) (hk : k ≤ 18) : (ptx b n k).length ≤ 200 := by
  have hD : (V.dgs8 n).length ≤ 78 := by have := V.dgs8_len n; have e3 : (V.dgs8 n).length = (strOf (decF 78 n)).size := by8_len _; omega
  have hL : (leadz (V.dgs8 n) k).length ≤ 100 := by unfold leadz; generalize V.dgs8 n = D at *; simp; omega
  unfold ptx sgn8
  generalize leadz (V.dgs8 n) k = L at *
  cases b <;> simp <;> omega
theorem txt0_len (b : Bool) (n : Int) : (V.txt b n 0).length ≤ 1000 := by
  have := ptx_len b n 0 (by decide); rw [ptx_0] at this; simp at this; omega
theorem rsh_no (b : Bool) (n s0 : Int) (w : World) (hn0 : 0 ≤ n) (hnM : n < MM) (hck : ck b n s0 ≠ 0) : Calls Tryd.prog 12 #[dc b n s0] w fun e w' => e = .returned (.string ⟨#[63]⟩) ∧ Mo w w' := by
  refine w_enter 37 Tryd.func12 Tryd.ntmps12 rfl rfl ?_
  have M : Mo w w := Mo.refl _
  refine w_seq ?_
  refine w_reg ?_
  refine wl_box 26 (.tmp 0) (.agg #[.bool b, .int .u64 (l0 (n)), .int .u64 (l1 (n)), .int .u64 (l2 (n)), .int .u64 (l3 (n)), .int .i64 (s0)]) (#[.bool b, .int .u64 (l0 (n)), .int .u64 (l1 (n)), .int .u64 (l2 (n)), .int .u64 (l3 (n)), .int .i64 (s0)]) rfl rfl (fun _ => by kernel_rfl) rfl ?_
  intro k1 w1 hk hz hq Q1
  have N_k1 : w.heap.size ≤ k1 := by have := M.size; omega
  replace M := M.trans hq
  clear hk hz hq
  refine wl_mv (.const (.string ⟨#[]⟩)) (.string ⟨#[]⟩) (fun _ => rfl) rfl rfl ?_
  refine w_nil ?_
  refine xn_then ?_
  refine w_seq ?_
  refine w_reg ?_
  refine wl_load 26 (.tmp 1) (pt k1 0) (.agg #[.bool b, .int .u64 (l0 (n)), .int .u64 (l1 (n)), .int .u64 (l2 (n)), .int .u64 (l3 (n)), .int .i64 (s0)]) rfl rfl (run_row Q1 26 0 6 [.bool b, .int .u64 (l0 (n)), .int .u64 (l1 (n)), .int .u64 (l2 (n)), .int .u64 (l3 (n)), .int .i64 (s0)] rfl Tryd.underlying26 rfl sz26) rfl ?_
  refine wl_call 10 [(.tmp 4)] _ [.agg #[.bool b, .int .u64 (l0 (n)), .int .u64 (l1 (n)), .int .u64 (l2 (n)), .int .u64 (l3 (n)), .int .i64 (s0)]] (.string ⟨#[63]⟩) rfl rfl (fun _ _ => by kernel_rfl) (rtx_no b n s0 _ hn0 hnM hck) rfl ?_
  intro w2 hq
  replace Q1 := Q1.mo hq
  replace M := M.trans hq
  clear hq
  refine wl_mv (.tmp 5) (.string ⟨#[63]⟩) (fun _ => rfl) rfl rfl ?_
  refine w_nil ?_
  refine xn_then ?_
  refine w_seq ?_
  refine w_seq ?_
  refine w_reg ?_
  refine wl_mv (.tmp 3) (.string ⟨#[63]⟩) (fun _ => rfl) rfl rfl ?_
  refine wl_bin (fun x y => do eqGuard .eql 9 (.tmp 6) (.const (.string ⟨#[63]⟩)) x y; binOp .eql 9 x y) (.tmp 6) (.const (.string ⟨#[63]⟩)) (.string ⟨#[63]⟩) (.string ⟨#[63]⟩) (.bool true) (fun _ => rfl) rfl rfl (V.eqS_run _ _ _ _) rfl ?_
  refine wl_mv (.tmp 7) (.bool true) (fun _ => rfl) rfl rfl ?_
  refine wl_skip rfl ?_
  refine wl_skip rfl ?_
  refine wl_skip rfl ?_
  refine wl_pick (.tmp 8) (.const (.bool true)) (.tmp 11) true (.bool true) (fun _ => rfl) rfl rfl rfl ?_
  refine w_nil ?_
  refine xn_then ?_
  refine w_condT rfl ?_
  refine w_seq ?_
  refine w_reg ?_
  refine wl_mv (.tmp 3) (.string ⟨#[63]⟩) (fun _ => rfl) rfl rfl ?_
  refine wl_mv (.tmp 13) (.string ⟨#[63]⟩) (fun _ => rfl) rfl rfl ?_
  refine w_nil ?_
  refine xn_then ?_
  refine w_ret ?_
  refine xr_then ?_
  exact w_ret1 _ (.string ⟨#[63]⟩) rfl rfl ⟨rfl, M⟩
theorem rsh_0 (b : Bool) (n : Int) (w : World) (hn0 : 0 ≤ n) (hnM : n < MM) (hck : ck b n ((0 : Nat) : Int) = 0) : Calls Tryd.prog 12 #[dc b n ((0 : Nat) : Int)] w fun e w' => e = .returned (tx (V.txt b n 0)) ∧ Mo w w' := by
  have hk0 : (((0 : Nat) : Int) == 0) = true := rfl
  refine w_enter 37 Tryd.func12 Tryd.ntmps12 rfl rfl ?_
  have M : Mo w w := Mo.refl _
  refine w_seq ?_
  refine w_reg ?_
  refine wl_box 26 (.tmp 0) (.agg #[.bool b, .int .u64 (l0 (n)), .int .u64 (l1 (n)), .int .u64 (l2 (n)), .int .u64 (l3 (n)), .int .i64 ((0 : Nat) : Int)]) (#[.bool b, .int .u64 (l0 (n)), .int .u64 (l1 (n)), .int .u64 (l2 (n)), .int .u64 (l3 (n)), .int .i64 ((0 : Nat) : Int)]) rfl rfl (fun _ => by kernel_rfl) rfl ?_
  intro k1 w1 hk hz hq Q1
  have N_k1 : w.heap.size ≤ k1 := by have := M.size; omega
  replace M := M.trans hq
  clear hk hz hq
  refine wl_mv (.const (.string ⟨#[]⟩)) (.string ⟨#[]⟩) (fun _ => rfl) rfl rfl ?_
  refine w_nil ?_
  refine xn_then ?_
  refine w_seq ?_
  refine w_reg ?_
  refine wl_load 26 (.tmp 1) (pt k1 0) (.agg #[.bool b, .int .u64 (l0 (n)), .int .u64 (l1 (n)), .int .u64 (l2 (n)), .int .u64 (l3 (n)), .int .i64 ((0 : Nat) : Int)]) rfl rfl (run_row Q1 26 0 6 [.bool b, .int .u64 (l0 (n)), .int .u64 (l1 (n)), .int .u64 (l2 (n)), .int .u64 (l3 (n)), .int .i64 ((0 : Nat) : Int)] rfl Tryd.underlying26 rfl sz26) rfl ?_
  refine wl_call 10 [(.tmp 4)] _ [.agg #[.bool b, .int .u64 (l0 (n)), .int .u64 (l1 (n)), .int .u64 (l2 (n)), .int .u64 (l3 (n)), .int .i64 ((0 : Nat) : Int)]] (tx (V.txt b n 0)) rfl rfl (fun _ _ => by kernel_rfl) (rtx_ok b n 0 _ hn0 hnM (by decide) hck) rfl ?_
  intro w2 hq
  replace Q1 := Q1.mo hq
  replace M := M.trans hq
  clear hq
  refine wl_mv (.tmp 5) (tx (V.txt b n 0)) (fun _ => rfl) rfl rfl ?_
  refine w_nil ?_
  refine xn_then ?_
  refine w_seq ?_
  refine w_seq ?_
  refine w_reg ?_
  refine wl_mv (.tmp 3) (tx (V.txt b n 0)) (fun _ => rfl) rfl rfl ?_
  refine wl_bin (fun x y => do eqGuard .eql 9 (.tmp 6) (.const (.string ⟨#[63]⟩)) x y; binOp .eql 9 x y) (.tmp 6) (.const (.string ⟨#[63]⟩)) (tx (V.txt b n 0)) (.string ⟨#[63]⟩) (.bool false) (fun _ => rfl) rfl rfl (eqq_run (txt_ne _ _ _) _ _ _) rfl ?_
  refine wl_mv (.tmp 7) (.bool false) (fun _ => rfl) rfl rfl ?_
  refine wl_un (fun v => Instr.fieldAt 26 v 2) (.tmp 1) (pt k1 0) (pt k1 5) (fun _ => rfl) rfl (by kernel_rfl) rfl ?_
  refine wl_load 3 (.tmp 9) (pt k1 5) (.int .i64 ((0 : Nat) : Int)) rfl rfl (run_one Q1 3 5 rfl Tryd.underlying3 rfl) rfl ?_
  refine wl_bin (fun x y => do eqGuard .eql 3 (.tmp 10) (.const (.int .i64 (0))) x y; binOp .eql 3 x y) (.tmp 10) (.const (.int .i64 (0))) (.int .i64 ((0 : Nat) : Int)) (.int .i64 (0)) (.bool true) (fun _ => rfl) rfl rfl (eq3_run hk0 _ _ _) rfl ?_
  refine wl_pick (.tmp 8) (.const (.bool true)) (.tmp 11) false (.bool true) (fun _ => rfl) rfl rfl rfl ?_
  refine w_nil ?_
  refine xn_then ?_
  refine w_condT rfl ?_
  refine w_seq ?_
  refine w_reg ?_
  refine wl_mv (.tmp 3) (tx (V.txt b n 0)) (fun _ => rfl) rfl rfl ?_
  refine wl_mv (.tmp 13) (tx (V.txt b n 0)) (fun _ => rfl) rfl rfl ?_
  refine w_nil ?_
  refine xn_then ?_
  refine w_ret ?_
  refine xr_then ?_
  exact w_ret1 _ (tx (V.txt b n 0)) rfl rfl ⟨rfl, M⟩
theorem rsh_k (b : Bool) (n : Int) (k : Nat) (w : World) (hkn : k ≠ 0) (hn0 : 0 ≤ n) (hnM : n < MM) (hk18 : k ≤ 18) (hck : ck b n (k : Int) = 0) : Calls Tryd.prog 12 #[dc b n (k : Int)] w fun e w' => e = .returned (tx (V.txt b (trN k n).1 (trN k n).2)) ∧ Mo w w' := by
  have hk0 : ((k : Int) == 0) = false := beq_eq_false_iff_ne.2 (by omega)
  refine w_enter 37 Tryd.func12 Tryd.ntmps12 rfl rfl ?_
  have M : Mo w w := Mo.refl _
  refine w_seq ?_
  refine w_reg ?_
  refine wl_box 26 (.tmp 0) (.agg #[.bool b, .int .u64 (l0 (n)), .int .u64 (l1 (n)), .int .u64 (l2 (n)), .int .u64 (l3 (n)), .int .i64 (k : Int)]) (#[.bool b, .int .u64 (l0 (n)), .int .u64 (l1 (n)), .int .u64 (l2 (n)), .int .u64 (l3 (n)), .int .i64 (k : Int)]) rfl rfl (fun _ => by kernel_rfl) rfl ?_
  intro k1 w1 hk hz hq Q1
  have N_k1 : w.heap.size ≤ k1 := by have := M.size; omega
  replace M := M.trans hq
  clear hk hz hq
  refine wl_mv (.const (.string ⟨#[]⟩)) (.string ⟨#[]⟩) (fun _ => rfl) rfl rfl ?_
  refine w_nil ?_
  refine xn_then ?_
  refine w_seq ?_
  refine w_reg ?_
  refine wl_load 26 (.tmp 1) (pt k1 0) (.agg #[.bool b, .int .u64 (l0 (n)), .int .u64 (l1 (n)), .int .u64 (l2 (n)), .int .u64 (l3 (n)), .int .i64 (k : Int)]) rfl rfl (run_row Q1 26 0 6 [.bool b, .int .u64 (l0 (n)), .int .u64 (l1 (n)), .int .u64 (l2 (n)), .int .u64 (l3 (n)), .int .i64 (k : Int)] rfl Tryd.underlying26 rfl sz26) rfl ?_
  refine wl_call 10 [(.tmp 4)] _ [.agg #[.bool b, .int .u64 (l0 (n)), .int .u64 (l1 (n)), .int .u64 (l2 (n)), .int .u64 (l3 (n)), .int .i64 (k : Int)]] (tx (V.txt b n k)) rfl rfl (fun _ _ => by kernel_rfl) (rtx_ok b n k _ hn0 hnM hk18 hck) rfl ?_
  intro w2 hq
  replace Q1 := Q1.mo hq
  replace M := M.trans hq
  clear hq
  refine wl_mv (.tmp 5) (tx (V.txt b n k)) (fun _ => rfl) rfl rfl ?_
  refine w_nil ?_
  refine xn_then ?_
  refine w_seq ?_
  refine w_seq ?_
  refine w_reg ?_
  refine wl_mv (.tmp 3) (tx (V.txt b n k)) (fun _ => rfl) rfl rfl ?_
  refine wl_bin (fun x y => do eqGuard .eql 9 (.tmp 6) (.const (.string ⟨#[63]⟩)) x y; binOp .eql 9 x y) (.tmp 6) (.const (.string ⟨#[63]⟩)) (tx (V.txt b n k)) (.string ⟨#[63]⟩) (.bool false) (fun _ => rfl) rfl rfl (eqq_run (txt_ne _ _ _) _ _ _) rfl ?_
  refine wl_mv (.tmp 7) (.bool false) (fun _ => rfl) rfl rfl ?_
  refine wl_un (fun v => Instr.fieldAt 26 v 2) (.tmp 1) (pt k1 0) (pt k1 5) (fun _ => rfl) rfl (by kernel_rfl) rfl ?_
  refine wl_load 3 (.tmp 9) (pt k1 5) (.int .i64 (k : Int)) rfl rfl (run_one Q1 3 5 rfl Tryd.underlying3 rfl) rfl ?_
  refine wl_bin (fun x y => do eqGuard .eql 3 (.tmp 10) (.const (.int .i64 (0))) x y; binOp .eql 3 x y) (.tmp 10) (.const (.int .i64 (0))) (.int .i64 (k : Int)) (.int .i64 (0)) (.bool false) (fun _ => rfl) rfl rfl (eq3_run hk0 _ _ _) rfl ?_
  refine wl_pick (.tmp 8) (.const (.bool true)) (.tmp 11) false (.bool false) (fun _ => rfl) rfl rfl rfl ?_
  refine w_nil ?_
  refine xn_then ?_
  refine w_condF rfl ?_
  refine w_skip ?_
  refine xn_then ?_
  refine w_seq ?_
  refine w_block ?_
  refine w_loop (fun m l w1 => ∃ n2 : Int, look l 3 = tx (ptx b n2 m) ∧ trN m n2 = trN k n ∧ 0 ≤ n2 ∧ n2 < MM ∧ m ≤ 18 ∧ Mo w w1) k ⟨n, by rw [ptx_k b n k hkn]; rfl, rfl, hn0, hnM, hk18, M⟩ ?_
  clear M
  rintro m l wl ⟨n2, e3, ht, h20, h2M, hm18, M⟩
  cases m with
  | zero =>
    rw [ptx_0] at e3
    have h48 : (((46 : UInt8).toNat : Int) == 48) = false := rfl
    have h46 : (((46 : UInt8).toNat : Int) == 46) = true := rfl
    refine w_seq ?_
    refine w_seq ?_
    refine w_reg ?_
    refine wl_mv (.tmp 3) (tx ((V.txt b n2 0) ++ [(46 : UInt8)])) (fun _ => rfl) e3 rfl ?_
    refine wl_mv (.tmp 3) (tx ((V.txt b n2 0) ++ [(46 : UInt8)])) (fun _ => rfl) e3 rfl ?_
    refine wl_val (.int .i64 (((V.txt b n2 0) ++ [(46 : UInt8)]).length)) (len_tx _ _ ((V.txt b n2 0) ++ [(46 : UInt8)]) (by exact rfl) _ _ _ _ _ _) rfl ?_
    refine wl_bin (fun x y => do eqGuard .sub 3 (.tmp 16) (.const (.int .i64 (1))) x y; binOp .sub 3 x y) (.tmp 16) (.const (.int .i64 (1))) (.int .i64 (((V.txt b n2 0) ++ [(46 : UInt8)]).length)) (.int .i64 (1)) (.int .i64 (((V.txt b n2 0).length : Int))) (fun _ => rfl) rfl rfl (sub1_sn (V.txt b n2 0) (46 : UInt8) (txt0_len b n2) _ _ _) rfl ?_
    refine wl_bin (fun x y => Instr.index 9 x y) (.tmp 14) (.tmp 17) (tx ((V.txt b n2 0) ++ [(46 : UInt8)])) (.int .i64 (((V.txt b n2 0).length : Int))) (.int .u8 (((46 : UInt8)).toNat : Int)) (fun _ => rfl) rfl rfl (idx_sn (V.txt b n2 0) (46 : UInt8) _) rfl ?_
    refine wl_bin (fun x y => do eqGuard .eql 5 (.tmp 18) (.const (.int .u8 (48))) x y; binOp .eql 5 x y) (.tmp 18) (.const (.int .u8 (48))) (.int .u8 (((46 : UInt8)).toNat : Int)) (.int .u8 (48)) (.bool false) (fun _ => rfl) rfl rfl (eq5r h48 _ _ _) rfl ?_
    refine w_nil ?_
    refine xn_then ?_
    refine w_condF rfl ?_
    refine w_exit ?_
    refine xx_then ?_
    refine xx_then ?_
    refine xx_blk ?_
    refine xn_then ?_
    refine w_seq ?_
    refine w_seq ?_
    refine w_reg ?_
    refine wl_mv (.tmp 3) (tx ((V.txt b n2 0) ++ [(46 : UInt8)])) (fun _ => rfl) e3 rfl ?_
    refine wl_mv (.tmp 3) (tx ((V.txt b n2 0) ++ [(46 : UInt8)])) (fun _ => rfl) e3 rfl ?_
    refine wl_val (.int .i64 (((V.txt b n2 0) ++ [(46 : UInt8)]).length)) (len_tx _ _ ((V.txt b n2 0) ++ [(46 : UInt8)]) (by exact rfl) _ _ _ _ _ _) rfl ?_
    refine wl_bin (fun x y => do eqGuard .sub 3 (.tmp 27) (.const (.int .i64 (1))) x y; binOp .sub 3 x y) (.tmp 27) (.const (.int .i64 (1))) (.int .i64 (((V.txt b n2 0) ++ [(46 : UInt8)]).length)) (.int .i64 (1)) (.int .i64 (((V.txt b n2 0).length : Int))) (fun _ => rfl) rfl rfl (sub1_sn (V.txt b n2 0) (46 : UInt8) (txt0_len b n2) _ _ _) rfl ?_
    refine wl_bin (fun x y => Instr.index 9 x y) (.tmp 25) (.tmp 28) (tx ((V.txt b n2 0) ++ [(46 : UInt8)])) (.int .i64 (((V.txt b n2 0).length : Int))) (.int .u8 (((46 : UInt8)).toNat : Int)) (fun _ => rfl) rfl rfl (idx_sn (V.txt b n2 0) (46 : UInt8) _) rfl ?_
    refine wl_bin (fun x y => do eqGuard .eql 5 (.tmp 29) (.const (.int .u8 (46))) x y; binOp .eql 5 x y) (.tmp 29) (.const (.int .u8 (46))) (.int .u8 (((46 : UInt8)).toNat : Int)) (.int .u8 (46)) (.bool true) (fun _ => rfl) rfl rfl (eq5r h46 _ _ _) rfl ?_
    refine w_nil ?_
    refine xn_then ?_
    refine w_condT rfl ?_
    refine w_reg ?_
    refine wl_mv (.tmp 3) (tx ((V.txt b n2 0) ++ [(46 : UInt8)])) (fun _ => rfl) e3 rfl ?_
    refine wl_mv (.tmp 3) (tx ((V.txt b n2 0) ++ [(46 : UInt8)])) (fun _ => rfl) e3 rfl ?_
    refine wl_val (.int .i64 (((V.txt b n2 0) ++ [(46 : UInt8)]).length)) (len_tx _ _ ((V.txt b n2 0) ++ [(46 : UInt8)]) (by exact rfl) _ _ _ _ _ _) rfl ?_
    refine wl_bin (fun x y => do eqGuard .sub 3 (.tmp 33) (.const (.int .i64 (1))) x y; binOp .sub 3 x y) (.tmp 33) (.const (.int .i64 (1))) (.int .i64 (((V.txt b n2 0) ++ [(46 : UInt8)]).length)) (.int .i64 (1)) (.int .i64 (((V.txt b n2 0).length : Int))) (fun _ => rfl) rfl rfl (sub1_sn (V.txt b n2 0) (46 : UInt8) (txt0_len b n2) _ _ _) rfl ?_
    refine wl_val (tx (V.txt b n2 0)) (hi_sn _ _ _ (V.txt b n2 0) (46 : UInt8) (by exact rfl) (by exact rfl) _ _ _ _ _ _) rfl ?_
    refine wl_mv (.tmp 35) (tx (V.txt b n2 0)) (fun _ => rfl) rfl rfl ?_
    refine w_nil ?_
    refine xn_then ?_
    refine w_seq ?_
    refine w_reg ?_
    refine wl_mv (.tmp 3) (tx (V.txt b n2 0)) (fun _ => rfl) rfl rfl ?_
    refine wl_mv (.tmp 36) (tx (V.txt b n2 0)) (fun _ => rfl) rfl rfl ?_
    refine w_nil ?_
    refine xn_then ?_
    refine w_ret ?_
    exact w_ret1 _ (tx (V.txt b n2 0)) rfl rfl ⟨by rw [← ht]; rfl, M⟩
  | succ m =>
    have hlen : (ptx b (n2 / 10) m).length ≤ 1000 := Nat.le_trans (ptx_len b _ m (by omega)) (by decide)
    have e4 := ptx_s b n2 m h20 h2M
    rw [e4] at e3
    by_cases hz : n2 % 10 = 0
    · have h48 : (((ld n2).toNat : Int) == 48) = true := by rw [ld_48 hz]; rfl
      refine w_seq ?_
      refine w_seq ?_
      refine w_reg ?_
      refine wl_mv (.tmp 3) (tx ((ptx b (n2 / 10) m) ++ [(ld n2)])) (fun _ => rfl) e3 rfl ?_
      refine wl_mv (.tmp 3) (tx ((ptx b (n2 / 10) m) ++ [(ld n2)])) (fun _ => rfl) e3 rfl ?_
      refine wl_val (.int .i64 (((ptx b (n2 / 10) m) ++ [(ld n2)]).length)) (len_tx _ _ ((ptx b (n2 / 10) m) ++ [(ld n2)]) (by exact rfl) _ _ _ _ _ _) rfl ?_
      refine wl_bin (fun x y => do eqGuard .sub 3 (.tmp 16) (.const (.int .i64 (1))) x y; binOp .sub 3 x y) (.tmp 16) (.const (.int .i64 (1))) (.int .i64 (((ptx b (n2 / 10) m) ++ [(ld n2)]).length)) (.int .i64 (1)) (.int .i64 (((ptx b (n2 / 10) m).length : Int))) (fun _ => rfl) rfl rfl (sub1_sn (ptx b (n2 / 10) m) (ld n2) hlen _ _ _) rfl ?_
      refine wl_bin (fun x y => Instr.index 9 x y) (.tmp 14) (.tmp 17) (tx ((ptx b (n2 / 10) m) ++ [(ld n2)])) (.int .i64 (((ptx b (n2 / 10) m).length : Int))) (.int .u8 (((ld n2)).toNat : Int)) (fun _ => rfl) rfl rfl (idx_sn (ptx b (n2 / 10) m) (ld n2) _) rfl ?_
      refine wl_bin (fun x y => do eqGuard .eql 5 (.tmp 18) (.const (.int .u8 (48))) x y; binOp .eql 5 x y) (.tmp 18) (.const (.int .u8 (48))) (.int .u8 (((ld n2)).toNat : Int)) (.int .u8 (48)) (.bool true) (fun _ => rfl) rfl rfl (eq5r h48 _ _ _) rfl ?_
      refine w_nil ?_
      refine xn_then ?_
      refine w_condT rfl ?_
      refine w_skip ?_
      refine xn_then ?_
      refine w_block ?_
      refine w_reg ?_
      refine wl_mv (.tmp 3) (tx ((ptx b (n2 / 10) m) ++ [(ld n2)])) (fun _ => rfl) e3 rfl ?_
      refine wl_mv (.tmp 3) (tx ((ptx b (n2 / 10) m) ++ [(ld n2)])) (fun _ => rfl) e3 rfl ?_
      refine wl_val (.int .i64 (((ptx b (n2 / 10) m) ++ [(ld n2)]).length)) (len_tx _ _ ((ptx b (n2 / 10) m) ++ [(ld n2)]) (by exact rfl) _ _ _ _ _ _) rfl ?_
      refine wl_bin (fun x y => do eqGuard .sub 3 (.tmp 22) (.const (.int .i64 (1))) x y; binOp .sub 3 x y) (.tmp 22) (.const (.int .i64 (1))) (.int .i64 (((ptx b (n2 / 10) m) ++ [(ld n2)]).length)) (.int .i64 (1)) (.int .i64 (((ptx b (n2 / 10) m).length : Int))) (fun _ => rfl) rfl rfl (sub1_sn (ptx b (n2 / 10) m) (ld n2) hlen _ _ _) rfl ?_
      refine wl_val (tx (ptx b (n2 / 10) m)) (hi_sn _ _ _ (ptx b (n2 / 10) m) (ld n2) (by exact rfl) (by exact rfl) _ _ _ _ _ _) rfl ?_
      refine wl_mv (.tmp 24) (tx (ptx b (n2 / 10) m)) (fun _ => rfl) rfl rfl ?_
      refine w_nil ?_
      refine xn_blk ?_
      exact xn_loop m (by omega) ⟨n2 / 10, rfl, by rw [← ht, trN, if_pos hz], by omega, by omega, by omega, M⟩
    · have h48 : (((ld n2).toNat : Int) == 48) = false := by rw [ld_d]; exact beq_eq_false_iff_ne.2 (by omega)
      have h46 : (((ld n2).toNat : Int) == 46) = false := by rw [ld_d]; exact beq_eq_false_iff_ne.2 (by omega)
      have e5 := ptx_k b n2 (m + 1) (by omega)
      refine w_seq ?_
      refine w_seq ?_
      refine w_reg ?_
      refine wl_mv (.tmp 3) (tx ((ptx b (n2 / 10) m) ++ [(ld n2)])) (fun _ => rfl) e3 rfl ?_
      refine wl_mv (.tmp 3) (tx ((ptx b (n2 / 10) m) ++ [(ld n2)])) (fun _ => rfl) e3 rfl ?_
      refine wl_val (.int .i64 (((ptx b (n2 / 10) m) ++ [(ld n2)]).length)) (len_tx _ _ ((ptx b (n2 / 10) m) ++ [(ld n2)]) (by exact rfl) _ _ _ _ _ _) rfl ?_
      refine wl_bin (fun x y => do eqGuard .sub 3 (.tmp 16) (.const (.int .i64 (1))) x y; binOp .sub 3 x y) (.tmp 16) (.const (.int .i64 (1))) (.int .i64 (((ptx b (n2 / 10) m) ++ [(ld n2)]).length)) (.int .i64 (1)) (.int .i64 (((ptx b (n2 / 10) m).length : Int))) (fun _ => rfl) rfl rfl (sub1_sn (ptx b (n2 / 10) m) (ld n2) hlen _ _ _) rfl ?_
      refine wl_bin (fun x y => Instr.index 9 x y) (.tmp 14) (.tmp 17) (tx ((ptx b (n2 / 10) m) ++ [(ld n2)])) (.int .i64 (((ptx b (n2 / 10) m).length : Int))) (.int .u8 (((ld n2)).toNat : Int)) (fun _ => rfl) rfl rfl (idx_sn (ptx b (n2 / 10) m) (ld n2) _) rfl ?_
      refine wl_bin (fun x y => do eqGuard .eql 5 (.tmp 18) (.const (.int .u8 (48))) x y; binOp .eql 5 x y) (.tmp 18) (.const (.int .u8 (48))) (.int .u8 (((ld n2)).toNat : Int)) (.int .u8 (48)) (.bool false) (fun _ => rfl) rfl rfl (eq5r h48 _ _ _) rfl ?_
      refine w_nil ?_
      refine xn_then ?_
      refine w_condF rfl ?_
      refine w_exit ?_
      refine xx_then ?_
      refine xx_then ?_
      refine xx_blk ?_
      refine xn_then ?_
      refine w_seq ?_
      refine w_seq ?_
      refine w_reg ?_
      refine wl_mv (.tmp 3) (tx ((ptx b (n2 / 10) m) ++ [(ld n2)])) (fun _ => rfl) e3 rfl ?_
      refine wl_mv (.tmp 3) (tx ((ptx b (n2 / 10) m) ++ [(ld n2)])) (fun _ => rfl) e3 rfl ?_
      refine wl_val (.int .i64 (((ptx b (n2 / 10) m) ++ [(ld n2)]).length)) (len_tx _ _ ((ptx b (n2 / 10) m) ++ [(ld n2)]) (by exact rfl) _ _ _ _ _ _) rfl ?_
      refine wl_bin (fun x y => do eqGuard .sub 3 (.tmp 27) (.const (.int .i64 (1))) x y; binOp .sub 3 x y) (.tmp 27) (.const (.int .i64 (1))) (.int .i64 (((ptx b (n2 / 10) m) ++ [(ld n2)]).length)) (.int .i64 (1)) (.int .i64 (((ptx b (n2 / 10) m).length : Int))) (fun _ => rfl) rfl rfl (sub1_sn (ptx b (n2 / 10) m) (ld n2) hlen _ _ _) rfl ?_
      refine wl_bin (fun x y => Instr.index 9 x y) (.tmp 25) (.tmp 28) (tx ((ptx b (n2 / 10) m) ++ [(ld n2)])) (.int .i64 (((ptx b (n2 / 10) m).length : Int))) (.int .u8 (((ld n2)).toNat : Int)) (fun _ => rfl) rfl rfl (idx_sn (ptx b (n2 / 10) m) (ld n2) _) rfl ?_
      refine wl_bin (fun x y => do eqGuard .eql 5 (.tmp 29) (.const (.int .u8 (46))) x y; binOp .eql 5 x y) (.tmp 29) (.const (.int .u8 (46))) (.int .u8 (((ld n2)).toNat : Int)) (.int .u8 (46)) (.bool false) (fun _ => rfl) rfl rfl (eq5r h46 _ _ _) rfl ?_
      refine w_nil ?_
      refine xn_then ?_
      refine w_condF rfl ?_
      refine w_skip ?_
      refine xn_then ?_
      refine w_seq ?_
      refine w_reg ?_
      refine wl_mv (.tmp 3) (tx ((ptx b (n2 / 10) m) ++ [(ld n2)])) (fun _ => rfl) e3 rfl ?_
      refine wl_mv (.tmp 36) (tx ((ptx b (n2 / 10) m) ++ [(ld n2)])) (fun _ => rfl) rfl rfl ?_
      refine w_nil ?_
      refine xn_then ?_
      refine w_ret ?_
      exact w_ret1 _ (tx ((ptx b (n2 / 10) m) ++ [(ld n2)])) rfl rfl ⟨by rw [← e4, e5, ← ht, trN, if_neg hz], M⟩
theorem rsh_ok (b : Bool) (n : Int) (k : Nat) (w : World) (hn0 : 0 ≤ n) (hnM : n < MM) (hk18 : k ≤ 18) (hck : ck b n (k : Int) = 0) : Calls Tryd.prog 12 #[dc b n (k : Int)] w fun e w' => e = .returned (tx (V.txt b (trN k n).1 (trN k n).2)) ∧ Mo w w' := by
  by_cases h : k = 0
  · subst h; exact rsh_0 b n w hn0 hnM hck
  · exact rsh_k b n k w h hn0 hnM hk18 hck
end Go.Proofs.YtdcojpbgijkmgaaDoor
/-
  exciselaw03.DectextTexts, whatever the number.
-/
namespace Go.Proofs.YtdcojpbgijkmgaaDoor.V
open Go.RowKit Go.Lib
theorem dtexts_ok (b : Bool) (n : Int) (k : Nat) (w : World) (hn0 : 0 ≤ n) (hnM : n < MM) (hk18 : k ≤ 18) (hck : ck b n (k : Int) = 0) : Calls Tryd.prog 3 #[dc b n (k : Int)] w fun e w' => e = .returned (.bool true) ∧ Mw w w' := by
  refine w_enter 18 Tryd.func3 Tryd.ntmps3 rfl rfl ?_
  have M : Mw w w := Mw.refl _
  refine w_seq ?_
  refine w_reg ?_
  refine wl_box 26 (.tmp 0) (.agg #[.bool b, .int .u64 (l0 (n)), .int .u64 (l1 (n)), .int .u64 (l2 (n)), .int .u64 (l3 (n)), .int .i64 ((k : Int))]) (#[.bool b, .int .u64 (l0 (n)), .int .u64 (l1 (n)), .int .u64 (l2 (n)), .int .u64 (l3 (n)), .int .i64 ((k : Int))]) rfl rfl (fun _ => by kernel_rfl) rfl ?_
  intro k1 w1 hk hz hq Q1
  have N_k1 : w.heap.size ≤ k1 := by have := M.size; omega
  replace M := M.trans hq
  clear hk hz hq
  refine wl_mv (.const (.bool false)) (.bool false) (fun _ => rfl) rfl rfl ?_
  refine w_nil ?_
  refine xn_then ?_
  refine w_seq ?_
  refine w_any 12 [.inl (.bool true), .inl (.bool true), .inl (.agg #[.bool b, .int .u64 (l0 (n)), .int .u64 (l1 (n)), .int .u64 (l2 (n)), .int .u64 (l3 (n)), .int .i64 ((k : Int))]), .inl (tx (txt b n k)), .inl (.agg #[.bool b, .int .u64 (l0 (n)), .int .u64 (l1 (n)), .int .u64 (l2 (n)), .int .u64 (l3 (n)), .int .i64 ((k : Int))]), .inl (tx (txt b n k)), .inl (.bool true), .inl (.bool true), .inl (.bool true), .inl (.agg #[.bool b, .int .u64 (l0 (n)), .int .u64 (l1 (n)), .int .u64 (l2 (n)), .int .u64 (l3 (n)), .int .i64 ((k : Int))]), .inl (tx (txt b (trN k n).1 (trN k n).2)), .inl (.agg #[.bool b, .int .u64 (l0 (n)), .int .u64 (l1 (n)), .int .u64 (l2 (n)), .int .u64 (l3 (n)), .int .i64 ((k : Int))])] [] (by kernel_rfl) (by kernel_rfl) (by kernel_rfl) (by kernel_rfl) rfl (by kernel_rfl) (by kernel_rfl) late_nil ?_ ?_ ?_
  · exact Ds.none rfl
  · refine ea_cons ?_ (ea_cons ?_ (ea_cons ?_ (ea_cons ?_ (ea_cons ?_ (ea_cons ?_ (ea_cons ?_ (ea_cons ?_ (ea_cons ?_ (ea_cons ?_ (ea_cons ?_ (ea_cons ?_ (ea_nil))))))))))))
    · exact og_eq (.bool true) rfl (fun f wf hq hd K hK => go_run rfl (wo_call 8 [] _ [] (.bool true) rfl rfl (fun _ _ => by kernel_rfl) (live_n _) hK))
    · exact og_eq (.bool true) rfl (fun f wf hq hd K hK => go_run rfl (wo_mv (.tmp 3) (.bool true) (fun _ => rfl) (hd 0 rfl) (hK _ (Mw.refl _))))
    · exact og_eq (.agg #[.bool b, .int .u64 (l0 (n)), .int .u64 (l1 (n)), .int .u64 (l2 (n)), .int .u64 (l3 (n)), .int .i64 ((k : Int))]) rfl (fun f wf hq hd K hK => have Q1 := Q1.mo hq; go_run (wnt_g rfl rfl rfl (hd 1 rfl) rfl) (wo_load 26 (.tmp 1) (pt k1 0) (.agg #[.bool b, .int .u64 (l0 (n)), .int .u64 (l1 (n)), .int .u64 (l2 (n)), .int .u64 (l3 (n)), .int .i64 ((k : Int))]) rfl rfl (run_row Q1 26 0 6 [.bool b, .int .u64 (l0 (n)), .int .u64 (l1 (n)), .int .u64 (l2 (n)), .int .u64 (l3 (n)), .int .i64 ((k : Int))] rfl Tryd.underlying26 rfl sz26) (hK _ (Mw.refl _))))
    · exact og_eq (tx (txt b n k)) rfl (fun f wf hq hd K hK => go_run (wnt_g rfl rfl rfl (hd 1 rfl) rfl) (wo_call 9 [(.tmp 5)] _ [.agg #[.bool b, .int .u64 (l0 (n)), .int .u64 (l1 (n)), .int .u64 (l2 (n)), .int .u64 (l3 (n)), .int .i64 ((k : Int))]] (tx (txt b n k)) rfl (li1 (hd 2 rfl)) (fun _ _ => by kernel_rfl) (text_ok b n k _ hn0 hnM hk18 hck) hK))
    · exact og_eq (.agg #[.bool b, .int .u64 (l0 (n)), .int .u64 (l1 (n)), .int .u64 (l2 (n)), .int .u64 (l3 (n)), .int .i64 ((k : Int))]) rfl (fun f wf hq hd K hK => have Q1 := Q1.mo hq; go_run (wnt_g rfl rfl rfl (hd 1 rfl) rfl) (wo_load 26 (.tmp 1) (pt k1 0) (.agg #[.bool b, .int .u64 (l0 (n)), .int .u64 (l1 (n)), .int .u64 (l2 (n)), .int .u64 (l3 (n)), .int .i64 ((k : Int))]) rfl rfl (run_row Q1 26 0 6 [.bool b, .int .u64 (l0 (n)), .int .u64 (l1 (n)), .int .u64 (l2 (n)), .int .u64 (l3 (n)), .int .i64 ((k : Int))] rfl Tryd.underlying26 rfl sz26) (hK _ (Mw.refl _))))
    · exact og_eq (tx (txt b n k)) rfl (fun f wf hq hd K hK => go_run (wnt_g rfl rfl rfl (hd 1 rfl) rfl) (wo_call 10 [(.tmp 7)] _ [.agg #[.bool b, .int .u64 (l0 (n)), .int .u64 (l1 (n)), .int .u64 (l2 (n)), .int .u64 (l3 (n)), .int .i64 ((k : Int))]] (tx (txt b n k)) rfl (li1 (hd 4 rfl)) (fun _ _ => by kernel_rfl) (wk (rtx_ok b n k _ hn0 hnM hk18 hck)) hK))
    · exact og_eq (.bool true) rfl (fun f wf hq hd K hK => go_run (wnt_g rfl rfl rfl (hd 1 rfl) rfl) (wo_bin (fun x y => do eqGuard .eql 9 (.tmp 6) (.tmp 8) x y; binOp .eql 9 x y) (.tmp 6) (.tmp 8) (tx (txt b n k)) (tx (txt b n k)) (.bool true) (fun _ => rfl) (hd 3 rfl) (hd 5 rfl) (eqS_run _ _ _ _) (hK _ (Mw.refl _))))
    · exact og_eq (.bool true) rfl (fun f wf hq hd K hK => go_run rfl (wo_pick (.tmp 4) (.tmp 9) (.const (.bool false)) true (.bool true) (fun _ => rfl) (hd 1 rfl) (hd 6 rfl) (hK _ (Mw.refl _))))
    · exact og_eq (.bool true) rfl (fun f wf hq hd K hK => go_run rfl (wo_mv (.tmp 10) (.bool true) (fun _ => rfl) (hd 7 rfl) (hK _ (Mw.refl _))))
    · exact og_eq (.agg #[.bool b, .int .u64 (l0 (n)), .int .u64 (l1 (n)), .int .u64 (l2 (n)), .int .u64 (l3 (n)), .int .i64 ((k : Int))]) rfl (fun f wf hq hd K hK => have Q1 := Q1.mo hq; go_run (wnt_g rfl rfl rfl (hd 8 rfl) rfl) (wo_load 26 (.tmp 1) (pt k1 0) (.agg #[.bool b, .int .u64 (l0 (n)), .int .u64 (l1 (n)), .int .u64 (l2 (n)), .int .u64 (l3 (n)), .int .i64 ((k : Int))]) rfl rfl (run_row Q1 26 0 6 [.bool b, .int .u64 (l0 (n)), .int .u64 (l1 (n)), .int .u64 (l2 (n)), .int .u64 (l3 (n)), .int .i64 ((k : Int))] rfl Tryd.underlying26 rfl sz26) (hK _ (Mw.refl _))))
    · exact og_eq (tx (txt b (trN k n).1 (trN k n).2)) rfl (fun f wf hq hd K hK => go_run (wnt_g rfl rfl rfl (hd 8 rfl) rfl) (wo_call 11 [(.tmp 12)] _ [.agg #[.bool b, .int .u64 (l0 (n)), .int .u64 (l1 (n)), .int .u64 (l2 (n)), .int .u64 (l3 (n)), .int .i64 ((k : Int))]] (tx (txt b (trN k n).1 (trN k n).2)) rfl (li1 (hd 9 rfl)) (fun _ _ => by kernel_rfl) (short_ok b n k _ hn0 hnM hk18 hck) hK))
    · exact og_eq (.agg #[.bool b, .int .u64 (l0 (n)), .int .u64 (l1 (n)), .int .u64 (l2 (n)), .int .u64 (l3 (n)), .int .i64 ((k : Int))]) rfl (fun f wf hq hd K hK => have Q1 := Q1.mo hq; go_run (wnt_g rfl rfl rfl (hd 8 rfl) rfl) (wo_load 26 (.tmp 1) (pt k1 0) (.agg #[.bool b, .int .u64 (l0 (n)), .int .u64 (l1 (n)), .int .u64 (l2 (n)), .int .u64 (l3 (n)), .int .i64 ((k : Int))]) rfl rfl (run_row Q1 26 0 6 [.bool b, .int .u64 (l0 (n)), .int .u64 (l1 (n)), .int .u64 (l2 (n)), .int .u64 (l3 (n)), .int .i64 ((k : Int))] rfl Tryd.underlying26 rfl sz26) (hK _ (Mw.refl _))))
  intro kf2 w2 hq hR hne
  replace Q1 := Q1.mo hq
  replace M := M.trans hq
  clear hq hR hne
  refine wl_call 12 [(.tmp 14)] _ [.agg #[.bool b, .int .u64 (l0 (n)), .int .u64 (l1 (n)), .int .u64 (l2 (n)), .int .u64 (l3 (n)), .int .i64 ((k : Int))]] (tx (txt b (trN k n).1 (trN k n).2)) rfl rfl (fun _ _ => by kernel_rfl) (wk (rsh_ok b n k _ hn0 hnM hk18 hck)) rfl ?_
  intro w3 hq
  replace Q1 := Q1.mo hq
  replace M := M.trans hq
  clear hq
  refine wl_bin (fun x y => do eqGuard .eql 9 (.tmp 13) (.tmp 15) x y; binOp .eql 9 x y) (.tmp 13) (.tmp 15) (tx (txt b (trN k n).1 (trN k n).2)) (tx (txt b (trN k n).1 (trN k n).2)) (.bool true) (fun _ => rfl) rfl rfl (eqS_run _ _ _ _) rfl ?_
  refine wl_pick (.tmp 11) (.tmp 16) (.const (.bool false)) true (.bool true) (fun _ => rfl) rfl rfl rfl ?_
  refine wl_mv (.tmp 17) (.bool true) (fun _ => rfl) rfl rfl ?_
  refine w_nil ?_
  refine xn_then ?_
  refine w_ret ?_
  exact w_ret1 _ (.bool true) rfl rfl ⟨rfl, M⟩
theorem dtexts_no (b : Bool) (n s0 : Int) (w : World) (hn0 : 0 ≤ n) (hnM : n < MM) (hck : ck b n s0 ≠ 0) : Calls Tryd.prog 3 #[dc b n s0] w fun e w' => e = .returned (.bool true) ∧ Mw w w' := by
  refine w_enter 18 Tryd.func3 Tryd.ntmps3 rfl rfl ?_
  have M : Mw w w := Mw.refl _
  refine w_seq ?_
  refine w_reg ?_
  refine wl_box 26 (.tmp 0) (.agg #[.bool b, .int .u64 (l0 (n)), .int .u64 (l1 (n)), .int .u64 (l2 (n)), .int .u64 (l3 (n)), .int .i64 (s0)]) (#[.bool b, .int .u64 (l0 (n)), .int .u64 (l1 (n)), .int .u64 (l2 (n)), .int .u64 (l3 (n)), .int .i64 (s0)]) rfl rfl (fun _ => by kernel_rfl) rfl ?_
  intro k1 w1 hk hz hq Q1
  have N_k1 : w.heap.size ≤ k1 := by have := M.size; omega
  replace M := M.trans hq
  clear hk hz hq
  refine wl_mv (.const (.bool false)) (.bool false) (fun _ => rfl) rfl rfl ?_
  refine w_nil ?_
  refine xn_then ?_
  refine w_seq ?_
  refine w_any 12 [.inl (.bool true), .inl (.bool true), .inl (.agg #[.bool b, .int .u64 (l0 (n)), .int .u64 (l1 (n)), .int .u64 (l2 (n)), .int .u64 (l3 (n)), .int .i64 (s0)]), .inl (.string ⟨#[63]⟩), .inl (.agg #[.bool b, .int .u64 (l0 (n)), .int .u64 (l1 (n)), .int .u64 (l2 (n)), .int .u64 (l3 (n)), .int .i64 (s0)]), .inl (.string ⟨#[63]⟩), .inl (.bool true), .inl (.bool true), .inl (.bool true), .inl (.agg #[.bool b, .int .u64 (l0 (n)), .int .u64 (l1 (n)), .int .u64 (l2 (n)), .int .u64 (l3 (n)), .int .i64 (s0)]), .inl (.string ⟨#[63]⟩), .inl (.agg #[.bool b, .int .u64 (l0 (n)), .int .u64 (l1 (n)), .int .u64 (l2 (n)), .int .u64 (l3 (n)), .int .i64 (s0)])] [] (by kernel_rfl) (by kernel_rfl) (by kernel_rfl) (by kernel_rfl) rfl (by kernel_rfl) (by kernel_rfl) late_nil ?_ ?_ ?_
  · exact Ds.none rfl
  · refine ea_cons ?_ (ea_cons ?_ (ea_cons ?_ (ea_cons ?_ (ea_cons ?_ (ea_cons ?_ (ea_cons ?_ (ea_cons ?_ (ea_cons ?_ (ea_cons ?_ (ea_cons ?_ (ea_cons ?_ (ea_nil))))))))))))
    · exact og_eq (.bool true) rfl (fun f wf hq hd K hK => go_run rfl (wo_call 8 [] _ [] (.bool true) rfl rfl (fun _ _ => by kernel_rfl) (live_n _) hK))
    · exact og_eq (.bool true) rfl (fun f wf hq hd K hK => go_run rfl (wo_mv (.tmp 3) (.bool true) (fun _ => rfl) (hd 0 rfl) (hK _ (Mw.refl _))))
    · exact og_eq (.agg #[.bool b, .int .u64 (l0 (n)), .int .u64 (l1 (n)), .int .u64 (l2 (n)), .int .u64 (l3 (n)), .int .i64 (s0)]) rfl (fun f wf hq hd K hK => have Q1 := Q1.mo hq; go_run (wnt_g rfl rfl rfl (hd 1 rfl) rfl) (wo_load 26 (.tmp 1) (pt k1 0) (.agg #[.bool b, .int .u64 (l0 (n)), .int .u64 (l1 (n)), .int .u64 (l2 (n)), .int .u64 (l3 (n)), .int .i64 (s0)]) rfl rfl (run_row Q1 26 0 6 [.bool b, .int .u64 (l0 (n)), .int .u64 (l1 (n)), .int .u64 (l2 (n)), .int .u64 (l3 (n)), .int .i64 (s0)] rfl Tryd.underlying26 rfl sz26) (hK _ (Mw.refl _))))
    · exact og_eq (.string ⟨#[63]⟩) rfl (fun f wf hq hd K hK => go_run (wnt_g rfl rfl rfl (hd 1 rfl) rfl) (wo_call 9 [(.tmp 5)] _ [.agg #[.bool b, .int .u64 (l0 (n)), .int .u64 (l1 (n)), .int .u64 (l2 (n)), .int .u64 (l3 (n)), .int .i64 (s0)]] (.string ⟨#[63]⟩) rfl (li1 (hd 2 rfl)) (fun _ _ => by kernel_rfl) (text_no b n s0 _ hn0 hnM hck) hK))
    · exact og_eq (.agg #[.bool b, .int .u64 (l0 (n)), .int .u64 (l1 (n)), .int .u64 (l2 (n)), .int .u64 (l3 (n)), .int .i64 (s0)]) rfl (fun f wf hq hd K hK => have Q1 := Q1.mo hq; go_run (wnt_g rfl rfl rfl (hd 1 rfl) rfl) (wo_load 26 (.tmp 1) (pt k1 0) (.agg #[.bool b, .int .u64 (l0 (n)), .int .u64 (l1 (n)), .int .u64 (l2 (n)), .int .u64 (l3 (n)), .int .i64 (s0)]) rfl rfl (run_row Q1 26 0 6 [.bool b, .int .u64 (l0 (n)), .int .u64 (l1 (n)), .int .u64 (l2 (n)), .int .u64 (l3 (n)), .int .i64 (s0)] rfl Tryd.underlying26 rfl sz26) (hK _ (Mw.refl _))))
    · exact og_eq (.string ⟨#[63]⟩) rfl (fun f wf hq hd K hK => go_run (wnt_g rfl rfl rfl (hd 1 rfl) rfl) (wo_call 10 [(.tmp 7)] _ [.agg #[.bool b, .int .u64 (l0 (n)), .int .u64 (l1 (n)), .int .u64 (l2 (n)), .int .u64 (l3 (n)), .int .i64 (s0)]] (.string ⟨#[63]⟩) rfl (li1 (hd 4 rfl)) (fun _ _ => by kernel_rfl) (wk (rtx_no b n s0 _ hn0 hnM hck)) hK))
    · exact og_eq (.bool true) rfl (fun f wf hq hd K hK => go_run (wnt_g rfl rfl rfl (hd 1 rfl) rfl) (wo_bin (fun x y => do eqGuard .eql 9 (.tmp 6) (.tmp 8) x y; binOp .eql 9 x y) (.tmp 6) (.tmp 8) (.string ⟨#[63]⟩) (.string ⟨#[63]⟩) (.bool true) (fun _ => rfl) (hd 3 rfl) (hd 5 rfl) (eqS_run _ _ _ _) (hK _ (Mw.refl _))))
    · exact og_eq (.bool true) rfl (fun f wf hq hd K hK => go_run rfl (wo_pick (.tmp 4) (.tmp 9) (.const (.bool false)) true (.bool true) (fun _ => rfl) (hd 1 rfl) (hd 6 rfl) (hK _ (Mw.refl _))))
    · exact og_eq (.bool true) rfl (fun f wf hq hd K hK => go_run rfl (wo_mv (.tmp 10) (.bool true) (fun _ => rfl) (hd 7 rfl) (hK _ (Mw.refl _))))
    · exact og_eq (.agg #[.bool b, .int .u64 (l0 (n)), .int .u64 (l1 (n)), .int .u64 (l2 (n)), .int .u64 (l3 (n)), .int .i64 (s0)]) rfl (fun f wf hq hd K hK => have Q1 := Q1.mo hq; go_run (wnt_g rfl rfl rfl (hd 8 rfl) rfl) (wo_load 26 (.tmp 1) (pt k1 0) (.agg #[.bool b, .int .u64 (l0 (n)), .int .u64 (l1 (n)), .int .u64 (l2 (n)), .int .u64 (l3 (n)), .int .i64 (s0)]) rfl rfl (run_row Q1 26 0 6 [.bool b, .int .u64 (l0 (n)), .int .u64 (l1 (n)), .int .u64 (l2 (n)), .int .u64 (l3 (n)), .int .i64 (s0)] rfl Tryd.underlying26 rfl sz26) (hK _ (Mw.refl _))))
    · exact og_eq (.string ⟨#[63]⟩) rfl (fun f wf hq hd K hK => go_run (wnt_g rfl rfl rfl (hd 8 rfl) rfl) (wo_call 11 [(.tmp 12)] _ [.agg #[.bool b, .int .u64 (l0 (n)), .int .u64 (l1 (n)), .int .u64 (l2 (n)), .int .u64 (l3 (n)), .int .i64 (s0)]] (.string ⟨#[63]⟩) rfl (li1 (hd 9 rfl)) (fun _ _ => by kernel_rfl) (short_no b n s0 _ hn0 hnM hck) hK))
    · exact og_eq (.agg #[.bool b, .int .u64 (l0 (n)), .int .u64 (l1 (n)), .int .u64 (l2 (n)), .int .u64 (l3 (n)), .int .i64 (s0)]) rfl (fun f wf hq hd K hK => have Q1 := Q1.mo hq; go_run (wnt_g rfl rfl rfl (hd 8 rfl) rfl) (wo_load 26 (.tmp 1) (pt k1 0) (.agg #[.bool b, .int .u64 (l0 (n)), .int .u64 (l1 (n)), .int .u64 (l2 (n)), .int .u64 (l3 (n)), .int .i64 (s0)]) rfl rfl (run_row Q1 26 0 6 [.bool b, .int .u64 (l0 (n)), .int .u64 (l1 (n)), .int .u64 (l2 (n)), .int .u64 (l3 (n)), .int .i64 (s0)] rfl Tryd.underlying26 rfl sz26) (hK _ (Mw.refl _))))
  intro kf2 w2 hq hR hne
  replace Q1 := Q1.mo hq
  replace M := M.trans hq
  clear hq hR hne
  refine wl_call 12 [(.tmp 14)] _ [.agg #[.bool b, .int .u64 (l0 (n)), .int .u64 (l1 (n)), .int .u64 (l2 (n)), .int .u64 (l3 (n)), .int .i64 (s0)]] (.string ⟨#[63]⟩) rfl rfl (fun _ _ => by kernel_rfl) (wk (rsh_no b n s0 _ hn0 hnM hck)) rfl ?_
  intro w3 hq
  replace Q1 := Q1.mo hq
  replace M := M.trans hq
  clear hq
  refine wl_bin (fun x y => do eqGuard .eql 9 (.tmp 13) (.tmp 15) x y; binOp .eql 9 x y) (.tmp 13) (.tmp 15) (.string ⟨#[63]⟩) (.string ⟨#[63]⟩) (.bool true) (fun _ => rfl) rfl rfl (eqS_run _ _ _ _) rfl ?_
  refine wl_pick (.tmp 11) (.tmp 16) (.const (.bool false)) true (.bool true) (fun _ => rfl) rfl rfl rfl ?_
  refine wl_mv (.tmp 17) (.bool true) (fun _ => rfl) rfl rfl ?_
  refine w_nil ?_
  refine xn_then ?_
  refine w_ret ?_
  exact w_ret1 _ (.bool true) rfl rfl ⟨rfl, M⟩
theorem dtexts_n (b : Bool) (n s0 : Int) (w : World) (hn0 : 0 ≤ n) (hnM : n < MM) : Calls Tryd.prog 3 #[dc b n s0] w fun e w' => e = .returned (.bool true) ∧ Mw w w' := by
  by_cases h : ck b n s0 = 0
  · have h2 : 0 ≤ s0 ∧ s0 ≤ 18 := by
      by_cases q : sc s0 = true
      · exact sc_iff.1 q
      · exfalso
        have q' : sc s0 = false := by simpa using q
        unfold ck at h
        rw [q'] at h
        simp at h
    obtain ⟨k, rfl⟩ : ∃ k : Nat, s0 = (k : Int) := ⟨s0.toNat, by omega⟩
    exact dtexts_ok b n k w hn0 hnM (by omega) h
  · exact dtexts_no b n s0 w hn0 hnM h
end Go.Proofs.YtdcojpbgijkmgaaDoor.V
/-
  exciselaw03.DectextApart, as far as its walk.
-/
namespace Go.Proofs.YtdcojpbgijkmgaaDoor.V
open Go.RowKit Go.Lib
theorem eqs_run {l l2 : List UInt8} {r : Bool} (h : (l == l2) = r) (x y : Operand) (w : World) : (do eqGuard .eql 9 x y (tx l) (tx l2); binOp .eql 9 (tx l) (tx l2)).run Tryd.prog w = .ok (.bool r) w := by
  subst h
  have e1 : (⟨l.toArray⟩ : ByteArray).toList = l := by rw [ByteArray.toList_eq]
  have e2 : (⟨l2.toArray⟩ : ByteArray).toList = l2 := by rw [ByteArray.toList_eq]
  rw [← e1, ← e2]
  unfold tx
  rw [e1, e2]
  generalize ha : (⟨l.toArray⟩ : ByteArray) = s at *
  generalize hb : (⟨l2.toArray⟩ : ByteArray) = s2 at *
  simp [go_sem, e1, e2]
theorem eqb_run (r : Bool) (x y : Operand) (w : World) : (do eqGuard .eql 4 x y (.bool r) (.bool r); binOp .eql 4 (.bool r) (.bool r)).run Tryd.prog w = .ok (.bool true) w := by
  cases r <;> kernel_rfl
theorem dapart_no1 (b c : Bool) (n m s0 t0 : Int) (w : World) (hn0 : 0 ≤ n) (hnM : n < MM) (h1 : ck b n s0 ≠ 0) : Calls Tryd.prog 7 #[dc b n s0, dc c m t0] w fun e w' => e = .returned (.bool true) ∧ Mw w w' := by
  refine w_enter 39 Tryd.func7 Tryd.ntmps7 rfl rfl ?_
  have M : Mw w w := Mw.refl _
  refine w_seq ?_
  refine w_reg ?_
  refine wl_box 26 (.tmp 0) (.agg #[.bool b, .int .u64 (l0 (n)), .int .u64 (l1 (n)), .int .u64 (l2 (n)), .int .u64 (l3 (n)), .int .i64 (s0)]) (#[.bool b, .int .u64 (l0 (n)), .int .u64 (l1 (n)), .int .u64 (l2 (n)), .int .u64 (l3 (n)), .int .i64 (s0)]) rfl rfl (fun _ => by kernel_rfl) rfl ?_
  intro k1 w1 hk hz hq Q1
  have N_k1 : w.heap.size ≤ k1 := by have := M.size; omega
  replace M := M.trans hq
  clear hk hz hq
  refine wl_box 26 (.tmp 1) (.agg #[.bool c, .int .u64 (l0 (m)), .int .u64 (l1 (m)), .int .u64 (l2 (m)), .int .u64 (l3 (m)), .int .i64 (t0)]) (#[.bool c, .int .u64 (l0 (m)), .int .u64 (l1 (m)), .int .u64 (l2 (m)), .int .u64 (l3 (m)), .int .i64 (t0)]) rfl rfl (fun _ => by kernel_rfl) rfl ?_
  intro k2 w2 hk hz hq Q2
  have ne_k1_k2 : k1 ≠ k2 := by have := Q1.lt; omega
  have N_k2 : w.heap.size ≤ k2 := by have := M.size; omega
  replace Q1 := Q1.mo hq
  replace M := M.trans hq
  clear hk hz hq
  refine wl_mv (.const (.bool false)) (.bool false) (fun _ => rfl) rfl rfl ?_
  refine w_nil ?_
  refine xn_then ?_
  refine w_seq ?_
  refine w_seq ?_
  refine w_reg ?_
  refine wl_load 26 (.tmp 2) (pt k1 0) (.agg #[.bool b, .int .u64 (l0 (n)), .int .u64 (l1 (n)), .int .u64 (l2 (n)), .int .u64 (l3 (n)), .int .i64 (s0)]) rfl rfl (run_row Q1 26 0 6 [.bool b, .int .u64 (l0 (n)), .int .u64 (l1 (n)), .int .u64 (l2 (n)), .int .u64 (l3 (n)), .int .i64 (s0)] rfl Tryd.underlying26 rfl sz26) rfl ?_
  refine wl_call 19 [(.tmp 5)] _ [.agg #[.bool b, .int .u64 (l0 (n)), .int .u64 (l1 (n)), .int .u64 (l2 (n)), .int .u64 (l3 (n)), .int .i64 (s0)]] (.int .i64 (20)) rfl rfl (fun _ _ => by kernel_rfl) (wk (rcheck_no b n s0 _ hn0 hnM h1)) rfl ?_
  intro w3 hq
  replace Q1 := Q1.mo hq
  replace Q2 := Q2.mo hq
  replace M := M.trans hq
  clear hq
  refine wl_bin (fun x y => do eqGuard .neq 30 (.tmp 6) (.const (.int .i64 (0))) x y; binOp .neq 30 x y) (.tmp 6) (.const (.int .i64 (0))) (.int .i64 (20)) (.int .i64 (0)) (.bool true) (fun _ => rfl) rfl rfl (neE (r := false) rfl _ _ _) rfl ?_
  refine wl_mv (.tmp 7) (.bool true) (fun _ => rfl) rfl rfl ?_
  refine wl_skip rfl ?_
  refine wl_skip rfl ?_
  refine wl_skip rfl ?_
  refine wl_pick (.tmp 8) (.const (.bool true)) (.tmp 11) true (.bool true) (fun _ => rfl) rfl rfl rfl ?_
  refine wl_mv (.tmp 12) (.bool true) (fun _ => rfl) rfl rfl ?_
  refine wl_skip rfl ?_
  refine wl_skip rfl ?_
  refine wl_pick (.tmp 13) (.const (.bool true)) (.tmp 15) true (.bool true) (fun _ => rfl) rfl rfl rfl ?_
  refine w_nil ?_
  refine xn_then ?_
  refine w_condT rfl ?_
  refine w_seq ?_
  refine w_reg ?_
  refine wl_call 8 [] _ [] (.bool true) rfl rfl (fun _ _ => by kernel_rfl) (live_n _) rfl ?_
  intro w4 hq
  replace Q1 := Q1.mo hq
  replace Q2 := Q2.mo hq
  replace M := M.trans hq
  clear hq
  refine wl_mv (.tmp 17) (.bool true) (fun _ => rfl) rfl rfl ?_
  refine w_nil ?_
  refine xn_then ?_
  refine w_ret ?_
  refine xr_then ?_
  exact w_ret1 _ (.bool true) rfl rfl ⟨rfl, M⟩
theorem dapart_no2 (b c : Bool) (n m s0 t0 : Int) (w : World) (hn0 : 0 ≤ n) (hnM : n < MM) (hm0 : 0 ≤ m) (hmM : m < MM) (h1 : ck b n s0 = 0) (h2 : ck c m t0 ≠ 0) : Calls Tryd.prog 7 #[dc b n s0, dc c m t0] w fun e w' => e = .returned (.bool true) ∧ Mw w w' := by
  refine w_enter 39 Tryd.func7 Tryd.ntmps7 rfl rfl ?_
  have M : Mw w w := Mw.refl _
  refine w_seq ?_
  refine w_reg ?_
  refine wl_box 26 (.tmp 0) (.agg #[.bool b, .int .u64 (l0 (n)), .int .u64 (l1 (n)), .int .u64 (l2 (n)), .int .u64 (l3 (n)), .int .i64 (s0)]) (#[.bool b, .int .u64 (l0 (n)), .int .u64 (l1 (n)), .int .u64 (l2 (n)), .int .u64 (l3 (n)), .int .i64 (s0)]) rfl rfl (fun _ => by kernel_rfl) rfl ?_
  intro k1 w1 hk hz hq Q1
  have N_k1 : w.heap.size ≤ k1 := by have := M.size; omega
  replace M := M.trans hq
  clear hk hz hq
  refine wl_box 26 (.tmp 1) (.agg #[.bool c, .int .u64 (l0 (m)), .int .u64 (l1 (m)), .int .u64 (l2 (m)), .int .u64 (l3 (m)), .int .i64 (t0)]) (#[.bool c, .int .u64 (l0 (m)), .int .u64 (l1 (m)), .int .u64 (l2 (m)), .int .u64 (l3 (m)), .int .i64 (t0)]) rfl rfl (fun _ => by kernel_rfl) rfl ?_
  intro k2 w2 hk hz hq Q2
  have ne_k1_k2 : k1 ≠ k2 := by have := Q1.lt; omega
  have N_k2 : w.heap.size ≤ k2 := by have := M.size; omega
  replace Q1 := Q1.mo hq
  replace M := M.trans hq
  clear hk hz hq
  refine wl_mv (.const (.bool false)) (.bool false) (fun _ => rfl) rfl rfl ?_
  refine w_nil ?_
  refine xn_then ?_
  refine w_seq ?_
  refine w_seq ?_
  refine w_reg ?_
  refine wl_load 26 (.tmp 2) (pt k1 0) (.agg #[.bool b, .int .u64 (l0 (n)), .int .u64 (l1 (n)), .int .u64 (l2 (n)), .int .u64 (l3 (n)), .int .i64 (s0)]) rfl rfl (run_row Q1 26 0 6 [.bool b, .int .u64 (l0 (n)), .int .u64 (l1 (n)), .int .u64 (l2 (n)), .int .u64 (l3 (n)), .int .i64 (s0)] rfl Tryd.underlying26 rfl sz26) rfl ?_
  refine wl_call 19 [(.tmp 5)] _ [.agg #[.bool b, .int .u64 (l0 (n)), .int .u64 (l1 (n)), .int .u64 (l2 (n)), .int .u64 (l3 (n)), .int .i64 (s0)]] (.int .i64 (0)) rfl rfl (fun _ _ => by kernel_rfl) (wk (rcheck_ok b n s0 _ hn0 hnM h1)) rfl ?_
  intro w3 hq
  replace Q1 := Q1.mo hq
  replace Q2 := Q2.mo hq
  replace M := M.trans hq
  clear hq
  refine wl_bin (fun x y => do eqGuard .neq 30 (.tmp 6) (.const (.int .i64 (0))) x y; binOp .neq 30 x y) (.tmp 6) (.const (.int .i64 (0))) (.int .i64 (0)) (.int .i64 (0)) (.bool false) (fun _ => rfl) rfl rfl (neE (r := true) rfl _ _ _) rfl ?_
  refine wl_mv (.tmp 7) (.bool false) (fun _ => rfl) rfl rfl ?_
  refine wl_load 26 (.tmp 3) (pt k2 0) (.agg #[.bool c, .int .u64 (l0 (m)), .int .u64 (l1 (m)), .int .u64 (l2 (m)), .int .u64 (l3 (m)), .int .i64 (t0)]) rfl rfl (run_row Q2 26 0 6 [.bool c, .int .u64 (l0 (m)), .int .u64 (l1 (m)), .int .u64 (l2 (m)), .int .u64 (l3 (m)), .int .i64 (t0)] rfl Tryd.underlying26 rfl sz26) rfl ?_
  refine wl_call 19 [(.tmp 9)] _ [.agg #[.bool c, .int .u64 (l0 (m)), .int .u64 (l1 (m)), .int .u64 (l2 (m)), .int .u64 (l3 (m)), .int .i64 (t0)]] (.int .i64 (20)) rfl rfl (fun _ _ => by kernel_rfl) (wk (rcheck_no c m t0 _ hm0 hmM h2)) rfl ?_
  intro w4 hq
  replace Q1 := Q1.mo hq
  replace Q2 := Q2.mo hq
  replace M := M.trans hq
  clear hq
  refine wl_bin (fun x y => do eqGuard .neq 30 (.tmp 10) (.const (.int .i64 (0))) x y; binOp .neq 30 x y) (.tmp 10) (.const (.int .i64 (0))) (.int .i64 (20)) (.int .i64 (0)) (.bool true) (fun _ => rfl) rfl rfl (neE (r := false) rfl _ _ _) rfl ?_
  refine wl_pick (.tmp 8) (.const (.bool true)) (.tmp 11) false (.bool true) (fun _ => rfl) rfl rfl rfl ?_
  refine wl_mv (.tmp 12) (.bool true) (fun _ => rfl) rfl rfl ?_
  refine wl_skip rfl ?_
  refine wl_skip rfl ?_
  refine wl_pick (.tmp 13) (.const (.bool true)) (.tmp 15) true (.bool true) (fun _ => rfl) rfl rfl rfl ?_
  refine w_nil ?_
  refine xn_then ?_
  refine w_condT rfl ?_
  refine w_seq ?_
  refine w_reg ?_
  refine wl_call 8 [] _ [] (.bool true) rfl rfl (fun _ _ => by kernel_rfl) (live_n _) rfl ?_
  intro w5 hq
  replace Q1 := Q1.mo hq
  replace Q2 := Q2.mo hq
  replace M := M.trans hq
  clear hq
  refine wl_mv (.tmp 17) (.bool true) (fun _ => rfl) rfl rfl ?_
  refine w_nil ?_
  refine xn_then ?_
  refine w_ret ?_
  refine xr_then ?_
  exact w_ret1 _ (.bool true) rfl rfl ⟨rfl, M⟩
theorem dapart_ok (b c : Bool) (n m : Int) (k j : Nat) (w : World) (hn0 : 0 ≤ n) (hnM : n < MM) (hm0 : 0 ≤ m) (hmM : m < MM) (hk : k ≤ 18) (hj : j ≤ 18) (h1 : ck b n (k : Int) = 0) (h2 : ck c m (j : Int) = 0) (r q : Bool) (z : Int)
    (hT : (txt b n k == txt c m j) = r) (hE : (b == c && (l0 n == l0 m && (l1 n == l1 m && (l2 n == l2 m && (l3 n == l3 m && (k : Int) == (j : Int)))))) = r)
    (hS : (txt b (trN k n).1 (trN k n).2 == txt c (trN j m).1 (trN j m).2) = q) (hz : (z == 0) = q)
    (hC : ∀ w, Calls Tryd.prog 20 #[dc b n (k : Int), dc c m (j : Int)] w fun e w' => e = .returned (.int .i64 z) ∧ Mw w w') : Calls Tryd.prog 7 #[dc b n (k : Int), dc c m (j : Int)] w fun e w' => e = .returned (.bool true) ∧ Mw w w' := by
  refine w_enter 39 Tryd.func7 Tryd.ntmps7 rfl rfl ?_
  have M : Mw w w := Mw.refl _
  refine w_seq ?_
  refine w_reg ?_
  refine wl_box 26 (.tmp 0) (.agg #[.bool b, .int .u64 (l0 (n)), .int .u64 (l1 (n)), .int .u64 (l2 (n)), .int .u64 (l3 (n)), .int .i64 ((k : Int))]) (#[.bool b, .int .u64 (l0 (n)), .int .u64 (l1 (n)), .int .u64 (l2 (n)), .int .u64 (l3 (n)), .int .i64 ((k : Int))]) rfl rfl (fun _ => by kernel_rfl) rfl ?_
  intro k1 w1 hk hz hq Q1
  have N_k1 : w.heap.size ≤ k1 := by have := M.size; omega
  replace M := M.trans hq
  clear hk hz hq
  refine wl_box 26 (.tmp 1) (.agg #[.bool c, .int .u64 (l0 (m)), .int .u64 (l1 (m)), .int .u64 (l2 (m)), .int .u64 (l3 (m)), .int .i64 ((j : Int))]) (#[.bool c, .int .u64 (l0 (m)), .int .u64 (l1 (m)), .int .u64 (l2 (m)), .int .u64 (l3 (m)), .int .i64 ((j : Int))]) rfl rfl (fun _ => by kernel_rfl) rfl ?_
  intro k2 w2 hk hz hq Q2
  have ne_k1_k2 : k1 ≠ k2 := by have := Q1.lt; omega
  have N_k2 : w.heap.size ≤ k2 := by have := M.size; omega
  replace Q1 := Q1.mo hq
  replace M := M.trans hq
  clear hk hz hq
  refine wl_mv (.const (.bool false)) (.bool false) (fun _ => rfl) rfl rfl ?_
  refine w_nil ?_
  refine xn_then ?_
  refine w_seq ?_
  refine w_seq ?_
  refine w_reg ?_
  refine wl_load 26 (.tmp 2) (pt k1 0) (.agg #[.bool b, .int .u64 (l0 (n)), .int .u64 (l1 (n)), .int .u64 (l2 (n)), .int .u64 (l3 (n)), .int .i64 ((k : Int))]) rfl rfl (run_row Q1 26 0 6 [.bool b, .int .u64 (l0 (n)), .int .u64 (l1 (n)), .int .u64 (l2 (n)), .int .u64 (l3 (n)), .int .i64 ((k : Int))] rfl Tryd.underlying26 rfl sz26) rfl ?_
  refine wl_call 19 [(.tmp 5)] _ [.agg #[.bool b, .int .u64 (l0 (n)), .int .u64 (l1 (n)), .int .u64 (l2 (n)), .int .u64 (l3 (n)), .int .i64 ((k : Int))]] (.int .i64 (0)) rfl rfl (fun _ _ => by kernel_rfl) (wk (rcheck_ok b n (k : Int) _ hn0 hnM h1)) rfl ?_
  intro w3 hq
  replace Q1 := Q1.mo hq
  replace Q2 := Q2.mo hq
  replace M := M.trans hq
  clear hq
  refine wl_bin (fun x y => do eqGuard .neq 30 (.tmp 6) (.const (.int .i64 (0))) x y; binOp .neq 30 x y) (.tmp 6) (.const (.int .i64 (0))) (.int .i64 (0)) (.int .i64 (0)) (.bool false) (fun _ => rfl) rfl rfl (neE (r := true) rfl _ _ _) rfl ?_
  refine wl_mv (.tmp 7) (.bool false) (fun _ => rfl) rfl rfl ?_
  refine wl_load 26 (.tmp 3) (pt k2 0) (.agg #[.bool c, .int .u64 (l0 (m)), .int .u64 (l1 (m)), .int .u64 (l2 (m)), .int .u64 (l3 (m)), .int .i64 ((j : Int))]) rfl rfl (run_row Q2 26 0 6 [.bool c, .int .u64 (l0 (m)), .int .u64 (l1 (m)), .int .u64 (l2 (m)), .int .u64 (l3 (m)), .int .i64 ((j : Int))] rfl Tryd.underlying26 rfl sz26) rfl ?_
  refine wl_call 19 [(.tmp 9)] _ [.agg #[.bool c, .int .u64 (l0 (m)), .int .u64 (l1 (m)), .int .u64 (l2 (m)), .int .u64 (l3 (m)), .int .i64 ((j : Int))]] (.int .i64 (0)) rfl rfl (fun _ _ => by kernel_rfl) (wk (rcheck_ok c m (j : Int) _ hm0 hmM h2)) rfl ?_
  intro w4 hq
  replace Q1 := Q1.mo hq
  replace Q2 := Q2.mo hq
  replace M := M.trans hq
  clear hq
  refine wl_bin (fun x y => do eqGuard .neq 30 (.tmp 10) (.const (.int .i64 (0))) x y; binOp .neq 30 x y) (.tmp 10) (.const (.int .i64 (0))) (.int .i64 (0)) (.int .i64 (0)) (.bool false) (fun _ => rfl) rfl rfl (neE (r := true) rfl _ _ _) rfl ?_
  refine wl_pick (.tmp 8) (.const (.bool true)) (.tmp 11) false (.bool false) (fun _ => rfl) rfl rfl rfl ?_
  refine wl_mv (.tmp 12) (.bool false) (fun _ => rfl) rfl rfl ?_
  refine wl_call 8 [] _ [] (.bool true) rfl rfl (fun _ _ => by kernel_rfl) (live_n _) rfl ?_
  intro w5 hq
  replace Q1 := Q1.mo hq
  replace Q2 := Q2.mo hq
  replace M := M.trans hq
  clear hq
  refine wl_un (fun v => Op.unary .not v) (.tmp 14) (.bool true) (.bool false) (fun _ => rfl) rfl (by kernel_rfl) rfl ?_
  refine wl_pick (.tmp 13) (.const (.bool true)) (.tmp 15) false (.bool false) (fun _ => rfl) rfl rfl rfl ?_
  refine w_nil ?_
  refine xn_then ?_
  refine w_condF rfl ?_
  refine w_skip ?_
  refine xn_then ?_
  refine w_seq ?_
  refine w_any 19 [.inl (.agg #[.bool b, .int .u64 (l0 (n)), .int .u64 (l1 (n)), .int .u64 (l2 (n)), .int .u64 (l3 (n)), .int .i64 ((k : Int))]), .inl (tx (txt b n k)), .inl (.agg #[.bool c, .int .u64 (l0 (m)), .int .u64 (l1 (m)), .int .u64 (l2 (m)), .int .u64 (l3 (m)), .int .i64 ((j : Int))]), .inl (tx (txt c m j)), .inl (.bool (r)), .inl (.agg #[.bool b, .int .u64 (l0 (n)), .int .u64 (l1 (n)), .int .u64 (l2 (n)), .int .u64 (l3 (n)), .int .i64 ((k : Int))]), .inl (.agg #[.bool c, .int .u64 (l0 (m)), .int .u64 (l1 (m)), .int .u64 (l2 (m)), .int .u64 (l3 (m)), .int .i64 ((j : Int))]), .inl (.bool (r)), .inl (.bool true), .inl (.bool true), .inl (.agg #[.bool b, .int .u64 (l0 (n)), .int .u64 (l1 (n)), .int .u64 (l2 (n)), .int .u64 (l3 (n)), .int .i64 ((k : Int))]), .inl (tx (txt b (trN k n).1 (trN k n).2)), .inl (.agg #[.bool c, .int .u64 (l0 (m)), .int .u64 (l1 (m)), .int .u64 (l2 (m)), .int .u64 (l3 (m)), .int .i64 ((j : Int))]), .inl (tx (txt c (trN j m).1 (trN j m).2)), .inl (.bool (q)), .inl (.agg #[.bool b, .int .u64 (l0 (n)), .int .u64 (l1 (n)), .int .u64 (l2 (n)), .int .u64 (l3 (n)), .int .i64 ((k : Int))]), .inl (.agg #[.bool c, .int .u64 (l0 (m)), .int .u64 (l1 (m)), .int .u64 (l2 (m)), .int .u64 (l3 (m)), .int .i64 ((j : Int))]), .inl (.int .i64 (z)), .inl (.bool (q))] [] (by kernel_rfl) (by kernel_rfl) (by kernel_rfl) (by kernel_rfl) rfl (by kernel_rfl) (by kernel_rfl) late_nil ?_ ?_ ?_
  · exact Ds.none rfl
  · refine ea_cons ?_ (ea_cons ?_ (ea_cons ?_ (ea_cons ?_ (ea_cons ?_ (ea_cons ?_ (ea_cons ?_ (ea_cons ?_ (ea_cons ?_ (ea_cons ?_ (ea_cons ?_ (ea_cons ?_ (ea_cons ?_ (ea_cons ?_ (ea_cons ?_ (ea_cons ?_ (ea_cons ?_ (ea_cons ?_ (ea_cons ?_ (ea_nil)))))))))))))))))))
    · exact og_eq (.agg #[.bool b, .int .u64 (l0 (n)), .int .u64 (l1 (n)), .int .u64 (l2 (n)), .int .u64 (l3 (n)), .int .i64 ((k : Int))]) rfl (fun f wf hq hd K hK => have Q1 := Q1.mo hq; go_run rfl (wo_load 26 (.tmp 2) (pt k1 0) (.agg #[.bool b, .int .u64 (l0 (n)), .int .u64 (l1 (n)), .int .u64 (l2 (n)), .int .u64 (l3 (n)), .int .i64 ((k : Int))]) rfl rfl (run_row Q1 26 0 6 [.bool b, .int .u64 (l0 (n)), .int .u64 (l1 (n)), .int .u64 (l2 (n)), .int .u64 (l3 (n)), .int .i64 ((k : Int))] rfl Tryd.underlying26 rfl sz26) (hK _ (Mw.refl _))))
    · exact og_eq (tx (txt b n k)) rfl (fun f wf hq hd K hK => go_run rfl (wo_call 9 [(.tmp 18)] _ [.agg #[.bool b, .int .u64 (l0 (n)), .int .u64 (l1 (n)), .int .u64 (l2 (n)), .int .u64 (l3 (n)), .int .i64 ((k : Int))]] (tx (txt b n k)) rfl (li1 (hd 0 rfl)) (fun _ _ => by kernel_rfl) (text_ok b n k _ hn0 hnM hk h1) hK))
    · exact og_eq (.agg #[.bool c, .int .u64 (l0 (m)), .int .u64 (l1 (m)), .int .u64 (l2 (m)), .int .u64 (l3 (m)), .int .i64 ((j : Int))]) rfl (fun f wf hq hd K hK => have Q2 := Q2.mo hq; go_run rfl (wo_load 26 (.tmp 3) (pt k2 0) (.agg #[.bool c, .int .u64 (l0 (m)), .int .u64 (l1 (m)), .int .u64 (l2 (m)), .int .u64 (l3 (m)), .int .i64 ((j : Int))]) rfl rfl (run_row Q2 26 0 6 [.bool c, .int .u64 (l0 (m)), .int .u64 (l1 (m)), .int .u64 (l2 (m)), .int .u64 (l3 (m)), .int .i64 ((j : Int))] rfl Tryd.underlying26 rfl sz26) (hK _ (Mw.refl _))))
    · exact og_eq (tx (txt c m j)) rfl (fun f wf hq hd K hK => go_run rfl (wo_call 9 [(.tmp 20)] _ [.agg #[.bool c, .int .u64 (l0 (m)), .int .u64 (l1 (m)), .int .u64 (l2 (m)), .int .u64 (l3 (m)), .int .i64 ((j : Int))]] (tx (txt c m j)) rfl (li1 (hd 2 rfl)) (fun _ _ => by kernel_rfl) (text_ok c m j _ hm0 hmM hj h2) hK))
    · exact og_eq (.bool (r)) rfl (fun f wf hq hd K hK => go_run rfl (wo_bin (fun x y => do eqGuard .eql 9 (.tmp 19) (.tmp 21) x y; binOp .eql 9 x y) (.tmp 19) (.tmp 21) (tx (txt b n k)) (tx (txt c m j)) (.bool (r)) (fun _ => rfl) (hd 1 rfl) (hd 3 rfl) (eqs_run hT _ _ _) (hK _ (Mw.refl _))))
    · exact og_eq (.agg #[.bool b, .int .u64 (l0 (n)), .int .u64 (l1 (n)), .int .u64 (l2 (n)), .int .u64 (l3 (n)), .int .i64 ((k : Int))]) rfl (fun f wf hq hd K hK => have Q1 := Q1.mo hq; go_run rfl (wo_load 26 (.tmp 2) (pt k1 0) (.agg #[.bool b, .int .u64 (l0 (n)), .int .u64 (l1 (n)), .int .u64 (l2 (n)), .int .u64 (l3 (n)), .int .i64 ((k : Int))]) rfl rfl (run_row Q1 26 0 6 [.bool b, .int .u64 (l0 (n)), .int .u64 (l1 (n)), .int .u64 (l2 (n)), .int .u64 (l3 (n)), .int .i64 ((k : Int))] rfl Tryd.underlying26 rfl sz26) (hK _ (Mw.refl _))))
    · exact og_eq (.agg #[.bool c, .int .u64 (l0 (m)), .int .u64 (l1 (m)), .int .u64 (l2 (m)), .int .u64 (l3 (m)), .int .i64 ((j : Int))]) rfl (fun f wf hq hd K hK => have Q2 := Q2.mo hq; go_run rfl (wo_load 26 (.tmp 3) (pt k2 0) (.agg #[.bool c, .int .u64 (l0 (m)), .int .u64 (l1 (m)), .int .u64 (l2 (m)), .int .u64 (l3 (m)), .int .i64 ((j : Int))]) rfl rfl (run_row Q2 26 0 6 [.bool c, .int .u64 (l0 (m)), .int .u64 (l1 (m)), .int .u64 (l2 (m)), .int .u64 (l3 (m)), .int .i64 ((j : Int))] rfl Tryd.underlying26 rfl sz26) (hK _ (Mw.refl _))))
    · exact og_eq (.bool (r)) rfl (fun f wf hq hd K hK => go_run rfl (wo_bin (fun x y => do eqGuard .eql 26 (.tmp 23) (.tmp 24) x y; binOp .eql 26 x y) (.tmp 23) (.tmp 24) (.agg #[.bool b, .int .u64 (l0 (n)), .int .u64 (l1 (n)), .int .u64 (l2 (n)), .int .u64 (l3 (n)), .int .i64 ((k : Int))]) (.agg #[.bool c, .int .u64 (l0 (m)), .int .u64 (l1 (m)), .int .u64 (l2 (m)), .int .u64 (l3 (m)), .int .i64 ((j : Int))]) (.bool (r)) (fun _ => rfl) (hd 5 rfl) (hd 6 rfl) (eqd_run hE _ _ _) (hK _ (Mw.refl _))))
    · exact og_eq (.bool true) rfl (fun f wf hq hd K hK => go_run rfl (wo_bin (fun x y => do eqGuard .eql 4 (.tmp 22) (.tmp 25) x y; binOp .eql 4 x y) (.tmp 22) (.tmp 25) (.bool (r)) (.bool (r)) (.bool true) (fun _ => rfl) (hd 4 rfl) (hd 7 rfl) (eqb_run (r) _ _ _) (hK _ (Mw.refl _))))
    · exact og_eq (.bool true) rfl (fun f wf hq hd K hK => go_run rfl (wo_mv (.tmp 26) (.bool true) (fun _ => rfl) (hd 8 rfl) (hK _ (Mw.refl _))))
    · exact og_eq (.agg #[.bool b, .int .u64 (l0 (n)), .int .u64 (l1 (n)), .int .u64 (l2 (n)), .int .u64 (l3 (n)), .int .i64 ((k : Int))]) rfl (fun f wf hq hd K hK => have Q1 := Q1.mo hq; go_run (wnt_g rfl rfl rfl (hd 9 rfl) rfl) (wo_load 26 (.tmp 2) (pt k1 0) (.agg #[.bool b, .int .u64 (l0 (n)), .int .u64 (l1 (n)), .int .u64 (l2 (n)), .int .u64 (l3 (n)), .int .i64 ((k : Int))]) rfl rfl (run_row Q1 26 0 6 [.bool b, .int .u64 (l0 (n)), .int .u64 (l1 (n)), .int .u64 (l2 (n)), .int .u64 (l3 (n)), .int .i64 ((k : Int))] rfl Tryd.underlying26 rfl sz26) (hK _ (Mw.refl _))))
    · exact og_eq (tx (txt b (trN k n).1 (trN k n).2)) rfl (fun f wf hq hd K hK => go_run (wnt_g rfl rfl rfl (hd 9 rfl) rfl) (wo_call 11 [(.tmp 28)] _ [.agg #[.bool b, .int .u64 (l0 (n)), .int .u64 (l1 (n)), .int .u64 (l2 (n)), .int .u64 (l3 (n)), .int .i64 ((k : Int))]] (tx (txt b (trN k n).1 (trN k n).2)) rfl (li1 (hd 10 rfl)) (fun _ _ => by kernel_rfl) (short_ok b n k _ hn0 hnM hk h1) hK))
    · exact og_eq (.agg #[.bool c, .int .u64 (l0 (m)), .int .u64 (l1 (m)), .int .u64 (l2 (m)), .int .u64 (l3 (m)), .int .i64 ((j : Int))]) rfl (fun f wf hq hd K hK => have Q2 := Q2.mo hq; go_run (wnt_g rfl rfl rfl (hd 9 rfl) rfl) (wo_load 26 (.tmp 3) (pt k2 0) (.agg #[.bool c, .int .u64 (l0 (m)), .int .u64 (l1 (m)), .int .u64 (l2 (m)), .int .u64 (l3 (m)), .int .i64 ((j : Int))]) rfl rfl (run_row Q2 26 0 6 [.bool c, .int .u64 (l0 (m)), .int .u64 (l1 (m)), .int .u64 (l2 (m)), .int .u64 (l3 (m)), .int .i64 ((j : Int))] rfl Tryd.underlying26 rfl sz26) (hK _ (Mw.refl _))))
    · exact og_eq (tx (txt c (trN j m).1 (trN j m).2)) rfl (fun f wf hq hd K hK => go_run (wnt_g rfl rfl rfl (hd 9 rfl) rfl) (wo_call 11 [(.tmp 30)] _ [.agg #[.bool c, .int .u64 (l0 (m)), .int .u64 (l1 (m)), .int .u64 (l2 (m)), .int .u64 (l3 (m)), .int .i64 ((j : Int))]] (tx (txt c (trN j m).1 (trN j m).2)) rfl (li1 (hd 12 rfl)) (fun _ _ => by kernel_rfl) (short_ok c m j _ hm0 hmM hj h2) hK))
    · exact og_eq (.bool (q)) rfl (fun f wf hq hd K hK => go_run (wnt_g rfl rfl rfl (hd 9 rfl) rfl) (wo_bin (fun x y => do eqGuard .eql 9 (.tmp 29) (.tmp 31) x y; binOp .eql 9 x y) (.tmp 29) (.tmp 31) (tx (txt b (trN k n).1 (trN k n).2)) (tx (txt c (trN j m).1 (trN j m).2)) (.bool (q)) (fun _ => rfl) (hd 11 rfl) (hd 13 rfl) (eqs_run hS _ _ _) (hK _ (Mw.refl _))))
    · exact og_eq (.agg #[.bool b, .int .u64 (l0 (n)), .int .u64 (l1 (n)), .int .u64 (l2 (n)), .int .u64 (l3 (n)), .int .i64 ((k : Int))]) rfl (fun f wf hq hd K hK => have Q1 := Q1.mo hq; go_run (wnt_g rfl rfl rfl (hd 9 rfl) rfl) (wo_load 26 (.tmp 2) (pt k1 0) (.agg #[.bool b, .int .u64 (l0 (n)), .int .u64 (l1 (n)), .int .u64 (l2 (n)), .int .u64 (l3 (n)), .int .i64 ((k : Int))]) rfl rfl (run_row Q1 26 0 6 [.bool b, .int .u64 (l0 (n)), .int .u64 (l1 (n)), .int .u64 (l2 (n)), .int .u64 (l3 (n)), .int .i64 ((k : Int))] rfl Tryd.underlying26 rfl sz26) (hK _ (Mw.refl _))))
    · exact og_eq (.agg #[.bool c, .int .u64 (l0 (m)), .int .u64 (l1 (m)), .int .u64 (l2 (m)), .int .u64 (l3 (m)), .int .i64 ((j : Int))]) rfl (fun f wf hq hd K hK => have Q2 := Q2.mo hq; go_run (wnt_g rfl rfl rfl (hd 9 rfl) rfl) (wo_load 26 (.tmp 3) (pt k2 0) (.agg #[.bool c, .int .u64 (l0 (m)), .int .u64 (l1 (m)), .int .u64 (l2 (m)), .int .u64 (l3 (m)), .int .i64 ((j : Int))]) rfl rfl (run_row Q2 26 0 6 [.bool c, .int .u64 (l0 (m)), .int .u64 (l1 (m)), .int .u64 (l2 (m)), .int .u64 (l3 (m)), .int .i64 ((j : Int))] rfl Tryd.underlying26 rfl sz26) (hK _ (Mw.refl _))))
    · exact og_eq (.int .i64 (z)) rfl (fun f wf hq hd K hK => go_run (wnt_g rfl rfl rfl (hd 9 rfl) rfl) (wo_call 20 [(.tmp 33), (.tmp 34)] _ [.agg #[.bool b, .int .u64 (l0 (n)), .int .u64 (l1 (n)), .int .u64 (l2 (n)), .int .u64 (l3 (n)), .int .i64 ((k : Int))], .agg #[.bool c, .int .u64 (l0 (m)), .int .u64 (l1 (m)), .int .u64 (l2 (m)), .int .u64 (l3 (m)), .int .i64 ((j : Int))]] (.int .i64 (z)) rfl (li2 (hd 15 rfl) (hd 16 rfl)) (fun _ _ => by kernel_rfl) (hC _) hK))
    · exact og_eq (.bool (q)) rfl (fun f wf hq hd K hK => go_run (wnt_g rfl rfl rfl (hd 9 rfl) rfl) (wo_bin (fun x y => do eqGuard .eql 3 (.tmp 35) (.const (.int .i64 (0))) x y; binOp .eql 3 x y) (.tmp 35) (.const (.int .i64 (0))) (.int .i64 (z)) (.int .i64 (0)) (.bool (q)) (fun _ => rfl) (hd 17 rfl) rfl (eq3_run hz _ _ _) (hK _ (Mw.refl _))))
  intro kf6 w6 hq hR hne
  replace Q1 := Q1.mo hq
  replace Q2 := Q2.mo hq
  replace M := M.trans hq
  clear hq hR hne
  refine wl_bin (fun x y => do eqGuard .eql 4 (.tmp 32) (.tmp 36) x y; binOp .eql 4 x y) (.tmp 32) (.tmp 36) (.bool (q)) (.bool (q)) (.bool true) (fun _ => rfl) rfl rfl (eqb_run (q) _ _ _) rfl ?_
  refine wl_pick (.tmp 27) (.tmp 37) (.const (.bool false)) true (.bool true) (fun _ => rfl) rfl rfl rfl ?_
  refine wl_mv (.tmp 38) (.bool true) (fun _ => rfl) rfl rfl ?_
  refine w_nil ?_
  refine xn_then ?_
  refine w_ret ?_
  exact w_ret1 _ (.bool true) rfl rfl ⟨rfl, M⟩
end Go.Proofs.YtdcojpbgijkmgaaDoor.V
/-
  Unlike numbers have unlike texts.
-/
namespace Go.Proofs.YtdcojpbgijkmgaaDoor
open Go.RowKit Go.Lib
theorem d8_dig (n : Int) {x : UInt8} (h : x ∈ V.dgs8 n) : 48 ≤ x.toNat ∧ x.toNat ≤ 57 := by
  rw [dgs8_map] at h
  obtain ⟨d, hd, rfl⟩ := List.mem_map.1 h
  have hb := decF_digits 78 n d hd
  rw [UInt8.toNat_ofNat']
  omega
theorem d8_inj {n m : Int} (hn0 : 0 ≤ n) (hnM : n < MM) (hm0 : 0 ≤ m) (hmM : m < MM) (h : V.dgs8 n = V.dgs8 m) : n = m := by
  rw [dgs8_map, dgs8_map] at h
  have hM : MM < 10 ^ 78 := by decide
  have e : decF 78 n = decF 78 m := by
    have g : ∀ (a b : List Int), (∀ d ∈ a, 48 ≤ d ∧ d ≤ 57) → (∀ d ∈ b, 48 ≤ d ∧ d ≤ 57) → a.map (fun d => UInt8.ofNat d.toNat) = b.map (fun d => UInt8.ofNat d.toNat) → a = b := by
      intro a
      induction a with
      | nil => intro b _ _ h; cases b with | nil => rfl | cons x r => simp at h
      | cons x r ih =>
        intro b ha hb h
        cases b with
        | nil => simp at h
        | cons y s =>
          rw [List.map_cons, List.map_cons] at h
          injection h with h1 h2
          have hx := ha x (by simp)
          have hy := hb y (by simp)
          have h3 := congrArg UInt8.toNat h1
          rw [UInt8.toNat_ofNat', UInt8.toNat_ofNat'] at h3
          have : x = y := by omega
          rw [this, ih s (fun d hd => ha d (by simp [hd])) (fun d hd => hb d (by simp [hd])) h2]
    exact g _ _ (decF_digits 78 n) (decF_digits 78 m) h
  rw [← decF_dv 78 n hn0 (by omega), ← decF_dv 78 m hm0 (by omega), e]
theorem txt0 (b : Bool) (n : Int) : V.txt b n 0 = sgn8 b ++ V.dgs8 n := by unfold V.txt wpt sgn8; cases b <;> rfl
theorem txt0_inj {b c : Bool} {n m : Int} (hn0 : 0 ≤ n) (hnM : n < MM) (hm0 : 0 ≤ m) (hmM : m < MM) (h : V.txt b n 0 = V.txt c m 0) : b = c ∧ n = m := by
  rw [txt0, txt0] at h
  have key : ∀ (x y : Int), [45] ++ V.dgs8 x ≠ V.dgs8 y := fun x y e => by
    have : (45 : UInt8) ∈ V.dgs8 y := by rw [← e]; simp
    have := d8_dig y this
    have e45 : (45 : UInt8).toNat = 45 := rfl
    omega
  cases b <;> cases c
  · exact ⟨rfl, d8_inj hn0 hnM hm0 hmM h⟩
  · exact absurd h.symm (key m n)
  · exact absurd h (key n m)
  · exact ⟨rfl, d8_inj hn0 hnM hm0 hmM (by simpa [sgn8] using h)⟩
theorem snoc_inj {a b : List UInt8} {x y : UInt8} (h : a ++ [x] = b ++ [y]) : a = b ∧ x = y := by
  have := List.append_inj' h rfl
  exact ⟨this.1, by simpa using this.2⟩
theorem ptx_inj {b c : Bool} : ∀ (k j : Nat) (n m : Int), 0 ≤ n → n < MM → 0 ≤ m → m < MM → ptx b n k = ptx c m j → b = c ∧ n = m ∧ k = j
  | 0, 0, n, m, hn0, hnM, hm0, hmM, h => by
    rw [ptx_0, ptx_0] at h
    obtain ⟨h1, h2⟩ := txt0_inj hn0 hnM hm0 hmM (snoc_inj h).1
    exact ⟨h1, h2, rfl⟩
  | 0, j + 1, n, m, hn0, hnM, hm0, hmM, h => by
    rw [ptx_0, ptx_s c m j hm0 hmM] at h
    have := congrArg (fun x : UInt8 => (x.toNat : Int)) (snoc_inj h).2
    simp only [ld_d] at this
    have e46 : ((46 : UInt8).toNat : Int) = 46 := rfl
    omega
  | k + 1, 0, n, m, hn0, hnM, hm0, hmM, h => by
    rw [ptx_0, ptx_s b n k hn0 hnM] at h
    have := congrArg (fun x : UInt8 => (x.toNat : Int)) (snoc_inj h).2
    simp only [ld_d] at this
    have e46 : ((46 : UInt8).toNat : Int) = 46 := rfl
    omega
  | k + 1, j + 1, n, m, hn0, hnM, hm0, hmM, h => by
    rw [ptx_s b n k hn0 hnM, ptx_s c m j hm0 hmM] at h
    obtain ⟨h1, h2⟩ := snoc_inj h
    obtain ⟨a1, a2, a3⟩ := ptx_inj k j (n / 10) (m / 10) (by omega) (by omega) (by omega) (by omega) h1
    have := congrArg (fun x : UInt8 => (x.toNat : Int)) h2
    simp only [ld_d] at this
    exact ⟨a1, by omega, by omega⟩
theorem no46 (b : Bool) (n : Int) : (46 : UInt8) ∉ V.txt b n 0 := fun h => by
  rw [txt0] at h
  rcases List.mem_append.1 h with h | h
  · unfold sgn8 at h; cases b <;> simp at h
  · have := d8_dig n h; have e46 : (46 : UInt8).toNat = 46 := rfl; omega
theorem in46 (b : Bool) (n : Int) (k : Nat) (hk : k ≠ 0) : (46 : UInt8) ∈ V.txt b n k := by rw [← ptx_k b n k hk]; unfold ptx; simp
theorem txt_inj {b c : Bool} {k j : Nat} {n m : Int} (hn0 : 0 ≤ n) (hnM : n < MM) (hm0 : 0 ≤ m) (hmM : m < MM) (h : V.txt b n k = V.txt c m j) : b = c ∧ n = m ∧ k = j := by
  by_cases hk : k = 0 <;> by_cases hj : j = 0
  · subst hk; subst hj; obtain ⟨a, b⟩ := txt0_inj hn0 hnM hm0 hmM h; exact ⟨a, b, rfl⟩
  · subst hk; exact absurd (h ▸ in46 c m j hj) (no46 b n)
  · subst hj; exact absurd (h ▸ in46 b n k hk) (no46 c m)
  · rw [← ptx_k b n k hk, ← ptx_k c m j hj] at h; exact ptx_inj k j n m hn0 hnM hm0 hmM h
end Go.Proofs.YtdcojpbgijkmgaaDoor
/-
  Numbers that are as great have one short text, and no others.
-/
namespace Go.Proofs.YtdcojpbgijkmgaaDoor
open Go.RowKit Go.Lib
theorem trN_can : ∀ (k : Nat) (n : Int), ∃ d, k = (trN k n).2 + d ∧ n = (trN k n).1 * 10 ^ d ∧ ((trN k n).2 = 0 ∨ (trN k n).1 % 10 ≠ 0)
  | 0, n => ⟨0, rfl, by simp [trN], Or.inl rfl⟩
  | k + 1, n => by
    unfold trN
    split
    · rename_i hz
      obtain ⟨d, h1, h2, h3⟩ := trN_can k (n / 10)
      refine ⟨d + 1, by omega, ?_, h3⟩
      rw [Int.pow_succ, ← Int.mul_assoc, ← h2]; omega
    · rename_i hz
      exact ⟨0, rfl, by simp, Or.inr hz⟩
theorem can_eq {N N' : Int} {K K' e e' : Nat} (hs : K + e = K' + e') (h : N * 10 ^ e = N' * 10 ^ e') (c : K = 0 ∨ N % 10 ≠ 0) (c' : K' = 0 ∨ N' % 10 ≠ 0) : N = N' ∧ K = K' := by
  have p10 : ∀ x : Nat, (10 : Int) ^ x ≠ 0 := fun x => Int.pow_ne_zero (by decide)
  have main : ∀ {N N' : Int} {K K' e e' : Nat}, K + e = K' + e' → N * 10 ^ e = N' * 10 ^ e' → (K' = 0 ∨ N' % 10 ≠ 0) → ¬ K < K' := by
    intro N N' K K' e e' hs h c' hlt
    obtain ⟨d, rfl⟩ : ∃ d, e = e' + (d + 1) := ⟨e - e' - 1, by omega⟩
    have h2 : N * 10 ^ (d + 1) = N' := by
      refine Int.eq_of_mul_eq_mul_right (p10 e') ?_
      have e3 : (10 : Int) ^ (e' + (d + 1)) = 10 ^ (d + 1) * 10 ^ e' := by rw [Nat.add_comm e' (d + 1)]; exact Int.pow_add _ _ _
      rw [← h, e3, Int.mul_assoc]
    rcases c' with c' | c'
    · omega
    · apply c'; rw [← h2, Int.pow_succ, ← Int.mul_assoc]; exact Int.mul_emod_left _ _
  have a := main hs h c'
  have b := main hs.symm h.symm c
  have hK : K = K' := by omega
  have he : e = e' := by omega
  subst hK; subst he
  exact ⟨Int.eq_of_mul_eq_mul_right (p10 e) h, rfl⟩
theorem trN_iff (n m : Int) (k j M : Nat) (hk : k ≤ M) (hj : j ≤ M) : trN k n = trN j m ↔ n * 10 ^ (M - k) = m * 10 ^ (M - j) := by
  obtain ⟨d, a1, a2, a3⟩ := trN_can k n
  obtain ⟨f, b1, b2, b3⟩ := trN_can j m
  have e1 : n * 10 ^ (M - k) = (trN k n).1 * 10 ^ (d + (M - k)) := by rw [Int.pow_add, ← Int.mul_assoc, ← a2]
  have e2 : m * 10 ^ (M - j) = (trN j m).1 * 10 ^ (f + (M - j)) := by rw [Int.pow_add, ← Int.mul_assoc, ← b2]
  constructor
  · intro h
    rw [e1, e2, h]
    rw [h] at a1
    congr 2
    omega
  · intro h
    rw [e1, e2] at h
    obtain ⟨h1, h2⟩ := can_eq (K := (trN k n).2) (K' := (trN j m).2) (by omega) h a3 b3
    exact Prod.ext h1 h2
theorem short_cmp {b c : Bool} {n m u v : Int} {k j : Nat} (hn0 : 0 ≤ n) (hnM : n < MM) (hm0 : 0 ≤ m) (hmM : m < MM) (hu : ab u = n) (hub : decide (u < 0) = b) (hv : ab v = m) (hvb : decide (v < 0) = c) :
    (cm (u * pw (max (k : Int) j - k)) (v * pw (max (k : Int) j - j)) == 0) = (V.txt b (trN k n).1 (trN k n).2 == V.txt c (trN j m).1 (trN j m).2) := by
  obtain ⟨M, hM⟩ : ∃ M : Nat, max (k : Int) j = (M : Int) := ⟨max k j, by omega⟩
  have hkM : k ≤ M := by omega
  have hjM : j ≤ M := by omega
  rw [hM]
  have p1 : pw ((M : Int) - k) = 10 ^ (M - k) := by unfold pw; congr 1; omega
  have p2 : pw ((M : Int) - j) = 10 ^ (M - j) := by unfold pw; congr 1; omega
  rw [p1, p2]
  have P1 : (0 : Int) < 10 ^ (M - k) := Int.pow_pos (by decide)
  have P2 : (0 : Int) < 10 ^ (M - j) := Int.pow_pos (by decide)
  have hi := trN_iff n m k j M hkM hjM
  obtain ⟨a0, a1, _, _⟩ := V.trN_ok k n hn0 hnM
  obtain ⟨b0, b1, _, _⟩ := V.trN_ok j m hm0 hmM
  have hc : ∀ x y : Int, (cm x y == 0) = decide (x = y) := fun x y => by
    unfold cm
    by_cases h1 : x < y
    · rw [if_pos h1, decide_eq_false (by omega)]; rfl
    · rw [if_neg h1]
      by_cases h2 : y < x
      · rw [if_pos h2, decide_eq_false (by omega)]; rfl
      · rw [if_neg h2, decide_eq_true (by omega)]; rfl
  rw [hc]
  have hrhs : (V.txt b (trN k n).1 (trN k n).2 == V.txt c (trN j m).1 (trN j m).2) = decide (b = c ∧ trN k n = trN j m) := by
    by_cases h : V.txt b (trN k n).1 (trN k n).2 = V.txt c (trN j m).1 (trN j m).2
    · obtain ⟨h1, h2, h3⟩ := txt_inj a0 a1 b0 b1 h
      rw [decide_eq_true ⟨h1, Prod.ext h2 h3⟩]; exact beq_iff_eq.2 h
    · rw [decide_eq_false (fun ⟨h1, h2⟩ => h (by rw [h1, h2]))]; exact beq_eq_false_iff_ne.2 h
  rw [hrhs]
  congr 1
  rw [hi]
  generalize (10 : Int) ^ (M - k) = X at *
  generalize (10 : Int) ^ (M - j) = Y at *
  subst hu; subst hub; subst hv; subst hvb
  unfold ab
  by_cases hu0 : u < 0 <;> by_cases hv0 : v < 0
  · rw [if_pos hu0, if_pos hv0, Int.neg_mul, Int.neg_mul]
    simp [hu0, hv0]
  · rw [if_pos hu0, if_neg hv0]
    simp [hu0, hv0]
    have h1 : u * X < 0 := Int.mul_neg_of_neg_of_pos hu0 P1
    have h2 : 0 ≤ v * Y := Int.mul_nonneg (by omega) (by omega)
    omega
  · rw [if_neg hu0, if_pos hv0]
    simp [hu0, hv0]
    have h1 : v * Y < 0 := Int.mul_neg_of_neg_of_pos hv0 P2
    have h2 : 0 ≤ u * X := Int.mul_nonneg (by omega) (by omega)
    omega
  · rw [if_neg hu0, if_neg hv0]
    simp [hu0, hv0]
end Go.Proofs.YtdcojpbgijkmgaaDoor
/-
  exciselaw03.DectextBack, whatever the number and the text.
-/
namespace Go.Proofs.YtdcojpbgijkmgaaDoor.V
open Go.RowKit Go.Lib
theorem eq30b {a b : Int} {r : Bool} (h : (a == b) = r) (x y : Operand) (w : World) : (do eqGuard .eql 30 x y (.int .i64 a) (.int .i64 b); binOp .eql 30 (.int .i64 a) (.int .i64 b)).run Tryd.prog w = .ok (.bool r) w := by
  subst h; kernel_rfl
theorem nes_run (l : List UInt8) (x y : Operand) (w : World) : (do eqGuard .neq 9 x y (tx l) (tx l); binOp .neq 9 (tx l) (tx l)).run Tryd.prog w = .ok (.bool false) w := by
  have e1 : (⟨l.toArray⟩ : ByteArray).toList = l := by rw [ByteArray.toList_eq]
  generalize (⟨l.toArray⟩ : ByteArray) = s at *
  simp [go_sem]
/-- Parse of any text: what it says is its number's text. -/
theorem parse_any (s : ByteArray) (hs : s.size ≤ maxLen) : ∃ (b : Bool) (N E : Int) (k : Nat), 0 ≤ N ∧ N < MM ∧ k ≤ 18 ∧ ((E == 0) = true → ck b N (k : Int) = 0 ∧ txt b N k = by8 s) ∧
    (∀ w, Calls Tryd.prog 13 #[.string s] w fun e w' => e = .returned (.tuple #[dc b N (k : Int), .int .i64 E]) ∧ Mo w w') := by
  cases hd : isDec s with
  | false => exact ⟨false, 0, 30, 0, by omega, by decide, by omega, fun e => (by cases e), fun w => parse13_no hd hs w⟩
  | true =>
    obtain ⟨b, A, B, h⟩ := df_dec hd
    have h3 := fun w => parse13_df h hs w
    unfold pva at h3
    by_cases hE : pe A B = 0
    · simp only [if_pos hE] at h3
      unfold pe at hE
      by_cases h18 : 18 < B.length
      · rw [if_pos h18] at hE; cases hE
      · rw [if_neg h18] at hE
        by_cases hM : nof A B < MM
        · exact ⟨b, nof A B, 0, B.length, h.n0, hM, by omega, fun _ => ⟨h.ck (by omega), df_txt h hM⟩, h3⟩
        · rw [if_neg hM] at hE; cases hE
    · simp only [if_neg hE] at h3
      exact ⟨false, 0, pe A B, 0, by omega, by decide, by omega, fun e => absurd (eq_of_beq e) hE, h3⟩
/-- Parse of a number's text. -/
theorem parse_txt {b : Bool} {n : Int} {k : Nat} (h0 : 0 ≤ n) (hM : n < MM) (hk : k ≤ 18) (hck : ck b n (k : Int) = 0) (w : World) : Calls Tryd.prog 13 #[tx (txt b n k)] w fun e w' => e = .returned (.tuple #[dc b n (k : Int), .int .i64 0]) ∧ Mo w w' := by
  obtain ⟨A, B, h, hn, hl⟩ := txt_df h0 hM hck
  have hp := ptx_len b n k hk
  have hlen : (txt b n k).length ≤ 1000 := by
    by_cases hk0 : k = 0
    · subst hk0; exact txt0_len b n
    · rw [← ptx_k b n k hk0]; omega
  have h3 := parse13_df (s := ⟨(txt b n k).toArray⟩) h (by rw [tx_size]; unfold maxLen; omega) w
  have hpe : pe A B = 0 := by unfold pe; rw [hl, hn, if_neg (by omega), if_pos hM]
  unfold pva at h3
  rw [if_pos hpe, hn, hl] at h3
  exact h3
theorem ck_k {b : Bool} {n m : Int} {k j : Nat} (h : ck b n (k : Int) = 0) (hj : j ≤ 18) (hm : n ≠ 0 → m ≠ 0) : ck b m (j : Int) = 0 := by
  unfold ck sc at *
  rw [decide_eq_true (show (0 : Int) ≤ (j : Int) by omega), decide_eq_true (show (j : Int) ≤ 18 by omega)]
  cases b with
  | false => rfl
  | true =>
    by_cases hn : n = 0
    · subst hn; simp at h
    · rw [decide_eq_false (hm hn)]; rfl
/-- ParseAt of a number's short text. -/
theorem parseAt_txt {b : Bool} {n : Int} {k : Nat} (h0 : 0 ≤ n) (hM : n < MM) (hk : k ≤ 18) (hck : ck b n (k : Int) = 0) (w : World) : Calls Tryd.prog 15 #[tx (txt b (trN k n).1 (trN k n).2), .int .i64 (k : Int)] w fun e w' => e = .returned (.tuple #[dc b n (k : Int), .int .i64 0]) ∧ Mo w w' := by
  obtain ⟨d, hd1, hd2, _⟩ := trN_can k n
  generalize (trN k n).1 = N at *
  generalize (trN k n).2 = K at *
  have hT := pow_lt d (by omega)
  have hN0 : 0 ≤ N := by
    by_cases hn : 0 ≤ N
    · exact hn
    · have := Int.mul_neg_of_neg_of_pos (show N < 0 by omega) hT.1; omega
  have hNM : N < MM := by
    have h1 : N * 1 ≤ N * 10 ^ d := Int.mul_le_mul_of_nonneg_left (by have := hT.1; omega) hN0
    omega
  have hckN : ck b N (K : Int) = 0 := ck_k hck (by omega) (fun hn e => hn (by rw [hd2, e]; simp))
  have h3 := fun w => parse_txt hN0 hNM (by omega) hckN w
  obtain ⟨hsc, v, hv1, hv2⟩ := dz_of hN0 hckN
  have hr := fun w => rescale_z v (K : Int) (k : Int) 3 w (by rw [hv1]; exact hNM) hsc (sc_iff.2 ⟨by omega, by omega⟩) (by decide) (by decide)
  have hrs : rsV v (K : Int) (k : Int) 3 = v * 10 ^ d := by
    unfold rsV
    rw [if_neg (by omega)]
    congr 1
    rw [show (k : Int) - (K : Int) = (d : Int) by omega]
    rfl
  have hab : ab (v * 10 ^ d) = n := by rw [← ab_mul hT.1, hv1, ← hd2]
  have hdec : decide (v * 10 ^ d < 0) = b := by
    rw [← hv2]
    apply decide_eq_decide.2
    constructor
    · intro h
      by_cases hv0 : v < 0
      · exact hv0
      · have := Int.mul_nonneg (show 0 ≤ v by omega) (Int.le_of_lt hT.1); omega
    · intro h
      exact Int.mul_neg_of_neg_of_pos h hT.1
  have ez1 : dz v (K : Int) = dc b N (K : Int) := by unfold dz; rw [hv1, hv2]
  have ez2 : dz (v * 10 ^ d) (k : Int) = dc b n (k : Int) := by unfold dz; rw [hab, hdec]
  have hf : fz (v * 10 ^ d) (k : Int) = .tuple #[dc b n (k : Int), .int .i64 0] := by rw [fz_yes (by rw [hab]; exact hM), ez2]
  simp only [hrs, ez1, hf] at hr
  exact parseAt_r ⟨(txt b N K).toArray⟩ (k : Int) w (decide_eq_false (by omega)) (decide_eq_false (by omega)) b N (K : Int) 0 h3 rfl (decide_eq_false (by omega)) b n (k : Int) 0 hr
theorem dback_kt (b : Bool) (n : Int) (k : Nat) (s : ByteArray) (w : World) (hn0 : 0 ≤ n) (hnM : n < MM) (hk : k ≤ 18) (hck : ck b n (k : Int) = 0) (c : Bool) (N2 E2 : Int) (j : Nat) (h13 : ∀ w, Calls Tryd.prog 13 #[tx (by8 s)] w fun e w' => e = .returned (.tuple #[dc c N2 (j : Int), .int .i64 E2]) ∧ Mo w w') (hE : (E2 == 0) = true) (hT : ∀ w, Calls Tryd.prog 9 #[dc c N2 (j : Int)] w fun e w' => e = .returned (tx (by8 s)) ∧ Mw w w') : Calls Tryd.prog 6 #[dc b n (k : Int), tx (by8 s)] w fun e w' => e = .returned (.bool true) ∧ Mw w w' := by
  refine w_enter 58 Tryd.func6 Tryd.ntmps6 rfl rfl ?_
  have M : Mw w w := Mw.refl _
  refine w_seq ?_
  refine w_reg ?_
  refine wl_box 26 (.tmp 0) (.agg #[.bool b, .int .u64 (l0 n), .int .u64 (l1 n), .int .u64 (l2 n), .int .u64 (l3 n), .int .i64 ((k : Int))]) (#[.bool b, .int .u64 (l0 n), .int .u64 (l1 n), .int .u64 (l2 n), .int .u64 (l3 n), .int .i64 ((k : Int))]) rfl rfl (fun _ => by kernel_rfl) rfl ?_
  intro k1 w1 hk hz hq Q1
  have N_k1 : w.heap.size ≤ k1 := by have := M.size; omega
  replace M := M.trans hq
  clear hk hz hq
  refine wl_mv (.const (.bool false)) (.bool false) (fun _ => rfl) rfl rfl ?_
  refine w_nil ?_
  refine xn_then ?_
  refine w_seq ?_
  refine w_seq ?_
  refine w_reg ?_
  refine wl_load 26 (.tmp 2) (pt k1 0) (.agg #[.bool b, .int .u64 (l0 n), .int .u64 (l1 n), .int .u64 (l2 n), .int .u64 (l3 n), .int .i64 ((k : Int))]) rfl rfl (run_row Q1 26 0 6 [.bool b, .int .u64 (l0 n), .int .u64 (l1 n), .int .u64 (l2 n), .int .u64 (l3 n), .int .i64 ((k : Int))] rfl Tryd.underlying26 rfl sz26) rfl ?_
  refine wl_call 19 [(.tmp 11)] _ [.agg #[.bool b, .int .u64 (l0 n), .int .u64 (l1 n), .int .u64 (l2 n), .int .u64 (l3 n), .int .i64 ((k : Int))]] (.int .i64 (0)) rfl rfl (fun _ _ => by kernel_rfl) (wk (rcheck_ok b n (k : Int) _ hn0 hnM hck)) rfl ?_
  intro w2 hq
  replace Q1 := Q1.mo hq
  replace M := M.trans hq
  clear hq
  refine wl_bin (fun x y => do eqGuard .eql 30 (.tmp 12) (.const (.int .i64 (0))) x y; binOp .eql 30 x y) (.tmp 12) (.const (.int .i64 (0))) (.int .i64 (0)) (.int .i64 (0)) (.bool true) (fun _ => rfl) rfl rfl (eq30b (r := true) rfl _ _ _) rfl ?_
  refine w_nil ?_
  refine xn_then ?_
  refine w_condT rfl ?_
  refine w_seq ?_
  refine w_reg ?_
  refine wl_load 26 (.tmp 2) (pt k1 0) (.agg #[.bool b, .int .u64 (l0 n), .int .u64 (l1 n), .int .u64 (l2 n), .int .u64 (l3 n), .int .i64 ((k : Int))]) rfl rfl (run_row Q1 26 0 6 [.bool b, .int .u64 (l0 n), .int .u64 (l1 n), .int .u64 (l2 n), .int .u64 (l3 n), .int .i64 ((k : Int))] rfl Tryd.underlying26 rfl sz26) rfl ?_
  refine wl_call 9 [(.tmp 15)] _ [.agg #[.bool b, .int .u64 (l0 n), .int .u64 (l1 n), .int .u64 (l2 n), .int .u64 (l3 n), .int .i64 ((k : Int))]] (tx (txt b n k)) rfl rfl (fun _ _ => by kernel_rfl) (text_ok b n k _ hn0 hnM hk hck) rfl ?_
  intro w3 hq
  replace Q1 := Q1.mo hq
  replace M := M.trans hq
  clear hq
  refine wl_call 13 [(.tmp 16)] _ [tx (txt b n k)] (.tuple #[.agg #[.bool b, .int .u64 (l0 n), .int .u64 (l1 n), .int .u64 (l2 n), .int .u64 (l3 n), .int .i64 ((k : Int))], .int .i64 (0)]) rfl rfl (fun _ _ => by kernel_rfl) (wk (parse_txt hn0 hnM hk hck _)) rfl ?_
  intro w4 hq
  replace Q1 := Q1.mo hq
  replace M := M.trans hq
  clear hq
  refine wl_mv (.tmp 17) (.tuple #[.agg #[.bool b, .int .u64 (l0 n), .int .u64 (l1 n), .int .u64 (l2 n), .int .u64 (l3 n), .int .i64 ((k : Int))], .int .i64 (0)]) (fun _ => rfl) rfl rfl ?_
  refine wl_un (fun v => Instr.extract v 0) (.tmp 14) (.tuple #[.agg #[.bool b, .int .u64 (l0 n), .int .u64 (l1 n), .int .u64 (l2 n), .int .u64 (l3 n), .int .i64 ((k : Int))], .int .i64 (0)]) (.agg #[.bool b, .int .u64 (l0 n), .int .u64 (l1 n), .int .u64 (l2 n), .int .u64 (l3 n), .int .i64 ((k : Int))]) (fun _ => rfl) rfl (by kernel_rfl) rfl ?_
  refine wl_un (fun v => Instr.extract v 1) (.tmp 14) (.tuple #[.agg #[.bool b, .int .u64 (l0 n), .int .u64 (l1 n), .int .u64 (l2 n), .int .u64 (l3 n), .int .i64 ((k : Int))], .int .i64 (0)]) (.int .i64 (0)) (fun _ => rfl) rfl (by kernel_rfl) rfl ?_
  refine wl_alloc 26 #[.bool false, .int .u64 0, .int .u64 0, .int .u64 0, .int .u64 0, .int .i64 0] rfl (fun _ => by kernel_rfl) rfl ?_
  intro k2 w5 hk hz hq Q2
  have ne_k1_k2 : k1 ≠ k2 := by have := Q1.lt; omega
  have N_k2 : w.heap.size ≤ k2 := by have := M.size; omega
  replace Q1 := Q1.mo hq
  replace M := M.trans hq
  clear hk hz hq
  refine wl_st 26 (.tmp 5) (.tmp 18) k2 0 #[.bool b, .int .u64 (l0 n), .int .u64 (l1 n), .int .u64 (l2 n), .int .u64 (l3 n), .int .i64 ((k : Int))] [.bool false, .int .u64 0, .int .u64 0, .int .u64 0, .int .u64 0, .int .i64 0] [.bool b, .int .u64 (l0 n), .int .u64 (l1 n), .int .u64 (l2 n), .int .u64 (l3 n), .int .i64 ((k : Int))] Q2 rfl rfl rfl rfl rfl sz26 rfl rfl rfl ?_
  intro w6 hS Qn
  replace Q2 := Qn
  clear Qn
  replace Q1 := hS.other _ _ ne_k1_k2 Q1
  replace M := hS.mo _ N_k2 M
  clear hS
  refine wl_mv (.tmp 19) (.int .i64 (0)) (fun _ => rfl) rfl rfl ?_
  refine w_nil ?_
  refine xn_then ?_
  refine w_seq ?_
  refine w_any 9 [.inl (.agg #[.bool b, .int .u64 (l0 n), .int .u64 (l1 n), .int .u64 (l2 n), .int .u64 (l3 n), .int .i64 ((k : Int))]), .inl (tx (txt b (trN k n).1 (trN k n).2)), .inl (pt k1 5), .inl (.int .i64 ((k : Int))), .inl (.tuple #[.agg #[.bool b, .int .u64 (l0 n), .int .u64 (l1 n), .int .u64 (l2 n), .int .u64 (l3 n), .int .i64 ((k : Int))], .int .i64 (0)]), .inl (.tuple #[.agg #[.bool b, .int .u64 (l0 n), .int .u64 (l1 n), .int .u64 (l2 n), .int .u64 (l3 n), .int .i64 ((k : Int))], .int .i64 (0)]), .inl (.agg #[.bool b, .int .u64 (l0 n), .int .u64 (l1 n), .int .u64 (l2 n), .int .u64 (l3 n), .int .i64 ((k : Int))]), .inl (.int .i64 (0)), .inr [.bool false, .int .u64 0, .int .u64 0, .int .u64 0, .int .u64 0, .int .i64 0]] [7] (by kernel_rfl) (by kernel_rfl) (by kernel_rfl) (by kernel_rfl) rfl (by kernel_rfl) (by kernel_rfl) (late_cons ⟨_, _, rfl, rfl, fun _ _ _ _ h => h, fun f hd => ⟨rfl, la_un (fun v => Instr.extract v 1) (.tmp 20) (.tuple #[.agg #[.bool b, .int .u64 (l0 n), .int .u64 (l1 n), .int .u64 (l2 n), .int .u64 (l3 n), .int .i64 ((k : Int))], .int .i64 (0)]) (.int .i64 (0)) (fun _ => rfl) (hd 5 rfl _ rfl) (fun w => by kernel_rfl)⟩⟩ late_nil) ?_ ?_ ?_
  · exact Ds.start (by kernel_rfl)
  · refine ea_cons ?_ (ea_cons ?_ (ea_cons ?_ (ea_cons ?_ (ea_cons ?_ (ea_cons ?_ (ea_cons ?_ (ea_cons ?_ (ea_cons ?_ (ea_nil)))))))))
    · exact og_eq (.agg #[.bool b, .int .u64 (l0 n), .int .u64 (l1 n), .int .u64 (l2 n), .int .u64 (l3 n), .int .i64 ((k : Int))]) rfl (fun f wf hq hd K hK => have Q1 := Q1.mo hq; go_run rfl (wo_load 26 (.tmp 2) (pt k1 0) (.agg #[.bool b, .int .u64 (l0 n), .int .u64 (l1 n), .int .u64 (l2 n), .int .u64 (l3 n), .int .i64 ((k : Int))]) rfl rfl (run_row Q1 26 0 6 [.bool b, .int .u64 (l0 n), .int .u64 (l1 n), .int .u64 (l2 n), .int .u64 (l3 n), .int .i64 ((k : Int))] rfl Tryd.underlying26 rfl sz26) (hK _ (Mw.refl _))))
    · exact og_eq (tx (txt b (trN k n).1 (trN k n).2)) rfl (fun f wf hq hd K hK => go_run rfl (wo_call 11 [(.tmp 21)] _ [.agg #[.bool b, .int .u64 (l0 n), .int .u64 (l1 n), .int .u64 (l2 n), .int .u64 (l3 n), .int .i64 ((k : Int))]] (tx (txt b (trN k n).1 (trN k n).2)) rfl (li1 (hd 0 rfl)) (fun _ _ => by kernel_rfl) (short_ok b n k _ hn0 hnM hk hck) hK))
    · exact og_eq (pt k1 5) rfl (fun f wf hq hd K hK => go_run rfl (wo_un (fun v => Instr.fieldAt 26 v 2) (.tmp 2) (pt k1 0) (pt k1 5) (fun _ => rfl) rfl (by kernel_rfl) (hK _ (Mw.refl _))))
    · exact og_eq (.int .i64 ((k : Int))) rfl (fun f wf hq hd K hK => have Q1 := Q1.mo hq; go_run rfl (wo_load 3 (.tmp 23) (pt k1 5) (.int .i64 ((k : Int))) rfl (hd 2 rfl) (run_one Q1 3 5 rfl Tryd.underlying3 rfl) (hK _ (Mw.refl _))))
    · exact og_eq (.tuple #[.agg #[.bool b, .int .u64 (l0 n), .int .u64 (l1 n), .int .u64 (l2 n), .int .u64 (l3 n), .int .i64 ((k : Int))], .int .i64 (0)]) rfl (fun f wf hq hd K hK => go_run rfl (wo_call 15 [(.tmp 22), (.tmp 24)] _ [tx (txt b (trN k n).1 (trN k n).2), .int .i64 ((k : Int))] (.tuple #[.agg #[.bool b, .int .u64 (l0 n), .int .u64 (l1 n), .int .u64 (l2 n), .int .u64 (l3 n), .int .i64 ((k : Int))], .int .i64 (0)]) rfl (li2 (hd 1 rfl) (hd 3 rfl)) (fun _ _ => by kernel_rfl) (wk (parseAt_txt hn0 hnM hk hck _)) hK))
    · exact og_eq (.tuple #[.agg #[.bool b, .int .u64 (l0 n), .int .u64 (l1 n), .int .u64 (l2 n), .int .u64 (l3 n), .int .i64 ((k : Int))], .int .i64 (0)]) rfl (fun f wf hq hd K hK => go_run rfl (wo_mv (.tmp 25) (.tuple #[.agg #[.bool b, .int .u64 (l0 n), .int .u64 (l1 n), .int .u64 (l2 n), .int .u64 (l3 n), .int .i64 ((k : Int))], .int .i64 (0)]) (fun _ => rfl) (hd 4 rfl) (hK _ (Mw.refl _))))
    · exact og_eq (.agg #[.bool b, .int .u64 (l0 n), .int .u64 (l1 n), .int .u64 (l2 n), .int .u64 (l3 n), .int .i64 ((k : Int))]) rfl (fun f wf hq hd K hK => go_run rfl (wo_un (fun v => Instr.extract v 0) (.tmp 20) (.tuple #[.agg #[.bool b, .int .u64 (l0 n), .int .u64 (l1 n), .int .u64 (l2 n), .int .u64 (l3 n), .int .i64 ((k : Int))], .int .i64 (0)]) (.agg #[.bool b, .int .u64 (l0 n), .int .u64 (l1 n), .int .u64 (l2 n), .int .u64 (l3 n), .int .i64 ((k : Int))]) (fun _ => rfl) (hd 5 rfl) (by kernel_rfl) (hK _ (Mw.refl _))))
    · exact og_eq (.int .i64 (0)) rfl (fun f wf hq hd K hK => go_run rfl (wo_un (fun v => Instr.extract v 1) (.tmp 20) (.tuple #[.agg #[.bool b, .int .u64 (l0 n), .int .u64 (l1 n), .int .u64 (l2 n), .int .u64 (l3 n), .int .i64 ((k : Int))], .int .i64 (0)]) (.int .i64 (0)) (fun _ => rfl) (hd 5 rfl) (by kernel_rfl) (hK _ (Mw.refl _))))
    · exact og_new [.bool false, .int .u64 0, .int .u64 0, .int .u64 0, .int .u64 0, .int .i64 0] rfl (fun f wf hq hd K hK => go_run rfl (wo_alloc 26 #[.bool false, .int .u64 0, .int .u64 0, .int .u64 0, .int .u64 0, .int .i64 0] rfl (fun _ => by kernel_rfl) hK))
  intro kf7 w7 hq hR hne
  obtain ⟨N_k3, Q3⟩ := hR 8 _ rfl rfl
  have ne_k1_k3 : k1 ≠ (kf7 8) := by have := Q1.lt; omega
  have ne_k2_k3 : k2 ≠ (kf7 8) := by have := Q2.lt; omega
  replace N_k3 := Nat.le_trans M.size N_k3
  replace Q1 := Q1.mo hq
  replace Q2 := Q2.mo hq
  replace M := M.trans hq
  clear hq hR hne
  refine wl_st 26 (.tmp 7) (.tmp 26) (kf7 8) 0 #[.bool b, .int .u64 (l0 n), .int .u64 (l1 n), .int .u64 (l2 n), .int .u64 (l3 n), .int .i64 ((k : Int))] [.bool false, .int .u64 0, .int .u64 0, .int .u64 0, .int .u64 0, .int .i64 0] [.bool b, .int .u64 (l0 n), .int .u64 (l1 n), .int .u64 (l2 n), .int .u64 (l3 n), .int .i64 ((k : Int))] Q3 rfl rfl rfl rfl rfl sz26 rfl rfl rfl ?_
  intro w8 hS Qn
  replace Q3 := Qn
  clear Qn
  replace Q1 := hS.other _ _ ne_k1_k3 Q1
  replace Q2 := hS.other _ _ ne_k2_k3 Q2
  replace M := hS.mo _ N_k3 M
  clear hS
  refine wl_mv (.tmp 27) (.int .i64 (0)) (fun _ => rfl) rfl rfl ?_
  refine w_nil ?_
  refine xn_then ?_
  refine w_seq ?_
  refine w_reg ?_
  refine wl_mv (.tmp 6) (.int .i64 (0)) (fun _ => rfl) rfl rfl ?_
  refine wl_bin (fun x y => do eqGuard .neq 30 (.tmp 28) (.const (.int .i64 (0))) x y; binOp .neq 30 x y) (.tmp 28) (.const (.int .i64 (0))) (.int .i64 (0)) (.int .i64 (0)) (.bool false) (fun _ => rfl) rfl rfl (neE (r := true) rfl _ _ _) rfl ?_
  refine wl_mv (.tmp 29) (.bool false) (fun _ => rfl) rfl rfl ?_
  refine wl_mv (.tmp 8) (.int .i64 (0)) (fun _ => rfl) rfl rfl ?_
  refine wl_bin (fun x y => do eqGuard .neq 30 (.tmp 31) (.const (.int .i64 (0))) x y; binOp .neq 30 x y) (.tmp 31) (.const (.int .i64 (0))) (.int .i64 (0)) (.int .i64 (0)) (.bool false) (fun _ => rfl) rfl rfl (neE (r := true) rfl _ _ _) rfl ?_
  refine wl_pick (.tmp 30) (.const (.bool true)) (.tmp 32) false (.bool false) (fun _ => rfl) rfl rfl rfl ?_
  refine wl_mv (.tmp 33) (.bool false) (fun _ => rfl) rfl rfl ?_
  refine wl_load 26 (.tmp 5) (pt k2 0) (.agg #[.bool b, .int .u64 (l0 n), .int .u64 (l1 n), .int .u64 (l2 n), .int .u64 (l3 n), .int .i64 ((k : Int))]) rfl rfl (run_row Q2 26 0 6 [.bool b, .int .u64 (l0 n), .int .u64 (l1 n), .int .u64 (l2 n), .int .u64 (l3 n), .int .i64 ((k : Int))] rfl Tryd.underlying26 rfl sz26) rfl ?_
  refine wl_load 26 (.tmp 2) (pt k1 0) (.agg #[.bool b, .int .u64 (l0 n), .int .u64 (l1 n), .int .u64 (l2 n), .int .u64 (l3 n), .int .i64 ((k : Int))]) rfl rfl (run_row Q1 26 0 6 [.bool b, .int .u64 (l0 n), .int .u64 (l1 n), .int .u64 (l2 n), .int .u64 (l3 n), .int .i64 ((k : Int))] rfl Tryd.underlying26 rfl sz26) rfl ?_
  refine wl_bin (fun x y => do eqGuard .neq 26 (.tmp 35) (.tmp 36) x y; binOp .neq 26 x y) (.tmp 35) (.tmp 36) (.agg #[.bool b, .int .u64 (l0 n), .int .u64 (l1 n), .int .u64 (l2 n), .int .u64 (l3 n), .int .i64 ((k : Int))]) (.agg #[.bool b, .int .u64 (l0 n), .int .u64 (l1 n), .int .u64 (l2 n), .int .u64 (l3 n), .int .i64 ((k : Int))]) (.bool false) (fun _ => rfl) rfl rfl (ned_run (r := true) (self6 _ _ _ _ _ _) _ _ _) rfl ?_
  refine wl_pick (.tmp 34) (.const (.bool true)) (.tmp 37) false (.bool false) (fun _ => rfl) rfl rfl rfl ?_
  refine wl_mv (.tmp 38) (.bool false) (fun _ => rfl) rfl rfl ?_
  refine wl_load 26 (.tmp 7) (pt (kf7 8) 0) (.agg #[.bool b, .int .u64 (l0 n), .int .u64 (l1 n), .int .u64 (l2 n), .int .u64 (l3 n), .int .i64 ((k : Int))]) rfl rfl (run_row Q3 26 0 6 [.bool b, .int .u64 (l0 n), .int .u64 (l1 n), .int .u64 (l2 n), .int .u64 (l3 n), .int .i64 ((k : Int))] rfl Tryd.underlying26 rfl sz26) rfl ?_
  refine wl_load 26 (.tmp 2) (pt k1 0) (.agg #[.bool b, .int .u64 (l0 n), .int .u64 (l1 n), .int .u64 (l2 n), .int .u64 (l3 n), .int .i64 ((k : Int))]) rfl rfl (run_row Q1 26 0 6 [.bool b, .int .u64 (l0 n), .int .u64 (l1 n), .int .u64 (l2 n), .int .u64 (l3 n), .int .i64 ((k : Int))] rfl Tryd.underlying26 rfl sz26) rfl ?_
  refine wl_bin (fun x y => do eqGuard .neq 26 (.tmp 40) (.tmp 41) x y; binOp .neq 26 x y) (.tmp 40) (.tmp 41) (.agg #[.bool b, .int .u64 (l0 n), .int .u64 (l1 n), .int .u64 (l2 n), .int .u64 (l3 n), .int .i64 ((k : Int))]) (.agg #[.bool b, .int .u64 (l0 n), .int .u64 (l1 n), .int .u64 (l2 n), .int .u64 (l3 n), .int .i64 ((k : Int))]) (.bool false) (fun _ => rfl) rfl rfl (ned_run (r := true) (self6 _ _ _ _ _ _) _ _ _) rfl ?_
  refine wl_pick (.tmp 39) (.const (.bool true)) (.tmp 42) false (.bool false) (fun _ => rfl) rfl rfl rfl ?_
  refine w_nil ?_
  refine xn_then ?_
  refine w_condF rfl ?_
  refine w_skip ?_
  refine xn_then ?_
  refine w_seq ?_
  refine w_seq ?_
  refine w_reg ?_
  refine wl_mv (.tmp 1) (tx (by8 s)) (fun _ => rfl) rfl rfl ?_
  refine wl_call 13 [(.tmp 45)] _ [tx (by8 s)] (.tuple #[.agg #[.bool c, .int .u64 (l0 N2), .int .u64 (l1 N2), .int .u64 (l2 N2), .int .u64 (l3 N2), .int .i64 ((j : Int))], .int .i64 (E2)]) rfl rfl (fun _ _ => by kernel_rfl) (wk (h13 _)) rfl ?_
  intro w9 hq
  replace Q1 := Q1.mo hq
  replace Q2 := Q2.mo hq
  replace Q3 := Q3.mo hq
  replace M := M.trans hq
  clear hq
  refine wl_mv (.tmp 46) (.tuple #[.agg #[.bool c, .int .u64 (l0 N2), .int .u64 (l1 N2), .int .u64 (l2 N2), .int .u64 (l3 N2), .int .i64 ((j : Int))], .int .i64 (E2)]) (fun _ => rfl) rfl rfl ?_
  refine wl_un (fun v => Instr.extract v 0) (.tmp 44) (.tuple #[.agg #[.bool c, .int .u64 (l0 N2), .int .u64 (l1 N2), .int .u64 (l2 N2), .int .u64 (l3 N2), .int .i64 ((j : Int))], .int .i64 (E2)]) (.agg #[.bool c, .int .u64 (l0 N2), .int .u64 (l1 N2), .int .u64 (l2 N2), .int .u64 (l3 N2), .int .i64 ((j : Int))]) (fun _ => rfl) rfl (by kernel_rfl) rfl ?_
  refine wl_un (fun v => Instr.extract v 1) (.tmp 44) (.tuple #[.agg #[.bool c, .int .u64 (l0 N2), .int .u64 (l1 N2), .int .u64 (l2 N2), .int .u64 (l3 N2), .int .i64 ((j : Int))], .int .i64 (E2)]) (.int .i64 (E2)) (fun _ => rfl) rfl (by kernel_rfl) rfl ?_
  refine wl_alloc 26 #[.bool false, .int .u64 0, .int .u64 0, .int .u64 0, .int .u64 0, .int .i64 0] rfl (fun _ => by kernel_rfl) rfl ?_
  intro k4 w10 hk hz hq Q4
  have ne_k1_k4 : k1 ≠ k4 := by have := Q1.lt; omega
  have ne_k2_k4 : k2 ≠ k4 := by have := Q2.lt; omega
  have ne_k3_k4 : (kf7 8) ≠ k4 := by have := Q3.lt; omega
  have N_k4 : w.heap.size ≤ k4 := by have := M.size; omega
  replace Q1 := Q1.mo hq
  replace Q2 := Q2.mo hq
  replace Q3 := Q3.mo hq
  replace M := M.trans hq
  clear hk hz hq
  refine wl_st 26 (.tmp 9) (.tmp 47) k4 0 #[.bool c, .int .u64 (l0 N2), .int .u64 (l1 N2), .int .u64 (l2 N2), .int .u64 (l3 N2), .int .i64 ((j : Int))] [.bool false, .int .u64 0, .int .u64 0, .int .u64 0, .int .u64 0, .int .i64 0] [.bool c, .int .u64 (l0 N2), .int .u64 (l1 N2), .int .u64 (l2 N2), .int .u64 (l3 N2), .int .i64 ((j : Int))] Q4 rfl rfl rfl rfl rfl sz26 rfl rfl rfl ?_
  intro w11 hS Qn
  replace Q4 := Qn
  clear Qn
  replace Q1 := hS.other _ _ ne_k1_k4 Q1
  replace Q2 := hS.other _ _ ne_k2_k4 Q2
  replace Q3 := hS.other _ _ ne_k3_k4 Q3
  replace M := hS.mo _ N_k4 M
  clear hS
  refine wl_mv (.tmp 48) (.int .i64 (E2)) (fun _ => rfl) rfl rfl ?_
  refine w_nil ?_
  refine xn_then ?_
  refine w_seq ?_
  refine w_reg ?_
  refine wl_mv (.tmp 10) (.int .i64 (E2)) (fun _ => rfl) rfl rfl ?_
  refine wl_bin (fun x y => do eqGuard .eql 30 (.tmp 49) (.const (.int .i64 (0))) x y; binOp .eql 30 x y) (.tmp 49) (.const (.int .i64 (0))) (.int .i64 (E2)) (.int .i64 (0)) (.bool true) (fun _ => rfl) rfl rfl (eq30b hE _ _ _) rfl ?_
  refine wl_mv (.tmp 50) (.bool true) (fun _ => rfl) rfl rfl ?_
  refine wl_load 26 (.tmp 9) (pt k4 0) (.agg #[.bool c, .int .u64 (l0 N2), .int .u64 (l1 N2), .int .u64 (l2 N2), .int .u64 (l3 N2), .int .i64 ((j : Int))]) rfl rfl (run_row Q4 26 0 6 [.bool c, .int .u64 (l0 N2), .int .u64 (l1 N2), .int .u64 (l2 N2), .int .u64 (l3 N2), .int .i64 ((j : Int))] rfl Tryd.underlying26 rfl sz26) rfl ?_
  refine wl_call 9 [(.tmp 52)] _ [.agg #[.bool c, .int .u64 (l0 N2), .int .u64 (l1 N2), .int .u64 (l2 N2), .int .u64 (l3 N2), .int .i64 ((j : Int))]] (tx (by8 s)) rfl rfl (fun _ _ => by kernel_rfl) (hT _) rfl ?_
  intro w12 hq
  replace Q1 := Q1.mo hq
  replace Q2 := Q2.mo hq
  replace Q3 := Q3.mo hq
  replace Q4 := Q4.mo hq
  replace M := M.trans hq
  clear hq
  refine wl_mv (.tmp 1) (tx (by8 s)) (fun _ => rfl) rfl rfl ?_
  refine wl_bin (fun x y => do eqGuard .neq 9 (.tmp 53) (.tmp 54) x y; binOp .neq 9 x y) (.tmp 53) (.tmp 54) (tx (by8 s)) (tx (by8 s)) (.bool false) (fun _ => rfl) rfl rfl (nes_run _ _ _ _) rfl ?_
  refine wl_pick (.tmp 51) (.tmp 55) (.const (.bool false)) true (.bool false) (fun _ => rfl) rfl rfl rfl ?_
  refine w_nil ?_
  refine xn_then ?_
  refine w_condF rfl ?_
  refine w_skip ?_
  refine xn_then ?_
  refine w_seq ?_
  refine w_reg ?_
  refine wl_call 8 [] _ [] (.bool true) rfl rfl (fun _ _ => by kernel_rfl) (live_n _) rfl ?_
  intro w13 hq
  replace Q1 := Q1.mo hq
  replace Q2 := Q2.mo hq
  replace Q3 := Q3.mo hq
  replace Q4 := Q4.mo hq
  replace M := M.trans hq
  clear hq
  refine wl_mv (.tmp 57) (.bool true) (fun _ => rfl) rfl rfl ?_
  refine w_nil ?_
  refine xn_then ?_
  refine w_ret ?_
  exact w_ret1 _ (.bool true) rfl rfl ⟨rfl, M⟩
theorem dback_kf (b : Bool) (n : Int) (k : Nat) (s : ByteArray) (w : World) (hn0 : 0 ≤ n) (hnM : n < MM) (hk : k ≤ 18) (hck : ck b n (k : Int) = 0) (c : Bool) (N2 E2 : Int) (j : Nat) (h13 : ∀ w, Calls Tryd.prog 13 #[tx (by8 s)] w fun e w' => e = .returned (.tuple #[dc c N2 (j : Int), .int .i64 E2]) ∧ Mo w w') (hE : (E2 == 0) = false) : Calls Tryd.prog 6 #[dc b n (k : Int), tx (by8 s)] w fun e w' => e = .returned (.bool true) ∧ Mw w w' := by
  refine w_enter 58 Tryd.func6 Tryd.ntmps6 rfl rfl ?_
  have M : Mw w w := Mw.refl _
  refine w_seq ?_
  refine w_reg ?_
  refine wl_box 26 (.tmp 0) (.agg #[.bool b, .int .u64 (l0 n), .int .u64 (l1 n), .int .u64 (l2 n), .int .u64 (l3 n), .int .i64 ((k : Int))]) (#[.bool b, .int .u64 (l0 n), .int .u64 (l1 n), .int .u64 (l2 n), .int .u64 (l3 n), .int .i64 ((k : Int))]) rfl rfl (fun _ => by kernel_rfl) rfl ?_
  intro k1 w1 hk hz hq Q1
  have N_k1 : w.heap.size ≤ k1 := by have := M.size; omega
  replace M := M.trans hq
  clear hk hz hq
  refine wl_mv (.const (.bool false)) (.bool false) (fun _ => rfl) rfl rfl ?_
  refine w_nil ?_
  refine xn_then ?_
  refine w_seq ?_
  refine w_seq ?_
  refine w_reg ?_
  refine wl_load 26 (.tmp 2) (pt k1 0) (.agg #[.bool b, .int .u64 (l0 n), .int .u64 (l1 n), .int .u64 (l2 n), .int .u64 (l3 n), .int .i64 ((k : Int))]) rfl rfl (run_row Q1 26 0 6 [.bool b, .int .u64 (l0 n), .int .u64 (l1 n), .int .u64 (l2 n), .int .u64 (l3 n), .int .i64 ((k : Int))] rfl Tryd.underlying26 rfl sz26) rfl ?_
  refine wl_call 19 [(.tmp 11)] _ [.agg #[.bool b, .int .u64 (l0 n), .int .u64 (l1 n), .int .u64 (l2 n), .int .u64 (l3 n), .int .i64 ((k : Int))]] (.int .i64 (0)) rfl rfl (fun _ _ => by kernel_rfl) (wk (rcheck_ok b n (k : Int) _ hn0 hnM hck)) rfl ?_
  intro w2 hq
  replace Q1 := Q1.mo hq
  replace M := M.trans hq
  clear hq
  refine wl_bin (fun x y => do eqGuard .eql 30 (.tmp 12) (.const (.int .i64 (0))) x y; binOp .eql 30 x y) (.tmp 12) (.const (.int .i64 (0))) (.int .i64 (0)) (.int .i64 (0)) (.bool true) (fun _ => rfl) rfl rfl (eq30b (r := true) rfl _ _ _) rfl ?_
  refine w_nil ?_
  refine xn_then ?_
  refine w_condT rfl ?_
  refine w_seq ?_
  refine w_reg ?_
  refine wl_load 26 (.tmp 2) (pt k1 0) (.agg #[.bool b, .int .u64 (l0 n), .int .u64 (l1 n), .int .u64 (l2 n), .int .u64 (l3 n), .int .i64 ((k : Int))]) rfl rfl (run_row Q1 26 0 6 [.bool b, .int .u64 (l0 n), .int .u64 (l1 n), .int .u64 (l2 n), .int .u64 (l3 n), .int .i64 ((k : Int))] rfl Tryd.underlying26 rfl sz26) rfl ?_
  refine wl_call 9 [(.tmp 15)] _ [.agg #[.bool b, .int .u64 (l0 n), .int .u64 (l1 n), .int .u64 (l2 n), .int .u64 (l3 n), .int .i64 ((k : Int))]] (tx (txt b n k)) rfl rfl (fun _ _ => by kernel_rfl) (text_ok b n k _ hn0 hnM hk hck) rfl ?_
  intro w3 hq
  replace Q1 := Q1.mo hq
  replace M := M.trans hq
  clear hq
  refine wl_call 13 [(.tmp 16)] _ [tx (txt b n k)] (.tuple #[.agg #[.bool b, .int .u64 (l0 n), .int .u64 (l1 n), .int .u64 (l2 n), .int .u64 (l3 n), .int .i64 ((k : Int))], .int .i64 (0)]) rfl rfl (fun _ _ => by kernel_rfl) (wk (parse_txt hn0 hnM hk hck _)) rfl ?_
  intro w4 hq
  replace Q1 := Q1.mo hq
  replace M := M.trans hq
  clear hq
  refine wl_mv (.tmp 17) (.tuple #[.agg #[.bool b, .int .u64 (l0 n), .int .u64 (l1 n), .int .u64 (l2 n), .int .u64 (l3 n), .int .i64 ((k : Int))], .int .i64 (0)]) (fun _ => rfl) rfl rfl ?_
  refine wl_un (fun v => Instr.extract v 0) (.tmp 14) (.tuple #[.agg #[.bool b, .int .u64 (l0 n), .int .u64 (l1 n), .int .u64 (l2 n), .int .u64 (l3 n), .int .i64 ((k : Int))], .int .i64 (0)]) (.agg #[.bool b, .int .u64 (l0 n), .int .u64 (l1 n), .int .u64 (l2 n), .int .u64 (l3 n), .int .i64 ((k : Int))]) (fun _ => rfl) rfl (by kernel_rfl) rfl ?_
  refine wl_un (fun v => Instr.extract v 1) (.tmp 14) (.tuple #[.agg #[.bool b, .int .u64 (l0 n), .int .u64 (l1 n), .int .u64 (l2 n), .int .u64 (l3 n), .int .i64 ((k : Int))], .int .i64 (0)]) (.int .i64 (0)) (fun _ => rfl) rfl (by kernel_rfl) rfl ?_
  refine wl_alloc 26 #[.bool false, .int .u64 0, .int .u64 0, .int .u64 0, .int .u64 0, .int .i64 0] rfl (fun _ => by kernel_rfl) rfl ?_
  intro k2 w5 hk hz hq Q2
  have ne_k1_k2 : k1 ≠ k2 := by have := Q1.lt; omega
  have N_k2 : w.heap.size ≤ k2 := by have := M.size; omega
  replace Q1 := Q1.mo hq
  replace M := M.trans hq
  clear hk hz hq
  refine wl_st 26 (.tmp 5) (.tmp 18) k2 0 #[.bool b, .int .u64 (l0 n), .int .u64 (l1 n), .int .u64 (l2 n), .int .u64 (l3 n), .int .i64 ((k : Int))] [.bool false, .int .u64 0, .int .u64 0, .int .u64 0, .int .u64 0, .int .i64 0] [.bool b, .int .u64 (l0 n), .int .u64 (l1 n), .int .u64 (l2 n), .int .u64 (l3 n), .int .i64 ((k : Int))] Q2 rfl rfl rfl rfl rfl sz26 rfl rfl rfl ?_
  intro w6 hS Qn
  replace Q2 := Qn
  clear Qn
  replace Q1 := hS.other _ _ ne_k1_k2 Q1
  replace M := hS.mo _ N_k2 M
  clear hS
  refine wl_mv (.tmp 19) (.int .i64 (0)) (fun _ => rfl) rfl rfl ?_
  refine w_nil ?_
  refine xn_then ?_
  refine w_seq ?_
  refine w_any 9 [.inl (.agg #[.bool b, .int .u64 (l0 n), .int .u64 (l1 n), .int .u64 (l2 n), .int .u64 (l3 n), .int .i64 ((k : Int))]), .inl (tx (txt b (trN k n).1 (trN k n).2)), .inl (pt k1 5), .inl (.int .i64 ((k : Int))), .inl (.tuple #[.agg #[.bool b, .int .u64 (l0 n), .int .u64 (l1 n), .int .u64 (l2 n), .int .u64 (l3 n), .int .i64 ((k : Int))], .int .i64 (0)]), .inl (.tuple #[.agg #[.bool b, .int .u64 (l0 n), .int .u64 (l1 n), .int .u64 (l2 n), .int .u64 (l3 n), .int .i64 ((k : Int))], .int .i64 (0)]), .inl (.agg #[.bool b, .int .u64 (l0 n), .int .u64 (l1 n), .int .u64 (l2 n), .int .u64 (l3 n), .int .i64 ((k : Int))]), .inl (.int .i64 (0)), .inr [.bool false, .int .u64 0, .int .u64 0, .int .u64 0, .int .u64 0, .int .i64 0]] [7] (by kernel_rfl) (by kernel_rfl) (by kernel_rfl) (by kernel_rfl) rfl (by kernel_rfl) (by kernel_rfl) (late_cons ⟨_, _, rfl, rfl, fun _ _ _ _ h => h, fun f hd => ⟨rfl, la_un (fun v => Instr.extract v 1) (.tmp 20) (.tuple #[.agg #[.bool b, .int .u64 (l0 n), .int .u64 (l1 n), .int .u64 (l2 n), .int .u64 (l3 n), .int .i64 ((k : Int))], .int .i64 (0)]) (.int .i64 (0)) (fun _ => rfl) (hd 5 rfl _ rfl) (fun w => by kernel_rfl)⟩⟩ late_nil) ?_ ?_ ?_
  · exact Ds.start (by kernel_rfl)
  · refine ea_cons ?_ (ea_cons ?_ (ea_cons ?_ (ea_cons ?_ (ea_cons ?_ (ea_cons ?_ (ea_cons ?_ (ea_cons ?_ (ea_cons ?_ (ea_nil)))))))))
    · exact og_eq (.agg #[.bool b, .int .u64 (l0 n), .int .u64 (l1 n), .int .u64 (l2 n), .int .u64 (l3 n), .int .i64 ((k : Int))]) rfl (fun f wf hq hd K hK => have Q1 := Q1.mo hq; go_run rfl (wo_load 26 (.tmp 2) (pt k1 0) (.agg #[.bool b, .int .u64 (l0 n), .int .u64 (l1 n), .int .u64 (l2 n), .int .u64 (l3 n), .int .i64 ((k : Int))]) rfl rfl (run_row Q1 26 0 6 [.bool b, .int .u64 (l0 n), .int .u64 (l1 n), .int .u64 (l2 n), .int .u64 (l3 n), .int .i64 ((k : Int))] rfl Tryd.underlying26 rfl sz26) (hK _ (Mw.refl _))))
    · exact og_eq (tx (txt b (trN k n).1 (trN k n).2)) rfl (fun f wf hq hd K hK => go_run rfl (wo_call 11 [(.tmp 21)] _ [.agg #[.bool b, .int .u64 (l0 n), .int .u64 (l1 n), .int .u64 (l2 n), .int .u64 (l3 n), .int .i64 ((k : Int))]] (tx (txt b (trN k n).1 (trN k n).2)) rfl (li1 (hd 0 rfl)) (fun _ _ => by kernel_rfl) (short_ok b n k _ hn0 hnM hk hck) hK))
    · exact og_eq (pt k1 5) rfl (fun f wf hq hd K hK => go_run rfl (wo_un (fun v => Instr.fieldAt 26 v 2) (.tmp 2) (pt k1 0) (pt k1 5) (fun _ => rfl) rfl (by kernel_rfl) (hK _ (Mw.refl _))))
    · exact og_eq (.int .i64 ((k : Int))) rfl (fun f wf hq hd K hK => have Q1 := Q1.mo hq; go_run rfl (wo_load 3 (.tmp 23) (pt k1 5) (.int .i64 ((k : Int))) rfl (hd 2 rfl) (run_one Q1 3 5 rfl Tryd.underlying3 rfl) (hK _ (Mw.refl _))))
    · exact og_eq (.tuple #[.agg #[.bool b, .int .u64 (l0 n), .int .u64 (l1 n), .int .u64 (l2 n), .int .u64 (l3 n), .int .i64 ((k : Int))], .int .i64 (0)]) rfl (fun f wf hq hd K hK => go_run rfl (wo_call 15 [(.tmp 22), (.tmp 24)] _ [tx (txt b (trN k n).1 (trN k n).2), .int .i64 ((k : Int))] (.tuple #[.agg #[.bool b, .int .u64 (l0 n), .int .u64 (l1 n), .int .u64 (l2 n), .int .u64 (l3 n), .int .i64 ((k : Int))], .int .i64 (0)]) rfl (li2 (hd 1 rfl) (hd 3 rfl)) (fun _ _ => by kernel_rfl) (wk (parseAt_txt hn0 hnM hk hck _)) hK))
    · exact og_eq (.tuple #[.agg #[.bool b, .int .u64 (l0 n), .int .u64 (l1 n), .int .u64 (l2 n), .int .u64 (l3 n), .int .i64 ((k : Int))], .int .i64 (0)]) rfl (fun f wf hq hd K hK => go_run rfl (wo_mv (.tmp 25) (.tuple #[.agg #[.bool b, .int .u64 (l0 n), .int .u64 (l1 n), .int .u64 (l2 n), .int .u64 (l3 n), .int .i64 ((k : Int))], .int .i64 (0)]) (fun _ => rfl) (hd 4 rfl) (hK _ (Mw.refl _))))
    · exact og_eq (.agg #[.bool b, .int .u64 (l0 n), .int .u64 (l1 n), .int .u64 (l2 n), .int .u64 (l3 n), .int .i64 ((k : Int))]) rfl (fun f wf hq hd K hK => go_run rfl (wo_un (fun v => Instr.extract v 0) (.tmp 20) (.tuple #[.agg #[.bool b, .int .u64 (l0 n), .int .u64 (l1 n), .int .u64 (l2 n), .int .u64 (l3 n), .int .i64 ((k : Int))], .int .i64 (0)]) (.agg #[.bool b, .int .u64 (l0 n), .int .u64 (l1 n), .int .u64 (l2 n), .int .u64 (l3 n), .int .i64 ((k : Int))]) (fun _ => rfl) (hd 5 rfl) (by kernel_rfl) (hK _ (Mw.refl _))))
    · exact og_eq (.int .i64 (0)) rfl (fun f wf hq hd K hK => go_run rfl (wo_un (fun v => Instr.extract v 1) (.tmp 20) (.tuple #[.agg #[.bool b, .int .u64 (l0 n), .int .u64 (l1 n), .int .u64 (l2 n), .int .u64 (l3 n), .int .i64 ((k : Int))], .int .i64 (0)]) (.int .i64 (0)) (fun _ => rfl) (hd 5 rfl) (by kernel_rfl) (hK _ (Mw.refl _))))
    · exact og_new [.bool false, .int .u64 0, .int .u64 0, .int .u64 0, .int .u64 0, .int .i64 0] rfl (fun f wf hq hd K hK => go_run rfl (wo_alloc 26 #[.bool false, .int .u64 0, .int .u64 0, .int .u64 0, .int .u64 0, .int .i64 0] rfl (fun _ => by kernel_rfl) hK))
  intro kf7 w7 hq hR hne
  obtain ⟨N_k3, Q3⟩ := hR 8 _ rfl rfl
  have ne_k1_k3 : k1 ≠ (kf7 8) := by have := Q1.lt; omega
  have ne_k2_k3 : k2 ≠ (kf7 8) := by have := Q2.lt; omega
  replace N_k3 := Nat.le_trans M.size N_k3
  replace Q1 := Q1.mo hq
  replace Q2 := Q2.mo hq
  replace M := M.trans hq
  clear hq hR hne
  refine wl_st 26 (.tmp 7) (.tmp 26) (kf7 8) 0 #[.bool b, .int .u64 (l0 n), .int .u64 (l1 n), .int .u64 (l2 n), .int .u64 (l3 n), .int .i64 ((k : Int))] [.bool false, .int .u64 0, .int .u64 0, .int .u64 0, .int .u64 0, .int .i64 0] [.bool b, .int .u64 (l0 n), .int .u64 (l1 n), .int .u64 (l2 n), .int .u64 (l3 n), .int .i64 ((k : Int))] Q3 rfl rfl rfl rfl rfl sz26 rfl rfl rfl ?_
  intro w8 hS Qn
  replace Q3 := Qn
  clear Qn
  replace Q1 := hS.other _ _ ne_k1_k3 Q1
  replace Q2 := hS.other _ _ ne_k2_k3 Q2
  replace M := hS.mo _ N_k3 M
  clear hS
  refine wl_mv (.tmp 27) (.int .i64 (0)) (fun _ => rfl) rfl rfl ?_
  refine w_nil ?_
  refine xn_then ?_
  refine w_seq ?_
  refine w_reg ?_
  refine wl_mv (.tmp 6) (.int .i64 (0)) (fun _ => rfl) rfl rfl ?_
  refine wl_bin (fun x y => do eqGuard .neq 30 (.tmp 28) (.const (.int .i64 (0))) x y; binOp .neq 30 x y) (.tmp 28) (.const (.int .i64 (0))) (.int .i64 (0)) (.int .i64 (0)) (.bool false) (fun _ => rfl) rfl rfl (neE (r := true) rfl _ _ _) rfl ?_
  refine wl_mv (.tmp 29) (.bool false) (fun _ => rfl) rfl rfl ?_
  refine wl_mv (.tmp 8) (.int .i64 (0)) (fun _ => rfl) rfl rfl ?_
  refine wl_bin (fun x y => do eqGuard .neq 30 (.tmp 31) (.const (.int .i64 (0))) x y; binOp .neq 30 x y) (.tmp 31) (.const (.int .i64 (0))) (.int .i64 (0)) (.int .i64 (0)) (.bool false) (fun _ => rfl) rfl rfl (neE (r := true) rfl _ _ _) rfl ?_
  refine wl_pick (.tmp 30) (.const (.bool true)) (.tmp 32) false (.bool false) (fun _ => rfl) rfl rfl rfl ?_
  refine wl_mv (.tmp 33) (.bool false) (fun _ => rfl) rfl rfl ?_
  refine wl_load 26 (.tmp 5) (pt k2 0) (.agg #[.bool b, .int .u64 (l0 n), .int .u64 (l1 n), .int .u64 (l2 n), .int .u64 (l3 n), .int .i64 ((k : Int))]) rfl rfl (run_row Q2 26 0 6 [.bool b, .int .u64 (l0 n), .int .u64 (l1 n), .int .u64 (l2 n), .int .u64 (l3 n), .int .i64 ((k : Int))] rfl Tryd.underlying26 rfl sz26) rfl ?_
  refine wl_load 26 (.tmp 2) (pt k1 0) (.agg #[.bool b, .int .u64 (l0 n), .int .u64 (l1 n), .int .u64 (l2 n), .int .u64 (l3 n), .int .i64 ((k : Int))]) rfl rfl (run_row Q1 26 0 6 [.bool b, .int .u64 (l0 n), .int .u64 (l1 n), .int .u64 (l2 n), .int .u64 (l3 n), .int .i64 ((k : Int))] rfl Tryd.underlying26 rfl sz26) rfl ?_
  refine wl_bin (fun x y => do eqGuard .neq 26 (.tmp 35) (.tmp 36) x y; binOp .neq 26 x y) (.tmp 35) (.tmp 36) (.agg #[.bool b, .int .u64 (l0 n), .int .u64 (l1 n), .int .u64 (l2 n), .int .u64 (l3 n), .int .i64 ((k : Int))]) (.agg #[.bool b, .int .u64 (l0 n), .int .u64 (l1 n), .int .u64 (l2 n), .int .u64 (l3 n), .int .i64 ((k : Int))]) (.bool false) (fun _ => rfl) rfl rfl (ned_run (r := true) (self6 _ _ _ _ _ _) _ _ _) rfl ?_
  refine wl_pick (.tmp 34) (.const (.bool true)) (.tmp 37) false (.bool false) (fun _ => rfl) rfl rfl rfl ?_
  refine wl_mv (.tmp 38) (.bool false) (fun _ => rfl) rfl rfl ?_
  refine wl_load 26 (.tmp 7) (pt (kf7 8) 0) (.agg #[.bool b, .int .u64 (l0 n), .int .u64 (l1 n), .int .u64 (l2 n), .int .u64 (l3 n), .int .i64 ((k : Int))]) rfl rfl (run_row Q3 26 0 6 [.bool b, .int .u64 (l0 n), .int .u64 (l1 n), .int .u64 (l2 n), .int .u64 (l3 n), .int .i64 ((k : Int))] rfl Tryd.underlying26 rfl sz26) rfl ?_
  refine wl_load 26 (.tmp 2) (pt k1 0) (.agg #[.bool b, .int .u64 (l0 n), .int .u64 (l1 n), .int .u64 (l2 n), .int .u64 (l3 n), .int .i64 ((k : Int))]) rfl rfl (run_row Q1 26 0 6 [.bool b, .int .u64 (l0 n), .int .u64 (l1 n), .int .u64 (l2 n), .int .u64 (l3 n), .int .i64 ((k : Int))] rfl Tryd.underlying26 rfl sz26) rfl ?_
  refine wl_bin (fun x y => do eqGuard .neq 26 (.tmp 40) (.tmp 41) x y; binOp .neq 26 x y) (.tmp 40) (.tmp 41) (.agg #[.bool b, .int .u64 (l0 n), .int .u64 (l1 n), .int .u64 (l2 n), .int .u64 (l3 n), .int .i64 ((k : Int))]) (.agg #[.bool b, .int .u64 (l0 n), .int .u64 (l1 n), .int .u64 (l2 n), .int .u64 (l3 n), .int .i64 ((k : Int))]) (.bool false) (fun _ => rfl) rfl rfl (ned_run (r := true) (self6 _ _ _ _ _ _) _ _ _) rfl ?_
  refine wl_pick (.tmp 39) (.const (.bool true)) (.tmp 42) false (.bool false) (fun _ => rfl) rfl rfl rfl ?_
  refine w_nil ?_
  refine xn_then ?_
  refine w_condF rfl ?_
  refine w_skip ?_
  refine xn_then ?_
  refine w_seq ?_
  refine w_seq ?_
  refine w_reg ?_
  refine wl_mv (.tmp 1) (tx (by8 s)) (fun _ => rfl) rfl rfl ?_
  refine wl_call 13 [(.tmp 45)] _ [tx (by8 s)] (.tuple #[.agg #[.bool c, .int .u64 (l0 N2), .int .u64 (l1 N2), .int .u64 (l2 N2), .int .u64 (l3 N2), .int .i64 ((j : Int))], .int .i64 (E2)]) rfl rfl (fun _ _ => by kernel_rfl) (wk (h13 _)) rfl ?_
  intro w9 hq
  replace Q1 := Q1.mo hq
  replace Q2 := Q2.mo hq
  replace Q3 := Q3.mo hq
  replace M := M.trans hq
  clear hq
  refine wl_mv (.tmp 46) (.tuple #[.agg #[.bool c, .int .u64 (l0 N2), .int .u64 (l1 N2), .int .u64 (l2 N2), .int .u64 (l3 N2), .int .i64 ((j : Int))], .int .i64 (E2)]) (fun _ => rfl) rfl rfl ?_
  refine wl_un (fun v => Instr.extract v 0) (.tmp 44) (.tuple #[.agg #[.bool c, .int .u64 (l0 N2), .int .u64 (l1 N2), .int .u64 (l2 N2), .int .u64 (l3 N2), .int .i64 ((j : Int))], .int .i64 (E2)]) (.agg #[.bool c, .int .u64 (l0 N2), .int .u64 (l1 N2), .int .u64 (l2 N2), .int .u64 (l3 N2), .int .i64 ((j : Int))]) (fun _ => rfl) rfl (by kernel_rfl) rfl ?_
  refine wl_un (fun v => Instr.extract v 1) (.tmp 44) (.tuple #[.agg #[.bool c, .int .u64 (l0 N2), .int .u64 (l1 N2), .int .u64 (l2 N2), .int .u64 (l3 N2), .int .i64 ((j : Int))], .int .i64 (E2)]) (.int .i64 (E2)) (fun _ => rfl) rfl (by kernel_rfl) rfl ?_
  refine wl_alloc 26 #[.bool false, .int .u64 0, .int .u64 0, .int .u64 0, .int .u64 0, .int .i64 0] rfl (fun _ => by kernel_rfl) rfl ?_
  intro k4 w10 hk hz hq Q4
  have ne_k1_k4 : k1 ≠ k4 := by have := Q1.lt; omega
  have ne_k2_k4 : k2 ≠ k4 := by have := Q2.lt; omega
  have ne_k3_k4 : (kf7 8) ≠ k4 := by have := Q3.lt; omega
  have N_k4 : w.heap.size ≤ k4 := by have := M.size; omega
  replace Q1 := Q1.mo hq
  replace Q2 := Q2.mo hq
  replace Q3 := Q3.mo hq
  replace M := M.trans hq
  clear hk hz hq
  refine wl_st 26 (.tmp 9) (.tmp 47) k4 0 #[.bool c, .int .u64 (l0 N2), .int .u64 (l1 N2), .int .u64 (l2 N2), .int .u64 (l3 N2), .int .i64 ((j : Int))] [.bool false, .int .u64 0, .int .u64 0, .int .u64 0, .int .u64 0, .int .i64 0] [.bool c, .int .u64 (l0 N2), .int .u64 (l1 N2), .int .u64 (l2 N2), .int .u64 (l3 N2), .int .i64 ((j : Int))] Q4 rfl rfl rfl rfl rfl sz26 rfl rfl rfl ?_
  intro w11 hS Qn
  replace Q4 := Qn
  clear Qn
  replace Q1 := hS.other _ _ ne_k1_k4 Q1
  replace Q2 := hS.other _ _ ne_k2_k4 Q2
  replace Q3 := hS.other _ _ ne_k3_k4 Q3
  replace M := hS.mo _ N_k4 M
  clear hS
  refine wl_mv (.tmp 48) (.int .i64 (E2)) (fun _ => rfl) rfl rfl ?_
  refine w_nil ?_
  refine xn_then ?_
  refine w_seq ?_
  refine w_reg ?_
  refine wl_mv (.tmp 10) (.int .i64 (E2)) (fun _ => rfl) rfl rfl ?_
  refine wl_bin (fun x y => do eqGuard .eql 30 (.tmp 49) (.const (.int .i64 (0))) x y; binOp .eql 30 x y) (.tmp 49) (.const (.int .i64 (0))) (.int .i64 (E2)) (.int .i64 (0)) (.bool false) (fun _ => rfl) rfl rfl (eq30b hE _ _ _) rfl ?_
  refine wl_mv (.tmp 50) (.bool false) (fun _ => rfl) rfl rfl ?_
  refine wl_skip rfl ?_
  refine wl_skip rfl ?_
  refine wl_skip rfl ?_
  refine wl_skip rfl ?_
  refine wl_pick (.tmp 51) (.tmp 55) (.const (.bool false)) false (.bool false) (fun _ => rfl) rfl rfl rfl ?_
  refine w_nil ?_
  refine xn_then ?_
  refine w_condF rfl ?_
  refine w_skip ?_
  refine xn_then ?_
  refine w_seq ?_
  refine w_reg ?_
  refine wl_call 8 [] _ [] (.bool true) rfl rfl (fun _ _ => by kernel_rfl) (live_n _) rfl ?_
  intro w12 hq
  replace Q1 := Q1.mo hq
  replace Q2 := Q2.mo hq
  replace Q3 := Q3.mo hq
  replace Q4 := Q4.mo hq
  replace M := M.trans hq
  clear hq
  refine wl_mv (.tmp 57) (.bool true) (fun _ => rfl) rfl rfl ?_
  refine w_nil ?_
  refine xn_then ?_
  refine w_ret ?_
  exact w_ret1 _ (.bool true) rfl rfl ⟨rfl, M⟩
theorem dback_nt (b : Bool) (n : Int) (s0 : Int) (s : ByteArray) (w : World) (hn0 : 0 ≤ n) (hnM : n < MM) (hck : ck b n s0 ≠ 0) (c : Bool) (N2 E2 : Int) (j : Nat) (h13 : ∀ w, Calls Tryd.prog 13 #[tx (by8 s)] w fun e w' => e = .returned (.tuple #[dc c N2 (j : Int), .int .i64 E2]) ∧ Mo w w') (hE : (E2 == 0) = true) (hT : ∀ w, Calls Tryd.prog 9 #[dc c N2 (j : Int)] w fun e w' => e = .returned (tx (by8 s)) ∧ Mw w w') : Calls Tryd.prog 6 #[dc b n s0, tx (by8 s)] w fun e w' => e = .returned (.bool true) ∧ Mw w w' := by
  refine w_enter 58 Tryd.func6 Tryd.ntmps6 rfl rfl ?_
  have M : Mw w w := Mw.refl _
  refine w_seq ?_
  refine w_reg ?_
  refine wl_box 26 (.tmp 0) (.agg #[.bool b, .int .u64 (l0 n), .int .u64 (l1 n), .int .u64 (l2 n), .int .u64 (l3 n), .int .i64 (s0)]) (#[.bool b, .int .u64 (l0 n), .int .u64 (l1 n), .int .u64 (l2 n), .int .u64 (l3 n), .int .i64 (s0)]) rfl rfl (fun _ => by kernel_rfl) rfl ?_
  intro k1 w1 hk hz hq Q1
  have N_k1 : w.heap.size ≤ k1 := by have := M.size; omega
  replace M := M.trans hq
  clear hk hz hq
  refine wl_mv (.const (.bool false)) (.bool false) (fun _ => rfl) rfl rfl ?_
  refine w_nil ?_
  refine xn_then ?_
  refine w_seq ?_
  refine w_seq ?_
  refine w_reg ?_
  refine wl_load 26 (.tmp 2) (pt k1 0) (.agg #[.bool b, .int .u64 (l0 n), .int .u64 (l1 n), .int .u64 (l2 n), .int .u64 (l3 n), .int .i64 (s0)]) rfl rfl (run_row Q1 26 0 6 [.bool b, .int .u64 (l0 n), .int .u64 (l1 n), .int .u64 (l2 n), .int .u64 (l3 n), .int .i64 (s0)] rfl Tryd.underlying26 rfl sz26) rfl ?_
  refine wl_call 19 [(.tmp 11)] _ [.agg #[.bool b, .int .u64 (l0 n), .int .u64 (l1 n), .int .u64 (l2 n), .int .u64 (l3 n), .int .i64 (s0)]] (.int .i64 (20)) rfl rfl (fun _ _ => by kernel_rfl) (wk (rcheck_no b n s0 _ hn0 hnM hck)) rfl ?_
  intro w2 hq
  replace Q1 := Q1.mo hq
  replace M := M.trans hq
  clear hq
  refine wl_bin (fun x y => do eqGuard .eql 30 (.tmp 12) (.const (.int .i64 (0))) x y; binOp .eql 30 x y) (.tmp 12) (.const (.int .i64 (0))) (.int .i64 (20)) (.int .i64 (0)) (.bool false) (fun _ => rfl) rfl rfl (eq30b (r := false) rfl _ _ _) rfl ?_
  refine w_nil ?_
  refine xn_then ?_
  refine w_condF rfl ?_
  refine w_skip ?_
  refine xn_then ?_
  refine w_seq ?_
  refine w_seq ?_
  refine w_reg ?_
  refine wl_mv (.tmp 1) (tx (by8 s)) (fun _ => rfl) rfl rfl ?_
  refine wl_call 13 [(.tmp 45)] _ [tx (by8 s)] (.tuple #[.agg #[.bool c, .int .u64 (l0 N2), .int .u64 (l1 N2), .int .u64 (l2 N2), .int .u64 (l3 N2), .int .i64 ((j : Int))], .int .i64 (E2)]) rfl rfl (fun _ _ => by kernel_rfl) (wk (h13 _)) rfl ?_
  intro w3 hq
  replace Q1 := Q1.mo hq
  replace M := M.trans hq
  clear hq
  refine wl_mv (.tmp 46) (.tuple #[.agg #[.bool c, .int .u64 (l0 N2), .int .u64 (l1 N2), .int .u64 (l2 N2), .int .u64 (l3 N2), .int .i64 ((j : Int))], .int .i64 (E2)]) (fun _ => rfl) rfl rfl ?_
  refine wl_un (fun v => Instr.extract v 0) (.tmp 44) (.tuple #[.agg #[.bool c, .int .u64 (l0 N2), .int .u64 (l1 N2), .int .u64 (l2 N2), .int .u64 (l3 N2), .int .i64 ((j : Int))], .int .i64 (E2)]) (.agg #[.bool c, .int .u64 (l0 N2), .int .u64 (l1 N2), .int .u64 (l2 N2), .int .u64 (l3 N2), .int .i64 ((j : Int))]) (fun _ => rfl) rfl (by kernel_rfl) rfl ?_
  refine wl_un (fun v => Instr.extract v 1) (.tmp 44) (.tuple #[.agg #[.bool c, .int .u64 (l0 N2), .int .u64 (l1 N2), .int .u64 (l2 N2), .int .u64 (l3 N2), .int .i64 ((j : Int))], .int .i64 (E2)]) (.int .i64 (E2)) (fun _ => rfl) rfl (by kernel_rfl) rfl ?_
  refine wl_alloc 26 #[.bool false, .int .u64 0, .int .u64 0, .int .u64 0, .int .u64 0, .int .i64 0] rfl (fun _ => by kernel_rfl) rfl ?_
  intro k2 w4 hk hz hq Q2
  have ne_k1_k2 : k1 ≠ k2 := by have := Q1.lt; omega
  have N_k2 : w.heap.size ≤ k2 := by have := M.size; omega
  replace Q1 := Q1.mo hq
  replace M := M.trans hq
  clear hk hz hq
  refine wl_st 26 (.tmp 9) (.tmp 47) k2 0 #[.bool c, .int .u64 (l0 N2), .int .u64 (l1 N2), .int .u64 (l2 N2), .int .u64 (l3 N2), .int .i64 ((j : Int))] [.bool false, .int .u64 0, .int .u64 0, .int .u64 0, .int .u64 0, .int .i64 0] [.bool c, .int .u64 (l0 N2), .int .u64 (l1 N2), .int .u64 (l2 N2), .int .u64 (l3 N2), .int .i64 ((j : Int))] Q2 rfl rfl rfl rfl rfl sz26 rfl rfl rfl ?_
  intro w5 hS Qn
  replace Q2 := Qn
  clear Qn
  replace Q1 := hS.other _ _ ne_k1_k2 Q1
  replace M := hS.mo _ N_k2 M
  clear hS
  refine wl_mv (.tmp 48) (.int .i64 (E2)) (fun _ => rfl) rfl rfl ?_
  refine w_nil ?_
  refine xn_then ?_
  refine w_seq ?_
  refine w_reg ?_
  refine wl_mv (.tmp 10) (.int .i64 (E2)) (fun _ => rfl) rfl rfl ?_
  refine wl_bin (fun x y => do eqGuard .eql 30 (.tmp 49) (.const (.int .i64 (0))) x y; binOp .eql 30 x y) (.tmp 49) (.const (.int .i64 (0))) (.int .i64 (E2)) (.int .i64 (0)) (.bool true) (fun _ => rfl) rfl rfl (eq30b hE _ _ _) rfl ?_
  refine wl_mv (.tmp 50) (.bool true) (fun _ => rfl) rfl rfl ?_
  refine wl_load 26 (.tmp 9) (pt k2 0) (.agg #[.bool c, .int .u64 (l0 N2), .int .u64 (l1 N2), .int .u64 (l2 N2), .int .u64 (l3 N2), .int .i64 ((j : Int))]) rfl rfl (run_row Q2 26 0 6 [.bool c, .int .u64 (l0 N2), .int .u64 (l1 N2), .int .u64 (l2 N2), .int .u64 (l3 N2), .int .i64 ((j : Int))] rfl Tryd.underlying26 rfl sz26) rfl ?_
  refine wl_call 9 [(.tmp 52)] _ [.agg #[.bool c, .int .u64 (l0 N2), .int .u64 (l1 N2), .int .u64 (l2 N2), .int .u64 (l3 N2), .int .i64 ((j : Int))]] (tx (by8 s)) rfl rfl (fun _ _ => by kernel_rfl) (hT _) rfl ?_
  intro w6 hq
  replace Q1 := Q1.mo hq
  replace Q2 := Q2.mo hq
  replace M := M.trans hq
  clear hq
  refine wl_mv (.tmp 1) (tx (by8 s)) (fun _ => rfl) rfl rfl ?_
  refine wl_bin (fun x y => do eqGuard .neq 9 (.tmp 53) (.tmp 54) x y; binOp .neq 9 x y) (.tmp 53) (.tmp 54) (tx (by8 s)) (tx (by8 s)) (.bool false) (fun _ => rfl) rfl rfl (nes_run _ _ _ _) rfl ?_
  refine wl_pick (.tmp 51) (.tmp 55) (.const (.bool false)) true (.bool false) (fun _ => rfl) rfl rfl rfl ?_
  refine w_nil ?_
  refine xn_then ?_
  refine w_condF rfl ?_
  refine w_skip ?_
  refine xn_then ?_
  refine w_seq ?_
  refine w_reg ?_
  refine wl_call 8 [] _ [] (.bool true) rfl rfl (fun _ _ => by kernel_rfl) (live_n _) rfl ?_
  intro w7 hq
  replace Q1 := Q1.mo hq
  replace Q2 := Q2.mo hq
  replace M := M.trans hq
  clear hq
  refine wl_mv (.tmp 57) (.bool true) (fun _ => rfl) rfl rfl ?_
  refine w_nil ?_
  refine xn_then ?_
  refine w_ret ?_
  exact w_ret1 _ (.bool true) rfl rfl ⟨rfl, M⟩
theorem dback_nf (b : Bool) (n : Int) (s0 : Int) (s : ByteArray) (w : World) (hn0 : 0 ≤ n) (hnM : n < MM) (hck : ck b n s0 ≠ 0) (c : Bool) (N2 E2 : Int) (j : Nat) (h13 : ∀ w, Calls Tryd.prog 13 #[tx (by8 s)] w fun e w' => e = .returned (.tuple #[dc c N2 (j : Int), .int .i64 E2]) ∧ Mo w w') (hE : (E2 == 0) = false) : Calls Tryd.prog 6 #[dc b n s0, tx (by8 s)] w fun e w' => e = .returned (.bool true) ∧ Mw w w' := by
  refine w_enter 58 Tryd.func6 Tryd.ntmps6 rfl rfl ?_
  have M : Mw w w := Mw.refl _
  refine w_seq ?_
  refine w_reg ?_
  refine wl_box 26 (.tmp 0) (.agg #[.bool b, .int .u64 (l0 n), .int .u64 (l1 n), .int .u64 (l2 n), .int .u64 (l3 n), .int .i64 (s0)]) (#[.bool b, .int .u64 (l0 n), .int .u64 (l1 n), .int .u64 (l2 n), .int .u64 (l3 n), .int .i64 (s0)]) rfl rfl (fun _ => by kernel_rfl) rfl ?_
  intro k1 w1 hk hz hq Q1
  have N_k1 : w.heap.size ≤ k1 := by have := M.size; omega
  replace M := M.trans hq
  clear hk hz hq
  refine wl_mv (.const (.bool false)) (.bool false) (fun _ => rfl) rfl rfl ?_
  refine w_nil ?_
  refine xn_then ?_
  refine w_seq ?_
  refine w_seq ?_
  refine w_reg ?_
  refine wl_load 26 (.tmp 2) (pt k1 0) (.agg #[.bool b, .int .u64 (l0 n), .int .u64 (l1 n), .int .u64 (l2 n), .int .u64 (l3 n), .int .i64 (s0)]) rfl rfl (run_row Q1 26 0 6 [.bool b, .int .u64 (l0 n), .int .u64 (l1 n), .int .u64 (l2 n), .int .u64 (l3 n), .int .i64 (s0)] rfl Tryd.underlying26 rfl sz26) rfl ?_
  refine wl_call 19 [(.tmp 11)] _ [.agg #[.bool b, .int .u64 (l0 n), .int .u64 (l1 n), .int .u64 (l2 n), .int .u64 (l3 n), .int .i64 (s0)]] (.int .i64 (20)) rfl rfl (fun _ _ => by kernel_rfl) (wk (rcheck_no b n s0 _ hn0 hnM hck)) rfl ?_
  intro w2 hq
  replace Q1 := Q1.mo hq
  replace M := M.trans hq
  clear hq
  refine wl_bin (fun x y => do eqGuard .eql 30 (.tmp 12) (.const (.int .i64 (0))) x y; binOp .eql 30 x y) (.tmp 12) (.const (.int .i64 (0))) (.int .i64 (20)) (.int .i64 (0)) (.bool false) (fun _ => rfl) rfl rfl (eq30b (r := false) rfl _ _ _) rfl ?_
  refine w_nil ?_
  refine xn_then ?_
  refine w_condF rfl ?_
  refine w_skip ?_
  refine xn_then ?_
  refine w_seq ?_
  refine w_seq ?_
  refine w_reg ?_
  refine wl_mv (.tmp 1) (tx (by8 s)) (fun _ => rfl) rfl rfl ?_
  refine wl_call 13 [(.tmp 45)] _ [tx (by8 s)] (.tuple #[.agg #[.bool c, .int .u64 (l0 N2), .int .u64 (l1 N2), .int .u64 (l2 N2), .int .u64 (l3 N2), .int .i64 ((j : Int))], .int .i64 (E2)]) rfl rfl (fun _ _ => by kernel_rfl) (wk (h13 _)) rfl ?_
  intro w3 hq
  replace Q1 := Q1.mo hq
  replace M := M.trans hq
  clear hq
  refine wl_mv (.tmp 46) (.tuple #[.agg #[.bool c, .int .u64 (l0 N2), .int .u64 (l1 N2), .int .u64 (l2 N2), .int .u64 (l3 N2), .int .i64 ((j : Int))], .int .i64 (E2)]) (fun _ => rfl) rfl rfl ?_
  refine wl_un (fun v => Instr.extract v 0) (.tmp 44) (.tuple #[.agg #[.bool c, .int .u64 (l0 N2), .int .u64 (l1 N2), .int .u64 (l2 N2), .int .u64 (l3 N2), .int .i64 ((j : Int))], .int .i64 (E2)]) (.agg #[.bool c, .int .u64 (l0 N2), .int .u64 (l1 N2), .int .u64 (l2 N2), .int .u64 (l3 N2), .int .i64 ((j : Int))]) (fun _ => rfl) rfl (by kernel_rfl) rfl ?_
  refine wl_un (fun v => Instr.extract v 1) (.tmp 44) (.tuple #[.agg #[.bool c, .int .u64 (l0 N2), .int .u64 (l1 N2), .int .u64 (l2 N2), .int .u64 (l3 N2), .int .i64 ((j : Int))], .int .i64 (E2)]) (.int .i64 (E2)) (fun _ => rfl) rfl (by kernel_rfl) rfl ?_
  refine wl_alloc 26 #[.bool false, .int .u64 0, .int .u64 0, .int .u64 0, .int .u64 0, .int .i64 0] rfl (fun _ => by kernel_rfl) rfl ?_
  intro k2 w4 hk hz hq Q2
  have ne_k1_k2 : k1 ≠ k2 := by have := Q1.lt; omega
  have N_k2 : w.heap.size ≤ k2 := by have := M.size; omega
  replace Q1 := Q1.mo hq
  replace M := M.trans hq
  clear hk hz hq
  refine wl_st 26 (.tmp 9) (.tmp 47) k2 0 #[.bool c, .int .u64 (l0 N2), .int .u64 (l1 N2), .int .u64 (l2 N2), .int .u64 (l3 N2), .int .i64 ((j : Int))] [.bool false, .int .u64 0, .int .u64 0, .int .u64 0, .int .u64 0, .int .i64 0] [.bool c, .int .u64 (l0 N2), .int .u64 (l1 N2), .int .u64 (l2 N2), .int .u64 (l3 N2), .int .i64 ((j : Int))] Q2 rfl rfl rfl rfl rfl sz26 rfl rfl rfl ?_
  intro w5 hS Qn
  replace Q2 := Qn
  clear Qn
  replace Q1 := hS.other _ _ ne_k1_k2 Q1
  replace M := hS.mo _ N_k2 M
  clear hS
  refine wl_mv (.tmp 48) (.int .i64 (E2)) (fun _ => rfl) rfl rfl ?_
  refine w_nil ?_
  refine xn_then ?_
  refine w_seq ?_
  refine w_reg ?_
  refine wl_mv (.tmp 10) (.int .i64 (E2)) (fun _ => rfl) rfl rfl ?_
  refine wl_bin (fun x y => do eqGuard .eql 30 (.tmp 49) (.const (.int .i64 (0))) x y; binOp .eql 30 x y) (.tmp 49) (.const (.int .i64 (0))) (.int .i64 (E2)) (.int .i64 (0)) (.bool false) (fun _ => rfl) rfl rfl (eq30b hE _ _ _) rfl ?_
  refine wl_mv (.tmp 50) (.bool false) (fun _ => rfl) rfl rfl ?_
  refine wl_skip rfl ?_
  refine wl_skip rfl ?_
  refine wl_skip rfl ?_
  refine wl_skip rfl ?_
  refine wl_pick (.tmp 51) (.tmp 55) (.const (.bool false)) false (.bool false) (fun _ => rfl) rfl rfl rfl ?_
  refine w_nil ?_
  refine xn_then ?_
  refine w_condF rfl ?_
  refine w_skip ?_
  refine xn_then ?_
  refine w_seq ?_
  refine w_reg ?_
  refine wl_call 8 [] _ [] (.bool true) rfl rfl (fun _ _ => by kernel_rfl) (live_n _) rfl ?_
  intro w6 hq
  replace Q1 := Q1.mo hq
  replace Q2 := Q2.mo hq
  replace M := M.trans hq
  clear hq
  refine wl_mv (.tmp 57) (.bool true) (fun _ => rfl) rfl rfl ?_
  refine w_nil ?_
  refine xn_then ?_
  refine w_ret ?_
  exact w_ret1 _ (.bool true) rfl rfl ⟨rfl, M⟩
theorem dback_n (b : Bool) (n s0 : Int) (s : ByteArray) (w : World) (hn0 : 0 ≤ n) (hnM : n < MM) (hsz : s.size ≤ 140737488355328) : Calls Tryd.prog 6 #[dc b n s0, .string s] w fun e w' => e = .returned (.bool true) ∧ Mw w w' := by
  obtain ⟨c, N2, E2, j, hN0, hNM, hj, h2, h13⟩ := parse_any s (by unfold maxLen; omega)
  have hsc : ck b n s0 = 0 → ∃ k : Nat, s0 = (k : Int) ∧ k ≤ 18 := fun h => by
    have h2 : 0 ≤ s0 ∧ s0 ≤ 18 := by
      by_cases q : sc s0 = true
      · exact sc_iff.1 q
      · exfalso
        have q' : sc s0 = false := by simpa using q
        unfold ck at h
        rw [q'] at h
        simp at h
    exact ⟨s0.toNat, by omega, by omega⟩
  cases hE : (E2 == 0) with
  | true =>
    obtain ⟨hc2, ht⟩ := h2 hE
    have hT := fun w => text_ok c N2 j w hN0 hNM hj hc2
    rw [ht] at hT
    by_cases hck : ck b n s0 = 0
    · obtain ⟨k, rfl, hk⟩ := hsc hck
      exact dback_kt b n k s w hn0 hnM hk hck c N2 E2 j h13 hE hT
    · exact dback_nt b n s0 s w hn0 hnM hck c N2 E2 j h13 hE hT
  | false =>
    by_cases hck : ck b n s0 = 0
    · obtain ⟨k, rfl, hk⟩ := hsc hck
      exact dback_kf b n k s w hn0 hnM hk hck c N2 E2 j h13 hE
    · exact dback_nf b n s0 s w hn0 hnM hck c N2 E2 j h13 hE
end Go.Proofs.YtdcojpbgijkmgaaDoor.V
/-
  An array of four limbs that came in: how it is opened and shut.
-/
namespace Go.Proofs.YtdcojpbgijkmgaaDoor
open Go.ChangeShapes Go.WideShapes Go.ChangeAt Go.RowKit
theorem Tryd.own : ownKnob Tryd.prog.godebug = none := by kernel_rfl
theorem Tryd.cl22 : Tryd.prog.cellsOf 22 = 1 := by kernel_rfl
theorem Tryd.cl24 : Tryd.prog.cellsOf 24 = 4 := by kernel_rfl
theorem wf_u1 {x : Int} (h : (Lit.int .u64 x).wf = true) : U1 x := by
  simp [Lit.wf, IntKind.min, IntKind.max, IntKind.signed, IntKind.bits] at h
  exact ⟨by omega, by omega⟩
set_option maxRecDepth 100000 in
theorem open_nat {H : Type} {enc : TypeId × Value → H} {W : World} {base : Nat} {v : Value} {d : DataW H} {p : List MemPlace} (hv : Value.okWide Tryd.prog W .any base 24 v) (h : DataW.Trod enc Tryd.prog W 0 (fun _ => true) true 24 v d p) :
    ∃ x0 x1 x2 x3 : Int, v = .agg #[.int .u64 x0, .int .u64 x1, .int .u64 x2, .int .u64 x3] ∧ d = .agg [.lit (.int .u64 x0), .lit (.int .u64 x1), .lit (.int .u64 x2), .lit (.int .u64 x3)] ∧ p = [] ∧ U4 x0 x1 x2 x3 ∧
      ∀ (W' : World) (sp : Nat → Bool), DataW.Trod enc Tryd.prog W' 0 sp true 24 v d [] := by
  obtain ⟨cs, rfl, hsz, _⟩ : ∃ cs, v = .agg cs ∧ cs.size = Tryd.prog.cellsOf 24 ∧ Row.okWide Tryd.prog W .any base 24 cs := by
    simpa [Value.okWide, Tryd.underlying24] using hv
  rw [Tryd.cl24] at hsz
  obtain ⟨c0, c1, c2, c3, rfl⟩ := Go.Joins.array4 hsz
  obtain ⟨fuel, hf⟩ := h
  obtain ⟨xs, m, rfl, hx, _, hn, hi⟩ := DataW.trod_array Tryd.underlying24 hf
  have i0 := hi 0 (by decide)
  have i1 := hi 1 (by decide)
  have i2 := hi 2 (by decide)
  have i3 := hi 3 (by decide)
  simp only [Tryd.cl22, Value.cells] at i0 i1 i2 i3
  obtain ⟨y0, y1, y2, y3, rfl⟩ : ∃ y0 y1 y2 y3, xs = [y0, y1, y2, y3] := by
    match xs, hn with
    | [a, b, c, d], _ => exact ⟨a, b, c, d, rfl⟩
  simp at i0 i1 i2 i3
  obtain ⟨x0, e0, rfl, w0⟩ := DataW.trod_int Tryd.underlying22 i0
  obtain ⟨x1, e1, rfl, w1⟩ := DataW.trod_int Tryd.underlying22 i1
  obtain ⟨x2, e2, rfl, w2⟩ := DataW.trod_int Tryd.underlying22 i2
  obtain ⟨x3, e3, rfl, w3⟩ := DataW.trod_int Tryd.underlying22 i3
  simp at e0 e1 e2 e3
  subst e0 e1 e2 e3
  simp at hx
  obtain ⟨rfl, rfl⟩ := hx
  refine ⟨x0, x1, x2, x3, rfl, rfl, rfl, ⟨wf_u1 w0, wf_u1 w1, wf_u1 w2, wf_u1 w3⟩, fun W' sp => ⟨2, ?_⟩⟩
  simp [DataW.trod, Value.cells, Tryd.underlying24, Tryd.underlying22, Tryd.cl24, Tryd.cl22, w0, w1, w2, w3, show List.range 4 = [0, 1, 2, 3] from rfl]
end Go.Proofs.YtdcojpbgijkmgaaDoor
/-
  A decimal that came in: how it is opened and shut.
-/
namespace Go.Proofs.YtdcojpbgijkmgaaDoor
open Go.ChangeShapes Go.WideShapes Go.ChangeAt Go.RowKit
theorem Tryd.cl40 : Tryd.prog.cellsOf 26 = 6 := by kernel_rfl
theorem Tryd.cl4 : Tryd.prog.cellsOf 4 = 1 := by kernel_rfl
theorem Tryd.cl3 : Tryd.prog.cellsOf 3 = 1 := by kernel_rfl
theorem wf_i1 {x : Int} (h : (Lit.int .i64 x).wf = true) : -9223372036854775808 ≤ x ∧ x < 9223372036854775808 := by
  simp [Lit.wf, IntKind.min, IntKind.max, IntKind.signed, IntKind.bits] at h
  exact ⟨by omega, by omega⟩
set_option maxRecDepth 100000 in
theorem open_dec {H : Type} {enc : TypeId × Value → H} {W : World} {base : Nat} {v : Value} {d : DataW H} {p : List MemPlace} (hv : Value.okWide Tryd.prog W .any base 26 v) (h : DataW.Trod enc Tryd.prog W 0 (fun _ => true) true 26 v d p) :
    ∃ (b : Bool) (x0 x1 x2 x3 s : Int), v = .agg #[.bool b, .int .u64 x0, .int .u64 x1, .int .u64 x2, .int .u64 x3, .int .i64 s] ∧ p = [] ∧ U4 x0 x1 x2 x3 ∧ (-9223372036854775808 ≤ s ∧ s < 9223372036854775808) ∧
      ∀ (W' : World) (sp : Nat → Bool), DataW.Trod enc Tryd.prog W' 0 sp true 26 v d [] := by
  obtain ⟨cs, rfl, hsz, _⟩ : ∃ cs, v = .agg cs ∧ cs.size = Tryd.prog.cellsOf 26 ∧ Row.okWide Tryd.prog W .any base 26 cs := by
    simpa [Value.okWide, Tryd.underlying26] using hv
  rw [Tryd.cl40] at hsz
  obtain ⟨c0, c1, c2, c3, c4, c5, rfl⟩ : ∃ c0 c1 c2 c3 c4 c5, cs = #[c0, c1, c2, c3, c4, c5] := by
    obtain ⟨l⟩ := cs
    match l, hsz with
    | [a, b, c, d, e, f], _ => exact ⟨a, b, c, d, e, f, rfl⟩
  obtain ⟨fuel, hf⟩ := h
  obtain ⟨xs, n, rfl, hx, _, hlen, hi⟩ := DataW.trod_struct Tryd.underlying26 hf
  obtain ⟨y0, y1, y2, rfl⟩ : ∃ y0 y1 y2, xs = [y0, y1, y2] := by
    match xs, hlen with
    | [a, b, c], _ => exact ⟨a, b, c, rfl⟩
  have i0 := hi 0 _ rfl
  have i1 := hi 1 _ rfl
  have i2 := hi 2 _ rfl
  simp [Tryd.cl4, Tryd.cl24, Tryd.cl3, Value.cells] at i0 i1 i2
  obtain ⟨b, e0, rfl⟩ := DataW.trod_bool Tryd.underlying4 i0
  obtain ⟨s, e5, rfl, w5⟩ := DataW.trod_int Tryd.underlying3 i2
  obtain ⟨zs, m, rfl, hz, _, hn, hj⟩ := DataW.trod_array Tryd.underlying24 i1
  have j0 := hj 0 (by decide)
  have j1 := hj 1 (by decide)
  have j2 := hj 2 (by decide)
  have j3 := hj 3 (by decide)
  simp only [Tryd.cl22] at j0 j1 j2 j3
  obtain ⟨z0, z1, z2, z3, rfl⟩ : ∃ z0 z1 z2 z3, zs = [z0, z1, z2, z3] := by
    match zs, hn with
    | [a, b, c, d], _ => exact ⟨a, b, c, d, rfl⟩
  simp at j0 j1 j2 j3
  obtain ⟨x0, e1, rfl, w0⟩ := DataW.trod_int Tryd.underlying22 j0
  obtain ⟨x1, e2, rfl, w1⟩ := DataW.trod_int Tryd.underlying22 j1
  obtain ⟨x2, e3, rfl, w2⟩ := DataW.trod_int Tryd.underlying22 j2
  obtain ⟨x3, e4, rfl, w3⟩ := DataW.trod_int Tryd.underlying22 j3
  simp at e0 e1 e2 e3 e4 e5
  subst e0 e1 e2 e3 e4 e5
  subst hz
  simp at hx
  obtain ⟨rfl, rfl⟩ := hx
  refine ⟨b, x0, x1, x2, x3, s, rfl, rfl, ⟨wf_u1 w0, wf_u1 w1, wf_u1 w2, wf_u1 w3⟩, wf_i1 w5, fun W' sp => ⟨3, ?_⟩⟩
  simp [DataW.trod, Value.cells, Tryd.underlying26, Tryd.underlying24, Tryd.underlying22, Tryd.underlying4, Tryd.underlying3, Tryd.cl40, Tryd.cl24, Tryd.cl22, Tryd.cl4, Tryd.cl3, w0, w1, w2, w3, w5, show List.range 4 = [0, 1, 2, 3] from rfl]
end Go.Proofs.YtdcojpbgijkmgaaDoor
/-
  A whole number and a decimal that came in.
-/
namespace Go.Proofs.YtdcojpbgijkmgaaDoor
open Go.ChangeShapes Go.WideShapes Go.ChangeAt Go.RowKit
set_option maxRecDepth 100000 in
theorem open_i64 {H : Type} {enc : TypeId × Value → H} {W : World} {base : Nat} {T : TypeId} {v : Value} {d : DataW H} {p : List MemPlace} (hu : Tryd.prog.underlying T = some (.int .i64)) (hv : Value.okWide Tryd.prog W .any base T v) (h : DataW.Trod enc Tryd.prog W 0 (fun _ => true) true T v d p) :
    ∃ x : Int, v = .int .i64 x ∧ p = [] ∧ (-9223372036854775808 ≤ x ∧ x < 9223372036854775808) ∧
      ∀ (W' : World) (sp : Nat → Bool), DataW.Trod enc Tryd.prog W' 0 sp true T v d [] := by
  obtain ⟨n, rfl, rfl, rfl, hw⟩ := open_int hu hv h
  exact ⟨n, rfl, rfl, wf_i1 hw, fun W' sp => shut_int hu hw⟩
theorem dc_vl {b : Bool} {s x0 x1 x2 x3 : Int} (h : U4 x0 x1 x2 x3) : dc b (vl x0 x1 x2 x3) s = .agg #[.bool b, .int .u64 x0, .int .u64 x1, .int .u64 x2, .int .u64 x3, .int .i64 s] := by
  have := nv_vl h
  simp at this
  obtain ⟨a, b, c, d⟩ := this
  unfold dc
  rw [a, b, c, d]
end Go.Proofs.YtdcojpbgijkmgaaDoor
/-
  A world in which the library's two tables lie; the end of a row over a law that leaves what was there as it was.
-/
namespace Go.Proofs.YtdcojpbgijkmgaaDoor
open Go.ChangeShapes Go.WideShapes Go.ChangeAt Go.RowKit Go.ChangeMaps
def firstCells : Array Value := #[.int .u8 240, .int .u8 240, .int .u8 240, .int .u8 240, .int .u8 240, .int .u8 240, .int .u8 240, .int .u8 240, .int .u8 240, .int .u8 240, .int .u8 240, .int .u8 240, .int .u8 240, .int .u8 240, .int .u8 240, .int .u8 240, .int .u8 240, .int .u8 240, .int .u8 240, .int .u8 240, .int .u8 240, .int .u8 240, .int .u8 240, .int .u8 240, .int .u8 240, .int .u8 240, .int .u8 240, .int .u8 240, .int .u8 240, .int .u8 240, .int .u8 240, .int .u8 240, .int .u8 240, .int .u8 240, .int .u8 240, .int .u8 240, .int .u8 240, .int .u8 240, .int .u8 240, .int .u8 240, .int .u8 240, .int .u8 240, .int .u8 240, .int .u8 240, .int .u8 240, .int .u8 240, .int .u8 240, .int .u8 240, .int .u8 240, .int .u8 240, .int .u8 240, .int .u8 240, .int .u8 240, .int .u8 240, .int .u8 240, .int .u8 240, .int .u8 240, .int .u8 240, .int .u8 240, .int .u8 240, .int .u8 240, .int .u8 240, .int .u8 240, .int .u8 240, .int .u8 240, .int .u8 240, .int .u8 240, .int .u8 240, .int .u8 240, .int .u8 240, .int .u8 240, .int .u8 240, .int .u8 240, .int .u8 240, .int .u8 240, .int .u8 240, .int .u8 240, .int .u8 240, .int .u8 240, .int .u8 240, .int .u8 240, .int .u8 240, .int .u8 240, .int .u8 240, .int .u8 240, .int .u8 240, .int .u8 240, .int .u8 240, .int .u8 240, .int .u8 240, .int .u8 240, .int .u8 240, .int .u8 240, .int .u8 240, .int .u8 240, .int .u8 240, .int .u8 240, .int .u8 240, .int .u8 240, .int .u8 240, .int .u8 240, .int .u8 240, .int .u8 240, .int .u8 240, .int .u8 240, .int .u8 240, .int .u8 240, .int .u8 240, .int .u8 240, .int .u8 240, .int .u8 240, .int .u8 240, .int .u8 240, .int .u8 240, .int .u8 240, .int .u8 240, .int .u8 240, .int .u8 240, .int .u8 240, .int .u8 240, .int .u8 240, .int .u8 240, .int .u8 240, .int .u8 240, .int .u8 240, .int .u8 240, .int .u8 240, .int .u8 240, .int .u8 241, .int .u8 241, .int .u8 241, .int .u8 241, .int .u8 241, .int .u8 241, .int .u8 241, .int .u8 241, .int .u8 241, .int .u8 241, .int .u8 241, .int .u8 241, .int .u8 241, .int .u8 241, .int .u8 241, .int .u8 241, .int .u8 241, .int .u8 241, .int .u8 241, .int .u8 241, .int .u8 241, .int .u8 241, .int .u8 241, .int .u8 241, .int .u8 241, .int .u8 241, .int .u8 241, .int .u8 241, .int .u8 241, .int .u8 241, .int .u8 241, .int .u8 241, .int .u8 241, .int .u8 241, .int .u8 241, .int .u8 241, .int .u8 241, .int .u8 241, .int .u8 241, .int .u8 241, .int .u8 241, .int .u8 241, .int .u8 241, .int .u8 241, .int .u8 241, .int .u8 241, .int .u8 241, .int .u8 241, .int .u8 241, .int .u8 241, .int .u8 241, .int .u8 241, .int .u8 241, .int .u8 241, .int .u8 241, .int .u8 241, .int .u8 241, .int .u8 241, .int .u8 241, .int .u8 241, .int .u8 241, .int .u8 241, .int .u8 241, .int .u8 241, .int .u8 241, .int .u8 241, .int .u8 2, .int .u8 2, .int .u8 2, .int .u8 2, .int .u8 2, .int .u8 2, .int .u8 2, .int .u8 2, .int .u8 2, .int .u8 2, .int .u8 2, .int .u8 2, .int .u8 2, .int .u8 2, .int .u8 2, .int .u8 2, .int .u8 2, .int .u8 2, .int .u8 2, .int .u8 2, .int .u8 2, .int .u8 2, .int .u8 2, .int .u8 2, .int .u8 2, .int .u8 2, .int .u8 2, .int .u8 2, .int .u8 2, .int .u8 2, .int .u8 19, .int .u8 3, .int .u8 3, .int .u8 3, .int .u8 3, .int .u8 3, .int .u8 3, .int .u8 3, .int .u8 3, .int .u8 3, .int .u8 3, .int .u8 3, .int .u8 3, .int .u8 35, .int .u8 3, .int .u8 3, .int .u8 52, .int .u8 4, .int .u8 4, .int .u8 4, .int .u8 68, .int .u8 241, .int .u8 241, .int .u8 241, .int .u8 241, .int .u8 241, .int .u8 241, .int .u8 241, .int .u8 241, .int .u8 241, .int .u8 241, .int .u8 241]
def acceptCells : Array Value := #[.int .u8 128, .int .u8 191, .int .u8 160, .int .u8 191, .int .u8 128, .int .u8 159, .int .u8 144, .int .u8 191, .int .u8 128, .int .u8 143, .int .u8 0, .int .u8 0, .int .u8 0, .int .u8 0, .int .u8 0, .int .u8 0, .int .u8 0, .int .u8 0, .int .u8 0, .int .u8 0, .int .u8 0, .int .u8 0, .int .u8 0, .int .u8 0, .int .u8 0, .int .u8 0, .int .u8 0, .int .u8 0, .int .u8 0, .int .u8 0, .int .u8 0, .int .u8 0]
def layW (w0 : World) : World :=
  { w0 with heap := (w0.heap.modify 3 fun
      | .cells _ t frozen => .cells firstCells t frozen
      | o => o).modify 4 fun
      | .cells _ t frozen => .cells acceptCells t frozen
      | o => o }
set_option maxRecDepth 100000 in
theorem laidWorld_met (os : Os) (args : Array Value) : laidMetH Tryd.prog Rows.dectextTextsRow.laid ((layW (World.holding Tryd.prog os ⟨#[], #[], []⟩)).forCall (fun _ _ => 0) ⟨#[], args, []⟩).memory := by
  show laidMet Tryd.prog [("unicode/utf8.acceptRanges", Rows.laid_unicode_utf8_acceptRanges), ("unicode/utf8.first", Rows.laid_unicode_utf8_first)] _
  exact (LaidIn.of_run [3, 4] 8 (by kernel_rfl) (by kernel_rfl) (by kernel_rfl) (by kernel_rfl)).met
/-- The end of a row: no argument has memory of its own, nothing that was there has turned. -/
theorem post_mw {H : Type} {enc : TypeId × Value → H} {P : Program} {f : Func} {s : ChangeSpec} {apart fresh handsOn : Bool} {W W' : World} {args : Array Value} {v : Value} {ds gs : List (DataW H)}
    (hW : DataW.Whole enc P f.params.toList s.vars apart W args.toList ds gs [])
    (hres : ∀ (b : Nat) (sp : Nat → Bool) (hd : Bool), DataW.TrodAll enc P W' b sp hd f.resultTypes.toList (v.resultList f.resultTypes.size) (s.fn H (ds ++ gs)).results [])
    (hargs : ∀ sp : Nat → Bool, DataW.TrodAll enc P W' 0 sp true f.params.toList args.toList (s.fn H (ds ++ gs)).args [])
    (hvars : ∀ sp : Nat → Bool, DataW.TrodVars enc P W' sp s.vars (s.fn H (ds ++ gs)).vars []) (hk : V.Mw W W') :
    s.post enc P f apart fresh handsOn false W args v W' :=
  ⟨ds, gs, [], [], [], [], hW, hres _ _ _, hargs _, hvars _, Below.frame hk _, fun h => by cases h⟩
end Go.Proofs.YtdcojpbgijkmgaaDoor
namespace Go.Proofs.YtdcojpbgijkmgaaDoor
open Go.ChangeShapes Go.WideShapes Go.ChangeAt Go.RowKit Go.ChangeMaps
set_option maxHeartbeats 1000000 in
set_option maxRecDepth 100000 in
theorem dectextBack_lifted (os : Os) (started : os.Started) (H : Type) (enc : TypeId × Value → H) :
    ReturnsInHanded {} Tryd.checked os 6 .any (fun w args => (Rows.dectextBackSpec.pre enc Tryd.prog Tryd.f6 [] false w args ∧ laidMetH Tryd.prog Rows.dectextBackRow.laid w) ∧ sizedMet enc Tryd.prog Tryd.f6 (OpenSpec.ofChange Rows.dectextBackSpec) false w args)
      (Rows.dectextBackSpec.post enc Tryd.prog Tryd.f6 false true false false) := by
  refine returnsInHanded_of_change_and (C := Tryd.checked) (X := fun w _ => laidMetH Tryd.prog Rows.dectextBackRow.laid w) (fun _ _ _ hh h => h.of_heap hh) Tryd.own started (by kernel_rfl) Tryd.func6
    (ChangeSpec.witness_at (enc := enc) (C := Tryd.checked) (os := os) (X := fun w _ => laidMetH Tryd.prog Rows.dectextBackRow.laid w) false (layW (World.holding Tryd.prog os ⟨#[], #[], []⟩)) #[.agg #[.bool false, .int .u64 0, .int .u64 0, .int .u64 0, .int .u64 0, .int .i64 0], .string ⟨#[]⟩] 8 rfl (by kernel_rfl) (by kernel_rfl) (by kernel_rfl) (by kernel_rfl) (by kernel_rfl) (laidWorld_met os _)) ?_
  intro W base args ds gs before hval0 hW _ hsz0 hL _
  have hval : ∀ (j : Nat) t v, Tryd.f6.params[j]? = some t → args[j]? = some v → Value.okWide Tryd.prog W .any base t v := hval0
  have hW' := hW
  obtain ⟨p, q, hA0, hV, rfl, hfz, hnd⟩ := hW
  have hA : DataW.TrodAll enc Tryd.prog W 0 (fun _ => true) true Tryd.f6.params.toList args.toList ds p := hA0
  rw [Tryd.params6] at hA hval
  obtain ⟨v0, v1, d0, d1, p0, p1, rfl, rfl, rfl, h0, h1⟩ := trodAll_two hA
  obtain ⟨rfl, rfl⟩ := trodVars_none hV
  obtain ⟨a0b, a00, a01, a02, a03, a0z, rfl, rfl, u0, sx0, r0⟩ := open_dec (hval 0 26 v0 rfl rfl) h0
  obtain ⟨s1, rfl, rfl, rfl, sb1⟩ := open_string Tryd.underlying9 (hval 1 9 v1 rfl rfl) h1
  have r1 : ∀ (W' : World) (sp : Nat → Bool), DataW.Trod enc Tryd.prog W' 0 sp true 9 (.string s1) (.lit (.string s1.data.toList)) [] := fun _ _ => shut_string Tryd.underlying9 sb1
  have z1 : s1.size ≤ 140737488355328 := by
    have h := sized_string hsz0 (j := 1) (t := 9) (by kernel_rfl) rfl
    rw [by8_len] at h
    unfold reachBytes at h
    omega
  clear hA0 hval0
  simp only [List.append_nil] at hW'
  rw [← dc_vl u0] at *
  refine (V.dback_n a0b (vl a00 a01 a02 a03) a0z s1 W (vl_bd u0).1 (vl_bd u0).2 z1).mono fun e W' ⟨he, hg⟩ => ?_
  subst he
  exact ⟨_, rfl, post_mw hW' (fun _ _ _ => trodAll_mk1 (shut_bool Tryd.underlying4 _)) (fun sp => trodAll_mk2 (r0 _ sp) (r1 _ sp)) (fun _ => rfl) hg⟩
set_option maxRecDepth 100000 in
theorem dectextBack_row : Rows.DectextBackSaid :=
  OpenClaim.holds_of_wide 6 Tryd.f6 rfl rfl rfl rfl rfl rfl rfl ⟨rfl, rfl, rfl, rfl, rfl⟩ rfl rfl rfl rfl rfl (by kernel_rfl) Tryd.func6 (by kernel_rfl)
    (of_decide_eq_true (by kernel_rfl)) (by unfold Func.isWrapper; rw [if_neg (of_decide_eq_false (by kernel_rfl))]; exact ⟨rfl, rfl⟩)
    (fun os started H enc _ => dectextBack_lifted os started H enc)
set_option maxRecDepth 100000 in
theorem dectextBack_holds : Rows.DectextBackCardSaid :=
  Claim7.holds_tied_plain_at .later [] [.data, .pinned] true (true, "ad9bf9484b846ad32c643a4ddb69c760fddb7cd4ef7f69a1332e2087753a176c") false
    dectextBack_row (fun _ h => by cases h) (by kernel_rfl) (fun _ h => by cases h) dectextBack_row_tie rfl ⟨rfl, rfl⟩ (by kernel_rfl) rfl
    (fun f fn hf hfn => by
      obtain rfl : f = 6 := Option.some.inj ((show Tryd.prog.funcNamed "excise/exciselaw03.DectextBack" = some 6 by kernel_rfl).symm.trans hf) |>.symm
      obtain rfl : fn = Tryd.f6 := (Option.some.inj (Tryd.func6.symm.trans hfn)).symm
      exact ⟨by kernel_rfl, fun j t ht => by
        rw [Tryd.params6] at ht
        have h3 : t = 26 ∨ t = 9 := by
          rcases j with _ | _ | j
          · left; simpa using ht.symm
          · right; simpa using ht.symm
          · simp at ht
        rcases h3 with rfl | rfl
        · exact (show Tryd.prog.wantsStandIn 26 = false by kernel_rfl)
        · exact (show Tryd.prog.wantsStandIn 9 = false by kernel_rfl)⟩)
    (by kernel_rfl)
#print axioms dectextBack_holds
end Go.Proofs.YtdcojpbgijkmgaaDoor
