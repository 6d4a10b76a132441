/-
  A part of the proof.
-/
import Derived.Test.YtogomodbcjpfiaaGreatDoorKa20
import Derived.Test.YtogomodbcjpfiaaGreatDoorKa19
import Derived.Test.YtogomodbcjpfiaaGreatDoorKa17
import Derived.Test.YtogomodbcjpfiaaGreatDoorKa16
import Derived.Test.YtogomodbcjpfiaaGreatDoorKa15
import Derived.Test.YtogomodbcjpfiaaGreatDoorKa14
import Derived.Test.YtogomodbcjpfiaaGreatDoorKa1
import Derived.Shelf.Strings.Builder1
import Derived.Shelf.Strings.Builder2
import Derived.Shelf.Small.Bits
import Derived.Shelf.Small.Wraps
import Derived.Shelf.Strings.BuilderF
import Derived.Shelf.Strings.BuilderK
import Derived.Shelf.Strings.Prefix
import Derived.Shelf.Bits.Mul64
import Derived.Shelf.Strings.Repeat
import Derived.Test.YtogomodbcjpfiaaGreatDoorProg
import Derived.Shelf.Strconv.Itoa0
import Derived.Test.YtogomodbcjpfiaaGreatDoorKa11
import Derived.Test.YtogomodbcjpfiaaGreatDoorKa9
import Derived.Test.YtogomodbcjpfiaaGreatDoorKa4
import Derived.Test.YtogomodbcjpfiaaGreatDoorKa3
import Derived.Test.YtogomodbcjpfiaaGreatDoorKa2
import Derived.RegionTactic
import Derived.WalkKit
import Derived.WalkSpells
import Derived.Handy
import Derived.BigQuiet
import Derived.Deep.RegionHeld3
import Derived.Deep.MidRow
import Derived.BigCall
import Derived.Test.YtogomodbcjpfiaaGreatDoorKa8
import Derived.Test.YtogomodbcjpfiaaGreatDoorKa5
import Derived.Deep.CutBlock
import Derived.Deep.CutRange
import Derived.Test.YtogomodbcjpfiaaGreatDoorKa7
import Derived.Test.YtogomodbcjpfiaaGreatDoorKa6
import Derived.ChangeKeysEq
import Derived.ScopeJumps
import Derived.WalkMore
import Derived.Laws.StructEq
import Derived.Test.YtogomodbcjpfiaaGreatDoorKa10
import Derived.Test.YtogomodbcjpfiaaGreatDoorKa13
import Derived.Test.YtogomodbcjpfiaaGreatDoorKa12
import Derived.Lib.CutLaws
import Derived.Lib.IndexBytes
import Derived.Maps.AppendAt
import Derived.Deep.AppendLies
import Derived.Laws.BytesString
import Derived.Test.YtogomodbcjpfiaaGreatDoorKa18
import Derived.Maps.OwnSet
import Derived.WalkArith
import Derived.StringKeys
import Derived.Test.YtogomodbcjpfiaaGreatDoorRows
import Derived.Carry
import Derived.ChangeMaps5
import Derived.ChangeSame
import Derived.ChangeVars
import Derived.JoinedOf
import Derived.RowKitTokens
import Derived.LaidLaws
import Derived.LaidHandle
import Derived.Stop.Joined
import Derived.Lib.LaidIn
import Derived.WideKeyArgs
import Derived.Deep.Strs
namespace Go.Proofs.YtogomodbcjpfiaaGreatDoor
theorem strOf_list (ns : List Int) : (strOf ns).data.toList = ns.map (fun n => UInt8.ofNat n.toNat) := by
 have g : ∀ (l : List Int) (b : ByteArray), (l.foldl (fun r n => r.push (UInt8.ofNat n.toNat)) b).data.toList = b.data.toList ++ l.map (fun n => UInt8.ofNat n.toNat) := by
  intro l
  induction l with
  | nil => intro b; simp
  | cons x l ih => intro b; rw [List.foldl_cons, ih]; simp [ByteArray.push]
 unfold strOf
 rw [g]
 simp
theorem decF_len : ∀ (f : Nat) (n : Int), (decF f n).length ≤ f
 | 0, _ => by simp [decF]
 | f + 1, n => by
  unfold decF
  split
  ·simp
  ·have := decF_len f (n / 10)
   simp
   omega
end Go.Proofs.YtogomodbcjpfiaaGreatDoor

namespace Go.Proofs.YtogomodbcjpfiaaGreatDoor.V
open Go.RowKit Go.Lib
theorem sz26 : (Tryz.prog.info? 26).map (·.size) = some 6 := by kernel_rfl
theorem neE {a b : Int} {r : Bool} (h : (a == b) = r) (x y : Operand) (w : World) : (do eqGuard .neq 32 x y (.int .i64 a) (.int .i64 b); binOp .neq 32 (.int .i64 a) (.int .i64 b)).run Tryz.prog w = .ok (.bool (!r)) w := by
 subst h; kernel_rfl
theorem cat_run (a b : ByteArray) (h : a.size + b.size ≤ 9223372036854775807) (x y : Operand) (w : World) : (do eqGuard .add 9 x y (.string a) (.string b); binOp .add 9 (.string a) (.string b)).run Tryz.prog w = .ok (.string (a ++ b)) w := by
 have h2 : ¬ 9223372036854775807 < a.size + b.size := by omega
 simp [go_sem, h2]
abbrev dgs8 (n : Int) : List UInt8 := by8 (strOf (decF 78 n))
def txt (b : Bool) (n : Int) (k : Nat) : List UInt8 := if b then 45 :: wpt (dgs8 n) k else wpt (dgs8 n) k
theorem dgs8_len (n : Int) : (strOf (decF 78 n)).size ≤ 78 := by
 rw [← by8_len]; show (strOf (decF 78 n)).data.toList.length ≤ 78; rw [strOf_list, List.length_map]; exact decF_len 78 n
theorem wpt_len (l : List UInt8) (k : Nat) : (wpt l k).length ≤ l.length + k + 2 := by
 unfold wpt leadz
 split
 ·omega
 ·simp; omega
theorem cat45 (l : List UInt8) : (Value.string ((⟨#[45]⟩ : ByteArray) ++ ⟨l.toArray⟩)) = tx (45 :: l) := by
 rw [tx_of, by8_app]; rfl
theorem hcat (l : List UInt8) (h : l.length ≤ 1000) : (⟨#[45]⟩ : ByteArray).size + (⟨l.toArray⟩ : ByteArray).size ≤ 9223372036854775807 := by
 have : (⟨l.toArray⟩ : ByteArray).size = l.length := by rw [← by8_len]
 rw [this]; show 1 + _ ≤ _; omega
theorem text_t (n : Int) (k : Nat) (w : World) (hn0 : 0 ≤ n) (hnM : n < MM) (hk18 : k ≤ 18) (hck : ck true n (k : Int) = 0) : Calls Tryz.prog 53 #[dc true n (k : Int)] w fun e w' => e = .returned (tx (txt true n k)) ∧ Mw w w' := by
 have hc : ((0 : Int) == 0) = true := rfl
 have hl : (wpt (dgs8 n) k).length ≤ 1000 := by have := wpt_len (dgs8 n) k; have := dgs8_len n; have e3 : (dgs8 n).length = (strOf (decF 78 n)).size := by8_len _; omega
 refine w_enter 18 Tryz.func53 Tryz.ntmps53 rfl rfl ?_
 have M : Mw w w := Mw.refl _
 refine w_seq (w_reg ?_)
 refine wl_box 26 (.tmp 0) _ (#[.bool true, .int .u64 (l0 (n)), .int .u64 (l1 (n)), .int .u64 (l2 (n)), .int .u64 (l3 (n)), .int .i64 (k : Int)]) rfl rfl (fun _ => by kernel_rfl) rfl ?_
 intro k1 w1 hk hz hq Q1
 have N_k1 : w.heap.size ≤ k1 := by have := M.size; omega
 replace M := M.trans hq
 clear hk hz hq
 refine wl_m (.const (.string ⟨#[]⟩)) (.string ⟨#[]⟩) ?_
 refine w_nil (xn_then (w_seq (w_seq (w_reg ?_))))
 refine wl_l 26 (.tmp 1) (pt k1 0) (.agg #[.bool true, .int .u64 (l0 (n)), .int .u64 (l1 (n)), .int .u64 (l2 (n)), .int .u64 (l3 (n)), .int .i64 (k : Int)]) (run_row Q1 26 0 6 _ rfl Tryz.underlying26 rfl sz26) ?_
 refine wl_call 68 [(.tmp 4)] _ [.agg #[.bool true, .int .u64 (l0 (n)), .int .u64 (l1 (n)), .int .u64 (l2 (n)), .int .u64 (l3 (n)), .int .i64 (k : Int)]] (.int .i64 (0)) rfl rfl (fun _ _ => by kernel_rfl) (wk (check_ok true n (k : Int) _ hn0 hnM hck)) rfl ?_
 intro w2 hq
 replace Q1 := Q1.mo hq
 replace M := M.trans hq
 clear hq
 refine wl_b .neq 32 (.tmp 5) (.const (.int .i64 (0))) (.int .i64 (0)) (.int .i64 (0)) (.bool false) (neE (r := true) hc _ _ _) ?_
 refine w_nil (xn_then (w_condF rfl (w_skip (xn_then (w_seq ?_)))))
 refine w_any 5 [.inl (pt k1 1), .inl (.agg #[.int .u64 (l0 (n)), .int .u64 (l1 (n)), .int .u64 (l2 (n)), .int .u64 (l3 (n))]), .inl (.string (strOf (decF 78 n))), .inl (pt k1 5), .inl (.int .i64 (k : Int))] [] (by kernel_rfl) (by kernel_rfl) (by kernel_rfl) (by kernel_rfl) rfl (by kernel_rfl) (by kernel_rfl) late_nil ?_ ?_ ?_
 ·exact Ds.none rfl
 ·refine ea_cons ?_ (ea_cons ?_ (ea_cons ?_ (ea_cons ?_ (ea_cons ?_ (ea_nil)))))
  ·exact og_eq _ rfl (fun f wf hq hd K hK => go_run rfl (wo_un (fun v => Instr.fieldAt 26 v 1) (.tmp 1) (pt k1 0) (pt k1 1) (fun _ => rfl) rfl (by kernel_rfl) (hK _ (Mw.refl _))))
  ·exact og_eq _ rfl (fun f wf hq hd K hK => have Q1 := Q1.mo hq; go_run rfl (wo_load 24 (.tmp 7) (pt k1 1) (.agg #[.int .u64 (l0 (n)), .int .u64 (l1 (n)), .int .u64 (l2 (n)), .int .u64 (l3 (n))]) rfl (hd 0 rfl) (run_row Q1 24 1 4 _ rfl Tryz.underlying24 rfl sz24) (hK _ (Mw.refl _))))
  ·exact og_eq _ rfl (fun f wf hq hd K hK => go_run rfl (wo_call 76 [(.tmp 8)] _ [.agg #[.int .u64 (l0 (n)), .int .u64 (l1 (n)), .int .u64 (l2 (n)), .int .u64 (l3 (n))]] (.string (strOf (decF 78 n))) rfl (li1 (hd 1 rfl)) (fun _ _ => by kernel_rfl) (wk (text_n n _ hn0 hnM)) hK))
  ·exact og_eq _ rfl (fun f wf hq hd K hK => go_run rfl (wo_un (fun v => Instr.fieldAt 26 v 2) (.tmp 1) (pt k1 0) (pt k1 5) (fun _ => rfl) rfl (by kernel_rfl) (hK _ (Mw.refl _))))
  ·exact og_eq _ rfl (fun f wf hq hd K hK => have Q1 := Q1.mo hq; go_run rfl (wo_load 3 (.tmp 10) (pt k1 5) (.int .i64 (k : Int)) rfl (hd 3 rfl) (run_one Q1 3 5 rfl Tryz.underlying3 rfl) (hK _ (Mw.refl _))))
 intro kf3 w3 hq hR hne
 replace Q1 := Q1.mo hq
 replace M := M.trans hq
 clear hq hR hne
 refine wl_call 75 [(.tmp 9), (.tmp 11)] _ [.string (strOf (decF 78 n)), .int .i64 (k : Int)] (tx (wpt (dgs8 n) k)) rfl rfl (fun _ _ => by kernel_rfl) (withPoint_n (strOf (decF 78 n)) k _ (by omega) (Nat.le_trans (dgs8_len n) (by decide))) rfl ?_
 intro w4 hq
 replace Q1 := Q1.mo hq
 replace M := M.trans hq
 clear hq
 refine wl_m (.tmp 12) (tx (wpt (dgs8 n) k)) ?_
 refine w_nil (xn_then (w_seq (w_seq (w_reg ?_))))
 refine wl_f 26 0 (.tmp 1) (pt k1 0) (pt k1 0) ?_
 refine wl_l 4 (.tmp 13) (pt k1 0) (.bool true) (run_one Q1 4 0 rfl Tryz.underlying4 rfl) ?_
 refine w_nil (xn_then (w_condT rfl (w_seq (w_reg ?_))))
 refine wl_m (.tmp 3) (tx (wpt (dgs8 n) k)) ?_
 refine wl_b .add 9 (.const (.string ⟨#[45]⟩)) (.tmp 15) (.string ⟨#[45]⟩) (tx (wpt (dgs8 n) k)) (tx (45 :: wpt (dgs8 n) k)) (by rw [← cat45]; exact cat_run _ _ (hcat _ hl) _ _ _) ?_
 refine wl_m (.tmp 16) (tx (45 :: wpt (dgs8 n) k)) ?_
 refine w_nil (xn_then (w_ret (xr_then ?_)))
 exact w_ret1 _ _ rfl rfl ⟨rfl, M⟩
theorem text_f (n : Int) (k : Nat) (w : World) (hn0 : 0 ≤ n) (hnM : n < MM) (hk18 : k ≤ 18) (hck : ck false n (k : Int) = 0) : Calls Tryz.prog 53 #[dc false n (k : Int)] w fun e w' => e = .returned (tx (txt false n k)) ∧ Mw w w' := by
 have hc : ((0 : Int) == 0) = true := rfl
 have hl : (wpt (dgs8 n) k).length ≤ 1000 := by have := wpt_len (dgs8 n) k; have := dgs8_len n; have e3 : (dgs8 n).length = (strOf (decF 78 n)).size := by8_len _; omega
 refine w_enter 18 Tryz.func53 Tryz.ntmps53 rfl rfl ?_
 have M : Mw w w := Mw.refl _
 refine w_seq (w_reg ?_)
 refine wl_box 26 (.tmp 0) _ (#[.bool false, .int .u64 (l0 (n)), .int .u64 (l1 (n)), .int .u64 (l2 (n)), .int .u64 (l3 (n)), .int .i64 (k : Int)]) rfl rfl (fun _ => by kernel_rfl) rfl ?_
 intro k1 w1 hk hz hq Q1
 have N_k1 : w.heap.size ≤ k1 := by have := M.size; omega
 replace M := M.trans hq
 clear hk hz hq
 refine wl_m (.const (.string ⟨#[]⟩)) (.string ⟨#[]⟩) ?_
 refine w_nil (xn_then (w_seq (w_seq (w_reg ?_))))
 refine wl_l 26 (.tmp 1) (pt k1 0) (.agg #[.bool false, .int .u64 (l0 (n)), .int .u64 (l1 (n)), .int .u64 (l2 (n)), .int .u64 (l3 (n)), .int .i64 (k : Int)]) (run_row Q1 26 0 6 _ rfl Tryz.underlying26 rfl sz26) ?_
 refine wl_call 68 [(.tmp 4)] _ [.agg #[.bool false, .int .u64 (l0 (n)), .int .u64 (l1 (n)), .int .u64 (l2 (n)), .int .u64 (l3 (n)), .int .i64 (k : Int)]] (.int .i64 (0)) rfl rfl (fun _ _ => by kernel_rfl) (wk (check_ok false n (k : Int) _ hn0 hnM hck)) rfl ?_
 intro w2 hq
 replace Q1 := Q1.mo hq
 replace M := M.trans hq
 clear hq
 refine wl_b .neq 32 (.tmp 5) (.const (.int .i64 (0))) (.int .i64 (0)) (.int .i64 (0)) (.bool false) (neE (r := true) hc _ _ _) ?_
 refine w_nil (xn_then (w_condF rfl (w_skip (xn_then (w_seq ?_)))))
 refine w_any 5 [.inl (pt k1 1), .inl (.agg #[.int .u64 (l0 (n)), .int .u64 (l1 (n)), .int .u64 (l2 (n)), .int .u64 (l3 (n))]), .inl (.string (strOf (decF 78 n))), .inl (pt k1 5), .inl (.int .i64 (k : Int))] [] (by kernel_rfl) (by kernel_rfl) (by kernel_rfl) (by kernel_rfl) rfl (by kernel_rfl) (by kernel_rfl) late_nil ?_ ?_ ?_
 ·exact Ds.none rfl
 ·refine ea_cons ?_ (ea_cons ?_ (ea_cons ?_ (ea_cons ?_ (ea_cons ?_ (ea_nil)))))
  ·exact og_eq _ rfl (fun f wf hq hd K hK => go_run rfl (wo_un (fun v => Instr.fieldAt 26 v 1) (.tmp 1) (pt k1 0) (pt k1 1) (fun _ => rfl) rfl (by kernel_rfl) (hK _ (Mw.refl _))))
  ·exact og_eq _ rfl (fun f wf hq hd K hK => have Q1 := Q1.mo hq; go_run rfl (wo_load 24 (.tmp 7) (pt k1 1) (.agg #[.int .u64 (l0 (n)), .int .u64 (l1 (n)), .int .u64 (l2 (n)), .int .u64 (l3 (n))]) rfl (hd 0 rfl) (run_row Q1 24 1 4 _ rfl Tryz.underlying24 rfl sz24) (hK _ (Mw.refl _))))
  ·exact og_eq _ rfl (fun f wf hq hd K hK => go_run rfl (wo_call 76 [(.tmp 8)] _ [.agg #[.int .u64 (l0 (n)), .int .u64 (l1 (n)), .int .u64 (l2 (n)), .int .u64 (l3 (n))]] (.string (strOf (decF 78 n))) rfl (li1 (hd 1 rfl)) (fun _ _ => by kernel_rfl) (wk (text_n n _ hn0 hnM)) hK))
  ·exact og_eq _ rfl (fun f wf hq hd K hK => go_run rfl (wo_un (fun v => Instr.fieldAt 26 v 2) (.tmp 1) (pt k1 0) (pt k1 5) (fun _ => rfl) rfl (by kernel_rfl) (hK _ (Mw.refl _))))
  ·exact og_eq _ rfl (fun f wf hq hd K hK => have Q1 := Q1.mo hq; go_run rfl (wo_load 3 (.tmp 10) (pt k1 5) (.int .i64 (k : Int)) rfl (hd 3 rfl) (run_one Q1 3 5 rfl Tryz.underlying3 rfl) (hK _ (Mw.refl _))))
 intro kf3 w3 hq hR hne
 replace Q1 := Q1.mo hq
 replace M := M.trans hq
 clear hq hR hne
 refine wl_call 75 [(.tmp 9), (.tmp 11)] _ [.string (strOf (decF 78 n)), .int .i64 (k : Int)] (tx (wpt (dgs8 n) k)) rfl rfl (fun _ _ => by kernel_rfl) (withPoint_n (strOf (decF 78 n)) k _ (by omega) (Nat.le_trans (dgs8_len n) (by decide))) rfl ?_
 intro w4 hq
 replace Q1 := Q1.mo hq
 replace M := M.trans hq
 clear hq
 refine wl_m (.tmp 12) (tx (wpt (dgs8 n) k)) ?_
 refine w_nil (xn_then (w_seq (w_seq (w_reg ?_))))
 refine wl_f 26 0 (.tmp 1) (pt k1 0) (pt k1 0) ?_
 refine wl_l 4 (.tmp 13) (pt k1 0) (.bool false) (run_one Q1 4 0 rfl Tryz.underlying4 rfl) ?_
 refine w_nil (xn_then (w_condF rfl (w_skip (xn_then (w_seq (w_reg ?_))))))
 refine wl_m (.tmp 3) (tx (wpt (dgs8 n) k)) ?_
 refine wl_m (.tmp 17) (tx (wpt (dgs8 n) k)) ?_
 refine w_nil (xn_then (w_ret ?_))
 exact w_ret1 _ _ rfl rfl ⟨rfl, M⟩
theorem text_ok (b : Bool) (n : Int) (k : Nat) (w : World) (hn0 : 0 ≤ n) (hnM : n < MM) (hk18 : k ≤ 18) (hck : ck b n (k : Int) = 0) : Calls Tryz.prog 53 #[dc b n (k : Int)] w fun e w' => e = .returned (tx (txt b n k)) ∧ Mw w w' := by
 cases b
 ·exact text_f n k w hn0 hnM hk18 hck
 ·exact text_t n k w hn0 hnM hk18 hck
end Go.Proofs.YtogomodbcjpfiaaGreatDoor.V

namespace Go.Proofs.YtogomodbcjpfiaaGreatDoor.V
open Go.RowKit
theorem ptext_n (b : Bool) (n s : Int) (w : World) (hn0 : 0 ≤ n) (hn : n < MM) (h : ck b n s = 0) : Calls Tryz.prog 53 #[dc b n s] w fun e9 w' => e9 = .returned (.string ⟨(txt b n s.toNat).toArray⟩) ∧ Mw w w' := by
 have hs := sc_iff.1 (ck_s h)
 obtain ⟨k, rfl⟩ : ∃ k : Nat, s = (k : Int) := ⟨s.toNat, by omega⟩
 exact text_ok b n k w hn0 hn (by omega) h
theorem op_live1 : opV 1 (vNu false 150 2) (vNu false 2 0) = vNu false 350 2 := by
 rw [op_num 1 rfl rfl (ckv_vNu (by decide)) (ckv_vNu (by decide))]
 rfl
theorem op_live2 : opV 1 vBl (vNu false 2 0) = vEr 3 := by
 have a : ask vBl = 3 := by
  have c : ckv vBl = true := by unfold ckv; rw [show bareV vBl = vBl from rfl, svv_self]; rfl
  unfold ask; rw [if_pos c]; rfl
 have q : ask2 vBl (vNu false 2 0) = 3 := by unfold ask2; rw [a]; rfl
 unfold opV; rw [q]; rfl
theorem txt_live : (⟨(txt false 150 ((2 : Int).toNat)).toArray⟩ : ByteArray) = ⟨#[49, 46, 53, 48]⟩ := by kernel_rfl
theorem cT {g : FuncId} {args : Array Value} {w : World} {a b : ByteArray} (h : a = b) (c : Calls Tryz.prog g args w fun e w' => e = .returned (.string a) ∧ Mw w w') : Calls Tryz.prog g args w fun e w' => e = .returned (.string b) ∧ Mw w w' := h ▸ c
theorem textN_n (x : VL) (w : World) (hx : x.ok) (hc : ckv x = true) (hk1 : decide (x.k = 1) = true) (hk1p : x.k = 1) : Calls Tryz.prog 25 #[x.v] w fun e9 w' => e9 = .returned (.string ⟨(txt x.b x.n x.s.toNat).toArray⟩) ∧ Mw w w' := by
 refine w_enter 29 Tryz.func25 Tryz.ntmps25 rfl rfl ?_
 have M : Mw w w := Mw.refl _
 refine w_seq (w_reg ?_)
 refine wl_box 28 (.tmp 0) _ (((x.cells).toArray)) rfl rfl (fun _ => by kernel_rfl) rfl ?_
 intro k1 u1 hk hz hq Q1
 have N_k1 : w.heap.size ≤ k1 := by have := M.size; omega
 replace M := M.trans hq
 clear hk hz hq
 refine wl_m (.const (.string ⟨#[]⟩)) (.string ⟨#[]⟩) ?_
 refine w_nil (xn_then (w_seq (w_seq (w_reg ?_))))
 refine wl_l 28 (.tmp 1) (pt k1 0) (.agg (x.cells).toArray) (run_row Q1 28 0 10 (x.cells) rfl Tryz.underlying28 rfl sz28) ?_
 refine wl_call 13 [(.tmp 3)] _ [.agg (x.cells).toArray] (.int .i64 (0)) rfl rfl (fun _ _ => by kernel_rfl) (wk (check_t hc hx _)) rfl ?_
 intro u2 hq
 replace Q1 := Q1.mo hq
 replace M := M.trans hq
 clear hq
 refine wl_b .neq 32 (.tmp 4) (.const (.int .i64 (0))) (.int .i64 (0)) (.int .i64 (0)) (.bool false) (ne34 (r := true) rfl _ _ _) ?_
 refine w_nil (xn_then (w_condF rfl (w_skip (xn_then (w_seq (w_seq (w_reg ?_)))))))
 refine wl_f 28 0 (.tmp 1) (pt k1 0) (pt k1 0) ?_
 refine wl_l 3 (.tmp 6) (pt k1 0) (.int .i64 (x.k)) (run_one Q1 3 0 rfl Tryz.underlying3 rfl) ?_
 refine w_nil (xn_then (w_block (w_seq (w_reg ?_))))
 refine wl_b .eql 3 (.tmp 7) (.const (.int .i64 (1))) (.int .i64 (x.k)) (.int .i64 (1)) (.bool true) (eq3 hk1 _ _ _) ?_
 refine wl_m (.tmp 9) (.bool true) ?_
 refine w_nil (xn_then (w_condT rfl (w_seq (w_reg ?_))))
 refine wl_f 28 1 (.tmp 1) (pt k1 0) (pt k1 1) ?_
 refine wl_l 26 (.tmp 10) (pt k1 1) (.agg #[.bool x.b, .int .u64 (l0 x.n), .int .u64 (l1 x.n), .int .u64 (l2 x.n), .int .u64 (l3 x.n), .int .i64 x.s]) (run_row Q1 26 1 6 _ rfl Tryz.underlying26 rfl sz26) ?_
 refine wl_call 53 [(.tmp 11)] _ [.agg #[.bool x.b, .int .u64 (l0 x.n), .int .u64 (l1 x.n), .int .u64 (l2 x.n), .int .u64 (l3 x.n), .int .i64 x.s]] (.string (⟨(txt x.b x.n x.s.toNat).toArray⟩)) rfl rfl (fun _ _ => by kernel_rfl) (ptext_n x.b x.n x.s _ hx.1 hx.2 (ckv_num hx hc hk1p).2) rfl ?_
 intro u3 hq
 replace Q1 := Q1.mo hq
 replace M := M.trans hq
 clear hq
 refine wl_m (.tmp 12) (.string (⟨(txt x.b x.n x.s.toNat).toArray⟩)) ?_
 refine w_nil (xn_then (w_ret (xr_blk (xr_then ?_))))
 exact w_ret1 _ _ rfl rfl ⟨rfl, M⟩
theorem live_n (w : World) : Calls Tryz.prog 10 #[] w fun e9 w' => e9 = .returned (.bool true) ∧ Mw w w' := by
 refine w_enter 30 Tryz.func10 Tryz.ntmps10 rfl rfl ?_
 have M : Mw w w := Mw.refl _
 refine w_seq (w_reg ?_)
 refine wl_m (.const (.bool false)) (.bool false) ?_
 refine w_nil (xn_then (w_seq (w_reg ?_)))
 refine wl_build 24 [(0, (.const (.int .u64 (150))))] [(0, .int .u64 (150))] (.agg #[.int .u64 (150), .int .u64 0, .int .u64 0, .int .u64 0]) rfl rfl (by kernel_rfl) rfl ?_
 refine wl_build 26 [(1, (.tmp 4)), (2, (.const (.int .i64 (2))))] [(1, .agg #[.int .u64 (150), .int .u64 0, .int .u64 0, .int .u64 0]), (2, .int .i64 (2))] (.agg #[.bool false, .int .u64 (150), .int .u64 0, .int .u64 0, .int .u64 0, .int .i64 (2)]) rfl rfl (by kernel_rfl) rfl ?_
 refine wl_build 28 [(0, (.const (.int .i64 (1)))), (1, (.tmp 5))] [(0, .int .i64 (1)), (1, .agg #[.bool false, .int .u64 (150), .int .u64 0, .int .u64 0, .int .u64 0, .int .i64 (2)])] (.agg #[.int .i64 (1), .bool false, .int .u64 (150), .int .u64 0, .int .u64 0, .int .u64 0, .int .i64 (2), .bool false, .string ⟨#[]⟩, .int .i64 0]) rfl rfl (by kernel_rfl) rfl ?_
 refine wl_alloc 28 #[.int .i64 0, .bool false, .int .u64 0, .int .u64 0, .int .u64 0, .int .u64 0, .int .i64 0, .bool false, .string ⟨#[]⟩, .int .i64 0] rfl (fun _ => by kernel_rfl) rfl ?_
 intro k1 u1 hk hz hq Q1
 have N_k1 : w.heap.size ≤ k1 := by have := M.size; omega
 replace M := M.trans hq
 clear hk hz hq
 refine wl_st 28 (.tmp 1) (.tmp 6) k1 0 #[.int .i64 (1), .bool false, .int .u64 (150), .int .u64 0, .int .u64 0, .int .u64 0, .int .i64 (2), .bool false, .string ⟨#[]⟩, .int .i64 0] _ [.int .i64 (1), .bool false, .int .u64 (150), .int .u64 0, .int .u64 0, .int .u64 0, .int .i64 (2), .bool false, .string ⟨#[]⟩, .int .i64 0] Q1 rfl rfl rfl rfl rfl sz28 rfl rfl rfl ?_
 intro u2 hS Qn
 replace Q1 := Qn
 clear Qn
 replace M := hS.mo _ N_k1 M
 clear hS
 refine w_nil (xn_then (w_seq (w_reg ?_)))
 refine wl_build 24 [(0, (.const (.int .u64 (2))))] [(0, .int .u64 (2))] (.agg #[.int .u64 (2), .int .u64 0, .int .u64 0, .int .u64 0]) rfl rfl (by kernel_rfl) rfl ?_
 refine wl_build 26 [(1, (.tmp 7))] [(1, .agg #[.int .u64 (2), .int .u64 0, .int .u64 0, .int .u64 0])] (.agg #[.bool false, .int .u64 (2), .int .u64 0, .int .u64 0, .int .u64 0, .int .i64 0]) rfl rfl (by kernel_rfl) rfl ?_
 refine wl_build 28 [(0, (.const (.int .i64 (1)))), (1, (.tmp 8))] [(0, .int .i64 (1)), (1, .agg #[.bool false, .int .u64 (2), .int .u64 0, .int .u64 0, .int .u64 0, .int .i64 0])] (.agg #[.int .i64 (1), .bool false, .int .u64 (2), .int .u64 0, .int .u64 0, .int .u64 0, .int .i64 0, .bool false, .string ⟨#[]⟩, .int .i64 0]) rfl rfl (by kernel_rfl) rfl ?_
 refine wl_alloc 28 #[.int .i64 0, .bool false, .int .u64 0, .int .u64 0, .int .u64 0, .int .u64 0, .int .i64 0, .bool false, .string ⟨#[]⟩, .int .i64 0] rfl (fun _ => by kernel_rfl) rfl ?_
 intro k2 u3 hk hz hq Q2
 have ne_k1_k2 : k1 ≠ k2 := by have := Q1.lt; omega
 have N_k2 : w.heap.size ≤ k2 := by have := M.size; omega
 replace Q1 := Q1.mo hq
 replace M := M.trans hq
 clear hk hz hq
 refine wl_st 28 (.tmp 2) (.tmp 9) k2 0 #[.int .i64 (1), .bool false, .int .u64 (2), .int .u64 0, .int .u64 0, .int .u64 0, .int .i64 0, .bool false, .string ⟨#[]⟩, .int .i64 0] _ [.int .i64 (1), .bool false, .int .u64 (2), .int .u64 0, .int .u64 0, .int .u64 0, .int .i64 0, .bool false, .string ⟨#[]⟩, .int .i64 0] Q2 rfl rfl rfl rfl rfl sz28 rfl rfl rfl ?_
 intro u4 hS Qn
 replace Q2 := Qn
 clear Qn
 replace Q1 := hS.other _ _ ne_k1_k2 Q1
 replace M := hS.mo _ N_k2 M
 clear hS
 refine w_nil (xn_then (w_seq (w_reg ?_)))
 refine wl_l 28 (.tmp 1) (pt k1 0) (.agg #[.int .i64 (1), .bool false, .int .u64 (150), .int .u64 0, .int .u64 0, .int .u64 0, .int .i64 (2), .bool false, .string ⟨#[]⟩, .int .i64 0]) (run_row Q1 28 0 10 _ rfl Tryz.underlying28 rfl sz28) ?_
 refine wl_l 28 (.tmp 2) (pt k2 0) (.agg #[.int .i64 (1), .bool false, .int .u64 (2), .int .u64 0, .int .u64 0, .int .u64 0, .int .i64 0, .bool false, .string ⟨#[]⟩, .int .i64 0]) (run_row Q2 28 0 10 _ rfl Tryz.underlying28 rfl sz28) ?_
 refine wl_call 11 [(.const (.int .i64 (1))), (.tmp 10), (.tmp 11)] _ [.int .i64 (1), .agg #[.int .i64 (1), .bool false, .int .u64 (150), .int .u64 0, .int .u64 0, .int .u64 0, .int .i64 (2), .bool false, .string ⟨#[]⟩, .int .i64 0], .agg #[.int .i64 (1), .bool false, .int .u64 (2), .int .u64 0, .int .u64 0, .int .u64 0, .int .i64 0, .bool false, .string ⟨#[]⟩, .int .i64 0]] (.agg ((vNu false 350 2).cells).toArray) rfl rfl (fun _ _ => by kernel_rfl) (wk (cV (op_live1) (op_n 1 (vNu false 150 2) (vNu false 2 0) _ ⟨by decide, by decide⟩ ⟨by decide, by decide⟩))) rfl ?_
 intro u5 hq
 replace Q1 := Q1.mo hq
 replace Q2 := Q2.mo hq
 replace M := M.trans hq
 clear hq
 refine wl_alloc 28 #[.int .i64 0, .bool false, .int .u64 0, .int .u64 0, .int .u64 0, .int .u64 0, .int .i64 0, .bool false, .string ⟨#[]⟩, .int .i64 0] rfl (fun _ => by kernel_rfl) rfl ?_
 intro k3 u6 hk hz hq Q3
 have ne_k1_k3 : k1 ≠ k3 := by have := Q1.lt; omega
 have ne_k2_k3 : k2 ≠ k3 := by have := Q2.lt; omega
 have N_k3 : w.heap.size ≤ k3 := by have := M.size; omega
 replace Q1 := Q1.mo hq
 replace Q2 := Q2.mo hq
 replace M := M.trans hq
 clear hk hz hq
 refine wl_st 28 (.tmp 3) (.tmp 12) k3 0 (((vNu false 350 2).cells).toArray) _ ((vNu false 350 2).cells) Q3 rfl rfl rfl rfl rfl sz28 rfl rfl rfl ?_
 intro u7 hS Qn
 replace Q3 := Qn
 clear Qn
 replace Q1 := hS.other _ _ ne_k1_k3 Q1
 replace Q2 := hS.other _ _ ne_k2_k3 Q2
 replace M := hS.mo _ N_k3 M
 clear hS
 refine w_nil (xn_then (w_seq (w_reg ?_)))
 refine wl_l 28 (.tmp 3) (pt k3 0) (.agg ((vNu false 350 2).cells).toArray) (run_row Q3 28 0 10 ((vNu false 350 2).cells) rfl Tryz.underlying28 rfl sz28) ?_
 refine wl_build 24 [(0, (.const (.int .u64 (350))))] [(0, .int .u64 (350))] (.agg #[.int .u64 (350), .int .u64 0, .int .u64 0, .int .u64 0]) rfl rfl (by kernel_rfl) rfl ?_
 refine wl_build 26 [(1, (.tmp 14)), (2, (.const (.int .i64 (2))))] [(1, .agg #[.int .u64 (350), .int .u64 0, .int .u64 0, .int .u64 0]), (2, .int .i64 (2))] (.agg #[.bool false, .int .u64 (350), .int .u64 0, .int .u64 0, .int .u64 0, .int .i64 (2)]) rfl rfl (by kernel_rfl) rfl ?_
 refine wl_build 28 [(0, (.const (.int .i64 (1)))), (1, (.tmp 15))] [(0, .int .i64 (1)), (1, .agg #[.bool false, .int .u64 (350), .int .u64 0, .int .u64 0, .int .u64 0, .int .i64 (2)])] (.agg #[.int .i64 (1), .bool false, .int .u64 (350), .int .u64 0, .int .u64 0, .int .u64 0, .int .i64 (2), .bool false, .string ⟨#[]⟩, .int .i64 0]) rfl rfl (by kernel_rfl) rfl ?_
 refine wl_b .eql 28 (.tmp 13) (.tmp 16) (.agg ((vNu false 350 2).cells).toArray) (.agg #[.int .i64 (1), .bool false, .int .u64 (350), .int .u64 0, .int .u64 0, .int .u64 0, .int .i64 (2), .bool false, .string ⟨#[]⟩, .int .i64 0]) (.bool true) (eqW (svv_self _) _ _ _) ?_
 refine wl_m (.tmp 17) (.bool true) ?_
 refine wl_build 28 [] [] (.agg #[.int .i64 0, .bool false, .int .u64 0, .int .u64 0, .int .u64 0, .int .u64 0, .int .i64 0, .bool false, .string ⟨#[]⟩, .int .i64 0]) rfl rfl (by kernel_rfl) rfl ?_
 refine wl_l 28 (.tmp 2) (pt k2 0) (.agg #[.int .i64 (1), .bool false, .int .u64 (2), .int .u64 0, .int .u64 0, .int .u64 0, .int .i64 0, .bool false, .string ⟨#[]⟩, .int .i64 0]) (run_row Q2 28 0 10 _ rfl Tryz.underlying28 rfl sz28) ?_
 refine wl_call 11 [(.const (.int .i64 (1))), (.tmp 19), (.tmp 20)] _ [.int .i64 (1), .agg #[.int .i64 0, .bool false, .int .u64 0, .int .u64 0, .int .u64 0, .int .u64 0, .int .i64 0, .bool false, .string ⟨#[]⟩, .int .i64 0], .agg #[.int .i64 (1), .bool false, .int .u64 (2), .int .u64 0, .int .u64 0, .int .u64 0, .int .i64 0, .bool false, .string ⟨#[]⟩, .int .i64 0]] (.agg ((vEr 3).cells).toArray) rfl rfl (fun _ _ => by kernel_rfl) (wk (cV (op_live2) (op_n 1 vBl (vNu false 2 0) _ (ok_0 _ _ _ _ _ _) ⟨by decide, by decide⟩))) rfl ?_
 intro u8 hq
 replace Q1 := Q1.mo hq
 replace Q2 := Q2.mo hq
 replace Q3 := Q3.mo hq
 replace M := M.trans hq
 clear hq
 refine wl_un (fun v => Instr.field 28 v 4) (.tmp 21) (.agg ((vEr 3).cells).toArray) (.int .i64 ((vEr 3).e)) (fun _ => rfl) rfl (by kernel_rfl) rfl ?_
 refine wl_b .eql 3 (.tmp 22) (.const (.int .i64 (3))) (.int .i64 ((vEr 3).e)) (.int .i64 (3)) (.bool true) (eq3 rfl _ _ _) ?_
 refine wl_pick (.tmp 18) (.tmp 23) (.const (.bool false)) true (.bool true) (fun _ => rfl) rfl rfl rfl ?_
 refine wl_m (.tmp 24) (.bool true) ?_
 refine wl_l 28 (.tmp 1) (pt k1 0) (.agg #[.int .i64 (1), .bool false, .int .u64 (150), .int .u64 0, .int .u64 0, .int .u64 0, .int .i64 (2), .bool false, .string ⟨#[]⟩, .int .i64 0]) (run_row Q1 28 0 10 _ rfl Tryz.underlying28 rfl sz28) ?_
 refine wl_call 25 [(.tmp 26)] _ [.agg #[.int .i64 (1), .bool false, .int .u64 (150), .int .u64 0, .int .u64 0, .int .u64 0, .int .i64 (2), .bool false, .string ⟨#[]⟩, .int .i64 0]] (.string (⟨#[49, 46, 53, 48]⟩)) rfl rfl (fun _ _ => by kernel_rfl) (cT txt_live (textN_n (vNu false 150 2) _ ⟨by decide, by decide⟩ (ckv_vNu (by decide)) rfl rfl)) rfl ?_
 intro u9 hq
 replace Q1 := Q1.mo hq
 replace Q2 := Q2.mo hq
 replace Q3 := Q3.mo hq
 replace M := M.trans hq
 clear hq
 refine wl_b .eql 9 (.tmp 27) (.const (.string ⟨#[49, 46, 53, 48]⟩)) (.string (⟨#[49, 46, 53, 48]⟩)) (.string (⟨#[49, 46, 53, 48]⟩)) (.bool true) (s9 (decide_eq_true rfl) _ _ _) ?_
 refine wl_pick (.tmp 25) (.tmp 28) (.const (.bool false)) true (.bool true) (fun _ => rfl) rfl rfl rfl ?_
 refine wl_m (.tmp 29) (.bool true) ?_
 refine w_nil (xn_then (w_ret ?_))
 exact w_ret1 _ _ rfl rfl ⟨rfl, M⟩
end Go.Proofs.YtogomodbcjpfiaaGreatDoor.V
namespace Go.Proofs.YtogomodbcjpfiaaGreatDoor
open Go.ChangeShapes Go.WideShapes Go.ChangeAt Go.RowKit Go.ChangeMaps
set_option maxRecDepth 100000
theorem Tryz.own : ownKnob Tryz.prog.godebug = none := by kernel_rfl
theorem Tryz.laidOut : laidOutB Tryz.prog = true := by kernel_rfl
theorem Tryz.cl3 : Tryz.prog.cellsOf 3 = 1 := by kernel_rfl
theorem Tryz.cl4 : Tryz.prog.cellsOf 4 = 1 := by kernel_rfl
theorem Tryz.cl9 : Tryz.prog.cellsOf 9 = 1 := by kernel_rfl
theorem Tryz.cl22 : Tryz.prog.cellsOf 22 = 1 := by kernel_rfl
theorem Tryz.cl24 : Tryz.prog.cellsOf 24 = 4 := by kernel_rfl
theorem Tryz.cl26 : Tryz.prog.cellsOf 26 = 6 := by kernel_rfl
theorem Tryz.cl28 : Tryz.prog.cellsOf 28 = 10 := by kernel_rfl
theorem wf_u1 {x : Int} (h : (Lit.int .u64 x).wf = true) : U1 x := by
 simp [Lit.wf, IntKind.min, IntKind.max, IntKind.signed, IntKind.bits] at h
 exact ⟨by omega, by omega⟩
section
variable {H : Type} {enc : TypeId × Value → H} {W : World} {sp : Nat → Bool} {fuel : Nat} {cs : List Value} {x : DataW H × List MemPlace}
theorem cut4 (h : DataW.trod enc Tryz.prog W 0 sp true fuel 24 cs = some x) : x.2 = [] ∧ ∃ n : Int, (0 ≤ n ∧ n < MM) ∧ cs = [.int .u64 (l0 n), .int .u64 (l1 n), .int .u64 (l2 n), .int .u64 (l3 n)] := by
 obtain ⟨xs, m, rfl, rfl, hlen, hn, hi⟩ := DataW.trod_array Tryz.underlying24 h
 rw [Tryz.cl24] at hlen
 obtain ⟨c0, c1, c2, c3, rfl⟩ : ∃ c0 c1 c2 c3, cs = [c0, c1, c2, c3] := by
  match cs, hlen with
  | [a, b, c, d], _ => exact ⟨a, b, c, d, rfl⟩
 obtain ⟨y0, y1, y2, y3, rfl⟩ : ∃ y0 y1 y2 y3, xs = [y0, y1, y2, y3] := by
  match xs, hn with
  | [a, b, c, d], _ => exact ⟨a, b, c, d, rfl⟩
 have i0 := hi 0 (by decide)
 have i1 := hi 1 (by decide)
 have i2 := hi 2 (by decide)
 have i3 := hi 3 (by decide)
 simp only [Tryz.cl22] at i0 i1 i2 i3
 simp at i0 i1 i2 i3
 obtain ⟨x0, e0, rfl, w0⟩ := DataW.trod_int Tryz.underlying22 i0
 obtain ⟨x1, e1, rfl, w1⟩ := DataW.trod_int Tryz.underlying22 i1
 obtain ⟨x2, e2, rfl, w2⟩ := DataW.trod_int Tryz.underlying22 i2
 obtain ⟨x3, e3, rfl, w3⟩ := DataW.trod_int Tryz.underlying22 i3
 simp at e0 e1 e2 e3
 subst e0 e1 e2 e3
 have u : U4 x0 x1 x2 x3 := ⟨wf_u1 w0, wf_u1 w1, wf_u1 w2, wf_u1 w3⟩
 exact ⟨rfl, vl x0 x1 x2 x3, vl_bd u, by rw [l0_vl u, l1_vl u, l2_vl u, l3_vl u]⟩
theorem cut6 (h : DataW.trod enc Tryz.prog W 0 sp true fuel 26 cs = some x) : x.2 = [] ∧ ∃ (b : Bool) (n s : Int), (0 ≤ n ∧ n < MM) ∧ cs = [.bool b, .int .u64 (l0 n), .int .u64 (l1 n), .int .u64 (l2 n), .int .u64 (l3 n), .int .i64 s] := by
 obtain ⟨y0, y1, y2, m, rfl, hl, h0, h1, h2⟩ := Go.Deep.trod_struct3 Tryz.underlying26 h
 rw [Tryz.cl26] at hl
 obtain ⟨c0, c1, c2, c3, c4, c5, rfl⟩ : ∃ c0 c1 c2 c3 c4 c5, cs = [c0, c1, c2, c3, c4, c5] := by
  match cs, hl with
  | [a, b, c, d, e, f], _ => exact ⟨a, b, c, d, e, f, rfl⟩
 simp [Tryz.cl4, Tryz.cl24, Tryz.cl3] at h0 h1 h2
 obtain ⟨b, e0, rfl⟩ := DataW.trod_bool Tryz.underlying4 h0
 obtain ⟨q1, n, hn, e1⟩ := cut4 h1
 obtain ⟨s, e2, rfl, w2⟩ := DataW.trod_int Tryz.underlying3 h2
 simp at e0 e1 e2
 obtain ⟨e10, e11, e12, e13⟩ := e1
 subst e0 e10 e11 e12 e13 e2
 exact ⟨by simp [q1], b, n, s, hn, rfl⟩
theorem cut10 (h : DataW.trod enc Tryz.prog W 0 sp true fuel 28 cs = some x) : x.2 = [] ∧ ∃ v : VL, v.ok ∧ cs = v.cells := by
 obtain ⟨xs, n, rfl, rfl, hl, hlen, hi⟩ := DataW.trod_struct Tryz.underlying28 h
 rw [Tryz.cl28] at hl
 obtain ⟨c0, c1, c2, c3, c4, c5, c6, c7, c8, c9, rfl⟩ : ∃ c0 c1 c2 c3 c4 c5 c6 c7 c8 c9, cs = [c0, c1, c2, c3, c4, c5, c6, c7, c8, c9] := by
  match cs, hl with
  | [a0, a1, a2, a3, a4, a5, a6, a7, a8, a9], _ => exact ⟨a0, a1, a2, a3, a4, a5, a6, a7, a8, a9, rfl⟩
 obtain ⟨y0, y1, y2, y3, y4, rfl⟩ : ∃ y0 y1 y2 y3 y4, xs = [y0, y1, y2, y3, y4] := by
  match xs, hlen with
  | [a0, a1, a2, a3, a4], _ => exact ⟨a0, a1, a2, a3, a4, rfl⟩
 have i0 := hi 0 _ rfl
 have i1 := hi 1 _ rfl
 have i2 := hi 2 _ rfl
 have i3 := hi 3 _ rfl
 have i4 := hi 4 _ rfl
 simp [Tryz.cl3, Tryz.cl4, Tryz.cl9, Tryz.cl26] at i0 i1 i2 i3 i4
 obtain ⟨K, e0, rfl, w0⟩ := DataW.trod_int Tryz.underlying3 i0
 obtain ⟨q1, b, m, s, hd, e1⟩ := cut6 i1
 obtain ⟨fl, e2, rfl⟩ := DataW.trod_bool Tryz.underlying4 i2
 obtain ⟨tx, e3, rfl, _⟩ := DataW.trod_string Tryz.underlying9 i3
 obtain ⟨er, e4, rfl, w4⟩ := DataW.trod_int Tryz.underlying3 i4
 simp at e0 e1 e2 e3 e4
 obtain ⟨e10, e11, e12, e13, e14, e15⟩ := e1
 subst e0 e10 e11 e12 e13 e14 e15 e2 e3 e4
 exact ⟨by simp [q1], ⟨K, b, m, s, fl, tx, er⟩, hd, rfl⟩
end
section
variable {H : Type} {enc : TypeId × Value → H} {W : World} {base : Nat} {v : Value} {d : DataW H} {p : List MemPlace}
theorem rd28 : Tryz.prog.readableRec 28 = true := by kernel_rfl
theorem rs28 : 28 < Tryz.prog.types.size := of_decide_eq_true (by kernel_rfl)
theorem open_value (hv : Value.okWide Tryz.prog W .any base 28 v) (h : DataW.Trod enc Tryz.prog W 0 (fun _ => true) true 28 v d p) : ∃ x : VL, x.ok ∧ v = x.v ∧ p = [] ∧ ∀ (W' : World) (sp : Nat → Bool), DataW.Trod enc Tryz.prog W' 0 sp true 28 v d [] := by
 obtain ⟨cs, rfl, hsz, _⟩ : ∃ cs, v = .agg cs ∧ cs.size = Tryz.prog.cellsOf 28 ∧ Row.okWide Tryz.prog W .any base 28 cs := by
  simpa [Value.okWide, Tryz.underlying28] using hv
 obtain ⟨fuel, hf⟩ := id h
 obtain ⟨h0, S, h1, h3⟩ := cut10 hf
 have h0' : p = [] := h0
 subst h0'
 refine ⟨S, h1, ?_, rfl, fun W' sp => WideElems.Trod_stays Tryz.laidOut rd28 rs28 h (by simp) (by simp)⟩
 have : cs = S.cells.toArray := by rw [← h3]; simp [Value.cells]
 rw [this]
end
def pow10Cells : Array Value := #[.int .u64 1, .int .u64 10, .int .u64 100, .int .u64 1000, .int .u64 10000, .int .u64 100000, .int .u64 1000000, .int .u64 10000000, .int .u64 100000000, .int .u64 1000000000, .int .u64 10000000000, .int .u64 100000000000, .int .u64 1000000000000, .int .u64 10000000000000, .int .u64 100000000000000, .int .u64 1000000000000000, .int .u64 10000000000000000, .int .u64 100000000000000000, .int .u64 1000000000000000000, .int .u64 10000000000000000000]
def tab32Cells : Array Value := #[.int .u8 0, .int .u8 1, .int .u8 28, .int .u8 2, .int .u8 29, .int .u8 14, .int .u8 24, .int .u8 3, .int .u8 30, .int .u8 22, .int .u8 20, .int .u8 15, .int .u8 25, .int .u8 17, .int .u8 4, .int .u8 8, .int .u8 31, .int .u8 27, .int .u8 13, .int .u8 23, .int .u8 21, .int .u8 19, .int .u8 16, .int .u8 7, .int .u8 26, .int .u8 12, .int .u8 18, .int .u8 6, .int .u8 11, .int .u8 5, .int .u8 10, .int .u8 9]
def tab64Cells : Array Value := #[.int .u8 0, .int .u8 1, .int .u8 56, .int .u8 2, .int .u8 57, .int .u8 49, .int .u8 28, .int .u8 3, .int .u8 61, .int .u8 58, .int .u8 42, .int .u8 50, .int .u8 38, .int .u8 29, .int .u8 17, .int .u8 4, .int .u8 62, .int .u8 47, .int .u8 59, .int .u8 36, .int .u8 45, .int .u8 43, .int .u8 51, .int .u8 22, .int .u8 53, .int .u8 39, .int .u8 33, .int .u8 30, .int .u8 24, .int .u8 18, .int .u8 12, .int .u8 5, .int .u8 63, .int .u8 55, .int .u8 48, .int .u8 27, .int .u8 60, .int .u8 41, .int .u8 37, .int .u8 16, .int .u8 46, .int .u8 35, .int .u8 44, .int .u8 21, .int .u8 52, .int .u8 32, .int .u8 23, .int .u8 11, .int .u8 54, .int .u8 26, .int .u8 40, .int .u8 15, .int .u8 34, .int .u8 20, .int .u8 31, .int .u8 10, .int .u8 25, .int .u8 14, .int .u8 19, .int .u8 9, .int .u8 13, .int .u8 8, .int .u8 7, .int .u8 6]
def layW (w0 : World) : World :=
 { w0 with heap := ((w0.heap.modify 2 fun
   | .cells _ t frozen => .cells pow10Cells t frozen
   | o => o).modify 4 fun
   | .cells _ t frozen => .cells tab32Cells t frozen
   | o => o).modify 5 fun
   | .cells _ t frozen => .cells tab64Cells t frozen
   | o => o }
theorem laidWorld_met (os : Os) (args : Array Value) : laidMetH Tryz.prog Rows.valueOpsRow.laid ((layW (World.holding Tryz.prog os ⟨#[], #[], []⟩)).forCall (fun _ _ => 0) ⟨#[], args, []⟩).memory := by
 show laidMet Tryz.prog [("math/bits.deBruijn32tab", Rows.laid_math_bits_deBruijn32tab), ("math/bits.deBruijn64tab", Rows.laid_math_bits_deBruijn64tab), ("internal/strconv.uint64pow10", Rows.laid_internal_strconv_uint64pow10)] _
 exact (LaidIn.of_run [2, 4, 5] 8 (by kernel_rfl) (by kernel_rfl) (by kernel_rfl) (by kernel_rfl)).met
theorem post_mw {H : Type} {enc : TypeId × Value → H} {P : Program} {f : Func} {s : ChangeSpec} {apart fresh handsOn : Bool} {W W' : World} {args : Array Value} {v : Value} {ds gs : List (DataW H)}
  (hW : DataW.Whole enc P f.params.toList s.vars apart W args.toList ds gs [])
  (hres : ∀ (b : Nat) (sp : Nat → Bool) (hd : Bool), DataW.TrodAll enc P W' b sp hd f.resultTypes.toList (v.resultList f.resultTypes.size) (s.fn H (ds ++ gs)).results [])
  (hargs : ∀ sp : Nat → Bool, DataW.TrodAll enc P W' 0 sp true f.params.toList args.toList (s.fn H (ds ++ gs)).args [])
  (hvars : ∀ sp : Nat → Bool, DataW.TrodVars enc P W' sp s.vars (s.fn H (ds ++ gs)).vars []) (hk : V.Mw W W') :
  s.post enc P f apart fresh handsOn false W args v W' :=
 ⟨ds, gs, [], [], [], [], hW, hres _ _ _, hargs _, hvars _, Below.frame hk _, fun h => by cases h⟩
end Go.Proofs.YtogomodbcjpfiaaGreatDoor
namespace Go.Proofs.YtogomodbcjpfiaaGreatDoor
open Go.RowKit
theorem small_1 (w : World) : Calls Tryz.prog 132 #[.int .i64 1] w fun e w' => e = .returned (.string ⟨#[49]⟩) ∧ Mo w w' := by
 go_enter Tryz.func132, Tryz.ntmps132
 go_wp2
 go_ret
 exact ⟨by kernel_rfl, Mo.refl _⟩
theorem fmi_1 (w : World) : Calls Tryz.prog 111 #[.int .i64 1, .int .i64 10] w fun e w' => e = .returned (.string ⟨#[49]⟩) ∧ Mo w w' := by
 go_enter Tryz.func111, Tryz.ntmps111
 go_wp2_with fail
 refine (small_1 _).mono ?_
 rintro e w' ⟨rfl, m⟩
 go_wp2_with fail
 go_ret
 exact ⟨rfl, m⟩
theorem iit_1 (w : World) : Calls Tryz.prog 82 #[.int .i64 1] w fun e w' => e = .returned (.string ⟨#[49]⟩) ∧ Mo w w' := by
 go_enter Tryz.func82, Tryz.ntmps82
 go_wp2_with fail
 refine (fmi_1 _).mono ?_
 rintro e w' ⟨rfl, m⟩
 go_wp2_with fail
 go_ret
 exact ⟨rfl, m⟩
theorem itoa_1 (w : World) : Calls Tryz.prog 56 #[.int .i64 1] w fun e w' => e = .returned (.string ⟨#[49]⟩) ∧ Mo w w' := by
 go_enter Tryz.func56, Tryz.ntmps56
 go_wp2_with fail
 refine (iit_1 _).mono ?_
 rintro e w' ⟨rfl, m⟩
 go_wp2_with fail
 go_ret
 exact ⟨rfl, m⟩
theorem small_2 (w : World) : Calls Tryz.prog 132 #[.int .i64 2] w fun e w' => e = .returned (.string ⟨#[50]⟩) ∧ Mo w w' := by
 go_enter Tryz.func132, Tryz.ntmps132
 go_wp2
 go_ret
 exact ⟨by kernel_rfl, Mo.refl _⟩
theorem fmi_2 (w : World) : Calls Tryz.prog 111 #[.int .i64 2, .int .i64 10] w fun e w' => e = .returned (.string ⟨#[50]⟩) ∧ Mo w w' := by
 go_enter Tryz.func111, Tryz.ntmps111
 go_wp2_with fail
 refine (small_2 _).mono ?_
 rintro e w' ⟨rfl, m⟩
 go_wp2_with fail
 go_ret
 exact ⟨rfl, m⟩
theorem iit_2 (w : World) : Calls Tryz.prog 82 #[.int .i64 2] w fun e w' => e = .returned (.string ⟨#[50]⟩) ∧ Mo w w' := by
 go_enter Tryz.func82, Tryz.ntmps82
 go_wp2_with fail
 refine (fmi_2 _).mono ?_
 rintro e w' ⟨rfl, m⟩
 go_wp2_with fail
 go_ret
 exact ⟨rfl, m⟩
theorem itoa_2 (w : World) : Calls Tryz.prog 56 #[.int .i64 2] w fun e w' => e = .returned (.string ⟨#[50]⟩) ∧ Mo w w' := by
 go_enter Tryz.func56, Tryz.ntmps56
 go_wp2_with fail
 refine (iit_2 _).mono ?_
 rintro e w' ⟨rfl, m⟩
 go_wp2_with fail
 go_ret
 exact ⟨rfl, m⟩
theorem small_3 (w : World) : Calls Tryz.prog 132 #[.int .i64 3] w fun e w' => e = .returned (.string ⟨#[51]⟩) ∧ Mo w w' := by
 go_enter Tryz.func132, Tryz.ntmps132
 go_wp2
 go_ret
 exact ⟨by kernel_rfl, Mo.refl _⟩
theorem fmi_3 (w : World) : Calls Tryz.prog 111 #[.int .i64 3, .int .i64 10] w fun e w' => e = .returned (.string ⟨#[51]⟩) ∧ Mo w w' := by
 go_enter Tryz.func111, Tryz.ntmps111
 go_wp2_with fail
 refine (small_3 _).mono ?_
 rintro e w' ⟨rfl, m⟩
 go_wp2_with fail
 go_ret
 exact ⟨rfl, m⟩
theorem iit_3 (w : World) : Calls Tryz.prog 82 #[.int .i64 3] w fun e w' => e = .returned (.string ⟨#[51]⟩) ∧ Mo w w' := by
 go_enter Tryz.func82, Tryz.ntmps82
 go_wp2_with fail
 refine (fmi_3 _).mono ?_
 rintro e w' ⟨rfl, m⟩
 go_wp2_with fail
 go_ret
 exact ⟨rfl, m⟩
theorem itoa_3 (w : World) : Calls Tryz.prog 56 #[.int .i64 3] w fun e w' => e = .returned (.string ⟨#[51]⟩) ∧ Mo w w' := by
 go_enter Tryz.func56, Tryz.ntmps56
 go_wp2_with fail
 refine (iit_3 _).mono ?_
 rintro e w' ⟨rfl, m⟩
 go_wp2_with fail
 go_ret
 exact ⟨rfl, m⟩
theorem small_4 (w : World) : Calls Tryz.prog 132 #[.int .i64 4] w fun e w' => e = .returned (.string ⟨#[52]⟩) ∧ Mo w w' := by
 go_enter Tryz.func132, Tryz.ntmps132
 go_wp2
 go_ret
 exact ⟨by kernel_rfl, Mo.refl _⟩
theorem fmi_4 (w : World) : Calls Tryz.prog 111 #[.int .i64 4, .int .i64 10] w fun e w' => e = .returned (.string ⟨#[52]⟩) ∧ Mo w w' := by
 go_enter Tryz.func111, Tryz.ntmps111
 go_wp2_with fail
 refine (small_4 _).mono ?_
 rintro e w' ⟨rfl, m⟩
 go_wp2_with fail
 go_ret
 exact ⟨rfl, m⟩
theorem iit_4 (w : World) : Calls Tryz.prog 82 #[.int .i64 4] w fun e w' => e = .returned (.string ⟨#[52]⟩) ∧ Mo w w' := by
 go_enter Tryz.func82, Tryz.ntmps82
 go_wp2_with fail
 refine (fmi_4 _).mono ?_
 rintro e w' ⟨rfl, m⟩
 go_wp2_with fail
 go_ret
 exact ⟨rfl, m⟩
theorem itoa_4 (w : World) : Calls Tryz.prog 56 #[.int .i64 4] w fun e w' => e = .returned (.string ⟨#[52]⟩) ∧ Mo w w' := by
 go_enter Tryz.func56, Tryz.ntmps56
 go_wp2_with fail
 refine (iit_4 _).mono ?_
 rintro e w' ⟨rfl, m⟩
 go_wp2_with fail
 go_ret
 exact ⟨rfl, m⟩
theorem small_5 (w : World) : Calls Tryz.prog 132 #[.int .i64 5] w fun e w' => e = .returned (.string ⟨#[53]⟩) ∧ Mo w w' := by
 go_enter Tryz.func132, Tryz.ntmps132
 go_wp2
 go_ret
 exact ⟨by kernel_rfl, Mo.refl _⟩
theorem fmi_5 (w : World) : Calls Tryz.prog 111 #[.int .i64 5, .int .i64 10] w fun e w' => e = .returned (.string ⟨#[53]⟩) ∧ Mo w w' := by
 go_enter Tryz.func111, Tryz.ntmps111
 go_wp2_with fail
 refine (small_5 _).mono ?_
 rintro e w' ⟨rfl, m⟩
 go_wp2_with fail
 go_ret
 exact ⟨rfl, m⟩
theorem iit_5 (w : World) : Calls Tryz.prog 82 #[.int .i64 5] w fun e w' => e = .returned (.string ⟨#[53]⟩) ∧ Mo w w' := by
 go_enter Tryz.func82, Tryz.ntmps82
 go_wp2_with fail
 refine (fmi_5 _).mono ?_
 rintro e w' ⟨rfl, m⟩
 go_wp2_with fail
 go_ret
 exact ⟨rfl, m⟩
theorem itoa_5 (w : World) : Calls Tryz.prog 56 #[.int .i64 5] w fun e w' => e = .returned (.string ⟨#[53]⟩) ∧ Mo w w' := by
 go_enter Tryz.func56, Tryz.ntmps56
 go_wp2_with fail
 refine (iit_5 _).mono ?_
 rintro e w' ⟨rfl, m⟩
 go_wp2_with fail
 go_ret
 exact ⟨rfl, m⟩
def erT (e : Int) : ByteArray := if e = 1 then ⟨#[49]⟩ else if e = 2 then ⟨#[50]⟩ else if e = 3 then ⟨#[51]⟩ else if e = 4 then ⟨#[52]⟩ else ⟨#[53]⟩
theorem isE_c {e : Int} (h : isE e = true) : e = 1 ∨ e = 2 ∨ e = 3 ∨ e = 4 ∨ e = 5 := by
 unfold isE at h; simp at h; omega
theorem itoa_n (e : Int) (h : isE e = true) (w : World) : Calls Tryz.prog 56 #[.int .i64 e] w fun e9 w' => e9 = .returned (.string (erT e)) ∧ Mo w w' := by
 rcases isE_c h with rfl | rfl | rfl | rfl | rfl
 ·exact itoa_1 w
 ·exact itoa_2 w
 ·exact itoa_3 w
 ·exact itoa_4 w
 ·exact itoa_5 w
end Go.Proofs.YtogomodbcjpfiaaGreatDoor
