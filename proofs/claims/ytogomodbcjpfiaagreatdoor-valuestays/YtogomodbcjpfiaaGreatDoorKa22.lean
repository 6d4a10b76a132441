/-
  A part of the proof.
-/
import Derived.Test.YtogomodbcjpfiaaGreatDoorKa21
import Derived.Test.YtogomodbcjpfiaaGreatDoorKa19
import Derived.Test.YtogomodbcjpfiaaGreatDoorKa18
import Derived.Test.YtogomodbcjpfiaaGreatDoorKa17
import Derived.Test.YtogomodbcjpfiaaGreatDoorKa16
import Derived.Test.YtogomodbcjpfiaaGreatDoorKa15
import Derived.Test.YtogomodbcjpfiaaGreatDoorKa14
import Derived.Test.YtogomodbcjpfiaaGreatDoorKa1
import Derived.Shelf.Strings.Builder1
import Derived.Shelf.Strings.Builder2
import Derived.Shelf.Small.Bits
import Derived.Shelf.Small.Wraps
import Derived.Shelf.Strings.BuilderF
import Derived.Shelf.Strings.BuilderK
import Derived.Shelf.Strings.Prefix
import Derived.Shelf.Bits.Mul64
import Derived.Shelf.Strings.Repeat
import Derived.Test.YtogomodbcjpfiaaGreatDoorProg
import Derived.Shelf.Strconv.Itoa0
import Derived.Test.YtogomodbcjpfiaaGreatDoorKa11
import Derived.Test.YtogomodbcjpfiaaGreatDoorKa9
import Derived.Test.YtogomodbcjpfiaaGreatDoorKa4
import Derived.Test.YtogomodbcjpfiaaGreatDoorKa3
import Derived.Test.YtogomodbcjpfiaaGreatDoorKa2
import Derived.RegionTactic
import Derived.WalkKit
import Derived.WalkSpells
import Derived.Handy
import Derived.BigQuiet
import Derived.Deep.RegionHeld3
import Derived.Deep.MidRow
import Derived.BigCall
import Derived.Test.YtogomodbcjpfiaaGreatDoorKa8
import Derived.Test.YtogomodbcjpfiaaGreatDoorKa5
import Derived.Deep.CutBlock
import Derived.Deep.CutRange
import Derived.Test.YtogomodbcjpfiaaGreatDoorKa7
import Derived.Test.YtogomodbcjpfiaaGreatDoorKa6
import Derived.ChangeKeysEq
import Derived.ScopeJumps
import Derived.WalkMore
import Derived.Laws.StructEq
import Derived.Test.YtogomodbcjpfiaaGreatDoorKa10
import Derived.Test.YtogomodbcjpfiaaGreatDoorKa13
import Derived.Test.YtogomodbcjpfiaaGreatDoorKa12
import Derived.Lib.CutLaws
import Derived.Lib.IndexBytes
import Derived.Maps.OwnSet
import Derived.WalkArith
import Derived.StringKeys
import Derived.Test.YtogomodbcjpfiaaGreatDoorKa20
import Derived.Maps.AppendAt
import Derived.Deep.AppendLies
import Derived.Laws.BytesString
namespace Go.Proofs.YtogomodbcjpfiaaGreatDoor.V
open Go.RowKit
def txtB (x : VL) : ByteArray := if ckv x then (if x.k = 1 then ⟨(txt x.b x.n x.s.toNat).toArray⟩ else if x.k = 2 then ⟨(Lib.formatBool x.f).toArray⟩ else if x.k = 3 then ⟨(qt (by8 x.t)).toArray⟩ else if x.k = 4 then (⟨#[33]⟩ : ByteArray) ++ erT x.e else ⟨#[98, 108, 97, 110, 107]⟩) else ⟨#[63]⟩
theorem fbool_n (f : Bool) (w : World) : Calls Tryz.prog 54 #[.bool f] w fun e9 w' => e9 = .returned (.string ⟨(Lib.formatBool f).toArray⟩) ∧ Mw w w' := (Tryz.strconv_FormatBool f w).mono fun _ _ h => ⟨h.1, h.2 ▸ Mw.refl _⟩
theorem cat9 {a b : ByteArray} (h : a.size + b.size ≤ 1000) (x y : Operand) (w : World) : (do eqGuard .add 9 x y (.string a) (.string b); binOp .add 9 (.string a) (.string b)).run Tryz.prog w = .ok (.string (a ++ b)) w := by
 have q : a.size + b.size ≤ 9223372036854775807 := by omega
 simp [go_sem, q]
theorem erT_size (e : Int) : (erT e).size = 1 := by
 unfold erT
 split; · rfl
 split; · rfl
 split; · rfl
 split; · rfl
 rfl
theorem txt_sz {x : VL} (c : ckv x = true) (k : x.k = 3) : x.t.size ≤ 1000000000000 := by
 have q := ckv_in c
 unfold inB at q
 simp [k] at q
 omega
theorem text_n (x : VL) (w : World) (hx : x.ok) : Calls Tryz.prog 25 #[x.v] w fun e9 w' => e9 = .returned (.string (txtB x)) ∧ Mw w w' := by
 refine w_enter 29 Tryz.func25 Tryz.ntmps25 rfl rfl ?_
 have M : Mw w w := Mw.refl _
 refine w_seq (w_reg ?_)
 refine wl_box 28 (.tmp 0) _ (((x.cells).toArray)) rfl rfl (fun _ => by kernel_rfl) rfl ?_
 intro k1 u1 hk hz hq Q1
 have N_k1 : w.heap.size ≤ k1 := by have := M.size; omega
 replace M := M.trans hq
 clear hk hz hq
 refine wl_m (.const (.string ⟨#[]⟩)) (.string ⟨#[]⟩) ?_
 refine w_nil (xn_then (w_seq (w_seq (w_reg ?_))))
 refine wl_l 28 (.tmp 1) (pt k1 0) (.agg (x.cells).toArray) (run_row Q1 28 0 10 (x.cells) rfl Tryz.underlying28 rfl sz28) ?_
 cases hf0 : ckv x with
 | true =>
  refine wl_call 13 [(.tmp 3)] _ [.agg (x.cells).toArray] (.int .i64 (0)) rfl rfl (fun _ _ => by kernel_rfl) (wk (check_t hf0 hx _)) rfl ?_
  intro u2 hq
  replace Q1 := Q1.mo hq
  replace M := M.trans hq
  clear hq
  refine wl_b .neq 32 (.tmp 4) (.const (.int .i64 (0))) (.int .i64 (0)) (.int .i64 (0)) (.bool false) (ne34 (r := true) rfl _ _ _) ?_
  refine w_nil (xn_then (w_condF rfl (w_skip (xn_then (w_seq (w_seq (w_reg ?_)))))))
  refine wl_f 28 0 (.tmp 1) (pt k1 0) (pt k1 0) ?_
  refine wl_l 3 (.tmp 6) (pt k1 0) (.int .i64 (x.k)) (run_one Q1 3 0 rfl Tryz.underlying3 rfl) ?_
  refine w_nil (xn_then (w_block (w_seq (w_reg ?_))))
  cases hf1 : decide (x.k = 1) with
  | true =>
   have hf1p := of_decide_eq_true hf1
   refine wl_b .eql 3 (.tmp 7) (.const (.int .i64 (1))) (.int .i64 (x.k)) (.int .i64 (1)) (.bool true) (eq3 hf1 _ _ _) ?_
   refine wl_m (.tmp 9) (.bool true) ?_
   refine w_nil (xn_then (w_condT rfl (w_seq (w_reg ?_))))
   refine wl_f 28 1 (.tmp 1) (pt k1 0) (pt k1 1) ?_
   refine wl_l 26 (.tmp 10) (pt k1 1) (.agg #[.bool x.b, .int .u64 (l0 x.n), .int .u64 (l1 x.n), .int .u64 (l2 x.n), .int .u64 (l3 x.n), .int .i64 x.s]) (run_row Q1 26 1 6 _ rfl Tryz.underlying26 rfl sz26) ?_
   refine wl_call 53 [(.tmp 11)] _ [.agg #[.bool x.b, .int .u64 (l0 x.n), .int .u64 (l1 x.n), .int .u64 (l2 x.n), .int .u64 (l3 x.n), .int .i64 x.s]] (.string (⟨(txt x.b x.n x.s.toNat).toArray⟩)) rfl rfl (fun _ _ => by kernel_rfl) (ptext_n x.b x.n x.s _ hx.1 hx.2 (ckv_num hx hf0 (by assumption)).2) rfl ?_
   intro u3 hq
   replace Q1 := Q1.mo hq
   replace M := M.trans hq
   clear hq
   refine wl_m (.tmp 12) (.string (⟨(txt x.b x.n x.s.toNat).toArray⟩)) ?_
   refine w_nil (xn_then (w_ret (xr_blk (xr_then ?_))))
   exact w_ret1 _ (.string (⟨(txt x.b x.n x.s.toNat).toArray⟩)) rfl rfl ⟨congrArg Ending.returned (congrArg Value.string (by simp [txtB, hf0, if_pos hf1p])), M⟩
  | false =>
   have hf1p := of_decide_eq_false hf1
   refine wl_b .eql 3 (.tmp 7) (.const (.int .i64 (1))) (.int .i64 (x.k)) (.int .i64 (1)) (.bool false) (eq3 hf1 _ _ _) ?_
   refine wl_m (.tmp 9) (.bool false) ?_
   refine w_nil (xn_then (w_condF rfl (w_seq (w_reg ?_))))
   cases hf2 : decide (x.k = 2) with
   | true =>
    have hf2p := of_decide_eq_true hf2
    refine wl_b .eql 3 (.tmp 7) (.const (.int .i64 (2))) (.int .i64 (x.k)) (.int .i64 (2)) (.bool true) (eq3 hf2 _ _ _) ?_
    refine wl_m (.tmp 14) (.bool true) ?_
    refine w_nil (xn_then (w_condT rfl (w_seq (w_reg ?_))))
    refine wl_f 28 2 (.tmp 1) (pt k1 0) (pt k1 7) ?_
    refine wl_l 4 (.tmp 15) (pt k1 7) (.bool x.f) (run_one Q1 4 7 rfl Tryz.underlying4 rfl) ?_
    refine wl_call 54 [(.tmp 16)] _ [.bool x.f] (.string (⟨(Lib.formatBool x.f).toArray⟩)) rfl rfl (fun _ _ => by kernel_rfl) (fbool_n x.f _) rfl ?_
    intro u3 hq
    replace Q1 := Q1.mo hq
    replace M := M.trans hq
    clear hq
    refine wl_m (.tmp 17) (.string (⟨(Lib.formatBool x.f).toArray⟩)) ?_
    refine w_nil (xn_then (w_ret (xr_blk (xr_then ?_))))
    exact w_ret1 _ (.string (⟨(Lib.formatBool x.f).toArray⟩)) rfl rfl ⟨congrArg Ending.returned (congrArg Value.string (by simp [txtB, hf0, if_neg hf1p, if_pos hf2p])), M⟩
   | false =>
    have hf2p := of_decide_eq_false hf2
    refine wl_b .eql 3 (.tmp 7) (.const (.int .i64 (2))) (.int .i64 (x.k)) (.int .i64 (2)) (.bool false) (eq3 hf2 _ _ _) ?_
    refine wl_m (.tmp 14) (.bool false) ?_
    refine w_nil (xn_then (w_condF rfl (w_seq (w_reg ?_))))
    cases hf3 : decide (x.k = 3) with
    | true =>
     have hf3p := of_decide_eq_true hf3
     refine wl_b .eql 3 (.tmp 7) (.const (.int .i64 (3))) (.int .i64 (x.k)) (.int .i64 (3)) (.bool true) (eq3 hf3 _ _ _) ?_
     refine wl_m (.tmp 19) (.bool true) ?_
     refine w_nil (xn_then (w_condT rfl (w_seq (w_reg ?_))))
     refine wl_f 28 3 (.tmp 1) (pt k1 0) (pt k1 8) ?_
     refine wl_l 9 (.tmp 20) (pt k1 8) (.string x.t) (run_one Q1 9 8 rfl Tryz.underlying9 rfl) ?_
     refine wl_call 55 [(.tmp 21)] _ [.string x.t] (.string (⟨(qt (by8 x.t)).toArray⟩)) rfl rfl (fun _ _ => by kernel_rfl) (quote_n x.t _ (txt_sz hf0 (by assumption))) rfl ?_
     intro u3 hq
     replace Q1 := Q1.mo hq
     replace M := M.trans hq
     clear hq
     refine wl_m (.tmp 22) (.string (⟨(qt (by8 x.t)).toArray⟩)) ?_
     refine w_nil (xn_then (w_ret (xr_blk (xr_then ?_))))
     exact w_ret1 _ (.string (⟨(qt (by8 x.t)).toArray⟩)) rfl rfl ⟨congrArg Ending.returned (congrArg Value.string (by simp [txtB, hf0, if_neg hf1p, if_neg hf2p, if_pos hf3p])), M⟩
    | false =>
     have hf3p := of_decide_eq_false hf3
     refine wl_b .eql 3 (.tmp 7) (.const (.int .i64 (3))) (.int .i64 (x.k)) (.int .i64 (3)) (.bool false) (eq3 hf3 _ _ _) ?_
     refine wl_m (.tmp 19) (.bool false) ?_
     refine w_nil (xn_then (w_condF rfl (w_seq (w_reg ?_))))
     cases hf4 : decide (x.k = 4) with
     | true =>
      have hf4p := of_decide_eq_true hf4
      refine wl_b .eql 3 (.tmp 7) (.const (.int .i64 (4))) (.int .i64 (x.k)) (.int .i64 (4)) (.bool true) (eq3 hf4 _ _ _) ?_
      refine wl_m (.tmp 24) (.bool true) ?_
      refine w_nil (xn_then (w_condT rfl (w_seq (w_reg ?_))))
      refine wl_f 28 4 (.tmp 1) (pt k1 0) (pt k1 9) ?_
      refine wl_l 3 (.tmp 25) (pt k1 9) (.int .i64 (x.e)) (run_one Q1 3 9 rfl Tryz.underlying3 rfl) ?_
      refine wl_call 56 [(.tmp 26)] _ [.int .i64 (x.e)] (.string (erT x.e)) rfl rfl (fun _ _ => by kernel_rfl) (wk (itoa_n x.e (ckv_err hx hf0 (by assumption)).2 _)) rfl ?_
      intro u3 hq
      replace Q1 := Q1.mo hq
      replace M := M.trans hq
      clear hq
      refine wl_b .add 9 (.const (.string ⟨#[33]⟩)) (.tmp 27) (.string ⟨#[33]⟩) (.string (erT x.e)) (.string ((⟨#[33]⟩ : ByteArray) ++ erT x.e)) (cat9 (by rw [erT_size]; decide) _ _ _) ?_
      refine wl_m (.tmp 28) (.string ((⟨#[33]⟩ : ByteArray) ++ erT x.e)) ?_
      refine w_nil (xn_then (w_ret (xr_blk (xr_then ?_))))
      exact w_ret1 _ (.string ((⟨#[33]⟩ : ByteArray) ++ erT x.e)) rfl rfl ⟨congrArg Ending.returned (congrArg Value.string (by simp [txtB, hf0, if_neg hf1p, if_neg hf2p, if_neg hf3p, if_pos hf4p])), M⟩
     | false =>
      have hf4p := of_decide_eq_false hf4
      refine wl_b .eql 3 (.tmp 7) (.const (.int .i64 (4))) (.int .i64 (x.k)) (.int .i64 (4)) (.bool false) (eq3 hf4 _ _ _) ?_
      refine wl_m (.tmp 24) (.bool false) ?_
      refine w_nil (xn_then (w_condF rfl (w_skip (xn_blk (xn_then (w_seq (w_reg ?_)))))))
      refine wl_m (.const (.string ⟨#[98, 108, 97, 110, 107]⟩)) (.string (⟨#[98, 108, 97, 110, 107]⟩)) ?_
      refine w_nil (xn_then (w_ret ?_))
      exact w_ret1 _ (.string (⟨#[98, 108, 97, 110, 107]⟩)) rfl rfl ⟨congrArg Ending.returned (congrArg Value.string (by simp [txtB, hf0, if_neg hf1p, if_neg hf2p, if_neg hf3p, if_neg hf4p])), M⟩
 | false =>
  refine wl_call 13 [(.tmp 3)] _ [.agg (x.cells).toArray] (.int .i64 (1)) rfl rfl (fun _ _ => by kernel_rfl) (wk (check_f hf0 hx _)) rfl ?_
  intro u2 hq
  replace Q1 := Q1.mo hq
  replace M := M.trans hq
  clear hq
  refine wl_b .neq 32 (.tmp 4) (.const (.int .i64 (0))) (.int .i64 (1)) (.int .i64 (0)) (.bool true) (ne34 (r := false) rfl _ _ _) ?_
  refine w_nil (xn_then (w_condT rfl (w_seq (w_reg ?_))))
  refine wl_m (.const (.string ⟨#[63]⟩)) (.string ⟨#[63]⟩) ?_
  refine w_nil (xn_then (w_ret (xr_then ?_)))
  exact w_ret1 _ (.string ⟨#[63]⟩) rfl rfl ⟨congrArg Ending.returned (congrArg Value.string (by simp [txtB, hf0])), M⟩
end Go.Proofs.YtogomodbcjpfiaaGreatDoor.V
namespace Go.Proofs.YtogomodbcjpfiaaGreatDoor
open Go.RowKit Go.Lib
end Go.Proofs.YtogomodbcjpfiaaGreatDoor

namespace Go.Proofs.YtogomodbcjpfiaaGreatDoor
open Go.RowKit Go.Lib
abbrev s3 : ByteArray := ⟨#[51]⟩
end Go.Proofs.YtogomodbcjpfiaaGreatDoor

