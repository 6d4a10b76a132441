/-
  A part of the proof.
-/
import Derived.Test.YthgknegocfhdbaaDoorC8
import Derived.Laws.MakeOwn
import Derived.Lib.AppendStr
import Derived.Test.YthgknegocfhdbaaDoorRows
import Derived.Test.YthgknegocfhdbaaDoorC2
import Derived.Carry
import Derived.ChangeMaps5
import Derived.ChangeSame
import Derived.ChangeVars
import Derived.JoinedOf
import Derived.RowKitTokens
import Derived.LaidLaws
import Derived.LaidHandle
import Derived.Stop.Joined
import Derived.Lib.LaidIn
/-
 What Scan tells of the two texts that the law fixes.
-/
namespace Go.Proofs.YthgknegocfhdbaaDoor.V
open Go.RowKit
abbrev sa : ByteArray := ⟨#[97, 46, 98, 60, 61, 49, 46, 53, 48, 47, 47, 99]⟩
abbrev sb : ByteArray := ⟨#[32, 35]⟩
abbrev sn : ByteArray := ⟨#[49, 46, 53, 48, 47, 47, 99]⟩
theorem symb_d (s : ByteArray) : symb s = sys.any (fun x => by8 s == by8 x) := by
 unfold symb
 simp only [Lib.toList_data]
theorem blk_sb0 : blk sb 0 = 1 := by
 rw [blk_b (by decide) (by decide), blk_n (by decide) (by decide)]
theorem rch_sb : rch sb 1 = (4, 2) := by
 unfold rch
 rw [if_neg (by decide), if_neg (by decide), if_neg (by decide), if_neg (by decide)]
theorem ext_sb : sb.extract 1 2 = ⟨#[35]⟩ := by kernel_rfl
theorem sc_sb : Sc sb (blk sb 0) [] 1 70 := by
 rw [blk_sb0]
 refine Sc.err (by decide) (fun w => next_4f sb 1 2 w (by decide) (by decide) rch_sb (fun w => ?_))
 have h := meaning_4 (sb.extract 1 2) w
 have hs : symb (sb.extract 1 2) = false := by rw [ext_sb, symb_d]; decide
 rw [hs] at h
 exact h
theorem pfx_sn : pfx sn = 4 := by
 have b0 : bt sn 0 = 49 := rfl
 have b1 : bt sn 1 = 46 := rfl
 have b2 : bt sn 2 = 53 := rfl
 have b3 : bt sn 3 = 48 := rfl
 have b4 : bt sn 4 = 47 := rfl
 have r1 : re sn 1 = 1 := re_end (by rw [b1]; rfl)
 have r0 : re sn 0 = 1 := by rw [re_on (by rw [b0]; rfl), r1]
 have r4 : re sn 4 = 4 := re_end (by rw [b4]; rfl)
 have r3 : re sn 3 = 4 := by rw [re_on (by rw [b3]; rfl), r4]
 have r2 : re sn 2 = 4 := by rw [re_on (by rw [b2]; rfl), r3]
 unfold pfx fi
 rw [b0, r0]
 unfold ah
 rw [b1, b2, r2]
 rfl
theorem ext_sn : sa.extract 5 12 = sn := by kernel_rfl
theorem ext_0 : sa.extract 0 1 = ⟨#[97]⟩ := by kernel_rfl
theorem ext_1 : sa.extract 1 2 = ⟨#[46]⟩ := by kernel_rfl
theorem ext_1b : sa.extract 1 3 = ⟨#[46, 98]⟩ := by kernel_rfl
theorem ext_2 : sa.extract 2 3 = ⟨#[98]⟩ := by kernel_rfl
theorem ext_3 : sa.extract 3 5 = ⟨#[60, 61]⟩ := by kernel_rfl
theorem ext_5 : sa.extract 5 9 = ⟨#[49, 46, 53, 48]⟩ := by kernel_rfl
theorem nam_1 (c : UInt8) (h : ltr (bt ⟨#[c]⟩ 0) = true) : nam ⟨#[c]⟩ = true := by
 have h1 : nmA ⟨#[c]⟩ 0 = true := by rw [nmA_in (show 0 < 1 by decide), nmA_end (show ¬ 0 + 1 < 1 by decide), h]; rfl
 unfold nam
 rw [h, h1]; rfl
theorem rch_a0 : rch sa 0 = (1, 1) := by unfold rch; rw [if_pos (by decide), nme_end (by decide)]
theorem rch_a1 : rch sa 1 = (4, 2) := by unfold rch; rw [if_neg (by decide), if_neg (by decide), if_neg (by decide), if_neg (fun h => by have h2 := h.2; rw [ext_1b, symb_d] at h2; revert h2; decide)]
theorem rch_a2 : rch sa 2 = (1, 3) := by unfold rch; rw [if_pos (by decide), nme_end (by decide)]
theorem rch_a3 : rch sa 3 = (4, 5) := by unfold rch; rw [if_neg (by decide), if_neg (by decide), if_neg (by decide), if_pos ⟨by decide, by rw [ext_3, symb_d]; decide⟩]
theorem rch_a5 : rch sa 5 = (2, 9) := by unfold rch; rw [if_neg (by decide), if_pos (by decide), show sa.extract 5 sa.size = sn from ext_sn, pfx_sn]
theorem blk_a {k : Nat} (h1 : isb (bt sa k) = false) (h2 : ((bt sa k == 47) && (bt sa (k + 1) == 47)) = false) : blk sa k = k := blk_n h1 h2
theorem blk_a9 : blk sa 9 = 12 := by
 rw [blk_c (by decide) (by decide) (by decide)]
 rw [lnx_on (by decide) (by decide), lnx_on (by decide) (by decide), lnx_end (by decide), blk_end (by decide)]
theorem df_5 : Df (by8 ⟨#[49, 46, 53, 48]⟩) false [49] [53, 48] := ⟨rfl, by decide, by decide, by decide, by decide, fun h => by cases h⟩
theorem par_5 (w : World) : Calls Tryd.prog 48 #[.string (sa.extract 5 9)] w fun e w' => e = .returned (.tuple #[dc false 150 ((2 : Nat) : Int), .int .i64 0]) ∧ Mo w w' := by
 rw [ext_5]
 exact parse13_df df_5 (by decide) w
def La : List (List Value) := [[.int .i64 ((1 : Nat) : Int), .string (sa.extract 0 1), .int .i64 0, .bool false, .int .u64 0, .int .u64 0, .int .u64 0, .int .u64 0, .int .i64 0, .bool false, .string ⟨#[]⟩, .int .i64 0, .int .i64 ((0 : Nat) : Int)], [.int .i64 ((4 : Nat) : Int), .string (sa.extract 1 2), .int .i64 0, .bool false, .int .u64 0, .int .u64 0, .int .u64 0, .int .u64 0, .int .i64 0, .bool false, .string ⟨#[]⟩, .int .i64 0, .int .i64 ((1 : Nat) : Int)], [.int .i64 ((1 : Nat) : Int), .string (sa.extract 2 3), .int .i64 0, .bool false, .int .u64 0, .int .u64 0, .int .u64 0, .int .u64 0, .int .i64 0, .bool false, .string ⟨#[]⟩, .int .i64 0, .int .i64 ((2 : Nat) : Int)], [.int .i64 ((4 : Nat) : Int), .string (sa.extract 3 5), .int .i64 0, .bool false, .int .u64 0, .int .u64 0, .int .u64 0, .int .u64 0, .int .i64 0, .bool false, .string ⟨#[]⟩, .int .i64 0, .int .i64 ((3 : Nat) : Int)], [.int .i64 ((2 : Nat) : Int), .string (sa.extract 5 9), .int .i64 1, .bool false, .int .u64 (l0 (150)), .int .u64 (l1 (150)), .int .u64 (l2 (150)), .int .u64 (l3 (150)), .int .i64 (((2 : Nat) : Int)), .bool false, .string ⟨#[]⟩, .int .i64 0, .int .i64 ((5 : Nat) : Int)]]
theorem sc_sa : Sc sa (blk sa 0) La 0 0 := by
 rw [blk_a (by decide) (by decide)]
 have m0 : ∀ w, Calls Tryd.prog 28 #[.int .i64 ((1 : Nat) : Int), .string (sa.extract 0 1)] w fun e' w' => e' = .returned (.tuple #[.agg #[.int .i64 0, .bool false, .int .u64 0, .int .u64 0, .int .u64 0, .int .u64 0, .int .i64 0, .bool false, .string ⟨#[]⟩, .int .i64 0], .bool true]) ∧ Mw w w' := fun w => by
  have h := meaning_1 (sa.extract 0 1) w (by decide)
  rw [show nam (sa.extract 0 1) = true from by rw [ext_0]; exact nam_1 _ (by decide)] at h; exact h
 have m1 : ∀ w, Calls Tryd.prog 28 #[.int .i64 ((4 : Nat) : Int), .string (sa.extract 1 2)] w fun e' w' => e' = .returned (.tuple #[.agg #[.int .i64 0, .bool false, .int .u64 0, .int .u64 0, .int .u64 0, .int .u64 0, .int .i64 0, .bool false, .string ⟨#[]⟩, .int .i64 0], .bool true]) ∧ Mw w w' := fun w => by
  have h := meaning_4 (sa.extract 1 2) w
  rw [show symb (sa.extract 1 2) = true from by rw [ext_1, symb_d]; decide] at h; exact h
 have m2 : ∀ w, Calls Tryd.prog 28 #[.int .i64 ((1 : Nat) : Int), .string (sa.extract 2 3)] w fun e' w' => e' = .returned (.tuple #[.agg #[.int .i64 0, .bool false, .int .u64 0, .int .u64 0, .int .u64 0, .int .u64 0, .int .i64 0, .bool false, .string ⟨#[]⟩, .int .i64 0], .bool true]) ∧ Mw w w' := fun w => by
  have h := meaning_1 (sa.extract 2 3) w (by decide)
  rw [show nam (sa.extract 2 3) = true from by rw [ext_2]; exact nam_1 _ (by decide)] at h; exact h
 have m3 : ∀ w, Calls Tryd.prog 28 #[.int .i64 ((4 : Nat) : Int), .string (sa.extract 3 5)] w fun e' w' => e' = .returned (.tuple #[.agg #[.int .i64 0, .bool false, .int .u64 0, .int .u64 0, .int .u64 0, .int .u64 0, .int .i64 0, .bool false, .string ⟨#[]⟩, .int .i64 0], .bool true]) ∧ Mw w w' := fun w => by
  have h := meaning_4 (sa.extract 3 5) w
  rw [show symb (sa.extract 3 5) = true from by rw [ext_3, symb_d]; decide] at h; exact h
 have m5 : ∀ w, Calls Tryd.prog 28 #[.int .i64 ((2 : Nat) : Int), .string (sa.extract 5 9)] w fun e' w' => e' = .returned (.tuple #[.agg #[.int .i64 1, .bool false, .int .u64 (l0 (150)), .int .u64 (l1 (150)), .int .u64 (l2 (150)), .int .u64 (l3 (150)), .int .i64 (((2 : Nat) : Int)), .bool false, .string ⟨#[]⟩, .int .i64 0], .bool true]) ∧ Mw w w' := fun w => meaning_2 (sa.extract 5 9) w false 150 0 2 par_5
 refine Sc.tok (by decide) (by decide) (by decide) rfl (fun w => next_1t sa 0 1 w (by decide) (by decide) rch_a0 m0) ?_
 rw [blk_a (by decide) (by decide)]
 refine Sc.tok (by decide) (by decide) (by decide) rfl (fun w => next_4t sa 1 2 w (by decide) (by decide) rch_a1 m1) ?_
 rw [blk_a (by decide) (by decide)]
 refine Sc.tok (by decide) (by decide) (by decide) rfl (fun w => next_1t sa 2 3 w (by decide) (by decide) rch_a2 m2) ?_
 rw [blk_a (by decide) (by decide)]
 refine Sc.tok (by decide) (by decide) (by decide) rfl (fun w => next_4t sa 3 5 w (by decide) (by decide) rch_a3 m3) ?_
 rw [blk_a (by decide) (by decide)]
 refine Sc.tok (by decide) (by decide) (by decide) rfl (fun w => next_2t sa 5 9 false 150 2 w (by decide) (by decide) rch_a5 m5) ?_
 rw [blk_a9]
 exact Sc.done (by decide)
end Go.Proofs.YthgknegocfhdbaaDoor.V
/-
 exciselaw07.live.
-/
namespace Go.Proofs.YthgknegocfhdbaaDoor.V
open Go.RowKit
theorem own_at37 {w : World} {N g cap n : Nat} {xs : List Value} (h : w.ownsRow N 37 13 (.slice (some ⟨g, 0, none⟩) n cap) n xs) : At w g xs := by
 have hl := h.1
 refine ⟨fun j v hv => ?_, fun o => h.frozenAt o, (h.lt g rfl).2⟩
 have hj : j < xs.length := (List.getElem?_eq_some_iff.1 hv).1
 rw [Nat.zero_add, h.cellAt j (by omega)]; exact hv
theorem ix22t (g j n c : Nat) (h : j < n) (w : World) : (Instr.indexAt 22 (.slice (some ⟨g, 0, none⟩) n c) (.int .i64 (j : Int))).run Tryd.prog w = .ok (pt g (j * 13)) w := by
 have e : (Instr.indexAt 22 (.slice (some ⟨g, 0, none⟩) n c) (.int .i64 (j : Int))).run Tryd.prog w = .ok (.pointer (some ((⟨g, 0, none⟩ : Addr).add (j * 13)))) w := by simp [go_sem, h]
 rw [e, Addr.add_mid, Nat.zero_add]
theorem len22t (ρ : Operand → Value) (x : Operand) (p : Option Addr) (m c : Nat) (hx : ρ x = .slice p m c) (dst : Option Tmp) (type : TypeId) (pos : String) (after : Array Edge) (guard : Option (Nat × Bool)) (w : World) : (execOp ρ { dst, op := .call { callee := .builtin .len, args := #[x], argTypes := #[22] }, type, pos, after, guard }).run Tryd.prog w = .ok (.value (.int .i64 (m : Int))) w := by
 simp [go_sem, hx]
theorem live_n (w : World) : Calls Tryd.prog 10 #[] w fun e w' => e = .returned (.bool true) ∧ Mw w w' := by
 refine w_enter 53 Tryd.func10 Tryd.ntmps10 rfl rfl ?_
 have M : Mw w w := Mw.refl _
 refine w_seq (w_reg ?_)
 refine wl_m (.const (.bool false)) (.bool false) ?_
 refine w_nil (xn_then (w_seq (w_reg ?_)))
 refine wl_callx 8 [(.const (.string ⟨#[97, 46, 98, 60, 61, 49, 46, 53, 48, 47, 47, 99]⟩))] _ [.string ⟨#[97, 46, 98, 60, 61, 49, 46, 53, 48, 47, 47, 99]⟩] rfl rfl (fun _ _ => by kernel_rfl) (scan_n sa La 0 0 _ sc_sa (by decide)) rfl ?_
 rintro _ w1 ⟨va, rfl, hoa, _, hq⟩
 refine ⟨_, rfl, ?_⟩
 replace hoa := hoa rfl
 obtain ⟨ga, ca, hva, _⟩ := hoa.form (by decide)
 subst hva
 have QA := own_at37 hoa
 replace M := M.trans hq
 clear hq
 refine wl_m (.tmp 8) (.tuple #[.slice (some ⟨ga, 0, none⟩) La.length ca, .int .i64 ((0 : Nat) : Int), .int .i64 (0)]) ?_
 refine wl_un (fun v => Instr.extract v 0) (.tmp 7) (.tuple #[.slice (some ⟨ga, 0, none⟩) La.length ca, .int .i64 ((0 : Nat) : Int), .int .i64 (0)]) (.slice (some ⟨ga, 0, none⟩) La.length ca) (fun _ => rfl) rfl (by kernel_rfl) rfl ?_
 refine wl_un (fun v => Instr.extract v 1) (.tmp 7) (.tuple #[.slice (some ⟨ga, 0, none⟩) La.length ca, .int .i64 ((0 : Nat) : Int), .int .i64 (0)]) (.int .i64 ((0 : Nat) : Int)) (fun _ => rfl) rfl (by kernel_rfl) rfl ?_
 refine wl_un (fun v => Instr.extract v 2) (.tmp 7) (.tuple #[.slice (some ⟨ga, 0, none⟩) La.length ca, .int .i64 ((0 : Nat) : Int), .int .i64 (0)]) (.int .i64 (0)) (fun _ => rfl) rfl (by kernel_rfl) rfl ?_
 refine wl_m (.tmp 9) (.slice (some ⟨ga, 0, none⟩) La.length ca) ?_
 refine wl_m (.tmp 10) (.int .i64 ((0 : Nat) : Int)) ?_
 refine wl_m (.tmp 11) (.int .i64 (0)) ?_
 refine w_nil (xn_then (w_seq (w_reg ?_)))
 refine wl_callx 8 [(.const (.string ⟨#[32, 35]⟩))] _ [.string ⟨#[32, 35]⟩] rfl rfl (fun _ _ => by kernel_rfl) (scan_n sb [] 1 70 _ sc_sb (by decide)) rfl ?_
 rintro _ w2 ⟨vb, rfl, _, hvb, hq⟩
 refine ⟨_, rfl, ?_⟩
 obtain rfl := hvb (by decide)
 replace QA := QA.mo hq
 replace M := M.trans hq
 clear hq
 refine wl_m (.tmp 13) (.tuple #[.slice none 0 0, .int .i64 ((1 : Nat) : Int), .int .i64 (70)]) ?_
 refine wl_un (fun v => Instr.extract v 0) (.tmp 12) (.tuple #[.slice none 0 0, .int .i64 ((1 : Nat) : Int), .int .i64 (70)]) (.slice none 0 0) (fun _ => rfl) rfl (by kernel_rfl) rfl ?_
 refine wl_un (fun v => Instr.extract v 1) (.tmp 12) (.tuple #[.slice none 0 0, .int .i64 ((1 : Nat) : Int), .int .i64 (70)]) (.int .i64 ((1 : Nat) : Int)) (fun _ => rfl) rfl (by kernel_rfl) rfl ?_
 refine wl_un (fun v => Instr.extract v 2) (.tmp 12) (.tuple #[.slice none 0 0, .int .i64 ((1 : Nat) : Int), .int .i64 (70)]) (.int .i64 (70)) (fun _ => rfl) rfl (by kernel_rfl) rfl ?_
 refine wl_m (.tmp 14) (.slice none 0 0) ?_
 refine wl_m (.tmp 15) (.int .i64 ((1 : Nat) : Int)) ?_
 refine wl_m (.tmp 16) (.int .i64 (70)) ?_
 refine w_nil (xn_then (w_seq (w_reg ?_)))
 refine wl_m (.tmp 3) (.int .i64 (0)) ?_
 refine wl_b .eql 23 (.tmp 17) (.const (.int .i64 (0))) (.int .i64 (0)) (.int .i64 (0)) (.bool true) (by kernel_rfl) ?_
 refine wl_m (.tmp 18) (.bool true) ?_
 refine wl_m (.tmp 2) (.int .i64 ((0 : Nat) : Int)) ?_
 refine wl_b .eql 3 (.tmp 20) (.const (.int .i64 (0))) (.int .i64 ((0 : Nat) : Int)) (.int .i64 (0)) (.bool true) (by kernel_rfl) ?_
 refine wl_pick (.tmp 19) (.tmp 21) (.const (.bool false)) true (.bool true) (fun _ => rfl) rfl rfl rfl ?_
 refine wl_m (.tmp 22) (.bool true) ?_
 refine wl_m (.tmp 1) (.slice (some ⟨ga, 0, none⟩) La.length ca) ?_
 refine wl_val (.int .i64 ((La.length : Nat) : Int)) (len22t _ _ _ _ _ (by exact rfl) _ _ _ _ _ _) rfl ?_
 refine wl_b .eql 3 (.tmp 25) (.const (.int .i64 (5))) (.int .i64 ((La.length : Nat) : Int)) (.int .i64 (5)) (.bool true) (by kernel_rfl) ?_
 refine wl_pick (.tmp 23) (.tmp 26) (.const (.bool false)) true (.bool true) (fun _ => rfl) rfl rfl rfl ?_
 refine wl_m (.tmp 27) (.bool true) ?_
 refine wl_m (.tmp 1) (.slice (some ⟨ga, 0, none⟩) La.length ca) ?_
 refine wl_bin (fun x y => Instr.indexAt 22 x y) (.tmp 29) (.const (.int .i64 (3))) (.slice (some ⟨ga, 0, none⟩) La.length ca) (.int .i64 (3)) (pt ga 39) (fun _ => rfl) rfl rfl (ix22t ga 3 La.length ca (by decide) _) rfl ?_
 refine wl_f 37 1 (.tmp 30) (pt ga 39) (pt ga 40) ?_
 refine wl_l 9 (.tmp 31) (pt ga 40) (.string (sa.extract 3 5)) (run_one QA 9 40 rfl Tryd.underlying9 rfl) ?_
 refine wl_b .eql 9 (.tmp 32) (.const (.string ⟨#[60, 61]⟩)) (.string (sa.extract 3 5)) (.string ⟨#[60, 61]⟩) (.bool true) (eq9 (by rw [ext_3]; exact beq_self_eq_true _) _ _ _) ?_
 refine wl_pick (.tmp 28) (.tmp 33) (.const (.bool false)) true (.bool true) (fun _ => rfl) rfl rfl rfl ?_
 refine wl_m (.tmp 34) (.bool true) ?_
 refine wl_m (.tmp 1) (.slice (some ⟨ga, 0, none⟩) La.length ca) ?_
 refine wl_bin (fun x y => Instr.indexAt 22 x y) (.tmp 36) (.const (.int .i64 (4))) (.slice (some ⟨ga, 0, none⟩) La.length ca) (.int .i64 (4)) (pt ga 52) (fun _ => rfl) rfl rfl (ix22t ga 4 La.length ca (by decide) _) rfl ?_
 refine wl_f 37 2 (.tmp 37) (pt ga 52) (pt ga 54) ?_
 refine wl_f 35 1 (.tmp 38) (pt ga 54) (pt ga 55) ?_
 refine wl_l 33 (.tmp 39) (pt ga 55) (.agg #[.bool false, .int .u64 (l0 (150)), .int .u64 (l1 (150)), .int .u64 (l2 (150)), .int .u64 (l3 (150)), .int .i64 (((2 : Nat) : Int))]) (run_row QA 33 55 6 _ rfl Tryd.underlying33 rfl sz33) ?_
 refine wl_build 31 [(0, (.const (.int .u64 (150))))] [(0, .int .u64 (150))] (.agg #[.int .u64 (150), .int .u64 0, .int .u64 0, .int .u64 0]) rfl rfl (by kernel_rfl) rfl ?_
 refine wl_build 33 [(1, (.tmp 41)), (2, (.const (.int .i64 (2))))] [(1, .agg #[.int .u64 (150), .int .u64 0, .int .u64 0, .int .u64 0]), (2, .int .i64 (2))] (.agg #[.bool false, .int .u64 (150), .int .u64 0, .int .u64 0, .int .u64 0, .int .i64 (2)]) rfl rfl (by kernel_rfl) rfl ?_
 refine wl_b .eql 33 (.tmp 40) (.tmp 42) (.agg #[.bool false, .int .u64 (l0 (150)), .int .u64 (l1 (150)), .int .u64 (l2 (150)), .int .u64 (l3 (150)), .int .i64 (((2 : Nat) : Int))]) (.agg #[.bool false, .int .u64 (150), .int .u64 0, .int .u64 0, .int .u64 0, .int .i64 (2)]) (.bool true) (by kernel_rfl) ?_
 refine wl_pick (.tmp 35) (.tmp 43) (.const (.bool false)) true (.bool true) (fun _ => rfl) rfl rfl rfl ?_
 refine wl_m (.tmp 44) (.bool true) ?_
 refine wl_m (.tmp 6) (.int .i64 (70)) ?_
 refine wl_b .eql 23 (.tmp 46) (.const (.int .i64 (70))) (.int .i64 (70)) (.int .i64 (70)) (.bool true) (by kernel_rfl) ?_
 refine wl_pick (.tmp 45) (.tmp 47) (.const (.bool false)) true (.bool true) (fun _ => rfl) rfl rfl rfl ?_
 refine wl_m (.tmp 48) (.bool true) ?_
 refine wl_m (.tmp 5) (.int .i64 ((1 : Nat) : Int)) ?_
 refine wl_b .eql 3 (.tmp 50) (.const (.int .i64 (1))) (.int .i64 ((1 : Nat) : Int)) (.int .i64 (1)) (.bool true) (by kernel_rfl) ?_
 refine wl_pick (.tmp 49) (.tmp 51) (.const (.bool false)) true (.bool true) (fun _ => rfl) rfl rfl rfl ?_
 refine wl_m (.tmp 52) (.bool true) ?_
 refine w_nil (xn_then (w_ret ?_))
 exact w_ret1 _ _ rfl rfl ⟨rfl, M⟩
end Go.Proofs.YthgknegocfhdbaaDoor.V
/-
 exciselaw07.LexPlaces, whatever the text.
-/
namespace Go.Proofs.YthgknegocfhdbaaDoor.V
open Go.RowKit
theorem qf_mw {X : Prop} {pa : Option Addr} {w w' : World} {xs : List Value} (h : X → ∃ g : Nat, pa = some ⟨g, 0, none⟩ ∧ At w g xs) (m : Mw w w') : X → ∃ g : Nat, pa = some ⟨g, 0, none⟩ ∧ At w' g xs := fun x => by
 obtain ⟨g, hp, hA⟩ := h x; exact ⟨g, hp, hA.mo m⟩
theorem flat_len : ∀ {D : List (List Value)}, (∀ x ∈ D, x.length = 13) → D.flatten.length = D.length * 13
 | [], _ => rfl
 | c :: D, h => by
  rw [List.flatten_cons, List.length_append, flat_len (fun x hx => h x (List.mem_cons_of_mem _ hx)), h c (List.mem_cons_self ..), List.length_cons]
  omega
theorem flat_at {D R : List (List Value)} {c : List Value} (h : ∀ x ∈ D, x.length = 13) (hc : c.length = 13) : c = ((D ++ c :: R).flatten.drop (D.length * 13)).take 13 := by
 rw [List.flatten_append, ← flat_len h, List.drop_left, List.flatten_cons, ← hc, List.take_left]
theorem scan_long (s : ByteArray) (w : World) (hlong : decide (16384 < s.size) = true) : Calls Tryd.prog 8 #[.string s] w fun e' w' => e' = .returned (.tuple #[.slice none 0 0, .int .i64 (0), .int .i64 (3)]) ∧ Mw w w' := by
 refine w_enter 40 Tryd.func8 Tryd.ntmps8 rfl rfl ?_
 have M : Mw w w := Mw.refl _
 refine w_seq (w_reg ?_)
 refine wl_m (.const (.slice none 0 0)) (.slice none 0 0) ?_
 refine wl_m (.const (.int .i64 (0))) (.int .i64 (0)) ?_
 refine wl_m (.const (.int .i64 (0))) (.int .i64 (0)) ?_
 refine w_nil (xn_then (w_seq (w_seq (w_reg ?_))))
 refine wl_m (.tmp 0) (.string s) ?_
 refine wl_val (.int .i64 ((s.size : Nat) : Int)) (len_s _ _ s (by exact rfl) _ _ _ _ _ _) rfl ?_
 refine wl_b .gtr 3 (.tmp 10) (.const (.int .i64 (16384))) (.int .i64 ((s.size : Nat) : Int)) (.int .i64 (16384)) (.bool true) (gtN hlong _ _ _) ?_
 refine w_nil (xn_then (w_condT rfl (w_seq (w_reg ?_))))
 refine wl_m (.const (.slice none 0 0)) (.slice none 0 0) ?_
 refine wl_m (.const (.int .i64 (0))) (.int .i64 (0)) ?_
 refine wl_m (.const (.int .i64 (3))) (.int .i64 (3)) ?_
 refine w_nil (xn_then (w_ret (xr_then ?_)))
 exact w_ret3 _ _ _ (.slice none 0 0) (.int .i64 (0)) (.int .i64 (3)) rfl rfl rfl rfl ⟨rfl, M⟩
theorem ne3z {a : Int} (x y : Operand) (w : World) : (do eqGuard .neq 3 x y (.int .i64 a) (.int .i64 a); binOp .neq 3 (.int .i64 a) (.int .i64 a)).run Tryd.prog w = .ok (.bool false) w := by
 have e : (do eqGuard .neq 3 x y (.int .i64 a) (.int .i64 a); binOp .neq 3 (.int .i64 a) (.int .i64 a)).run Tryd.prog w = .ok (.bool (!(a == a))) w := by kernel_rfl
 rw [e, beq_self_eq_true]; rfl
end Go.Proofs.YthgknegocfhdbaaDoor.V
/-
 lex.Quote.
-/
namespace Go.Proofs.YthgknegocfhdbaaDoor.V
open Go.RowKit
theorem bc_str (L : List UInt8) (s : ByteArray) : Lib.byteCells L ++ Lib.strCells s = Lib.byteCells (L ++ by8 s) := by
 rw [Lib.strCells_eq, Lib.byteCells_append]
end Go.Proofs.YthgknegocfhdbaaDoor.V
/-
 Both Joins.
-/
namespace Go.Proofs.YthgknegocfhdbaaDoor.V
open Go.RowKit
theorem cz_13 : ∀ (W : List Tk) (ps : List Nat), ∀ x ∈ cz W ps, x.length = 13
 | [], _, x, hx => by cases hx
 | _ :: _, [], x, hx => by cases hx
 | t :: W, a :: ps, x, hx => by
  rcases List.mem_cons.1 hx with rfl | hx
  ·rfl
  ·exact cz_13 W ps x hx
theorem cz_app {D R : List Tk} {P Q : List Nat} (h : P.length = D.length) : cz (D ++ R) (P ++ Q) = cz D P ++ cz R Q := List.zipWith_append h.symm
theorem cz_len {W : List Tk} {ps : List Nat} (h : ps.length = W.length) : (cz W ps).length = W.length := by
 unfold cz; rw [List.length_zipWith, h, Nat.min_self]
theorem flat_get {D R : List (List Value)} {c : List Value} (h : ∀ x ∈ D, x.length = 13) (hc : c.length = 13) {i : Nat} (hi : i < 13) : (D ++ c :: R).flatten[D.length * 13 + i]? = c[i]? := by
 rw [List.flatten_append, List.getElem?_append_right (by rw [flat_len h]; omega), flat_len h, Nat.add_sub_cancel_left, List.flatten_cons, List.getElem?_append_left (by omega)]
structure Sq (W : List Tk) (ps : List Nat) (D : List Tk) (t : Tk) (R : List Tk) (P : List Nat) (a : Nat) (Q : List Nat) : Prop where
 w : W = D ++ t :: R
 p : ps = P ++ a :: Q
 l : P.length = D.length
 q : Q.length = R.length
theorem Sq.cz {W : List Tk} {ps : List Nat} {D : List Tk} {t : Tk} {R : List Tk} {P : List Nat} {a : Nat} {Q : List Nat} (h : Sq W ps D t R P a Q) : V.cz W ps = V.cz D P ++ t.cells a :: V.cz R Q := by
 rw [h.w, h.p, cz_app h.l]; rfl
theorem Sq.row {W : List Tk} {ps : List Nat} {D : List Tk} {t : Tk} {R : List Tk} {P : List Nat} {a : Nat} {Q : List Nat} (h : Sq W ps D t R P a Q) : t.cells a = ((V.cz W ps).flatten.drop (D.length * 13)).take 13 := by
 rw [h.cz, ← cz_len h.l]; exact flat_at (cz_13 D P) rfl
theorem Sq.get {W : List Tk} {ps : List Nat} {D : List Tk} {t : Tk} {R : List Tk} {P : List Nat} {a : Nat} {Q : List Nat} (h : Sq W ps D t R P a Q) {i : Nat} (hi : i < 13) : (V.cz W ps).flatten[D.length * 13 + i]? = (t.cells a)[i]? := by
 rw [h.cz, ← cz_len h.l]; exact flat_get (cz_13 D P) rfl hi
theorem Sq.ne {W : List Tk} {ps : List Nat} {D : List Tk} {t : Tk} {R : List Tk} {P : List Nat} {a : Nat} {Q : List Nat} (h : Sq W ps D t R P a Q) : (V.cz W ps).flatten ≠ [] := fun h0 => by
 rw [h.cz, List.flatten_append, List.flatten_cons] at h0
 simp [Tk.cells] at h0
theorem Sq.lt {W : List Tk} {ps : List Nat} {D : List Tk} {t : Tk} {R : List Tk} {P : List Nat} {a : Nat} {Q : List Nat} (h : Sq W ps D t R P a Q) : D.length < W.length := by
 rw [h.w, List.length_append, List.length_cons]; omega
theorem inf9 : ∃ i, Tryd.prog.info? 9 = some i ∧ i.zero = some (.string ⟨#[]⟩) ∧ i.size = 1 ∧ i.bytes = 16 := by
 have h : (Tryd.prog.info? 9).map (fun i => (i.zero, i.size, i.bytes)) = some (some (.string ⟨#[]⟩), 1, 16) := by kernel_rfl
 cases hi : Tryd.prog.info? 9 with
 | none => rw [hi] at h; cases h
 | some i =>
  rw [hi] at h
  simp at h
  exact ⟨i, rfl, h.1, h.2.1, h.2.2⟩
theorem made_rep (n : Nat) : (madeCells (Value.string ⟨#[]⟩).cells n).toList = List.replicate n (.string ⟨#[]⟩) := by
 apply List.ext_getElem
 ·simp [madeCells]
 ·intro i h1 h2
  have h3 : i % 1 = 0 := Nat.mod_one i
  simp [madeCells, Value.cells, h3]
theorem make60 (n : Nat) (hn : n ≤ 16384) (w : World) : ∃ w', (Instr.makeSlice 60 (.int .i64 ((n : Nat) : Int)) (.int .i64 ((n : Nat) : Int))).run Tryd.prog w = .ok (.slice (some ⟨w.heap.size, 0, none⟩) n n) w' ∧ Mw w w' ∧ w'.heap.size = w.heap.size + 1 ∧ At w' w.heap.size (List.replicate n (.string ⟨#[]⟩)) := by
 obtain ⟨i, hi, hz, hs, hb⟩ := inf9
 have hr := run_makeSlice (P := Tryd.prog) w 60 9 i _ Tryd.underlying60 hi hz .i64 .i64 (n : Int) (n : Int) (by omega) (Int.le_refl _) (by rw [hs]; omega) (by rw [hb]; omega) (by omega)
 refine ⟨_, hr, (Mw.refl _).alloc _ _, by simp, ?_⟩
 have h := At.new w (madeCells (Value.string ⟨#[]⟩).cells ((n : Int).toNat * i.size)) 9
 rw [made_rep] at h
 rw [show List.replicate ((n : Int).toNat * i.size) (Value.string ⟨#[]⟩) = List.replicate n (.string ⟨#[]⟩) by rw [hs, Nat.mul_one, Int.toNat_natCast]] at h
 exact h
section
variable {o : Oper} {n : Nat} {l : List (Nat × Value)} {w : World} {ops : Array Oper} {rest : List Oper} {Q : Exit → Act → World → Prop}
theorem wl_make60 (x : Operand) (m : Nat) (hm : m ≤ 16384) (ho : o.op = .makeSlice 60 x x) (hx : evl n l x = .int .i64 ((m : Nat) : Int)) (hg : wnt n l ops o = true)
  (hk : ∀ k w', w.heap.size = k → Mw w w' → At w' k (List.replicate m (.string ⟨#[]⟩)) → WL Tryd.prog ops Q rest n (ext l o.dst (.slice (some ⟨k, 0, none⟩) m m)) w') : WL Tryd.prog ops Q (o :: rest) n l w := by
 obtain ⟨w', hr, h1, _, h3⟩ := make60 m hm w
 exact ⟨l_step hg (o_val (.slice (some ⟨w.heap.size, 0, none⟩) m m) (w' := w') (by simp [execOp, ho, hx, hr]) (hk _ _ rfl h1 h3).out)⟩
theorem wl_apps (s x : Operand) (N : Nat) (v : Value) (L : List UInt8) (t : ByteArray) (ho : o.op = .call { callee := .builtin .append, args := #[s, x], argTypes := #[62, 9] }) (hs : evl n l s = v) (hx : evl n l x = .string t)
  (hown : OB N v L w) (hn : L.length + t.size ≤ 140737488355328) (hN : N ≤ w.heap.size) (hg : wnt n l ops o = true)
  (hk : ∀ v' w', OB N v' (L ++ by8 t) w' → (∀ a : World, N = a.heap.size → Mw a w → Mw a w') → (∀ j vs, v.ownBlock ≠ some j → At w j vs → At w' j vs) → WL Tryd.prog ops Q rest n (ext l o.dst v') w') : WL Tryd.prog ops Q (o :: rest) n l w := by
 obtain ⟨i, hi, hz, hsz, hby⟩ := inf5
 obtain ⟨v', w', hr, h2, h3, _⟩ := Lib.run_append_own_string (P := Tryd.prog) w N 62 9 o.type 5 i Tryd.underlying62 Tryd.underlying9 hi hz hsz hby v L.length (Lib.byteCells L) hown t (by unfold maxLen; omega) hn hN
 refine ⟨l_step hg (o_val v' (w' := w') ?_ (hk v' w' ?_ ?_ ?_).out)⟩
 ·unfold execOp
  simp only [ho, resolve, invoke, builtin, Sem.run_bind, Sem.run_pure, Result.andThen_ok, List.map_toArray, List.map_cons, List.map_nil, hs, hx, hr]
 ·unfold OB
  rw [← bc_str, List.length_append, by8_len]; exact h2
 ·intro a ha hM
  exact ⟨h3.os.trans hM.os, h3.tape.trans hM.tape, h3.output.trans hM.output, Nat.le_trans hM.size h3.size, fun k hk => (h3.block k (Nat.lt_of_lt_of_le hk hM.size) (fun e => by have := (hown.lt k e.symm).1; omega)).trans (hM.block k hk)⟩
 ·intro j vs hne hA
  have hb := h3.block j hA.lt (fun e => hne e.symm)
  exact ⟨fun i u hu => (World.cell?_of_block (a := ⟨j, 0 + i, none⟩) hb).trans (hA.1 i u hu), fun o => (World.frozen?_of_block (a := ⟨j, o, none⟩) hb).trans (hA.2.1 o), Nat.lt_of_lt_of_le hA.lt h3.size⟩
end
theorem joinS (W : List Tk) (k : Nat) (w : World) (hz : W.length ≤ 16384) (hj : (jl W).length ≤ 140737488355328) (hA : At w k (W.map (fun t => .string t.T))) : Calls Tryd.prog 45 #[.slice (some ⟨k, 0, none⟩) W.length W.length, .string ⟨#[32]⟩] w fun e w' => e = .returned (.string ⟨(jl W).toArray⟩) ∧ Mw w w' := by
 have h := Tryd.strings_Join k 0 W.length (W.map (fun t => t.T)) ⟨#[32]⟩ w (fun j x hx => by
  refine hA.1 j _ ?_
  rw [List.getElem?_map] at hx ⊢
  cases e : W[j]? with
  | none => rw [e] at hx; cases hx
  | some t => rw [e] at hx; cases hx; rfl) hA.lt (by rw [List.length_map]; omega) (by rw [List.length_map]; exact Nat.le_refl _) (by rw [List.map_map]; have := jl_join W; unfold Function.comp; rw [show ([32] : List UInt8) = (⟨#[32]⟩ : ByteArray).data.toList from rfl] at this; rw [this]; exact hj)
 rw [List.length_map, List.map_map] at h
 have e := jl_join W
 rw [show ([32] : List UInt8) = (⟨#[32]⟩ : ByteArray).data.toList from rfl] at e
 unfold Function.comp at h
 rw [e] at h
 exact h
end Go.Proofs.YthgknegocfhdbaaDoor.V
/-
 Both Joins walked.
-/
namespace Go.Proofs.YthgknegocfhdbaaDoor.V
open Go.RowKit
theorem jl_pre {W D : List Tk} {t : Tk} {R : List Tk} (h : W = D ++ t :: R) (hj : (jl W).length ≤ 40000) : (jl D).length ≤ 40000 := by
 cases D with
 | nil => exact Nat.zero_le _
 | cons x D =>
  have e : jl W = by8 x.T ++ (jt D ++ jt (t :: R)) := by rw [h, ← jt_app]; rfl
  rw [e, List.length_append, List.length_append] at hj
  show (by8 x.T ++ jt D).length ≤ _
  rw [List.length_append]; omega
theorem jl_tk {W D : List Tk} {t : Tk} {R : List Tk} (h : W = D ++ t :: R) (hj : (jl W).length ≤ 40000) : t.T.size ≤ 40000 := by
 cases D with
 | nil =>
  have e : jl W = by8 t.T ++ jt R := by rw [h]; rfl
  rw [e, List.length_append, by8_len] at hj; omega
 | cons x D =>
  have e : jl W = by8 x.T ++ (jt D ++ jt (t :: R)) := by rw [h, ← jt_app]; rfl
  rw [e, List.length_append, List.length_append, jt_cons, List.length_append, List.length_cons] at hj
  have := by8_len t.T
  omega
theorem rjoin_n (W : List Tk) (ps : List Nat) (hl : ps.length = W.length) (hz : W.length ≤ 16384) (hj : (jl W).length ≤ 40000) (hoc : ∀ x ∈ W, Wd x) (pa : Option Addr) (ca : Nat) (w : World) (hQA : (cz W ps).flatten ≠ [] → ∃ g, pa = some ⟨g, 0, none⟩ ∧ At w g (cz W ps).flatten) : Calls Tryd.prog 25 #[.slice pa W.length ca] w fun e w' => e = .returned (.string ⟨(jl W).toArray⟩) ∧ Mw w w' := by
 refine w_enter 25 Tryd.func25 Tryd.ntmps25 rfl rfl ?_
 have M : Mw w w := Mw.refl _
 refine w_seq (w_reg ?_)
 refine wl_m (.const (.string ⟨#[]⟩)) (.string ⟨#[]⟩) ?_
 refine w_nil (xn_then (w_seq (w_reg ?_)))
 refine wl_m (.const (.slice none 0 0)) (.slice none 0 0) ?_
 refine w_nil (xn_then (w_seq (w_seq (w_reg ?_))))
 refine wl_m (.const (.int .i64 (0))) (.int .i64 (0)) ?_
 refine w_nil (xn_then (w_block ?_))
 refine w_loop (fun m l w1 => ∃ (D R : List Tk) (P Q9 : List Nat) (v : Value), m = R.length ∧ look l 0 = .slice pa W.length ca ∧ look l 3 = v ∧ look l 4 = .int .i64 ((D.length : Nat) : Int) ∧ W = D ++ R ∧ ps = P ++ Q9 ∧ P.length = D.length ∧ OB w.heap.size v (jl D) w1 ∧ Mw w w1) _ ⟨[], W, [], ps, .slice none 0 0, rfl, rfl, rfl, rfl, rfl, rfl, rfl, OB.nil _ _, M⟩ ?_
 clear M
 rintro m l wl ⟨D, R, P, Q9, v, rfl, e0, e3, e4, hW, hP, hPl, hown, M⟩
 cases R with
 | nil =>
  rw [List.append_nil] at hW
  subst hW
  have hjd : decide (W.length < W.length) = false := decide_eq_false (Nat.lt_irrefl _)
  refine w_seq (w_seq (w_reg ?_))
  refine wl_mv (.tmp 4) (.int .i64 ((W.length : Nat) : Int)) (fun _ => rfl) e4 rfl ?_
  refine wl_mv (.tmp 0) (.slice pa W.length ca) (fun _ => rfl) e0 rfl ?_
  refine wl_val (.int .i64 ((W.length : Nat) : Int)) (len22t _ _ _ _ _ (by exact rfl) _ _ _ _ _ _) rfl ?_
  refine wl_b .lss 3 (.tmp 5) (.tmp 7) (.int .i64 ((W.length : Nat) : Int)) (.int .i64 ((W.length : Nat) : Int)) (.bool false) (ltN hjd _ _ _) ?_
  refine w_nil (xn_then (w_condF rfl (w_exit (xx_then (xx_then (xx_blk (xn_then (w_seq (w_reg ?_)))))))))
  refine wl_mv (.tmp 3) (v) (fun _ => rfl) e3 rfl ?_
  refine wl_un (fun v => convert 62 9 v) (.tmp 23) (v) (.string ⟨(jl W).toArray⟩) (fun _ => rfl) rfl (str_own hown) rfl ?_
  refine wl_m (.tmp 24) (.string ⟨(jl W).toArray⟩) ?_
  refine w_nil (xn_then (w_ret ?_))
  exact w_ret1 _ _ rfl rfl ⟨rfl, M⟩
 | cons tk R =>
  cases Q9 with
  | nil => exact absurd (by have h1 := congrArg List.length hW; have h2 := congrArg List.length hP; simp only [List.length_append, List.length_cons, List.length_nil] at h1 h2; omega) id
  | cons pl Q9 =>
   have hSq : Sq W ps D tk R P pl Q9 := ⟨hW, hP, hPl, by have h1 := congrArg List.length hW; have h2 := congrArg List.length hP; simp only [List.length_append, List.length_cons] at h1 h2; omega⟩
   have hjd : decide (D.length < W.length) = true := decide_eq_true hSq.lt
   have hjp := hSq.lt
   obtain ⟨ga, hpa, QA⟩ := hQA hSq.ne
   have hga := QA.lt
   replace QA := QA.mo M
   have htk : Wd tk := hoc tk (by rw [hW]; exact List.mem_append_right _ (List.mem_cons_self ..))
   refine w_seq (w_seq (w_reg ?_))
   refine wl_mv (.tmp 4) (.int .i64 ((D.length : Nat) : Int)) (fun _ => rfl) e4 rfl ?_
   refine wl_mv (.tmp 0) (.slice pa W.length ca) (fun _ => rfl) e0 rfl ?_
   refine wl_val (.int .i64 ((W.length : Nat) : Int)) (len22t _ _ _ _ _ (by exact rfl) _ _ _ _ _ _) rfl ?_
   refine wl_b .lss 3 (.tmp 5) (.tmp 7) (.int .i64 ((D.length : Nat) : Int)) (.int .i64 ((W.length : Nat) : Int)) (.bool true) (ltN hjd _ _ _) ?_
   refine w_nil (xn_then (w_condT rfl (w_skip (xn_then (w_seq (w_block (w_seq (w_seq ?_))))))))
   cases hf20 : decide (0 < D.length) with
   | true =>
    have hf20p := of_decide_eq_true hf20
    refine w_reg ?_
    refine wl_mv (.tmp 4) (.int .i64 ((D.length : Nat) : Int)) (fun _ => rfl) e4 rfl ?_
    refine wl_b .gtr 3 (.tmp 11) (.const (.int .i64 (0))) (.int .i64 ((D.length : Nat) : Int)) (.int .i64 (0)) (.bool true) (gtN hf20 _ _ _) ?_
    refine w_nil (xn_then (w_condT rfl (w_reg ?_)))
    refine wl_mv (.tmp 3) (v) (fun _ => rfl) e3 rfl ?_
    refine wl_put1 _ (.const (.int .u8 (32))) (.tmp 13) 14 ((32)) w.heap.size v (jl D) rfl rfl rfl rfl rfl rfl rfl rfl hown (by decide) (by have := jl_pre hW hj; omega) M.size ?_
    intro vo11 w11 hOn hMn hAn
    replace QA := hAn ga _ QA.lt (fun e => by have := (hown.lt _ e).1; omega) QA
    replace M := hMn w rfl M
    replace hown := hOn
    clear hOn hMn hAn
    refine wl_m (.tmp 15) (vo11) ?_
    refine w_nil (xn_then (w_reg ?_))
    refine wl_m (.tmp 3) (vo11) ?_
    refine wl_mv (.tmp 0) (.slice pa W.length ca) (fun _ => rfl) e0 rfl ?_
    refine wl_mv (.tmp 4) (.int .i64 ((D.length : Nat) : Int)) (fun _ => rfl) e4 rfl ?_
    refine wl_bin (fun x y => Instr.indexAt 22 x y) (.tmp 17) (.tmp 18) (.slice pa W.length ca) (.int .i64 ((D.length : Nat) : Int)) (pt ga (D.length * 13)) (fun _ => rfl) rfl rfl (by rw [hpa]; exact ix22t ga D.length _ _ hjp _) rfl ?_
    refine wl_f 37 1 (.tmp 19) (pt ga (D.length * 13)) (pt ga (D.length * 13 + 1)) ?_
    refine wl_l 9 (.tmp 20) (pt ga (D.length * 13 + 1)) (.string tk.T) (run_one QA 9 (D.length * 13 + 1) (hSq.get (i := 1) (by decide)) Tryd.underlying9 rfl) ?_
    refine wl_apps (.tmp 16) (.tmp 21) w.heap.size vo11 (jl D ++ [((32) : Int).toNat.toUInt8]) tk.T rfl rfl rfl hown (by have := jl_pre hW hj; have := jl_tk hW hj; simp only [List.length_append, List.length_singleton]; omega) M.size rfl ?_
    intro vo12 w12 hOn hMn hAn
    replace M := hMn w rfl M
    replace hown := hOn
    clear hOn hMn hAn
    refine wl_m (.tmp 22) (vo12) ?_
    refine w_nil (xn_blk (xn_then (w_reg ?_)))
    refine wl_mv (.tmp 4) (.int .i64 ((D.length : Nat) : Int)) (fun _ => rfl) e4 rfl ?_
    refine wl_b .add 3 (.tmp 9) (.const (.int .i64 (1))) (.int .i64 ((D.length : Nat) : Int)) (.int .i64 (1)) (.int .i64 ((D.length + 1 : Nat) : Int)) (addk (a := D.length) (b := 1) rfl (by omega) _ _ _) ?_
    refine wl_m (.tmp 10) (.int .i64 ((D.length + 1 : Nat) : Int)) ?_
    refine w_nil ?_
    exact xn_loop R.length (by simp) ⟨D ++ [tk], R, P ++ [pl], Q9, _, rfl, e0, rfl, by rw [List.length_append]; rfl, by rw [hW, List.append_assoc]; rfl, by rw [hP, List.append_assoc]; rfl, by rw [List.length_append, List.length_append, hPl]; rfl, by rw [jl_snoc (List.length_pos_iff.1 hf20p)]; exact hown, M⟩
   | false =>
    have hf20p := of_decide_eq_false hf20
    refine w_reg ?_
    refine wl_mv (.tmp 4) (.int .i64 ((D.length : Nat) : Int)) (fun _ => rfl) e4 rfl ?_
    refine wl_b .gtr 3 (.tmp 11) (.const (.int .i64 (0))) (.int .i64 ((D.length : Nat) : Int)) (.int .i64 (0)) (.bool false) (gtN hf20 _ _ _) ?_
    refine w_nil (xn_then (w_condF rfl (w_skip (xn_then (w_reg ?_)))))
    refine wl_mv (.tmp 3) (v) (fun _ => rfl) e3 rfl ?_
    refine wl_mv (.tmp 0) (.slice pa W.length ca) (fun _ => rfl) e0 rfl ?_
    refine wl_mv (.tmp 4) (.int .i64 ((D.length : Nat) : Int)) (fun _ => rfl) e4 rfl ?_
    refine wl_bin (fun x y => Instr.indexAt 22 x y) (.tmp 17) (.tmp 18) (.slice pa W.length ca) (.int .i64 ((D.length : Nat) : Int)) (pt ga (D.length * 13)) (fun _ => rfl) rfl rfl (by rw [hpa]; exact ix22t ga D.length _ _ hjp _) rfl ?_
    refine wl_f 37 1 (.tmp 19) (pt ga (D.length * 13)) (pt ga (D.length * 13 + 1)) ?_
    refine wl_l 9 (.tmp 20) (pt ga (D.length * 13 + 1)) (.string tk.T) (run_one QA 9 (D.length * 13 + 1) (hSq.get (i := 1) (by decide)) Tryd.underlying9 rfl) ?_
    refine wl_apps (.tmp 16) (.tmp 21) w.heap.size v (jl D) tk.T rfl rfl rfl hown (by have := jl_pre hW hj; have := jl_tk hW hj; omega) M.size rfl ?_
    intro vo11 w11 hOn hMn hAn
    replace M := hMn w rfl M
    replace hown := hOn
    clear hOn hMn hAn
    refine wl_m (.tmp 22) (vo11) ?_
    refine w_nil (xn_blk (xn_then (w_reg ?_)))
    refine wl_mv (.tmp 4) (.int .i64 ((D.length : Nat) : Int)) (fun _ => rfl) e4 rfl ?_
    refine wl_b .add 3 (.tmp 9) (.const (.int .i64 (1))) (.int .i64 ((D.length : Nat) : Int)) (.int .i64 (1)) (.int .i64 ((D.length + 1 : Nat) : Int)) (addk (a := D.length) (b := 1) rfl (by omega) _ _ _) ?_
    refine wl_m (.tmp 10) (.int .i64 ((D.length + 1 : Nat) : Int)) ?_
    refine w_nil ?_
    exact xn_loop R.length (by simp) ⟨D ++ [tk], R, P ++ [pl], Q9, _, rfl, e0, rfl, by rw [List.length_append]; rfl, by rw [hW, List.append_assoc]; rfl, by rw [hP, List.append_assoc]; rfl, by rw [List.length_append, List.length_append, hPl]; rfl, by rw [show D = [] from List.length_eq_zero_iff.1 (by omega)] at hown ⊢; rw [List.nil_append, jl_one]; exact hown, M⟩
end Go.Proofs.YthgknegocfhdbaaDoor.V
/-
 lex.Join.
-/
namespace Go.Proofs.YthgknegocfhdbaaDoor.V
open Go.RowKit
theorem rep_set {D R : List Tk} {tk : Tk} : (D ++ [tk]).map (fun t : Tk => Value.string t.T) ++ List.replicate R.length (Value.string ⟨#[]⟩) = (D.map (fun t : Tk => Value.string t.T) ++ List.replicate (tk :: R).length (Value.string ⟨#[]⟩)).take D.length ++ [Value.string tk.T] ++ (D.map (fun t : Tk => Value.string t.T) ++ List.replicate (tk :: R).length (Value.string ⟨#[]⟩)).drop (D.length + 1) := by
 have h : (D.map (fun t : Tk => Value.string t.T)).length = D.length := List.length_map _
 rw [List.take_append_of_le_length (by omega), List.take_of_length_le (by omega), ← h, List.drop_append, List.drop_eq_nil_of_le (by omega), List.length_cons, List.replicate_succ]
 simp
theorem join_n (W : List Tk) (ps : List Nat) (hl : ps.length = W.length) (hz : W.length ≤ 16384) (hj : (jl W).length ≤ 40000) (hoc : ∀ x ∈ W, Wd x) (pa : Option Addr) (ca : Nat) (w : World) (hQA : (cz W ps).flatten ≠ [] → ∃ g, pa = some ⟨g, 0, none⟩ ∧ At w g (cz W ps).flatten) : Calls Tryd.prog 24 #[.slice pa W.length ca] w fun e w' => e = .returned (.string ⟨(jl W).toArray⟩) ∧ Mw w w' := by
 refine w_enter 24 Tryd.func24 Tryd.ntmps24 rfl rfl ?_
 have M : Mw w w := Mw.refl _
 refine w_seq (w_reg ?_)
 refine wl_m (.const (.string ⟨#[]⟩)) (.string ⟨#[]⟩) ?_
 refine w_nil (xn_then (w_seq (w_reg ?_)))
 refine wl_m (.tmp 0) (.slice pa W.length ca) ?_
 refine wl_val (.int .i64 ((W.length : Nat) : Int)) (len22t _ _ _ _ _ (by exact rfl) _ _ _ _ _ _) rfl ?_
 refine wl_make60 (.tmp 7) W.length hz rfl rfl rfl ?_
 intro kt w1 hkt hq QT
 have N_kt : w.heap.size ≤ kt := by have := M.size; omega
 replace M := M.trans hq
 clear hkt hq
 refine wl_m (.tmp 8) (.slice (some ⟨kt, 0, none⟩) W.length W.length) ?_
 refine w_nil (xn_then (w_seq (w_seq (w_reg ?_))))
 refine wl_m (.tmp 0) (.slice pa W.length ca) ?_
 refine wl_val (.int .i64 ((W.length : Nat) : Int)) (len22t _ _ _ _ _ (by exact rfl) _ _ _ _ _ _) rfl ?_
 refine wl_m (.const (.int .i64 (0))) (.int .i64 (0)) ?_
 refine w_nil (xn_then (w_block ?_))
 refine w_loop (fun m l w1 => ∃ (D R : List Tk) (P Q9 : List Nat), m = R.length ∧ look l 3 = .slice (some ⟨kt, 0, none⟩) W.length W.length ∧ look l 9 = .slice pa W.length ca ∧ look l 10 = .int .i64 ((W.length : Nat) : Int) ∧ look l 11 = .int .i64 ((D.length : Nat) : Int) ∧ W = D ++ R ∧ ps = P ++ Q9 ∧ P.length = D.length ∧ At w1 kt (D.map (fun t : Tk => Value.string t.T) ++ List.replicate R.length (Value.string ⟨#[]⟩)) ∧ Mw w w1) _ ⟨[], W, [], ps, rfl, rfl, rfl, rfl, rfl, rfl, rfl, rfl, QT, M⟩ ?_
 clear M QT
 rintro m l wl ⟨D, R, P, Q9, rfl, e3, e9, e10, e11, hW, hP, hPl, QT, M⟩
 cases R with
 | nil =>
  rw [List.append_nil] at hW
  subst hW
  rw [List.length_nil, List.replicate_zero, List.append_nil] at QT
  have hjd : decide (W.length < W.length) = false := decide_eq_false (Nat.lt_irrefl _)
  refine w_seq (w_reg ?_)
  refine wl_bin (fun x y => do eqGuard .lss 3 (.tmp 11) (.tmp 10) x y; binOp .lss 3 x y) (.tmp 11) (.tmp 10) (.int .i64 ((W.length : Nat) : Int)) (.int .i64 ((W.length : Nat) : Int)) (.bool false) (fun _ => rfl) e11 e10 (ltN hjd _ _ _) rfl ?_
  refine w_nil (xn_then (w_seq (w_condF rfl (w_exit (xx_then (xx_then (xx_blk (xn_then (w_seq (w_reg ?_))))))))))
  refine wl_mv (.tmp 3) (.slice (some ⟨kt, 0, none⟩) W.length W.length) (fun _ => rfl) e3 rfl ?_
  refine wl_call 45 [(.tmp 22), (.const (.string ⟨#[32]⟩))] _ [.slice (some ⟨kt, 0, none⟩) W.length W.length, .string ⟨#[32]⟩] (.string ⟨(jl W).toArray⟩) rfl rfl (fun _ _ => by kernel_rfl) (joinS W kt _ hz (by omega) QT) rfl ?_
  intro w11 hq
  replace QT := QT.mo hq
  replace M := M.trans hq
  clear hq
  refine wl_m (.tmp 23) (.string ⟨(jl W).toArray⟩) ?_
  refine w_nil (xn_then (w_ret ?_))
  exact w_ret1 _ _ rfl rfl ⟨rfl, M⟩
 | cons tk R =>
  cases Q9 with
  | nil => exact absurd (by have h1 := congrArg List.length hW; have h2 := congrArg List.length hP; simp only [List.length_append, List.length_cons, List.length_nil] at h1 h2; omega) id
  | cons pl Q9 =>
   have hSq : Sq W ps D tk R P pl Q9 := ⟨hW, hP, hPl, by have h1 := congrArg List.length hW; have h2 := congrArg List.length hP; simp only [List.length_append, List.length_cons] at h1 h2; omega⟩
   have hjd : decide (D.length < W.length) = true := decide_eq_true hSq.lt
   have hjp := hSq.lt
   obtain ⟨ga, hpa, QA⟩ := hQA hSq.ne
   have hga := QA.lt
   replace QA := QA.mo M
   have htk : Wd tk := hoc tk (by rw [hW]; exact List.mem_append_right _ (List.mem_cons_self ..))
   have ne_ga_kt : ga ≠ kt := by omega
   refine w_seq (w_reg ?_)
   refine wl_bin (fun x y => do eqGuard .lss 3 (.tmp 11) (.tmp 10) x y; binOp .lss 3 x y) (.tmp 11) (.tmp 10) (.int .i64 ((D.length : Nat) : Int)) (.int .i64 ((W.length : Nat) : Int)) (.bool true) (fun _ => rfl) e11 e10 (ltN hjd _ _ _) rfl ?_
   refine w_nil (xn_then (w_seq (w_condT rfl (w_skip (xn_then (w_seq (w_block (w_seq (w_reg ?_)))))))))
   refine wl_mv (.tmp 11) (.int .i64 ((D.length : Nat) : Int)) (fun _ => rfl) e11 rfl ?_
   refine wl_bin (fun x y => Instr.indexAt 22 x y) (.tmp 9) (.tmp 11) (.slice pa W.length ca) (.int .i64 ((D.length : Nat) : Int)) (pt ga (D.length * 13)) (fun _ => rfl) e9 e11 (by rw [hpa]; exact ix22t ga D.length _ _ hjp _) rfl ?_
   refine wl_l 37 (.tmp 14) (pt ga (D.length * 13)) (.agg #[.int .i64 ((tk.K : Nat) : Int), .string tk.T, tk.v0, tk.v1, tk.v2, tk.v3, tk.v4, tk.v5, tk.v6, tk.v7, tk.v8, tk.v9, .int .i64 ((pl : Nat) : Int)]) (run_row QA 37 (D.length * 13) 13 _ hSq.row Tryd.underlying37 rfl sz37) ?_
   refine wl_alloc 37 #[.int .i64 0, .string ⟨#[]⟩, .int .i64 0, .bool false, .int .u64 0, .int .u64 0, .int .u64 0, .int .u64 0, .int .i64 0, .bool false, .string ⟨#[]⟩, .int .i64 0, .int .i64 0] rfl (fun _ => by kernel_rfl) rfl ?_
   intro k1 w11 hk hz hq Q1
   have ne_ga_k1 : ga ≠ k1 := by have := QA.lt; omega
   have ne_kt_k1 : kt ≠ k1 := by have := QT.lt; omega
   have N_k1 : w.heap.size ≤ k1 := by have := M.size; omega
   replace QA := QA.mo hq
   replace QT := QT.mo hq
   replace M := M.trans hq
   clear hk hz hq
   refine wl_m (.tmp 13) (.int .i64 ((D.length : Nat) : Int)) ?_
   refine wl_st 37 (.tmp 5) (.tmp 15) k1 0 #[.int .i64 ((tk.K : Nat) : Int), .string tk.T, tk.v0, tk.v1, tk.v2, tk.v3, tk.v4, tk.v5, tk.v6, tk.v7, tk.v8, tk.v9, .int .i64 ((pl : Nat) : Int)] _ [.int .i64 ((tk.K : Nat) : Int), .string tk.T, tk.v0, tk.v1, tk.v2, tk.v3, tk.v4, tk.v5, tk.v6, tk.v7, tk.v8, tk.v9, .int .i64 ((pl : Nat) : Int)] Q1 rfl rfl rfl rfl rfl sz37 (htk.oc pl) rfl rfl ?_
   intro w12 hS Qn
   replace Q1 := Qn
   clear Qn
   replace QA := hS.other _ _ ne_ga_k1 QA
   replace QT := hS.other _ _ ne_kt_k1 QT
   replace M := hS.mo _ N_k1 M
   clear hS
   refine w_nil (xn_then (w_reg ?_))
   refine wl_mv (.tmp 3) (.slice (some ⟨kt, 0, none⟩) W.length W.length) (fun _ => rfl) e3 rfl ?_
   refine wl_m (.tmp 4) (.int .i64 ((D.length : Nat) : Int)) ?_
   refine wl_f 37 1 (.tmp 5) (pt k1 0) (pt k1 1) ?_
   refine wl_l 9 (.tmp 18) (pt k1 1) (.string tk.T) (run_one Q1 9 1 rfl Tryd.underlying9 rfl) ?_
   refine wl_bin (fun x y => Instr.indexAt 60 x y) (.tmp 16) (.tmp 17) (.slice (some ⟨kt, 0, none⟩) W.length W.length) (.int .i64 ((D.length : Nat) : Int)) (pt kt D.length) (fun _ => rfl) rfl rfl (ix60 kt D.length _ _ hjp _) rfl ?_
   refine wl_st1 9 (.tmp 20) (.tmp 19) kt D.length (.string tk.T) (D.map (fun t : Tk => Value.string t.T) ++ List.replicate (tk :: R).length (Value.string ⟨#[]⟩)) ((D ++ [tk]).map (fun t : Tk => Value.string t.T) ++ List.replicate R.length (Value.string ⟨#[]⟩)) QT rfl rfl rfl rfl (by rw [Nat.blt_eq]; simp) sz9 rfl rfl rep_set rfl ?_
   intro w13 hS Qn
   replace QT := Qn
   clear Qn
   replace M := hS.mo _ N_kt M
   clear hS
   refine w_nil (xn_blk (xn_then (w_reg ?_)))
   refine wl_bin (fun x y => do eqGuard .add 3 (.tmp 11) (.const (.int .i64 (1))) x y; binOp .add 3 x y) (.tmp 11) (.const (.int .i64 (1))) (.int .i64 ((D.length : Nat) : Int)) (.int .i64 (1)) (.int .i64 ((D.length + 1 : Nat) : Int)) (fun _ => rfl) e11 rfl (addk (a := D.length) (b := 1) rfl (by omega) _ _ _) rfl ?_
   refine wl_m (.tmp 21) (.int .i64 ((D.length + 1 : Nat) : Int)) ?_
   refine w_nil ?_
   exact xn_loop R.length (by simp) ⟨D ++ [tk], R, P ++ [pl], Q9, rfl, e3, e9, e10, by rw [List.length_append]; rfl, by rw [hW, List.append_assoc]; rfl, by rw [hP, List.append_assoc]; rfl, by rw [List.length_append, List.length_append, hPl]; rfl, QT, M⟩
end Go.Proofs.YthgknegocfhdbaaDoor.V
/-
 exciselaw07.LexQuotes.
-/
namespace Go.Proofs.YthgknegocfhdbaaDoor.V
open Go.RowKit
theorem ne9s (s : ByteArray) (x y : Operand) (w : World) : (do eqGuard .neq 9 x y (.string s) (.string s); binOp .neq 9 (.string s) (.string s)).run Tryd.prog w = .ok (.bool false) w := ne9g (r := true) (beq_self_eq_true _) _ _ _
end Go.Proofs.YthgknegocfhdbaaDoor.V
/-
 exciselaw07.LexBack.
-/
namespace Go.Proofs.YthgknegocfhdbaaDoor.V
open Go.RowKit
theorem own_slx {w : World} {N n : Nat} {v : Value} {xs : List Value} (h : w.ownsRow N 37 13 v n xs) : ∃ p cap, v = .slice p n cap ∧ (xs ≠ [] → ∃ g, p = some ⟨g, 0, none⟩ ∧ At w g xs) ∧ (xs ≠ [] → ∀ g, p = some ⟨g, 0, none⟩ → N ≤ g) := by
 have h0 := h
 have hl := h.1
 rcases h.2 with ⟨rfl, rfl⟩ | ⟨g, cap, cur, rfl, hN, _⟩
 ·exact ⟨none, 0, rfl, (fun e => absurd (List.length_eq_zero_iff.1 (by omega)) e), fun e => absurd (List.length_eq_zero_iff.1 (by omega)) e⟩
 ·exact ⟨some ⟨g, 0, none⟩, cap, rfl, (fun _ => ⟨g, rfl, own_at37 h0⟩), fun _ g2 e => by cases e; exact hN⟩
theorem set_at {A B : List Value} {c : List Value} {v : Value} {i m : Nat} (hm : A.length = m) (hi : i < c.length) : A ++ (c.set i v ++ B) = (A ++ (c ++ B)).take (m + i) ++ [v] ++ (A ++ (c ++ B)).drop (m + i + 1) := by
 subst hm
 rw [List.take_append, List.take_of_length_le (by omega), Nat.add_sub_cancel_left, List.drop_append, List.drop_eq_nil_of_le (by omega), show A.length + i + 1 - A.length = i + 1 by omega]
 rw [List.take_append_of_le_length (by omega), List.drop_append_of_le_length (by omega), List.nil_append, List.set_eq_take_append_cons_drop, if_pos hi]
 simp
theorem set_place {W : List Tk} {D : List Tk} {tk : Tk} {R : List Tk} {P : List Nat} {pl pl2 : Nat} {Q : List Nat} (h : Sq W (P ++ pl2 :: Q) D tk R P pl2 Q) (h2 : Sq W (P ++ pl :: Q) D tk R P pl Q) :
  (cz W (P ++ pl :: Q)).flatten = (cz W (P ++ pl2 :: Q)).flatten.take (D.length * 13 + 12) ++ [.int .i64 ((pl : Nat) : Int)] ++ (cz W (P ++ pl2 :: Q)).flatten.drop (D.length * 13 + 12 + 1) := by
 rw [h.cz, h2.cz, List.flatten_append, List.flatten_append, List.flatten_cons, List.flatten_cons]
 have hm : (cz D P).flatten.length = D.length * 13 := by rw [flat_len (cz_13 D P), cz_len h.l]
 have := set_at (A := (cz D P).flatten) (B := (cz R Q).flatten) (c := tk.cells pl2) (v := .int .i64 ((pl : Nat) : Int)) (i := 12) hm (by show 12 < 13; decide)
 exact this
theorem len_j (W : List Tk) (ρ : Operand → Value) (x : Operand) (hx : ρ x = .string ⟨(jl W).toArray⟩) (dst : Option Tmp) (type : TypeId) (pos : String) (after : Array Edge) (guard : Option (Nat × Bool)) (w : World) : (execOp ρ { dst, op := .call { callee := .builtin .len, args := #[x], argTypes := #[9] }, type, pos, after, guard }).run Tryd.prog w = .ok (.value (.int .i64 (((jl W).length : Nat) : Int))) w := len_e (sz_l _) ρ x hx dst type pos after guard w
theorem back_x (s : ByteArray) (p E : Int) (w : World) (hE : (E == 0) = false) (hsc : ∀ w, Calls Tryd.prog 8 #[.string s] w fun e' w' => e' = .returned (.tuple #[.slice none 0 0, .int .i64 p, .int .i64 E]) ∧ Mw w w') : Calls Tryd.prog 6 #[.string s] w fun e' w' => e' = .returned (.bool true) ∧ Mw w w' := by
 refine w_enter 71 Tryd.func6 Tryd.ntmps6 rfl rfl ?_
 have M : Mw w w := Mw.refl _
 refine w_seq (w_reg ?_)
 refine wl_m (.const (.bool false)) (.bool false) ?_
 refine w_nil (xn_then (w_seq (w_reg ?_)))
 refine wl_m (.tmp 0) (.string s) ?_
 refine wl_call 8 [(.tmp 11)] _ [.string s] (.tuple #[.slice none 0 0, .int .i64 (p), .int .i64 (E)]) rfl rfl (fun _ _ => by kernel_rfl) (hsc _) rfl ?_
 intro w1 hq
 replace M := M.trans hq
 clear hq
 refine wl_m (.tmp 12) (.tuple #[.slice none 0 0, .int .i64 (p), .int .i64 (E)]) ?_
 refine wl_un (fun v => Instr.extract v 0) (.tmp 10) (.tuple #[.slice none 0 0, .int .i64 (p), .int .i64 (E)]) (.slice none 0 0) (fun _ => rfl) rfl (by kernel_rfl) rfl ?_
 refine wl_un (fun v => Instr.extract v 1) (.tmp 10) (.tuple #[.slice none 0 0, .int .i64 (p), .int .i64 (E)]) (.int .i64 (p)) (fun _ => rfl) rfl (by kernel_rfl) rfl ?_
 refine wl_un (fun v => Instr.extract v 2) (.tmp 10) (.tuple #[.slice none 0 0, .int .i64 (p), .int .i64 (E)]) (.int .i64 (E)) (fun _ => rfl) rfl (by kernel_rfl) rfl ?_
 refine wl_m (.tmp 13) (.slice none 0 0) ?_
 refine wl_m (.tmp 14) (.int .i64 (p)) ?_
 refine wl_m (.tmp 15) (.int .i64 (E)) ?_
 refine w_nil (xn_then (w_seq (w_seq (w_reg ?_))))
 refine wl_m (.tmp 5) (.int .i64 (E)) ?_
 refine wl_b .neq 23 (.tmp 16) (.const (.int .i64 (0))) (.int .i64 (E)) (.int .i64 (0)) (.bool true) (ne23 (r := false) hE _ _ _) ?_
 refine wl_m (.tmp 17) (.bool true) ?_
 refine wl_skip rfl (wl_skip rfl ?_)
 refine wl_pick (.tmp 18) (.const (.bool true)) (.tmp 20) true (.bool true) (fun _ => rfl) rfl rfl rfl ?_
 refine w_nil (xn_then (w_condT rfl (w_seq (w_reg ?_))))
 refine wl_call 10 [] _ [] (.bool true) rfl rfl (fun _ _ => by kernel_rfl) (live_n _) rfl ?_
 intro w2 hq
 replace M := M.trans hq
 clear hq
 refine wl_m (.tmp 22) (.bool true) ?_
 refine w_nil (xn_then (w_ret (xr_then ?_)))
 exact w_ret1 _ _ rfl rfl ⟨rfl, M⟩
theorem sc_sz {s : ByteArray} {k : Nat} {L : List (List Value)} {p : Nat} {E : Int} (h : Sc s k L p E) : L.length ≤ s.size - k := by
 induction h with
 | done => exact Nat.zero_le _
 | err => exact Nat.zero_le _
 | tok h h1 h2 _ _ _ ih =>
  have := blk_rg s _ _ (Nat.le_refl _) h2
  rw [List.length_cons]; omega
theorem cz_ne {W : List Tk} {p q : List Nat} (hp : p.length = W.length) (hq : q.length = W.length) : ((cz W q).flatten ≠ []) = ((cz W p).flatten ≠ []) := by
 have h1 := flat_len (cz_13 W p)
 have h2 := flat_len (cz_13 W q)
 rw [cz_len hp] at h1
 rw [cz_len hq] at h2
 have e : ((cz W q).flatten = []) ↔ ((cz W p).flatten = []) := by
  rw [← List.length_eq_zero_iff, ← List.length_eq_zero_iff, h1, h2]
 exact propext (not_congr e)
theorem back_k (s : ByteArray) (W : List Tk) (ps : List Nat) (w : World) (hS0 : Sb s (blk s 0) W ps) (hlong : decide (16384 < s.size) = false) : Calls Tryd.prog 6 #[.string s] w fun e' w' => e' = .returned (.bool true) ∧ Mw w w' := by
 have hlp := of_decide_eq_false hlong
 have hl := hS0.len
 have hzW : W.length ≤ 16384 := by have h := sc_sz hS0.sc; rw [cz_len hl] at h; omega
 have hjW : (jl W).length ≤ 40000 := by have h1 := jl_le W; have h2 := hS0.jt_le; omega
 refine w_enter 71 Tryd.func6 Tryd.ntmps6 rfl rfl ?_
 have M : Mw w w := Mw.refl _
 refine w_seq (w_reg ?_)
 refine wl_m (.const (.bool false)) (.bool false) ?_
 refine w_nil (xn_then (w_seq (w_reg ?_)))
 refine wl_m (.tmp 0) (.string s) ?_
 refine wl_callx 8 [(.tmp 11)] _ [.string s] rfl rfl (fun _ _ => by kernel_rfl) (scan_n s (cz W ps) 0 0 _ hS0.sc hlong) rfl ?_
 rintro _ w1 ⟨va, rfl, hoa, _, hq⟩
 refine ⟨_, rfl, ?_⟩
 obtain ⟨pa, ca, hva, hQa, hNa⟩ := own_slx (hoa rfl)
 rw [cz_len hl] at hva
 subst hva
 clear hoa
 replace M := M.trans hq
 clear hq
 refine wl_m (.tmp 12) (.tuple #[.slice pa W.length ca, .int .i64 ((0 : Nat) : Int), .int .i64 (0)]) ?_
 refine wl_un (fun v => Instr.extract v 0) (.tmp 10) (.tuple #[.slice pa W.length ca, .int .i64 ((0 : Nat) : Int), .int .i64 (0)]) (.slice pa W.length ca) (fun _ => rfl) rfl (by kernel_rfl) rfl ?_
 refine wl_un (fun v => Instr.extract v 1) (.tmp 10) (.tuple #[.slice pa W.length ca, .int .i64 ((0 : Nat) : Int), .int .i64 (0)]) (.int .i64 ((0 : Nat) : Int)) (fun _ => rfl) rfl (by kernel_rfl) rfl ?_
 refine wl_un (fun v => Instr.extract v 2) (.tmp 10) (.tuple #[.slice pa W.length ca, .int .i64 ((0 : Nat) : Int), .int .i64 (0)]) (.int .i64 (0)) (fun _ => rfl) rfl (by kernel_rfl) rfl ?_
 refine wl_m (.tmp 13) (.slice pa W.length ca) ?_
 refine wl_m (.tmp 14) (.int .i64 ((0 : Nat) : Int)) ?_
 refine wl_m (.tmp 15) (.int .i64 (0)) ?_
 refine w_nil (xn_then (w_seq (w_seq (w_reg ?_))))
 refine wl_m (.tmp 5) (.int .i64 (0)) ?_
 refine wl_b .neq 23 (.tmp 16) (.const (.int .i64 (0))) (.int .i64 (0)) (.int .i64 (0)) (.bool false) (ne23 (r := true) rfl _ _ _) ?_
 refine wl_m (.tmp 17) (.bool false) ?_
 refine wl_call 10 [] _ [] (.bool true) rfl rfl (fun _ _ => by kernel_rfl) (live_n _) rfl ?_
 intro w2 hq
 replace hQa := qf_mw hQa hq
 replace M := M.trans hq
 clear hq
 refine wl_un (fun v => Op.unary .not v) (.tmp 19) (.bool true) (.bool false) (fun _ => rfl) rfl (by kernel_rfl) rfl ?_
 refine wl_pick (.tmp 18) (.const (.bool true)) (.tmp 20) false (.bool false) (fun _ => rfl) rfl rfl rfl ?_
 refine w_nil (xn_then (w_condF rfl (w_skip (xn_then (w_seq (w_reg ?_))))))
 refine wl_m (.tmp 3) (.slice pa W.length ca) ?_
 refine wl_call 24 [(.tmp 23)] _ [.slice pa W.length ca] (.string ⟨(jl W).toArray⟩) rfl rfl (fun _ _ => by kernel_rfl) (join_n W ps hl hzW hjW hS0.wd pa ca _ hQa) rfl ?_
 intro w3 hq
 replace hQa := qf_mw hQa hq
 replace M := M.trans hq
 clear hq
 refine wl_m (.tmp 24) (.string ⟨(jl W).toArray⟩) ?_
 refine w_nil (xn_then (w_seq (w_seq (w_reg ?_))))
 refine wl_m (.tmp 6) (.string ⟨(jl W).toArray⟩) ?_
 refine wl_m (.tmp 3) (.slice pa W.length ca) ?_
 refine wl_call 25 [(.tmp 26)] _ [.slice pa W.length ca] (.string ⟨(jl W).toArray⟩) rfl rfl (fun _ _ => by kernel_rfl) (rjoin_n W ps hl hzW hjW hS0.wd pa ca _ hQa) rfl ?_
 intro w4 hq
 replace hQa := qf_mw hQa hq
 replace M := M.trans hq
 clear hq
 refine wl_b .neq 9 (.tmp 25) (.tmp 27) (.string ⟨(jl W).toArray⟩) (.string ⟨(jl W).toArray⟩) (.bool false) (ne9s _ _ _ _) ?_
 refine w_nil (xn_then (w_condF rfl (w_skip (xn_then (w_seq (w_seq ?_))))))
 cases hf0 : decide (16384 < (jl W).length) with
 | true =>
  have hf0p := of_decide_eq_true hf0
  refine w_reg ?_
  refine wl_m (.tmp 6) (.string ⟨(jl W).toArray⟩) ?_
  refine wl_val (.int .i64 (((jl W).length : Nat) : Int)) (len_j W _ _ (by exact rfl) _ _ _ _ _ _) rfl ?_
  refine wl_b .gtr 3 (.tmp 30) (.const (.int .i64 (16384))) (.int .i64 (((jl W).length : Nat) : Int)) (.int .i64 (16384)) (.bool true) (gtN hf0 _ _ _) ?_
  refine w_nil (xn_then (w_condT rfl (w_seq (w_reg ?_))))
  refine wl_m (.const (.bool true)) (.bool true) ?_
  refine w_nil (xn_then (w_ret (xr_then ?_)))
  exact w_ret1 _ _ rfl rfl ⟨rfl, M⟩
 | false =>
  have hf0p := of_decide_eq_false hf0
  refine w_reg ?_
  refine wl_m (.tmp 6) (.string ⟨(jl W).toArray⟩) ?_
  refine wl_val (.int .i64 (((jl W).length : Nat) : Int)) (len_j W _ _ (by exact rfl) _ _ _ _ _ _) rfl ?_
  refine wl_b .gtr 3 (.tmp 30) (.const (.int .i64 (16384))) (.int .i64 (((jl W).length : Nat) : Int)) (.int .i64 (16384)) (.bool false) (gtN hf0 _ _ _) ?_
  refine w_nil (xn_then (w_condF rfl (w_skip (xn_then (w_seq (w_reg ?_))))))
  refine wl_m (.tmp 6) (.string ⟨(jl W).toArray⟩) ?_
  have hga9 : (cz W ps).flatten ≠ [] → ∀ g, pa = some ⟨g, 0, none⟩ → g < w4.heap.size := fun h g e => by obtain ⟨g2, e2, hA2⟩ := hQa h; rw [e2] at e; cases e; exact hA2.lt
  obtain ⟨ps2, hS2⟩ := sb_jl W hS0.wd (by omega)
  have hl2 := hS2.len
  have hM9 := M.size
  refine wl_callx 8 [(.tmp 33)] _ [.string ⟨(jl W).toArray⟩] rfl rfl (fun _ _ => by kernel_rfl) (scan_n ⟨(jl W).toArray⟩ (cz W ps2) 0 0 _ hS2.sc (by rw [sz_l]; exact hf0)) rfl ?_
  rintro _ w5 ⟨vb, rfl, hob, _, hq⟩
  refine ⟨_, rfl, ?_⟩
  obtain ⟨pb, cb, hvb, hQb, hNb⟩ := own_slx (hob rfl)
  rw [cz_len hl2] at hvb
  subst hvb
  clear hob
  replace hQa := qf_mw hQa hq
  replace M := M.trans hq
  clear hq
  refine wl_m (.tmp 34) (.tuple #[.slice pb W.length cb, .int .i64 ((0 : Nat) : Int), .int .i64 (0)]) ?_
  refine wl_un (fun v => Instr.extract v 0) (.tmp 32) (.tuple #[.slice pb W.length cb, .int .i64 ((0 : Nat) : Int), .int .i64 (0)]) (.slice pb W.length cb) (fun _ => rfl) rfl (by kernel_rfl) rfl ?_
  refine wl_un (fun v => Instr.extract v 1) (.tmp 32) (.tuple #[.slice pb W.length cb, .int .i64 ((0 : Nat) : Int), .int .i64 (0)]) (.int .i64 ((0 : Nat) : Int)) (fun _ => rfl) rfl (by kernel_rfl) rfl ?_
  refine wl_un (fun v => Instr.extract v 2) (.tmp 32) (.tuple #[.slice pb W.length cb, .int .i64 ((0 : Nat) : Int), .int .i64 (0)]) (.int .i64 (0)) (fun _ => rfl) rfl (by kernel_rfl) rfl ?_
  refine wl_m (.tmp 35) (.slice pb W.length cb) ?_
  refine wl_m (.tmp 36) (.int .i64 ((0 : Nat) : Int)) ?_
  refine wl_m (.tmp 37) (.int .i64 (0)) ?_
  refine w_nil (xn_then (w_seq (w_seq (w_reg ?_))))
  refine wl_m (.tmp 5) (.int .i64 (0)) ?_
  refine wl_b .neq 23 (.tmp 38) (.const (.int .i64 (0))) (.int .i64 (0)) (.int .i64 (0)) (.bool false) (ne23 (r := true) rfl _ _ _) ?_
  refine wl_m (.tmp 39) (.bool false) ?_
  refine wl_m (.tmp 7) (.slice pb W.length cb) ?_
  refine wl_val (.int .i64 ((W.length : Nat) : Int)) (len22t _ _ _ _ _ (by exact rfl) _ _ _ _ _ _) rfl ?_
  refine wl_m (.tmp 3) (.slice pa W.length ca) ?_
  refine wl_val (.int .i64 ((W.length : Nat) : Int)) (len22t _ _ _ _ _ (by exact rfl) _ _ _ _ _ _) rfl ?_
  refine wl_b .neq 3 (.tmp 42) (.tmp 44) (.int .i64 ((W.length : Nat) : Int)) (.int .i64 ((W.length : Nat) : Int)) (.bool false) (ne3z _ _ _) ?_
  refine wl_pick (.tmp 40) (.const (.bool true)) (.tmp 45) false (.bool false) (fun _ => rfl) rfl rfl rfl ?_
  refine w_nil (xn_then (w_condF rfl (w_skip (xn_then (w_seq (w_seq (w_reg ?_)))))))
  refine wl_m (.tmp 7) (.slice pb W.length cb) ?_
  refine wl_val (.int .i64 ((W.length : Nat) : Int)) (len22t _ _ _ _ _ (by exact rfl) _ _ _ _ _ _) rfl ?_
  refine wl_m (.const (.int .i64 (0))) (.int .i64 (0)) ?_
  refine w_nil (xn_then (w_block ?_))
  refine w_loop (fun m l w1 => ∃ (D R : List Tk) (P Q1 Q2 : List Nat), m = R.length ∧ look l 3 = .slice pa W.length ca ∧ look l 7 = .slice pb W.length cb ∧ look l 48 = .int .i64 ((W.length : Nat) : Int) ∧ look l 49 = .int .i64 ((D.length : Nat) : Int) ∧ W = D ++ R ∧ ps = P ++ Q1 ∧ P.length = D.length ∧ Q2.length = R.length ∧ ((cz W ps).flatten ≠ [] → ∃ g, pa = some ⟨g, 0, none⟩ ∧ At w1 g (cz W ps).flatten) ∧ ((cz W (P ++ Q2)).flatten ≠ [] → ∃ g, pb = some ⟨g, 0, none⟩ ∧ At w1 g (cz W (P ++ Q2)).flatten) ∧ Mw w w1) _ ⟨[], W, [], ps, ps2, rfl, rfl, rfl, rfl, rfl, rfl, rfl, rfl, hl2, hQa, hQb, M⟩ ?_
  clear M hQb
  rintro m l wl ⟨D, R, P, Q1, Q2, rfl, e3, e7, e48, e49, hW, hP, hPl, hQ2, hQa, hQb, M⟩
  cases R with
  | nil =>
   rw [List.append_nil] at hW
   subst hW
   have hjd : decide (W.length < W.length) = false := decide_eq_false (Nat.lt_irrefl _)
   refine w_seq (w_reg ?_)
   refine wl_bin (fun x y => do eqGuard .lss 3 (.tmp 49) (.tmp 48) x y; binOp .lss 3 x y) (.tmp 49) (.tmp 48) (.int .i64 ((W.length : Nat) : Int)) (.int .i64 ((W.length : Nat) : Int)) (.bool false) (fun _ => rfl) e49 e48 (ltN hjd _ _ _) rfl ?_
   refine w_nil (xn_then (w_seq (w_condF rfl (w_exit (xx_then (xx_then (xx_blk (xn_then (w_seq (w_reg ?_))))))))))
   refine wl_m (.const (.bool true)) (.bool true) ?_
   refine w_nil (xn_then (w_ret ?_))
   exact w_ret1 _ _ rfl rfl ⟨rfl, M⟩
  | cons tk R =>
   cases Q1 with
   | nil => exact absurd (by have h1 := congrArg List.length hW; have h2 := congrArg List.length hP; simp only [List.length_append, List.length_cons, List.length_nil] at h1 h2 hQ2; omega) id
   | cons pl Q1 =>
    cases Q2 with
    | nil => exact absurd (by have h1 := congrArg List.length hW; have h2 := congrArg List.length hP; simp only [List.length_append, List.length_cons, List.length_nil] at h1 h2 hQ2; omega) id
    | cons pl2 Q2 =>
     have hq1 : Q1.length = R.length := by have h1 := congrArg List.length hW; have h2 := congrArg List.length hP; simp only [List.length_append, List.length_cons] at h1 h2; omega
     have hq2 : Q2.length = R.length := by simp only [List.length_cons] at hQ2; omega
     have hSa : Sq W ps D tk R P pl Q1 := ⟨hW, hP, hPl, hq1⟩
     have hSb : Sq W (P ++ pl2 :: Q2) D tk R P pl2 Q2 := ⟨hW, rfl, hPl, hq2⟩
     have hSc : Sq W (P ++ pl :: Q2) D tk R P pl Q2 := ⟨hW, rfl, hPl, hq2⟩
     have hlb : (P ++ pl2 :: Q2).length = W.length := by have h1 := congrArg List.length hW; simp only [List.length_append, List.length_cons] at h1 ⊢; omega
     have hjd : decide (D.length < W.length) = true := decide_eq_true hSa.lt
     have hjp := hSa.lt
     obtain ⟨ga, hpa, QA⟩ := hQa hSa.ne
     obtain ⟨gb, hpb, QB⟩ := hQb hSb.ne
     have hgn := hNb (by rw [cz_ne hlb hl2]; exact hSb.ne) gb hpb
     have hgb : w.heap.size ≤ gb := by omega
     have hgab : ga < gb := by have := hga9 (by exact hSa.ne) ga hpa; omega
     have htk : Wd tk := hS0.wd tk (by rw [hW]; exact List.mem_append_right _ (List.mem_cons_self ..))
     refine w_seq (w_reg ?_)
     refine wl_bin (fun x y => do eqGuard .lss 3 (.tmp 49) (.tmp 48) x y; binOp .lss 3 x y) (.tmp 49) (.tmp 48) (.int .i64 ((D.length : Nat) : Int)) (.int .i64 ((W.length : Nat) : Int)) (.bool true) (fun _ => rfl) e49 e48 (ltN hjd _ _ _) rfl ?_
     refine w_nil (xn_then (w_seq (w_condT rfl (w_skip (xn_then (w_seq (w_block (w_seq (w_reg ?_)))))))))
     refine wl_mv (.tmp 49) (.int .i64 ((D.length : Nat) : Int)) (fun _ => rfl) e49 rfl ?_
     refine wl_m (.tmp 51) (.int .i64 ((D.length : Nat) : Int)) ?_
     refine w_nil (xn_then (w_seq (w_reg ?_)))
     refine wl_mv (.tmp 7) (.slice pb W.length cb) (fun _ => rfl) e7 rfl ?_
     refine wl_m (.tmp 9) (.int .i64 ((D.length : Nat) : Int)) ?_
     refine wl_mv (.tmp 3) (.slice pa W.length ca) (fun _ => rfl) e3 rfl ?_
     refine wl_m (.tmp 9) (.int .i64 ((D.length : Nat) : Int)) ?_
     refine wl_bin (fun x y => Instr.indexAt 22 x y) (.tmp 54) (.tmp 55) (.slice pa W.length ca) (.int .i64 ((D.length : Nat) : Int)) (pt ga (D.length * 13)) (fun _ => rfl) rfl rfl (by rw [hpa]; exact ix22t ga D.length _ _ hjp _) rfl ?_
     refine wl_f 37 3 (.tmp 56) (pt ga (D.length * 13)) (pt ga (D.length * 13 + 12)) ?_
     refine wl_l 3 (.tmp 57) (pt ga (D.length * 13 + 12)) (.int .i64 ((pl : Nat) : Int)) (run_one QA 3 (D.length * 13 + 12) (hSa.get (i := 12) (by decide)) Tryd.underlying3 rfl) ?_
     refine wl_bin (fun x y => Instr.indexAt 22 x y) (.tmp 52) (.tmp 53) (.slice pb W.length cb) (.int .i64 ((D.length : Nat) : Int)) (pt gb (D.length * 13)) (fun _ => rfl) rfl rfl (by rw [hpb]; exact ix22t gb D.length _ _ hjp _) rfl ?_
     refine wl_f 37 3 (.tmp 59) (pt gb (D.length * 13)) (pt gb (D.length * 13 + 12)) ?_
     refine wl_st1 3 (.tmp 60) (.tmp 58) gb (D.length * 13 + 12) (.int .i64 ((pl : Nat) : Int)) (cz W (P ++ pl2 :: Q2)).flatten (cz W (P ++ pl :: Q2)).flatten QB rfl rfl rfl rfl (by rw [Nat.blt_eq, flat_len (cz_13 _ _), cz_len hlb]; omega) sz3 rfl rfl (set_place hSb hSc) rfl ?_
     intro w21 hS Qn
     replace QB := Qn
     clear Qn
     replace QA := hS.other _ _ (by omega) QA
     replace M := hS.mo _ hgb M
     clear hS
     refine w_nil (xn_then (w_seq ?_))
     refine w_any 8 [.inl (.slice pb W.length cb), .inl (.int .i64 ((D.length : Nat) : Int)), .inl (pt gb (D.length * 13)), .inl (.agg #[.int .i64 ((tk.K : Nat) : Int), .string tk.T, tk.v0, tk.v1, tk.v2, tk.v3, tk.v4, tk.v5, tk.v6, tk.v7, tk.v8, tk.v9, .int .i64 ((pl : Nat) : Int)]), .inl (.slice pa W.length ca), .inl (.int .i64 ((D.length : Nat) : Int)), .inl (pt ga (D.length * 13)), .inl (.agg #[.int .i64 ((tk.K : Nat) : Int), .string tk.T, tk.v0, tk.v1, tk.v2, tk.v3, tk.v4, tk.v5, tk.v6, tk.v7, tk.v8, tk.v9, .int .i64 ((pl : Nat) : Int)])] [] (by kernel_rfl) (by kernel_rfl) (by kernel_rfl) (by kernel_rfl) rfl (by kernel_rfl) (by kernel_rfl) late_nil ?_ ?_ ?_
     ·exact Ds.none rfl
     ·refine ea_cons ?_ (ea_cons ?_ (ea_cons ?_ (ea_cons ?_ (ea_cons ?_ (ea_cons ?_ (ea_cons ?_ (ea_cons ?_ (ea_nil))))))))
      ·exact og_eq _ rfl (fun f wf hq hd K hK => go_run rfl (wo_mv (.tmp 7) (.slice pb W.length cb) (fun _ => rfl) e7 (hK _ (Mw.refl _))))
      ·exact og_eq _ rfl (fun f wf hq hd K hK => go_run rfl (wo_mv (.tmp 9) (.int .i64 ((D.length : Nat) : Int)) (fun _ => rfl) rfl (hK _ (Mw.refl _))))
      ·exact og_eq _ rfl (fun f wf hq hd K hK => go_run rfl (wo_bin (fun x y => Instr.indexAt 22 x y) (.tmp 61) (.tmp 62) (.slice pb W.length cb) (.int .i64 ((D.length : Nat) : Int)) (pt gb (D.length * 13)) (fun _ => rfl) (hd 0 rfl) (hd 1 rfl) (by rw [hpb]; exact ix22t gb D.length _ _ hjp _) (hK _ (Mw.refl _))))
      ·exact og_eq _ rfl (fun f wf hq hd K hK => have QB := QB.mo hq; go_run rfl (wo_load 37 (.tmp 63) (pt gb (D.length * 13)) (.agg #[.int .i64 ((tk.K : Nat) : Int), .string tk.T, tk.v0, tk.v1, tk.v2, tk.v3, tk.v4, tk.v5, tk.v6, tk.v7, tk.v8, tk.v9, .int .i64 ((pl : Nat) : Int)]) rfl (hd 2 rfl) (run_row QB 37 (D.length * 13) 13 _ hSc.row Tryd.underlying37 rfl sz37) (hK _ (Mw.refl _))))
      ·exact og_eq _ rfl (fun f wf hq hd K hK => go_run rfl (wo_mv (.tmp 3) (.slice pa W.length ca) (fun _ => rfl) e3 (hK _ (Mw.refl _))))
      ·exact og_eq _ rfl (fun f wf hq hd K hK => go_run rfl (wo_mv (.tmp 9) (.int .i64 ((D.length : Nat) : Int)) (fun _ => rfl) rfl (hK _ (Mw.refl _))))
      ·exact og_eq _ rfl (fun f wf hq hd K hK => go_run rfl (wo_bin (fun x y => Instr.indexAt 22 x y) (.tmp 65) (.tmp 66) (.slice pa W.length ca) (.int .i64 ((D.length : Nat) : Int)) (pt ga (D.length * 13)) (fun _ => rfl) (hd 4 rfl) (hd 5 rfl) (by rw [hpa]; exact ix22t ga D.length _ _ hjp _) (hK _ (Mw.refl _))))
      ·exact og_eq _ rfl (fun f wf hq hd K hK => have QA := QA.mo hq; go_run rfl (wo_load 37 (.tmp 67) (pt ga (D.length * 13)) (.agg #[.int .i64 ((tk.K : Nat) : Int), .string tk.T, tk.v0, tk.v1, tk.v2, tk.v3, tk.v4, tk.v5, tk.v6, tk.v7, tk.v8, tk.v9, .int .i64 ((pl : Nat) : Int)]) rfl (hd 6 rfl) (run_row QA 37 (D.length * 13) 13 _ hSa.row Tryd.underlying37 rfl sz37) (hK _ (Mw.refl _))))
     intro kf22 w22 hq hR hne
     replace QA := QA.mo hq
     replace QB := QB.mo hq
     replace M := M.trans hq
     clear hq hR hne
     refine wl_b .neq 37 (.tmp 64) (.tmp 68) (.agg #[.int .i64 ((tk.K : Nat) : Int), .string tk.T, tk.v0, tk.v1, tk.v2, tk.v3, tk.v4, tk.v5, tk.v6, tk.v7, tk.v8, tk.v9, .int .i64 ((pl : Nat) : Int)]) (.agg #[.int .i64 ((tk.K : Nat) : Int), .string tk.T, tk.v0, tk.v1, tk.v2, tk.v3, tk.v4, tk.v5, tk.v6, tk.v7, tk.v8, tk.v9, .int .i64 ((pl : Nat) : Int)]) (.bool false) ((htk.se pl).ne _ _ _) ?_
     refine w_nil (xn_then (w_condF rfl (w_skip (xn_blk (xn_then (w_reg ?_))))))
     refine wl_bin (fun x y => do eqGuard .add 3 (.tmp 49) (.const (.int .i64 (1))) x y; binOp .add 3 x y) (.tmp 49) (.const (.int .i64 (1))) (.int .i64 ((D.length : Nat) : Int)) (.int .i64 (1)) (.int .i64 ((D.length + 1 : Nat) : Int)) (fun _ => rfl) e49 rfl (addk (a := D.length) (b := 1) rfl (by omega) _ _ _) rfl ?_
     refine wl_m (.tmp 70) (.int .i64 ((D.length + 1 : Nat) : Int)) ?_
     refine w_nil ?_
     exact xn_loop R.length (by simp) ⟨D ++ [tk], R, P ++ [pl], Q1, Q2, rfl, e3, e7, e48, by rw [List.length_append]; rfl, by rw [hW, List.append_assoc]; rfl, by rw [hP, List.append_assoc]; rfl, by rw [List.length_append, List.length_append, hPl]; rfl, hq2, fun _ => ⟨ga, hpa, QA⟩, fun _ => ⟨gb, hpb, by rw [List.append_assoc]; exact QB⟩, M⟩
theorem back_n (s : ByteArray) (w : World) : Calls Tryd.prog 6 #[.string s] w fun e' w' => e' = .returned (.bool true) ∧ Mw w w' := by
 cases hl : decide (16384 < s.size) with
 | true => exact back_x s 0 3 w rfl (fun w => scan_long s w hl)
 | false =>
  have hlp := of_decide_eq_false hl
  rcases sb_ex s (by omega) _ (blk s 0) (Nat.le_refl _) (blk_rg s _ 0 (Nat.le_refl _) (by omega)).2 with ⟨W, ps, hS⟩ | ⟨L, p, hS⟩
  ·exact back_k s W ps w hS hl
  ·refine back_x s p 70 w rfl (fun w => (scan_n s L p 70 w hS hl).mono fun e' w' ⟨v, h1, _, h3, h4⟩ => ⟨?_, h4⟩)
   rw [h1, h3 (by decide)]
end Go.Proofs.YthgknegocfhdbaaDoor.V
/-
 A world in which the library's two tables lie; the end of a row over a law that leaves what was there as it was.
-/
namespace Go.Proofs.YthgknegocfhdbaaDoor
open Go.ChangeShapes Go.WideShapes Go.ChangeAt Go.RowKit Go.ChangeMaps
theorem Tryd.own : ownKnob Tryd.prog.godebug = none := by kernel_rfl
def firstCells : Array Value := #[.int .u8 240, .int .u8 240, .int .u8 240, .int .u8 240, .int .u8 240, .int .u8 240, .int .u8 240, .int .u8 240, .int .u8 240, .int .u8 240, .int .u8 240, .int .u8 240, .int .u8 240, .int .u8 240, .int .u8 240, .int .u8 240, .int .u8 240, .int .u8 240, .int .u8 240, .int .u8 240, .int .u8 240, .int .u8 240, .int .u8 240, .int .u8 240, .int .u8 240, .int .u8 240, .int .u8 240, .int .u8 240, .int .u8 240, .int .u8 240, .int .u8 240, .int .u8 240, .int .u8 240, .int .u8 240, .int .u8 240, .int .u8 240, .int .u8 240, .int .u8 240, .int .u8 240, .int .u8 240, .int .u8 240, .int .u8 240, .int .u8 240, .int .u8 240, .int .u8 240, .int .u8 240, .int .u8 240, .int .u8 240, .int .u8 240, .int .u8 240, .int .u8 240, .int .u8 240, .int .u8 240, .int .u8 240, .int .u8 240, .int .u8 240, .int .u8 240, .int .u8 240, .int .u8 240, .int .u8 240, .int .u8 240, .int .u8 240, .int .u8 240, .int .u8 240, .int .u8 240, .int .u8 240, .int .u8 240, .int .u8 240, .int .u8 240, .int .u8 240, .int .u8 240, .int .u8 240, .int .u8 240, .int .u8 240, .int .u8 240, .int .u8 240, .int .u8 240, .int .u8 240, .int .u8 240, .int .u8 240, .int .u8 240, .int .u8 240, .int .u8 240, .int .u8 240, .int .u8 240, .int .u8 240, .int .u8 240, .int .u8 240, .int .u8 240, .int .u8 240, .int .u8 240, .int .u8 240, .int .u8 240, .int .u8 240, .int .u8 240, .int .u8 240, .int .u8 240, .int .u8 240, .int .u8 240, .int .u8 240, .int .u8 240, .int .u8 240, .int .u8 240, .int .u8 240, .int .u8 240, .int .u8 240, .int .u8 240, .int .u8 240, .int .u8 240, .int .u8 240, .int .u8 240, .int .u8 240, .int .u8 240, .int .u8 240, .int .u8 240, .int .u8 240, .int .u8 240, .int .u8 240, .int .u8 240, .int .u8 240, .int .u8 240, .int .u8 240, .int .u8 240, .int .u8 240, .int .u8 240, .int .u8 240, .int .u8 240, .int .u8 240, .int .u8 241, .int .u8 241, .int .u8 241, .int .u8 241, .int .u8 241, .int .u8 241, .int .u8 241, .int .u8 241, .int .u8 241, .int .u8 241, .int .u8 241, .int .u8 241, .int .u8 241, .int .u8 241, .int .u8 241, .int .u8 241, .int .u8 241, .int .u8 241, .int .u8 241, .int .u8 241, .int .u8 241, .int .u8 241, .int .u8 241, .int .u8 241, .int .u8 241, .int .u8 241, .int .u8 241, .int .u8 241, .int .u8 241, .int .u8 241, .int .u8 241, .int .u8 241, .int .u8 241, .int .u8 241, .int .u8 241, .int .u8 241, .int .u8 241, .int .u8 241, .int .u8 241, .int .u8 241, .int .u8 241, .int .u8 241, .int .u8 241, .int .u8 241, .int .u8 241, .int .u8 241, .int .u8 241, .int .u8 241, .int .u8 241, .int .u8 241, .int .u8 241, .int .u8 241, .int .u8 241, .int .u8 241, .int .u8 241, .int .u8 241, .int .u8 241, .int .u8 241, .int .u8 241, .int .u8 241, .int .u8 241, .int .u8 241, .int .u8 241, .int .u8 241, .int .u8 241, .int .u8 241, .int .u8 2, .int .u8 2, .int .u8 2, .int .u8 2, .int .u8 2, .int .u8 2, .int .u8 2, .int .u8 2, .int .u8 2, .int .u8 2, .int .u8 2, .int .u8 2, .int .u8 2, .int .u8 2, .int .u8 2, .int .u8 2, .int .u8 2, .int .u8 2, .int .u8 2, .int .u8 2, .int .u8 2, .int .u8 2, .int .u8 2, .int .u8 2, .int .u8 2, .int .u8 2, .int .u8 2, .int .u8 2, .int .u8 2, .int .u8 2, .int .u8 19, .int .u8 3, .int .u8 3, .int .u8 3, .int .u8 3, .int .u8 3, .int .u8 3, .int .u8 3, .int .u8 3, .int .u8 3, .int .u8 3, .int .u8 3, .int .u8 3, .int .u8 35, .int .u8 3, .int .u8 3, .int .u8 52, .int .u8 4, .int .u8 4, .int .u8 4, .int .u8 68, .int .u8 241, .int .u8 241, .int .u8 241, .int .u8 241, .int .u8 241, .int .u8 241, .int .u8 241, .int .u8 241, .int .u8 241, .int .u8 241, .int .u8 241]
def acceptCells : Array Value := #[.int .u8 128, .int .u8 191, .int .u8 160, .int .u8 191, .int .u8 128, .int .u8 159, .int .u8 144, .int .u8 191, .int .u8 128, .int .u8 143, .int .u8 0, .int .u8 0, .int .u8 0, .int .u8 0, .int .u8 0, .int .u8 0, .int .u8 0, .int .u8 0, .int .u8 0, .int .u8 0, .int .u8 0, .int .u8 0, .int .u8 0, .int .u8 0, .int .u8 0, .int .u8 0, .int .u8 0, .int .u8 0, .int .u8 0, .int .u8 0, .int .u8 0, .int .u8 0]
def layW (w0 : World) : World :=
 { w0 with heap := (w0.heap.modify 1 fun
   | .cells _ t frozen => .cells firstCells t frozen
   | o => o).modify 2 fun
   | .cells _ t frozen => .cells acceptCells t frozen
   | o => o }
set_option maxRecDepth 100000 in
theorem laidWorld_met (os : Os) (args : Array Value) : laidMetH Tryd.prog Rows.lexPlacesRow.laid ((layW (World.holding Tryd.prog os ⟨#[], #[], []⟩)).forCall (fun _ _ => 0) ⟨#[], args, []⟩).memory := by
 show laidMet Tryd.prog [("unicode/utf8.acceptRanges", Rows.laid_unicode_utf8_acceptRanges), ("unicode/utf8.first", Rows.laid_unicode_utf8_first)] _
 exact (LaidIn.of_run [1, 2] 8 (by kernel_rfl) (by kernel_rfl) (by kernel_rfl) (by kernel_rfl)).met
theorem post_mw {H : Type} {enc : TypeId × Value → H} {P : Program} {f : Func} {s : ChangeSpec} {apart fresh handsOn : Bool} {W W' : World} {args : Array Value} {v : Value} {ds gs : List (DataW H)}
  (hW : DataW.Whole enc P f.params.toList s.vars apart W args.toList ds gs [])
  (hres : ∀ (b : Nat) (sp : Nat → Bool) (hd : Bool), DataW.TrodAll enc P W' b sp hd f.resultTypes.toList (v.resultList f.resultTypes.size) (s.fn H (ds ++ gs)).results [])
  (hargs : ∀ sp : Nat → Bool, DataW.TrodAll enc P W' 0 sp true f.params.toList args.toList (s.fn H (ds ++ gs)).args [])
  (hvars : ∀ sp : Nat → Bool, DataW.TrodVars enc P W' sp s.vars (s.fn H (ds ++ gs)).vars []) (hk : V.Mw W W') :
  s.post enc P f apart fresh handsOn false W args v W' :=
 ⟨ds, gs, [], [], [], [], hW, hres _ _ _, hargs _, hvars _, Below.frame hk _, fun h => by cases h⟩
end Go.Proofs.YthgknegocfhdbaaDoor
