/-
  The tree's find, place and depth; a tree hung to a place.
-/
import Derived.Test.YtbmbldloeblbbaaSe
namespace Go.Proofs.Ytbmbldloeblbbaa
open Go.RowKit
section
variable {D : Nat → Prop} {w : World} {t mb : Nat} {R : Mp} {root : Option Nat} {lk : Int}
theorem hangT {C : Cx} {tr : T} {p u : Option Nat} (hS : HS D w t mb R root lk) (hC : RepC R root C p) (hR : Rep R u tr) (hn : (adC C ++ tr.ad).Nodup) :
    Calls Try.prog 43 #[pt t 0, pp (top C), .int .i64 (if sideC C then 1 else 0), pp tr.p] w fun e w' => e = .returned (.tuple #[]) ∧ TS D w' t mb C tr lk ∧ Mk D w w' := by
  obtain ⟨n1, n2, n3⟩ := nd_pos hn
  have hx : ∀ k, tr.p = some k → top C ≠ some k := fun k e q => n3 k (top_mem q) (T.pm e)
  refine (hang_n hS (top C) tr.p (sideC C) (fun k e => hR.rt e) (fun p e => by
      cases C with
      | nil => cases e
      | cons f C => cases e; exact ⟨_, hC.1⟩) hx).mono fun e w' hq => ?_
  obtain ⟨he, hS', hM⟩ := hq
  refine ⟨he, ⟨_, _, hS', hC.hang n1 (fun j m q => hkR_ne (fun e => n3 j m (T.pm e)) q) (fun a q e hq => ?_), hR.up n2 (fun k r e hr => ?_) (fun j m q => hkR_ne q (fun e => n3 j (top_mem e) m)), hn⟩, hM⟩
  · rw [e]; exact hkR_par hq (fun q => hx a q e)
  · rw [e]; exact hkR_self hr (hx k e)
def T.ht : T → Nat
  | .e => 0
  | .n _ _ _ l r => 1 + max l.ht r.ht
def ix : Cx → Int
  | [] => 0
  | f :: C => (if f.d then f.o.sz + 1 else 0) + ix C
theorem eqI {a b : Int} {r : Bool} (h : decide (a = b) = r) (x y : Operand) (w : World) : (do eqGuard .eql 3 x y (.int .i64 a) (.int .i64 b); binOp .eql 3 (.int .i64 a) (.int .i64 b)).run Try.prog w = .ok (.bool r) w := by
  have e : (do eqGuard .eql 3 x y (.int .i64 a) (.int .i64 b); binOp .eql 3 (.int .i64 a) (.int .i64 b)).run Try.prog w = .ok (.bool (a == b)) w := by kernel_rfl
  rw [e, ← h]; rfl
theorem find_n {tr : T} {at0 : Int} (hT : TS D w t mb [] tr lk) (ot : tr.ok) (h0 : 0 ≤ at0) (h1 : at0 < tr.sz) (hb : tr.sz ≤ 9000) (hlk : 0 ≤ lk ∧ lk + 2 * tr.ht ≤ 4000000000000000000) :
    Calls Try.prog 28 #[pt t 0, .int .i64 at0] w fun e w' => ∃ C k i s l r lk', e = .returned (pt k 0) ∧ plug C (.n k i s l r) = tr ∧ tr.ids[at0.toNat]? = some i ∧ lk ≤ lk' ∧ lk' ≤ lk + 2 * tr.ht ∧ TS D w' t mb C (.n k i s l r) lk' ∧ Mk D w w' := by
  obtain ⟨R0, root0, hS, hC0, hR0, hn0⟩ := hT
  refine w_enter 53 Try.func28 Try.ntmps28 rfl rfl ?_
  have M : Mk D w w := Mk.refl _ _
  refine w_seq ?_
  refine w_reg ?_
  refine wl_mv (.const (.pointer none)) (pp none) (fun _ => rfl) rfl rfl ?_
  refine w_nil ?_
  refine xn_then ?_
  refine w_seq ?_
  refine w_reg ?_
  refine wl_mv (.tmp 0) (pt t 0) (fun _ => rfl) rfl rfl ?_
  refine wl_nc (.tmp 7) t 0 rfl rfl rfl ?_
  refine wl_un (fun v => Instr.fieldAt 59 v 0) (.tmp 8) (pt t 0) (pt t 0) (fun _ => rfl) rfl (by kernel_rfl) rfl ?_
  refine wl_load 56 (.tmp 9) (pt t 0) (pp root0) rfl rfl (run_one hS.tr 56 0 rfl Try.underlying56 rfl) rfl ?_
  refine wl_mv (.tmp 10) (pp root0) (fun _ => rfl) rfl rfl ?_
  refine w_nil ?_
  refine xn_then ?_
  refine w_block ?_
  refine w_loop (fun m l w1 => ∃ (C1 : Cx) (tr1 : T) (lk1 at1 : Int), m = tr1.ht ∧ look l 0 = pt t 0 ∧ look l 1 = .int .i64 at1 ∧ look l 5 = pp tr1.p ∧ TS D w1 t mb C1 tr1 lk1 ∧ tr1.ok ∧ plug C1 tr1 = tr ∧ 0 ≤ at1 ∧ at1 < tr1.sz ∧ tr1.sz ≤ 9000 ∧ tr1.ids[at1.toNat]? = tr.ids[at0.toNat]? ∧ lk ≤ lk1 ∧ lk1 + 2 * tr1.ht ≤ lk + 2 * tr.ht ∧ Mk D w w1) _ ⟨[], tr, lk, at0, rfl, rfl, rfl, by rw [← hC0]; rfl, ⟨R0, root0, hS, hC0, hR0, hn0⟩, ot, rfl, h0, h1, hb, rfl, Int.le_refl _, Int.le_refl _, M⟩ ?_
  clear M hS ot h0 h1 hb hC0 hR0 hn0
  rintro m l0 wl ⟨C1, tr1, lk1, at1, rfl, e0, e1, e5, hT, ot, hp, h0, h1, hb, hid, hl1, hl2, M⟩
  cases tr1 with
  | e => simp only [T.sz] at h1; omega
  | n k i s l r =>
    obtain ⟨R, root, hS, hC, hR, hn⟩ := hT
    have hR1 := hR
    obtain ⟨hk, hl, hr⟩ := hR
    have hlk0 : 0 ≤ lk1 := by omega
    have h0l := T.sz_nn l; have h0r := T.sz_nn r
    simp only [T.sz] at h1 hb
    simp only [T.ht] at hl2
    have hml := Nat.le_max_left l.ht r.ht; have hmr := Nat.le_max_right l.ht r.ht
    refine w_block ?_
    refine w_seq ?_
    refine w_reg ?_
    refine wl_mv (.tmp 0) (pt t 0) (fun _ => rfl) e0 rfl ?_
    refine wl_mv (.tmp 5) (pt k 0) (fun _ => rfl) e5 rfl ?_
    refine wl_mv (.tmp 5) (pt k 0) (fun _ => rfl) e5 rfl ?_
    refine wl_nc (.tmp 13) k 0 rfl rfl rfl ?_
    refine wl_un (fun v => Instr.fieldAt 66 v 0) (.tmp 14) (pt k 0) (pt k 0) (fun _ => rfl) rfl (by kernel_rfl) rfl ?_
    refine wl_un (fun v => Instr.fieldAt 64 v 1) (.tmp 15) (pt k 0) (pt k 1) (fun _ => rfl) rfl (by kernel_rfl) rfl ?_
    refine wl_bin (fun x y => Instr.indexAt 62 x y) (.tmp 16) (.const (.int .i64 (0))) (pt k 1) (.int .i64 (0)) (pt k 1) (fun _ => rfl) rfl rfl (by kernel_rfl) rfl ?_
    refine wl_load 56 (.tmp 17) (pt k 1) (pp l.p) rfl rfl (run_one (hS.rc k _ hk) 56 1 rfl Try.underlying56 rfl) rfl ?_
    refine wl_bsl [(0, (.tmp 12)), (1, (.tmp 18))] [pp (some k), pp l.p] 2 rfl rfl (bs2 (some k) l.p) rfl ?_
    intro g11 w11 hk hz hq Q11
    have nd_g11 : ¬ D g11 := fun e => by have := hS.lt e; omega
    replace hS := hS.mo hq
    replace M := M.trans hq
    clear hk hz hq
    refine wl_callg 39 [(.tmp 11), (.tmp 19)] _ [pt t 0, .slice (some ⟨g11, 0, none⟩) 2 2] (.tuple #[]) rfl rfl (fun _ _ => by kernel_rfl) (look_n [(some k), l.p] g11 hS Q11 nd_g11 (by simp only [List.length_cons, List.length_nil]; omega)) rfl ?_
    intro w12 hF
    have hc1 := cnt_le [(some k), l.p]
    simp only [List.length_cons, List.length_nil] at hc1
    obtain ⟨hS2, hM2⟩ := hF
    replace hS := hS2
    replace M := M.same hM2
    clear hS2 hM2 Q11 nd_g11
    refine w_nil ?_
    refine xn_then ?_
    refine w_seq ?_
    refine w_reg ?_
    refine wl_mv (.tmp 5) (pt k 0) (fun _ => rfl) e5 rfl ?_
    refine wl_nc (.tmp 21) k 0 rfl rfl rfl ?_
    refine wl_un (fun v => Instr.fieldAt 66 v 0) (.tmp 22) (pt k 0) (pt k 0) (fun _ => rfl) rfl (by kernel_rfl) rfl ?_
    refine wl_un (fun v => Instr.fieldAt 64 v 1) (.tmp 23) (pt k 0) (pt k 1) (fun _ => rfl) rfl (by kernel_rfl) rfl ?_
    refine wl_bin (fun x y => Instr.indexAt 62 x y) (.tmp 24) (.const (.int .i64 (0))) (pt k 1) (.int .i64 (0)) (pt k 1) (fun _ => rfl) rfl rfl (by kernel_rfl) rfl ?_
    refine wl_load 56 (.tmp 25) (pt k 1) (pp l.p) rfl rfl (run_one (hS.rc k _ hk) 56 1 rfl Try.underlying56 rfl) rfl ?_
    refine wl_call 40 [(.tmp 26)] _ [pp l.p] (.int .i64 (l.sz)) rfl rfl (fun _ _ => by kernel_rfl) (size_o hS (szo_of hl ot.2.1)) rfl ?_
    intro w13 hq
    replace hS := hS.mo hq
    replace M := M.trans hq
    clear hq
    refine wl_mv (.tmp 27) (.int .i64 (l.sz)) (fun _ => rfl) rfl rfl ?_
    refine w_nil ?_
    refine xn_then ?_
    refine w_block ?_
    refine w_seq ?_
    cases hf0 : decide (at1 < l.sz) with
    | true =>
      have hf0p := of_decide_eq_true hf0
      refine w_reg ?_
      refine wl_mv (.tmp 1) (.int .i64 (at1)) (fun _ => rfl) e1 rfl ?_
      refine wl_mv (.tmp 6) (.int .i64 (l.sz)) (fun _ => rfl) rfl rfl ?_
      refine wl_bin (fun x y => do eqGuard .lss 3 (.tmp 30) (.tmp 31) x y; binOp .lss 3 x y) (.tmp 30) (.tmp 31) (.int .i64 (at1)) (.int .i64 (l.sz)) (.bool true) (fun _ => rfl) rfl rfl (ltI hf0 _ _ _) rfl ?_
      refine wl_mv (.tmp 32) (.bool true) (fun _ => rfl) rfl rfl ?_
      refine w_nil ?_
      refine xn_then ?_
      refine w_condT rfl ?_
      refine w_reg ?_
      refine wl_mv (.tmp 5) (pt k 0) (fun _ => rfl) e5 rfl ?_
      refine wl_nc (.tmp 33) k 0 rfl rfl rfl ?_
      refine wl_un (fun v => Instr.fieldAt 66 v 0) (.tmp 34) (pt k 0) (pt k 0) (fun _ => rfl) rfl (by kernel_rfl) rfl ?_
      refine wl_un (fun v => Instr.fieldAt 64 v 1) (.tmp 35) (pt k 0) (pt k 1) (fun _ => rfl) rfl (by kernel_rfl) rfl ?_
      refine wl_bin (fun x y => Instr.indexAt 62 x y) (.tmp 36) (.const (.int .i64 (0))) (pt k 1) (.int .i64 (0)) (pt k 1) (fun _ => rfl) rfl rfl (by kernel_rfl) rfl ?_
      refine wl_load 56 (.tmp 37) (pt k 1) (pp l.p) rfl rfl (run_one (hS.rc k _ hk) 56 1 rfl Try.underlying56 rfl) rfl ?_
      refine wl_mv (.tmp 38) (pp l.p) (fun _ => rfl) rfl rfl ?_
      refine w_nil ?_
      refine xn_blk ?_
      refine xn_blk ?_
      refine xn_loop l.ht (by simp only [T.ht]; omega) ⟨⟨k, i, s, false, r⟩ :: C1, l, ((lk1) + cnt [(some k), l.p]), at1, rfl, e0, e1, rfl, TS.dn (f := ⟨k, i, s, false, r⟩) (⟨R, root, hS, hC, hR1, hn⟩ : TS D _ t mb C1 (.n k i s l r) _), ot.2.1, hp, h0, by omega, by omega, ?_, by omega, by omega, M⟩
      rw [← hid]
      show _ = (l.ids ++ i :: r.ids)[_]?
      rw [List.getElem?_append_left]
      have := T.sz_ids l; omega
    | false =>
      have hf0p := of_decide_eq_false hf0
      refine w_reg ?_
      refine wl_mv (.tmp 1) (.int .i64 (at1)) (fun _ => rfl) e1 rfl ?_
      refine wl_mv (.tmp 6) (.int .i64 (l.sz)) (fun _ => rfl) rfl rfl ?_
      refine wl_bin (fun x y => do eqGuard .lss 3 (.tmp 30) (.tmp 31) x y; binOp .lss 3 x y) (.tmp 30) (.tmp 31) (.int .i64 (at1)) (.int .i64 (l.sz)) (.bool false) (fun _ => rfl) rfl rfl (ltI hf0 _ _ _) rfl ?_
      refine wl_mv (.tmp 32) (.bool false) (fun _ => rfl) rfl rfl ?_
      refine w_nil ?_
      refine xn_then ?_
      refine w_condF rfl ?_
      refine w_seq ?_
      cases hf1 : decide (l.sz < at1) with
      | true =>
        have hf1p := of_decide_eq_true hf1
        refine w_reg ?_
        refine wl_mv (.tmp 1) (.int .i64 (at1)) (fun _ => rfl) e1 rfl ?_
        refine wl_mv (.tmp 6) (.int .i64 (l.sz)) (fun _ => rfl) rfl rfl ?_
        refine wl_bin (fun x y => do eqGuard .gtr 3 (.tmp 40) (.tmp 41) x y; binOp .gtr 3 x y) (.tmp 40) (.tmp 41) (.int .i64 (at1)) (.int .i64 (l.sz)) (.bool true) (fun _ => rfl) rfl rfl (gtI hf1 _ _ _) rfl ?_
        refine wl_mv (.tmp 42) (.bool true) (fun _ => rfl) rfl rfl ?_
        refine w_nil ?_
        refine xn_then ?_
        refine w_condT rfl ?_
        refine w_seq ?_
        refine w_reg ?_
        refine wl_mv (.tmp 1) (.int .i64 (at1)) (fun _ => rfl) e1 rfl ?_
        refine wl_mv (.tmp 6) (.int .i64 (l.sz)) (fun _ => rfl) rfl rfl ?_
        refine wl_bin (fun x y => do eqGuard .add 3 (.tmp 44) (.const (.int .i64 (1))) x y; binOp .add 3 x y) (.tmp 44) (.const (.int .i64 (1))) (.int .i64 (l.sz)) (.int .i64 (1)) (.int .i64 (l.sz + 1)) (fun _ => rfl) rfl rfl (addI (by omega) (by omega) _ _ _) rfl ?_
        refine wl_bin (fun x y => do eqGuard .sub 3 (.tmp 43) (.tmp 45) x y; binOp .sub 3 x y) (.tmp 43) (.tmp 45) (.int .i64 (at1)) (.int .i64 (l.sz + 1)) (.int .i64 (at1 - (l.sz + 1))) (fun _ => rfl) rfl rfl (subI (by omega) (by omega) _ _ _) rfl ?_
        refine wl_mv (.tmp 46) (.int .i64 (at1 - (l.sz + 1))) (fun _ => rfl) rfl rfl ?_
        refine w_nil ?_
        refine xn_then ?_
        refine w_reg ?_
        refine wl_mv (.tmp 5) (pt k 0) (fun _ => rfl) e5 rfl ?_
        refine wl_nc (.tmp 47) k 0 rfl rfl rfl ?_
        refine wl_un (fun v => Instr.fieldAt 66 v 0) (.tmp 48) (pt k 0) (pt k 0) (fun _ => rfl) rfl (by kernel_rfl) rfl ?_
        refine wl_un (fun v => Instr.fieldAt 64 v 1) (.tmp 49) (pt k 0) (pt k 1) (fun _ => rfl) rfl (by kernel_rfl) rfl ?_
        refine wl_bin (fun x y => Instr.indexAt 62 x y) (.tmp 50) (.const (.int .i64 (1))) (pt k 1) (.int .i64 (1)) (pt k 2) (fun _ => rfl) rfl rfl (by kernel_rfl) rfl ?_
        refine wl_load 56 (.tmp 51) (pt k 2) (pp r.p) rfl rfl (run_one (hS.rc k _ hk) 56 2 rfl Try.underlying56 rfl) rfl ?_
        refine wl_mv (.tmp 52) (pp r.p) (fun _ => rfl) rfl rfl ?_
        refine w_nil ?_
        refine xn_blk ?_
        refine xn_blk ?_
        refine xn_loop r.ht (by simp only [T.ht]; omega) ⟨⟨k, i, s, true, l⟩ :: C1, r, ((lk1) + cnt [(some k), l.p]), at1 - (l.sz + 1), rfl, e0, rfl, rfl, TS.dn (f := ⟨k, i, s, true, l⟩) (⟨R, root, hS, hC, hR1, hn⟩ : TS D _ t mb C1 (.n k i s l r) _), ot.2.2, hp, by omega, by omega, by omega, ?_, by omega, by omega, M⟩
        have hli := T.sz_ids l
        rw [← hid]
        show _ = (l.ids ++ i :: r.ids)[_]?
        rw [List.getElem?_append_right (by omega), show at1.toNat - l.ids.length = (at1 - (l.sz + 1)).toNat + 1 by omega]
        rfl
      | false =>
        have hf1p := of_decide_eq_false hf1
        refine w_reg ?_
        refine wl_mv (.tmp 1) (.int .i64 (at1)) (fun _ => rfl) e1 rfl ?_
        refine wl_mv (.tmp 6) (.int .i64 (l.sz)) (fun _ => rfl) rfl rfl ?_
        refine wl_bin (fun x y => do eqGuard .gtr 3 (.tmp 40) (.tmp 41) x y; binOp .gtr 3 x y) (.tmp 40) (.tmp 41) (.int .i64 (at1)) (.int .i64 (l.sz)) (.bool false) (fun _ => rfl) rfl rfl (gtI hf1 _ _ _) rfl ?_
        refine wl_mv (.tmp 42) (.bool false) (fun _ => rfl) rfl rfl ?_
        refine w_nil ?_
        refine xn_then ?_
        refine w_condF rfl ?_
        refine w_seq ?_
        refine w_reg ?_
        refine wl_mv (.tmp 5) (pt k 0) (fun _ => rfl) e5 rfl ?_
        refine wl_mv (.tmp 28) (pt k 0) (fun _ => rfl) rfl rfl ?_
        refine w_nil ?_
        refine xn_then ?_
        refine w_ret ?_
        refine xr_blk ?_
        refine xr_blk ?_
        refine xr_then ?_
        refine xr_blk ?_
        have hfi : tr.ids[at0.toNat]? = some i := by
          have hli := T.sz_ids l
          rw [← hid]
          show (l.ids ++ i :: r.ids)[_]? = _
          rw [List.getElem?_append_right (by omega), show at1.toNat - l.ids.length = 0 by omega]
          rfl
        exact w_ret1 _ (pt k 0) rfl rfl ⟨C1, k, i, s, l, r, ((lk1) + cnt [(some k), l.p]), rfl, hp, hfi, by omega, by omega, (⟨R, root, hS, hC, hR1, hn⟩ : TS D _ t mb C1 (.n k i s l r) _), M⟩
theorem place_n {C : Cx} {k : Nat} {i s : Int} {l0 r0 : T} (hT : TS D w t mb C (.n k i s l0 r0) lk) (ot : (T.n k i s l0 r0).ok) (oc : okC C) (hb : csz C + l0.sz ≤ 9000) (hlk : 0 ≤ lk ∧ lk + 2 + 2 * C.length ≤ 4000000000000000000) :
    Calls Try.prog 30 #[pt t 0, pt k 0] w fun e w' => e = .returned (.int .i64 (l0.sz + ix C)) ∧ ∃ lk', lk ≤ lk' ∧ lk' ≤ lk + 2 + 2 * C.length ∧ TS D w' t mb [] (plug C (.n k i s l0 r0)) lk' ∧ Mk D w w' := by
  obtain ⟨R0, root0, hS, hC0, hR0, hn0⟩ := hT
  have hk := hR0.1
  have hl0 := hR0.2.1
  have h0l := T.sz_nn l0
  have h0c := csz_nn C
  refine w_enter 69 Try.func30 Try.ntmps30 rfl rfl ?_
  have M : Mk D w w := Mk.refl _ _
  refine w_seq ?_
  refine w_reg ?_
  refine wl_mv (.const (.int .i64 (0))) (.int .i64 (0)) (fun _ => rfl) rfl rfl ?_
  refine w_nil ?_
  refine xn_then ?_
  refine w_seq ?_
  refine w_reg ?_
  refine wl_mv (.tmp 0) (pt t 0) (fun _ => rfl) rfl rfl ?_
  refine wl_mv (.tmp 1) (pt k 0) (fun _ => rfl) rfl rfl ?_
  refine wl_mv (.tmp 1) (pt k 0) (fun _ => rfl) rfl rfl ?_
  refine wl_nc (.tmp 8) k 0 rfl rfl rfl ?_
  refine wl_un (fun v => Instr.fieldAt 66 v 0) (.tmp 9) (pt k 0) (pt k 0) (fun _ => rfl) rfl (by kernel_rfl) rfl ?_
  refine wl_un (fun v => Instr.fieldAt 64 v 1) (.tmp 10) (pt k 0) (pt k 1) (fun _ => rfl) rfl (by kernel_rfl) rfl ?_
  refine wl_bin (fun x y => Instr.indexAt 62 x y) (.tmp 11) (.const (.int .i64 (0))) (pt k 1) (.int .i64 (0)) (pt k 1) (fun _ => rfl) rfl rfl (by kernel_rfl) rfl ?_
  refine wl_load 56 (.tmp 12) (pt k 1) (pp l0.p) rfl rfl (run_one (hS.rc k _ hk) 56 1 rfl Try.underlying56 rfl) rfl ?_
  refine wl_bsl [(0, (.tmp 7)), (1, (.tmp 13))] [pp (some k), pp l0.p] 2 rfl rfl (bs2 (some k) l0.p) rfl ?_
  intro g1 w1 hk hz hq Q1
  have nd_g1 : ¬ D g1 := fun e => by have := hS.lt e; omega
  replace hS := hS.mo hq
  replace M := M.trans hq
  clear hk hz hq
  refine wl_callg 39 [(.tmp 6), (.tmp 14)] _ [pt t 0, .slice (some ⟨g1, 0, none⟩) 2 2] (.tuple #[]) rfl rfl (fun _ _ => by kernel_rfl) (look_n [(some k), l0.p] g1 hS Q1 nd_g1 (by simp only [List.length_cons, List.length_nil]; omega)) rfl ?_
  intro w2 hF
  have hc1 := cnt_le [(some k), l0.p]
  simp only [List.length_cons, List.length_nil] at hc1
  obtain ⟨hS2, hM2⟩ := hF
  replace hS := hS2
  replace M := M.same hM2
  clear hS2 hM2 Q1 nd_g1
  refine w_nil ?_
  refine xn_then ?_
  refine w_seq ?_
  refine w_reg ?_
  refine wl_mv (.tmp 1) (pt k 0) (fun _ => rfl) rfl rfl ?_
  refine wl_nc (.tmp 16) k 0 rfl rfl rfl ?_
  refine wl_un (fun v => Instr.fieldAt 66 v 0) (.tmp 17) (pt k 0) (pt k 0) (fun _ => rfl) rfl (by kernel_rfl) rfl ?_
  refine wl_un (fun v => Instr.fieldAt 64 v 1) (.tmp 18) (pt k 0) (pt k 1) (fun _ => rfl) rfl (by kernel_rfl) rfl ?_
  refine wl_bin (fun x y => Instr.indexAt 62 x y) (.tmp 19) (.const (.int .i64 (0))) (pt k 1) (.int .i64 (0)) (pt k 1) (fun _ => rfl) rfl rfl (by kernel_rfl) rfl ?_
  refine wl_load 56 (.tmp 20) (pt k 1) (pp l0.p) rfl rfl (run_one (hS.rc k _ hk) 56 1 rfl Try.underlying56 rfl) rfl ?_
  refine wl_call 40 [(.tmp 21)] _ [pp l0.p] (.int .i64 (l0.sz)) rfl rfl (fun _ _ => by kernel_rfl) (size_o hS (szo_of hl0 ot.2.1)) rfl ?_
  intro w3 hq
  replace hS := hS.mo hq
  replace M := M.trans hq
  clear hq
  refine wl_mv (.tmp 22) (.int .i64 (l0.sz)) (fun _ => rfl) rfl rfl ?_
  refine w_nil ?_
  refine xn_then ?_
  refine w_seq ?_
  refine w_block ?_
  refine w_loop (fun m l w1 => ∃ (C1 : Cx) (tr1 : T) (lk1 at1 : Int) (k1 : Nat), m = C1.length ∧ look l 0 = pt t 0 ∧ look l 1 = pt k1 0 ∧ look l 5 = .int .i64 at1 ∧ tr1.p = some k1 ∧ TS D w1 t mb C1 tr1 lk1 ∧ okC C1 ∧ plug C1 tr1 = plug C (.n k i s l0 r0) ∧ csz C1 ≤ 9000 ∧ 0 ≤ at1 ∧ at1 + csz C1 ≤ 9000 ∧ at1 + ix C1 = l0.sz + ix C ∧ lk ≤ lk1 ∧ lk1 + 2 * C1.length ≤ lk + 2 + 2 * C.length ∧ Mk D w w1) _ ⟨C, .n k i s l0 r0, ((lk) + cnt [(some k), l0.p]), l0.sz, k, rfl, rfl, rfl, rfl, rfl, ⟨R0, root0, hS, hC0, hR0, hn0⟩, oc, rfl, by omega, T.sz_nn l0, by omega, rfl, by omega, by omega, M⟩ ?_
  clear M hS hk hC0 hR0 hn0
  rintro m l1 wl ⟨C1, tr1, lk1, at1, k1, rfl, e0, e1, e5, hp1, hT, oc, hpl, hcz, h0, hab, hix, hl1, hl2, M⟩
  obtain ⟨R, root, hS, hC, hR, hn⟩ := hT
  obtain ⟨vl, vr, vs, vi, hk⟩ := hR.rt2 hp1
  have hlk0 : 0 ≤ lk1 := by omega
  have n1 := nd_pos hn
  cases C1 with
  | nil =>
    refine w_seq ?_
    refine w_seq ?_
    refine w_reg ?_
    refine wl_mv (.tmp 1) (pt k1 0) (fun _ => rfl) e1 rfl ?_
    refine wl_nc (.tmp 23) k1 0 rfl rfl rfl ?_
    refine wl_un (fun v => Instr.fieldAt 66 v 0) (.tmp 24) (pt k1 0) (pt k1 0) (fun _ => rfl) rfl (by kernel_rfl) rfl ?_
    refine wl_un (fun v => Instr.fieldAt 64 v 0) (.tmp 25) (pt k1 0) (pt k1 0) (fun _ => rfl) rfl (by kernel_rfl) rfl ?_
    refine wl_load 56 (.tmp 26) (pt k1 0) (pp none) rfl rfl (run_one (hS.rc k1 _ hk) 56 0 rfl Try.underlying56 rfl) rfl ?_
    refine wl_bin (fun x y => do eqGuard .neq 56 (.tmp 27) (.const (.pointer none)) x y; binOp .neq 56 x y) (.tmp 27) (.const (.pointer none)) (pp none) (pp none) (.bool false) (fun _ => rfl) rfl rfl (ne56 none _ _ _) rfl ?_
    refine w_nil ?_
    refine xn_then ?_
    refine w_condF rfl ?_
    refine w_exit ?_
    refine xx_then ?_
    refine xx_then ?_
    refine xx_blk ?_
    refine xn_then ?_
    refine w_seq ?_
    refine w_reg ?_
    refine wl_mv (.tmp 5) (.int .i64 (at1)) (fun _ => rfl) e5 rfl ?_
    refine wl_mv (.tmp 68) (.int .i64 (at1)) (fun _ => rfl) rfl rfl ?_
    refine w_nil ?_
    refine xn_then ?_
    refine w_ret ?_
    have hat : at1 = l0.sz + ix C := by rw [← hix]; simp only [ix]; omega
    exact w_ret1 _ (.int .i64 (at1)) rfl rfl ⟨by rw [hat], lk1, hl1, by simp only [List.length_nil] at hl2; omega, by rw [← hpl]; exact ⟨R, root, hS, hC, hR, hn⟩, M⟩
  | cons y C1 =>
    have hy := hC.1
    have hcy : csz (y :: C1) = 1 + y.o.sz + csz C1 := rfl
    have hiy : ix (y :: C1) = (if y.d then y.o.sz + 1 else 0) + ix C1 := rfl
    have h0o := T.sz_nn y.o; have h0c := csz_nn C1
    simp only [List.length_cons] at hl2
    rw [hp1] at hC
    unfold Fr.rc at hy
    rw [hp1] at hy
    cases hd : y.d with
    | true =>
      rw [hd] at hy hiy
      replace hy : R y.k = some ⟨top C1, y.o.p, some k1, y.s, y.i⟩ := hy
      replace hiy : ix (y :: C1) = y.o.sz + 1 + ix C1 := hiy
      have hsd : ∀ {w : World}, HS D w t mb R root lk1 → Calls Try.prog 41 #[pt k1 0] w fun e w' => e = .returned (.int .i64 1) ∧ Mo w w' := fun hS => by have := side_c hS hC hk (fun m => n1.2.2 _ m (T.pm hp1)); rw [show sideC (y :: C1) = true from hd] at this; exact this
      refine w_seq ?_
      refine w_seq ?_
      refine w_reg ?_
      refine wl_mv (.tmp 1) (pt k1 0) (fun _ => rfl) e1 rfl ?_
      refine wl_nc (.tmp 23) k1 0 rfl rfl rfl ?_
      refine wl_un (fun v => Instr.fieldAt 66 v 0) (.tmp 24) (pt k1 0) (pt k1 0) (fun _ => rfl) rfl (by kernel_rfl) rfl ?_
      refine wl_un (fun v => Instr.fieldAt 64 v 0) (.tmp 25) (pt k1 0) (pt k1 0) (fun _ => rfl) rfl (by kernel_rfl) rfl ?_
      refine wl_load 56 (.tmp 26) (pt k1 0) (pt y.k 0) rfl rfl (run_one (hS.rc k1 _ hk) 56 0 rfl Try.underlying56 rfl) rfl ?_
      refine wl_bin (fun x y => do eqGuard .neq 56 (.tmp 27) (.const (.pointer none)) x y; binOp .neq 56 x y) (.tmp 27) (.const (.pointer none)) (pt y.k 0) (pp none) (.bool true) (fun _ => rfl) rfl rfl (ne56 (some y.k) _ _ _) rfl ?_
      refine w_nil ?_
      refine xn_then ?_
      refine w_condT rfl ?_
      refine w_skip ?_
      refine xn_then ?_
      refine w_block ?_
      refine w_seq ?_
      refine w_seq ?_
      refine w_reg ?_
      refine wl_mv (.tmp 1) (pt k1 0) (fun _ => rfl) e1 rfl ?_
      refine wl_call 41 [(.tmp 29)] _ [pt k1 0] (.int .i64 (1)) rfl rfl (fun _ _ => by kernel_rfl) (hsd hS) rfl ?_
      intro w11 hq
      replace hS := hS.mo hq
      replace M := M.trans hq
      clear hq
      refine wl_bin (fun x y => do eqGuard .eql 3 (.tmp 30) (.const (.int .i64 (1))) x y; binOp .eql 3 x y) (.tmp 30) (.const (.int .i64 (1))) (.int .i64 (1)) (.int .i64 (1)) (.bool true) (fun _ => rfl) rfl rfl (eqI (r := true) (by decide) _ _ _) rfl ?_
      refine w_nil ?_
      refine xn_then ?_
      refine w_condT rfl ?_
      refine w_seq ?_
      refine w_reg ?_
      refine wl_mv (.tmp 0) (pt t 0) (fun _ => rfl) e0 rfl ?_
      refine wl_mv (.tmp 1) (pt k1 0) (fun _ => rfl) e1 rfl ?_
      refine wl_nc (.tmp 33) k1 0 rfl rfl rfl ?_
      refine wl_un (fun v => Instr.fieldAt 66 v 0) (.tmp 34) (pt k1 0) (pt k1 0) (fun _ => rfl) rfl (by kernel_rfl) rfl ?_
      refine wl_un (fun v => Instr.fieldAt 64 v 0) (.tmp 35) (pt k1 0) (pt k1 0) (fun _ => rfl) rfl (by kernel_rfl) rfl ?_
      refine wl_load 56 (.tmp 36) (pt k1 0) (pt y.k 0) rfl rfl (run_one (hS.rc k1 _ hk) 56 0 rfl Try.underlying56 rfl) rfl ?_
      refine wl_nc (.tmp 37) y.k 0 rfl rfl rfl ?_
      refine wl_un (fun v => Instr.fieldAt 66 v 0) (.tmp 38) (pt y.k 0) (pt y.k 0) (fun _ => rfl) rfl (by kernel_rfl) rfl ?_
      refine wl_un (fun v => Instr.fieldAt 64 v 1) (.tmp 39) (pt y.k 0) (pt y.k 1) (fun _ => rfl) rfl (by kernel_rfl) rfl ?_
      refine wl_bin (fun x y => Instr.indexAt 62 x y) (.tmp 40) (.const (.int .i64 (0))) (pt y.k 1) (.int .i64 (0)) (pt y.k 1) (fun _ => rfl) rfl rfl (by kernel_rfl) rfl ?_
      refine wl_load 56 (.tmp 41) (pt y.k 1) (pp y.o.p) rfl rfl (run_one (hS.rc y.k _ hy) 56 1 rfl Try.underlying56 rfl) rfl ?_
      refine wl_bsl [(0, (.tmp 42))] [pp y.o.p] 1 rfl rfl (bs1 y.o.p) rfl ?_
      intro g11 w12 hk hz hq Q11
      have nd_g11 : ¬ D g11 := fun e => by have := hS.lt e; omega
      replace hS := hS.mo hq
      replace M := M.trans hq
      clear hk hz hq
      refine wl_callg 39 [(.tmp 32), (.tmp 43)] _ [pt t 0, .slice (some ⟨g11, 0, none⟩) 1 1] (.tuple #[]) rfl rfl (fun _ _ => by kernel_rfl) (look_n [y.o.p] g11 hS Q11 nd_g11 (by simp only [List.length_cons, List.length_nil]; omega)) rfl ?_
      intro w13 hF
      have hc1 := cnt_le [y.o.p]
      simp only [List.length_cons, List.length_nil] at hc1
      obtain ⟨hS2, hM2⟩ := hF
      replace hS := hS2
      replace M := M.same hM2
      clear hS2 hM2 Q11 nd_g11
      refine w_nil ?_
      refine xn_then ?_
      refine w_reg ?_
      refine wl_mv (.tmp 5) (.int .i64 (at1)) (fun _ => rfl) e5 rfl ?_
      refine wl_mv (.tmp 1) (pt k1 0) (fun _ => rfl) e1 rfl ?_
      refine wl_nc (.tmp 46) k1 0 rfl rfl rfl ?_
      refine wl_un (fun v => Instr.fieldAt 66 v 0) (.tmp 47) (pt k1 0) (pt k1 0) (fun _ => rfl) rfl (by kernel_rfl) rfl ?_
      refine wl_un (fun v => Instr.fieldAt 64 v 0) (.tmp 48) (pt k1 0) (pt k1 0) (fun _ => rfl) rfl (by kernel_rfl) rfl ?_
      refine wl_load 56 (.tmp 49) (pt k1 0) (pt y.k 0) rfl rfl (run_one (hS.rc k1 _ hk) 56 0 rfl Try.underlying56 rfl) rfl ?_
      refine wl_nc (.tmp 50) y.k 0 rfl rfl rfl ?_
      refine wl_un (fun v => Instr.fieldAt 66 v 0) (.tmp 51) (pt y.k 0) (pt y.k 0) (fun _ => rfl) rfl (by kernel_rfl) rfl ?_
      refine wl_un (fun v => Instr.fieldAt 64 v 1) (.tmp 52) (pt y.k 0) (pt y.k 1) (fun _ => rfl) rfl (by kernel_rfl) rfl ?_
      refine wl_bin (fun x y => Instr.indexAt 62 x y) (.tmp 53) (.const (.int .i64 (0))) (pt y.k 1) (.int .i64 (0)) (pt y.k 1) (fun _ => rfl) rfl rfl (by kernel_rfl) rfl ?_
      refine wl_load 56 (.tmp 54) (pt y.k 1) (pp y.o.p) rfl rfl (run_one (hS.rc y.k _ hy) 56 1 rfl Try.underlying56 rfl) rfl ?_
      refine wl_call 40 [(.tmp 55)] _ [pp y.o.p] (.int .i64 (y.o.sz)) rfl rfl (fun _ _ => by kernel_rfl) (size_o hS (szo_of hC.2.1 (oc y (by simp)))) rfl ?_
      intro w14 hq
      replace hS := hS.mo hq
      replace M := M.trans hq
      clear hq
      refine wl_bin (fun x y => do eqGuard .add 3 (.tmp 56) (.const (.int .i64 (1))) x y; binOp .add 3 x y) (.tmp 56) (.const (.int .i64 (1))) (.int .i64 (y.o.sz)) (.int .i64 (1)) (.int .i64 (y.o.sz + 1)) (fun _ => rfl) rfl rfl (addI (by omega) (by omega) _ _ _) rfl ?_
      refine wl_bin (fun x y => do eqGuard .add 3 (.tmp 45) (.tmp 57) x y; binOp .add 3 x y) (.tmp 45) (.tmp 57) (.int .i64 (at1)) (.int .i64 (y.o.sz + 1)) (.int .i64 (at1 + (y.o.sz + 1))) (fun _ => rfl) rfl rfl (addI (by omega) (by omega) _ _ _) rfl ?_
      refine wl_mv (.tmp 58) (.int .i64 (at1 + (y.o.sz + 1))) (fun _ => rfl) rfl rfl ?_
      refine w_nil ?_
      refine xn_then ?_
      refine w_seq ?_
      refine w_reg ?_
      refine wl_mv (.tmp 1) (pt k1 0) (fun _ => rfl) e1 rfl ?_
      refine wl_nc (.tmp 59) k1 0 rfl rfl rfl ?_
      refine wl_un (fun v => Instr.fieldAt 66 v 0) (.tmp 60) (pt k1 0) (pt k1 0) (fun _ => rfl) rfl (by kernel_rfl) rfl ?_
      refine wl_un (fun v => Instr.fieldAt 64 v 0) (.tmp 61) (pt k1 0) (pt k1 0) (fun _ => rfl) rfl (by kernel_rfl) rfl ?_
      refine wl_load 56 (.tmp 62) (pt k1 0) (pt y.k 0) rfl rfl (run_one (hS.rc k1 _ hk) 56 0 rfl Try.underlying56 rfl) rfl ?_
      refine wl_mv (.tmp 63) (pt y.k 0) (fun _ => rfl) rfl rfl ?_
      refine w_nil ?_
      refine xn_then ?_
      refine w_reg ?_
      refine wl_mv (.tmp 0) (pt t 0) (fun _ => rfl) e0 rfl ?_
      refine wl_mv (.tmp 1) (pt y.k 0) (fun _ => rfl) rfl rfl ?_
      refine wl_bsl [(0, (.tmp 65))] [pp (some y.k)] 1 rfl rfl (bs1 (some y.k)) rfl ?_
      intro g12 w15 hk hz hq Q12
      have nd_g12 : ¬ D g12 := fun e => by have := hS.lt e; omega
      replace hS := hS.mo hq
      replace M := M.trans hq
      clear hk hz hq
      refine wl_callg 39 [(.tmp 64), (.tmp 66)] _ [pt t 0, .slice (some ⟨g12, 0, none⟩) 1 1] (.tuple #[]) rfl rfl (fun _ _ => by kernel_rfl) (look_n [(some y.k)] g12 hS Q12 nd_g12 (by simp only [List.length_cons, List.length_nil]; omega)) rfl ?_
      intro w16 hF
      have hc2 := cnt_le [(some y.k)]
      simp only [List.length_cons, List.length_nil] at hc2
      obtain ⟨hS2, hM2⟩ := hF
      replace hS := hS2
      replace M := M.same hM2
      clear hS2 hM2 Q12 nd_g12
      refine w_nil ?_
      refine xn_blk ?_
      exact xn_loop C1.length (by simp) ⟨C1, y.jn tr1, (((lk1) + cnt [y.o.p]) + cnt [(some y.k)]), at1 + (y.o.sz + 1), y.k, rfl, e0, rfl, rfl, y.jn_p tr1, TS.up (f := y) ⟨R, root, hS, by rw [hp1]; exact hC, hR, hn⟩, fun g hg => oc g (by simp [hg]), hpl, by omega, by omega, by omega, by omega, by omega, by omega, M⟩
    | false =>
      rw [hd] at hy hiy
      replace hy : R y.k = some ⟨top C1, some k1, y.o.p, y.s, y.i⟩ := hy
      replace hiy : ix (y :: C1) = 0 + ix C1 := hiy
      have hsd : ∀ {w : World}, HS D w t mb R root lk1 → Calls Try.prog 41 #[pt k1 0] w fun e w' => e = .returned (.int .i64 0) ∧ Mo w w' := fun hS => by have := side_c hS hC hk (fun m => n1.2.2 _ m (T.pm hp1)); rw [show sideC (y :: C1) = false from hd] at this; exact this
      refine w_seq ?_
      refine w_seq ?_
      refine w_reg ?_
      refine wl_mv (.tmp 1) (pt k1 0) (fun _ => rfl) e1 rfl ?_
      refine wl_nc (.tmp 23) k1 0 rfl rfl rfl ?_
      refine wl_un (fun v => Instr.fieldAt 66 v 0) (.tmp 24) (pt k1 0) (pt k1 0) (fun _ => rfl) rfl (by kernel_rfl) rfl ?_
      refine wl_un (fun v => Instr.fieldAt 64 v 0) (.tmp 25) (pt k1 0) (pt k1 0) (fun _ => rfl) rfl (by kernel_rfl) rfl ?_
      refine wl_load 56 (.tmp 26) (pt k1 0) (pt y.k 0) rfl rfl (run_one (hS.rc k1 _ hk) 56 0 rfl Try.underlying56 rfl) rfl ?_
      refine wl_bin (fun x y => do eqGuard .neq 56 (.tmp 27) (.const (.pointer none)) x y; binOp .neq 56 x y) (.tmp 27) (.const (.pointer none)) (pt y.k 0) (pp none) (.bool true) (fun _ => rfl) rfl rfl (ne56 (some y.k) _ _ _) rfl ?_
      refine w_nil ?_
      refine xn_then ?_
      refine w_condT rfl ?_
      refine w_skip ?_
      refine xn_then ?_
      refine w_block ?_
      refine w_seq ?_
      refine w_seq ?_
      refine w_reg ?_
      refine wl_mv (.tmp 1) (pt k1 0) (fun _ => rfl) e1 rfl ?_
      refine wl_call 41 [(.tmp 29)] _ [pt k1 0] (.int .i64 (0)) rfl rfl (fun _ _ => by kernel_rfl) (hsd hS) rfl ?_
      intro w11 hq
      replace hS := hS.mo hq
      replace M := M.trans hq
      clear hq
      refine wl_bin (fun x y => do eqGuard .eql 3 (.tmp 30) (.const (.int .i64 (1))) x y; binOp .eql 3 x y) (.tmp 30) (.const (.int .i64 (1))) (.int .i64 (0)) (.int .i64 (1)) (.bool false) (fun _ => rfl) rfl rfl (eqI (r := false) (by decide) _ _ _) rfl ?_
      refine w_nil ?_
      refine xn_then ?_
      refine w_condF rfl ?_
      refine w_skip ?_
      refine xn_then ?_
      refine w_seq ?_
      refine w_reg ?_
      refine wl_mv (.tmp 1) (pt k1 0) (fun _ => rfl) e1 rfl ?_
      refine wl_nc (.tmp 59) k1 0 rfl rfl rfl ?_
      refine wl_un (fun v => Instr.fieldAt 66 v 0) (.tmp 60) (pt k1 0) (pt k1 0) (fun _ => rfl) rfl (by kernel_rfl) rfl ?_
      refine wl_un (fun v => Instr.fieldAt 64 v 0) (.tmp 61) (pt k1 0) (pt k1 0) (fun _ => rfl) rfl (by kernel_rfl) rfl ?_
      refine wl_load 56 (.tmp 62) (pt k1 0) (pt y.k 0) rfl rfl (run_one (hS.rc k1 _ hk) 56 0 rfl Try.underlying56 rfl) rfl ?_
      refine wl_mv (.tmp 63) (pt y.k 0) (fun _ => rfl) rfl rfl ?_
      refine w_nil ?_
      refine xn_then ?_
      refine w_reg ?_
      refine wl_mv (.tmp 0) (pt t 0) (fun _ => rfl) e0 rfl ?_
      refine wl_mv (.tmp 1) (pt y.k 0) (fun _ => rfl) rfl rfl ?_
      refine wl_bsl [(0, (.tmp 65))] [pp (some y.k)] 1 rfl rfl (bs1 (some y.k)) rfl ?_
      intro g11 w12 hk hz hq Q11
      have nd_g11 : ¬ D g11 := fun e => by have := hS.lt e; omega
      replace hS := hS.mo hq
      replace M := M.trans hq
      clear hk hz hq
      refine wl_callg 39 [(.tmp 64), (.tmp 66)] _ [pt t 0, .slice (some ⟨g11, 0, none⟩) 1 1] (.tuple #[]) rfl rfl (fun _ _ => by kernel_rfl) (look_n [(some y.k)] g11 hS Q11 nd_g11 (by simp only [List.length_cons, List.length_nil]; omega)) rfl ?_
      intro w13 hF
      have hc1 := cnt_le [(some y.k)]
      simp only [List.length_cons, List.length_nil] at hc1
      obtain ⟨hS2, hM2⟩ := hF
      replace hS := hS2
      replace M := M.same hM2
      clear hS2 hM2 Q11 nd_g11
      refine w_nil ?_
      refine xn_blk ?_
      exact xn_loop C1.length (by simp) ⟨C1, y.jn tr1, ((lk1) + cnt [(some y.k)]), at1, y.k, rfl, e0, rfl, e5, y.jn_p tr1, TS.up (f := y) ⟨R, root, hS, by rw [hp1]; exact hC, hR, hn⟩, fun g hg => oc g (by simp [hg]), hpl, by omega, by omega, by omega, by omega, by omega, by omega, M⟩
end
end Go.Proofs.Ytbmbldloeblbbaa
