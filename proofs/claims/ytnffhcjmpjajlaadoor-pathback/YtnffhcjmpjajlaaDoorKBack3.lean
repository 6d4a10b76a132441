/-
  A part of the proof.
-/
import Derived.Test.YtnffhcjmpjajlaaDoorKBack2
import Derived.Test.YtnffhcjmpjajlaaDoorKBack1
import Derived.Test.YtnffhcjmpjajlaaDoorKa15
import Derived.Test.YtnffhcjmpjajlaaDoorKa13
import Derived.Test.YtnffhcjmpjajlaaDoorKa11
import Derived.Test.YtnffhcjmpjajlaaDoorKa10
import Derived.Test.YtnffhcjmpjajlaaDoorKa6
import Derived.Test.YtnffhcjmpjajlaaDoorKa5
import Derived.Test.YtnffhcjmpjajlaaDoorKa4
import Derived.Test.YtnffhcjmpjajlaaDoorKa3
import Derived.Test.YtnffhcjmpjajlaaDoorKa2
import Derived.Test.YtnffhcjmpjajlaaDoorKa1
import Derived.RegionTactic
import Derived.Test.YtnffhcjmpjajlaaDoorProg
import Derived.WalkKit
import Derived.WalkSpells
import Derived.Handy
import Derived.BigQuiet
import Derived.Deep.RegionHeld3
import Derived.Deep.MidRow
import Derived.BigCall
import Derived.ChangeKeysEq
import Derived.Shelf.Small.Bits
import Derived.Shelf.Strconv.Itoa0
import Derived.Shelf.Bits.Mul64
import Derived.Deep.CutRange
import Derived.Deep.CutBlock
import Derived.ScopeJumps
import Derived.WalkMore
import Derived.Laws.StructEq
import Derived.Lib.CutLaws
import Derived.Maps.OwnSet
import Derived.WalkArith
import Derived.StringKeys
import Derived.ProofKit
import Derived.OpenShut
import Derived.ChangeArms
import Derived.Deep.Slices
import Derived.ReadAgain
import Derived.WideKeyArgs
import Derived.Maps.AppendAt
import Derived.Test.YtnffhcjmpjajlaaDoorKa9
import Derived.Test.YtnffhcjmpjajlaaDoorKa7
import Derived.Shelf.Strconv.Itoa4
import Derived.Test.YtnffhcjmpjajlaaDoorKa8
import Derived.Lib.IndexBytes
import Derived.Lib.AppendIntMem
import Derived.Lib.ItoaLen
import Derived.Laws.MakeOwn
import Derived.Test.YtnffhcjmpjajlaaDoorKa12
import Derived.Test.YtnffhcjmpjajlaaDoorKa14
namespace Go.Proofs.YtnffhcjmpjajlaaDoor
open Go.RowKit D
theorem table_n {w : World} {z : Zc} {A : Al} (hC : CK w z A) (n : Nat) (x : Tb) (hT : A.T.length < 1000000) : Calls Tryd.prog 60 #[pt z.cb 0, .int .i64 ((n : Nat) : Int), .agg (x.cells).toArray] w fun e w' => e = .returned (.int .i64 (tbE A.T x)) ∧ Mk z.D w w' ∧ (tbE A.T x = 0 → CK w' z ⟨(x.nm, ((n : Nat) : Int)) :: A.T, A.I, A.K⟩) := by
 refine w_enter 38 Tryd.func60 Tryd.ntmps60 rfl rfl ?_
 have M : Mo w w := Mo.refl _
 refine w_seq (w_reg ?_)
 refine wl_box 115 (.tmp 2) _ (((x.cells).toArray)) rfl rfl (fun _ => by kernel_rfl) rfl ?_
 intro k1 w1 hk hz hq Q1
 have N_k1 : w.heap.size ≤ k1 := by have := M.size; omega
 replace M := M.trans hq
 clear hk hz hq
 refine wl_m (.const (.int .i64 (0))) (.int .i64 (0)) ?_
 refine w_nil (xn_then (w_seq (w_block (w_seq (w_reg ?_)))))
 refine wl_f 115 0 (.tmp 5) (pt k1 0) (pt k1 0) ?_
 refine wl_l 9 (.tmp 8) (pt k1 0) (.string x.nm) (run_one Q1 9 0 rfl Tryd.underlying9 rfl) ?_
 cases hf0 : may x.nm with
 | true =>
  refine wl_call 58 [(.tmp 9)] _ [.string x.nm] (.bool true) rfl rfl (fun _ _ => by kernel_rfl) (cB hf0 (may_n x.nm _)) rfl ?_
  intro w2 hq
  replace Q1 := Q1.mo hq
  replace M := M.trans hq
  clear hq
  refine wl_un (fun v => Op.unary .not v) (.tmp 10) (.bool true) (.bool false) (fun _ => rfl) rfl (by kernel_rfl) rfl ?_
  refine wl_m (.tmp 11) (.bool false) ?_
  refine w_nil (xn_then (w_condF rfl (w_seq ?_)))
  cases hf1 : (lk A.T x.nm).isSome with
  | true =>
   refine w_any 6 [.inl (pt z.cb 0), .inl (pt z.cb 0), .inl (pt z.cb 8), .inl (.map (some z.tb)), .inl (pt k1 0), .inl (.string x.nm)] [] (by kernel_rfl) (by kernel_rfl) (by kernel_rfl) (by kernel_rfl) rfl (by kernel_rfl) (by kernel_rfl) late_nil ?_ ?_ ?_
   ·exact Ds.none rfl
   ·refine ea_cons ?_ (ea_cons ?_ (ea_cons ?_ (ea_cons ?_ (ea_cons ?_ (ea_cons ?_ (ea_nil))))))
    ·exact og_eq _ rfl (fun f wf hq hd K hK => go_run rfl (wo_mv (.tmp 0) (pt z.cb 0) (fun _ => rfl) rfl (hK _ (Mo.refl _))))
    ·exact og_eq _ rfl (fun f wf hq hd K hK => go_run rfl (wo_nc (.tmp 13) z.cb 0 rfl (hd 0 rfl) (hK _ (Mo.refl _))))
    ·exact og_eq _ rfl (fun f wf hq hd K hK => go_run rfl (wo_un (fun v => Instr.fieldAt 111 v 2) (.tmp 14) (pt z.cb 0) (pt z.cb 8) (fun _ => rfl) (hd 1 rfl) (by kernel_rfl) (hK _ (Mo.refl _))))
    ·exact og_eq _ rfl (fun f wf hq hd K hK => go_run rfl (wo_load 108 (.tmp 15) (pt z.cb 8) (.map (some z.tb)) rfl (hd 2 rfl) (D.run_oneR (hC.rw.mo (M.trans hq)).at' 108 8 rfl Tryd.underlying108 rfl) (hK _ (Mo.refl _))))
    ·exact og_eq _ rfl (fun f wf hq hd K hK => go_run rfl (wo_un (fun v => Instr.fieldAt 115 v 0) (.tmp 5) (pt k1 0) (pt k1 0) (fun _ => rfl) rfl (by kernel_rfl) (hK _ (Mo.refl _))))
    ·exact og_eq _ rfl (fun f wf hq hd K hK => have Q1 := Q1.mo hq; go_run rfl (wo_load 9 (.tmp 17) (pt k1 0) (.string x.nm) rfl (hd 4 rfl) (run_one Q1 9 0 rfl Tryd.underlying9 rfl) (hK _ (Mo.refl _))))
   intro kf3 w3 hq hR hne
   replace Q1 := Q1.mo hq
   replace M := M.trans hq
   clear hq hR hne
   refine wl_call 75 [(.tmp 16), (.tmp 18)] _ [.map (some z.tb), .string x.nm] (.bool true) rfl rfl (fun _ _ => by kernel_rfl) (cB hf1 (has_n (hC.om.mo M) x.nm (Nat.le_trans (may_sz hf0) (by decide)))) rfl ?_
   intro w4 hq
   replace Q1 := Q1.mo hq
   replace M := M.trans hq
   clear hq
   refine wl_m (.tmp 19) (.bool true) ?_
   refine w_nil (xn_then (w_condT rfl (w_seq (w_reg ?_))))
   refine wl_m (.const (.int .i64 (5))) (.int .i64 (5)) ?_
   refine w_nil (xn_then (w_ret (xr_blk (xr_then ?_))))
   exact w_ret1 _ (.int .i64 (5)) rfl rfl ⟨by unfold tbE; rw [hf0, hf1]; rfl, Mk.of _ M, fun h => absurd ((show (5 : Int) = tbE A.T x from by unfold tbE; rw [hf0, hf1]; rfl).trans h) (by decide)⟩
  | false =>
   refine w_any 6 [.inl (pt z.cb 0), .inl (pt z.cb 0), .inl (pt z.cb 8), .inl (.map (some z.tb)), .inl (pt k1 0), .inl (.string x.nm)] [] (by kernel_rfl) (by kernel_rfl) (by kernel_rfl) (by kernel_rfl) rfl (by kernel_rfl) (by kernel_rfl) late_nil ?_ ?_ ?_
   ·exact Ds.none rfl
   ·refine ea_cons ?_ (ea_cons ?_ (ea_cons ?_ (ea_cons ?_ (ea_cons ?_ (ea_cons ?_ (ea_nil))))))
    ·exact og_eq _ rfl (fun f wf hq hd K hK => go_run rfl (wo_mv (.tmp 0) (pt z.cb 0) (fun _ => rfl) rfl (hK _ (Mo.refl _))))
    ·exact og_eq _ rfl (fun f wf hq hd K hK => go_run rfl (wo_nc (.tmp 13) z.cb 0 rfl (hd 0 rfl) (hK _ (Mo.refl _))))
    ·exact og_eq _ rfl (fun f wf hq hd K hK => go_run rfl (wo_un (fun v => Instr.fieldAt 111 v 2) (.tmp 14) (pt z.cb 0) (pt z.cb 8) (fun _ => rfl) (hd 1 rfl) (by kernel_rfl) (hK _ (Mo.refl _))))
    ·exact og_eq _ rfl (fun f wf hq hd K hK => go_run rfl (wo_load 108 (.tmp 15) (pt z.cb 8) (.map (some z.tb)) rfl (hd 2 rfl) (D.run_oneR (hC.rw.mo (M.trans hq)).at' 108 8 rfl Tryd.underlying108 rfl) (hK _ (Mo.refl _))))
    ·exact og_eq _ rfl (fun f wf hq hd K hK => go_run rfl (wo_un (fun v => Instr.fieldAt 115 v 0) (.tmp 5) (pt k1 0) (pt k1 0) (fun _ => rfl) rfl (by kernel_rfl) (hK _ (Mo.refl _))))
    ·exact og_eq _ rfl (fun f wf hq hd K hK => have Q1 := Q1.mo hq; go_run rfl (wo_load 9 (.tmp 17) (pt k1 0) (.string x.nm) rfl (hd 4 rfl) (run_one Q1 9 0 rfl Tryd.underlying9 rfl) (hK _ (Mo.refl _))))
   intro kf3 w3 hq hR hne
   replace Q1 := Q1.mo hq
   replace M := M.trans hq
   clear hq hR hne
   refine wl_call 75 [(.tmp 16), (.tmp 18)] _ [.map (some z.tb), .string x.nm] (.bool false) rfl rfl (fun _ _ => by kernel_rfl) (cB hf1 (has_n (hC.om.mo M) x.nm (Nat.le_trans (may_sz hf0) (by decide)))) rfl ?_
   intro w4 hq
   replace Q1 := Q1.mo hq
   replace M := M.trans hq
   clear hq
   refine wl_m (.tmp 19) (.bool false) ?_
   refine w_nil (xn_then (w_condF rfl (w_seq (w_reg ?_))))
   refine wl_f 115 1 (.tmp 5) (pt k1 0) (pt k1 1) ?_
   refine wl_l 113 (.tmp 21) (pt k1 1) (.slice x.pa x.st.length x.cap) (run_one Q1 113 1 rfl Tryd.underlying113 rfl) ?_
   refine wl_val (.int .i64 ((x.st.length : Nat) : Int)) (len113 _ _ _ _ _ (by exact rfl) _ _ _ _ _ _) rfl ?_
   cases hf2 : decide (x.st.length < 1) with
   | true =>
    have hf2p := of_decide_eq_true hf2
    refine wl_b .lss 3 (.tmp 23) (.const (.int .i64 (1))) (.int .i64 ((x.st.length : Nat) : Int)) (.int .i64 (1)) (.bool true) (ltN hf2 _ _ _) ?_
    refine wl_m (.tmp 24) (.bool true) ?_
    refine wl_skip rfl (wl_skip rfl (wl_skip rfl (wl_skip rfl ?_)))
    refine wl_pick (.tmp 25) (.const (.bool true)) (.tmp 29) true (.bool true) (fun _ => rfl) rfl rfl rfl ?_
    refine wl_m (.tmp 30) (.bool true) ?_
    refine w_nil (xn_then (w_condT rfl (w_seq (w_reg ?_))))
    refine wl_m (.const (.int .i64 (92))) (.int .i64 (92)) ?_
    refine w_nil (xn_then (w_ret (xr_blk (xr_then ?_))))
    exact w_ret1 _ (.int .i64 (92)) rfl rfl ⟨by unfold tbE; rw [hf0, hf1, hf2]; rfl, Mk.of _ M, fun h => absurd ((show (92 : Int) = tbE A.T x from by unfold tbE; rw [hf0, hf1, hf2]; rfl).trans h) (by decide)⟩
   | false =>
    have hf2p := of_decide_eq_false hf2
    refine wl_b .lss 3 (.tmp 23) (.const (.int .i64 (1))) (.int .i64 ((x.st.length : Nat) : Int)) (.int .i64 (1)) (.bool false) (ltN hf2 _ _ _) ?_
    refine wl_m (.tmp 24) (.bool false) ?_
    refine wl_f 115 1 (.tmp 5) (pt k1 0) (pt k1 1) ?_
    refine wl_l 113 (.tmp 26) (pt k1 1) (.slice x.pa x.st.length x.cap) (run_one Q1 113 1 rfl Tryd.underlying113 rfl) ?_
    refine wl_val (.int .i64 ((x.st.length : Nat) : Int)) (len113 _ _ _ _ _ (by exact rfl) _ _ _ _ _ _) rfl ?_
    cases hf3 : decide (32 < x.st.length) with
    | true =>
     have hf3p := of_decide_eq_true hf3
     refine wl_b .gtr 3 (.tmp 28) (.const (.int .i64 (32))) (.int .i64 ((x.st.length : Nat) : Int)) (.int .i64 (32)) (.bool true) (gtN hf3 _ _ _) ?_
     refine wl_pick (.tmp 25) (.const (.bool true)) (.tmp 29) false (.bool true) (fun _ => rfl) rfl rfl rfl ?_
     refine wl_m (.tmp 30) (.bool true) ?_
     refine w_nil (xn_then (w_condT rfl (w_seq (w_reg ?_))))
     refine wl_m (.const (.int .i64 (92))) (.int .i64 (92)) ?_
     refine w_nil (xn_then (w_ret (xr_blk (xr_then ?_))))
     exact w_ret1 _ (.int .i64 (92)) rfl rfl ⟨by unfold tbE; rw [hf0, hf1, hf2, hf3]; rfl, Mk.of _ M, fun h => absurd ((show (92 : Int) = tbE A.T x from by unfold tbE; rw [hf0, hf1, hf2, hf3]; rfl).trans h) (by decide)⟩
    | false =>
     have hf3p := of_decide_eq_false hf3
     refine wl_b .gtr 3 (.tmp 28) (.const (.int .i64 (32))) (.int .i64 ((x.st.length : Nat) : Int)) (.int .i64 (32)) (.bool false) (gtN hf3 _ _ _) ?_
     refine wl_pick (.tmp 25) (.const (.bool true)) (.tmp 29) false (.bool false) (fun _ => rfl) rfl rfl rfl ?_
     refine wl_m (.tmp 30) (.bool false) ?_
     refine w_nil (xn_then (w_condF rfl (w_skip (xn_blk (xn_then (w_seq ?_))))))
     refine w_any 7 [.inl (pt z.cb 0), .inl (pt z.cb 0), .inl (pt z.cb 8), .inl (.map (some z.tb)), .inl (pt k1 0), .inl (.string x.nm), .inl (.int .i64 ((n : Nat) : Int))] [] (by kernel_rfl) (by kernel_rfl) (by kernel_rfl) (by kernel_rfl) rfl (by kernel_rfl) (by kernel_rfl) late_nil ?_ ?_ ?_
     ·exact Ds.none rfl
     ·refine ea_cons ?_ (ea_cons ?_ (ea_cons ?_ (ea_cons ?_ (ea_cons ?_ (ea_cons ?_ (ea_cons ?_ (ea_nil)))))))
      ·exact og_eq _ rfl (fun f wf hq hd K hK => go_run rfl (wo_mv (.tmp 0) (pt z.cb 0) (fun _ => rfl) rfl (hK _ (Mo.refl _))))
      ·exact og_eq _ rfl (fun f wf hq hd K hK => go_run rfl (wo_nc (.tmp 31) z.cb 0 rfl (hd 0 rfl) (hK _ (Mo.refl _))))
      ·exact og_eq _ rfl (fun f wf hq hd K hK => go_run rfl (wo_un (fun v => Instr.fieldAt 111 v 2) (.tmp 32) (pt z.cb 0) (pt z.cb 8) (fun _ => rfl) (hd 1 rfl) (by kernel_rfl) (hK _ (Mo.refl _))))
      ·exact og_eq _ rfl (fun f wf hq hd K hK => go_run rfl (wo_load 108 (.tmp 33) (pt z.cb 8) (.map (some z.tb)) rfl (hd 2 rfl) (D.run_oneR (hC.rw.mo (M.trans hq)).at' 108 8 rfl Tryd.underlying108 rfl) (hK _ (Mo.refl _))))
      ·exact og_eq _ rfl (fun f wf hq hd K hK => go_run rfl (wo_un (fun v => Instr.fieldAt 115 v 0) (.tmp 5) (pt k1 0) (pt k1 0) (fun _ => rfl) rfl (by kernel_rfl) (hK _ (Mo.refl _))))
      ·exact og_eq _ rfl (fun f wf hq hd K hK => have Q1 := Q1.mo hq; go_run rfl (wo_load 9 (.tmp 35) (pt k1 0) (.string x.nm) rfl (hd 4 rfl) (run_one Q1 9 0 rfl Tryd.underlying9 rfl) (hK _ (Mo.refl _))))
      ·exact og_eq _ rfl (fun f wf hq hd K hK => go_run rfl (wo_mv (.tmp 1) (.int .i64 ((n : Nat) : Int)) (fun _ => rfl) rfl (hK _ (Mo.refl _))))
     intro kf5 w5 hq hR hne
     replace Q1 := Q1.mo hq
     replace M := M.trans hq
     clear hq hR hne
     refine wl_mup (.tmp 34) (.tmp 36) (.tmp 37) z.tb x.nm (((n : Nat) : Int)) (hC.om.mo M) hT (Nat.le_trans (may_sz hf0) (by decide)) (isn hf1) rfl rfl rfl rfl rfl rfl ?_
     intro w6 hO9 hK9
     have hC9 := (hC.mo M).putT hO9 hK9
     have MK := (Mk.of z.D M).tr hK9 (fun j _ e => by rw [e]; exact Zc.dt)
     refine w_nil (xn_then (w_seq (w_reg ?_)))
     refine wl_m (.const (.int .i64 (0))) (.int .i64 (0)) ?_
     refine w_nil (xn_then (w_ret ?_))
     exact w_ret1 _ (.int .i64 (0)) rfl rfl ⟨by unfold tbE; rw [hf0, hf1, hf2, hf3]; rfl, MK, fun _ => hC9⟩
 | false =>
  refine wl_call 58 [(.tmp 9)] _ [.string x.nm] (.bool false) rfl rfl (fun _ _ => by kernel_rfl) (cB hf0 (may_n x.nm _)) rfl ?_
  intro w2 hq
  replace Q1 := Q1.mo hq
  replace M := M.trans hq
  clear hq
  refine wl_un (fun v => Op.unary .not v) (.tmp 10) (.bool false) (.bool true) (fun _ => rfl) rfl (by kernel_rfl) rfl ?_
  refine wl_m (.tmp 11) (.bool true) ?_
  refine w_nil (xn_then (w_condT rfl (w_seq (w_reg ?_))))
  refine wl_m (.const (.int .i64 (90))) (.int .i64 (90)) ?_
  refine w_nil (xn_then (w_ret (xr_blk (xr_then ?_))))
  exact w_ret1 _ (.int .i64 (90)) rfl rfl ⟨by unfold tbE; rw [hf0]; rfl, Mk.of _ M, fun h => absurd ((show (90 : Int) = tbE A.T x from by unfold tbE; rw [hf0]; rfl).trans h) (by decide)⟩
theorem room_n (n : Nat) (x : S5) (w : World) : Calls Tryd.prog 77 #[.int .i64 ((n : Nat) : Int), .agg (x.cells).toArray] w fun e w' => e = .returned (.bool (rmE n x)) ∧ Mo w w' := by
 refine w_enter 18 Tryd.func77 Tryd.ntmps77 rfl rfl ?_
 have M : Mo w w := Mo.refl _
 refine w_seq (w_reg ?_)
 refine wl_box 65 (.tmp 1) _ (((x.cells).toArray)) rfl rfl (fun _ => by kernel_rfl) rfl ?_
 intro k1 w1 hk hz hq Q1
 have N_k1 : w.heap.size ≤ k1 := by have := M.size; omega
 replace M := M.trans hq
 clear hk hz hq
 refine wl_m (.const (.bool false)) (.bool false) ?_
 refine w_nil (xn_then (w_seq (w_seq (w_reg ?_))))
 refine wl_m (.tmp 0) (.int .i64 ((n : Nat) : Int)) ?_
 cases hf0 : decide (((n : Nat) : Int) = 0) with
 | true =>
  have hf0p := of_decide_eq_true hf0
  refine wl_b .eql 3 (.tmp 5) (.const (.int .i64 (0))) (.int .i64 ((n : Nat) : Int)) (.int .i64 (0)) (.bool true) (eq3 hf0 _ _ _) ?_
  refine w_nil (xn_then (w_condT rfl (w_seq (w_reg ?_))))
  refine wl_f 65 3 (.tmp 3) (pt k1 0) (pt k1 3) ?_
  refine wl_l 3 (.tmp 7) (pt k1 3) (.int .i64 (x.mx)) (run_one Q1 3 3 rfl Tryd.underlying3 rfl) ?_
  cases hf1 : decide (x.mx = 0) with
  | true =>
   have hf1p := of_decide_eq_true hf1
   refine wl_b .eql 3 (.tmp 8) (.const (.int .i64 (0))) (.int .i64 (x.mx)) (.int .i64 (0)) (.bool true) (eq3 hf1 _ _ _) ?_
   refine wl_m (.tmp 9) (.bool true) ?_
   refine w_nil (xn_then (w_ret (xr_then ?_)))
   exact w_ret1 _ (.bool true) rfl rfl ⟨by unfold rmE; rw [if_pos (show n = 0 by omega), hf1]; first | done | rfl, M⟩
  | false =>
   have hf1p := of_decide_eq_false hf1
   refine wl_b .eql 3 (.tmp 8) (.const (.int .i64 (0))) (.int .i64 (x.mx)) (.int .i64 (0)) (.bool false) (eq3 hf1 _ _ _) ?_
   refine wl_m (.tmp 9) (.bool false) ?_
   refine w_nil (xn_then (w_ret (xr_then ?_)))
   exact w_ret1 _ (.bool false) rfl rfl ⟨by unfold rmE; rw [if_pos (show n = 0 by omega), hf1]; first | done | rfl, M⟩
 | false =>
  have hf0p := of_decide_eq_false hf0
  refine wl_b .eql 3 (.tmp 5) (.const (.int .i64 (0))) (.int .i64 ((n : Nat) : Int)) (.int .i64 (0)) (.bool false) (eq3 hf0 _ _ _) ?_
  refine w_nil (xn_then (w_condF rfl (w_skip (xn_then (w_seq (w_reg ?_))))))
  refine wl_f 65 3 (.tmp 3) (pt k1 0) (pt k1 3) ?_
  refine wl_l 3 (.tmp 10) (pt k1 3) (.int .i64 (x.mx)) (run_one Q1 3 3 rfl Tryd.underlying3 rfl) ?_
  cases hf1 : decide (1 ≤ x.mx) with
  | true =>
   have hf1p := of_decide_eq_true hf1
   refine wl_b .geq 3 (.tmp 11) (.const (.int .i64 (1))) (.int .i64 (x.mx)) (.int .i64 (1)) (.bool true) (ge3 hf1 _ _ _) ?_
   refine wl_m (.tmp 12) (.bool true) ?_
   refine wl_f 65 3 (.tmp 3) (pt k1 0) (pt k1 3) ?_
   refine wl_l 3 (.tmp 14) (pt k1 3) (.int .i64 (x.mx)) (run_one Q1 3 3 rfl Tryd.underlying3 rfl) ?_
   cases hf2 : decide (x.mx ≤ 1024) with
   | true =>
    have hf2p := of_decide_eq_true hf2
    refine wl_b .leq 3 (.tmp 15) (.const (.int .i64 (1024))) (.int .i64 (x.mx)) (.int .i64 (1024)) (.bool true) (le3 hf2 _ _ _) ?_
    refine wl_pick (.tmp 13) (.tmp 16) (.const (.bool false)) true (.bool true) (fun _ => rfl) rfl rfl rfl ?_
    refine wl_m (.tmp 17) (.bool true) ?_
    refine w_nil (xn_then (w_ret ?_))
    exact w_ret1 _ (.bool true) rfl rfl ⟨by unfold rmE; rw [if_neg (show ¬ n = 0 by omega), hf1, hf2]; first | done | rfl, M⟩
   | false =>
    have hf2p := of_decide_eq_false hf2
    refine wl_b .leq 3 (.tmp 15) (.const (.int .i64 (1024))) (.int .i64 (x.mx)) (.int .i64 (1024)) (.bool false) (le3 hf2 _ _ _) ?_
    refine wl_pick (.tmp 13) (.tmp 16) (.const (.bool false)) true (.bool false) (fun _ => rfl) rfl rfl rfl ?_
    refine wl_m (.tmp 17) (.bool false) ?_
    refine w_nil (xn_then (w_ret ?_))
    exact w_ret1 _ (.bool false) rfl rfl ⟨by unfold rmE; rw [if_neg (show ¬ n = 0 by omega), hf1, hf2]; first | done | rfl, M⟩
  | false =>
   have hf1p := of_decide_eq_false hf1
   refine wl_b .geq 3 (.tmp 11) (.const (.int .i64 (1))) (.int .i64 (x.mx)) (.int .i64 (1)) (.bool false) (ge3 hf1 _ _ _) ?_
   refine wl_m (.tmp 12) (.bool false) ?_
   refine wl_skip rfl (wl_skip rfl (wl_skip rfl ?_))
   refine wl_pick (.tmp 13) (.tmp 16) (.const (.bool false)) false (.bool false) (fun _ => rfl) rfl rfl rfl ?_
   refine wl_m (.tmp 17) (.bool false) ?_
   refine w_nil (xn_then (w_ret ?_))
   exact w_ret1 _ (.bool false) rfl rfl ⟨by unfold rmE; rw [if_neg (show ¬ n = 0 by omega), hf1]; first | done | rfl, M⟩
theorem namesec_n {w : World} {z : Zc} {A : Al} (hC : CK w z A) (n : Nat) (x : S5) (hx : z.L[n]? = some x) (hT : ∀ i, (A.K i).length < 1000000) : Calls Tryd.prog 76 #[pt z.cb 0, .int .i64 ((n : Nat) : Int), .agg (x.cells).toArray] w fun e w' => e = .returned (.int .i64 (nsE z.L A n x)) ∧ Mk z.D w w' ∧ (nsE z.L A n x = 0 → (n = 0 → CK w' z A) ∧ (0 < n → CK w' z ⟨A.T, A.I, upF A.K x.pr.toNat ((x.nm, ((n : Nat) : Int)) :: A.K x.pr.toNat)⟩)) := by
 refine w_enter 48 Tryd.func76 Tryd.ntmps76 rfl rfl ?_
 have M : Mo w w := Mo.refl _
 refine w_seq (w_reg ?_)
 refine wl_box 65 (.tmp 2) _ (((x.cells).toArray)) rfl rfl (fun _ => by kernel_rfl) rfl ?_
 intro k1 w1 hk hz hq Q1
 have N_k1 : w.heap.size ≤ k1 := by have := M.size; omega
 replace M := M.trans hq
 clear hk hz hq
 refine wl_m (.const (.int .i64 (0))) (.int .i64 (0)) ?_
 refine w_nil (xn_then (w_seq (w_seq (w_reg ?_))))
 refine wl_m (.tmp 1) (.int .i64 ((n : Nat) : Int)) ?_
 cases hf0 : decide (((n : Nat) : Int) = 0) with
 | true =>
  have hf0p := of_decide_eq_true hf0
  refine wl_b .eql 3 (.tmp 7) (.const (.int .i64 (0))) (.int .i64 ((n : Nat) : Int)) (.int .i64 (0)) (.bool true) (eq3 hf0 _ _ _) ?_
  refine w_nil (xn_then (w_condT rfl (w_seq (w_seq (w_reg ?_)))))
  refine wl_f 65 2 (.tmp 5) (pt k1 0) (pt k1 2) ?_
  refine wl_l 9 (.tmp 9) (pt k1 2) (.string x.nm) (run_one Q1 9 2 rfl Tryd.underlying9 rfl) ?_
  cases hf1 : decide (x.nm = ⟨#[]⟩) with
  | true =>
   have hf1p := of_decide_eq_true hf1
   refine wl_b .neq 9 (.tmp 10) (.const (.string ⟨#[]⟩)) (.string x.nm) (.string ⟨#[]⟩) (.bool false) (sn9 hf1 _ _ _) ?_
   refine w_nil (xn_then (w_condF rfl (w_skip (xn_then (w_seq (w_reg ?_))))))
   refine wl_m (.const (.int .i64 (0))) (.int .i64 (0)) ?_
   refine w_nil (xn_then (w_ret (xr_then ?_)))
   exact w_ret1 _ (.int .i64 (0)) rfl rfl ⟨by unfold nsE; rw [if_pos (show n = 0 by omega), if_pos hf1p]; first | done | rfl, Mk.of _ M, fun _ => ⟨fun _ => hC.mo M, fun h => absurd h (by omega)⟩⟩
  | false =>
   have hf1p := of_decide_eq_false hf1
   refine wl_b .neq 9 (.tmp 10) (.const (.string ⟨#[]⟩)) (.string x.nm) (.string ⟨#[]⟩) (.bool true) (sn9 hf1 _ _ _) ?_
   refine w_nil (xn_then (w_condT rfl (w_seq (w_reg ?_))))
   refine wl_m (.const (.int .i64 (90))) (.int .i64 (90)) ?_
   refine w_nil (xn_then (w_ret (xr_then (xr_then ?_))))
   exact w_ret1 _ (.int .i64 (90)) rfl rfl ⟨by unfold nsE; rw [if_pos (show n = 0 by omega), if_neg hf1p]; first | done | rfl, Mk.of _ M, fun h => absurd ((show (90 : Int) = nsE z.L A n x from by unfold nsE; rw [if_pos (show n = 0 by omega), if_neg hf1p]; first | done | rfl).trans h) (by decide)⟩
 | false =>
  have hf0p := of_decide_eq_false hf0
  refine wl_b .eql 3 (.tmp 7) (.const (.int .i64 (0))) (.int .i64 ((n : Nat) : Int)) (.int .i64 (0)) (.bool false) (eq3 hf0 _ _ _) ?_
  refine w_nil (xn_then (w_condF rfl (w_skip (xn_then (w_seq (w_block (w_seq (w_reg ?_))))))))
  refine wl_f 65 2 (.tmp 5) (pt k1 0) (pt k1 2) ?_
  refine wl_l 9 (.tmp 13) (pt k1 2) (.string x.nm) (run_one Q1 9 2 rfl Tryd.underlying9 rfl) ?_
  cases hf1 : may x.nm with
  | true =>
   refine wl_call 58 [(.tmp 14)] _ [.string x.nm] (.bool true) rfl rfl (fun _ _ => by kernel_rfl) (cB hf1 (may_n x.nm _)) rfl ?_
   intro w2 hq
   replace Q1 := Q1.mo hq
   replace M := M.trans hq
   clear hq
   refine wl_un (fun v => Op.unary .not v) (.tmp 15) (.bool true) (.bool false) (fun _ => rfl) rfl (by kernel_rfl) rfl ?_
   refine wl_m (.tmp 16) (.bool false) ?_
   refine w_nil (xn_then (w_condF rfl (w_seq ?_)))
   obtain ⟨hp1, hp2, hp3⟩ := hC.wf n x hx
   have hn := lt_of_get hx
   replace hp3 := hp3 (by omega)
   have hpn : x.pr = ((x.pr.toNat : Nat) : Int) := by omega
   have hpl : x.pr.toNat < z.L.length := by omega
   have hpk : x.pr.toNat < z.KI.length := by rw [hC.lk]; exact hpl
   obtain ⟨kb, hkb⟩ := get_of_lt hpk
   have hKo := hC.ok _ kb hkb
   obtain ⟨b1, o1, hp1, hR1⟩ := D.SL.rw hC.ki hkb
   cases hf2 : (lk (A.K x.pr.toNat) x.nm).isSome with
   | true =>
    refine w_any 17 [.inl (pt z.cb 0), .inl (pt z.cb 0), .inl (pt z.cb 10), .inl (.slice z.kp z.KI.length z.kc), .inl (pt k1 0), .inl (.int .i64 (x.pr)), .inl (pt b1 (o1 + x.pr.toNat * 1)), .inl (.map (some kb)), .inl (pt k1 2), .inl (.string x.nm), .inl (.bool true), .inl (.bool true), .inl undef, .inl undef, .inl undef, .inl undef, .inl undef] [] (by kernel_rfl) (by kernel_rfl) (by kernel_rfl) (by kernel_rfl) rfl (by kernel_rfl) (by kernel_rfl) late_nil ?_ ?_ ?_
    ·exact Ds.none rfl
    ·refine ea_cons ?_ (ea_cons ?_ (ea_cons ?_ (ea_cons ?_ (ea_cons ?_ (ea_cons ?_ (ea_cons ?_ (ea_cons ?_ (ea_cons ?_ (ea_cons ?_ (ea_cons ?_ (ea_cons ?_ (ea_cons ?_ (ea_cons ?_ (ea_cons ?_ (ea_cons ?_ (ea_cons ?_ (ea_nil)))))))))))))))))
     ·exact og_eq _ rfl (fun f wf hq hd K hK => go_run rfl (wo_mv (.tmp 0) (pt z.cb 0) (fun _ => rfl) rfl (hK _ (Mo.refl _))))
     ·exact og_eq _ rfl (fun f wf hq hd K hK => go_run rfl (wo_nc (.tmp 18) z.cb 0 rfl (hd 0 rfl) (hK _ (Mo.refl _))))
     ·exact og_eq _ rfl (fun f wf hq hd K hK => go_run rfl (wo_un (fun v => Instr.fieldAt 111 v 4) (.tmp 19) (pt z.cb 0) (pt z.cb 10) (fun _ => rfl) (hd 1 rfl) (by kernel_rfl) (hK _ (Mo.refl _))))
     ·exact og_eq _ rfl (fun f wf hq hd K hK => go_run rfl (wo_load 109 (.tmp 20) (pt z.cb 10) (.slice z.kp z.KI.length z.kc) rfl (hd 2 rfl) (D.run_oneR (hC.rw.mo (M.trans hq)).at' 109 10 rfl Tryd.underlying109 rfl) (hK _ (Mo.refl _))))
     ·exact og_eq _ rfl (fun f wf hq hd K hK => go_run rfl (wo_un (fun v => Instr.fieldAt 65 v 0) (.tmp 5) (pt k1 0) (pt k1 0) (fun _ => rfl) rfl (by kernel_rfl) (hK _ (Mo.refl _))))
     ·exact og_eq _ rfl (fun f wf hq hd K hK => have Q1 := Q1.mo hq; go_run rfl (wo_load 3 (.tmp 22) (pt k1 0) (.int .i64 (x.pr)) rfl (hd 4 rfl) (run_one Q1 3 0 rfl Tryd.underlying3 rfl) (hK _ (Mo.refl _))))
     ·exact og_eq _ rfl (fun f wf hq hd K hK => go_run rfl (wo_bin (fun x y => Instr.indexAt 109 x y) (.tmp 21) (.tmp 23) (.slice z.kp z.KI.length z.kc) (.int .i64 (x.pr)) (pt b1 (o1 + x.pr.toNat * 1)) (fun _ => rfl) (hd 3 rfl) (hd 5 rfl) (by rw [hpn]; exact ix109 (i := x.pr.toNat) hp1 hpk _) (hK _ (Mo.refl _))))
     ·exact og_eq _ rfl (fun f wf hq hd K hK => go_run rfl (wo_load 108 (.tmp 24) (pt b1 (o1 + x.pr.toNat * 1)) (.map (some kb)) rfl (hd 6 rfl) (D.run_oneR (hR1.mo (M.trans hq)).at' 108 0 rfl Tryd.underlying108 rfl) (hK _ (Mo.refl _))))
     ·exact og_eq _ rfl (fun f wf hq hd K hK => go_run rfl (wo_un (fun v => Instr.fieldAt 65 v 2) (.tmp 5) (pt k1 0) (pt k1 2) (fun _ => rfl) rfl (by kernel_rfl) (hK _ (Mo.refl _))))
     ·exact og_eq _ rfl (fun f wf hq hd K hK => have Q1 := Q1.mo hq; go_run rfl (wo_load 9 (.tmp 26) (pt k1 2) (.string x.nm) rfl (hd 8 rfl) (run_one Q1 9 2 rfl Tryd.underlying9 rfl) (hK _ (Mo.refl _))))
     ·exact og_eq _ rfl (fun f wf hq hd K hK => go_run rfl (wo_call 75 [(.tmp 25), (.tmp 27)] _ [.map (some kb), .string x.nm] (.bool true) rfl (li2 (hd 7 rfl) (hd 9 rfl)) (fun _ _ => by kernel_rfl) (cB hf2 (has_n (hKo.mo (M.trans hq)) x.nm (Nat.le_trans (may_sz hf1) (by decide)))) hK))
     ·exact og_eq _ rfl (fun f wf hq hd K hK => go_run rfl (wo_mv (.tmp 28) (.bool true) (fun _ => rfl) (hd 10 rfl) (hK _ (Mo.refl _))))
     ·exact og_eq _ rfl (fun f wf hq hd K hK => go_pass (wnt_g rfl rfl rfl (hd 11 rfl) rfl) (hK _ (Mo.refl _)))
     ·exact og_eq _ rfl (fun f wf hq hd K hK => go_pass (wnt_g rfl rfl rfl (hd 11 rfl) rfl) (hK _ (Mo.refl _)))
     ·exact og_eq _ rfl (fun f wf hq hd K hK => go_pass (wnt_g rfl rfl rfl (hd 11 rfl) rfl) (hK _ (Mo.refl _)))
     ·exact og_eq _ rfl (fun f wf hq hd K hK => go_pass (wnt_g rfl rfl rfl (hd 11 rfl) rfl) (hK _ (Mo.refl _)))
     ·exact og_eq _ rfl (fun f wf hq hd K hK => go_pass (wnt_g rfl rfl rfl (hd 11 rfl) rfl) (hK _ (Mo.refl _)))
    intro kf3 w3 hq hR hne
    replace Q1 := Q1.mo hq
    replace M := M.trans hq
    clear hq hR hne
    refine wl_skip rfl ?_
    refine wl_pick (.tmp 29) (.const (.bool true)) (.tmp 35) true (.bool true) (fun _ => rfl) rfl rfl rfl ?_
    refine wl_m (.tmp 36) (.bool true) ?_
    refine w_nil (xn_then (w_condT rfl (w_seq (w_reg ?_))))
    refine wl_m (.const (.int .i64 (5))) (.int .i64 (5)) ?_
    refine w_nil (xn_then (w_ret (xr_blk (xr_then ?_))))
    exact w_ret1 _ (.int .i64 (5)) rfl rfl ⟨by unfold nsE; rw [if_neg (show ¬ n = 0 by omega), hf1, hf2]; first | done | rfl, Mk.of _ M, fun h => absurd ((show (5 : Int) = nsE z.L A n x from by unfold nsE; rw [if_neg (show ¬ n = 0 by omega), hf1, hf2]; first | done | rfl).trans h) (by decide)⟩
   | false =>
    cases hf3 : tkn z.L A.I x.pr.toNat x.nm with
    | true =>
     refine w_any 17 [.inl (pt z.cb 0), .inl (pt z.cb 0), .inl (pt z.cb 10), .inl (.slice z.kp z.KI.length z.kc), .inl (pt k1 0), .inl (.int .i64 (x.pr)), .inl (pt b1 (o1 + x.pr.toNat * 1)), .inl (.map (some kb)), .inl (pt k1 2), .inl (.string x.nm), .inl (.bool false), .inl (.bool false), .inl (pt z.cb 0), .inl (pt k1 0), .inl (.int .i64 (x.pr)), .inl (pt k1 2), .inl (.string x.nm)] [] (by kernel_rfl) (by kernel_rfl) (by kernel_rfl) (by kernel_rfl) rfl (by kernel_rfl) (by kernel_rfl) late_nil ?_ ?_ ?_
     ·exact Ds.none rfl
     ·refine ea_cons ?_ (ea_cons ?_ (ea_cons ?_ (ea_cons ?_ (ea_cons ?_ (ea_cons ?_ (ea_cons ?_ (ea_cons ?_ (ea_cons ?_ (ea_cons ?_ (ea_cons ?_ (ea_cons ?_ (ea_cons ?_ (ea_cons ?_ (ea_cons ?_ (ea_cons ?_ (ea_cons ?_ (ea_nil)))))))))))))))))
      ·exact og_eq _ rfl (fun f wf hq hd K hK => go_run rfl (wo_mv (.tmp 0) (pt z.cb 0) (fun _ => rfl) rfl (hK _ (Mo.refl _))))
      ·exact og_eq _ rfl (fun f wf hq hd K hK => go_run rfl (wo_nc (.tmp 18) z.cb 0 rfl (hd 0 rfl) (hK _ (Mo.refl _))))
      ·exact og_eq _ rfl (fun f wf hq hd K hK => go_run rfl (wo_un (fun v => Instr.fieldAt 111 v 4) (.tmp 19) (pt z.cb 0) (pt z.cb 10) (fun _ => rfl) (hd 1 rfl) (by kernel_rfl) (hK _ (Mo.refl _))))
      ·exact og_eq _ rfl (fun f wf hq hd K hK => go_run rfl (wo_load 109 (.tmp 20) (pt z.cb 10) (.slice z.kp z.KI.length z.kc) rfl (hd 2 rfl) (D.run_oneR (hC.rw.mo (M.trans hq)).at' 109 10 rfl Tryd.underlying109 rfl) (hK _ (Mo.refl _))))
      ·exact og_eq _ rfl (fun f wf hq hd K hK => go_run rfl (wo_un (fun v => Instr.fieldAt 65 v 0) (.tmp 5) (pt k1 0) (pt k1 0) (fun _ => rfl) rfl (by kernel_rfl) (hK _ (Mo.refl _))))
      ·exact og_eq _ rfl (fun f wf hq hd K hK => have Q1 := Q1.mo hq; go_run rfl (wo_load 3 (.tmp 22) (pt k1 0) (.int .i64 (x.pr)) rfl (hd 4 rfl) (run_one Q1 3 0 rfl Tryd.underlying3 rfl) (hK _ (Mo.refl _))))
      ·exact og_eq _ rfl (fun f wf hq hd K hK => go_run rfl (wo_bin (fun x y => Instr.indexAt 109 x y) (.tmp 21) (.tmp 23) (.slice z.kp z.KI.length z.kc) (.int .i64 (x.pr)) (pt b1 (o1 + x.pr.toNat * 1)) (fun _ => rfl) (hd 3 rfl) (hd 5 rfl) (by rw [hpn]; exact ix109 (i := x.pr.toNat) hp1 hpk _) (hK _ (Mo.refl _))))
      ·exact og_eq _ rfl (fun f wf hq hd K hK => go_run rfl (wo_load 108 (.tmp 24) (pt b1 (o1 + x.pr.toNat * 1)) (.map (some kb)) rfl (hd 6 rfl) (D.run_oneR (hR1.mo (M.trans hq)).at' 108 0 rfl Tryd.underlying108 rfl) (hK _ (Mo.refl _))))
      ·exact og_eq _ rfl (fun f wf hq hd K hK => go_run rfl (wo_un (fun v => Instr.fieldAt 65 v 2) (.tmp 5) (pt k1 0) (pt k1 2) (fun _ => rfl) rfl (by kernel_rfl) (hK _ (Mo.refl _))))
      ·exact og_eq _ rfl (fun f wf hq hd K hK => have Q1 := Q1.mo hq; go_run rfl (wo_load 9 (.tmp 26) (pt k1 2) (.string x.nm) rfl (hd 8 rfl) (run_one Q1 9 2 rfl Tryd.underlying9 rfl) (hK _ (Mo.refl _))))
      ·exact og_eq _ rfl (fun f wf hq hd K hK => go_run rfl (wo_call 75 [(.tmp 25), (.tmp 27)] _ [.map (some kb), .string x.nm] (.bool false) rfl (li2 (hd 7 rfl) (hd 9 rfl)) (fun _ _ => by kernel_rfl) (cB hf2 (has_n (hKo.mo (M.trans hq)) x.nm (Nat.le_trans (may_sz hf1) (by decide)))) hK))
      ·exact og_eq _ rfl (fun f wf hq hd K hK => go_run rfl (wo_mv (.tmp 28) (.bool false) (fun _ => rfl) (hd 10 rfl) (hK _ (Mo.refl _))))
      ·exact og_eq _ rfl (fun f wf hq hd K hK => go_run (wnt_g rfl rfl rfl (hd 11 rfl) rfl) (wo_mv (.tmp 0) (pt z.cb 0) (fun _ => rfl) rfl (hK _ (Mo.refl _))))
      ·exact og_eq _ rfl (fun f wf hq hd K hK => go_run (wnt_g rfl rfl rfl (hd 11 rfl) rfl) (wo_un (fun v => Instr.fieldAt 65 v 0) (.tmp 5) (pt k1 0) (pt k1 0) (fun _ => rfl) rfl (by kernel_rfl) (hK _ (Mo.refl _))))
      ·exact og_eq _ rfl (fun f wf hq hd K hK => have Q1 := Q1.mo hq; go_run (wnt_g rfl rfl rfl (hd 11 rfl) rfl) (wo_load 3 (.tmp 31) (pt k1 0) (.int .i64 (x.pr)) rfl (hd 13 rfl) (run_one Q1 3 0 rfl Tryd.underlying3 rfl) (hK _ (Mo.refl _))))
      ·exact og_eq _ rfl (fun f wf hq hd K hK => go_run (wnt_g rfl rfl rfl (hd 11 rfl) rfl) (wo_un (fun v => Instr.fieldAt 65 v 2) (.tmp 5) (pt k1 0) (pt k1 2) (fun _ => rfl) rfl (by kernel_rfl) (hK _ (Mo.refl _))))
      ·exact og_eq _ rfl (fun f wf hq hd K hK => have Q1 := Q1.mo hq; go_run (wnt_g rfl rfl rfl (hd 11 rfl) rfl) (wo_load 9 (.tmp 33) (pt k1 2) (.string x.nm) rfl (hd 15 rfl) (run_one Q1 9 2 rfl Tryd.underlying9 rfl) (hK _ (Mo.refl _))))
     intro kf3 w3 hq hR hne
     replace Q1 := Q1.mo hq
     replace M := M.trans hq
     clear hq hR hne
     refine wl_call 78 [(.tmp 30), (.tmp 32), (.tmp 34)] _ [pt z.cb 0, .int .i64 (x.pr), .string x.nm] (.bool true) rfl rfl (fun _ _ => by kernel_rfl) (by rw [hpn]; exact cB hf3 (taken_n (hC.mo M) _ hpl x.nm (Nat.le_trans (may_sz hf1) (by decide)))) rfl ?_
     intro w4 hq
     replace Q1 := Q1.mo hq
     replace M := M.trans hq
     clear hq
     refine wl_pick (.tmp 29) (.const (.bool true)) (.tmp 35) false (.bool true) (fun _ => rfl) rfl rfl rfl ?_
     refine wl_m (.tmp 36) (.bool true) ?_
     refine w_nil (xn_then (w_condT rfl (w_seq (w_reg ?_))))
     refine wl_m (.const (.int .i64 (5))) (.int .i64 (5)) ?_
     refine w_nil (xn_then (w_ret (xr_blk (xr_then ?_))))
     exact w_ret1 _ (.int .i64 (5)) rfl rfl ⟨by unfold nsE; rw [if_neg (show ¬ n = 0 by omega), hf1, hf2, hf3]; first | done | rfl, Mk.of _ M, fun h => absurd ((show (5 : Int) = nsE z.L A n x from by unfold nsE; rw [if_neg (show ¬ n = 0 by omega), hf1, hf2, hf3]; first | done | rfl).trans h) (by decide)⟩
    | false =>
     refine w_any 17 [.inl (pt z.cb 0), .inl (pt z.cb 0), .inl (pt z.cb 10), .inl (.slice z.kp z.KI.length z.kc), .inl (pt k1 0), .inl (.int .i64 (x.pr)), .inl (pt b1 (o1 + x.pr.toNat * 1)), .inl (.map (some kb)), .inl (pt k1 2), .inl (.string x.nm), .inl (.bool false), .inl (.bool false), .inl (pt z.cb 0), .inl (pt k1 0), .inl (.int .i64 (x.pr)), .inl (pt k1 2), .inl (.string x.nm)] [] (by kernel_rfl) (by kernel_rfl) (by kernel_rfl) (by kernel_rfl) rfl (by kernel_rfl) (by kernel_rfl) late_nil ?_ ?_ ?_
     ·exact Ds.none rfl
     ·refine ea_cons ?_ (ea_cons ?_ (ea_cons ?_ (ea_cons ?_ (ea_cons ?_ (ea_cons ?_ (ea_cons ?_ (ea_cons ?_ (ea_cons ?_ (ea_cons ?_ (ea_cons ?_ (ea_cons ?_ (ea_cons ?_ (ea_cons ?_ (ea_cons ?_ (ea_cons ?_ (ea_cons ?_ (ea_nil)))))))))))))))))
      ·exact og_eq _ rfl (fun f wf hq hd K hK => go_run rfl (wo_mv (.tmp 0) (pt z.cb 0) (fun _ => rfl) rfl (hK _ (Mo.refl _))))
      ·exact og_eq _ rfl (fun f wf hq hd K hK => go_run rfl (wo_nc (.tmp 18) z.cb 0 rfl (hd 0 rfl) (hK _ (Mo.refl _))))
      ·exact og_eq _ rfl (fun f wf hq hd K hK => go_run rfl (wo_un (fun v => Instr.fieldAt 111 v 4) (.tmp 19) (pt z.cb 0) (pt z.cb 10) (fun _ => rfl) (hd 1 rfl) (by kernel_rfl) (hK _ (Mo.refl _))))
      ·exact og_eq _ rfl (fun f wf hq hd K hK => go_run rfl (wo_load 109 (.tmp 20) (pt z.cb 10) (.slice z.kp z.KI.length z.kc) rfl (hd 2 rfl) (D.run_oneR (hC.rw.mo (M.trans hq)).at' 109 10 rfl Tryd.underlying109 rfl) (hK _ (Mo.refl _))))
      ·exact og_eq _ rfl (fun f wf hq hd K hK => go_run rfl (wo_un (fun v => Instr.fieldAt 65 v 0) (.tmp 5) (pt k1 0) (pt k1 0) (fun _ => rfl) rfl (by kernel_rfl) (hK _ (Mo.refl _))))
      ·exact og_eq _ rfl (fun f wf hq hd K hK => have Q1 := Q1.mo hq; go_run rfl (wo_load 3 (.tmp 22) (pt k1 0) (.int .i64 (x.pr)) rfl (hd 4 rfl) (run_one Q1 3 0 rfl Tryd.underlying3 rfl) (hK _ (Mo.refl _))))
      ·exact og_eq _ rfl (fun f wf hq hd K hK => go_run rfl (wo_bin (fun x y => Instr.indexAt 109 x y) (.tmp 21) (.tmp 23) (.slice z.kp z.KI.length z.kc) (.int .i64 (x.pr)) (pt b1 (o1 + x.pr.toNat * 1)) (fun _ => rfl) (hd 3 rfl) (hd 5 rfl) (by rw [hpn]; exact ix109 (i := x.pr.toNat) hp1 hpk _) (hK _ (Mo.refl _))))
      ·exact og_eq _ rfl (fun f wf hq hd K hK => go_run rfl (wo_load 108 (.tmp 24) (pt b1 (o1 + x.pr.toNat * 1)) (.map (some kb)) rfl (hd 6 rfl) (D.run_oneR (hR1.mo (M.trans hq)).at' 108 0 rfl Tryd.underlying108 rfl) (hK _ (Mo.refl _))))
      ·exact og_eq _ rfl (fun f wf hq hd K hK => go_run rfl (wo_un (fun v => Instr.fieldAt 65 v 2) (.tmp 5) (pt k1 0) (pt k1 2) (fun _ => rfl) rfl (by kernel_rfl) (hK _ (Mo.refl _))))
      ·exact og_eq _ rfl (fun f wf hq hd K hK => have Q1 := Q1.mo hq; go_run rfl (wo_load 9 (.tmp 26) (pt k1 2) (.string x.nm) rfl (hd 8 rfl) (run_one Q1 9 2 rfl Tryd.underlying9 rfl) (hK _ (Mo.refl _))))
      ·exact og_eq _ rfl (fun f wf hq hd K hK => go_run rfl (wo_call 75 [(.tmp 25), (.tmp 27)] _ [.map (some kb), .string x.nm] (.bool false) rfl (li2 (hd 7 rfl) (hd 9 rfl)) (fun _ _ => by kernel_rfl) (cB hf2 (has_n (hKo.mo (M.trans hq)) x.nm (Nat.le_trans (may_sz hf1) (by decide)))) hK))
      ·exact og_eq _ rfl (fun f wf hq hd K hK => go_run rfl (wo_mv (.tmp 28) (.bool false) (fun _ => rfl) (hd 10 rfl) (hK _ (Mo.refl _))))
      ·exact og_eq _ rfl (fun f wf hq hd K hK => go_run (wnt_g rfl rfl rfl (hd 11 rfl) rfl) (wo_mv (.tmp 0) (pt z.cb 0) (fun _ => rfl) rfl (hK _ (Mo.refl _))))
      ·exact og_eq _ rfl (fun f wf hq hd K hK => go_run (wnt_g rfl rfl rfl (hd 11 rfl) rfl) (wo_un (fun v => Instr.fieldAt 65 v 0) (.tmp 5) (pt k1 0) (pt k1 0) (fun _ => rfl) rfl (by kernel_rfl) (hK _ (Mo.refl _))))
      ·exact og_eq _ rfl (fun f wf hq hd K hK => have Q1 := Q1.mo hq; go_run (wnt_g rfl rfl rfl (hd 11 rfl) rfl) (wo_load 3 (.tmp 31) (pt k1 0) (.int .i64 (x.pr)) rfl (hd 13 rfl) (run_one Q1 3 0 rfl Tryd.underlying3 rfl) (hK _ (Mo.refl _))))
      ·exact og_eq _ rfl (fun f wf hq hd K hK => go_run (wnt_g rfl rfl rfl (hd 11 rfl) rfl) (wo_un (fun v => Instr.fieldAt 65 v 2) (.tmp 5) (pt k1 0) (pt k1 2) (fun _ => rfl) rfl (by kernel_rfl) (hK _ (Mo.refl _))))
      ·exact og_eq _ rfl (fun f wf hq hd K hK => have Q1 := Q1.mo hq; go_run (wnt_g rfl rfl rfl (hd 11 rfl) rfl) (wo_load 9 (.tmp 33) (pt k1 2) (.string x.nm) rfl (hd 15 rfl) (run_one Q1 9 2 rfl Tryd.underlying9 rfl) (hK _ (Mo.refl _))))
     intro kf3 w3 hq hR hne
     replace Q1 := Q1.mo hq
     replace M := M.trans hq
     clear hq hR hne
     refine wl_call 78 [(.tmp 30), (.tmp 32), (.tmp 34)] _ [pt z.cb 0, .int .i64 (x.pr), .string x.nm] (.bool false) rfl rfl (fun _ _ => by kernel_rfl) (by rw [hpn]; exact cB hf3 (taken_n (hC.mo M) _ hpl x.nm (Nat.le_trans (may_sz hf1) (by decide)))) rfl ?_
     intro w4 hq
     replace Q1 := Q1.mo hq
     replace M := M.trans hq
     clear hq
     refine wl_pick (.tmp 29) (.const (.bool true)) (.tmp 35) false (.bool false) (fun _ => rfl) rfl rfl rfl ?_
     refine wl_m (.tmp 36) (.bool false) ?_
     refine w_nil (xn_then (w_condF rfl (w_skip (xn_blk (xn_then (w_seq ?_))))))
     refine w_any 11 [.inl (pt z.cb 0), .inl (pt z.cb 0), .inl (pt z.cb 10), .inl (.slice z.kp z.KI.length z.kc), .inl (pt k1 0), .inl (.int .i64 (x.pr)), .inl (pt b1 (o1 + x.pr.toNat * 1)), .inl (.map (some kb)), .inl (pt k1 2), .inl (.string x.nm), .inl (.int .i64 ((n : Nat) : Int))] [] (by kernel_rfl) (by kernel_rfl) (by kernel_rfl) (by kernel_rfl) rfl (by kernel_rfl) (by kernel_rfl) late_nil ?_ ?_ ?_
     ·exact Ds.none rfl
     ·refine ea_cons ?_ (ea_cons ?_ (ea_cons ?_ (ea_cons ?_ (ea_cons ?_ (ea_cons ?_ (ea_cons ?_ (ea_cons ?_ (ea_cons ?_ (ea_cons ?_ (ea_cons ?_ (ea_nil)))))))))))
      ·exact og_eq _ rfl (fun f wf hq hd K hK => go_run rfl (wo_mv (.tmp 0) (pt z.cb 0) (fun _ => rfl) rfl (hK _ (Mo.refl _))))
      ·exact og_eq _ rfl (fun f wf hq hd K hK => go_run rfl (wo_nc (.tmp 37) z.cb 0 rfl (hd 0 rfl) (hK _ (Mo.refl _))))
      ·exact og_eq _ rfl (fun f wf hq hd K hK => go_run rfl (wo_un (fun v => Instr.fieldAt 111 v 4) (.tmp 38) (pt z.cb 0) (pt z.cb 10) (fun _ => rfl) (hd 1 rfl) (by kernel_rfl) (hK _ (Mo.refl _))))
      ·exact og_eq _ rfl (fun f wf hq hd K hK => go_run rfl (wo_load 109 (.tmp 39) (pt z.cb 10) (.slice z.kp z.KI.length z.kc) rfl (hd 2 rfl) (D.run_oneR (hC.rw.mo (M.trans hq)).at' 109 10 rfl Tryd.underlying109 rfl) (hK _ (Mo.refl _))))
      ·exact og_eq _ rfl (fun f wf hq hd K hK => go_run rfl (wo_un (fun v => Instr.fieldAt 65 v 0) (.tmp 5) (pt k1 0) (pt k1 0) (fun _ => rfl) rfl (by kernel_rfl) (hK _ (Mo.refl _))))
      ·exact og_eq _ rfl (fun f wf hq hd K hK => have Q1 := Q1.mo hq; go_run rfl (wo_load 3 (.tmp 41) (pt k1 0) (.int .i64 (x.pr)) rfl (hd 4 rfl) (run_one Q1 3 0 rfl Tryd.underlying3 rfl) (hK _ (Mo.refl _))))
      ·exact og_eq _ rfl (fun f wf hq hd K hK => go_run rfl (wo_bin (fun x y => Instr.indexAt 109 x y) (.tmp 40) (.tmp 42) (.slice z.kp z.KI.length z.kc) (.int .i64 (x.pr)) (pt b1 (o1 + x.pr.toNat * 1)) (fun _ => rfl) (hd 3 rfl) (hd 5 rfl) (by rw [hpn]; exact ix109 (i := x.pr.toNat) hp1 hpk _) (hK _ (Mo.refl _))))
      ·exact og_eq _ rfl (fun f wf hq hd K hK => go_run rfl (wo_load 108 (.tmp 43) (pt b1 (o1 + x.pr.toNat * 1)) (.map (some kb)) rfl (hd 6 rfl) (D.run_oneR (hR1.mo (M.trans hq)).at' 108 0 rfl Tryd.underlying108 rfl) (hK _ (Mo.refl _))))
      ·exact og_eq _ rfl (fun f wf hq hd K hK => go_run rfl (wo_un (fun v => Instr.fieldAt 65 v 2) (.tmp 5) (pt k1 0) (pt k1 2) (fun _ => rfl) rfl (by kernel_rfl) (hK _ (Mo.refl _))))
      ·exact og_eq _ rfl (fun f wf hq hd K hK => have Q1 := Q1.mo hq; go_run rfl (wo_load 9 (.tmp 45) (pt k1 2) (.string x.nm) rfl (hd 8 rfl) (run_one Q1 9 2 rfl Tryd.underlying9 rfl) (hK _ (Mo.refl _))))
      ·exact og_eq _ rfl (fun f wf hq hd K hK => go_run rfl (wo_mv (.tmp 1) (.int .i64 ((n : Nat) : Int)) (fun _ => rfl) rfl (hK _ (Mo.refl _))))
     intro kf5 w5 hq hR hne
     replace Q1 := Q1.mo hq
     replace M := M.trans hq
     clear hq hR hne
     refine wl_mup (.tmp 44) (.tmp 46) (.tmp 47) kb x.nm (((n : Nat) : Int)) (hKo.mo M) (hT _) (Nat.le_trans (may_sz hf1) (by decide)) (isn hf2) rfl rfl rfl rfl rfl rfl ?_
     intro w6 hO9 hK9
     have hC9 := (hC.mo M).putK hkb (by omega) hO9 hK9
     have MK := (Mk.of z.D M).tr hK9 (fun j _ e => by rw [e]; exact (Zc.dk hkb))
     refine w_nil (xn_then (w_seq (w_reg ?_)))
     refine wl_m (.const (.int .i64 (0))) (.int .i64 (0)) ?_
     refine w_nil (xn_then (w_ret ?_))
     exact w_ret1 _ (.int .i64 (0)) rfl rfl ⟨by unfold nsE; rw [if_neg (show ¬ n = 0 by omega), hf1, hf2, hf3]; first | done | rfl, MK, fun _ => ⟨fun h => absurd h (by omega), fun _ => hC9⟩⟩
  | false =>
   refine wl_call 58 [(.tmp 14)] _ [.string x.nm] (.bool false) rfl rfl (fun _ _ => by kernel_rfl) (cB hf1 (may_n x.nm _)) rfl ?_
   intro w2 hq
   replace Q1 := Q1.mo hq
   replace M := M.trans hq
   clear hq
   refine wl_un (fun v => Op.unary .not v) (.tmp 15) (.bool false) (.bool true) (fun _ => rfl) rfl (by kernel_rfl) rfl ?_
   refine wl_m (.tmp 16) (.bool true) ?_
   refine w_nil (xn_then (w_condT rfl (w_seq (w_reg ?_))))
   refine wl_m (.const (.int .i64 (90))) (.int .i64 (90)) ?_
   refine w_nil (xn_then (w_ret (xr_blk (xr_then ?_))))
   exact w_ret1 _ (.int .i64 (90)) rfl rfl ⟨by unfold nsE; rw [if_neg (show ¬ n = 0 by omega), hf1]; first | done | rfl, Mk.of _ M, fun h => absurd ((show (90 : Int) = nsE z.L A n x from by unfold nsE; rw [if_neg (show ¬ n = 0 by omega), hf1]; first | done | rfl).trans h) (by decide)⟩
theorem CK.nocell {w w' : World} {z : Zc} {A : Al} (hC : CK w z A) {j : Nat} (hj : z.D j) (m : Mo w w') (o : Nat) : w'.cell? ⟨j, o, none⟩ = none := by
 have h := hC.mo m
 rcases List.mem_cons.1 hj with e | hk
 ·rw [e]; exact h.om.nocell o
 ·rcases List.mem_append.1 hk with hk | hk
  ·obtain ⟨i, hi⟩ := List.getElem?_of_mem hk; exact (h.oi i j hi).nocell o
  ·obtain ⟨i, hi⟩ := List.getElem?_of_mem hk; exact (h.ok i j hi).nocell o
theorem section_n {w : World} {z : Zc} {A : Al} (hC : CK w z A) (n : Nat) (x : S5) (hx : z.L[n]? = some x) (hT : ∀ i, (A.K i).length < 1000000) : Calls Tryd.prog 61 #[pt z.cb 0, .int .i64 ((n : Nat) : Int), .agg (x.cells).toArray] w fun e w' => e = .returned (.int .i64 (seE z.L A n x)) ∧ Mk z.D w w' ∧ (seE z.L A n x = 0 → (n = 0 → CK w' z A) ∧ (0 < n → CK w' z ⟨A.T, A.I, upF A.K x.pr.toNat ((x.nm, ((n : Nat) : Int)) :: A.K x.pr.toNat)⟩)) := by
 refine w_enter 27 Tryd.func61 Tryd.ntmps61 rfl rfl ?_
 have M : Mo w w := Mo.refl _
 refine w_seq (w_reg ?_)
 refine wl_box 65 (.tmp 2) _ (((x.cells).toArray)) rfl rfl (fun _ => by kernel_rfl) rfl ?_
 intro k1 w1 hk hz hq Q1
 have N_k1 : w.heap.size ≤ k1 := by have := M.size; omega
 replace M := M.trans hq
 clear hk hz hq
 refine wl_m (.const (.int .i64 (0))) (.int .i64 (0)) ?_
 refine w_nil (xn_then (w_seq (w_reg ?_)))
 refine wl_m (.tmp 0) (pt z.cb 0) ?_
 refine wl_m (.tmp 1) (.int .i64 ((n : Nat) : Int)) ?_
 refine wl_l 65 (.tmp 5) (pt k1 0) (.agg (x.cells).toArray) (run_row Q1 65 0 5 (x.cells) rfl Tryd.underlying65 rfl sz65) ?_
 refine wl_callx 76 [(.tmp 8), (.tmp 9), (.tmp 10)] _ [pt z.cb 0, .int .i64 ((n : Nat) : Int), .agg (x.cells).toArray] rfl rfl (fun _ _ => by kernel_rfl) (namesec_n (hC.mo M) n x hx hT) rfl ?_
 rintro e9 w2 ⟨rfl, hK9, hC9⟩
 refine ⟨_, rfl, ?_⟩
 have MK := (Mk.of z.D M).same hK9
 replace Q1 := Q1.kp (hK9.kp (fun j hj => hC.nocell hj M)) hK9.fz
 clear M
 have M : Mo w2 w2 := Mo.refl _
 refine wl_m (.tmp 11) (.int .i64 (nsE z.L A n x)) ?_
 refine w_nil (xn_then (w_seq (w_seq (w_reg ?_))))
 refine wl_m (.tmp 7) (.int .i64 (nsE z.L A n x)) ?_
 cases hf0 : decide (nsE z.L A n x = 0) with
 | true =>
  have hf0p := of_decide_eq_true hf0
  refine wl_b .eql 31 (.tmp 12) (.const (.int .i64 (0))) (.int .i64 (nsE z.L A n x)) (.int .i64 (0)) (.bool true) (eq34 hf0 _ _ _) ?_
  refine wl_m (.tmp 13) (.bool true) ?_
  refine wl_f 65 4 (.tmp 5) (pt k1 0) (pt k1 4) ?_
  refine wl_l 42 (.tmp 15) (pt k1 4) (.slice x.pi x.items.length x.ci) (run_one Q1 42 4 rfl Tryd.underlying42 rfl) ?_
  refine wl_val (.int .i64 ((x.items.length : Nat) : Int)) (len42 _ _ _ _ _ (by exact rfl) _ _ _ _ _ _) rfl ?_
  cases hf1 : decide (64 < x.items.length) with
  | true =>
   have hf1p := of_decide_eq_true hf1
   refine wl_b .gtr 3 (.tmp 17) (.const (.int .i64 (64))) (.int .i64 ((x.items.length : Nat) : Int)) (.int .i64 (64)) (.bool true) (gtN hf1 _ _ _) ?_
   refine wl_m (.tmp 18) (.bool true) ?_
   refine wl_skip rfl (wl_skip rfl (wl_skip rfl (wl_skip rfl ?_)))
   refine wl_pick (.tmp 19) (.const (.bool true)) (.tmp 23) true (.bool true) (fun _ => rfl) rfl rfl rfl ?_
   refine wl_pick (.tmp 14) (.tmp 24) (.const (.bool false)) true (.bool true) (fun _ => rfl) rfl rfl rfl ?_
   refine w_nil (xn_then (w_condT rfl (w_seq (w_reg ?_))))
   refine wl_m (.const (.int .i64 (92))) (.int .i64 (92)) ?_
   refine w_nil (xn_then (w_ret (xr_then ?_)))
   exact w_ret1 _ (.int .i64 (92)) rfl rfl ⟨by unfold seE; rw [if_pos hf0p, hf1]; first | done | rfl, MK.trans M, fun h => absurd ((show (92 : Int) = seE z.L A n x from by unfold seE; rw [if_pos hf0p, hf1]; first | done | rfl).trans h) (by decide)⟩
  | false =>
   have hf1p := of_decide_eq_false hf1
   refine wl_b .gtr 3 (.tmp 17) (.const (.int .i64 (64))) (.int .i64 ((x.items.length : Nat) : Int)) (.int .i64 (64)) (.bool false) (gtN hf1 _ _ _) ?_
   refine wl_m (.tmp 18) (.bool false) ?_
   refine wl_m (.tmp 1) (.int .i64 ((n : Nat) : Int)) ?_
   refine wl_l 65 (.tmp 5) (pt k1 0) (.agg (x.cells).toArray) (run_row Q1 65 0 5 (x.cells) rfl Tryd.underlying65 rfl sz65) ?_
   cases hf2 : rmE n x with
   | true =>
    refine wl_call 77 [(.tmp 20), (.tmp 21)] _ [.int .i64 ((n : Nat) : Int), .agg (x.cells).toArray] (.bool true) rfl rfl (fun _ _ => by kernel_rfl) (cB hf2 (room_n n x _)) rfl ?_
    intro w3 hq
    replace Q1 := Q1.mo hq
    replace M := M.trans hq
    clear hq
    refine wl_un (fun v => Op.unary .not v) (.tmp 22) (.bool true) (.bool false) (fun _ => rfl) rfl (by kernel_rfl) rfl ?_
    refine wl_pick (.tmp 19) (.const (.bool true)) (.tmp 23) false (.bool false) (fun _ => rfl) rfl rfl rfl ?_
    refine wl_pick (.tmp 14) (.tmp 24) (.const (.bool false)) true (.bool false) (fun _ => rfl) rfl rfl rfl ?_
    refine w_nil (xn_then (w_condF rfl (w_skip (xn_then (w_seq (w_reg ?_))))))
    refine wl_m (.tmp 7) (.int .i64 (nsE z.L A n x)) ?_
    refine wl_m (.tmp 26) (.int .i64 (nsE z.L A n x)) ?_
    refine w_nil (xn_then (w_ret ?_))
    exact w_ret1 _ (.int .i64 (nsE z.L A n x)) rfl rfl ⟨by unfold seE; rw [if_pos hf0p, hf1, hf2, hf0p]; rfl, MK.trans M, fun _ => ⟨fun h => ((hC9 hf0p).1 h).mo M, fun h => ((hC9 hf0p).2 h).mo M⟩⟩
   | false =>
    refine wl_call 77 [(.tmp 20), (.tmp 21)] _ [.int .i64 ((n : Nat) : Int), .agg (x.cells).toArray] (.bool false) rfl rfl (fun _ _ => by kernel_rfl) (cB hf2 (room_n n x _)) rfl ?_
    intro w3 hq
    replace Q1 := Q1.mo hq
    replace M := M.trans hq
    clear hq
    refine wl_un (fun v => Op.unary .not v) (.tmp 22) (.bool false) (.bool true) (fun _ => rfl) rfl (by kernel_rfl) rfl ?_
    refine wl_pick (.tmp 19) (.const (.bool true)) (.tmp 23) false (.bool true) (fun _ => rfl) rfl rfl rfl ?_
    refine wl_pick (.tmp 14) (.tmp 24) (.const (.bool false)) true (.bool true) (fun _ => rfl) rfl rfl rfl ?_
    refine w_nil (xn_then (w_condT rfl (w_seq (w_reg ?_))))
    refine wl_m (.const (.int .i64 (92))) (.int .i64 (92)) ?_
    refine w_nil (xn_then (w_ret (xr_then ?_)))
    exact w_ret1 _ (.int .i64 (92)) rfl rfl ⟨by unfold seE; rw [if_pos hf0p, hf1, hf2]; first | done | rfl, MK.trans M, fun h => absurd ((show (92 : Int) = seE z.L A n x from by unfold seE; rw [if_pos hf0p, hf1, hf2]; first | done | rfl).trans h) (by decide)⟩
 | false =>
  have hf0p := of_decide_eq_false hf0
  refine wl_b .eql 31 (.tmp 12) (.const (.int .i64 (0))) (.int .i64 (nsE z.L A n x)) (.int .i64 (0)) (.bool false) (eq34 hf0 _ _ _) ?_
  refine wl_m (.tmp 13) (.bool false) ?_
  refine wl_skip rfl (wl_skip rfl (wl_skip rfl (wl_skip rfl (wl_skip rfl (wl_skip rfl (wl_skip rfl (wl_skip rfl (wl_skip rfl (wl_skip rfl ?_)))))))))
  refine wl_pick (.tmp 14) (.tmp 24) (.const (.bool false)) false (.bool false) (fun _ => rfl) rfl rfl rfl ?_
  refine w_nil (xn_then (w_condF rfl (w_skip (xn_then (w_seq (w_reg ?_))))))
  refine wl_m (.tmp 7) (.int .i64 (nsE z.L A n x)) ?_
  refine wl_m (.tmp 26) (.int .i64 (nsE z.L A n x)) ?_
  refine w_nil (xn_then (w_ret ?_))
  exact w_ret1 _ (.int .i64 (nsE z.L A n x)) rfl rfl ⟨by unfold seE; rw [if_neg hf0p]; first | done | rfl, MK.trans M, fun h => absurd (by unfold seE at h; rw [if_neg hf0p] at h; exact h) hf0p⟩
theorem tkn_self {L : List S5} {I : Nat → List (ByteArray × Int)} {n : Nat} {nm : ByteArray} (h : tkn L I n nm = false) : lk (I n) nm = none := by
 unfold tkn at h
 rw [anc, List.any_cons] at h
 simp only [Bool.or_eq_false_iff] at h
 exact isn h.1.2
theorem item_n {w : World} {z : Zc} {A : Al} (hC : CK w z A) (n : Nat) (hn : n < z.L.length) (y : It) (hT : (A.I n).length < 1000000) : Calls Tryd.prog 62 #[pt z.cb 0, .int .i64 ((n : Nat) : Int), .agg (y.cells).toArray] w fun e w' => e = .returned (.int .i64 (itE z.L A.I n y)) ∧ Mk z.D w w' ∧ (itE z.L A.I n y = 0 → CK w' z ⟨A.T, upF A.I n ((y.nm, y.k) :: A.I n), A.K⟩) := by
 have hnm : n < z.MI.length := by rw [hC.lm]; exact hn
 obtain ⟨ib, hib⟩ := get_of_lt hnm
 have hIo := hC.oi n ib hib
 obtain ⟨b1, o1, hp1, hR1⟩ := D.SL.rw hC.mi hib
 refine w_enter 29 Tryd.func62 Tryd.ntmps62 rfl rfl ?_
 have M : Mo w w := Mo.refl _
 refine w_seq (w_reg ?_)
 refine wl_box 79 (.tmp 2) _ (((y.cells).toArray)) rfl rfl (fun _ => by kernel_rfl) rfl ?_
 intro k1 w1 hk hz hq Q1
 have N_k1 : w.heap.size ≤ k1 := by have := M.size; omega
 replace M := M.trans hq
 clear hk hz hq
 refine wl_m (.const (.int .i64 (0))) (.int .i64 (0)) ?_
 refine w_nil (xn_then (w_seq (w_block (w_seq (w_reg ?_)))))
 refine wl_f 79 0 (.tmp 5) (pt k1 0) (pt k1 0) ?_
 refine wl_l 9 (.tmp 8) (pt k1 0) (.string y.nm) (run_one Q1 9 0 rfl Tryd.underlying9 rfl) ?_
 cases hf0 : may y.nm with
 | true =>
  refine wl_call 58 [(.tmp 9)] _ [.string y.nm] (.bool true) rfl rfl (fun _ _ => by kernel_rfl) (cB hf0 (may_n y.nm _)) rfl ?_
  intro w2 hq
  replace Q1 := Q1.mo hq
  replace M := M.trans hq
  clear hq
  refine wl_un (fun v => Op.unary .not v) (.tmp 10) (.bool true) (.bool false) (fun _ => rfl) rfl (by kernel_rfl) rfl ?_
  refine wl_m (.tmp 11) (.bool false) ?_
  refine w_nil (xn_then (w_condF rfl (w_seq (w_reg ?_))))
  refine wl_m (.tmp 0) (pt z.cb 0) ?_
  refine wl_m (.tmp 1) (.int .i64 ((n : Nat) : Int)) ?_
  refine wl_f 79 0 (.tmp 5) (pt k1 0) (pt k1 0) ?_
  refine wl_l 9 (.tmp 15) (pt k1 0) (.string y.nm) (run_one Q1 9 0 rfl Tryd.underlying9 rfl) ?_
  cases hf1 : tkn z.L A.I n y.nm with
  | true =>
   refine wl_call 78 [(.tmp 13), (.tmp 14), (.tmp 16)] _ [pt z.cb 0, .int .i64 ((n : Nat) : Int), .string y.nm] (.bool true) rfl rfl (fun _ _ => by kernel_rfl) (cB hf1 (taken_n (hC.mo M) n hn y.nm (Nat.le_trans (may_sz hf0) (by decide)))) rfl ?_
   intro w3 hq
   replace Q1 := Q1.mo hq
   replace M := M.trans hq
   clear hq
   refine wl_m (.tmp 17) (.bool true) ?_
   refine w_nil (xn_then (w_condT rfl (w_seq (w_reg ?_))))
   refine wl_m (.const (.int .i64 (5))) (.int .i64 (5)) ?_
   refine w_nil (xn_then (w_ret (xr_blk (xr_then ?_))))
   exact w_ret1 _ (.int .i64 (5)) rfl rfl ⟨by unfold itE; rw [hf0, hf1]; first | done | rfl, Mk.of _ M, fun h => absurd ((show (5 : Int) = itE z.L A.I n y from by unfold itE; rw [hf0, hf1]; first | done | rfl).trans h) (by decide)⟩
  | false =>
   refine wl_call 78 [(.tmp 13), (.tmp 14), (.tmp 16)] _ [pt z.cb 0, .int .i64 ((n : Nat) : Int), .string y.nm] (.bool false) rfl rfl (fun _ _ => by kernel_rfl) (cB hf1 (taken_n (hC.mo M) n hn y.nm (Nat.le_trans (may_sz hf0) (by decide)))) rfl ?_
   intro w3 hq
   replace Q1 := Q1.mo hq
   replace M := M.trans hq
   clear hq
   refine wl_m (.tmp 17) (.bool false) ?_
   refine w_nil (xn_then (w_condF rfl (w_skip (xn_blk (xn_then (w_seq ?_))))))
   refine w_any 11 [.inl (pt z.cb 0), .inl (pt z.cb 0), .inl (pt z.cb 9), .inl (.slice z.ip z.MI.length z.ic), .inl (.int .i64 ((n : Nat) : Int)), .inl (pt b1 (o1 + n * 1)), .inl (.map (some ib)), .inl (pt k1 0), .inl (.string y.nm), .inl (pt k1 1), .inl (.int .i64 (y.k))] [] (by kernel_rfl) (by kernel_rfl) (by kernel_rfl) (by kernel_rfl) rfl (by kernel_rfl) (by kernel_rfl) late_nil ?_ ?_ ?_
   ·exact Ds.none rfl
   ·refine ea_cons ?_ (ea_cons ?_ (ea_cons ?_ (ea_cons ?_ (ea_cons ?_ (ea_cons ?_ (ea_cons ?_ (ea_cons ?_ (ea_cons ?_ (ea_cons ?_ (ea_cons ?_ (ea_nil)))))))))))
    ·exact og_eq _ rfl (fun f wf hq hd K hK => go_run rfl (wo_mv (.tmp 0) (pt z.cb 0) (fun _ => rfl) rfl (hK _ (Mo.refl _))))
    ·exact og_eq _ rfl (fun f wf hq hd K hK => go_run rfl (wo_nc (.tmp 18) z.cb 0 rfl (hd 0 rfl) (hK _ (Mo.refl _))))
    ·exact og_eq _ rfl (fun f wf hq hd K hK => go_run rfl (wo_un (fun v => Instr.fieldAt 111 v 3) (.tmp 19) (pt z.cb 0) (pt z.cb 9) (fun _ => rfl) (hd 1 rfl) (by kernel_rfl) (hK _ (Mo.refl _))))
    ·exact og_eq _ rfl (fun f wf hq hd K hK => go_run rfl (wo_load 109 (.tmp 20) (pt z.cb 9) (.slice z.ip z.MI.length z.ic) rfl (hd 2 rfl) (D.run_oneR (hC.rw.mo (M.trans hq)).at' 109 9 rfl Tryd.underlying109 rfl) (hK _ (Mo.refl _))))
    ·exact og_eq _ rfl (fun f wf hq hd K hK => go_run rfl (wo_mv (.tmp 1) (.int .i64 ((n : Nat) : Int)) (fun _ => rfl) rfl (hK _ (Mo.refl _))))
    ·exact og_eq _ rfl (fun f wf hq hd K hK => go_run rfl (wo_bin (fun x y => Instr.indexAt 109 x y) (.tmp 21) (.tmp 22) (.slice z.ip z.MI.length z.ic) (.int .i64 ((n : Nat) : Int)) (pt b1 (o1 + n * 1)) (fun _ => rfl) (hd 3 rfl) (hd 4 rfl) (ix109 (i := n) hp1 hnm _) (hK _ (Mo.refl _))))
    ·exact og_eq _ rfl (fun f wf hq hd K hK => go_run rfl (wo_load 108 (.tmp 23) (pt b1 (o1 + n * 1)) (.map (some ib)) rfl (hd 5 rfl) (D.run_oneR (hR1.mo (M.trans hq)).at' 108 0 rfl Tryd.underlying108 rfl) (hK _ (Mo.refl _))))
    ·exact og_eq _ rfl (fun f wf hq hd K hK => go_run rfl (wo_un (fun v => Instr.fieldAt 79 v 0) (.tmp 5) (pt k1 0) (pt k1 0) (fun _ => rfl) rfl (by kernel_rfl) (hK _ (Mo.refl _))))
    ·exact og_eq _ rfl (fun f wf hq hd K hK => have Q1 := Q1.mo hq; go_run rfl (wo_load 9 (.tmp 25) (pt k1 0) (.string y.nm) rfl (hd 7 rfl) (run_one Q1 9 0 rfl Tryd.underlying9 rfl) (hK _ (Mo.refl _))))
    ·exact og_eq _ rfl (fun f wf hq hd K hK => go_run rfl (wo_un (fun v => Instr.fieldAt 79 v 1) (.tmp 5) (pt k1 0) (pt k1 1) (fun _ => rfl) rfl (by kernel_rfl) (hK _ (Mo.refl _))))
    ·exact og_eq _ rfl (fun f wf hq hd K hK => have Q1 := Q1.mo hq; go_run rfl (wo_load 3 (.tmp 27) (pt k1 1) (.int .i64 (y.k)) rfl (hd 9 rfl) (run_one Q1 3 1 rfl Tryd.underlying3 rfl) (hK _ (Mo.refl _))))
   intro kf4 w4 hq hR hne
   replace Q1 := Q1.mo hq
   replace M := M.trans hq
   clear hq hR hne
   refine wl_mup (.tmp 24) (.tmp 26) (.tmp 28) ib y.nm (y.k) (hIo.mo M) hT (Nat.le_trans (may_sz hf0) (by decide)) (tkn_self hf1) rfl rfl rfl rfl rfl rfl ?_
   intro w5 hO9 hK9
   have hC9 := (hC.mo M).putI hib hO9 hK9
   have MK := (Mk.of z.D M).tr hK9 (fun j _ e => by rw [e]; exact (Zc.di hib))
   refine w_nil (xn_then (w_seq (w_reg ?_)))
   refine wl_m (.const (.int .i64 (0))) (.int .i64 (0)) ?_
   refine w_nil (xn_then (w_ret ?_))
   exact w_ret1 _ (.int .i64 (0)) rfl rfl ⟨by unfold itE; rw [hf0, hf1]; first | done | rfl, MK, fun _ => hC9⟩
 | false =>
  refine wl_call 58 [(.tmp 9)] _ [.string y.nm] (.bool false) rfl rfl (fun _ _ => by kernel_rfl) (cB hf0 (may_n y.nm _)) rfl ?_
  intro w2 hq
  replace Q1 := Q1.mo hq
  replace M := M.trans hq
  clear hq
  refine wl_un (fun v => Op.unary .not v) (.tmp 10) (.bool false) (.bool true) (fun _ => rfl) rfl (by kernel_rfl) rfl ?_
  refine wl_m (.tmp 11) (.bool true) ?_
  refine w_nil (xn_then (w_condT rfl (w_seq (w_reg ?_))))
  refine wl_m (.const (.int .i64 (90))) (.int .i64 (90)) ?_
  refine w_nil (xn_then (w_ret (xr_blk (xr_then ?_))))
  exact w_ret1 _ (.int .i64 (90)) rfl rfl ⟨by unfold itE; rw [hf0]; first | done | rfl, Mk.of _ M, fun h => absurd ((show (90 : Int) = itE z.L A.I n y from by unfold itE; rw [hf0]; first | done | rfl).trans h) (by decide)⟩
end Go.Proofs.YtnffhcjmpjajlaaDoor

namespace Go.Proofs.YtnffhcjmpjajlaaDoor
open Go.RowKit D
theorem CK.fin {w w1 w2 : World} {z : Zc} {A0 A : Al} {b : Nat} (hC : CK w z A0) (h : CK w1 z A) (m : Mk z.D w w2) (m2 : Mk (fun j => j = b) w1 w2) (hb : ¬ z.D b) : CK w2 z A := by
 have k := m.kp (fun j hj => hC.nocell hj (Mo.refl _))
 exact ⟨hC.at'.kp k m.fz, hC.df.kp k, hC.ls.kp k, fun x hx => (hC.l5 x hx).kp k, hC.mi.kp k, hC.ki.kp k, h.lm, h.lk, h.om.mk m2 (fun q => hb (by rw [← q]; exact Zc.dt)), fun i c e => (h.oi i c e).mk m2 (fun q => hb (by rw [← q]; exact Zc.di e)), fun i c e => (h.ok i c e).mk m2 (fun q => hb (by rw [← q]; exact Zc.dk e)), h.nd, h.wf, h.kr⟩
theorem tables_n {w : World} {z : Zc} {I K : Nat → List (ByteArray × Int)} (hC : CK w z ⟨[], I, K⟩) (hl : z.d.tb.length ≤ 8) : Calls Tryd.prog 44 #[pt z.cb 0] w fun e w' => e = .returned (rv (tbR z.d.tb)) ∧ Mk z.D w w' ∧ (tbR z.d.tb = none → CK w' z ⟨tbA z.d.tb z.d.tb.length, I, K⟩) := by
 refine w_enter 29 Tryd.func44 Tryd.ntmps44 rfl rfl ?_
 have M : Mo w w := Mo.refl _
 refine w_seq (w_reg ?_)
 refine wl_alloc 52 #[.int .i64 0, .int .i64 0, .int .i64 0, .int .i64 0, .int .i64 0] rfl (fun _ => by kernel_rfl) rfl ?_
 intro k1 w1 hk hz hq Q1
 have N_k1 : w.heap.size ≤ k1 := by have := M.size; omega
 replace M := M.trans hq
 clear hk hz hq
 refine wl_m (.const (.int .i64 (0))) (.int .i64 (0)) ?_
 refine w_nil (xn_then (w_seq (w_seq (w_reg ?_))))
 refine wl_m (.tmp 0) (pt z.cb 0) ?_
 refine wl_nc (.tmp 7) z.cb 0 rfl rfl rfl ?_
 refine wl_f 111 0 (.tmp 8) (pt z.cb 0) (pt z.cb 0) ?_
 refine wl_f 49 2 (.tmp 9) (pt z.cb 0) (pt z.cb 5) ?_
 refine wl_l 46 (.tmp 10) (pt z.cb 5) (.slice z.d.pt z.d.tb.length z.d.ct) (D.run_oneR (hC.rw.mo M).at' 46 5 rfl Tryd.underlying46 rfl) ?_
 refine wl_val (.int .i64 ((z.d.tb.length : Nat) : Int)) (len46 _ _ _ _ _ (by exact rfl) _ _ _ _ _ _) rfl ?_
 refine wl_m (.const (.int .i64 (0))) (.int .i64 (0)) ?_
 refine w_nil (xn_then (w_block ?_))
 have hz := hC.df.tb.1
 refine w_loop (fun m l w1 => ∃ i : Nat, m = z.d.tb.length - i ∧ i ≤ z.d.tb.length ∧ look l 0 = pt z.cb 0 ∧ look l 2 = pt k1 0 ∧ look l 11 = .slice z.d.pt z.d.tb.length z.d.ct ∧ look l 12 = .int .i64 ((z.d.tb.length : Nat) : Int) ∧ look l 13 = .int .i64 ((i : Nat) : Int) ∧ At w1 k1 [.int .i64 0, .int .i64 0, .int .i64 0, .int .i64 0, .int .i64 0] ∧ (CK w1 z ⟨tbA z.d.tb i, I, K⟩) ∧ (∀ j, j < i → tbG z.d.tb j = none) ∧ Mk z.D w w1) _ ⟨0, rfl, Nat.zero_le _, rfl, rfl, rfl, rfl, rfl, Q1, hC.mo M, (fun j hj => by omega), Mk.of _ M⟩ ?_
 clear Q1 M
 rintro m l40 wl40 ⟨i, rfl, hi, e40_0, e40_2, e40_11, e40_12, e40_i, Q1, hC1, hG, MK⟩
 by_cases hil : i < z.d.tb.length
 ·skip
  have hid : decide (i < z.d.tb.length) = true := decide_eq_true hil
  have M : Mo wl40 wl40 := Mo.refl _
  obtain ⟨x, hx⟩ := get_of_lt hil
  obtain ⟨b1, o1, hp1, hR1⟩ := D.SL.rw hC1.df.tb hx
  refine w_seq (w_reg ?_)
  refine wl_bin (fun x y => do eqGuard .lss 3 (.tmp 13) (.tmp 12) x y; binOp .lss 3 x y) (.tmp 13) (.tmp 12) (.int .i64 ((i : Nat) : Int)) (.int .i64 ((z.d.tb.length : Nat) : Int)) (.bool true) (fun _ => rfl) e40_i e40_12 (ltN hid _ _ _) rfl ?_
  refine w_nil (xn_then (w_seq (w_condT rfl (w_skip (xn_then (w_seq (w_block (w_seq (w_reg ?_)))))))))
  refine wl_mv (.tmp 13) (.int .i64 ((i : Nat) : Int)) (fun _ => rfl) e40_i rfl ?_
  refine wl_bin (fun x y => Instr.indexAt 46 x y) (.tmp 11) (.tmp 13) (.slice z.d.pt z.d.tb.length z.d.ct) (.int .i64 ((i : Nat) : Int)) (pt b1 (o1 + i * 2)) (fun _ => rfl) e40_11 e40_i (ix46 (i := i) hp1 hil _) rfl ?_
  refine wl_l 115 (.tmp 16) (pt b1 (o1 + i * 2)) (.agg (x.cells).toArray) (D.run_partR (hR1.mo M).at' 115 0 2 (x.cells) rfl Tryd.underlying115 rfl sz115) ?_
  refine wl_alloc 115 #[.string ⟨#[]⟩, .slice none 0 0] rfl (fun _ => by kernel_rfl) rfl ?_
  intro k2 w41 hk hz hq Q2
  have ne_k1_k2 : k1 ≠ k2 := by have := Q1.lt; omega
  have N_k2 : wl40.heap.size ≤ k2 := by have := M.size; omega
  replace Q1 := Q1.mo hq
  replace M := M.trans hq
  clear hk hz hq
  refine wl_m (.tmp 15) (.int .i64 ((i : Nat) : Int)) ?_
  refine wl_st 115 (.tmp 5) (.tmp 17) k2 0 ((x.cells).toArray) _ (x.cells) Q2 rfl rfl rfl rfl rfl sz115 rfl rfl rfl ?_
  intro w42 hS Qn
  replace Q2 := Qn
  clear Qn
  replace Q1 := hS.other _ _ ne_k1_k2 Q1
  replace M := hS.mo _ N_k2 M
  clear hS
  refine w_nil (xn_then (w_seq (w_reg ?_)))
  refine wl_mv (.tmp 0) (pt z.cb 0) (fun _ => rfl) e40_0 rfl ?_
  refine wl_m (.tmp 4) (.int .i64 ((i : Nat) : Int)) ?_
  refine wl_l 115 (.tmp 5) (pt k2 0) (.agg (x.cells).toArray) (run_row Q2 115 0 2 (x.cells) rfl Tryd.underlying115 rfl sz115) ?_
  refine wl_callx 60 [(.tmp 18), (.tmp 19), (.tmp 20)] _ [pt z.cb 0, .int .i64 ((i : Nat) : Int), .agg (x.cells).toArray] rfl rfl (fun _ _ => by kernel_rfl) (table_n (hC1.mo M) i x (by have := tbA_len z.d.tb i; show (tbA z.d.tb i).length < _; omega)) rfl ?_
  rintro e9 w43 ⟨rfl, hK9, hC9⟩
  refine ⟨_, rfl, ?_⟩
  replace MK := (MK.trans M).same hK9
  replace Q1 := Q1.kp (hK9.kp (fun j hj => hC1.nocell hj M)) hK9.fz
  replace Q2 := Q2.kp (hK9.kp (fun j hj => hC1.nocell hj M)) hK9.fz
  clear M
  have M : Mo w43 w43 := Mo.refl _
  refine wl_m (.tmp 21) (.int .i64 (tbE (tbA z.d.tb i) x)) ?_
  refine w_nil (xn_then (w_seq (w_reg ?_)))
  refine wl_m (.tmp 6) (.int .i64 (tbE (tbA z.d.tb i) x)) ?_
  cases hf30 : decide (tbE (tbA z.d.tb i) x = 0) with
  | true =>
   have hf30p := of_decide_eq_true hf30
   refine wl_b .neq 31 (.tmp 22) (.const (.int .i64 (0))) (.int .i64 (tbE (tbA z.d.tb i) x)) (.int .i64 (0)) (.bool false) (ne34 hf30 _ _ _) ?_
   refine w_nil (xn_then (w_condF rfl (w_skip (xn_blk (xn_then (w_reg ?_))))))
   refine wl_bin (fun x y => do eqGuard .add 3 (.tmp 13) (.const (.int .i64 (1))) x y; binOp .add 3 x y) (.tmp 13) (.const (.int .i64 (1))) (.int .i64 ((i : Nat) : Int)) (.int .i64 (1)) (.int .i64 ((i + 1 : Nat) : Int)) (fun _ => rfl) e40_i rfl (add1r (k := i) (by omega) _ _ _) rfl ?_
   refine wl_m (.tmp 27) (.int .i64 ((i + 1 : Nat) : Int)) ?_
   refine w_nil ?_
   exact xn_loop (z.d.tb.length - (i + 1)) (by omega) ⟨i + 1, rfl, by omega, e40_0, e40_2, e40_11, e40_12, rfl, Q1, by rw [tbA_s hx]; exact (hC9 hf30p).mo M, fs_step hG ((tbG_of hx).trans (er_0 hf30p)), MK.trans M⟩
  | false =>
   have hf30p := of_decide_eq_false hf30
   refine wl_b .neq 31 (.tmp 22) (.const (.int .i64 (0))) (.int .i64 (tbE (tbA z.d.tb i) x)) (.int .i64 (0)) (.bool true) (ne34 hf30 _ _ _) ?_
   refine w_nil (xn_then (w_condT rfl (w_seq (w_reg ?_))))
   refine wl_m (.tmp 4) (.int .i64 ((i : Nat) : Int)) ?_
   refine wl_build 52 [(0, (.const (.int .i64 (1)))), (3, (.tmp 24))] [(0, .int .i64 (1)), (3, .int .i64 ((i : Nat) : Int))] (.agg #[.int .i64 (1), .int .i64 0, .int .i64 0, .int .i64 ((i : Nat) : Int), .int .i64 0]) rfl rfl (by kernel_rfl) rfl ?_
   refine wl_m (.tmp 6) (.int .i64 (tbE (tbA z.d.tb i) x)) ?_
   refine wl_stm 52 (.tmp 2) (.tmp 25) k1 0 #[.int .i64 (1), .int .i64 0, .int .i64 0, .int .i64 ((i : Nat) : Int), .int .i64 0] [.int .i64 0, .int .i64 0, .int .i64 0, .int .i64 0, .int .i64 0] [.int .i64 (1), .int .i64 0, .int .i64 0, .int .i64 ((i : Nat) : Int), .int .i64 0] Q1 rfl rfl e40_2 rfl rfl sz52 rfl rfl rfl ?_
   intro w44 hS hm9 Qn
   replace Q1 := Qn
   clear Qn
   replace Q2 := hS.other _ _ ne_k1_k2.symm Q2
   have hmT := (Mk.of (fun j => j = k1) M).same hm9
   replace MK := (MK.trans M).tr hm9 (fun j hj e => by omega)
   clear M hS hm9
   have M : Mo w44 w44 := Mo.refl _
   refine wl_m (.tmp 26) (.int .i64 (tbE (tbA z.d.tb i) x)) ?_
   refine w_nil (xn_then (w_ret (xr_blk (xr_then (xr_then (xr_blk (xr_then ?_)))))))
   exact w_ret2 _ _ (.agg #[.int .i64 (1), .int .i64 0, .int .i64 0, .int .i64 ((i : Nat) : Int), .int .i64 0]) (.int .i64 (tbE (tbA z.d.tb i) x)) rfl ⟨k1, e40_2, (run_row Q1 52 0 5 _ rfl Tryd.underlying52 rfl sz52)⟩ rfl ⟨by unfold tbR; rw [fs_hit hG ((tbG_of hx).trans (er_1 hf30p)) hil]; rfl, MK.trans M, fun h => by unfold tbR at h; rw [fs_hit hG ((tbG_of hx).trans (er_1 hf30p)) hil] at h; cases h⟩
 ·skip
  have hid : decide (i < z.d.tb.length) = false := decide_eq_false hil
  have hie : i = z.d.tb.length := by omega
  have M : Mo wl40 wl40 := Mo.refl _
  refine w_seq (w_reg ?_)
  refine wl_bin (fun x y => do eqGuard .lss 3 (.tmp 13) (.tmp 12) x y; binOp .lss 3 x y) (.tmp 13) (.tmp 12) (.int .i64 ((i : Nat) : Int)) (.int .i64 ((z.d.tb.length : Nat) : Int)) (.bool false) (fun _ => rfl) e40_i e40_12 (ltN hid _ _ _) rfl ?_
  refine w_nil (xn_then (w_seq (w_condF rfl (w_exit (xx_then (xx_then (xx_blk (xn_then (w_seq (w_reg ?_))))))))))
  refine wl_build 52 [] [] (.agg #[.int .i64 0, .int .i64 0, .int .i64 0, .int .i64 0, .int .i64 0]) rfl rfl (by kernel_rfl) rfl ?_
  refine wl_stm 52 (.tmp 2) (.tmp 28) k1 0 #[.int .i64 0, .int .i64 0, .int .i64 0, .int .i64 0, .int .i64 0] [.int .i64 0, .int .i64 0, .int .i64 0, .int .i64 0, .int .i64 0] [.int .i64 0, .int .i64 0, .int .i64 0, .int .i64 0, .int .i64 0] Q1 rfl rfl e40_2 rfl rfl sz52 rfl rfl rfl ?_
  intro w41 hS hm9 Qn
  replace Q1 := Qn
  clear Qn
  have hmT := (Mk.of (fun j => j = k1) M).same hm9
  replace MK := (MK.trans M).tr hm9 (fun j hj e => by omega)
  clear M hS hm9
  have M : Mo w41 w41 := Mo.refl _
  refine wl_m (.const (.int .i64 (0))) (.int .i64 (0)) ?_
  refine w_nil (xn_then (w_ret ?_))
  exact w_ret2 _ _ (.agg #[.int .i64 0, .int .i64 0, .int .i64 0, .int .i64 0, .int .i64 0]) (.int .i64 (0)) rfl ⟨k1, e40_2, (run_row Q1 52 0 5 _ rfl Tryd.underlying52 rfl sz52)⟩ rfl ⟨by unfold tbR; rw [fs_none (by rw [← hie]; exact hG)]; rfl, MK.trans M, fun _ => by rw [hie] at hC1; exact hC.fin hC1 MK hmT (fun h => by have := hC.dlt h; omega)⟩
theorem sections_n {w : World} {z : Zc} {T : List (ByteArray × Int)} (hC : CK w z ⟨T, stI z.L 0 0, stK z.L 0⟩) (hl : z.L.length ≤ 64) : Calls Tryd.prog 45 #[pt z.cb 0] w fun e w' => e = .returned (rv (seR T z.L)) ∧ Mk z.D w w' ∧ (seR T z.L = none → CK w' z ⟨T, stI z.L z.L.length 0, stK z.L z.L.length⟩) := by
 refine w_enter 50 Tryd.func45 Tryd.ntmps45 rfl rfl ?_
 have M : Mo w w := Mo.refl _
 refine w_seq (w_reg ?_)
 refine wl_alloc 52 #[.int .i64 0, .int .i64 0, .int .i64 0, .int .i64 0, .int .i64 0] rfl (fun _ => by kernel_rfl) rfl ?_
 intro k1 w1 hk hz hq Q1
 have N_k1 : w.heap.size ≤ k1 := by have := M.size; omega
 replace M := M.trans hq
 clear hk hz hq
 refine wl_m (.const (.int .i64 (0))) (.int .i64 (0)) ?_
 refine w_nil (xn_then (w_seq (w_seq (w_reg ?_))))
 refine wl_m (.tmp 0) (pt z.cb 0) ?_
 refine wl_nc (.tmp 10) z.cb 0 rfl rfl rfl ?_
 refine wl_f 111 1 (.tmp 11) (pt z.cb 0) (pt z.cb 7) ?_
 refine wl_l 22 (.tmp 12) (pt z.cb 7) (.slice z.sp z.L.length z.sc) (D.run_oneR (hC.rw.mo M).at' 22 7 rfl Tryd.underlying22 rfl) ?_
 refine wl_val (.int .i64 ((z.L.length : Nat) : Int)) (len22 _ _ _ _ _ (by exact rfl) _ _ _ _ _ _) rfl ?_
 refine wl_m (.const (.int .i64 (0))) (.int .i64 (0)) ?_
 refine w_nil (xn_then (w_block ?_))
 have hz := hC.ls.1
 refine w_loop (fun m l w1 => ∃ i : Nat, m = z.L.length - i ∧ i ≤ z.L.length ∧ look l 0 = pt z.cb 0 ∧ look l 2 = pt k1 0 ∧ look l 13 = .slice z.sp z.L.length z.sc ∧ look l 14 = .int .i64 ((z.L.length : Nat) : Int) ∧ look l 15 = .int .i64 ((i : Nat) : Int) ∧ At w1 k1 [.int .i64 0, .int .i64 0, .int .i64 0, .int .i64 0, .int .i64 0] ∧ (CK w1 z ⟨T, stI z.L i 0, stK z.L i⟩) ∧ (∀ j, j < i → seG T z.L j = none) ∧ Mk z.D w w1) _ ⟨0, rfl, Nat.zero_le _, rfl, rfl, rfl, rfl, rfl, Q1, hC.mo M, (fun j hj => by omega), Mk.of _ M⟩ ?_
 clear Q1 M
 rintro m l40 wl40 ⟨i, rfl, hi, e40_0, e40_2, e40_13, e40_14, e40_i, Q1, hC1, hG, MK⟩
 by_cases hil : i < z.L.length
 ·skip
  have hid : decide (i < z.L.length) = true := decide_eq_true hil
  have M : Mo wl40 wl40 := Mo.refl _
  obtain ⟨x, hx⟩ := get_of_lt hil
  obtain ⟨b1, o1, hp1, hR1⟩ := D.SL.rw hC1.ls hx
  refine w_seq (w_reg ?_)
  refine wl_bin (fun x y => do eqGuard .lss 3 (.tmp 15) (.tmp 14) x y; binOp .lss 3 x y) (.tmp 15) (.tmp 14) (.int .i64 ((i : Nat) : Int)) (.int .i64 ((z.L.length : Nat) : Int)) (.bool true) (fun _ => rfl) e40_i e40_14 (ltN hid _ _ _) rfl ?_
  refine w_nil (xn_then (w_seq (w_condT rfl (w_skip (xn_then (w_seq (w_block (w_seq (w_reg ?_)))))))))
  refine wl_mv (.tmp 15) (.int .i64 ((i : Nat) : Int)) (fun _ => rfl) e40_i rfl ?_
  refine wl_bin (fun x y => Instr.indexAt 22 x y) (.tmp 13) (.tmp 15) (.slice z.sp z.L.length z.sc) (.int .i64 ((i : Nat) : Int)) (pt b1 (o1 + i * 5)) (fun _ => rfl) e40_13 e40_i (ix22 (i := i) hp1 hil _) rfl ?_
  refine wl_l 65 (.tmp 18) (pt b1 (o1 + i * 5)) (.agg (x.cells).toArray) (D.run_partR (hR1.mo M).at' 65 0 5 (x.cells) rfl Tryd.underlying65 rfl sz65) ?_
  refine wl_alloc 65 #[.int .i64 0, .int .i64 0, .string ⟨#[]⟩, .int .i64 0, .slice none 0 0] rfl (fun _ => by kernel_rfl) rfl ?_
  intro k2 w41 hk hz hq Q2
  have ne_k1_k2 : k1 ≠ k2 := by have := Q1.lt; omega
  have N_k2 : wl40.heap.size ≤ k2 := by have := M.size; omega
  replace Q1 := Q1.mo hq
  replace M := M.trans hq
  clear hk hz hq
  refine wl_m (.tmp 17) (.int .i64 ((i : Nat) : Int)) ?_
  refine wl_st 65 (.tmp 5) (.tmp 19) k2 0 ((x.cells).toArray) _ (x.cells) Q2 rfl rfl rfl rfl rfl sz65 rfl rfl rfl ?_
  intro w42 hS Qn
  replace Q2 := Qn
  clear Qn
  replace Q1 := hS.other _ _ ne_k1_k2 Q1
  replace M := hS.mo _ N_k2 M
  clear hS
  refine w_nil (xn_then (w_seq (w_seq (w_reg ?_))))
  refine wl_mv (.tmp 0) (pt z.cb 0) (fun _ => rfl) e40_0 rfl ?_
  refine wl_m (.tmp 4) (.int .i64 ((i : Nat) : Int)) ?_
  refine wl_l 65 (.tmp 5) (pt k2 0) (.agg (x.cells).toArray) (run_row Q2 65 0 5 (x.cells) rfl Tryd.underlying65 rfl sz65) ?_
  refine wl_callx 61 [(.tmp 20), (.tmp 21), (.tmp 22)] _ [pt z.cb 0, .int .i64 ((i : Nat) : Int), .agg (x.cells).toArray] rfl rfl (fun _ _ => by kernel_rfl) (section_n (hC1.mo M) i x hx (fun p => by have := kdA_len z.L p i; show (kdA z.L p i).length < _; omega)) rfl ?_
  rintro e9 w43 ⟨rfl, hK9, hC9⟩
  refine ⟨_, rfl, ?_⟩
  replace MK := (MK.trans M).same hK9
  replace Q1 := Q1.kp (hK9.kp (fun j hj => hC1.nocell hj M)) hK9.fz
  replace Q2 := Q2.kp (hK9.kp (fun j hj => hC1.nocell hj M)) hK9.fz
  clear M
  have M : Mo w43 w43 := Mo.refl _
  refine wl_m (.tmp 23) (.int .i64 (seE z.L ⟨T, stI z.L i 0, stK z.L i⟩ i x)) ?_
  refine w_nil (xn_then (w_seq (w_reg ?_)))
  refine wl_m (.tmp 6) (.int .i64 (seE z.L ⟨T, stI z.L i 0, stK z.L i⟩ i x)) ?_
  cases hf30 : decide (seE z.L ⟨T, stI z.L i 0, stK z.L i⟩ i x = 0) with
  | true =>
   have hf30p := of_decide_eq_true hf30
   refine wl_b .neq 31 (.tmp 24) (.const (.int .i64 (0))) (.int .i64 (seE z.L ⟨T, stI z.L i 0, stK z.L i⟩ i x)) (.int .i64 (0)) (.bool false) (ne34 hf30 _ _ _) ?_
   refine w_nil (xn_then (w_condF rfl (w_skip (xn_then (w_seq (w_reg ?_))))))
   refine wl_f 65 4 (.tmp 5) (pt k2 0) (pt k2 4) ?_
   refine wl_l 42 (.tmp 29) (pt k2 4) (.slice x.pi x.items.length x.ci) (run_one Q2 42 4 rfl Tryd.underlying42 rfl) ?_
   refine wl_val (.int .i64 ((x.items.length : Nat) : Int)) (len42 _ _ _ _ _ (by exact rfl) _ _ _ _ _ _) rfl ?_
   refine wl_m (.const (.int .i64 (0))) (.int .i64 (0)) ?_
   refine w_nil (xn_then (w_block ?_))
   have hC2 : CK w43 z ⟨T, stI z.L i 0, stK z.L (i + 1)⟩ := by
    rcases Nat.eq_zero_or_pos i with h0 | h0
    ·rw [stK_0 hx (by have := hC1.wf i x hx; omega)]; exact ((hC9 hf30p).1 h0).mo M
    ·rw [← stK_up hx (p := x.pr.toNat) (by have := (hC1.wf i x hx).2.2 h0; omega)]; exact ((hC9 hf30p).2 h0).mo M
   have hzi : x.items.length ≤ 64 := by
    have h9 := hf30p
    unfold seE at h9
    split at h9
    ·split at h9
     ·cases h9
     ·rename_i h8; simp at h8; omega
    ·rename_i h8; exact absurd h9 h8
   refine w_loop (fun m l w1 => ∃ j : Nat, m = x.items.length - j ∧ j ≤ x.items.length ∧ look l 0 = pt z.cb 0 ∧ look l 2 = pt k1 0 ∧ look l 4 = .int .i64 ((i : Nat) : Int) ∧ look l 13 = .slice z.sp z.L.length z.sc ∧ look l 14 = .int .i64 ((z.L.length : Nat) : Int) ∧ look l 15 = .int .i64 ((i : Nat) : Int) ∧ look l 30 = .slice x.pi x.items.length x.ci ∧ look l 31 = .int .i64 ((x.items.length : Nat) : Int) ∧ look l 32 = .int .i64 ((j : Nat) : Int) ∧ At w1 k1 [.int .i64 0, .int .i64 0, .int .i64 0, .int .i64 0, .int .i64 0] ∧ (CK w1 z ⟨T, stI z.L i j, stK z.L (i + 1)⟩) ∧ (∀ m, m < j → ixG z.L i m = none) ∧ Mk z.D w w1) _ ⟨0, rfl, Nat.zero_le _, e40_0, e40_2, rfl, e40_13, e40_14, e40_i, rfl, rfl, rfl, Q1, hC2, (fun j hj => by omega), MK.trans M⟩ ?_
   clear Q1 Q2 M MK
   rintro m l70 wl70 ⟨j, rfl, hj, e70_0, e70_2, e70_4, e70_13, e70_14, e70_15, e70_30, e70_31, e70_i, Q1, hC2, hH, MK⟩
   by_cases hjl : j < x.items.length
   ·skip
    have hjd : decide (j < x.items.length) = true := decide_eq_true hjl
    have M : Mo wl70 wl70 := Mo.refl _
    obtain ⟨y, hy⟩ := get_of_lt hjl
    obtain ⟨b2, o2, hp2, hR2⟩ := D.SL.rw (hC2.l5 x (List.mem_of_getElem? hx)).it hy
    refine w_seq (w_reg ?_)
    refine wl_bin (fun x y => do eqGuard .lss 3 (.tmp 32) (.tmp 31) x y; binOp .lss 3 x y) (.tmp 32) (.tmp 31) (.int .i64 ((j : Nat) : Int)) (.int .i64 ((x.items.length : Nat) : Int)) (.bool true) (fun _ => rfl) e70_i e70_31 (ltN hjd _ _ _) rfl ?_
    refine w_nil (xn_then (w_seq (w_condT rfl (w_skip (xn_then (w_seq (w_block (w_seq (w_reg ?_)))))))))
    refine wl_mv (.tmp 32) (.int .i64 ((j : Nat) : Int)) (fun _ => rfl) e70_i rfl ?_
    refine wl_bin (fun x y => Instr.indexAt 42 x y) (.tmp 30) (.tmp 32) (.slice x.pi x.items.length x.ci) (.int .i64 ((j : Nat) : Int)) (pt b2 (o2 + j * 23)) (fun _ => rfl) e70_30 e70_i (ix42 (i := j) hp2 hjl _) rfl ?_
    refine wl_l 79 (.tmp 35) (pt b2 (o2 + j * 23)) (.agg (y.cells).toArray) (D.run_partR (hR2.mo M).at' 79 0 23 (y.cells) rfl Tryd.underlying79 rfl sz79) ?_
    refine wl_alloc 79 #[.string ⟨#[]⟩, .int .i64 0, .int .i64 0, .int .i64 0, .bool false, .int .i64 0, .int .i64 0, .int .i64 0, .string ⟨#[]⟩, .string ⟨#[]⟩, .int .i64 0, .bool false, .int .u64 0, .int .u64 0, .int .u64 0, .int .u64 0, .int .i64 0, .bool false, .string ⟨#[]⟩, .int .i64 0, .int .i64 0, .int .i64 0, .slice none 0 0] rfl (fun _ => by kernel_rfl) rfl ?_
    intro k3 w71 hk hz hq Q3
    have ne_k1_k3 : k1 ≠ k3 := by have := Q1.lt; omega
    have N_k3 : wl70.heap.size ≤ k3 := by have := M.size; omega
    replace Q1 := Q1.mo hq
    replace M := M.trans hq
    clear hk hz hq
    refine wl_m (.tmp 34) (.int .i64 ((j : Nat) : Int)) ?_
    refine wl_st 79 (.tmp 8) (.tmp 36) k3 0 ((y.cells).toArray) _ (y.cells) Q3 rfl rfl rfl rfl rfl sz79 rfl rfl rfl ?_
    intro w72 hS Qn
    replace Q3 := Qn
    clear Qn
    replace Q1 := hS.other _ _ ne_k1_k3 Q1
    replace M := hS.mo _ N_k3 M
    clear hS
    refine w_nil (xn_then (w_seq (w_reg ?_)))
    refine wl_mv (.tmp 0) (pt z.cb 0) (fun _ => rfl) e70_0 rfl ?_
    refine wl_mv (.tmp 4) (.int .i64 ((i : Nat) : Int)) (fun _ => rfl) e70_4 rfl ?_
    refine wl_l 79 (.tmp 8) (pt k3 0) (.agg (y.cells).toArray) (run_row Q3 79 0 23 (y.cells) rfl Tryd.underlying79 rfl sz79) ?_
    refine wl_callx 62 [(.tmp 37), (.tmp 38), (.tmp 39)] _ [pt z.cb 0, .int .i64 ((i : Nat) : Int), .agg (y.cells).toArray] rfl rfl (fun _ _ => by kernel_rfl) (item_n (hC2.mo M) i hil y (by show (stI z.L i j i).length < _; rw [stI_self]; have := itA_len (itO z.L i) j; omega)) rfl ?_
    rintro e9 w73 ⟨rfl, hK9, hC9⟩
    refine ⟨_, rfl, ?_⟩
    replace MK := (MK.trans M).same hK9
    replace Q1 := Q1.kp (hK9.kp (fun j hj => hC2.nocell hj M)) hK9.fz
    replace Q3 := Q3.kp (hK9.kp (fun j hj => hC2.nocell hj M)) hK9.fz
    clear M
    have M : Mo w73 w73 := Mo.refl _
    refine wl_m (.tmp 40) (.int .i64 (itE z.L (stI z.L i j) i y)) ?_
    refine w_nil (xn_then (w_seq (w_reg ?_)))
    refine wl_m (.tmp 9) (.int .i64 (itE z.L (stI z.L i j) i y)) ?_
    cases hf60 : decide (itE z.L (stI z.L i j) i y = 0) with
    | true =>
     have hf60p := of_decide_eq_true hf60
     refine wl_b .neq 31 (.tmp 41) (.const (.int .i64 (0))) (.int .i64 (itE z.L (stI z.L i j) i y)) (.int .i64 (0)) (.bool false) (ne34 hf60 _ _ _) ?_
     refine w_nil (xn_then (w_condF rfl (w_skip (xn_blk (xn_then (w_reg ?_))))))
     refine wl_bin (fun x y => do eqGuard .add 3 (.tmp 32) (.const (.int .i64 (1))) x y; binOp .add 3 x y) (.tmp 32) (.const (.int .i64 (1))) (.int .i64 ((j : Nat) : Int)) (.int .i64 (1)) (.int .i64 ((j + 1 : Nat) : Int)) (fun _ => rfl) e70_i rfl (add1r (k := j) (by omega) _ _ _) rfl ?_
     refine wl_m (.tmp 47) (.int .i64 ((j + 1 : Nat) : Int)) ?_
     refine w_nil ?_
     exact xn_loop (x.items.length - (j + 1)) (by omega) ⟨j + 1, rfl, by omega, e70_0, e70_2, e70_4, e70_13, e70_14, e70_15, e70_30, e70_31, rfl, Q1, by rw [← stI_up hx hy]; exact (hC9 hf60p).mo M, fs_step hH ((ixG_of hx hy).trans (er_0 hf60p)), MK.trans M⟩
    | false =>
     have hf60p := of_decide_eq_false hf60
     refine wl_b .neq 31 (.tmp 41) (.const (.int .i64 (0))) (.int .i64 (itE z.L (stI z.L i j) i y)) (.int .i64 (0)) (.bool true) (ne34 hf60 _ _ _) ?_
     refine w_nil (xn_then (w_condT rfl (w_seq (w_reg ?_))))
     refine wl_mv (.tmp 4) (.int .i64 ((i : Nat) : Int)) (fun _ => rfl) e70_4 rfl ?_
     refine wl_m (.tmp 7) (.int .i64 ((j : Nat) : Int)) ?_
     refine wl_build 52 [(0, (.const (.int .i64 (3)))), (1, (.tmp 43)), (2, (.tmp 44))] [(0, .int .i64 (3)), (1, .int .i64 ((i : Nat) : Int)), (2, .int .i64 ((j : Nat) : Int))] (.agg #[.int .i64 (3), .int .i64 ((i : Nat) : Int), .int .i64 ((j : Nat) : Int), .int .i64 0, .int .i64 0]) rfl rfl (by kernel_rfl) rfl ?_
     refine wl_m (.tmp 9) (.int .i64 (itE z.L (stI z.L i j) i y)) ?_
     refine wl_stm 52 (.tmp 2) (.tmp 45) k1 0 #[.int .i64 (3), .int .i64 ((i : Nat) : Int), .int .i64 ((j : Nat) : Int), .int .i64 0, .int .i64 0] [.int .i64 0, .int .i64 0, .int .i64 0, .int .i64 0, .int .i64 0] [.int .i64 (3), .int .i64 ((i : Nat) : Int), .int .i64 ((j : Nat) : Int), .int .i64 0, .int .i64 0] Q1 rfl rfl e70_2 rfl rfl sz52 rfl rfl rfl ?_
     intro w74 hS hm9 Qn
     replace Q1 := Qn
     clear Qn
     replace Q3 := hS.other _ _ ne_k1_k3.symm Q3
     have hmT := (Mk.of (fun j => j = k1) M).same hm9
     replace MK := (MK.trans M).tr hm9 (fun j hj e => by omega)
     clear M hS hm9
     have M : Mo w74 w74 := Mo.refl _
     refine wl_m (.tmp 46) (.int .i64 (itE z.L (stI z.L i j) i y)) ?_
     refine w_nil (xn_then (w_ret (xr_blk (xr_then (xr_then (xr_blk (xr_blk (xr_then (xr_then (xr_blk (xr_then ?_)))))))))))
     exact w_ret2 _ _ (.agg #[.int .i64 (3), .int .i64 ((i : Nat) : Int), .int .i64 ((j : Nat) : Int), .int .i64 0, .int .i64 0]) (.int .i64 (itE z.L (stI z.L i j) i y)) rfl ⟨k1, e70_2, (run_row Q1 52 0 5 _ rfl Tryd.underlying52 rfl sz52)⟩ rfl ⟨by unfold seR; rw [fs_hit hG ((seG_of hx).trans (by rw [er_0 hf30p, Option.none_or]; exact fs_hit hH ((ixG_of hx hy).trans (er_1 hf60p)) hjl)) hil]; rfl, MK.trans M, fun h => by unfold seR at h; rw [fs_hit hG ((seG_of hx).trans (by rw [er_0 hf30p, Option.none_or]; exact fs_hit hH ((ixG_of hx hy).trans (er_1 hf60p)) hjl)) hil] at h; cases h⟩
   ·skip
    have hjd : decide (j < x.items.length) = false := decide_eq_false hjl
    have hje : j = x.items.length := by omega
    have M : Mo wl70 wl70 := Mo.refl _
    refine w_seq (w_reg ?_)
    refine wl_bin (fun x y => do eqGuard .lss 3 (.tmp 32) (.tmp 31) x y; binOp .lss 3 x y) (.tmp 32) (.tmp 31) (.int .i64 ((j : Nat) : Int)) (.int .i64 ((x.items.length : Nat) : Int)) (.bool false) (fun _ => rfl) e70_i e70_31 (ltN hjd _ _ _) rfl ?_
    refine w_nil (xn_then (w_seq (w_condF rfl (w_exit (xx_then (xx_then (xx_blk (xn_blk (xn_then (w_reg ?_))))))))))
    refine wl_bin (fun x y => do eqGuard .add 3 (.tmp 15) (.const (.int .i64 (1))) x y; binOp .add 3 x y) (.tmp 15) (.const (.int .i64 (1))) (.int .i64 ((i : Nat) : Int)) (.int .i64 (1)) (.int .i64 ((i + 1 : Nat) : Int)) (fun _ => rfl) e70_15 rfl (add1r (k := i) (by omega) _ _ _) rfl ?_
    refine wl_m (.tmp 48) (.int .i64 ((i + 1 : Nat) : Int)) ?_
    refine w_nil ?_
    exact xn_loop (z.L.length - (i + 1)) (by omega) ⟨i + 1, rfl, by omega, e70_0, e70_2, e70_13, e70_14, rfl, Q1, by rw [hje, stI_next hx] at hC2; exact hC2.mo M, fs_step hG ((seG_of hx).trans (by rw [er_0 hf30p, Option.none_or]; exact fs_none (by rw [← hje]; exact hH))), MK.trans M⟩
  | false =>
   have hf30p := of_decide_eq_false hf30
   refine wl_b .neq 31 (.tmp 24) (.const (.int .i64 (0))) (.int .i64 (seE z.L ⟨T, stI z.L i 0, stK z.L i⟩ i x)) (.int .i64 (0)) (.bool true) (ne34 hf30 _ _ _) ?_
   refine w_nil (xn_then (w_condT rfl (w_seq (w_reg ?_))))
   refine wl_m (.tmp 4) (.int .i64 ((i : Nat) : Int)) ?_
   refine wl_build 52 [(0, (.const (.int .i64 (2)))), (1, (.tmp 26))] [(0, .int .i64 (2)), (1, .int .i64 ((i : Nat) : Int))] (.agg #[.int .i64 (2), .int .i64 ((i : Nat) : Int), .int .i64 0, .int .i64 0, .int .i64 0]) rfl rfl (by kernel_rfl) rfl ?_
   refine wl_m (.tmp 6) (.int .i64 (seE z.L ⟨T, stI z.L i 0, stK z.L i⟩ i x)) ?_
   refine wl_stm 52 (.tmp 2) (.tmp 27) k1 0 #[.int .i64 (2), .int .i64 ((i : Nat) : Int), .int .i64 0, .int .i64 0, .int .i64 0] [.int .i64 0, .int .i64 0, .int .i64 0, .int .i64 0, .int .i64 0] [.int .i64 (2), .int .i64 ((i : Nat) : Int), .int .i64 0, .int .i64 0, .int .i64 0] Q1 rfl rfl e40_2 rfl rfl sz52 rfl rfl rfl ?_
   intro w44 hS hm9 Qn
   replace Q1 := Qn
   clear Qn
   replace Q2 := hS.other _ _ ne_k1_k2.symm Q2
   have hmT := (Mk.of (fun j => j = k1) M).same hm9
   replace MK := (MK.trans M).tr hm9 (fun j hj e => by omega)
   clear M hS hm9
   have M : Mo w44 w44 := Mo.refl _
   refine wl_m (.tmp 28) (.int .i64 (seE z.L ⟨T, stI z.L i 0, stK z.L i⟩ i x)) ?_
   refine w_nil (xn_then (w_ret (xr_then (xr_blk (xr_then (xr_then (xr_blk (xr_then ?_))))))))
   exact w_ret2 _ _ (.agg #[.int .i64 (2), .int .i64 ((i : Nat) : Int), .int .i64 0, .int .i64 0, .int .i64 0]) (.int .i64 (seE z.L ⟨T, stI z.L i 0, stK z.L i⟩ i x)) rfl ⟨k1, e40_2, (run_row Q1 52 0 5 _ rfl Tryd.underlying52 rfl sz52)⟩ rfl ⟨by unfold seR; rw [fs_hit hG ((seG_of hx).trans (by rw [er_1 hf30p]; rfl)) hil]; rfl, MK.trans M, fun h => by unfold seR at h; rw [fs_hit hG ((seG_of hx).trans (by rw [er_1 hf30p]; rfl)) hil] at h; cases h⟩
 ·skip
  have hid : decide (i < z.L.length) = false := decide_eq_false hil
  have hie : i = z.L.length := by omega
  have M : Mo wl40 wl40 := Mo.refl _
  refine w_seq (w_reg ?_)
  refine wl_bin (fun x y => do eqGuard .lss 3 (.tmp 15) (.tmp 14) x y; binOp .lss 3 x y) (.tmp 15) (.tmp 14) (.int .i64 ((i : Nat) : Int)) (.int .i64 ((z.L.length : Nat) : Int)) (.bool false) (fun _ => rfl) e40_i e40_14 (ltN hid _ _ _) rfl ?_
  refine w_nil (xn_then (w_seq (w_condF rfl (w_exit (xx_then (xx_then (xx_blk (xn_then (w_seq (w_reg ?_))))))))))
  refine wl_build 52 [] [] (.agg #[.int .i64 0, .int .i64 0, .int .i64 0, .int .i64 0, .int .i64 0]) rfl rfl (by kernel_rfl) rfl ?_
  refine wl_stm 52 (.tmp 2) (.tmp 49) k1 0 #[.int .i64 0, .int .i64 0, .int .i64 0, .int .i64 0, .int .i64 0] [.int .i64 0, .int .i64 0, .int .i64 0, .int .i64 0, .int .i64 0] [.int .i64 0, .int .i64 0, .int .i64 0, .int .i64 0, .int .i64 0] Q1 rfl rfl e40_2 rfl rfl sz52 rfl rfl rfl ?_
  intro w41 hS hm9 Qn
  replace Q1 := Qn
  clear Qn
  have hmT := (Mk.of (fun j => j = k1) M).same hm9
  replace MK := (MK.trans M).tr hm9 (fun j hj e => by omega)
  clear M hS hm9
  have M : Mo w41 w41 := Mo.refl _
  refine wl_m (.const (.int .i64 (0))) (.int .i64 (0)) ?_
  refine w_nil (xn_then (w_ret ?_))
  exact w_ret2 _ _ (.agg #[.int .i64 0, .int .i64 0, .int .i64 0, .int .i64 0, .int .i64 0]) (.int .i64 (0)) rfl ⟨k1, e40_2, (run_row Q1 52 0 5 _ rfl Tryd.underlying52 rfl sz52)⟩ rfl ⟨by unfold seR; rw [fs_none (by rw [← hie]; exact hG)]; rfl, MK.trans M, fun _ => by rw [hie] at hC1; exact hC.fin hC1 MK hmT (fun h => by have := hC.dlt h; omega)⟩
theorem formulas_n {w : World} {z : Zc} {A : Al} (hC : CK w z A) : Calls Tryd.prog 46 #[pt z.cb 0] w fun e w' => e = .returned (rv (foR z.L A)) ∧ Mo w w' := by
 refine w_enter 42 Tryd.func46 Tryd.ntmps46 rfl rfl ?_
 have M : Mo w w := Mo.refl _
 refine w_seq (w_reg ?_)
 refine wl_alloc 52 #[.int .i64 0, .int .i64 0, .int .i64 0, .int .i64 0, .int .i64 0] rfl (fun _ => by kernel_rfl) rfl ?_
 intro k1 w1 hk hz hq Q1
 have N_k1 : w.heap.size ≤ k1 := by have := M.size; omega
 replace M := M.trans hq
 clear hk hz hq
 refine wl_m (.const (.int .i64 (0))) (.int .i64 (0)) ?_
 refine w_nil (xn_then (w_seq (w_seq (w_reg ?_))))
 refine wl_m (.tmp 0) (pt z.cb 0) ?_
 refine wl_nc (.tmp 8) z.cb 0 rfl rfl rfl ?_
 refine wl_f 111 1 (.tmp 9) (pt z.cb 0) (pt z.cb 7) ?_
 refine wl_l 22 (.tmp 10) (pt z.cb 7) (.slice z.sp z.L.length z.sc) (D.run_oneR (hC.rw.mo M).at' 22 7 rfl Tryd.underlying22 rfl) ?_
 refine wl_val (.int .i64 ((z.L.length : Nat) : Int)) (len22 _ _ _ _ _ (by exact rfl) _ _ _ _ _ _) rfl ?_
 refine wl_m (.const (.int .i64 (0))) (.int .i64 (0)) ?_
 refine w_nil (xn_then (w_block ?_))
 have hz := hC.ls.1
 unfold maxLen at hz
 refine w_loop (fun m l w1 => ∃ i : Nat, m = z.L.length - i ∧ i ≤ z.L.length ∧ look l 0 = pt z.cb 0 ∧ look l 2 = pt k1 0 ∧ look l 11 = .slice z.sp z.L.length z.sc ∧ look l 12 = .int .i64 ((z.L.length : Nat) : Int) ∧ look l 13 = .int .i64 ((i : Nat) : Int) ∧ At w1 k1 [.int .i64 0, .int .i64 0, .int .i64 0, .int .i64 0, .int .i64 0] ∧ (∀ j, j < i → foS z.L A j = none) ∧ Mo w w1) _ ⟨0, rfl, Nat.zero_le _, rfl, rfl, rfl, rfl, rfl, Q1, (fun j hj => by omega), M⟩ ?_
 clear Q1 M
 rintro m l40 wl40 ⟨i, rfl, hi, e40_0, e40_2, e40_11, e40_12, e40_i, Q1, hG, M⟩
 by_cases hil : i < z.L.length
 ·skip
  have hid : decide (i < z.L.length) = true := decide_eq_true hil
  obtain ⟨x, hx⟩ := get_of_lt hil
  obtain ⟨b1, o1, hp1, hR1⟩ := D.SL.rw hC.ls hx
  refine w_seq (w_reg ?_)
  refine wl_bin (fun x y => do eqGuard .lss 3 (.tmp 13) (.tmp 12) x y; binOp .lss 3 x y) (.tmp 13) (.tmp 12) (.int .i64 ((i : Nat) : Int)) (.int .i64 ((z.L.length : Nat) : Int)) (.bool true) (fun _ => rfl) e40_i e40_12 (ltN hid _ _ _) rfl ?_
  refine w_nil (xn_then (w_seq (w_condT rfl (w_skip (xn_then (w_seq (w_block (w_seq (w_reg ?_)))))))))
  refine wl_mv (.tmp 13) (.int .i64 ((i : Nat) : Int)) (fun _ => rfl) e40_i rfl ?_
  refine wl_bin (fun x y => Instr.indexAt 22 x y) (.tmp 11) (.tmp 13) (.slice z.sp z.L.length z.sc) (.int .i64 ((i : Nat) : Int)) (pt b1 (o1 + i * 5)) (fun _ => rfl) e40_11 e40_i (ix22 (i := i) hp1 hil _) rfl ?_
  refine wl_l 65 (.tmp 16) (pt b1 (o1 + i * 5)) (.agg (x.cells).toArray) (D.run_partR (hR1.mo M).at' 65 0 5 (x.cells) rfl Tryd.underlying65 rfl sz65) ?_
  refine wl_alloc 65 #[.int .i64 0, .int .i64 0, .string ⟨#[]⟩, .int .i64 0, .slice none 0 0] rfl (fun _ => by kernel_rfl) rfl ?_
  intro k2 w41 hk hz hq Q2
  have ne_k1_k2 : k1 ≠ k2 := by have := Q1.lt; omega
  have N_k2 : w.heap.size ≤ k2 := by have := M.size; omega
  replace Q1 := Q1.mo hq
  replace M := M.trans hq
  clear hk hz hq
  refine wl_m (.tmp 15) (.int .i64 ((i : Nat) : Int)) ?_
  refine wl_st 65 (.tmp 5) (.tmp 17) k2 0 ((x.cells).toArray) _ (x.cells) Q2 rfl rfl rfl rfl rfl sz65 rfl rfl rfl ?_
  intro w42 hS Qn
  replace Q2 := Qn
  clear Qn
  replace Q1 := hS.other _ _ ne_k1_k2 Q1
  replace M := hS.mo _ N_k2 M
  clear hS
  refine w_nil (xn_then (w_seq (w_reg ?_)))
  refine wl_f 65 4 (.tmp 5) (pt k2 0) (pt k2 4) ?_
  refine wl_l 42 (.tmp 18) (pt k2 4) (.slice x.pi x.items.length x.ci) (run_one Q2 42 4 rfl Tryd.underlying42 rfl) ?_
  refine wl_val (.int .i64 ((x.items.length : Nat) : Int)) (len42 _ _ _ _ _ (by exact rfl) _ _ _ _ _ _) rfl ?_
  refine wl_m (.const (.int .i64 (0))) (.int .i64 (0)) ?_
  refine w_nil (xn_then (w_block ?_))
  have h5 := hC.l5 x (List.mem_of_getElem? hx)
  have hzi := h5.it.1
  unfold maxLen at hzi
  refine w_loop (fun m l w1 => ∃ j : Nat, m = x.items.length - j ∧ j ≤ x.items.length ∧ look l 0 = pt z.cb 0 ∧ look l 2 = pt k1 0 ∧ look l 4 = .int .i64 ((i : Nat) : Int) ∧ look l 11 = .slice z.sp z.L.length z.sc ∧ look l 12 = .int .i64 ((z.L.length : Nat) : Int) ∧ look l 13 = .int .i64 ((i : Nat) : Int) ∧ look l 19 = .slice x.pi x.items.length x.ci ∧ look l 20 = .int .i64 ((x.items.length : Nat) : Int) ∧ look l 21 = .int .i64 ((j : Nat) : Int) ∧ At w1 k1 [.int .i64 0, .int .i64 0, .int .i64 0, .int .i64 0, .int .i64 0] ∧ (∀ m, m < j → foG z.L A i m = none) ∧ Mo w w1) _ ⟨0, rfl, Nat.zero_le _, e40_0, e40_2, rfl, e40_11, e40_12, e40_i, rfl, rfl, rfl, Q1, (fun j hj => by omega), M⟩ ?_
  clear Q1 Q2 M
  rintro m l70 wl70 ⟨j, rfl, hj, e70_0, e70_2, e70_4, e70_11, e70_12, e70_13, e70_19, e70_20, e70_i, Q1, hH, M⟩
  by_cases hjl : j < x.items.length
  ·skip
   have hjd : decide (j < x.items.length) = true := decide_eq_true hjl
   obtain ⟨y, hy⟩ := get_of_lt hjl
   obtain ⟨b2, o2, hp2, hR2⟩ := D.SL.rw h5.it hy
   refine w_seq (w_reg ?_)
   refine wl_bin (fun x y => do eqGuard .lss 3 (.tmp 21) (.tmp 20) x y; binOp .lss 3 x y) (.tmp 21) (.tmp 20) (.int .i64 ((j : Nat) : Int)) (.int .i64 ((x.items.length : Nat) : Int)) (.bool true) (fun _ => rfl) e70_i e70_20 (ltN hjd _ _ _) rfl ?_
   refine w_nil (xn_then (w_seq (w_condT rfl (w_skip (xn_then (w_seq (w_block (w_seq (w_reg ?_)))))))))
   refine wl_mv (.tmp 21) (.int .i64 ((j : Nat) : Int)) (fun _ => rfl) e70_i rfl ?_
   refine wl_bin (fun x y => Instr.indexAt 42 x y) (.tmp 19) (.tmp 21) (.slice x.pi x.items.length x.ci) (.int .i64 ((j : Nat) : Int)) (pt b2 (o2 + j * 23)) (fun _ => rfl) e70_19 e70_i (ix42 (i := j) hp2 hjl _) rfl ?_
   refine wl_l 79 (.tmp 24) (pt b2 (o2 + j * 23)) (.agg (y.cells).toArray) (D.run_partR (hR2.mo M).at' 79 0 23 (y.cells) rfl Tryd.underlying79 rfl sz79) ?_
   refine wl_alloc 79 #[.string ⟨#[]⟩, .int .i64 0, .int .i64 0, .int .i64 0, .bool false, .int .i64 0, .int .i64 0, .int .i64 0, .string ⟨#[]⟩, .string ⟨#[]⟩, .int .i64 0, .bool false, .int .u64 0, .int .u64 0, .int .u64 0, .int .u64 0, .int .i64 0, .bool false, .string ⟨#[]⟩, .int .i64 0, .int .i64 0, .int .i64 0, .slice none 0 0] rfl (fun _ => by kernel_rfl) rfl ?_
   intro k3 w71 hk hz hq Q3
   have ne_k1_k3 : k1 ≠ k3 := by have := Q1.lt; omega
   have N_k3 : w.heap.size ≤ k3 := by have := M.size; omega
   replace Q1 := Q1.mo hq
   replace M := M.trans hq
   clear hk hz hq
   refine wl_m (.tmp 23) (.int .i64 ((j : Nat) : Int)) ?_
   refine wl_st 79 (.tmp 7) (.tmp 25) k3 0 ((y.cells).toArray) _ (y.cells) Q3 rfl rfl rfl rfl rfl sz79 rfl rfl rfl ?_
   intro w72 hS Qn
   replace Q3 := Qn
   clear Qn
   replace Q1 := hS.other _ _ ne_k1_k3 Q1
   replace M := hS.mo _ N_k3 M
   clear hS
   refine w_nil (xn_then (w_seq (w_reg ?_)))
   refine wl_f 79 1 (.tmp 7) (pt k3 0) (pt k3 1) ?_
   refine wl_l 3 (.tmp 26) (pt k3 1) (.int .i64 (y.k)) (run_one Q3 3 1 rfl Tryd.underlying3 rfl) ?_
   cases hf60 : decide (y.k = 1) with
   | true =>
    have hf60p := of_decide_eq_true hf60
    refine wl_b .neq 3 (.tmp 27) (.const (.int .i64 (1))) (.int .i64 (y.k)) (.int .i64 (1)) (.bool false) (ne3 hf60 _ _ _) ?_
    refine wl_m (.tmp 28) (.bool false) ?_
    refine wl_skip rfl (wl_skip rfl (wl_skip rfl (wl_skip rfl (wl_skip rfl ?_))))
    refine wl_pick (.tmp 29) (.tmp 34) (.const (.bool false)) false (.bool false) (fun _ => rfl) rfl rfl rfl ?_
    refine w_nil (xn_then (w_condF rfl (w_skip (xn_blk (xn_then (w_reg ?_))))))
    refine wl_bin (fun x y => do eqGuard .add 3 (.tmp 21) (.const (.int .i64 (1))) x y; binOp .add 3 x y) (.tmp 21) (.const (.int .i64 (1))) (.int .i64 ((j : Nat) : Int)) (.int .i64 (1)) (.int .i64 ((j + 1 : Nat) : Int)) (fun _ => rfl) e70_i rfl (add1r (k := j) (by omega) _ _ _) rfl ?_
    refine wl_m (.tmp 39) (.int .i64 ((j + 1 : Nat) : Int)) ?_
    refine w_nil ?_
    exact xn_loop (x.items.length - (j + 1)) (by omega) ⟨j + 1, rfl, by omega, e70_0, e70_2, e70_4, e70_11, e70_12, e70_13, e70_19, e70_20, rfl, Q1, fs_step hH ((foG_of hx hy).trans (by rw [hf60]; rfl)), M⟩
   | false =>
    have hf60p := of_decide_eq_false hf60
    refine wl_b .neq 3 (.tmp 27) (.const (.int .i64 (1))) (.int .i64 (y.k)) (.int .i64 (1)) (.bool true) (ne3 hf60 _ _ _) ?_
    refine wl_m (.tmp 28) (.bool true) ?_
    refine wl_mv (.tmp 0) (pt z.cb 0) (fun _ => rfl) e70_0 rfl ?_
    refine wl_mv (.tmp 4) (.int .i64 ((i : Nat) : Int)) (fun _ => rfl) e70_4 rfl ?_
    refine wl_f 79 5 (.tmp 7) (pt k3 0) (pt k3 6) ?_
    refine wl_l 77 (.tmp 32) (pt k3 6) (.agg #[.int .i64 y.ex.k, .int .i64 y.ex.op, .string y.ex.nm, .string y.ex.se, .int .i64 y.ex.v.k, .bool y.ex.v.d.b, .int .u64 y.ex.v.d.n0, .int .u64 y.ex.v.d.n1, .int .u64 y.ex.v.d.n2, .int .u64 y.ex.v.d.n3, .int .i64 y.ex.v.d.s, .bool y.ex.v.f, .string y.ex.v.t, .int .i64 y.ex.v.e, .int .i64 y.ex.sc, .int .i64 y.ex.po, .slice y.ex.pa y.ex.args.length y.ex.cap]) (run_row Q3 77 6 17 _ rfl Tryd.underlying77 rfl sz77) ?_
    cases hf61 : lck (kno z.L A i) y.ex with
    | true =>
     refine wl_call 63 [(.tmp 30), (.tmp 31), (.tmp 33)] _ [pt z.cb 0, .int .i64 ((i : Nat) : Int), .agg #[.int .i64 y.ex.k, .int .i64 y.ex.op, .string y.ex.nm, .string y.ex.se, .int .i64 y.ex.v.k, .bool y.ex.v.d.b, .int .u64 y.ex.v.d.n0, .int .u64 y.ex.v.d.n1, .int .u64 y.ex.v.d.n2, .int .u64 y.ex.v.d.n3, .int .i64 y.ex.v.d.s, .bool y.ex.v.f, .string y.ex.v.t, .int .i64 y.ex.v.e, .int .i64 y.ex.sc, .int .i64 y.ex.po, .slice y.ex.pa y.ex.args.length y.ex.cap]] (.bool true) rfl rfl (fun _ _ => by kernel_rfl) (cB hf61 (lacks_n i hil y.ex (hC.mo M) ((h5.ex y (List.mem_of_getElem? hy)).kp M.kp))) rfl ?_
     intro w73 hq
     replace Q1 := Q1.mo hq
     replace Q3 := Q3.mo hq
     replace M := M.trans hq
     clear hq
     refine wl_pick (.tmp 29) (.tmp 34) (.const (.bool false)) true (.bool true) (fun _ => rfl) rfl rfl rfl ?_
     refine w_nil (xn_then (w_condT rfl (w_seq (w_reg ?_))))
     refine wl_mv (.tmp 4) (.int .i64 ((i : Nat) : Int)) (fun _ => rfl) e70_4 rfl ?_
     refine wl_m (.tmp 6) (.int .i64 ((j : Nat) : Int)) ?_
     refine wl_build 52 [(0, (.const (.int .i64 (3)))), (1, (.tmp 36)), (2, (.tmp 37))] [(0, .int .i64 (3)), (1, .int .i64 ((i : Nat) : Int)), (2, .int .i64 ((j : Nat) : Int))] (.agg #[.int .i64 (3), .int .i64 ((i : Nat) : Int), .int .i64 ((j : Nat) : Int), .int .i64 0, .int .i64 0]) rfl rfl (by kernel_rfl) rfl ?_
     refine wl_st 52 (.tmp 2) (.tmp 38) k1 0 #[.int .i64 (3), .int .i64 ((i : Nat) : Int), .int .i64 ((j : Nat) : Int), .int .i64 0, .int .i64 0] _ [.int .i64 (3), .int .i64 ((i : Nat) : Int), .int .i64 ((j : Nat) : Int), .int .i64 0, .int .i64 0] Q1 rfl rfl e70_2 rfl rfl sz52 rfl rfl rfl ?_
     intro w74 hS Qn
     replace Q1 := Qn
     clear Qn
     replace Q3 := hS.other _ _ ne_k1_k3.symm Q3
     replace M := hS.mo _ N_k1 M
     clear hS
     refine wl_m (.const (.int .i64 (91))) (.int .i64 (91)) ?_
     refine w_nil (xn_then (w_ret (xr_blk (xr_then (xr_then (xr_blk (xr_blk (xr_then (xr_then (xr_blk (xr_then ?_)))))))))))
     exact w_ret2 _ _ (.agg #[.int .i64 (3), .int .i64 ((i : Nat) : Int), .int .i64 ((j : Nat) : Int), .int .i64 0, .int .i64 0]) (.int .i64 (91)) rfl ⟨k1, e70_2, (run_row Q1 52 0 5 _ rfl Tryd.underlying52 rfl sz52)⟩ rfl ⟨by unfold foR; rw [fs_hit hG (fs_hit hH ((foG_of hx hy).trans (by rw [hf60, hf61]; rfl)) (by rw [itO_of hx]; exact hjl)) hil]; rfl, M⟩
    | false =>
     refine wl_call 63 [(.tmp 30), (.tmp 31), (.tmp 33)] _ [pt z.cb 0, .int .i64 ((i : Nat) : Int), .agg #[.int .i64 y.ex.k, .int .i64 y.ex.op, .string y.ex.nm, .string y.ex.se, .int .i64 y.ex.v.k, .bool y.ex.v.d.b, .int .u64 y.ex.v.d.n0, .int .u64 y.ex.v.d.n1, .int .u64 y.ex.v.d.n2, .int .u64 y.ex.v.d.n3, .int .i64 y.ex.v.d.s, .bool y.ex.v.f, .string y.ex.v.t, .int .i64 y.ex.v.e, .int .i64 y.ex.sc, .int .i64 y.ex.po, .slice y.ex.pa y.ex.args.length y.ex.cap]] (.bool false) rfl rfl (fun _ _ => by kernel_rfl) (cB hf61 (lacks_n i hil y.ex (hC.mo M) ((h5.ex y (List.mem_of_getElem? hy)).kp M.kp))) rfl ?_
     intro w73 hq
     replace Q1 := Q1.mo hq
     replace Q3 := Q3.mo hq
     replace M := M.trans hq
     clear hq
     refine wl_pick (.tmp 29) (.tmp 34) (.const (.bool false)) true (.bool false) (fun _ => rfl) rfl rfl rfl ?_
     refine w_nil (xn_then (w_condF rfl (w_skip (xn_blk (xn_then (w_reg ?_))))))
     refine wl_bin (fun x y => do eqGuard .add 3 (.tmp 21) (.const (.int .i64 (1))) x y; binOp .add 3 x y) (.tmp 21) (.const (.int .i64 (1))) (.int .i64 ((j : Nat) : Int)) (.int .i64 (1)) (.int .i64 ((j + 1 : Nat) : Int)) (fun _ => rfl) e70_i rfl (add1r (k := j) (by omega) _ _ _) rfl ?_
     refine wl_m (.tmp 39) (.int .i64 ((j + 1 : Nat) : Int)) ?_
     refine w_nil ?_
     exact xn_loop (x.items.length - (j + 1)) (by omega) ⟨j + 1, rfl, by omega, e70_0, e70_2, e70_4, e70_11, e70_12, e70_13, e70_19, e70_20, rfl, Q1, fs_step hH ((foG_of hx hy).trans (by rw [hf60, hf61]; rfl)), M⟩
  ·skip
   have hjd : decide (j < x.items.length) = false := decide_eq_false hjl
   have hje : j = x.items.length := by omega
   refine w_seq (w_reg ?_)
   refine wl_bin (fun x y => do eqGuard .lss 3 (.tmp 21) (.tmp 20) x y; binOp .lss 3 x y) (.tmp 21) (.tmp 20) (.int .i64 ((j : Nat) : Int)) (.int .i64 ((x.items.length : Nat) : Int)) (.bool false) (fun _ => rfl) e70_i e70_20 (ltN hjd _ _ _) rfl ?_
   refine w_nil (xn_then (w_seq (w_condF rfl (w_exit (xx_then (xx_then (xx_blk (xn_blk (xn_then (w_reg ?_))))))))))
   refine wl_bin (fun x y => do eqGuard .add 3 (.tmp 13) (.const (.int .i64 (1))) x y; binOp .add 3 x y) (.tmp 13) (.const (.int .i64 (1))) (.int .i64 ((i : Nat) : Int)) (.int .i64 (1)) (.int .i64 ((i + 1 : Nat) : Int)) (fun _ => rfl) e70_13 rfl (add1r (k := i) (by omega) _ _ _) rfl ?_
   refine wl_m (.tmp 40) (.int .i64 ((i + 1 : Nat) : Int)) ?_
   refine w_nil ?_
   exact xn_loop (z.L.length - (i + 1)) (by omega) ⟨i + 1, rfl, by omega, e70_0, e70_2, e70_11, e70_12, rfl, Q1, fs_step hG (fs_none (by rw [itO_of hx, ← hje]; exact hH)), M⟩
 ·skip
  have hid : decide (i < z.L.length) = false := decide_eq_false hil
  have hie : i = z.L.length := by omega
  refine w_seq (w_reg ?_)
  refine wl_bin (fun x y => do eqGuard .lss 3 (.tmp 13) (.tmp 12) x y; binOp .lss 3 x y) (.tmp 13) (.tmp 12) (.int .i64 ((i : Nat) : Int)) (.int .i64 ((z.L.length : Nat) : Int)) (.bool false) (fun _ => rfl) e40_i e40_12 (ltN hid _ _ _) rfl ?_
  refine w_nil (xn_then (w_seq (w_condF rfl (w_exit (xx_then (xx_then (xx_blk (xn_then (w_seq (w_reg ?_))))))))))
  refine wl_build 52 [] [] (.agg #[.int .i64 0, .int .i64 0, .int .i64 0, .int .i64 0, .int .i64 0]) rfl rfl (by kernel_rfl) rfl ?_
  refine wl_st 52 (.tmp 2) (.tmp 41) k1 0 #[.int .i64 0, .int .i64 0, .int .i64 0, .int .i64 0, .int .i64 0] _ [.int .i64 0, .int .i64 0, .int .i64 0, .int .i64 0, .int .i64 0] Q1 rfl rfl e40_2 rfl rfl sz52 rfl rfl rfl ?_
  intro w41 hS Qn
  replace Q1 := Qn
  clear Qn
  replace M := hS.mo _ N_k1 M
  clear hS
  refine wl_m (.const (.int .i64 (0))) (.int .i64 (0)) ?_
  refine w_nil (xn_then (w_ret ?_))
  exact w_ret2 _ _ (.agg #[.int .i64 0, .int .i64 0, .int .i64 0, .int .i64 0, .int .i64 0]) (.int .i64 (0)) rfl ⟨k1, e40_2, (run_row Q1 52 0 5 _ rfl Tryd.underlying52 rfl sz52)⟩ rfl ⟨by unfold foR; rw [fs_none (by rw [← hie]; exact hG)]; rfl, M⟩
end Go.Proofs.YtnffhcjmpjajlaaDoor

namespace Go.Proofs.YtnffhcjmpjajlaaDoor
open Go.RowKit D
theorem page_n {w : World} {z : Zc} {A : Al} (hC : CK w z A) (h0 : 0 < z.L.length) {pb : Nat} {P : List (ByteArray × Int)} (hP : OM w pb P) (x : Pg) (hL : LEx w x.wh) : Calls Tryd.prog 64 #[pt z.cb 0, .agg (x.cells).toArray, .map (some pb)] w fun e w' => e = .returned (.int .i64 (pgE z.L A P x)) ∧ Mo w w' := by
 refine w_enter 27 Tryd.func64 Tryd.ntmps64 rfl rfl ?_
 have M : Mo w w := Mo.refl _
 refine w_seq (w_reg ?_)
 refine wl_box 122 (.tmp 1) _ (((x.cells).toArray)) rfl rfl (fun _ => by kernel_rfl) rfl ?_
 intro k1 w1 hk hz hq Q1
 have N_k1 : w.heap.size ≤ k1 := by have := M.size; omega
 replace M := M.trans hq
 clear hk hz hq
 refine wl_m (.const (.int .i64 (0))) (.int .i64 (0)) ?_
 refine w_nil (xn_then (w_seq (w_block (w_seq (w_reg ?_)))))
 refine wl_f 122 0 (.tmp 4) (pt k1 0) (pt k1 0) ?_
 refine wl_l 9 (.tmp 8) (pt k1 0) (.string x.nm) (run_one Q1 9 0 rfl Tryd.underlying9 rfl) ?_
 cases hf0 : may x.nm with
 | true =>
  refine wl_call 58 [(.tmp 9)] _ [.string x.nm] (.bool true) rfl rfl (fun _ _ => by kernel_rfl) (cB hf0 (may_n x.nm _)) rfl ?_
  intro w2 hq
  replace Q1 := Q1.mo hq
  replace M := M.trans hq
  clear hq
  refine wl_un (fun v => Op.unary .not v) (.tmp 10) (.bool true) (.bool false) (fun _ => rfl) rfl (by kernel_rfl) rfl ?_
  refine wl_m (.tmp 11) (.bool false) ?_
  refine w_nil (xn_then (w_condF rfl (w_seq (w_reg ?_))))
  refine wl_m (.tmp 2) (.map (some pb)) ?_
  refine wl_f 122 0 (.tmp 4) (pt k1 0) (pt k1 0) ?_
  refine wl_l 9 (.tmp 14) (pt k1 0) (.string x.nm) (run_one Q1 9 0 rfl Tryd.underlying9 rfl) ?_
  cases hf1 : (lk P x.nm).isSome with
  | true =>
   refine wl_call 75 [(.tmp 13), (.tmp 15)] _ [.map (some pb), .string x.nm] (.bool true) rfl rfl (fun _ _ => by kernel_rfl) (cB hf1 (has_n (hP.mo M) x.nm (Nat.le_trans (may_sz hf0) (by decide)))) rfl ?_
   intro w3 hq
   replace Q1 := Q1.mo hq
   replace M := M.trans hq
   clear hq
   refine wl_m (.tmp 16) (.bool true) ?_
   refine w_nil (xn_then (w_condT rfl (w_seq (w_reg ?_))))
   refine wl_m (.const (.int .i64 (5))) (.int .i64 (5)) ?_
   refine w_nil (xn_then (w_ret (xr_blk (xr_then ?_))))
   exact w_ret1 _ (.int .i64 (5)) rfl rfl ⟨by unfold pgE; rw [hf0, hf1]; first | done | rfl, M⟩
  | false =>
   refine wl_call 75 [(.tmp 13), (.tmp 15)] _ [.map (some pb), .string x.nm] (.bool false) rfl rfl (fun _ _ => by kernel_rfl) (cB hf1 (has_n (hP.mo M) x.nm (Nat.le_trans (may_sz hf0) (by decide)))) rfl ?_
   intro w3 hq
   replace Q1 := Q1.mo hq
   replace M := M.trans hq
   clear hq
   refine wl_m (.tmp 16) (.bool false) ?_
   refine w_nil (xn_then (w_condF rfl (w_seq (w_reg ?_))))
   refine wl_f 122 2 (.tmp 4) (pt k1 0) (pt k1 18) ?_
   refine wl_l 120 (.tmp 18) (pt k1 18) (.slice x.pa x.its.length x.cap) (run_one Q1 120 18 rfl Tryd.underlying120 rfl) ?_
   refine wl_val (.int .i64 ((x.its.length : Nat) : Int)) (len120 _ _ _ _ _ (by exact rfl) _ _ _ _ _ _) rfl ?_
   cases hf2 : decide (64 < x.its.length) with
   | true =>
    have hf2p := of_decide_eq_true hf2
    refine wl_b .gtr 3 (.tmp 20) (.const (.int .i64 (64))) (.int .i64 ((x.its.length : Nat) : Int)) (.int .i64 (64)) (.bool true) (gtN hf2 _ _ _) ?_
    refine wl_m (.tmp 21) (.bool true) ?_
    refine w_nil (xn_then (w_condT rfl (w_seq (w_reg ?_))))
    refine wl_m (.const (.int .i64 (92))) (.int .i64 (92)) ?_
    refine w_nil (xn_then (w_ret (xr_blk (xr_then ?_))))
    exact w_ret1 _ (.int .i64 (92)) rfl rfl ⟨by unfold pgE; rw [hf0, hf1, hf2]; first | done | rfl, M⟩
   | false =>
    have hf2p := of_decide_eq_false hf2
    refine wl_b .gtr 3 (.tmp 20) (.const (.int .i64 (64))) (.int .i64 ((x.its.length : Nat) : Int)) (.int .i64 (64)) (.bool false) (gtN hf2 _ _ _) ?_
    refine wl_m (.tmp 21) (.bool false) ?_
    refine w_nil (xn_then (w_condF rfl (w_seq (w_reg ?_))))
    refine wl_m (.tmp 0) (pt z.cb 0) ?_
    refine wl_f 122 1 (.tmp 4) (pt k1 0) (pt k1 1) ?_
    refine wl_l 77 (.tmp 24) (pt k1 1) (.agg (x.wh.cells).toArray) (run_row Q1 77 1 17 (x.wh.cells) rfl Tryd.underlying77 rfl sz77) ?_
    cases hf3 : lck (kno z.L A 0) x.wh with
    | true =>
     refine wl_call 63 [(.tmp 23), (.const (.int .i64 (0))), (.tmp 25)] _ [pt z.cb 0, .int .i64 (0), .agg (x.wh.cells).toArray] (.bool true) rfl rfl (fun _ _ => by kernel_rfl) (cB hf3 (lacks_n 0 h0 x.wh (hC.mo M) (hL.kp M.kp))) rfl ?_
     intro w4 hq
     replace Q1 := Q1.mo hq
     replace M := M.trans hq
     clear hq
     refine wl_m (.tmp 26) (.bool true) ?_
     refine w_nil (xn_then (w_condT rfl (w_seq (w_reg ?_))))
     refine wl_m (.const (.int .i64 (91))) (.int .i64 (91)) ?_
     refine w_nil (xn_then (w_ret (xr_blk (xr_then ?_))))
     exact w_ret1 _ (.int .i64 (91)) rfl rfl ⟨by unfold pgE; rw [hf0, hf1, hf2, hf3]; first | done | rfl, M⟩
    | false =>
     refine wl_call 63 [(.tmp 23), (.const (.int .i64 (0))), (.tmp 25)] _ [pt z.cb 0, .int .i64 (0), .agg (x.wh.cells).toArray] (.bool false) rfl rfl (fun _ _ => by kernel_rfl) (cB hf3 (lacks_n 0 h0 x.wh (hC.mo M) (hL.kp M.kp))) rfl ?_
     intro w4 hq
     replace Q1 := Q1.mo hq
     replace M := M.trans hq
     clear hq
     refine wl_m (.tmp 26) (.bool false) ?_
     refine w_nil (xn_then (w_condF rfl (w_skip (xn_blk (xn_then (w_seq (w_reg ?_)))))))
     refine wl_m (.const (.int .i64 (0))) (.int .i64 (0)) ?_
     refine w_nil (xn_then (w_ret ?_))
     exact w_ret1 _ (.int .i64 (0)) rfl rfl ⟨by unfold pgE; rw [hf0, hf1, hf2, hf3]; first | done | rfl, M⟩
 | false =>
  refine wl_call 58 [(.tmp 9)] _ [.string x.nm] (.bool false) rfl rfl (fun _ _ => by kernel_rfl) (cB hf0 (may_n x.nm _)) rfl ?_
  intro w2 hq
  replace Q1 := Q1.mo hq
  replace M := M.trans hq
  clear hq
  refine wl_un (fun v => Op.unary .not v) (.tmp 10) (.bool false) (.bool true) (fun _ => rfl) rfl (by kernel_rfl) rfl ?_
  refine wl_m (.tmp 11) (.bool true) ?_
  refine w_nil (xn_then (w_condT rfl (w_seq (w_reg ?_))))
  refine wl_m (.const (.int .i64 (90))) (.int .i64 (90)) ?_
  refine w_nil (xn_then (w_ret (xr_blk (xr_then ?_))))
  exact w_ret1 _ (.int .i64 (90)) rfl rfl ⟨by unfold pgE; rw [hf0]; first | done | rfl, M⟩
theorem show_n {w : World} {z : Zc} {A : Al} (hC : CK w z A) (h0 : 0 < z.L.length) {sb : Nat} {S : List (ByteArray × Int)} (hS : OM w sb S) (hsb : ¬ z.D sb) (p : Int) {pa : Option Addr} {cap : Nat} {its : List ByteArray} (hN : SL w 1 (fun s => [Value.string s]) pa its) (hz : ∀ s ∈ its, s.size ≤ maxLen) (hb : S.length + its.length < 1000000) : Calls Tryd.prog 65 #[pt z.cb 0, .int .i64 p, .slice pa its.length cap, .map (some sb)] w fun e w' => e = .returned (.int .i64 (shR A p S its)) ∧ Mk (fun j => j = sb) w w' ∧ (shR A p S its = 0 → OM w' sb (shA p S its its.length)) := by
 refine w_enter 46 Tryd.func65 Tryd.ntmps65 rfl rfl ?_
 have M : Mo w w := Mo.refl _
 refine w_seq (w_reg ?_)
 refine wl_m (.const (.int .i64 (0))) (.int .i64 (0)) ?_
 refine w_nil (xn_then (w_seq (w_seq (w_reg ?_))))
 refine wl_m (.tmp 2) (.slice pa its.length cap) ?_
 refine wl_val (.int .i64 ((its.length : Nat) : Int)) (len120 _ _ _ _ _ (by exact rfl) _ _ _ _ _ _) rfl ?_
 refine wl_m (.const (.int .i64 (0))) (.int .i64 (0)) ?_
 refine w_nil (xn_then (w_block ?_))
 have hlm : 0 < z.MI.length := by rw [hC.lm]; exact h0
 have hlk : 0 < z.KI.length := by rw [hC.lk]; exact h0
 obtain ⟨ib, hib⟩ := get_of_lt hlm
 obtain ⟨kb, hkb⟩ := get_of_lt hlk
 refine w_loop (fun m l w1 => ∃ i : Nat, m = its.length - i ∧ i ≤ its.length ∧ look l 0 = pt z.cb 0 ∧ look l 1 = .int .i64 (p) ∧ look l 3 = .map (some sb) ∧ look l 11 = .slice pa its.length cap ∧ look l 12 = .int .i64 ((its.length : Nat) : Int) ∧ look l 13 = .int .i64 ((i : Nat) : Int) ∧ (CK w1 z A) ∧ (OM w1 sb (shA p S its i)) ∧ (∀ j, j < i → shG A p S its j = none) ∧ Mk (fun j => j = sb) w w1) _ ⟨0, rfl, Nat.zero_le _, rfl, rfl, rfl, rfl, rfl, rfl, hC.mo M, hS.mo M, (fun j hj => by omega), Mk.of _ M⟩ ?_
 clear M
 rintro m l40 wl40 ⟨i, rfl, hi, e40_0, e40_1, e40_3, e40_11, e40_12, e40_i, hC1, hS1, hG, MK⟩
 by_cases hil : i < its.length
 ·skip
  have hid : decide (i < its.length) = true := decide_eq_true hil
  have M : Mo wl40 wl40 := Mo.refl _
  have hN1 := hN.kp (MK.kp (fun j e o => by rw [e]; exact hS.nocell o))
  obtain ⟨a, ha⟩ := get_of_lt hil
  have hza := hz a (List.mem_of_getElem? ha)
  have hIo := hC1.oi 0 ib hib
  have hKo := hC1.ok 0 kb hkb
  obtain ⟨b1, o1, hp1, hR1⟩ := D.SL.rw hN1 ha
  obtain ⟨b2, o2, hp2, hR2⟩ := D.SL.rw hC1.mi hib
  obtain ⟨b3, o3, hp3, hR3⟩ := D.SL.rw hC1.ki hkb
  refine w_seq (w_reg ?_)
  refine wl_bin (fun x y => do eqGuard .lss 3 (.tmp 13) (.tmp 12) x y; binOp .lss 3 x y) (.tmp 13) (.tmp 12) (.int .i64 ((i : Nat) : Int)) (.int .i64 ((its.length : Nat) : Int)) (.bool true) (fun _ => rfl) e40_i e40_12 (ltN hid _ _ _) rfl ?_
  refine w_nil (xn_then (w_seq (w_condT rfl (w_skip (xn_then (w_seq (w_block (w_seq (w_reg ?_)))))))))
  refine wl_bin (fun x y => Instr.indexAt 120 x y) (.tmp 11) (.tmp 13) (.slice pa its.length cap) (.int .i64 ((i : Nat) : Int)) (pt b1 (o1 + i * 1)) (fun _ => rfl) e40_11 e40_i (ix120 (i := i) hp1 hil _) rfl ?_
  refine wl_l 9 (.tmp 15) (pt b1 (o1 + i * 1)) (.string a) (D.run_oneR (hR1.mo M).at' 9 0 rfl Tryd.underlying9 rfl) ?_
  refine wl_m (.tmp 16) (.string a) ?_
  refine w_nil (xn_then (w_seq (w_block (w_seq (w_reg ?_)))))
  refine wl_mv (.tmp 0) (pt z.cb 0) (fun _ => rfl) e40_0 rfl ?_
  refine wl_nc (.tmp 18) z.cb 0 rfl rfl rfl ?_
  refine wl_f 111 3 (.tmp 19) (pt z.cb 0) (pt z.cb 9) ?_
  refine wl_l 109 (.tmp 20) (pt z.cb 9) (.slice z.ip z.MI.length z.ic) (D.run_oneR (hC1.rw.mo M).at' 109 9 rfl Tryd.underlying109 rfl) ?_
  refine wl_bin (fun x y => Instr.indexAt 109 x y) (.tmp 21) (.const (.int .i64 (0))) (.slice z.ip z.MI.length z.ic) (.int .i64 (0)) (pt b2 (o2 + 0 * 1)) (fun _ => rfl) rfl rfl (ix109 (i := 0) hp2 hlm _) rfl ?_
  refine wl_l 108 (.tmp 22) (pt b2 (o2 + 0 * 1)) (.map (some ib)) (D.run_oneR (hR2.mo M).at' 108 0 rfl Tryd.underlying108 rfl) ?_
  refine wl_m (.tmp 10) (.string a) ?_
  refine wl_val (.int .i64 ((lk (A.I 0) a).getD 0)) (lkp 108 (.tmp 23) (.tmp 24) false (.map (some ib)) (.string a) (.int .i64 ((lk (A.I 0) a).getD 0)) rfl rfl rfl ((hIo.mo M).look hza)) rfl ?_
  cases hf30 : decide ((lk (A.I 0) a).getD 0 = 1) with
  | true =>
   have hf30p := of_decide_eq_true hf30
   refine wl_b .neq 3 (.tmp 25) (.const (.int .i64 (1))) (.int .i64 ((lk (A.I 0) a).getD 0)) (.int .i64 (1)) (.bool false) (ne3 hf30 _ _ _) ?_
   refine wl_m (.tmp 26) (.bool false) ?_
   refine wl_skip rfl (wl_skip rfl (wl_skip rfl (wl_skip rfl (wl_skip rfl (wl_skip rfl (wl_skip rfl (wl_skip rfl (wl_skip rfl ?_))))))))
   refine wl_pick (.tmp 27) (.tmp 36) (.const (.bool false)) false (.bool false) (fun _ => rfl) rfl rfl rfl ?_
   refine wl_m (.tmp 37) (.bool false) ?_
   refine w_nil (xn_then (w_condF rfl (w_seq (w_reg ?_))))
   refine wl_mv (.tmp 3) (.map (some sb)) (fun _ => rfl) e40_3 rfl ?_
   refine wl_m (.tmp 10) (.string a) ?_
   cases hf31 : (lk (shA p S its i) a).isSome with
   | true =>
    refine wl_call 75 [(.tmp 39), (.tmp 40)] _ [.map (some sb), .string a] (.bool true) rfl rfl (fun _ _ => by kernel_rfl) (cB hf31 (has_n (hS1.mo M) a hza)) rfl ?_
    intro w41 hq
    replace M := M.trans hq
    clear hq
    refine wl_m (.tmp 41) (.bool true) ?_
    refine w_nil (xn_then (w_condT rfl (w_seq (w_reg ?_))))
    refine wl_m (.const (.int .i64 (5))) (.int .i64 (5)) ?_
    refine w_nil (xn_then (w_ret (xr_blk (xr_then (xr_blk (xr_then (xr_then (xr_blk (xr_then ?_)))))))))
    have hsh : shR A p S its = 5 := by unfold shR; rw [fs_hit hG (x := 5) ((shG_of ha).trans (by rw [show shE A (shA p S its i) a = 5 from (by  unfold shE; rw [hf30, hf31]; first | done | rfl)]; rfl)) hil]; rfl
    exact w_ret1 _ (.int .i64 (5)) rfl rfl ⟨by rw [hsh], MK.trans M, fun h => by rw [hsh] at h; cases h⟩
   | false =>
    refine wl_call 75 [(.tmp 39), (.tmp 40)] _ [.map (some sb), .string a] (.bool false) rfl rfl (fun _ _ => by kernel_rfl) (cB hf31 (has_n (hS1.mo M) a hza)) rfl ?_
    intro w41 hq
    replace M := M.trans hq
    clear hq
    refine wl_m (.tmp 41) (.bool false) ?_
    refine w_nil (xn_then (w_condF rfl (w_skip (xn_blk (xn_then (w_reg ?_))))))
    refine wl_mv (.tmp 3) (.map (some sb)) (fun _ => rfl) e40_3 rfl ?_
    refine wl_m (.tmp 10) (.string a) ?_
    refine wl_mv (.tmp 1) (.int .i64 (p)) (fun _ => rfl) e40_1 rfl ?_
    refine wl_mup (.tmp 42) (.tmp 43) (.tmp 44) sb a (p) (hS1.mo M) (by have := shA_len p S its i; omega) hza (isn hf31) rfl rfl rfl rfl rfl rfl ?_
    intro w42 hO9 hK9
    have hC9 := (hC1.mo M).other (hS1.mo M) hsb hK9
    replace MK := (MK.trans M).same hK9
    clear M
    have M : Mo w42 w42 := Mo.refl _
    refine w_nil (xn_blk (xn_then (w_reg ?_)))
    refine wl_bin (fun x y => do eqGuard .add 3 (.tmp 13) (.const (.int .i64 (1))) x y; binOp .add 3 x y) (.tmp 13) (.const (.int .i64 (1))) (.int .i64 ((i : Nat) : Int)) (.int .i64 (1)) (.int .i64 ((i + 1 : Nat) : Int)) (fun _ => rfl) e40_i rfl (add1r (k := i) (by omega) _ _ _) rfl ?_
    refine wl_m (.tmp 45) (.int .i64 ((i + 1 : Nat) : Int)) ?_
    refine w_nil ?_
    exact xn_loop (its.length - (i + 1)) (by omega) ⟨i + 1, rfl, by omega, e40_0, e40_1, e40_3, e40_11, e40_12, rfl, hC9.mo M, by rw [shA_s ha]; exact hO9.mo M, fs_step hG ((shG_of ha).trans (by rw [show shE A (shA p S its i) a = 0 from (by  unfold shE; rw [hf30, hf31]; first | done | rfl)]; rfl)), MK.trans M⟩
  | false =>
   have hf30p := of_decide_eq_false hf30
   refine wl_b .neq 3 (.tmp 25) (.const (.int .i64 (1))) (.int .i64 ((lk (A.I 0) a).getD 0)) (.int .i64 (1)) (.bool true) (ne3 hf30 _ _ _) ?_
   refine wl_m (.tmp 26) (.bool true) ?_
   refine wl_mv (.tmp 0) (pt z.cb 0) (fun _ => rfl) e40_0 rfl ?_
   refine wl_nc (.tmp 28) z.cb 0 rfl rfl rfl ?_
   refine wl_f 111 4 (.tmp 29) (pt z.cb 0) (pt z.cb 10) ?_
   refine wl_l 109 (.tmp 30) (pt z.cb 10) (.slice z.kp z.KI.length z.kc) (D.run_oneR (hC1.rw.mo M).at' 109 10 rfl Tryd.underlying109 rfl) ?_
   refine wl_bin (fun x y => Instr.indexAt 109 x y) (.tmp 31) (.const (.int .i64 (0))) (.slice z.kp z.KI.length z.kc) (.int .i64 (0)) (pt b3 (o3 + 0 * 1)) (fun _ => rfl) rfl rfl (ix109 (i := 0) hp3 hlk _) rfl ?_
   refine wl_l 108 (.tmp 32) (pt b3 (o3 + 0 * 1)) (.map (some kb)) (D.run_oneR (hR3.mo M).at' 108 0 rfl Tryd.underlying108 rfl) ?_
   refine wl_m (.tmp 10) (.string a) ?_
   cases hf31 : (lk (A.K 0) a).isSome with
   | true =>
    refine wl_call 75 [(.tmp 33), (.tmp 34)] _ [.map (some kb), .string a] (.bool true) rfl rfl (fun _ _ => by kernel_rfl) (cB hf31 (has_n (hKo.mo M) a hza)) rfl ?_
    intro w41 hq
    replace M := M.trans hq
    clear hq
    refine wl_un (fun v => Op.unary .not v) (.tmp 35) (.bool true) (.bool false) (fun _ => rfl) rfl (by kernel_rfl) rfl ?_
    refine wl_pick (.tmp 27) (.tmp 36) (.const (.bool false)) true (.bool false) (fun _ => rfl) rfl rfl rfl ?_
    refine wl_m (.tmp 37) (.bool false) ?_
    refine w_nil (xn_then (w_condF rfl (w_seq (w_reg ?_))))
    refine wl_mv (.tmp 3) (.map (some sb)) (fun _ => rfl) e40_3 rfl ?_
    refine wl_m (.tmp 10) (.string a) ?_
    cases hf32 : (lk (shA p S its i) a).isSome with
    | true =>
     refine wl_call 75 [(.tmp 39), (.tmp 40)] _ [.map (some sb), .string a] (.bool true) rfl rfl (fun _ _ => by kernel_rfl) (cB hf32 (has_n (hS1.mo M) a hza)) rfl ?_
     intro w42 hq
     replace M := M.trans hq
     clear hq
     refine wl_m (.tmp 41) (.bool true) ?_
     refine w_nil (xn_then (w_condT rfl (w_seq (w_reg ?_))))
     refine wl_m (.const (.int .i64 (5))) (.int .i64 (5)) ?_
     refine w_nil (xn_then (w_ret (xr_blk (xr_then (xr_blk (xr_then (xr_then (xr_blk (xr_then ?_)))))))))
     have hsh : shR A p S its = 5 := by unfold shR; rw [fs_hit hG (x := 5) ((shG_of ha).trans (by rw [show shE A (shA p S its i) a = 5 from (by  unfold shE; rw [hf30, hf31, hf32]; first | done | rfl)]; rfl)) hil]; rfl
     exact w_ret1 _ (.int .i64 (5)) rfl rfl ⟨by rw [hsh], MK.trans M, fun h => by rw [hsh] at h; cases h⟩
    | false =>
     refine wl_call 75 [(.tmp 39), (.tmp 40)] _ [.map (some sb), .string a] (.bool false) rfl rfl (fun _ _ => by kernel_rfl) (cB hf32 (has_n (hS1.mo M) a hza)) rfl ?_
     intro w42 hq
     replace M := M.trans hq
     clear hq
     refine wl_m (.tmp 41) (.bool false) ?_
     refine w_nil (xn_then (w_condF rfl (w_skip (xn_blk (xn_then (w_reg ?_))))))
     refine wl_mv (.tmp 3) (.map (some sb)) (fun _ => rfl) e40_3 rfl ?_
     refine wl_m (.tmp 10) (.string a) ?_
     refine wl_mv (.tmp 1) (.int .i64 (p)) (fun _ => rfl) e40_1 rfl ?_
     refine wl_mup (.tmp 42) (.tmp 43) (.tmp 44) sb a (p) (hS1.mo M) (by have := shA_len p S its i; omega) hza (isn hf32) rfl rfl rfl rfl rfl rfl ?_
     intro w43 hO9 hK9
     have hC9 := (hC1.mo M).other (hS1.mo M) hsb hK9
     replace MK := (MK.trans M).same hK9
     clear M
     have M : Mo w43 w43 := Mo.refl _
     refine w_nil (xn_blk (xn_then (w_reg ?_)))
     refine wl_bin (fun x y => do eqGuard .add 3 (.tmp 13) (.const (.int .i64 (1))) x y; binOp .add 3 x y) (.tmp 13) (.const (.int .i64 (1))) (.int .i64 ((i : Nat) : Int)) (.int .i64 (1)) (.int .i64 ((i + 1 : Nat) : Int)) (fun _ => rfl) e40_i rfl (add1r (k := i) (by omega) _ _ _) rfl ?_
     refine wl_m (.tmp 45) (.int .i64 ((i + 1 : Nat) : Int)) ?_
     refine w_nil ?_
     exact xn_loop (its.length - (i + 1)) (by omega) ⟨i + 1, rfl, by omega, e40_0, e40_1, e40_3, e40_11, e40_12, rfl, hC9.mo M, by rw [shA_s ha]; exact hO9.mo M, fs_step hG ((shG_of ha).trans (by rw [show shE A (shA p S its i) a = 0 from (by  unfold shE; rw [hf30, hf31, hf32]; first | done | rfl)]; rfl)), MK.trans M⟩
   | false =>
    refine wl_call 75 [(.tmp 33), (.tmp 34)] _ [.map (some kb), .string a] (.bool false) rfl rfl (fun _ _ => by kernel_rfl) (cB hf31 (has_n (hKo.mo M) a hza)) rfl ?_
    intro w41 hq
    replace M := M.trans hq
    clear hq
    refine wl_un (fun v => Op.unary .not v) (.tmp 35) (.bool false) (.bool true) (fun _ => rfl) rfl (by kernel_rfl) rfl ?_
    refine wl_pick (.tmp 27) (.tmp 36) (.const (.bool false)) true (.bool true) (fun _ => rfl) rfl rfl rfl ?_
    refine wl_m (.tmp 37) (.bool true) ?_
    refine w_nil (xn_then (w_condT rfl (w_seq (w_reg ?_))))
    refine wl_m (.const (.int .i64 (91))) (.int .i64 (91)) ?_
    refine w_nil (xn_then (w_ret (xr_blk (xr_then (xr_blk (xr_then (xr_then (xr_blk (xr_then ?_)))))))))
    have hsh : shR A p S its = 91 := by unfold shR; rw [fs_hit hG (x := 91) ((shG_of ha).trans (by rw [show shE A (shA p S its i) a = 91 from (by  unfold shE; rw [hf30, hf31]; first | done | rfl)]; rfl)) hil]; rfl
    exact w_ret1 _ (.int .i64 (91)) rfl rfl ⟨by rw [hsh], MK.trans M, fun h => by rw [hsh] at h; cases h⟩
 ·skip
  have hid : decide (i < its.length) = false := decide_eq_false hil
  have hie : i = its.length := by omega
  have M : Mo wl40 wl40 := Mo.refl _
  refine w_seq (w_reg ?_)
  refine wl_bin (fun x y => do eqGuard .lss 3 (.tmp 13) (.tmp 12) x y; binOp .lss 3 x y) (.tmp 13) (.tmp 12) (.int .i64 ((i : Nat) : Int)) (.int .i64 ((its.length : Nat) : Int)) (.bool false) (fun _ => rfl) e40_i e40_12 (ltN hid _ _ _) rfl ?_
  refine w_nil (xn_then (w_seq (w_condF rfl (w_exit (xx_then (xx_then (xx_blk (xn_then (w_seq (w_reg ?_))))))))))
  refine wl_m (.const (.int .i64 (0))) (.int .i64 (0)) ?_
  refine w_nil (xn_then (w_ret ?_))
  exact w_ret1 _ (.int .i64 (0)) rfl rfl ⟨by unfold shR; rw [fs_none (by rw [← hie]; exact hG)]; rfl, MK.trans M, fun _ => by rw [hie] at hS1; exact hS1.mo M⟩
theorem pgE_0 {L : List S5} {A : Al} {P : List (ByteArray × Int)} {x : Pg} (h : pgE L A P x = 0) : may x.nm = true ∧ lk P x.nm = none ∧ x.its.length ≤ 64 := by
 unfold pgE at h
 split at h
 ·rename_i h1
  split at h
  ·cases h
  ·rename_i h2
   split at h
   ·cases h
   ·rename_i h3
    exact ⟨h1, isn (by simpa using h2), by simpa using h3⟩
 ·cases h
theorem pages_n {w : World} {z : Zc} {A : Al} (hC : CK w z A) (h0 : 0 < z.L.length) (hl : z.d.pg.length ≤ 16) : Calls Tryd.prog 47 #[pt z.cb 0] w fun e w' => e = .returned (rv (pgR z.L A z.d.pg)) ∧ Mo w w' := by
 refine w_enter 45 Tryd.func47 Tryd.ntmps47 rfl rfl ?_
 have M : Mo w w := Mo.refl _
 refine w_seq (w_reg ?_)
 refine wl_alloc 52 #[.int .i64 0, .int .i64 0, .int .i64 0, .int .i64 0, .int .i64 0] rfl (fun _ => by kernel_rfl) rfl ?_
 intro k1 w1 hk hz hq Q1
 have N_k1 : w.heap.size ≤ k1 := by have := M.size; omega
 replace M := M.trans hq
 clear hk hz hq
 refine wl_m (.const (.int .i64 (0))) (.int .i64 (0)) ?_
 refine w_nil (xn_then (w_seq (w_reg ?_)))
 refine wl_mm 108 rfl rfl ?_
 intro mb1 w2 hk hz9 hq hO_mb1
 have ne_k1_mb1 : k1 ≠ mb1 := by have := Q1.lt; omega
 have N_mb1 : w.heap.size ≤ mb1 := by have := M.size; omega
 replace Q1 := Q1.mo hq
 replace M := M.trans hq
 clear hk hz9 hq
 refine wl_mm 108 rfl rfl ?_
 intro mb2 w3 hk hz9 hq hO_mb2
 have ne_k1_mb2 : k1 ≠ mb2 := by have := Q1.lt; omega
 have nm_mb1_mb2 : mb1 ≠ mb2 := by have := hO_mb1.lt; omega
 have N_mb2 : w.heap.size ≤ mb2 := by have := M.size; omega
 replace Q1 := Q1.mo hq
 replace hO_mb1 := hO_mb1.mo hq
 replace M := M.trans hq
 clear hk hz9 hq
 refine wl_m (.tmp 9) (.map (some mb1)) ?_
 refine wl_m (.tmp 10) (.map (some mb2)) ?_
 refine w_nil (xn_then (w_seq (w_seq (w_reg ?_))))
 refine wl_m (.tmp 0) (pt z.cb 0) ?_
 refine wl_nc (.tmp 11) z.cb 0 rfl rfl rfl ?_
 refine wl_f 111 0 (.tmp 12) (pt z.cb 0) (pt z.cb 0) ?_
 refine wl_f 49 3 (.tmp 13) (pt z.cb 0) (pt z.cb 6) ?_
 refine wl_l 47 (.tmp 14) (pt z.cb 6) (.slice z.d.pp z.d.pg.length z.d.cp) (D.run_oneR (hC.rw.mo M).at' 47 6 rfl Tryd.underlying47 rfl) ?_
 refine wl_val (.int .i64 ((z.d.pg.length : Nat) : Int)) (len47 _ _ _ _ _ (by exact rfl) _ _ _ _ _ _) rfl ?_
 refine wl_m (.const (.int .i64 (0))) (.int .i64 (0)) ?_
 refine w_nil (xn_then (w_block ?_))
 have hpb : ¬ z.D mb1 := fun h => by have := hC.dlt h; omega
 have hsb : ¬ z.D mb2 := fun h => by have := hC.dlt h; omega
 refine w_loop (fun m l w1 => ∃ i : Nat, m = z.d.pg.length - i ∧ i ≤ z.d.pg.length ∧ look l 0 = pt z.cb 0 ∧ look l 2 = pt k1 0 ∧ look l 4 = .map (some mb1) ∧ look l 5 = .map (some mb2) ∧ look l 15 = .slice z.d.pp z.d.pg.length z.d.cp ∧ look l 16 = .int .i64 ((z.d.pg.length : Nat) : Int) ∧ look l 17 = .int .i64 ((i : Nat) : Int) ∧ At w1 k1 [.int .i64 0, .int .i64 0, .int .i64 0, .int .i64 0, .int .i64 0] ∧ (CK w1 z A) ∧ (OM w1 mb1 (pgA z.d.pg i)) ∧ (OM w1 mb2 (pgS z.d.pg i)) ∧ ((pgS z.d.pg i).length ≤ 64 * i) ∧ (∀ j, j < i → pgG z.L A z.d.pg j = none) ∧ Mk (fun _ => False) w w1) _ ⟨0, rfl, Nat.zero_le _, rfl, rfl, rfl, rfl, rfl, rfl, rfl, Q1, hC.mo M, hO_mb1, hO_mb2, Nat.zero_le _, (fun j hj => by omega), Mk.of _ M⟩ ?_
 clear Q1 M
 rintro m l40 wl40 ⟨i, rfl, hi, e40_0, e40_2, e40_4, e40_5, e40_15, e40_16, e40_i, Q1, hC1, hP1, hS1, hSl, hG, MK⟩
 by_cases hil : i < z.d.pg.length
 ·skip
  have hid : decide (i < z.d.pg.length) = true := decide_eq_true hil
  have M : Mo wl40 wl40 := Mo.refl _
  obtain ⟨x, hx⟩ := get_of_lt hil
  have hxm := List.mem_of_getElem? hx
  obtain ⟨b1, o1, hp1, hR1⟩ := D.SL.rw hC1.df.pg hx
  refine w_seq (w_reg ?_)
  refine wl_bin (fun x y => do eqGuard .lss 3 (.tmp 17) (.tmp 16) x y; binOp .lss 3 x y) (.tmp 17) (.tmp 16) (.int .i64 ((i : Nat) : Int)) (.int .i64 ((z.d.pg.length : Nat) : Int)) (.bool true) (fun _ => rfl) e40_i e40_16 (ltN hid _ _ _) rfl ?_
  refine w_nil (xn_then (w_seq (w_condT rfl (w_skip (xn_then (w_seq (w_block (w_seq (w_reg ?_)))))))))
  refine wl_mv (.tmp 17) (.int .i64 ((i : Nat) : Int)) (fun _ => rfl) e40_i rfl ?_
  refine wl_bin (fun x y => Instr.indexAt 47 x y) (.tmp 15) (.tmp 17) (.slice z.d.pp z.d.pg.length z.d.cp) (.int .i64 ((i : Nat) : Int)) (pt b1 (o1 + i * 19)) (fun _ => rfl) e40_15 e40_i (ix47 (i := i) hp1 hil _) rfl ?_
  refine wl_l 122 (.tmp 20) (pt b1 (o1 + i * 19)) (.agg (x.cells).toArray) (D.run_partR (hR1.mo M).at' 122 0 19 (x.cells) rfl Tryd.underlying122 rfl sz122) ?_
  refine wl_alloc 122 #[.string ⟨#[]⟩, .int .i64 0, .int .i64 0, .string ⟨#[]⟩, .string ⟨#[]⟩, .int .i64 0, .bool false, .int .u64 0, .int .u64 0, .int .u64 0, .int .u64 0, .int .i64 0, .bool false, .string ⟨#[]⟩, .int .i64 0, .int .i64 0, .int .i64 0, .slice none 0 0, .slice none 0 0] rfl (fun _ => by kernel_rfl) rfl ?_
  intro k2 w41 hk hz hq Q2
  have ne_k1_k2 : k1 ≠ k2 := by have := Q1.lt; omega
  have N_k2 : wl40.heap.size ≤ k2 := by have := M.size; omega
  replace Q1 := Q1.mo hq
  replace M := M.trans hq
  clear hk hz hq
  refine wl_m (.tmp 19) (.int .i64 ((i : Nat) : Int)) ?_
  refine wl_st 122 (.tmp 7) (.tmp 21) k2 0 ((x.cells).toArray) _ (x.cells) Q2 rfl rfl rfl rfl rfl sz122 rfl rfl rfl ?_
  intro w42 hS Qn
  replace Q2 := Qn
  clear Qn
  replace Q1 := hS.other _ _ ne_k1_k2 Q1
  replace M := hS.mo _ N_k2 M
  clear hS
  refine w_nil (xn_then (w_seq (w_reg ?_)))
  refine wl_mv (.tmp 0) (pt z.cb 0) (fun _ => rfl) e40_0 rfl ?_
  refine wl_l 122 (.tmp 7) (pt k2 0) (.agg (x.cells).toArray) (run_row Q2 122 0 19 (x.cells) rfl Tryd.underlying122 rfl sz122) ?_
  refine wl_mv (.tmp 4) (.map (some mb1)) (fun _ => rfl) e40_4 rfl ?_
  refine wl_call 64 [(.tmp 22), (.tmp 23), (.tmp 24)] _ [pt z.cb 0, .agg (x.cells).toArray, .map (some mb1)] (.int .i64 (pgE z.L A (pgA z.d.pg i) x)) rfl rfl (fun _ _ => by kernel_rfl) (page_n (hC1.mo M) h0 (hP1.mo M) x ((hC1.df.wh x hxm).kp M.kp)) rfl ?_
  intro w43 hq
  replace Q1 := Q1.mo hq
  replace Q2 := Q2.mo hq
  replace M := M.trans hq
  clear hq
  refine wl_m (.tmp 25) (.int .i64 (pgE z.L A (pgA z.d.pg i) x)) ?_
  refine w_nil (xn_then (w_seq (w_seq (w_reg ?_))))
  refine wl_m (.tmp 8) (.int .i64 (pgE z.L A (pgA z.d.pg i) x)) ?_
  cases hf30 : decide (pgE z.L A (pgA z.d.pg i) x = 0) with
  | true =>
   have hf30p := of_decide_eq_true hf30
   refine wl_b .eql 31 (.tmp 26) (.const (.int .i64 (0))) (.int .i64 (pgE z.L A (pgA z.d.pg i) x)) (.int .i64 (0)) (.bool true) (eq34 hf30 _ _ _) ?_
   refine w_nil (xn_then (w_condT rfl (w_reg ?_)))
   refine wl_mv (.tmp 0) (pt z.cb 0) (fun _ => rfl) e40_0 rfl ?_
   refine wl_m (.tmp 6) (.int .i64 ((i : Nat) : Int)) ?_
   refine wl_f 122 2 (.tmp 7) (pt k2 0) (pt k2 18) ?_
   refine wl_l 120 (.tmp 30) (pt k2 18) (.slice x.pa x.its.length x.cap) (run_one Q2 120 18 rfl Tryd.underlying120 rfl) ?_
   refine wl_mv (.tmp 5) (.map (some mb2)) (fun _ => rfl) e40_5 rfl ?_
   refine wl_callx 65 [(.tmp 28), (.tmp 29), (.tmp 31), (.tmp 32)] _ [pt z.cb 0, .int .i64 ((i : Nat) : Int), .slice x.pa x.its.length x.cap, .map (some mb2)] rfl rfl (fun _ _ => by kernel_rfl) (show_n (hC1.mo M) h0 (hS1.mo M) hsb _ ((hC1.df.it x hxm).kp M.kp) (hC1.df.iz x hxm) (by have := (pgE_0 hf30p).2.2; omega)) rfl ?_
   rintro e9 w44 ⟨rfl, hK9, hO9⟩
   refine ⟨_, rfl, ?_⟩
   have hC9 := (hC1.mo M).other (hS1.mo M) hsb hK9
   have hP9 := (hP1.mo M).mk hK9 nm_mb1_mb2
   replace MK := (MK.trans M).tr hK9 (fun j hj e => by omega)
   replace Q1 := Q1.kp (hK9.kp (fun j hj => fun o => by rw [hj]; exact (hS1.mo M).nocell o)) hK9.fz
   replace Q2 := Q2.kp (hK9.kp (fun j hj => fun o => by rw [hj]; exact (hS1.mo M).nocell o)) hK9.fz
   clear M
   have M : Mo w44 w44 := Mo.refl _
   refine wl_m (.tmp 33) (.int .i64 (shR A ((i : Nat) : Int) (pgS z.d.pg i) x.its)) ?_
   refine w_nil (xn_then (w_seq (w_seq (w_reg ?_))))
   refine wl_m (.tmp 8) (.int .i64 (shR A ((i : Nat) : Int) (pgS z.d.pg i) x.its)) ?_
   cases hf31 : decide (shR A ((i : Nat) : Int) (pgS z.d.pg i) x.its = 0) with
   | true =>
    have hf31p := of_decide_eq_true hf31
    refine wl_b .neq 31 (.tmp 34) (.const (.int .i64 (0))) (.int .i64 (shR A ((i : Nat) : Int) (pgS z.d.pg i) x.its)) (.int .i64 (0)) (.bool false) (ne34 hf31 _ _ _) ?_
    refine w_nil (xn_then (w_condF rfl (w_skip (xn_then (w_reg ?_)))))
    refine wl_mv (.tmp 4) (.map (some mb1)) (fun _ => rfl) e40_4 rfl ?_
    refine wl_f 122 0 (.tmp 7) (pt k2 0) (pt k2 0) ?_
    refine wl_l 9 (.tmp 40) (pt k2 0) (.string x.nm) (run_one Q2 9 0 rfl Tryd.underlying9 rfl) ?_
    refine wl_m (.tmp 6) (.int .i64 ((i : Nat) : Int)) ?_
    obtain ⟨hmy, hln, hit64⟩ := pgE_0 hf30p
    refine wl_mup (.tmp 39) (.tmp 41) (.tmp 42) mb1 x.nm (((i : Nat) : Int)) (hP9.mo M) (by have := pgA_len z.d.pg i; omega) (Nat.le_trans (may_sz hmy) (by decide)) hln rfl rfl rfl rfl rfl rfl ?_
    intro w45 hOp hKp
    have hCp := (hC9.mo M).other (hP9.mo M) hpb hKp
    have hSp := ((hO9 hf31p).mo M).mk hKp nm_mb1_mb2.symm
    replace Q1 := Q1.kp (hKp.kp (fun j hj o => by rw [hj]; exact (hP9.mo M).nocell o)) hKp.fz
    replace Q2 := Q2.kp (hKp.kp (fun j hj o => by rw [hj]; exact (hP9.mo M).nocell o)) hKp.fz
    replace MK := (MK.trans M).tr hKp (fun j hj e => by omega)
    clear M
    have M : Mo w45 w45 := Mo.refl _
    refine w_nil (xn_blk (xn_then (w_reg ?_)))
    refine wl_bin (fun x y => do eqGuard .add 3 (.tmp 17) (.const (.int .i64 (1))) x y; binOp .add 3 x y) (.tmp 17) (.const (.int .i64 (1))) (.int .i64 ((i : Nat) : Int)) (.int .i64 (1)) (.int .i64 ((i + 1 : Nat) : Int)) (fun _ => rfl) e40_i rfl (add1r (k := i) (by omega) _ _ _) rfl ?_
    refine wl_m (.tmp 43) (.int .i64 ((i + 1 : Nat) : Int)) ?_
    refine w_nil ?_
    exact xn_loop (z.d.pg.length - (i + 1)) (by omega) ⟨i + 1, rfl, by omega, e40_0, e40_2, e40_4, e40_5, e40_15, e40_16, rfl, Q1, hCp.mo M, by rw [pgA_s hx]; exact hOp.mo M, by rw [pgS_s hx]; exact hSp.mo M, by rw [pgS_s hx]; have := shA_len ((i : Nat) : Int) (pgS z.d.pg i) x.its x.its.length; omega, fs_step hG ((pgG_of hx).trans (er_0 (by unfold pgF; rw [if_pos hf30p]; exact hf31p))), MK.trans M⟩
   | false =>
    have hf31p := of_decide_eq_false hf31
    refine wl_b .neq 31 (.tmp 34) (.const (.int .i64 (0))) (.int .i64 (shR A ((i : Nat) : Int) (pgS z.d.pg i) x.its)) (.int .i64 (0)) (.bool true) (ne34 hf31 _ _ _) ?_
    refine w_nil (xn_then (w_condT rfl (w_seq (w_reg ?_))))
    refine wl_m (.tmp 6) (.int .i64 ((i : Nat) : Int)) ?_
    refine wl_build 52 [(0, (.const (.int .i64 (4)))), (4, (.tmp 36))] [(0, .int .i64 (4)), (4, .int .i64 ((i : Nat) : Int))] (.agg #[.int .i64 (4), .int .i64 0, .int .i64 0, .int .i64 0, .int .i64 ((i : Nat) : Int)]) rfl rfl (by kernel_rfl) rfl ?_
    refine wl_m (.tmp 8) (.int .i64 (shR A ((i : Nat) : Int) (pgS z.d.pg i) x.its)) ?_
    refine wl_stm 52 (.tmp 2) (.tmp 37) k1 0 #[.int .i64 (4), .int .i64 0, .int .i64 0, .int .i64 0, .int .i64 ((i : Nat) : Int)] [.int .i64 0, .int .i64 0, .int .i64 0, .int .i64 0, .int .i64 0] [.int .i64 (4), .int .i64 0, .int .i64 0, .int .i64 0, .int .i64 ((i : Nat) : Int)] Q1 rfl rfl e40_2 rfl rfl sz52 rfl rfl rfl ?_
    intro w45 hS hm9 Qn
    replace Q1 := Qn
    clear Qn
    replace Q2 := hS.other _ _ ne_k1_k2.symm Q2
    have hmT := (Mk.of (fun j => j = k1) M).same hm9
    replace MK := (MK.trans M).tr hm9 (fun j hj e => by omega)
    clear M hS hm9
    have M : Mo w45 w45 := Mo.refl _
    refine wl_m (.tmp 38) (.int .i64 (shR A ((i : Nat) : Int) (pgS z.d.pg i) x.its)) ?_
    refine w_nil (xn_then (w_ret (xr_then (xr_blk (xr_then (xr_then (xr_blk (xr_then ?_))))))))
    exact w_ret2 _ _ (.agg #[.int .i64 (4), .int .i64 0, .int .i64 0, .int .i64 0, .int .i64 ((i : Nat) : Int)]) (.int .i64 (shR A ((i : Nat) : Int) (pgS z.d.pg i) x.its)) rfl ⟨k1, e40_2, (run_row Q1 52 0 5 _ rfl Tryd.underlying52 rfl sz52)⟩ rfl ⟨by unfold pgR; rw [fs_hit hG ((pgG_of hx).trans (by rw [(show pgF z.L A z.d.pg i x = shR A ((i : Nat) : Int) (pgS z.d.pg i) x.its from if_pos hf30p)]; exact er_1 hf31p)) hil]; rfl, (MK.trans M).mo (Mo.refl _) (fun _ h => h.elim)⟩
  | false =>
   have hf30p := of_decide_eq_false hf30
   refine wl_b .eql 31 (.tmp 26) (.const (.int .i64 (0))) (.int .i64 (pgE z.L A (pgA z.d.pg i) x)) (.int .i64 (0)) (.bool false) (eq34 hf30 _ _ _) ?_
   refine w_nil (xn_then (w_condF rfl (w_skip (xn_then (w_seq (w_seq (w_reg ?_)))))))
   refine wl_m (.tmp 8) (.int .i64 (pgE z.L A (pgA z.d.pg i) x)) ?_
   refine wl_b .neq 31 (.tmp 34) (.const (.int .i64 (0))) (.int .i64 (pgE z.L A (pgA z.d.pg i) x)) (.int .i64 (0)) (.bool true) (ne34 hf30 _ _ _) ?_
   refine w_nil (xn_then (w_condT rfl (w_seq (w_reg ?_))))
   refine wl_m (.tmp 6) (.int .i64 ((i : Nat) : Int)) ?_
   refine wl_build 52 [(0, (.const (.int .i64 (4)))), (4, (.tmp 36))] [(0, .int .i64 (4)), (4, .int .i64 ((i : Nat) : Int))] (.agg #[.int .i64 (4), .int .i64 0, .int .i64 0, .int .i64 0, .int .i64 ((i : Nat) : Int)]) rfl rfl (by kernel_rfl) rfl ?_
   refine wl_m (.tmp 8) (.int .i64 (pgE z.L A (pgA z.d.pg i) x)) ?_
   refine wl_stm 52 (.tmp 2) (.tmp 37) k1 0 #[.int .i64 (4), .int .i64 0, .int .i64 0, .int .i64 0, .int .i64 ((i : Nat) : Int)] [.int .i64 0, .int .i64 0, .int .i64 0, .int .i64 0, .int .i64 0] [.int .i64 (4), .int .i64 0, .int .i64 0, .int .i64 0, .int .i64 ((i : Nat) : Int)] Q1 rfl rfl e40_2 rfl rfl sz52 rfl rfl rfl ?_
   intro w44 hS hm9 Qn
   replace Q1 := Qn
   clear Qn
   replace Q2 := hS.other _ _ ne_k1_k2.symm Q2
   have hmT := (Mk.of (fun j => j = k1) M).same hm9
   replace MK := (MK.trans M).tr hm9 (fun j hj e => by omega)
   clear M hS hm9
   have M : Mo w44 w44 := Mo.refl _
   refine wl_m (.tmp 38) (.int .i64 (pgE z.L A (pgA z.d.pg i) x)) ?_
   refine w_nil (xn_then (w_ret (xr_then (xr_blk (xr_then (xr_then (xr_blk (xr_then ?_))))))))
   exact w_ret2 _ _ (.agg #[.int .i64 (4), .int .i64 0, .int .i64 0, .int .i64 0, .int .i64 ((i : Nat) : Int)]) (.int .i64 (pgE z.L A (pgA z.d.pg i) x)) rfl ⟨k1, e40_2, (run_row Q1 52 0 5 _ rfl Tryd.underlying52 rfl sz52)⟩ rfl ⟨by unfold pgR; rw [fs_hit hG ((pgG_of hx).trans (by rw [(show pgF z.L A z.d.pg i x = pgE z.L A (pgA z.d.pg i) x from if_neg hf30p)]; exact er_1 hf30p)) hil]; rfl, (MK.trans M).mo (Mo.refl _) (fun _ h => h.elim)⟩
 ·skip
  have hid : decide (i < z.d.pg.length) = false := decide_eq_false hil
  have hie : i = z.d.pg.length := by omega
  have M : Mo wl40 wl40 := Mo.refl _
  refine w_seq (w_reg ?_)
  refine wl_bin (fun x y => do eqGuard .lss 3 (.tmp 17) (.tmp 16) x y; binOp .lss 3 x y) (.tmp 17) (.tmp 16) (.int .i64 ((i : Nat) : Int)) (.int .i64 ((z.d.pg.length : Nat) : Int)) (.bool false) (fun _ => rfl) e40_i e40_16 (ltN hid _ _ _) rfl ?_
  refine w_nil (xn_then (w_seq (w_condF rfl (w_exit (xx_then (xx_then (xx_blk (xn_then (w_seq (w_reg ?_))))))))))
  refine wl_build 52 [] [] (.agg #[.int .i64 0, .int .i64 0, .int .i64 0, .int .i64 0, .int .i64 0]) rfl rfl (by kernel_rfl) rfl ?_
  refine wl_stm 52 (.tmp 2) (.tmp 44) k1 0 #[.int .i64 0, .int .i64 0, .int .i64 0, .int .i64 0, .int .i64 0] [.int .i64 0, .int .i64 0, .int .i64 0, .int .i64 0, .int .i64 0] [.int .i64 0, .int .i64 0, .int .i64 0, .int .i64 0, .int .i64 0] Q1 rfl rfl e40_2 rfl rfl sz52 rfl rfl rfl ?_
  intro w41 hS hm9 Qn
  replace Q1 := Qn
  clear Qn
  have hmT := (Mk.of (fun j => j = k1) M).same hm9
  replace MK := (MK.trans M).tr hm9 (fun j hj e => by omega)
  clear M hS hm9
  have M : Mo w41 w41 := Mo.refl _
  refine wl_m (.const (.int .i64 (0))) (.int .i64 (0)) ?_
  refine w_nil (xn_then (w_ret ?_))
  exact w_ret2 _ _ (.agg #[.int .i64 0, .int .i64 0, .int .i64 0, .int .i64 0, .int .i64 0]) (.int .i64 (0)) rfl ⟨k1, e40_2, (run_row Q1 52 0 5 _ rfl Tryd.underlying52 rfl sz52)⟩ rfl ⟨by unfold pgR; rw [fs_none (by rw [← hie]; exact hG)]; rfl, (MK.trans M).mo (Mo.refl _) (fun _ h => h.elim)⟩
end Go.Proofs.YtnffhcjmpjajlaaDoor

namespace Go.Proofs.YtnffhcjmpjajlaaDoor
open Go.RowKit D
theorem inf65 : ∃ i, Tryd.prog.info? 65 = some i ∧ i.zero = some (.agg #[.int .i64 0, .int .i64 0, .string ⟨#[]⟩, .int .i64 0, .slice none 0 0]) ∧ i.size = 5 ∧ i.bytes = 64 := by
 have h : (Tryd.prog.info? 65).map (fun i => (i.zero, i.size, i.bytes)) = some (some (.agg #[.int .i64 0, .int .i64 0, .string ⟨#[]⟩, .int .i64 0, .slice none 0 0]), 5, 64) := by kernel_rfl
 cases hi : Tryd.prog.info? 65 with
 | none => rw [hi] at h; cases h
 | some i =>
  rw [hi] at h
  simp at h
  exact ⟨i, rfl, h.1, h.2.1, h.2.2⟩
theorem inf108 : ∃ i, Tryd.prog.info? 108 = some i ∧ i.zero = some (.map none) ∧ i.size = 1 ∧ i.bytes = 8 := by
 have h : (Tryd.prog.info? 108).map (fun i => (i.zero, i.size, i.bytes)) = some (some (.map none), 1, 8) := by kernel_rfl
 cases hi : Tryd.prog.info? 108 with
 | none => rw [hi] at h; cases h
 | some i =>
  rw [hi] at h
  simp at h
  exact ⟨i, rfl, h.1, h.2.1, h.2.2⟩
/-! Flat. -/
def flt : Se → List S5 → Int → Int → List S5
 | .mk nm mx pi ci items pk ck kids, acc, p, dp => if 64 ≤ acc.length ∨ 16 < dp then acc else kids.foldl (fun a k => flt k a acc.length (dp + 1)) (acc ++ [⟨p, dp, nm, mx, pi, ci, items⟩])
theorem flt_eq : ∀ (s : Se) (acc : List S5) (p dp : Int), flt s acc p dp = if 64 ≤ acc.length ∨ 16 < dp then acc else s.kids.foldl (fun a k => flt k a acc.length (dp + 1)) (acc ++ [⟨p, dp, s.nm, s.mx, s.pi, s.ci, s.items⟩])
 | .mk nm mx pi ci items pk ck kids, acc, p, dp => by
  rw [flt]
theorem D.Se.ind2 {M : Se → Prop} (h : ∀ x : Se, (∀ o ∈ x.kids, M o) → M x) : ∀ e, M e := Se.ind (fun nm mx pi ci items pk ck kids ih => h (.mk nm mx pi ci items pk ck kids) ih)
theorem flt_len : ∀ (s : Se) (acc : List S5) (p dp : Int), acc.length ≤ 64 → (flt s acc p dp).length ≤ 64 := by
 refine Se.ind2 ?_
 intro s ih acc p dp ha
 rw [flt_eq]
 split
 ·exact ha
 ·rename_i hc
  have h0 : (acc ++ [(⟨p, dp, s.nm, s.mx, s.pi, s.ci, s.items⟩ : S5)]).length ≤ 64 := by simp; omega
  have key : ∀ (l : List Se), (∀ o ∈ l, o ∈ s.kids) → ∀ b : List S5, b.length ≤ 64 → (l.foldl (fun a k => flt k a acc.length (dp + 1)) b).length ≤ 64 := by
   intro l
   induction l with
   | nil => intro _ b hb; exact hb
   | cons x l ihl => intro hl b hb; rw [List.foldl_cons]; exact ihl (fun o ho => hl o (List.mem_cons_of_mem _ ho)) _ (ih x (hl x (List.mem_cons_self ..)) b _ _ hb)
  exact key s.kids (fun _ h => h) _ h0
end Go.Proofs.YtnffhcjmpjajlaaDoor

