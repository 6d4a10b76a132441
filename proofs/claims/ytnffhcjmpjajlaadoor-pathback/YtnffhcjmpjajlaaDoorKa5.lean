/-
  A part of the proof.
-/
import Derived.Test.YtnffhcjmpjajlaaDoorKa4
import Derived.Test.YtnffhcjmpjajlaaDoorKa3
import Derived.Test.YtnffhcjmpjajlaaDoorKa2
import Derived.Test.YtnffhcjmpjajlaaDoorKa1
import Derived.RegionTactic
import Derived.Test.YtnffhcjmpjajlaaDoorProg
import Derived.WalkKit
import Derived.WalkSpells
import Derived.Handy
import Derived.BigQuiet
import Derived.Deep.RegionHeld3
import Derived.Deep.MidRow
import Derived.BigCall
import Derived.ChangeKeysEq
import Derived.Shelf.Small.Bits
import Derived.Shelf.Strconv.Itoa0
import Derived.Shelf.Bits.Mul64
import Derived.Deep.CutRange
import Derived.Deep.CutBlock
import Derived.ScopeJumps
import Derived.WalkMore
import Derived.Laws.StructEq
import Derived.Lib.CutLaws
import Derived.Maps.OwnSet
import Derived.WalkArith
import Derived.StringKeys
import Derived.ProofKit
import Derived.OpenShut
import Derived.ChangeArms
import Derived.Deep.Slices
import Derived.ReadAgain
import Derived.WideKeyArgs
import Derived.Maps.AppendAt
namespace Go.Proofs.YtnffhcjmpjajlaaDoor
open Go.RowKit D
theorem slh22 (ρ : Operand → Value) (x y : Operand) (p : Option Addr) (n c k : Nat) (hx : ρ x = .slice p n c) (hy : ρ y = .int .i64 (k : Int)) (hk : k ≤ c) (dst : Option Tmp) (type : TypeId) (pos : String) (after : Array Edge) (guard : Option (Nat × Bool)) (w : World) : (execOp ρ { dst, op := .slice 22 x none (some y) none, type, pos, after, guard }).run Tryd.prog w = .ok (.value (.slice p k c)) w := by
 simp [go_sem, hx, hy, hk]
theorem sz23 : (Tryd.prog.info? 23).map (·.size) = some 3 := by kernel_rfl
theorem pis_n (n : Int) (w : World) : Calls Tryd.prog 31 #[.int .i64 n] w fun e9 w' => e9 = .returned (.bool (idk n)) ∧ Mo w w' := by
 refine w_enter 9 Tryd.func31 Tryd.ntmps31 rfl rfl ?_
 have M : Mo w w := Mo.refl _
 refine w_seq (w_reg ?_)
 refine wl_m (.const (.bool false)) (.bool false) ?_
 refine w_nil (xn_then (w_seq (w_reg ?_)))
 refine wl_m (.tmp 0) (.int .i64 (n)) ?_
 cases hf0 : decide (1 ≤ n) with
 | true =>
  have hf0p := of_decide_eq_true hf0
  refine wl_b .geq 2 (.tmp 3) (.const (.int .i64 (1))) (.int .i64 (n)) (.int .i64 (1)) (.bool true) (ge2 hf0 _ _ _) ?_
  refine wl_m (.tmp 4) (.bool true) ?_
  refine wl_m (.tmp 0) (.int .i64 (n)) ?_
  cases hf1 : decide (n ≤ 9007199254740992) with
  | true =>
   have hf1p := of_decide_eq_true hf1
   refine wl_b .leq 2 (.tmp 6) (.const (.int .i64 (9007199254740992))) (.int .i64 (n)) (.int .i64 (9007199254740992)) (.bool true) (le2 hf1 _ _ _) ?_
   refine wl_pick (.tmp 5) (.tmp 7) (.const (.bool false)) true (.bool true) (fun _ => rfl) rfl rfl rfl ?_
   refine wl_m (.tmp 8) (.bool true) ?_
   refine w_nil (xn_then (w_ret ?_))
   exact w_ret1 _ (.bool true) rfl rfl ⟨by simp [idk, hf0p, hf1p], M⟩
  | false =>
   have hf1p := of_decide_eq_false hf1
   refine wl_b .leq 2 (.tmp 6) (.const (.int .i64 (9007199254740992))) (.int .i64 (n)) (.int .i64 (9007199254740992)) (.bool false) (le2 hf1 _ _ _) ?_
   refine wl_pick (.tmp 5) (.tmp 7) (.const (.bool false)) true (.bool false) (fun _ => rfl) rfl rfl rfl ?_
   refine wl_m (.tmp 8) (.bool false) ?_
   refine w_nil (xn_then (w_ret ?_))
   exact w_ret1 _ (.bool false) rfl rfl ⟨by simp [idk, hf0p, hf1p], M⟩
 | false =>
  have hf0p := of_decide_eq_false hf0
  refine wl_b .geq 2 (.tmp 3) (.const (.int .i64 (1))) (.int .i64 (n)) (.int .i64 (1)) (.bool false) (ge2 hf0 _ _ _) ?_
  refine wl_m (.tmp 4) (.bool false) ?_
  refine wl_skip rfl (wl_skip rfl ?_)
  refine wl_pick (.tmp 5) (.tmp 7) (.const (.bool false)) false (.bool false) (fun _ => rfl) rfl rfl rfl ?_
  refine wl_m (.tmp 8) (.bool false) ?_
  refine w_nil (xn_then (w_ret ?_))
  exact w_ret1 _ (.bool false) rfl rfl ⟨by simp [idk, hf0p], M⟩
theorem pown_n {L : List S5} {pl : Option Addr} {cl : Nat} {s : Int} {y : S5} (w : World) (hL : LL w pl L) (h0 : 0 ≤ s) (hy : L[s.toNat]? = some y) (hd1 : 1 ≤ y.dp) (hd4 : y.dp ≤ 4) : Calls Tryd.prog 29 #[.slice pl L.length cl, .int .i64 s] w fun e9 w' => e9 = .returned (.int .i64 (y.dp - 2)) ∧ Mo w w' := by
 refine w_enter 11 Tryd.func29 Tryd.ntmps29 rfl rfl ?_
 have M : Mo w w := Mo.refl _
 refine w_seq (w_reg ?_)
 refine wl_m (.const (.int .i64 (0))) (.int .i64 (0)) ?_
 refine w_nil (xn_then (w_seq ?_))
 have hly := lt_of_get hy
 obtain ⟨bp, op, hpp, hRp⟩ := D.SL.rw hL.sl hy
 refine w_reg ?_
 refine wl_m (.tmp 0) (.slice pl L.length cl) ?_
 refine wl_m (.tmp 1) (.int .i64 (s)) ?_
 refine wl_bin (fun x y => Instr.indexAt 22 x y) (.tmp 5) (.tmp 6) (.slice pl L.length cl) (.int .i64 (s)) (pt bp (op + s.toNat * 5)) (fun _ => rfl) rfl rfl (ix22I h0 hpp hly _) rfl ?_
 refine wl_f 65 1 (.tmp 7) (pt bp (op + s.toNat * 5)) (pt bp (op + s.toNat * 5 + 1)) ?_
 refine wl_l 3 (.tmp 8) (pt bp (op + s.toNat * 5 + 1)) (.int .i64 (y.dp)) (D.run_oneR (hRp.mo M).at' 3 1 rfl Tryd.underlying3 rfl) ?_
 refine wl_b .sub 3 (.tmp 9) (.const (.int .i64 (2))) (.int .i64 (y.dp)) (.int .i64 (2)) (.int .i64 (y.dp - 2)) (subI rfl (by omega) (by omega) _ _ _) ?_
 refine wl_m (.tmp 10) (.int .i64 (y.dp - 2)) ?_
 refine w_nil (xn_then (w_ret ?_))
 exact w_ret1 _ _ rfl rfl ⟨rfl, M⟩
theorem pstd_n {L : List S5} {pl : Option Addr} {cl : Nat} {i : Nat} {x : S5} (w : World) (hL : LL w pl L) (hi : i ≤ L.length) (hS : sndI L i) : Calls Tryd.prog 51 #[.slice pl i cl, .agg x.cells.toArray] w fun e9 w' => e9 = .returned (.bool (sbd L i x)) ∧ Mo w w' := by
 refine w_enter 41 Tryd.func51 Tryd.ntmps51 rfl rfl ?_
 have M : Mo w w := Mo.refl _
 refine w_seq (w_reg ?_)
 refine wl_box 65 (.tmp 1) _ (((x.cells).toArray)) rfl rfl (fun _ => by kernel_rfl) rfl ?_
 intro k1 u1 hk hz hq Q1
 have N_k1 : w.heap.size ≤ k1 := by have := M.size; omega
 replace M := M.trans hq
 clear hk hz hq
 refine wl_m (.const (.bool false)) (.bool false) ?_
 refine w_nil (xn_then (w_seq (w_seq (w_reg ?_))))
 refine wl_m (.tmp 0) (.slice pl i cl) ?_
 refine wl_val (.int .i64 ((i : Nat) : Int)) (len22 _ _ _ _ _ (by exact rfl) _ _ _ _ _ _) rfl ?_
 cases hf0 : decide (((i : Nat) : Int) = 0) with
 | true =>
  have hf0p := of_decide_eq_true hf0
  refine wl_b .eql 3 (.tmp 6) (.const (.int .i64 (0))) (.int .i64 ((i : Nat) : Int)) (.int .i64 (0)) (.bool true) (eq3 hf0 _ _ _) ?_
  refine w_nil (xn_then (w_condT rfl (w_seq (w_reg ?_))))
  refine wl_f 65 0 (.tmp 3) (pt k1 0) (pt k1 0) ?_
  refine wl_l 3 (.tmp 8) (pt k1 0) (.int .i64 (x.pr)) (run_one Q1 3 0 rfl Tryd.underlying3 rfl) ?_
  cases hf1 : decide (x.pr = -1) with
  | true =>
   have hf1p := of_decide_eq_true hf1
   refine wl_b .eql 3 (.tmp 9) (.const (.int .i64 (-1))) (.int .i64 (x.pr)) (.int .i64 (-1)) (.bool true) (eq3 hf1 _ _ _) ?_
   refine wl_m (.tmp 10) (.bool true) ?_
   refine wl_f 65 1 (.tmp 3) (pt k1 0) (pt k1 1) ?_
   refine wl_l 3 (.tmp 12) (pt k1 1) (.int .i64 (x.dp)) (run_one Q1 3 1 rfl Tryd.underlying3 rfl) ?_
   cases hf2 : decide (x.dp = 1) with
   | true =>
    have hf2p := of_decide_eq_true hf2
    refine wl_b .eql 3 (.tmp 13) (.const (.int .i64 (1))) (.int .i64 (x.dp)) (.int .i64 (1)) (.bool true) (eq3 hf2 _ _ _) ?_
    refine wl_pick (.tmp 11) (.tmp 14) (.const (.bool false)) true (.bool true) (fun _ => rfl) rfl rfl rfl ?_
    refine wl_m (.tmp 15) (.bool true) ?_
    refine w_nil (xn_then (w_ret (xr_then ?_)))
    exact w_ret1 _ (.bool true) rfl rfl ⟨congrArg (fun v => Ending.returned (.bool v)) (sb_0 (by omega) (by omega) (by omega)).symm, M⟩
   | false =>
    have hf2p := of_decide_eq_false hf2
    refine wl_b .eql 3 (.tmp 13) (.const (.int .i64 (1))) (.int .i64 (x.dp)) (.int .i64 (1)) (.bool false) (eq3 hf2 _ _ _) ?_
    refine wl_pick (.tmp 11) (.tmp 14) (.const (.bool false)) true (.bool false) (fun _ => rfl) rfl rfl rfl ?_
    refine wl_m (.tmp 15) (.bool false) ?_
    refine w_nil (xn_then (w_ret (xr_then ?_)))
    exact w_ret1 _ (.bool false) rfl rfl ⟨congrArg (fun v => Ending.returned (.bool v)) (Eq.symm (by rw [Bool.eq_false_iff]; intro h; rcases sb_inv h with ⟨_, h1, h2⟩ | ⟨h0, h1, h2, h3, h4⟩ <;> first | omega)), M⟩
  | false =>
   have hf1p := of_decide_eq_false hf1
   refine wl_b .eql 3 (.tmp 9) (.const (.int .i64 (-1))) (.int .i64 (x.pr)) (.int .i64 (-1)) (.bool false) (eq3 hf1 _ _ _) ?_
   refine wl_m (.tmp 10) (.bool false) ?_
   refine wl_skip rfl (wl_skip rfl (wl_skip rfl ?_))
   refine wl_pick (.tmp 11) (.tmp 14) (.const (.bool false)) false (.bool false) (fun _ => rfl) rfl rfl rfl ?_
   refine wl_m (.tmp 15) (.bool false) ?_
   refine w_nil (xn_then (w_ret (xr_then ?_)))
   exact w_ret1 _ (.bool false) rfl rfl ⟨congrArg (fun v => Ending.returned (.bool v)) (Eq.symm (by rw [Bool.eq_false_iff]; intro h; rcases sb_inv h with ⟨_, h1, h2⟩ | ⟨h0, h1, h2, h3, h4⟩ <;> first | omega)), M⟩
 | false =>
  have hf0p := of_decide_eq_false hf0
  refine wl_b .eql 3 (.tmp 6) (.const (.int .i64 (0))) (.int .i64 ((i : Nat) : Int)) (.int .i64 (0)) (.bool false) (eq3 hf0 _ _ _) ?_
  refine w_nil (xn_then (w_condF rfl (w_skip (xn_then (w_seq (w_seq (w_reg ?_)))))))
  refine wl_f 65 0 (.tmp 3) (pt k1 0) (pt k1 0) ?_
  refine wl_l 3 (.tmp 16) (pt k1 0) (.int .i64 (x.pr)) (run_one Q1 3 0 rfl Tryd.underlying3 rfl) ?_
  cases hf1 : decide (x.pr < 0) with
  | true =>
   have hf1p := of_decide_eq_true hf1
   refine wl_b .lss 3 (.tmp 17) (.const (.int .i64 (0))) (.int .i64 (x.pr)) (.int .i64 (0)) (.bool true) (lt3 hf1 _ _ _) ?_
   refine wl_m (.tmp 18) (.bool true) ?_
   refine wl_skip rfl (wl_skip rfl (wl_skip rfl (wl_skip rfl (wl_skip rfl ?_))))
   refine wl_pick (.tmp 19) (.const (.bool true)) (.tmp 24) true (.bool true) (fun _ => rfl) rfl rfl rfl ?_
   refine w_nil (xn_then (w_condT rfl (w_seq (w_reg ?_))))
   refine wl_m (.const (.bool false)) (.bool false) ?_
   refine w_nil (xn_then (w_ret (xr_then ?_)))
   exact w_ret1 _ (.bool false) rfl rfl ⟨congrArg (fun v => Ending.returned (.bool v)) (Eq.symm (by rw [Bool.eq_false_iff]; intro h; rcases sb_inv h with ⟨_, h1, h2⟩ | ⟨h0, h1, h2, h3, h4⟩ <;> first | omega)), M⟩
  | false =>
   have hf1p := of_decide_eq_false hf1
   refine wl_b .lss 3 (.tmp 17) (.const (.int .i64 (0))) (.int .i64 (x.pr)) (.int .i64 (0)) (.bool false) (lt3 hf1 _ _ _) ?_
   refine wl_m (.tmp 18) (.bool false) ?_
   refine wl_f 65 0 (.tmp 3) (pt k1 0) (pt k1 0) ?_
   refine wl_l 3 (.tmp 20) (pt k1 0) (.int .i64 (x.pr)) (run_one Q1 3 0 rfl Tryd.underlying3 rfl) ?_
   refine wl_m (.tmp 0) (.slice pl i cl) ?_
   refine wl_val (.int .i64 ((i : Nat) : Int)) (len22 _ _ _ _ _ (by exact rfl) _ _ _ _ _ _) rfl ?_
   cases hf2 : decide (((i : Nat) : Int) ≤ x.pr) with
   | true =>
    have hf2p := of_decide_eq_true hf2
    refine wl_b .geq 3 (.tmp 21) (.tmp 23) (.int .i64 (x.pr)) (.int .i64 ((i : Nat) : Int)) (.bool true) (ge3 hf2 _ _ _) ?_
    refine wl_pick (.tmp 19) (.const (.bool true)) (.tmp 24) false (.bool true) (fun _ => rfl) rfl rfl rfl ?_
    refine w_nil (xn_then (w_condT rfl (w_seq (w_reg ?_))))
    refine wl_m (.const (.bool false)) (.bool false) ?_
    refine w_nil (xn_then (w_ret (xr_then ?_)))
    exact w_ret1 _ (.bool false) rfl rfl ⟨congrArg (fun v => Ending.returned (.bool v)) (Eq.symm (by rw [Bool.eq_false_iff]; intro h; rcases sb_inv h with ⟨_, h1, h2⟩ | ⟨h0, h1, h2, h3, h4⟩ <;> first | omega)), M⟩
   | false =>
    have hf2p := of_decide_eq_false hf2
    refine wl_b .geq 3 (.tmp 21) (.tmp 23) (.int .i64 (x.pr)) (.int .i64 ((i : Nat) : Int)) (.bool false) (ge3 hf2 _ _ _) ?_
    refine wl_pick (.tmp 19) (.const (.bool true)) (.tmp 24) false (.bool false) (fun _ => rfl) rfl rfl rfl ?_
    refine w_nil (xn_then (w_condF rfl (w_skip (xn_then (w_seq ?_)))))
    obtain ⟨p, hp⟩ := get_of_lt (show x.pr.toNat < L.length by omega)
    have hdp := dp_rg hS x.pr.toNat (by omega) p hp
    obtain ⟨bq, oq, hpq, hRq⟩ := D.SL.rw hL.sl hp
    cases hf3 : decide (x.dp = p.dp + 1) with
    | true =>
     have hf3p := of_decide_eq_true hf3
     cases hf4 : decide (x.dp ≤ 4) with
     | true =>
      have hf4p := of_decide_eq_true hf4
      refine w_any 9 [.inl (pt k1 1), .inl (.int .i64 (x.dp)), .inl (.slice pl i cl), .inl (pt k1 0), .inl (.int .i64 (x.pr)), .inl (pt bq (oq + x.pr.toNat * 5)), .inl (pt bq (oq + x.pr.toNat * 5 + 1)), .inl (.int .i64 (p.dp)), .inl (.int .i64 (p.dp + 1))] [] (by kernel_rfl) (by kernel_rfl) (by kernel_rfl) (by kernel_rfl) rfl (by kernel_rfl) (by kernel_rfl) late_nil ?_ ?_ ?_
      ·exact Ds.none rfl
      ·refine ea_cons ?_ (ea_cons ?_ (ea_cons ?_ (ea_cons ?_ (ea_cons ?_ (ea_cons ?_ (ea_cons ?_ (ea_cons ?_ (ea_cons ?_ (ea_nil)))))))))
       ·exact og_eq _ rfl (fun f wf hq hd K hK => go_run rfl (wo_un (fun v => Instr.fieldAt 65 v 1) (.tmp 3) (pt k1 0) (pt k1 1) (fun _ => rfl) rfl (by kernel_rfl) (hK _ (Mo.refl _))))
       ·exact og_eq _ rfl (fun f wf hq hd K hK => have Q1 := Q1.mo hq; go_run rfl (wo_load 3 (.tmp 26) (pt k1 1) (.int .i64 (x.dp)) rfl (hd 0 rfl) (run_one Q1 3 1 rfl Tryd.underlying3 rfl) (hK _ (Mo.refl _))))
       ·exact og_eq _ rfl (fun f wf hq hd K hK => go_run rfl (wo_mv (.tmp 0) (.slice pl i cl) (fun _ => rfl) rfl (hK _ (Mo.refl _))))
       ·exact og_eq _ rfl (fun f wf hq hd K hK => go_run rfl (wo_un (fun v => Instr.fieldAt 65 v 0) (.tmp 3) (pt k1 0) (pt k1 0) (fun _ => rfl) rfl (by kernel_rfl) (hK _ (Mo.refl _))))
       ·exact og_eq _ rfl (fun f wf hq hd K hK => have Q1 := Q1.mo hq; go_run rfl (wo_load 3 (.tmp 29) (pt k1 0) (.int .i64 (x.pr)) rfl (hd 3 rfl) (run_one Q1 3 0 rfl Tryd.underlying3 rfl) (hK _ (Mo.refl _))))
       ·exact og_eq _ rfl (fun f wf hq hd K hK => go_run rfl (wo_bin (fun x y => Instr.indexAt 22 x y) (.tmp 28) (.tmp 30) (.slice pl i cl) (.int .i64 (x.pr)) (pt bq (oq + x.pr.toNat * 5)) (fun _ => rfl) (hd 2 rfl) (hd 4 rfl) (ix22I (show 0 ≤ x.pr by omega) hpq (show x.pr.toNat < i by omega) _) (hK _ (Mo.refl _))))
       ·exact og_eq _ rfl (fun f wf hq hd K hK => go_run rfl (wo_un (fun v => Instr.fieldAt 65 v 1) (.tmp 31) (pt bq (oq + x.pr.toNat * 5)) (pt bq (oq + x.pr.toNat * 5 + 1)) (fun _ => rfl) (hd 5 rfl) (by kernel_rfl) (hK _ (Mo.refl _))))
       ·exact og_eq _ rfl (fun f wf hq hd K hK => go_run rfl (wo_load 3 (.tmp 32) (pt bq (oq + x.pr.toNat * 5 + 1)) (.int .i64 (p.dp)) rfl (hd 6 rfl) (D.run_oneR (hRq.mo (M.trans hq)).at' 3 1 rfl Tryd.underlying3 rfl) (hK _ (Mo.refl _))))
       ·exact og_eq _ rfl (fun f wf hq hd K hK => go_run rfl (wo_bin (fun x y => do eqGuard .add 3 (.tmp 33) (.const (.int .i64 (1))) x y; binOp .add 3 x y) (.tmp 33) (.const (.int .i64 (1))) (.int .i64 (p.dp)) (.int .i64 (1)) (.int .i64 (p.dp + 1)) (fun _ => rfl) (hd 7 rfl) rfl (add1i (k := p.dp) (by omega) (by omega) _ _ _) (hK _ (Mo.refl _))))
      intro kf2 u2 hq hR hne
      replace Q1 := Q1.mo hq
      replace M := M.trans hq
      clear hq hR hne
      refine wl_b .eql 3 (.tmp 27) (.tmp 34) (.int .i64 (x.dp)) (.int .i64 (p.dp + 1)) (.bool true) (eq3 hf3 _ _ _) ?_
      refine wl_m (.tmp 35) (.bool true) ?_
      refine wl_f 65 1 (.tmp 3) (pt k1 0) (pt k1 1) ?_
      refine wl_l 3 (.tmp 37) (pt k1 1) (.int .i64 (x.dp)) (run_one Q1 3 1 rfl Tryd.underlying3 rfl) ?_
      refine wl_b .leq 3 (.tmp 38) (.const (.int .i64 (4))) (.int .i64 (x.dp)) (.int .i64 (4)) (.bool true) (le3 hf4 _ _ _) ?_
      refine wl_pick (.tmp 36) (.tmp 39) (.const (.bool false)) true (.bool true) (fun _ => rfl) rfl rfl rfl ?_
      refine wl_m (.tmp 40) (.bool true) ?_
      refine w_nil (xn_then (w_ret ?_))
      exact w_ret1 _ (.bool true) rfl rfl ⟨congrArg (fun v => Ending.returned (.bool v)) (sb_p (by omega) (by omega) (by omega) hp (by omega) (by omega)).symm, M⟩
     | false =>
      have hf4p := of_decide_eq_false hf4
      refine w_any 9 [.inl (pt k1 1), .inl (.int .i64 (x.dp)), .inl (.slice pl i cl), .inl (pt k1 0), .inl (.int .i64 (x.pr)), .inl (pt bq (oq + x.pr.toNat * 5)), .inl (pt bq (oq + x.pr.toNat * 5 + 1)), .inl (.int .i64 (p.dp)), .inl (.int .i64 (p.dp + 1))] [] (by kernel_rfl) (by kernel_rfl) (by kernel_rfl) (by kernel_rfl) rfl (by kernel_rfl) (by kernel_rfl) late_nil ?_ ?_ ?_
      ·exact Ds.none rfl
      ·refine ea_cons ?_ (ea_cons ?_ (ea_cons ?_ (ea_cons ?_ (ea_cons ?_ (ea_cons ?_ (ea_cons ?_ (ea_cons ?_ (ea_cons ?_ (ea_nil)))))))))
       ·exact og_eq _ rfl (fun f wf hq hd K hK => go_run rfl (wo_un (fun v => Instr.fieldAt 65 v 1) (.tmp 3) (pt k1 0) (pt k1 1) (fun _ => rfl) rfl (by kernel_rfl) (hK _ (Mo.refl _))))
       ·exact og_eq _ rfl (fun f wf hq hd K hK => have Q1 := Q1.mo hq; go_run rfl (wo_load 3 (.tmp 26) (pt k1 1) (.int .i64 (x.dp)) rfl (hd 0 rfl) (run_one Q1 3 1 rfl Tryd.underlying3 rfl) (hK _ (Mo.refl _))))
       ·exact og_eq _ rfl (fun f wf hq hd K hK => go_run rfl (wo_mv (.tmp 0) (.slice pl i cl) (fun _ => rfl) rfl (hK _ (Mo.refl _))))
       ·exact og_eq _ rfl (fun f wf hq hd K hK => go_run rfl (wo_un (fun v => Instr.fieldAt 65 v 0) (.tmp 3) (pt k1 0) (pt k1 0) (fun _ => rfl) rfl (by kernel_rfl) (hK _ (Mo.refl _))))
       ·exact og_eq _ rfl (fun f wf hq hd K hK => have Q1 := Q1.mo hq; go_run rfl (wo_load 3 (.tmp 29) (pt k1 0) (.int .i64 (x.pr)) rfl (hd 3 rfl) (run_one Q1 3 0 rfl Tryd.underlying3 rfl) (hK _ (Mo.refl _))))
       ·exact og_eq _ rfl (fun f wf hq hd K hK => go_run rfl (wo_bin (fun x y => Instr.indexAt 22 x y) (.tmp 28) (.tmp 30) (.slice pl i cl) (.int .i64 (x.pr)) (pt bq (oq + x.pr.toNat * 5)) (fun _ => rfl) (hd 2 rfl) (hd 4 rfl) (ix22I (show 0 ≤ x.pr by omega) hpq (show x.pr.toNat < i by omega) _) (hK _ (Mo.refl _))))
       ·exact og_eq _ rfl (fun f wf hq hd K hK => go_run rfl (wo_un (fun v => Instr.fieldAt 65 v 1) (.tmp 31) (pt bq (oq + x.pr.toNat * 5)) (pt bq (oq + x.pr.toNat * 5 + 1)) (fun _ => rfl) (hd 5 rfl) (by kernel_rfl) (hK _ (Mo.refl _))))
       ·exact og_eq _ rfl (fun f wf hq hd K hK => go_run rfl (wo_load 3 (.tmp 32) (pt bq (oq + x.pr.toNat * 5 + 1)) (.int .i64 (p.dp)) rfl (hd 6 rfl) (D.run_oneR (hRq.mo (M.trans hq)).at' 3 1 rfl Tryd.underlying3 rfl) (hK _ (Mo.refl _))))
       ·exact og_eq _ rfl (fun f wf hq hd K hK => go_run rfl (wo_bin (fun x y => do eqGuard .add 3 (.tmp 33) (.const (.int .i64 (1))) x y; binOp .add 3 x y) (.tmp 33) (.const (.int .i64 (1))) (.int .i64 (p.dp)) (.int .i64 (1)) (.int .i64 (p.dp + 1)) (fun _ => rfl) (hd 7 rfl) rfl (add1i (k := p.dp) (by omega) (by omega) _ _ _) (hK _ (Mo.refl _))))
      intro kf2 u2 hq hR hne
      replace Q1 := Q1.mo hq
      replace M := M.trans hq
      clear hq hR hne
      refine wl_b .eql 3 (.tmp 27) (.tmp 34) (.int .i64 (x.dp)) (.int .i64 (p.dp + 1)) (.bool true) (eq3 hf3 _ _ _) ?_
      refine wl_m (.tmp 35) (.bool true) ?_
      refine wl_f 65 1 (.tmp 3) (pt k1 0) (pt k1 1) ?_
      refine wl_l 3 (.tmp 37) (pt k1 1) (.int .i64 (x.dp)) (run_one Q1 3 1 rfl Tryd.underlying3 rfl) ?_
      refine wl_b .leq 3 (.tmp 38) (.const (.int .i64 (4))) (.int .i64 (x.dp)) (.int .i64 (4)) (.bool false) (le3 hf4 _ _ _) ?_
      refine wl_pick (.tmp 36) (.tmp 39) (.const (.bool false)) true (.bool false) (fun _ => rfl) rfl rfl rfl ?_
      refine wl_m (.tmp 40) (.bool false) ?_
      refine w_nil (xn_then (w_ret ?_))
      exact w_ret1 _ (.bool false) rfl rfl ⟨congrArg (fun v => Ending.returned (.bool v)) (Eq.symm (by rw [Bool.eq_false_iff]; intro h; rcases sb_inv h with ⟨_, h1, h2⟩ | ⟨h0, h1, h2, h3, h4⟩ <;> first | omega | (rw [dpA_at hp] at h3; omega))), M⟩
    | false =>
     have hf3p := of_decide_eq_false hf3
     refine w_any 9 [.inl (pt k1 1), .inl (.int .i64 (x.dp)), .inl (.slice pl i cl), .inl (pt k1 0), .inl (.int .i64 (x.pr)), .inl (pt bq (oq + x.pr.toNat * 5)), .inl (pt bq (oq + x.pr.toNat * 5 + 1)), .inl (.int .i64 (p.dp)), .inl (.int .i64 (p.dp + 1))] [] (by kernel_rfl) (by kernel_rfl) (by kernel_rfl) (by kernel_rfl) rfl (by kernel_rfl) (by kernel_rfl) late_nil ?_ ?_ ?_
     ·exact Ds.none rfl
     ·refine ea_cons ?_ (ea_cons ?_ (ea_cons ?_ (ea_cons ?_ (ea_cons ?_ (ea_cons ?_ (ea_cons ?_ (ea_cons ?_ (ea_cons ?_ (ea_nil)))))))))
      ·exact og_eq _ rfl (fun f wf hq hd K hK => go_run rfl (wo_un (fun v => Instr.fieldAt 65 v 1) (.tmp 3) (pt k1 0) (pt k1 1) (fun _ => rfl) rfl (by kernel_rfl) (hK _ (Mo.refl _))))
      ·exact og_eq _ rfl (fun f wf hq hd K hK => have Q1 := Q1.mo hq; go_run rfl (wo_load 3 (.tmp 26) (pt k1 1) (.int .i64 (x.dp)) rfl (hd 0 rfl) (run_one Q1 3 1 rfl Tryd.underlying3 rfl) (hK _ (Mo.refl _))))
      ·exact og_eq _ rfl (fun f wf hq hd K hK => go_run rfl (wo_mv (.tmp 0) (.slice pl i cl) (fun _ => rfl) rfl (hK _ (Mo.refl _))))
      ·exact og_eq _ rfl (fun f wf hq hd K hK => go_run rfl (wo_un (fun v => Instr.fieldAt 65 v 0) (.tmp 3) (pt k1 0) (pt k1 0) (fun _ => rfl) rfl (by kernel_rfl) (hK _ (Mo.refl _))))
      ·exact og_eq _ rfl (fun f wf hq hd K hK => have Q1 := Q1.mo hq; go_run rfl (wo_load 3 (.tmp 29) (pt k1 0) (.int .i64 (x.pr)) rfl (hd 3 rfl) (run_one Q1 3 0 rfl Tryd.underlying3 rfl) (hK _ (Mo.refl _))))
      ·exact og_eq _ rfl (fun f wf hq hd K hK => go_run rfl (wo_bin (fun x y => Instr.indexAt 22 x y) (.tmp 28) (.tmp 30) (.slice pl i cl) (.int .i64 (x.pr)) (pt bq (oq + x.pr.toNat * 5)) (fun _ => rfl) (hd 2 rfl) (hd 4 rfl) (ix22I (show 0 ≤ x.pr by omega) hpq (show x.pr.toNat < i by omega) _) (hK _ (Mo.refl _))))
      ·exact og_eq _ rfl (fun f wf hq hd K hK => go_run rfl (wo_un (fun v => Instr.fieldAt 65 v 1) (.tmp 31) (pt bq (oq + x.pr.toNat * 5)) (pt bq (oq + x.pr.toNat * 5 + 1)) (fun _ => rfl) (hd 5 rfl) (by kernel_rfl) (hK _ (Mo.refl _))))
      ·exact og_eq _ rfl (fun f wf hq hd K hK => go_run rfl (wo_load 3 (.tmp 32) (pt bq (oq + x.pr.toNat * 5 + 1)) (.int .i64 (p.dp)) rfl (hd 6 rfl) (D.run_oneR (hRq.mo (M.trans hq)).at' 3 1 rfl Tryd.underlying3 rfl) (hK _ (Mo.refl _))))
      ·exact og_eq _ rfl (fun f wf hq hd K hK => go_run rfl (wo_bin (fun x y => do eqGuard .add 3 (.tmp 33) (.const (.int .i64 (1))) x y; binOp .add 3 x y) (.tmp 33) (.const (.int .i64 (1))) (.int .i64 (p.dp)) (.int .i64 (1)) (.int .i64 (p.dp + 1)) (fun _ => rfl) (hd 7 rfl) rfl (add1i (k := p.dp) (by omega) (by omega) _ _ _) (hK _ (Mo.refl _))))
     intro kf2 u2 hq hR hne
     replace Q1 := Q1.mo hq
     replace M := M.trans hq
     clear hq hR hne
     refine wl_b .eql 3 (.tmp 27) (.tmp 34) (.int .i64 (x.dp)) (.int .i64 (p.dp + 1)) (.bool false) (eq3 hf3 _ _ _) ?_
     refine wl_m (.tmp 35) (.bool false) ?_
     refine wl_skip rfl (wl_skip rfl (wl_skip rfl ?_))
     refine wl_pick (.tmp 36) (.tmp 39) (.const (.bool false)) false (.bool false) (fun _ => rfl) rfl rfl rfl ?_
     refine wl_m (.tmp 40) (.bool false) ?_
     refine w_nil (xn_then (w_ret ?_))
     exact w_ret1 _ (.bool false) rfl rfl ⟨congrArg (fun v => Ending.returned (.bool v)) (Eq.symm (by rw [Bool.eq_false_iff]; intro h; rcases sb_inv h with ⟨_, h1, h2⟩ | ⟨h0, h1, h2, h3, h4⟩ <;> first | omega | (rw [dpA_at hp] at h3; omega))), M⟩
theorem psnd_n {L : List S5} {pl : Option Addr} {cl : Nat} (w : World) (hL : LL w pl L) (hcl : L.length ≤ cl) : Calls Tryd.prog 30 #[.slice pl L.length cl] w fun e9 w' => e9 = .returned (.bool (snd L)) ∧ Mo w w' := by
 refine w_enter 19 Tryd.func30 Tryd.ntmps30 rfl rfl ?_
 have M : Mo w w := Mo.refl _
 refine w_seq (w_reg ?_)
 refine wl_m (.const (.bool false)) (.bool false) ?_
 refine w_nil (xn_then (w_seq (w_seq (w_reg ?_))))
 refine wl_m (.tmp 0) (.slice pl L.length cl) ?_
 refine wl_val (.int .i64 ((L.length : Nat) : Int)) (len22 _ _ _ _ _ (by exact rfl) _ _ _ _ _ _) rfl ?_
 refine wl_m (.const (.int .i64 (0))) (.int .i64 (0)) ?_
 refine w_nil (xn_then (w_block ?_))
 have hz9 := hL.sl.1
 unfold maxLen at hz9
 refine w_loop (fun m l w1 => ∃ i : Nat, m = L.length - i ∧ i ≤ L.length ∧ look l 0 = .slice pl L.length cl ∧ look l 5 = .slice pl L.length cl ∧ look l 6 = .int .i64 ((L.length : Nat) : Int) ∧ look l 7 = .int .i64 ((i : Nat) : Int) ∧ (sndI L i) ∧ Mo w w1) _ ⟨0, rfl, Nat.zero_le _, rfl, rfl, rfl, rfl, (fun j hj => absurd hj (Nat.not_lt_zero j)), M⟩ ?_
 clear M
 rintro m l40 wl40 ⟨i, rfl, hi, e40_0, e40_5, e40_6, e40_i, hS, M⟩
 by_cases hil : i < L.length
 ·skip
  have hid : decide (i < L.length) = true := decide_eq_true hil
  obtain ⟨y, hy⟩ := get_of_lt hil
  have hmy := List.mem_of_getElem? hy
  obtain ⟨bp, op, hpp, hRp⟩ := D.SL.rw hL.sl hy
  refine w_seq (w_reg ?_)
  refine wl_bin (fun x y => do eqGuard .lss 3 (.tmp 7) (.tmp 6) x y; binOp .lss 3 x y) (.tmp 7) (.tmp 6) (.int .i64 ((i : Nat) : Int)) (.int .i64 ((L.length : Nat) : Int)) (.bool true) (fun _ => rfl) e40_i e40_6 (ltN hid _ _ _) rfl ?_
  refine w_nil (xn_then (w_seq (w_condT rfl (w_skip (xn_then (w_seq (w_block (w_seq (w_reg ?_)))))))))
  refine wl_mv (.tmp 7) (.int .i64 ((i : Nat) : Int)) (fun _ => rfl) e40_i rfl ?_
  refine wl_bin (fun x y => Instr.indexAt 22 x y) (.tmp 5) (.tmp 7) (.slice pl L.length cl) (.int .i64 ((i : Nat) : Int)) (pt bp (op + i * 5)) (fun _ => rfl) e40_5 e40_i (ix22 (i := i) hpp hil _) rfl ?_
  refine wl_l 65 (.tmp 10) (pt bp (op + i * 5)) (.agg (y.cells).toArray) (D.run_partR (hRp.mo M).at' 65 0 5 (y.cells) rfl Tryd.underlying65 rfl sz65) ?_
  refine wl_alloc 65 #[.int .i64 0, .int .i64 0, .string ⟨#[]⟩, .int .i64 0, .slice none 0 0] rfl (fun _ => by kernel_rfl) rfl ?_
  intro k1 u41 hk hz hq Q1
  have N_k1 : w.heap.size ≤ k1 := by have := M.size; omega
  replace M := M.trans hq
  clear hk hz hq
  refine wl_m (.tmp 9) (.int .i64 ((i : Nat) : Int)) ?_
  refine wl_st 65 (.tmp 4) (.tmp 11) k1 0 ((y.cells).toArray) _ (y.cells) Q1 rfl rfl rfl rfl rfl sz65 rfl rfl rfl ?_
  intro u42 hS Qn
  replace Q1 := Qn
  clear Qn
  replace M := hS.mo _ N_k1 M
  clear hS
  refine w_nil (xn_then (w_seq ?_))
  cases hf30 : sbd L i y with
  | true =>
   refine w_any 4 [.inl (.slice pl L.length cl), .inl (.int .i64 ((i : Nat) : Int)), .inl (.slice pl i cl), .inl (.agg (y.cells).toArray)] [] (by kernel_rfl) (by kernel_rfl) (by kernel_rfl) (by kernel_rfl) rfl (by kernel_rfl) (by kernel_rfl) late_nil ?_ ?_ ?_
   ·exact Ds.none rfl
   ·refine ea_cons ?_ (ea_cons ?_ (ea_cons ?_ (ea_cons ?_ (ea_nil))))
    ·exact og_eq _ rfl (fun f wf hq hd K hK => go_run rfl (wo_mv (.tmp 0) (.slice pl L.length cl) (fun _ => rfl) e40_0 (hK _ (Mo.refl _))))
    ·exact og_eq _ rfl (fun f wf hq hd K hK => go_run rfl (wo_mv (.tmp 3) (.int .i64 ((i : Nat) : Int)) (fun _ => rfl) rfl (hK _ (Mo.refl _))))
    ·exact og_eq _ rfl (fun f wf hq hd K hK => go_run rfl (wo_val (.slice pl i cl) (slh22 _ _ _ pl L.length cl i (by exact (hd 0 rfl)) (by exact (hd 1 rfl)) (by omega) _ _ _ _ _ _) (hK _ (Mo.refl _))))
    ·exact og_eq _ rfl (fun f wf hq hd K hK => have Q1 := Q1.mo hq; go_run rfl (wo_load 65 (.tmp 4) (pt k1 0) (.agg (y.cells).toArray) rfl rfl (run_row Q1 65 0 5 (y.cells) rfl Tryd.underlying65 rfl sz65) (hK _ (Mo.refl _))))
   intro kf43 u43 hq hR hne
   replace Q1 := Q1.mo hq
   replace M := M.trans hq
   clear hq hR hne
   refine wl_call 51 [(.tmp 14), (.tmp 15)] _ [.slice pl i cl, .agg (y.cells).toArray] (.bool true) rfl rfl (fun _ _ => by kernel_rfl) (cB hf30 (pstd_n _ (hL.mo M) (by omega) hS)) rfl ?_
   intro u44 hq
   replace Q1 := Q1.mo hq
   replace M := M.trans hq
   clear hq
   refine wl_un (fun v => Op.unary .not v) (.tmp 16) (.bool true) (.bool false) (fun _ => rfl) rfl (by kernel_rfl) rfl ?_
   refine w_nil (xn_then (w_condF rfl (w_skip (xn_blk (xn_then (w_reg ?_))))))
   refine wl_bin (fun x y => do eqGuard .add 3 (.tmp 7) (.const (.int .i64 (1))) x y; binOp .add 3 x y) (.tmp 7) (.const (.int .i64 (1))) (.int .i64 ((i : Nat) : Int)) (.int .i64 (1)) (.int .i64 ((i + 1 : Nat) : Int)) (fun _ => rfl) e40_i rfl (add1r (k := i) (by omega) _ _ _) rfl ?_
   refine wl_m (.tmp 18) (.int .i64 ((i + 1 : Nat) : Int)) ?_
   refine w_nil ?_
   exact xn_loop (L.length - (i + 1)) (by omega) ⟨i + 1, rfl, by omega, e40_0, e40_5, e40_6, rfl, (next_sb hS hy hf30), M⟩
  | false =>
   refine w_any 4 [.inl (.slice pl L.length cl), .inl (.int .i64 ((i : Nat) : Int)), .inl (.slice pl i cl), .inl (.agg (y.cells).toArray)] [] (by kernel_rfl) (by kernel_rfl) (by kernel_rfl) (by kernel_rfl) rfl (by kernel_rfl) (by kernel_rfl) late_nil ?_ ?_ ?_
   ·exact Ds.none rfl
   ·refine ea_cons ?_ (ea_cons ?_ (ea_cons ?_ (ea_cons ?_ (ea_nil))))
    ·exact og_eq _ rfl (fun f wf hq hd K hK => go_run rfl (wo_mv (.tmp 0) (.slice pl L.length cl) (fun _ => rfl) e40_0 (hK _ (Mo.refl _))))
    ·exact og_eq _ rfl (fun f wf hq hd K hK => go_run rfl (wo_mv (.tmp 3) (.int .i64 ((i : Nat) : Int)) (fun _ => rfl) rfl (hK _ (Mo.refl _))))
    ·exact og_eq _ rfl (fun f wf hq hd K hK => go_run rfl (wo_val (.slice pl i cl) (slh22 _ _ _ pl L.length cl i (by exact (hd 0 rfl)) (by exact (hd 1 rfl)) (by omega) _ _ _ _ _ _) (hK _ (Mo.refl _))))
    ·exact og_eq _ rfl (fun f wf hq hd K hK => have Q1 := Q1.mo hq; go_run rfl (wo_load 65 (.tmp 4) (pt k1 0) (.agg (y.cells).toArray) rfl rfl (run_row Q1 65 0 5 (y.cells) rfl Tryd.underlying65 rfl sz65) (hK _ (Mo.refl _))))
   intro kf43 u43 hq hR hne
   replace Q1 := Q1.mo hq
   replace M := M.trans hq
   clear hq hR hne
   refine wl_call 51 [(.tmp 14), (.tmp 15)] _ [.slice pl i cl, .agg (y.cells).toArray] (.bool false) rfl rfl (fun _ _ => by kernel_rfl) (cB hf30 (pstd_n _ (hL.mo M) (by omega) hS)) rfl ?_
   intro u44 hq
   replace Q1 := Q1.mo hq
   replace M := M.trans hq
   clear hq
   refine wl_un (fun v => Op.unary .not v) (.tmp 16) (.bool false) (.bool true) (fun _ => rfl) rfl (by kernel_rfl) rfl ?_
   refine w_nil (xn_then (w_condT rfl (w_seq (w_reg ?_))))
   refine wl_m (.const (.bool false)) (.bool false) ?_
   refine w_nil (xn_then (w_ret (xr_blk (xr_then (xr_then (xr_blk (xr_then ?_)))))))
   exact w_ret1 _ (.bool false) rfl rfl ⟨congrArg (fun v => Ending.returned (.bool v)) (snd_no hy hf30).symm, M⟩
 ·skip
  have hid : decide (i < L.length) = false := decide_eq_false hil
  have hie : i = L.length := by omega
  refine w_seq (w_reg ?_)
  refine wl_bin (fun x y => do eqGuard .lss 3 (.tmp 7) (.tmp 6) x y; binOp .lss 3 x y) (.tmp 7) (.tmp 6) (.int .i64 ((i : Nat) : Int)) (.int .i64 ((L.length : Nat) : Int)) (.bool false) (fun _ => rfl) e40_i e40_6 (ltN hid _ _ _) rfl ?_
  refine w_nil (xn_then (w_seq (w_condF rfl (w_exit (xx_then (xx_then (xx_blk (xn_then (w_seq (w_reg ?_))))))))))
  refine wl_m (.const (.bool true)) (.bool true) ?_
  refine w_nil (xn_then (w_ret ?_))
  exact w_ret1 _ (.bool true) rfl rfl ⟨congrArg (fun v => Ending.returned (.bool v)) (snd_iff.2 (hie ▸ hS)).symm, M⟩
set_option maxHeartbeats 1000000 in
theorem pck_n {L : List S5} {pl : Option Addr} {cl : Nat} {r : Ro} (w : World) (hL : LL w pl L) (hcl : L.length ≤ cl) : Calls Tryd.prog 10 #[.slice pl L.length cl, r.v] w fun e9 w' => e9 = .returned (.int .i64 (ckR L r)) ∧ Mo w w' := by
 refine w_enter 54 Tryd.func10 Tryd.ntmps10 rfl rfl ?_
 have M : Mo w w := Mo.refl _
 refine w_seq (w_reg ?_)
 refine wl_box 25 (.tmp 1) _ (((r.cells).toArray)) rfl rfl (fun _ => by kernel_rfl) rfl ?_
 intro k1 u1 hk hz hq Q1
 have N_k1 : w.heap.size ≤ k1 := by have := M.size; omega
 replace M := M.trans hq
 clear hk hz hq
 refine wl_m (.const (.int .i64 (0))) (.int .i64 (0)) ?_
 refine w_nil (xn_then (w_seq (w_seq (w_reg ?_))))
 refine wl_m (.tmp 0) (.slice pl L.length cl) ?_
 cases hf0 : snd L with
 | true =>
  refine wl_call 30 [(.tmp 8)] _ [.slice pl L.length cl] (.bool true) rfl rfl (fun _ _ => by kernel_rfl) (cB hf0 (psnd_n _ (hL.mo M) hcl)) rfl ?_
  intro u2 hq
  replace Q1 := Q1.mo hq
  replace M := M.trans hq
  clear hq
  refine wl_un (fun v => Op.unary .not v) (.tmp 9) (.bool true) (.bool false) (fun _ => rfl) rfl (by kernel_rfl) rfl ?_
  refine wl_m (.tmp 10) (.bool false) ?_
  refine wl_f 25 0 (.tmp 3) (pt k1 0) (pt k1 0) ?_
  refine wl_l 3 (.tmp 12) (pt k1 0) (.int .i64 (r.s)) (run_one Q1 3 0 rfl Tryd.underlying3 rfl) ?_
  cases hf1 : decide (r.s < 0) with
  | true =>
   have hf1p := of_decide_eq_true hf1
   refine wl_b .lss 3 (.tmp 13) (.const (.int .i64 (0))) (.int .i64 (r.s)) (.int .i64 (0)) (.bool true) (lt3 hf1 _ _ _) ?_
   refine wl_pick (.tmp 11) (.const (.bool true)) (.tmp 14) false (.bool true) (fun _ => rfl) rfl rfl rfl ?_
   refine wl_m (.tmp 15) (.bool true) ?_
   refine wl_skip rfl (wl_skip rfl (wl_skip rfl (wl_skip rfl (wl_skip rfl ?_))))
   refine wl_pick (.tmp 16) (.const (.bool true)) (.tmp 21) true (.bool true) (fun _ => rfl) rfl rfl rfl ?_
   refine w_nil (xn_then (w_condT rfl (w_seq (w_reg ?_))))
   refine wl_m (.const (.int .i64 (150))) (.int .i64 (150)) ?_
   refine w_nil (xn_then (w_ret (xr_then ?_)))
   exact w_ret1 _ (.int .i64 (150)) rfl rfl ⟨congrArg (fun v => Ending.returned (.int .i64 v)) (ck_n2 (by omega)).symm, M⟩
  | false =>
   have hf1p := of_decide_eq_false hf1
   refine wl_b .lss 3 (.tmp 13) (.const (.int .i64 (0))) (.int .i64 (r.s)) (.int .i64 (0)) (.bool false) (lt3 hf1 _ _ _) ?_
   refine wl_pick (.tmp 11) (.const (.bool true)) (.tmp 14) false (.bool false) (fun _ => rfl) rfl rfl rfl ?_
   refine wl_m (.tmp 15) (.bool false) ?_
   refine wl_f 25 0 (.tmp 3) (pt k1 0) (pt k1 0) ?_
   refine wl_l 3 (.tmp 17) (pt k1 0) (.int .i64 (r.s)) (run_one Q1 3 0 rfl Tryd.underlying3 rfl) ?_
   refine wl_m (.tmp 0) (.slice pl L.length cl) ?_
   refine wl_val (.int .i64 ((L.length : Nat) : Int)) (len22 _ _ _ _ _ (by exact rfl) _ _ _ _ _ _) rfl ?_
   cases hf2 : decide (((L.length : Nat) : Int) ≤ r.s) with
   | true =>
    have hf2p := of_decide_eq_true hf2
    refine wl_b .geq 3 (.tmp 18) (.tmp 20) (.int .i64 (r.s)) (.int .i64 ((L.length : Nat) : Int)) (.bool true) (ge3 hf2 _ _ _) ?_
    refine wl_pick (.tmp 16) (.const (.bool true)) (.tmp 21) false (.bool true) (fun _ => rfl) rfl rfl rfl ?_
    refine w_nil (xn_then (w_condT rfl (w_seq (w_reg ?_))))
    refine wl_m (.const (.int .i64 (150))) (.int .i64 (150)) ?_
    refine w_nil (xn_then (w_ret (xr_then ?_)))
    exact w_ret1 _ (.int .i64 (150)) rfl rfl ⟨congrArg (fun v => Ending.returned (.int .i64 v)) (ck_n2 (by omega)).symm, M⟩
   | false =>
    have hf2p := of_decide_eq_false hf2
    refine wl_b .geq 3 (.tmp 18) (.tmp 20) (.int .i64 (r.s)) (.int .i64 ((L.length : Nat) : Int)) (.bool false) (ge3 hf2 _ _ _) ?_
    refine wl_pick (.tmp 16) (.const (.bool true)) (.tmp 21) false (.bool false) (fun _ => rfl) rfl rfl rfl ?_
    refine w_nil (xn_then (w_condF rfl (w_skip (xn_then (w_seq ?_)))))
    have hs0 : 0 ≤ r.s := Int.not_lt.1 hf1p
    obtain ⟨y, hy⟩ := get_of_lt (show r.s.toNat < L.length by omega)
    have hmy := List.mem_of_getElem? hy
    have hly := lt_of_get hy
    obtain ⟨bp, op, hpp, hRp⟩ := D.SL.rw hL.sl hy
    have hdy := dp_at hf0 hy
    refine w_reg ?_
    refine wl_m (.tmp 0) (.slice pl L.length cl) ?_
    refine wl_f 25 0 (.tmp 3) (pt k1 0) (pt k1 0) ?_
    refine wl_l 3 (.tmp 24) (pt k1 0) (.int .i64 (r.s)) (run_one Q1 3 0 rfl Tryd.underlying3 rfl) ?_
    refine wl_bin (fun x y => Instr.indexAt 22 x y) (.tmp 23) (.tmp 25) (.slice pl L.length cl) (.int .i64 (r.s)) (pt bp (op + r.s.toNat * 5)) (fun _ => rfl) rfl rfl (ix22I hs0 hpp hly _) rfl ?_
    refine wl_f 65 1 (.tmp 26) (pt bp (op + r.s.toNat * 5)) (pt bp (op + r.s.toNat * 5 + 1)) ?_
    refine wl_l 3 (.tmp 27) (pt bp (op + r.s.toNat * 5 + 1)) (.int .i64 (y.dp)) (D.run_oneR (hRp.mo M).at' 3 1 rfl Tryd.underlying3 rfl) ?_
    refine wl_b .sub 3 (.tmp 28) (.const (.int .i64 (1))) (.int .i64 (y.dp)) (.int .i64 (1)) (.int .i64 (y.dp - 1)) (subI rfl (by omega) (by omega) _ _ _) ?_
    refine wl_m (.tmp 29) (.int .i64 (y.dp - 1)) ?_
    refine w_nil (xn_then (w_seq (w_seq (w_reg ?_))))
    refine wl_f 25 1 (.tmp 3) (pt k1 0) (pt k1 1) ?_
    refine wl_l 23 (.tmp 30) (pt k1 1) (.agg #[.int .i64 r.a, .int .i64 r.b, .int .i64 r.c]) (run_row Q1 23 1 3 _ rfl Tryd.underlying23 rfl sz23) ?_
    refine wl_m (.const (.int .i64 (0))) (.int .i64 (0)) ?_
    refine w_nil (xn_then (w_block ?_))
    refine w_rounds 4 ?_
    refine w_seq (w_reg ?_)
    refine wl_b .lss 3 (.tmp 32) (.const (.int .i64 (3))) (.int .i64 (0)) (.int .i64 (3)) (.bool true) (lt3 (r := true) rfl _ _ _) ?_
    refine w_nil (xn_then (w_seq (w_condT rfl (w_skip (xn_then (w_seq (w_block (w_seq (w_reg ?_)))))))))
    refine wl_m (.tmp 32) (.int .i64 (0)) ?_
    refine wl_bin (fun x y => Instr.index 23 x y) (.tmp 31) (.tmp 32) (.agg #[.int .i64 r.a, .int .i64 r.b, .int .i64 r.c]) (.int .i64 (0)) (.int .i64 r.a) (fun _ => rfl) rfl rfl (by kernel_rfl) rfl ?_
    refine wl_m (.tmp 34) (.int .i64 (0)) ?_
    refine wl_m (.tmp 35) (.int .i64 r.a) ?_
    refine w_nil (xn_then (w_seq (w_reg ?_)))
    refine wl_m (.tmp 6) (.int .i64 (0)) ?_
    refine wl_m (.tmp 5) (.int .i64 (y.dp - 1)) ?_
    cases hf3 : decide (y.dp = 1) with
    | true =>
     have hf3p := of_decide_eq_true hf3
     refine wl_b .lss 3 (.tmp 36) (.tmp 37) (.int .i64 (0)) (.int .i64 (y.dp - 1)) (.bool false) (lt3 (decide_eq_false (by omega)) _ _ _) ?_
     refine wl_m (.tmp 38) (.bool false) ?_
     refine wl_skip rfl (wl_skip rfl (wl_skip rfl ?_))
     refine wl_pick (.tmp 39) (.tmp 42) (.const (.bool false)) false (.bool false) (fun _ => rfl) rfl rfl rfl ?_
     refine wl_m (.tmp 43) (.bool false) ?_
     refine wl_m (.tmp 6) (.int .i64 (0)) ?_
     refine wl_m (.tmp 5) (.int .i64 (y.dp - 1)) ?_
     refine wl_b .geq 3 (.tmp 45) (.tmp 46) (.int .i64 (0)) (.int .i64 (y.dp - 1)) (.bool true) (ge3 (decide_eq_true (by omega)) _ _ _) ?_
     refine wl_m (.tmp 47) (.bool true) ?_
     refine wl_m (.tmp 7) (.int .i64 r.a) ?_
     cases hf4 : decide (r.a = 0) with
     | true =>
      have hf4p := of_decide_eq_true hf4
      refine wl_b .neq 2 (.tmp 49) (.const (.int .i64 (0))) (.int .i64 r.a) (.int .i64 (0)) (.bool false) (ne2 hf4 _ _ _) ?_
      refine wl_pick (.tmp 48) (.tmp 50) (.const (.bool false)) true (.bool false) (fun _ => rfl) rfl rfl rfl ?_
      refine wl_pick (.tmp 44) (.const (.bool true)) (.tmp 51) false (.bool false) (fun _ => rfl) rfl rfl rfl ?_
      refine w_nil (xn_then (w_condF rfl (w_skip (xn_blk (xn_then (w_reg ?_))))))
      refine wl_b .add 3 (.tmp 32) (.const (.int .i64 (1))) (.int .i64 (0)) (.int .i64 (1)) (.int .i64 (1)) (by kernel_rfl) ?_
      refine wl_m (.tmp 53) (.int .i64 (1)) ?_
      refine w_nil ?_
      refine xn_rounds ?_
      refine w_seq (w_reg ?_)
      refine wl_b .lss 3 (.tmp 32) (.const (.int .i64 (3))) (.int .i64 (1)) (.int .i64 (3)) (.bool true) (lt3 (r := true) rfl _ _ _) ?_
      refine w_nil (xn_then (w_seq (w_condT rfl (w_skip (xn_then (w_seq (w_block (w_seq (w_reg ?_)))))))))
      refine wl_m (.tmp 32) (.int .i64 (1)) ?_
      refine wl_bin (fun x y => Instr.index 23 x y) (.tmp 31) (.tmp 32) (.agg #[.int .i64 r.a, .int .i64 r.b, .int .i64 r.c]) (.int .i64 (1)) (.int .i64 r.b) (fun _ => rfl) rfl rfl (by kernel_rfl) rfl ?_
      refine wl_m (.tmp 34) (.int .i64 (1)) ?_
      refine wl_m (.tmp 35) (.int .i64 r.b) ?_
      refine w_nil (xn_then (w_seq (w_reg ?_)))
      refine wl_m (.tmp 6) (.int .i64 (1)) ?_
      refine wl_m (.tmp 5) (.int .i64 (y.dp - 1)) ?_
      refine wl_b .lss 3 (.tmp 36) (.tmp 37) (.int .i64 (1)) (.int .i64 (y.dp - 1)) (.bool false) (lt3 (decide_eq_false (by omega)) _ _ _) ?_
      refine wl_m (.tmp 38) (.bool false) ?_
      refine wl_skip rfl (wl_skip rfl (wl_skip rfl ?_))
      refine wl_pick (.tmp 39) (.tmp 42) (.const (.bool false)) false (.bool false) (fun _ => rfl) rfl rfl rfl ?_
      refine wl_m (.tmp 43) (.bool false) ?_
      refine wl_m (.tmp 6) (.int .i64 (1)) ?_
      refine wl_m (.tmp 5) (.int .i64 (y.dp - 1)) ?_
      refine wl_b .geq 3 (.tmp 45) (.tmp 46) (.int .i64 (1)) (.int .i64 (y.dp - 1)) (.bool true) (ge3 (decide_eq_true (by omega)) _ _ _) ?_
      refine wl_m (.tmp 47) (.bool true) ?_
      refine wl_m (.tmp 7) (.int .i64 r.b) ?_
      cases hf5 : decide (r.b = 0) with
      | true =>
       have hf5p := of_decide_eq_true hf5
       refine wl_b .neq 2 (.tmp 49) (.const (.int .i64 (0))) (.int .i64 r.b) (.int .i64 (0)) (.bool false) (ne2 hf5 _ _ _) ?_
       refine wl_pick (.tmp 48) (.tmp 50) (.const (.bool false)) true (.bool false) (fun _ => rfl) rfl rfl rfl ?_
       refine wl_pick (.tmp 44) (.const (.bool true)) (.tmp 51) false (.bool false) (fun _ => rfl) rfl rfl rfl ?_
       refine w_nil (xn_then (w_condF rfl (w_skip (xn_blk (xn_then (w_reg ?_))))))
       refine wl_b .add 3 (.tmp 32) (.const (.int .i64 (1))) (.int .i64 (1)) (.int .i64 (1)) (.int .i64 (2)) (by kernel_rfl) ?_
       refine wl_m (.tmp 53) (.int .i64 (2)) ?_
       refine w_nil ?_
       refine xn_rounds ?_
       refine w_seq (w_reg ?_)
       refine wl_b .lss 3 (.tmp 32) (.const (.int .i64 (3))) (.int .i64 (2)) (.int .i64 (3)) (.bool true) (lt3 (r := true) rfl _ _ _) ?_
       refine w_nil (xn_then (w_seq (w_condT rfl (w_skip (xn_then (w_seq (w_block (w_seq (w_reg ?_)))))))))
       refine wl_m (.tmp 32) (.int .i64 (2)) ?_
       refine wl_bin (fun x y => Instr.index 23 x y) (.tmp 31) (.tmp 32) (.agg #[.int .i64 r.a, .int .i64 r.b, .int .i64 r.c]) (.int .i64 (2)) (.int .i64 r.c) (fun _ => rfl) rfl rfl (by kernel_rfl) rfl ?_
       refine wl_m (.tmp 34) (.int .i64 (2)) ?_
       refine wl_m (.tmp 35) (.int .i64 r.c) ?_
       refine w_nil (xn_then (w_seq (w_reg ?_)))
       refine wl_m (.tmp 6) (.int .i64 (2)) ?_
       refine wl_m (.tmp 5) (.int .i64 (y.dp - 1)) ?_
       refine wl_b .lss 3 (.tmp 36) (.tmp 37) (.int .i64 (2)) (.int .i64 (y.dp - 1)) (.bool false) (lt3 (decide_eq_false (by omega)) _ _ _) ?_
       refine wl_m (.tmp 38) (.bool false) ?_
       refine wl_skip rfl (wl_skip rfl (wl_skip rfl ?_))
       refine wl_pick (.tmp 39) (.tmp 42) (.const (.bool false)) false (.bool false) (fun _ => rfl) rfl rfl rfl ?_
       refine wl_m (.tmp 43) (.bool false) ?_
       refine wl_m (.tmp 6) (.int .i64 (2)) ?_
       refine wl_m (.tmp 5) (.int .i64 (y.dp - 1)) ?_
       refine wl_b .geq 3 (.tmp 45) (.tmp 46) (.int .i64 (2)) (.int .i64 (y.dp - 1)) (.bool true) (ge3 (decide_eq_true (by omega)) _ _ _) ?_
       refine wl_m (.tmp 47) (.bool true) ?_
       refine wl_m (.tmp 7) (.int .i64 r.c) ?_
       cases hf6 : decide (r.c = 0) with
       | true =>
        have hf6p := of_decide_eq_true hf6
        refine wl_b .neq 2 (.tmp 49) (.const (.int .i64 (0))) (.int .i64 r.c) (.int .i64 (0)) (.bool false) (ne2 hf6 _ _ _) ?_
        refine wl_pick (.tmp 48) (.tmp 50) (.const (.bool false)) true (.bool false) (fun _ => rfl) rfl rfl rfl ?_
        refine wl_pick (.tmp 44) (.const (.bool true)) (.tmp 51) false (.bool false) (fun _ => rfl) rfl rfl rfl ?_
        refine w_nil (xn_then (w_condF rfl (w_skip (xn_blk (xn_then (w_reg ?_))))))
        refine wl_b .add 3 (.tmp 32) (.const (.int .i64 (1))) (.int .i64 (2)) (.int .i64 (1)) (.int .i64 (3)) (by kernel_rfl) ?_
        refine wl_m (.tmp 53) (.int .i64 (3)) ?_
        refine w_nil ?_
        refine xn_rounds ?_
        refine w_seq (w_reg ?_)
        refine wl_b .lss 3 (.tmp 32) (.const (.int .i64 (3))) (.int .i64 (3)) (.int .i64 (3)) (.bool false) (lt3 (r := false) rfl _ _ _) ?_
        refine w_nil (xn_then (w_seq (w_condF rfl (w_exit (xx_then (xx_then (xx_blk (xn_then (w_seq (w_reg ?_))))))))))
        refine wl_m (.const (.int .i64 (0))) (.int .i64 (0)) ?_
        refine w_nil (xn_then (w_ret ?_))
        exact w_ret1 _ (.int .i64 (0)) rfl rfl ⟨congrArg (fun v => Ending.returned (.int .i64 v)) (Eq.symm (ck_yes hf0 hs0 (by omega) hy (by simp [ids, idu, hf3p, hf4p, hf5p, hf6p]))), M⟩
       | false =>
        have hf6p := of_decide_eq_false hf6
        refine wl_b .neq 2 (.tmp 49) (.const (.int .i64 (0))) (.int .i64 r.c) (.int .i64 (0)) (.bool true) (ne2 hf6 _ _ _) ?_
        refine wl_pick (.tmp 48) (.tmp 50) (.const (.bool false)) true (.bool true) (fun _ => rfl) rfl rfl rfl ?_
        refine wl_pick (.tmp 44) (.const (.bool true)) (.tmp 51) false (.bool true) (fun _ => rfl) rfl rfl rfl ?_
        refine w_nil (xn_then (w_condT rfl (w_seq (w_reg ?_))))
        refine wl_m (.const (.int .i64 (150))) (.int .i64 (150)) ?_
        refine w_nil (xn_then (w_ret (xr_blk (xr_then (xr_then (xr_blk (xr_then ?_)))))))
        exact w_ret1 _ (.int .i64 (150)) rfl rfl ⟨congrArg (fun v => Ending.returned (.int .i64 v)) (ck_n3 hy (by simp [ids, idu, hf3p, hf4p, hf5p, hf6p])).symm, M⟩
      | false =>
       have hf5p := of_decide_eq_false hf5
       refine wl_b .neq 2 (.tmp 49) (.const (.int .i64 (0))) (.int .i64 r.b) (.int .i64 (0)) (.bool true) (ne2 hf5 _ _ _) ?_
       refine wl_pick (.tmp 48) (.tmp 50) (.const (.bool false)) true (.bool true) (fun _ => rfl) rfl rfl rfl ?_
       refine wl_pick (.tmp 44) (.const (.bool true)) (.tmp 51) false (.bool true) (fun _ => rfl) rfl rfl rfl ?_
       refine w_nil (xn_then (w_condT rfl (w_seq (w_reg ?_))))
       refine wl_m (.const (.int .i64 (150))) (.int .i64 (150)) ?_
       refine w_nil (xn_then (w_ret (xr_blk (xr_then (xr_then (xr_blk (xr_then ?_)))))))
       exact w_ret1 _ (.int .i64 (150)) rfl rfl ⟨congrArg (fun v => Ending.returned (.int .i64 v)) (ck_n3 hy (by simp [ids, idu, hf3p, hf4p, hf5p])).symm, M⟩
     | false =>
      have hf4p := of_decide_eq_false hf4
      refine wl_b .neq 2 (.tmp 49) (.const (.int .i64 (0))) (.int .i64 r.a) (.int .i64 (0)) (.bool true) (ne2 hf4 _ _ _) ?_
      refine wl_pick (.tmp 48) (.tmp 50) (.const (.bool false)) true (.bool true) (fun _ => rfl) rfl rfl rfl ?_
      refine wl_pick (.tmp 44) (.const (.bool true)) (.tmp 51) false (.bool true) (fun _ => rfl) rfl rfl rfl ?_
      refine w_nil (xn_then (w_condT rfl (w_seq (w_reg ?_))))
      refine wl_m (.const (.int .i64 (150))) (.int .i64 (150)) ?_
      refine w_nil (xn_then (w_ret (xr_blk (xr_then (xr_then (xr_blk (xr_then ?_)))))))
      exact w_ret1 _ (.int .i64 (150)) rfl rfl ⟨congrArg (fun v => Ending.returned (.int .i64 v)) (ck_n3 hy (by simp [ids, idu, hf3p, hf4p])).symm, M⟩
    | false =>
     have hf3p := of_decide_eq_false hf3
     cases hf4 : decide (y.dp = 2) with
     | true =>
      have hf4p := of_decide_eq_true hf4
      refine wl_b .lss 3 (.tmp 36) (.tmp 37) (.int .i64 (0)) (.int .i64 (y.dp - 1)) (.bool true) (lt3 (decide_eq_true (by omega)) _ _ _) ?_
      refine wl_m (.tmp 38) (.bool true) ?_
      refine wl_m (.tmp 7) (.int .i64 r.a) ?_
      cases hf5 : idk r.a with
      | true =>
       refine wl_call 31 [(.tmp 40)] _ [.int .i64 r.a] (.bool true) rfl rfl (fun _ _ => by kernel_rfl) (cB hf5 (pis_n r.a _)) rfl ?_
       intro u3 hq
       replace Q1 := Q1.mo hq
       replace M := M.trans hq
       clear hq
       refine wl_un (fun v => Op.unary .not v) (.tmp 41) (.bool true) (.bool false) (fun _ => rfl) rfl (by kernel_rfl) rfl ?_
       refine wl_pick (.tmp 39) (.tmp 42) (.const (.bool false)) true (.bool false) (fun _ => rfl) rfl rfl rfl ?_
       refine wl_m (.tmp 43) (.bool false) ?_
       refine wl_m (.tmp 6) (.int .i64 (0)) ?_
       refine wl_m (.tmp 5) (.int .i64 (y.dp - 1)) ?_
       refine wl_b .geq 3 (.tmp 45) (.tmp 46) (.int .i64 (0)) (.int .i64 (y.dp - 1)) (.bool false) (ge3 (decide_eq_false (by omega)) _ _ _) ?_
       refine wl_m (.tmp 47) (.bool false) ?_
       refine wl_skip rfl (wl_skip rfl ?_)
       refine wl_pick (.tmp 48) (.tmp 50) (.const (.bool false)) false (.bool false) (fun _ => rfl) rfl rfl rfl ?_
       refine wl_pick (.tmp 44) (.const (.bool true)) (.tmp 51) false (.bool false) (fun _ => rfl) rfl rfl rfl ?_
       refine w_nil (xn_then (w_condF rfl (w_skip (xn_blk (xn_then (w_reg ?_))))))
       refine wl_b .add 3 (.tmp 32) (.const (.int .i64 (1))) (.int .i64 (0)) (.int .i64 (1)) (.int .i64 (1)) (by kernel_rfl) ?_
       refine wl_m (.tmp 53) (.int .i64 (1)) ?_
       refine w_nil ?_
       refine xn_rounds ?_
       refine w_seq (w_reg ?_)
       refine wl_b .lss 3 (.tmp 32) (.const (.int .i64 (3))) (.int .i64 (1)) (.int .i64 (3)) (.bool true) (lt3 (r := true) rfl _ _ _) ?_
       refine w_nil (xn_then (w_seq (w_condT rfl (w_skip (xn_then (w_seq (w_block (w_seq (w_reg ?_)))))))))
       refine wl_m (.tmp 32) (.int .i64 (1)) ?_
       refine wl_bin (fun x y => Instr.index 23 x y) (.tmp 31) (.tmp 32) (.agg #[.int .i64 r.a, .int .i64 r.b, .int .i64 r.c]) (.int .i64 (1)) (.int .i64 r.b) (fun _ => rfl) rfl rfl (by kernel_rfl) rfl ?_
       refine wl_m (.tmp 34) (.int .i64 (1)) ?_
       refine wl_m (.tmp 35) (.int .i64 r.b) ?_
       refine w_nil (xn_then (w_seq (w_reg ?_)))
       refine wl_m (.tmp 6) (.int .i64 (1)) ?_
       refine wl_m (.tmp 5) (.int .i64 (y.dp - 1)) ?_
       refine wl_b .lss 3 (.tmp 36) (.tmp 37) (.int .i64 (1)) (.int .i64 (y.dp - 1)) (.bool false) (lt3 (decide_eq_false (by omega)) _ _ _) ?_
       refine wl_m (.tmp 38) (.bool false) ?_
       refine wl_skip rfl (wl_skip rfl (wl_skip rfl ?_))
       refine wl_pick (.tmp 39) (.tmp 42) (.const (.bool false)) false (.bool false) (fun _ => rfl) rfl rfl rfl ?_
       refine wl_m (.tmp 43) (.bool false) ?_
       refine wl_m (.tmp 6) (.int .i64 (1)) ?_
       refine wl_m (.tmp 5) (.int .i64 (y.dp - 1)) ?_
       refine wl_b .geq 3 (.tmp 45) (.tmp 46) (.int .i64 (1)) (.int .i64 (y.dp - 1)) (.bool true) (ge3 (decide_eq_true (by omega)) _ _ _) ?_
       refine wl_m (.tmp 47) (.bool true) ?_
       refine wl_m (.tmp 7) (.int .i64 r.b) ?_
       cases hf6 : decide (r.b = 0) with
       | true =>
        have hf6p := of_decide_eq_true hf6
        refine wl_b .neq 2 (.tmp 49) (.const (.int .i64 (0))) (.int .i64 r.b) (.int .i64 (0)) (.bool false) (ne2 hf6 _ _ _) ?_
        refine wl_pick (.tmp 48) (.tmp 50) (.const (.bool false)) true (.bool false) (fun _ => rfl) rfl rfl rfl ?_
        refine wl_pick (.tmp 44) (.const (.bool true)) (.tmp 51) false (.bool false) (fun _ => rfl) rfl rfl rfl ?_
        refine w_nil (xn_then (w_condF rfl (w_skip (xn_blk (xn_then (w_reg ?_))))))
        refine wl_b .add 3 (.tmp 32) (.const (.int .i64 (1))) (.int .i64 (1)) (.int .i64 (1)) (.int .i64 (2)) (by kernel_rfl) ?_
        refine wl_m (.tmp 53) (.int .i64 (2)) ?_
        refine w_nil ?_
        refine xn_rounds ?_
        refine w_seq (w_reg ?_)
        refine wl_b .lss 3 (.tmp 32) (.const (.int .i64 (3))) (.int .i64 (2)) (.int .i64 (3)) (.bool true) (lt3 (r := true) rfl _ _ _) ?_
        refine w_nil (xn_then (w_seq (w_condT rfl (w_skip (xn_then (w_seq (w_block (w_seq (w_reg ?_)))))))))
        refine wl_m (.tmp 32) (.int .i64 (2)) ?_
        refine wl_bin (fun x y => Instr.index 23 x y) (.tmp 31) (.tmp 32) (.agg #[.int .i64 r.a, .int .i64 r.b, .int .i64 r.c]) (.int .i64 (2)) (.int .i64 r.c) (fun _ => rfl) rfl rfl (by kernel_rfl) rfl ?_
        refine wl_m (.tmp 34) (.int .i64 (2)) ?_
        refine wl_m (.tmp 35) (.int .i64 r.c) ?_
        refine w_nil (xn_then (w_seq (w_reg ?_)))
        refine wl_m (.tmp 6) (.int .i64 (2)) ?_
        refine wl_m (.tmp 5) (.int .i64 (y.dp - 1)) ?_
        refine wl_b .lss 3 (.tmp 36) (.tmp 37) (.int .i64 (2)) (.int .i64 (y.dp - 1)) (.bool false) (lt3 (decide_eq_false (by omega)) _ _ _) ?_
        refine wl_m (.tmp 38) (.bool false) ?_
        refine wl_skip rfl (wl_skip rfl (wl_skip rfl ?_))
        refine wl_pick (.tmp 39) (.tmp 42) (.const (.bool false)) false (.bool false) (fun _ => rfl) rfl rfl rfl ?_
        refine wl_m (.tmp 43) (.bool false) ?_
        refine wl_m (.tmp 6) (.int .i64 (2)) ?_
        refine wl_m (.tmp 5) (.int .i64 (y.dp - 1)) ?_
        refine wl_b .geq 3 (.tmp 45) (.tmp 46) (.int .i64 (2)) (.int .i64 (y.dp - 1)) (.bool true) (ge3 (decide_eq_true (by omega)) _ _ _) ?_
        refine wl_m (.tmp 47) (.bool true) ?_
        refine wl_m (.tmp 7) (.int .i64 r.c) ?_
        cases hf7 : decide (r.c = 0) with
        | true =>
         have hf7p := of_decide_eq_true hf7
         refine wl_b .neq 2 (.tmp 49) (.const (.int .i64 (0))) (.int .i64 r.c) (.int .i64 (0)) (.bool false) (ne2 hf7 _ _ _) ?_
         refine wl_pick (.tmp 48) (.tmp 50) (.const (.bool false)) true (.bool false) (fun _ => rfl) rfl rfl rfl ?_
         refine wl_pick (.tmp 44) (.const (.bool true)) (.tmp 51) false (.bool false) (fun _ => rfl) rfl rfl rfl ?_
         refine w_nil (xn_then (w_condF rfl (w_skip (xn_blk (xn_then (w_reg ?_))))))
         refine wl_b .add 3 (.tmp 32) (.const (.int .i64 (1))) (.int .i64 (2)) (.int .i64 (1)) (.int .i64 (3)) (by kernel_rfl) ?_
         refine wl_m (.tmp 53) (.int .i64 (3)) ?_
         refine w_nil ?_
         refine xn_rounds ?_
         refine w_seq (w_reg ?_)
         refine wl_b .lss 3 (.tmp 32) (.const (.int .i64 (3))) (.int .i64 (3)) (.int .i64 (3)) (.bool false) (lt3 (r := false) rfl _ _ _) ?_
         refine w_nil (xn_then (w_seq (w_condF rfl (w_exit (xx_then (xx_then (xx_blk (xn_then (w_seq (w_reg ?_))))))))))
         refine wl_m (.const (.int .i64 (0))) (.int .i64 (0)) ?_
         refine w_nil (xn_then (w_ret ?_))
         exact w_ret1 _ (.int .i64 (0)) rfl rfl ⟨congrArg (fun v => Ending.returned (.int .i64 v)) (Eq.symm (ck_yes hf0 hs0 (by omega) hy (by simp [ids, idu, hf4p, hf5, hf6p, hf7p]))), M⟩
        | false =>
         have hf7p := of_decide_eq_false hf7
         refine wl_b .neq 2 (.tmp 49) (.const (.int .i64 (0))) (.int .i64 r.c) (.int .i64 (0)) (.bool true) (ne2 hf7 _ _ _) ?_
         refine wl_pick (.tmp 48) (.tmp 50) (.const (.bool false)) true (.bool true) (fun _ => rfl) rfl rfl rfl ?_
         refine wl_pick (.tmp 44) (.const (.bool true)) (.tmp 51) false (.bool true) (fun _ => rfl) rfl rfl rfl ?_
         refine w_nil (xn_then (w_condT rfl (w_seq (w_reg ?_))))
         refine wl_m (.const (.int .i64 (150))) (.int .i64 (150)) ?_
         refine w_nil (xn_then (w_ret (xr_blk (xr_then (xr_then (xr_blk (xr_then ?_)))))))
         exact w_ret1 _ (.int .i64 (150)) rfl rfl ⟨congrArg (fun v => Ending.returned (.int .i64 v)) (ck_n3 hy (by simp [ids, idu, hf4p, hf5, hf6p, hf7p])).symm, M⟩
       | false =>
        have hf6p := of_decide_eq_false hf6
        refine wl_b .neq 2 (.tmp 49) (.const (.int .i64 (0))) (.int .i64 r.b) (.int .i64 (0)) (.bool true) (ne2 hf6 _ _ _) ?_
        refine wl_pick (.tmp 48) (.tmp 50) (.const (.bool false)) true (.bool true) (fun _ => rfl) rfl rfl rfl ?_
        refine wl_pick (.tmp 44) (.const (.bool true)) (.tmp 51) false (.bool true) (fun _ => rfl) rfl rfl rfl ?_
        refine w_nil (xn_then (w_condT rfl (w_seq (w_reg ?_))))
        refine wl_m (.const (.int .i64 (150))) (.int .i64 (150)) ?_
        refine w_nil (xn_then (w_ret (xr_blk (xr_then (xr_then (xr_blk (xr_then ?_)))))))
        exact w_ret1 _ (.int .i64 (150)) rfl rfl ⟨congrArg (fun v => Ending.returned (.int .i64 v)) (ck_n3 hy (by simp [ids, idu, hf4p, hf5, hf6p])).symm, M⟩
      | false =>
       refine wl_call 31 [(.tmp 40)] _ [.int .i64 r.a] (.bool false) rfl rfl (fun _ _ => by kernel_rfl) (cB hf5 (pis_n r.a _)) rfl ?_
       intro u3 hq
       replace Q1 := Q1.mo hq
       replace M := M.trans hq
       clear hq
       refine wl_un (fun v => Op.unary .not v) (.tmp 41) (.bool false) (.bool true) (fun _ => rfl) rfl (by kernel_rfl) rfl ?_
       refine wl_pick (.tmp 39) (.tmp 42) (.const (.bool false)) true (.bool true) (fun _ => rfl) rfl rfl rfl ?_
       refine wl_m (.tmp 43) (.bool true) ?_
       refine wl_skip rfl (wl_skip rfl (wl_skip rfl (wl_skip rfl (wl_skip rfl (wl_skip rfl (wl_skip rfl ?_))))))
       refine wl_pick (.tmp 44) (.const (.bool true)) (.tmp 51) true (.bool true) (fun _ => rfl) rfl rfl rfl ?_
       refine w_nil (xn_then (w_condT rfl (w_seq (w_reg ?_))))
       refine wl_m (.const (.int .i64 (150))) (.int .i64 (150)) ?_
       refine w_nil (xn_then (w_ret (xr_blk (xr_then (xr_then (xr_blk (xr_then ?_)))))))
       exact w_ret1 _ (.int .i64 (150)) rfl rfl ⟨congrArg (fun v => Ending.returned (.int .i64 v)) (ck_n3 hy (by simp [ids, idu, hf4p, hf5])).symm, M⟩
     | false =>
      have hf4p := of_decide_eq_false hf4
      cases hf5 : decide (y.dp = 3) with
      | true =>
       have hf5p := of_decide_eq_true hf5
       refine wl_b .lss 3 (.tmp 36) (.tmp 37) (.int .i64 (0)) (.int .i64 (y.dp - 1)) (.bool true) (lt3 (decide_eq_true (by omega)) _ _ _) ?_
       refine wl_m (.tmp 38) (.bool true) ?_
       refine wl_m (.tmp 7) (.int .i64 r.a) ?_
       cases hf6 : idk r.a with
       | true =>
        refine wl_call 31 [(.tmp 40)] _ [.int .i64 r.a] (.bool true) rfl rfl (fun _ _ => by kernel_rfl) (cB hf6 (pis_n r.a _)) rfl ?_
        intro u3 hq
        replace Q1 := Q1.mo hq
        replace M := M.trans hq
        clear hq
        refine wl_un (fun v => Op.unary .not v) (.tmp 41) (.bool true) (.bool false) (fun _ => rfl) rfl (by kernel_rfl) rfl ?_
        refine wl_pick (.tmp 39) (.tmp 42) (.const (.bool false)) true (.bool false) (fun _ => rfl) rfl rfl rfl ?_
        refine wl_m (.tmp 43) (.bool false) ?_
        refine wl_m (.tmp 6) (.int .i64 (0)) ?_
        refine wl_m (.tmp 5) (.int .i64 (y.dp - 1)) ?_
        refine wl_b .geq 3 (.tmp 45) (.tmp 46) (.int .i64 (0)) (.int .i64 (y.dp - 1)) (.bool false) (ge3 (decide_eq_false (by omega)) _ _ _) ?_
        refine wl_m (.tmp 47) (.bool false) ?_
        refine wl_skip rfl (wl_skip rfl ?_)
        refine wl_pick (.tmp 48) (.tmp 50) (.const (.bool false)) false (.bool false) (fun _ => rfl) rfl rfl rfl ?_
        refine wl_pick (.tmp 44) (.const (.bool true)) (.tmp 51) false (.bool false) (fun _ => rfl) rfl rfl rfl ?_
        refine w_nil (xn_then (w_condF rfl (w_skip (xn_blk (xn_then (w_reg ?_))))))
        refine wl_b .add 3 (.tmp 32) (.const (.int .i64 (1))) (.int .i64 (0)) (.int .i64 (1)) (.int .i64 (1)) (by kernel_rfl) ?_
        refine wl_m (.tmp 53) (.int .i64 (1)) ?_
        refine w_nil ?_
        refine xn_rounds ?_
        refine w_seq (w_reg ?_)
        refine wl_b .lss 3 (.tmp 32) (.const (.int .i64 (3))) (.int .i64 (1)) (.int .i64 (3)) (.bool true) (lt3 (r := true) rfl _ _ _) ?_
        refine w_nil (xn_then (w_seq (w_condT rfl (w_skip (xn_then (w_seq (w_block (w_seq (w_reg ?_)))))))))
        refine wl_m (.tmp 32) (.int .i64 (1)) ?_
        refine wl_bin (fun x y => Instr.index 23 x y) (.tmp 31) (.tmp 32) (.agg #[.int .i64 r.a, .int .i64 r.b, .int .i64 r.c]) (.int .i64 (1)) (.int .i64 r.b) (fun _ => rfl) rfl rfl (by kernel_rfl) rfl ?_
        refine wl_m (.tmp 34) (.int .i64 (1)) ?_
        refine wl_m (.tmp 35) (.int .i64 r.b) ?_
        refine w_nil (xn_then (w_seq (w_reg ?_)))
        refine wl_m (.tmp 6) (.int .i64 (1)) ?_
        refine wl_m (.tmp 5) (.int .i64 (y.dp - 1)) ?_
        refine wl_b .lss 3 (.tmp 36) (.tmp 37) (.int .i64 (1)) (.int .i64 (y.dp - 1)) (.bool true) (lt3 (decide_eq_true (by omega)) _ _ _) ?_
        refine wl_m (.tmp 38) (.bool true) ?_
        refine wl_m (.tmp 7) (.int .i64 r.b) ?_
        cases hf7 : idk r.b with
        | true =>
         refine wl_call 31 [(.tmp 40)] _ [.int .i64 r.b] (.bool true) rfl rfl (fun _ _ => by kernel_rfl) (cB hf7 (pis_n r.b _)) rfl ?_
         intro u4 hq
         replace Q1 := Q1.mo hq
         replace M := M.trans hq
         clear hq
         refine wl_un (fun v => Op.unary .not v) (.tmp 41) (.bool true) (.bool false) (fun _ => rfl) rfl (by kernel_rfl) rfl ?_
         refine wl_pick (.tmp 39) (.tmp 42) (.const (.bool false)) true (.bool false) (fun _ => rfl) rfl rfl rfl ?_
         refine wl_m (.tmp 43) (.bool false) ?_
         refine wl_m (.tmp 6) (.int .i64 (1)) ?_
         refine wl_m (.tmp 5) (.int .i64 (y.dp - 1)) ?_
         refine wl_b .geq 3 (.tmp 45) (.tmp 46) (.int .i64 (1)) (.int .i64 (y.dp - 1)) (.bool false) (ge3 (decide_eq_false (by omega)) _ _ _) ?_
         refine wl_m (.tmp 47) (.bool false) ?_
         refine wl_skip rfl (wl_skip rfl ?_)
         refine wl_pick (.tmp 48) (.tmp 50) (.const (.bool false)) false (.bool false) (fun _ => rfl) rfl rfl rfl ?_
         refine wl_pick (.tmp 44) (.const (.bool true)) (.tmp 51) false (.bool false) (fun _ => rfl) rfl rfl rfl ?_
         refine w_nil (xn_then (w_condF rfl (w_skip (xn_blk (xn_then (w_reg ?_))))))
         refine wl_b .add 3 (.tmp 32) (.const (.int .i64 (1))) (.int .i64 (1)) (.int .i64 (1)) (.int .i64 (2)) (by kernel_rfl) ?_
         refine wl_m (.tmp 53) (.int .i64 (2)) ?_
         refine w_nil ?_
         refine xn_rounds ?_
         refine w_seq (w_reg ?_)
         refine wl_b .lss 3 (.tmp 32) (.const (.int .i64 (3))) (.int .i64 (2)) (.int .i64 (3)) (.bool true) (lt3 (r := true) rfl _ _ _) ?_
         refine w_nil (xn_then (w_seq (w_condT rfl (w_skip (xn_then (w_seq (w_block (w_seq (w_reg ?_)))))))))
         refine wl_m (.tmp 32) (.int .i64 (2)) ?_
         refine wl_bin (fun x y => Instr.index 23 x y) (.tmp 31) (.tmp 32) (.agg #[.int .i64 r.a, .int .i64 r.b, .int .i64 r.c]) (.int .i64 (2)) (.int .i64 r.c) (fun _ => rfl) rfl rfl (by kernel_rfl) rfl ?_
         refine wl_m (.tmp 34) (.int .i64 (2)) ?_
         refine wl_m (.tmp 35) (.int .i64 r.c) ?_
         refine w_nil (xn_then (w_seq (w_reg ?_)))
         refine wl_m (.tmp 6) (.int .i64 (2)) ?_
         refine wl_m (.tmp 5) (.int .i64 (y.dp - 1)) ?_
         refine wl_b .lss 3 (.tmp 36) (.tmp 37) (.int .i64 (2)) (.int .i64 (y.dp - 1)) (.bool false) (lt3 (decide_eq_false (by omega)) _ _ _) ?_
         refine wl_m (.tmp 38) (.bool false) ?_
         refine wl_skip rfl (wl_skip rfl (wl_skip rfl ?_))
         refine wl_pick (.tmp 39) (.tmp 42) (.const (.bool false)) false (.bool false) (fun _ => rfl) rfl rfl rfl ?_
         refine wl_m (.tmp 43) (.bool false) ?_
         refine wl_m (.tmp 6) (.int .i64 (2)) ?_
         refine wl_m (.tmp 5) (.int .i64 (y.dp - 1)) ?_
         refine wl_b .geq 3 (.tmp 45) (.tmp 46) (.int .i64 (2)) (.int .i64 (y.dp - 1)) (.bool true) (ge3 (decide_eq_true (by omega)) _ _ _) ?_
         refine wl_m (.tmp 47) (.bool true) ?_
         refine wl_m (.tmp 7) (.int .i64 r.c) ?_
         cases hf8 : decide (r.c = 0) with
         | true =>
          have hf8p := of_decide_eq_true hf8
          refine wl_b .neq 2 (.tmp 49) (.const (.int .i64 (0))) (.int .i64 r.c) (.int .i64 (0)) (.bool false) (ne2 hf8 _ _ _) ?_
          refine wl_pick (.tmp 48) (.tmp 50) (.const (.bool false)) true (.bool false) (fun _ => rfl) rfl rfl rfl ?_
          refine wl_pick (.tmp 44) (.const (.bool true)) (.tmp 51) false (.bool false) (fun _ => rfl) rfl rfl rfl ?_
          refine w_nil (xn_then (w_condF rfl (w_skip (xn_blk (xn_then (w_reg ?_))))))
          refine wl_b .add 3 (.tmp 32) (.const (.int .i64 (1))) (.int .i64 (2)) (.int .i64 (1)) (.int .i64 (3)) (by kernel_rfl) ?_
          refine wl_m (.tmp 53) (.int .i64 (3)) ?_
          refine w_nil ?_
          refine xn_rounds ?_
          refine w_seq (w_reg ?_)
          refine wl_b .lss 3 (.tmp 32) (.const (.int .i64 (3))) (.int .i64 (3)) (.int .i64 (3)) (.bool false) (lt3 (r := false) rfl _ _ _) ?_
          refine w_nil (xn_then (w_seq (w_condF rfl (w_exit (xx_then (xx_then (xx_blk (xn_then (w_seq (w_reg ?_))))))))))
          refine wl_m (.const (.int .i64 (0))) (.int .i64 (0)) ?_
          refine w_nil (xn_then (w_ret ?_))
          exact w_ret1 _ (.int .i64 (0)) rfl rfl ⟨congrArg (fun v => Ending.returned (.int .i64 v)) (Eq.symm (ck_yes hf0 hs0 (by omega) hy (by simp [ids, idu, hf5p, hf6, hf7, hf8p]))), M⟩
         | false =>
          have hf8p := of_decide_eq_false hf8
          refine wl_b .neq 2 (.tmp 49) (.const (.int .i64 (0))) (.int .i64 r.c) (.int .i64 (0)) (.bool true) (ne2 hf8 _ _ _) ?_
          refine wl_pick (.tmp 48) (.tmp 50) (.const (.bool false)) true (.bool true) (fun _ => rfl) rfl rfl rfl ?_
          refine wl_pick (.tmp 44) (.const (.bool true)) (.tmp 51) false (.bool true) (fun _ => rfl) rfl rfl rfl ?_
          refine w_nil (xn_then (w_condT rfl (w_seq (w_reg ?_))))
          refine wl_m (.const (.int .i64 (150))) (.int .i64 (150)) ?_
          refine w_nil (xn_then (w_ret (xr_blk (xr_then (xr_then (xr_blk (xr_then ?_)))))))
          exact w_ret1 _ (.int .i64 (150)) rfl rfl ⟨congrArg (fun v => Ending.returned (.int .i64 v)) (ck_n3 hy (by simp [ids, idu, hf5p, hf6, hf7, hf8p])).symm, M⟩
        | false =>
         refine wl_call 31 [(.tmp 40)] _ [.int .i64 r.b] (.bool false) rfl rfl (fun _ _ => by kernel_rfl) (cB hf7 (pis_n r.b _)) rfl ?_
         intro u4 hq
         replace Q1 := Q1.mo hq
         replace M := M.trans hq
         clear hq
         refine wl_un (fun v => Op.unary .not v) (.tmp 41) (.bool false) (.bool true) (fun _ => rfl) rfl (by kernel_rfl) rfl ?_
         refine wl_pick (.tmp 39) (.tmp 42) (.const (.bool false)) true (.bool true) (fun _ => rfl) rfl rfl rfl ?_
         refine wl_m (.tmp 43) (.bool true) ?_
         refine wl_skip rfl (wl_skip rfl (wl_skip rfl (wl_skip rfl (wl_skip rfl (wl_skip rfl (wl_skip rfl ?_))))))
         refine wl_pick (.tmp 44) (.const (.bool true)) (.tmp 51) true (.bool true) (fun _ => rfl) rfl rfl rfl ?_
         refine w_nil (xn_then (w_condT rfl (w_seq (w_reg ?_))))
         refine wl_m (.const (.int .i64 (150))) (.int .i64 (150)) ?_
         refine w_nil (xn_then (w_ret (xr_blk (xr_then (xr_then (xr_blk (xr_then ?_)))))))
         exact w_ret1 _ (.int .i64 (150)) rfl rfl ⟨congrArg (fun v => Ending.returned (.int .i64 v)) (ck_n3 hy (by simp [ids, idu, hf5p, hf6, hf7])).symm, M⟩
       | false =>
        refine wl_call 31 [(.tmp 40)] _ [.int .i64 r.a] (.bool false) rfl rfl (fun _ _ => by kernel_rfl) (cB hf6 (pis_n r.a _)) rfl ?_
        intro u3 hq
        replace Q1 := Q1.mo hq
        replace M := M.trans hq
        clear hq
        refine wl_un (fun v => Op.unary .not v) (.tmp 41) (.bool false) (.bool true) (fun _ => rfl) rfl (by kernel_rfl) rfl ?_
        refine wl_pick (.tmp 39) (.tmp 42) (.const (.bool false)) true (.bool true) (fun _ => rfl) rfl rfl rfl ?_
        refine wl_m (.tmp 43) (.bool true) ?_
        refine wl_skip rfl (wl_skip rfl (wl_skip rfl (wl_skip rfl (wl_skip rfl (wl_skip rfl (wl_skip rfl ?_))))))
        refine wl_pick (.tmp 44) (.const (.bool true)) (.tmp 51) true (.bool true) (fun _ => rfl) rfl rfl rfl ?_
        refine w_nil (xn_then (w_condT rfl (w_seq (w_reg ?_))))
        refine wl_m (.const (.int .i64 (150))) (.int .i64 (150)) ?_
        refine w_nil (xn_then (w_ret (xr_blk (xr_then (xr_then (xr_blk (xr_then ?_)))))))
        exact w_ret1 _ (.int .i64 (150)) rfl rfl ⟨congrArg (fun v => Ending.returned (.int .i64 v)) (ck_n3 hy (by simp [ids, idu, hf5p, hf6])).symm, M⟩
      | false =>
       have hf5p := of_decide_eq_false hf5
       refine wl_b .lss 3 (.tmp 36) (.tmp 37) (.int .i64 (0)) (.int .i64 (y.dp - 1)) (.bool true) (lt3 (decide_eq_true (by omega)) _ _ _) ?_
       refine wl_m (.tmp 38) (.bool true) ?_
       refine wl_m (.tmp 7) (.int .i64 r.a) ?_
       cases hf6 : idk r.a with
       | true =>
        refine wl_call 31 [(.tmp 40)] _ [.int .i64 r.a] (.bool true) rfl rfl (fun _ _ => by kernel_rfl) (cB hf6 (pis_n r.a _)) rfl ?_
        intro u3 hq
        replace Q1 := Q1.mo hq
        replace M := M.trans hq
        clear hq
        refine wl_un (fun v => Op.unary .not v) (.tmp 41) (.bool true) (.bool false) (fun _ => rfl) rfl (by kernel_rfl) rfl ?_
        refine wl_pick (.tmp 39) (.tmp 42) (.const (.bool false)) true (.bool false) (fun _ => rfl) rfl rfl rfl ?_
        refine wl_m (.tmp 43) (.bool false) ?_
        refine wl_m (.tmp 6) (.int .i64 (0)) ?_
        refine wl_m (.tmp 5) (.int .i64 (y.dp - 1)) ?_
        refine wl_b .geq 3 (.tmp 45) (.tmp 46) (.int .i64 (0)) (.int .i64 (y.dp - 1)) (.bool false) (ge3 (decide_eq_false (by omega)) _ _ _) ?_
        refine wl_m (.tmp 47) (.bool false) ?_
        refine wl_skip rfl (wl_skip rfl ?_)
        refine wl_pick (.tmp 48) (.tmp 50) (.const (.bool false)) false (.bool false) (fun _ => rfl) rfl rfl rfl ?_
        refine wl_pick (.tmp 44) (.const (.bool true)) (.tmp 51) false (.bool false) (fun _ => rfl) rfl rfl rfl ?_
        refine w_nil (xn_then (w_condF rfl (w_skip (xn_blk (xn_then (w_reg ?_))))))
        refine wl_b .add 3 (.tmp 32) (.const (.int .i64 (1))) (.int .i64 (0)) (.int .i64 (1)) (.int .i64 (1)) (by kernel_rfl) ?_
        refine wl_m (.tmp 53) (.int .i64 (1)) ?_
        refine w_nil ?_
        refine xn_rounds ?_
        refine w_seq (w_reg ?_)
        refine wl_b .lss 3 (.tmp 32) (.const (.int .i64 (3))) (.int .i64 (1)) (.int .i64 (3)) (.bool true) (lt3 (r := true) rfl _ _ _) ?_
        refine w_nil (xn_then (w_seq (w_condT rfl (w_skip (xn_then (w_seq (w_block (w_seq (w_reg ?_)))))))))
        refine wl_m (.tmp 32) (.int .i64 (1)) ?_
        refine wl_bin (fun x y => Instr.index 23 x y) (.tmp 31) (.tmp 32) (.agg #[.int .i64 r.a, .int .i64 r.b, .int .i64 r.c]) (.int .i64 (1)) (.int .i64 r.b) (fun _ => rfl) rfl rfl (by kernel_rfl) rfl ?_
        refine wl_m (.tmp 34) (.int .i64 (1)) ?_
        refine wl_m (.tmp 35) (.int .i64 r.b) ?_
        refine w_nil (xn_then (w_seq (w_reg ?_)))
        refine wl_m (.tmp 6) (.int .i64 (1)) ?_
        refine wl_m (.tmp 5) (.int .i64 (y.dp - 1)) ?_
        refine wl_b .lss 3 (.tmp 36) (.tmp 37) (.int .i64 (1)) (.int .i64 (y.dp - 1)) (.bool true) (lt3 (decide_eq_true (by omega)) _ _ _) ?_
        refine wl_m (.tmp 38) (.bool true) ?_
        refine wl_m (.tmp 7) (.int .i64 r.b) ?_
        cases hf7 : idk r.b with
        | true =>
         refine wl_call 31 [(.tmp 40)] _ [.int .i64 r.b] (.bool true) rfl rfl (fun _ _ => by kernel_rfl) (cB hf7 (pis_n r.b _)) rfl ?_
         intro u4 hq
         replace Q1 := Q1.mo hq
         replace M := M.trans hq
         clear hq
         refine wl_un (fun v => Op.unary .not v) (.tmp 41) (.bool true) (.bool false) (fun _ => rfl) rfl (by kernel_rfl) rfl ?_
         refine wl_pick (.tmp 39) (.tmp 42) (.const (.bool false)) true (.bool false) (fun _ => rfl) rfl rfl rfl ?_
         refine wl_m (.tmp 43) (.bool false) ?_
         refine wl_m (.tmp 6) (.int .i64 (1)) ?_
         refine wl_m (.tmp 5) (.int .i64 (y.dp - 1)) ?_
         refine wl_b .geq 3 (.tmp 45) (.tmp 46) (.int .i64 (1)) (.int .i64 (y.dp - 1)) (.bool false) (ge3 (decide_eq_false (by omega)) _ _ _) ?_
         refine wl_m (.tmp 47) (.bool false) ?_
         refine wl_skip rfl (wl_skip rfl ?_)
         refine wl_pick (.tmp 48) (.tmp 50) (.const (.bool false)) false (.bool false) (fun _ => rfl) rfl rfl rfl ?_
         refine wl_pick (.tmp 44) (.const (.bool true)) (.tmp 51) false (.bool false) (fun _ => rfl) rfl rfl rfl ?_
         refine w_nil (xn_then (w_condF rfl (w_skip (xn_blk (xn_then (w_reg ?_))))))
         refine wl_b .add 3 (.tmp 32) (.const (.int .i64 (1))) (.int .i64 (1)) (.int .i64 (1)) (.int .i64 (2)) (by kernel_rfl) ?_
         refine wl_m (.tmp 53) (.int .i64 (2)) ?_
         refine w_nil ?_
         refine xn_rounds ?_
         refine w_seq (w_reg ?_)
         refine wl_b .lss 3 (.tmp 32) (.const (.int .i64 (3))) (.int .i64 (2)) (.int .i64 (3)) (.bool true) (lt3 (r := true) rfl _ _ _) ?_
         refine w_nil (xn_then (w_seq (w_condT rfl (w_skip (xn_then (w_seq (w_block (w_seq (w_reg ?_)))))))))
         refine wl_m (.tmp 32) (.int .i64 (2)) ?_
         refine wl_bin (fun x y => Instr.index 23 x y) (.tmp 31) (.tmp 32) (.agg #[.int .i64 r.a, .int .i64 r.b, .int .i64 r.c]) (.int .i64 (2)) (.int .i64 r.c) (fun _ => rfl) rfl rfl (by kernel_rfl) rfl ?_
         refine wl_m (.tmp 34) (.int .i64 (2)) ?_
         refine wl_m (.tmp 35) (.int .i64 r.c) ?_
         refine w_nil (xn_then (w_seq (w_reg ?_)))
         refine wl_m (.tmp 6) (.int .i64 (2)) ?_
         refine wl_m (.tmp 5) (.int .i64 (y.dp - 1)) ?_
         refine wl_b .lss 3 (.tmp 36) (.tmp 37) (.int .i64 (2)) (.int .i64 (y.dp - 1)) (.bool true) (lt3 (decide_eq_true (by omega)) _ _ _) ?_
         refine wl_m (.tmp 38) (.bool true) ?_
         refine wl_m (.tmp 7) (.int .i64 r.c) ?_
         cases hf8 : idk r.c with
         | true =>
          refine wl_call 31 [(.tmp 40)] _ [.int .i64 r.c] (.bool true) rfl rfl (fun _ _ => by kernel_rfl) (cB hf8 (pis_n r.c _)) rfl ?_
          intro u5 hq
          replace Q1 := Q1.mo hq
          replace M := M.trans hq
          clear hq
          refine wl_un (fun v => Op.unary .not v) (.tmp 41) (.bool true) (.bool false) (fun _ => rfl) rfl (by kernel_rfl) rfl ?_
          refine wl_pick (.tmp 39) (.tmp 42) (.const (.bool false)) true (.bool false) (fun _ => rfl) rfl rfl rfl ?_
          refine wl_m (.tmp 43) (.bool false) ?_
          refine wl_m (.tmp 6) (.int .i64 (2)) ?_
          refine wl_m (.tmp 5) (.int .i64 (y.dp - 1)) ?_
          refine wl_b .geq 3 (.tmp 45) (.tmp 46) (.int .i64 (2)) (.int .i64 (y.dp - 1)) (.bool false) (ge3 (decide_eq_false (by omega)) _ _ _) ?_
          refine wl_m (.tmp 47) (.bool false) ?_
          refine wl_skip rfl (wl_skip rfl ?_)
          refine wl_pick (.tmp 48) (.tmp 50) (.const (.bool false)) false (.bool false) (fun _ => rfl) rfl rfl rfl ?_
          refine wl_pick (.tmp 44) (.const (.bool true)) (.tmp 51) false (.bool false) (fun _ => rfl) rfl rfl rfl ?_
          refine w_nil (xn_then (w_condF rfl (w_skip (xn_blk (xn_then (w_reg ?_))))))
          refine wl_b .add 3 (.tmp 32) (.const (.int .i64 (1))) (.int .i64 (2)) (.int .i64 (1)) (.int .i64 (3)) (by kernel_rfl) ?_
          refine wl_m (.tmp 53) (.int .i64 (3)) ?_
          refine w_nil ?_
          refine xn_rounds ?_
          refine w_seq (w_reg ?_)
          refine wl_b .lss 3 (.tmp 32) (.const (.int .i64 (3))) (.int .i64 (3)) (.int .i64 (3)) (.bool false) (lt3 (r := false) rfl _ _ _) ?_
          refine w_nil (xn_then (w_seq (w_condF rfl (w_exit (xx_then (xx_then (xx_blk (xn_then (w_seq (w_reg ?_))))))))))
          refine wl_m (.const (.int .i64 (0))) (.int .i64 (0)) ?_
          refine w_nil (xn_then (w_ret ?_))
          exact w_ret1 _ (.int .i64 (0)) rfl rfl ⟨congrArg (fun v => Ending.returned (.int .i64 v)) (Eq.symm (ck_yes hf0 hs0 (by omega) hy (by simp [ids, idu, (show y.dp = 4 by omega), hf6, hf7, hf8]))), M⟩
         | false =>
          refine wl_call 31 [(.tmp 40)] _ [.int .i64 r.c] (.bool false) rfl rfl (fun _ _ => by kernel_rfl) (cB hf8 (pis_n r.c _)) rfl ?_
          intro u5 hq
          replace Q1 := Q1.mo hq
          replace M := M.trans hq
          clear hq
          refine wl_un (fun v => Op.unary .not v) (.tmp 41) (.bool false) (.bool true) (fun _ => rfl) rfl (by kernel_rfl) rfl ?_
          refine wl_pick (.tmp 39) (.tmp 42) (.const (.bool false)) true (.bool true) (fun _ => rfl) rfl rfl rfl ?_
          refine wl_m (.tmp 43) (.bool true) ?_
          refine wl_skip rfl (wl_skip rfl (wl_skip rfl (wl_skip rfl (wl_skip rfl (wl_skip rfl (wl_skip rfl ?_))))))
          refine wl_pick (.tmp 44) (.const (.bool true)) (.tmp 51) true (.bool true) (fun _ => rfl) rfl rfl rfl ?_
          refine w_nil (xn_then (w_condT rfl (w_seq (w_reg ?_))))
          refine wl_m (.const (.int .i64 (150))) (.int .i64 (150)) ?_
          refine w_nil (xn_then (w_ret (xr_blk (xr_then (xr_then (xr_blk (xr_then ?_)))))))
          exact w_ret1 _ (.int .i64 (150)) rfl rfl ⟨congrArg (fun v => Ending.returned (.int .i64 v)) (ck_n3 hy (by simp [ids, idu, (show y.dp = 4 by omega), hf6, hf7, hf8])).symm, M⟩
        | false =>
         refine wl_call 31 [(.tmp 40)] _ [.int .i64 r.b] (.bool false) rfl rfl (fun _ _ => by kernel_rfl) (cB hf7 (pis_n r.b _)) rfl ?_
         intro u4 hq
         replace Q1 := Q1.mo hq
         replace M := M.trans hq
         clear hq
         refine wl_un (fun v => Op.unary .not v) (.tmp 41) (.bool false) (.bool true) (fun _ => rfl) rfl (by kernel_rfl) rfl ?_
         refine wl_pick (.tmp 39) (.tmp 42) (.const (.bool false)) true (.bool true) (fun _ => rfl) rfl rfl rfl ?_
         refine wl_m (.tmp 43) (.bool true) ?_
         refine wl_skip rfl (wl_skip rfl (wl_skip rfl (wl_skip rfl (wl_skip rfl (wl_skip rfl (wl_skip rfl ?_))))))
         refine wl_pick (.tmp 44) (.const (.bool true)) (.tmp 51) true (.bool true) (fun _ => rfl) rfl rfl rfl ?_
         refine w_nil (xn_then (w_condT rfl (w_seq (w_reg ?_))))
         refine wl_m (.const (.int .i64 (150))) (.int .i64 (150)) ?_
         refine w_nil (xn_then (w_ret (xr_blk (xr_then (xr_then (xr_blk (xr_then ?_)))))))
         exact w_ret1 _ (.int .i64 (150)) rfl rfl ⟨congrArg (fun v => Ending.returned (.int .i64 v)) (ck_n3 hy (by simp [ids, idu, (show y.dp = 4 by omega), hf6, hf7])).symm, M⟩
       | false =>
        refine wl_call 31 [(.tmp 40)] _ [.int .i64 r.a] (.bool false) rfl rfl (fun _ _ => by kernel_rfl) (cB hf6 (pis_n r.a _)) rfl ?_
        intro u3 hq
        replace Q1 := Q1.mo hq
        replace M := M.trans hq
        clear hq
        refine wl_un (fun v => Op.unary .not v) (.tmp 41) (.bool false) (.bool true) (fun _ => rfl) rfl (by kernel_rfl) rfl ?_
        refine wl_pick (.tmp 39) (.tmp 42) (.const (.bool false)) true (.bool true) (fun _ => rfl) rfl rfl rfl ?_
        refine wl_m (.tmp 43) (.bool true) ?_
        refine wl_skip rfl (wl_skip rfl (wl_skip rfl (wl_skip rfl (wl_skip rfl (wl_skip rfl (wl_skip rfl ?_))))))
        refine wl_pick (.tmp 44) (.const (.bool true)) (.tmp 51) true (.bool true) (fun _ => rfl) rfl rfl rfl ?_
        refine w_nil (xn_then (w_condT rfl (w_seq (w_reg ?_))))
        refine wl_m (.const (.int .i64 (150))) (.int .i64 (150)) ?_
        refine w_nil (xn_then (w_ret (xr_blk (xr_then (xr_then (xr_blk (xr_then ?_)))))))
        exact w_ret1 _ (.int .i64 (150)) rfl rfl ⟨congrArg (fun v => Ending.returned (.int .i64 v)) (ck_n3 hy (by simp [ids, idu, (show y.dp = 4 by omega), hf6])).symm, M⟩
 | false =>
  refine wl_call 30 [(.tmp 8)] _ [.slice pl L.length cl] (.bool false) rfl rfl (fun _ _ => by kernel_rfl) (cB hf0 (psnd_n _ (hL.mo M) hcl)) rfl ?_
  intro u2 hq
  replace Q1 := Q1.mo hq
  replace M := M.trans hq
  clear hq
  refine wl_un (fun v => Op.unary .not v) (.tmp 9) (.bool false) (.bool true) (fun _ => rfl) rfl (by kernel_rfl) rfl ?_
  refine wl_m (.tmp 10) (.bool true) ?_
  refine wl_skip rfl (wl_skip rfl (wl_skip rfl ?_))
  refine wl_pick (.tmp 11) (.const (.bool true)) (.tmp 14) true (.bool true) (fun _ => rfl) rfl rfl rfl ?_
  refine wl_m (.tmp 15) (.bool true) ?_
  refine wl_skip rfl (wl_skip rfl (wl_skip rfl (wl_skip rfl (wl_skip rfl ?_))))
  refine wl_pick (.tmp 16) (.const (.bool true)) (.tmp 21) true (.bool true) (fun _ => rfl) rfl rfl rfl ?_
  refine w_nil (xn_then (w_condT rfl (w_seq (w_reg ?_))))
  refine wl_m (.const (.int .i64 (150))) (.int .i64 (150)) ?_
  refine w_nil (xn_then (w_ret (xr_then ?_)))
  exact w_ret1 _ (.int .i64 (150)) rfl rfl ⟨congrArg (fun v => Ending.returned (.int .i64 v)) (ck_n1 hf0).symm, M⟩
end Go.Proofs.YtnffhcjmpjajlaaDoor
