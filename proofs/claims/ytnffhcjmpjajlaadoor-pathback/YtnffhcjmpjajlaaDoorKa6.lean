/-
  A part of the proof.
-/
import Derived.Test.YtnffhcjmpjajlaaDoorKa5
import Derived.Test.YtnffhcjmpjajlaaDoorKa4
import Derived.Test.YtnffhcjmpjajlaaDoorKa3
import Derived.Test.YtnffhcjmpjajlaaDoorKa2
import Derived.Test.YtnffhcjmpjajlaaDoorKa1
import Derived.RegionTactic
import Derived.Test.YtnffhcjmpjajlaaDoorProg
import Derived.WalkKit
import Derived.WalkSpells
import Derived.Handy
import Derived.BigQuiet
import Derived.Deep.RegionHeld3
import Derived.Deep.MidRow
import Derived.BigCall
import Derived.ChangeKeysEq
import Derived.Shelf.Small.Bits
import Derived.Shelf.Strconv.Itoa0
import Derived.Shelf.Bits.Mul64
import Derived.Deep.CutRange
import Derived.Deep.CutBlock
import Derived.ScopeJumps
import Derived.WalkMore
import Derived.Laws.StructEq
import Derived.Lib.CutLaws
import Derived.Maps.OwnSet
import Derived.WalkArith
import Derived.StringKeys
import Derived.ProofKit
import Derived.OpenShut
import Derived.ChangeArms
import Derived.Deep.Slices
import Derived.ReadAgain
import Derived.WideKeyArgs
import Derived.Maps.AppendAt
namespace Go.Proofs.YtnffhcjmpjajlaaDoor
open Go.RowKit D
theorem r1v {a b : Ro} (h : a = b) : Ending.returned a.v = .returned b.v := by rw [h]
theorem pcc_n {L : List S5} {pl : Option Addr} {cl : Nat} {c : Ce} (w : World) (hL : LL w pl L) (hcl : L.length ≤ cl) : Calls Tryd.prog 12 #[.slice pl L.length cl, c.v] w fun e9 w' => e9 = .returned (.int .i64 (ckC L c)) ∧ Mo w w' := by
 refine w_enter 29 Tryd.func12 Tryd.ntmps12 rfl rfl ?_
 have M : Mo w w := Mo.refl _
 refine w_seq (w_reg ?_)
 refine wl_box 27 (.tmp 1) _ (((c.cells).toArray)) rfl rfl (fun _ => by kernel_rfl) rfl ?_
 intro k1 u1 hk hz hq Q1
 have N_k1 : w.heap.size ≤ k1 := by have := M.size; omega
 replace M := M.trans hq
 clear hk hz hq
 refine wl_m (.const (.int .i64 (0))) (.int .i64 (0)) ?_
 refine w_nil (xn_then (w_seq (w_seq (w_reg ?_))))
 refine wl_m (.tmp 0) (.slice pl L.length cl) ?_
 refine wl_f 27 0 (.tmp 3) (pt k1 0) (pt k1 0) ?_
 refine wl_l 25 (.tmp 7) (pt k1 0) (.agg (c.r.cells).toArray) (run_row Q1 25 0 4 (c.r.cells) rfl Tryd.underlying25 rfl sz25) ?_
 refine wl_call 10 [(.tmp 6), (.tmp 8)] _ [.slice pl L.length cl, .agg (c.r.cells).toArray] (.int .i64 (ckR L c.r)) rfl rfl (fun _ _ => by kernel_rfl) (pck_n _ (hL.mo M) hcl) rfl ?_
 intro u2 hq
 replace Q1 := Q1.mo hq
 replace M := M.trans hq
 clear hq
 refine wl_m (.tmp 9) (.int .i64 (ckR L c.r)) ?_
 refine w_nil (xn_then (w_seq (w_reg ?_)))
 refine wl_m (.tmp 5) (.int .i64 (ckR L c.r)) ?_
 cases hf0 : decide (ckR L c.r = 0) with
 | true =>
  have hf0p := of_decide_eq_true hf0
  refine wl_b .neq 31 (.tmp 10) (.const (.int .i64 (0))) (.int .i64 (ckR L c.r)) (.int .i64 (0)) (.bool false) (ne34 hf0 _ _ _) ?_
  refine w_nil (xn_then (w_condF rfl (w_skip (xn_then (w_seq (w_seq ?_))))))
  obtain ⟨hsn, hs0, hs1, hsi⟩ := ck_0 hf0p
  obtain ⟨y, hy⟩ := get_of_lt (show c.r.s.toNat < L.length by omega)
  have hmy := List.mem_of_getElem? hy
  have hly := lt_of_get hy
  obtain ⟨bp, op, hpp, hRp⟩ := D.SL.rw hL.sl hy
  have hdy := dp_at hsn hy
  cases hf1 : decide (c.i < 0) with
  | true =>
   have hf1p := of_decide_eq_true hf1
   refine w_any 14 [.inl (pt k1 4), .inl (.int .i64 (c.i)), .inl (.bool true), .inl (.bool true), .inl undef, .inl undef, .inl undef, .inl undef, .inl undef, .inl undef, .inl undef, .inl undef, .inl undef, .inl undef] [] (by kernel_rfl) (by kernel_rfl) (by kernel_rfl) (by kernel_rfl) rfl (by kernel_rfl) (by kernel_rfl) late_nil ?_ ?_ ?_
   ·exact Ds.none rfl
   ·refine ea_cons ?_ (ea_cons ?_ (ea_cons ?_ (ea_cons ?_ (ea_cons ?_ (ea_cons ?_ (ea_cons ?_ (ea_cons ?_ (ea_cons ?_ (ea_cons ?_ (ea_cons ?_ (ea_cons ?_ (ea_cons ?_ (ea_cons ?_ (ea_nil))))))))))))))
    ·exact og_eq _ rfl (fun f wf hq hd K hK => go_run rfl (wo_un (fun v => Instr.fieldAt 27 v 1) (.tmp 3) (pt k1 0) (pt k1 4) (fun _ => rfl) rfl (by kernel_rfl) (hK _ (Mo.refl _))))
    ·exact og_eq _ rfl (fun f wf hq hd K hK => have Q1 := Q1.mo hq; go_run rfl (wo_load 3 (.tmp 13) (pt k1 4) (.int .i64 (c.i)) rfl (hd 0 rfl) (run_one Q1 3 4 rfl Tryd.underlying3 rfl) (hK _ (Mo.refl _))))
    ·exact og_eq _ rfl (fun f wf hq hd K hK => go_run rfl (wo_bin (fun x y => do eqGuard .lss 3 (.tmp 14) (.const (.int .i64 (0))) x y; binOp .lss 3 x y) (.tmp 14) (.const (.int .i64 (0))) (.int .i64 (c.i)) (.int .i64 (0)) (.bool true) (fun _ => rfl) (hd 1 rfl) rfl (lt3 hf1 _ _ _) (hK _ (Mo.refl _))))
    ·exact og_eq _ rfl (fun f wf hq hd K hK => go_run rfl (wo_mv (.tmp 15) (.bool true) (fun _ => rfl) (hd 2 rfl) (hK _ (Mo.refl _))))
    ·exact og_eq _ rfl (fun f wf hq hd K hK => go_pass (wnt_g rfl rfl rfl (hd 3 rfl) rfl) (hK _ (Mo.refl _)))
    ·exact og_eq _ rfl (fun f wf hq hd K hK => go_pass (wnt_g rfl rfl rfl (hd 3 rfl) rfl) (hK _ (Mo.refl _)))
    ·exact og_eq _ rfl (fun f wf hq hd K hK => go_pass (wnt_g rfl rfl rfl (hd 3 rfl) rfl) (hK _ (Mo.refl _)))
    ·exact og_eq _ rfl (fun f wf hq hd K hK => go_pass (wnt_g rfl rfl rfl (hd 3 rfl) rfl) (hK _ (Mo.refl _)))
    ·exact og_eq _ rfl (fun f wf hq hd K hK => go_pass (wnt_g rfl rfl rfl (hd 3 rfl) rfl) (hK _ (Mo.refl _)))
    ·exact og_eq _ rfl (fun f wf hq hd K hK => go_pass (wnt_g rfl rfl rfl (hd 3 rfl) rfl) (hK _ (Mo.refl _)))
    ·exact og_eq _ rfl (fun f wf hq hd K hK => go_pass (wnt_g rfl rfl rfl (hd 3 rfl) rfl) (hK _ (Mo.refl _)))
    ·exact og_eq _ rfl (fun f wf hq hd K hK => go_pass (wnt_g rfl rfl rfl (hd 3 rfl) rfl) (hK _ (Mo.refl _)))
    ·exact og_eq _ rfl (fun f wf hq hd K hK => go_pass (wnt_g rfl rfl rfl (hd 3 rfl) rfl) (hK _ (Mo.refl _)))
    ·exact og_eq _ rfl (fun f wf hq hd K hK => go_pass (wnt_g rfl rfl rfl (hd 3 rfl) rfl) (hK _ (Mo.refl _)))
   intro kf3 u3 hq hR hne
   replace Q1 := Q1.mo hq
   replace M := M.trans hq
   clear hq hR hne
   refine wl_skip rfl ?_
   refine wl_pick (.tmp 16) (.const (.bool true)) (.tmp 27) true (.bool true) (fun _ => rfl) rfl rfl rfl ?_
   refine w_nil (xn_then (w_condT rfl (w_seq (w_reg ?_))))
   refine wl_m (.const (.int .i64 (150))) (.int .i64 (150)) ?_
   refine w_nil (xn_then (w_ret (xr_then ?_)))
   exact w_ret1 _ (.int .i64 (150)) rfl rfl ⟨congrArg (fun v => Ending.returned (.int .i64 v)) (by rw [cc_v hf0p hy]; simp; omega), M⟩
  | false =>
   have hf1p := of_decide_eq_false hf1
   cases hf2 : decide (((y.items.length : Nat) : Int) ≤ c.i) with
   | true =>
    have hf2p := of_decide_eq_true hf2
    refine w_any 14 [.inl (pt k1 4), .inl (.int .i64 (c.i)), .inl (.bool false), .inl (.bool false), .inl (pt k1 4), .inl (.int .i64 (c.i)), .inl (.slice pl L.length cl), .inl (pt k1 0), .inl (pt k1 0), .inl (.int .i64 (c.r.s)), .inl (pt bp (op + c.r.s.toNat * 5)), .inl (pt bp (op + c.r.s.toNat * 5 + 4)), .inl (.slice y.pi y.items.length y.ci), .inl (.int .i64 ((y.items.length : Nat) : Int))] [] (by kernel_rfl) (by kernel_rfl) (by kernel_rfl) (by kernel_rfl) rfl (by kernel_rfl) (by kernel_rfl) late_nil ?_ ?_ ?_
    ·exact Ds.none rfl
    ·refine ea_cons ?_ (ea_cons ?_ (ea_cons ?_ (ea_cons ?_ (ea_cons ?_ (ea_cons ?_ (ea_cons ?_ (ea_cons ?_ (ea_cons ?_ (ea_cons ?_ (ea_cons ?_ (ea_cons ?_ (ea_cons ?_ (ea_cons ?_ (ea_nil))))))))))))))
     ·exact og_eq _ rfl (fun f wf hq hd K hK => go_run rfl (wo_un (fun v => Instr.fieldAt 27 v 1) (.tmp 3) (pt k1 0) (pt k1 4) (fun _ => rfl) rfl (by kernel_rfl) (hK _ (Mo.refl _))))
     ·exact og_eq _ rfl (fun f wf hq hd K hK => have Q1 := Q1.mo hq; go_run rfl (wo_load 3 (.tmp 13) (pt k1 4) (.int .i64 (c.i)) rfl (hd 0 rfl) (run_one Q1 3 4 rfl Tryd.underlying3 rfl) (hK _ (Mo.refl _))))
     ·exact og_eq _ rfl (fun f wf hq hd K hK => go_run rfl (wo_bin (fun x y => do eqGuard .lss 3 (.tmp 14) (.const (.int .i64 (0))) x y; binOp .lss 3 x y) (.tmp 14) (.const (.int .i64 (0))) (.int .i64 (c.i)) (.int .i64 (0)) (.bool false) (fun _ => rfl) (hd 1 rfl) rfl (lt3 hf1 _ _ _) (hK _ (Mo.refl _))))
     ·exact og_eq _ rfl (fun f wf hq hd K hK => go_run rfl (wo_mv (.tmp 15) (.bool false) (fun _ => rfl) (hd 2 rfl) (hK _ (Mo.refl _))))
     ·exact og_eq _ rfl (fun f wf hq hd K hK => go_run (wnt_g rfl rfl rfl (hd 3 rfl) rfl) (wo_un (fun v => Instr.fieldAt 27 v 1) (.tmp 3) (pt k1 0) (pt k1 4) (fun _ => rfl) rfl (by kernel_rfl) (hK _ (Mo.refl _))))
     ·exact og_eq _ rfl (fun f wf hq hd K hK => have Q1 := Q1.mo hq; go_run (wnt_g rfl rfl rfl (hd 3 rfl) rfl) (wo_load 3 (.tmp 17) (pt k1 4) (.int .i64 (c.i)) rfl (hd 4 rfl) (run_one Q1 3 4 rfl Tryd.underlying3 rfl) (hK _ (Mo.refl _))))
     ·exact og_eq _ rfl (fun f wf hq hd K hK => go_run (wnt_g rfl rfl rfl (hd 3 rfl) rfl) (wo_mv (.tmp 0) (.slice pl L.length cl) (fun _ => rfl) rfl (hK _ (Mo.refl _))))
     ·exact og_eq _ rfl (fun f wf hq hd K hK => go_run (wnt_g rfl rfl rfl (hd 3 rfl) rfl) (wo_un (fun v => Instr.fieldAt 27 v 0) (.tmp 3) (pt k1 0) (pt k1 0) (fun _ => rfl) rfl (by kernel_rfl) (hK _ (Mo.refl _))))
     ·exact og_eq _ rfl (fun f wf hq hd K hK => go_run (wnt_g rfl rfl rfl (hd 3 rfl) rfl) (wo_un (fun v => Instr.fieldAt 25 v 0) (.tmp 20) (pt k1 0) (pt k1 0) (fun _ => rfl) (hd 7 rfl) (by kernel_rfl) (hK _ (Mo.refl _))))
     ·exact og_eq _ rfl (fun f wf hq hd K hK => have Q1 := Q1.mo hq; go_run (wnt_g rfl rfl rfl (hd 3 rfl) rfl) (wo_load 3 (.tmp 21) (pt k1 0) (.int .i64 (c.r.s)) rfl (hd 8 rfl) (run_one Q1 3 0 rfl Tryd.underlying3 rfl) (hK _ (Mo.refl _))))
     ·exact og_eq _ rfl (fun f wf hq hd K hK => go_run (wnt_g rfl rfl rfl (hd 3 rfl) rfl) (wo_bin (fun x y => Instr.indexAt 22 x y) (.tmp 19) (.tmp 22) (.slice pl L.length cl) (.int .i64 (c.r.s)) (pt bp (op + c.r.s.toNat * 5)) (fun _ => rfl) (hd 6 rfl) (hd 9 rfl) (ix22I hs0 hpp hly _) (hK _ (Mo.refl _))))
     ·exact og_eq _ rfl (fun f wf hq hd K hK => go_run (wnt_g rfl rfl rfl (hd 3 rfl) rfl) (wo_un (fun v => Instr.fieldAt 65 v 4) (.tmp 23) (pt bp (op + c.r.s.toNat * 5)) (pt bp (op + c.r.s.toNat * 5 + 4)) (fun _ => rfl) (hd 10 rfl) (by kernel_rfl) (hK _ (Mo.refl _))))
     ·exact og_eq _ rfl (fun f wf hq hd K hK => go_run (wnt_g rfl rfl rfl (hd 3 rfl) rfl) (wo_load 42 (.tmp 24) (pt bp (op + c.r.s.toNat * 5 + 4)) (.slice y.pi y.items.length y.ci) rfl (hd 11 rfl) (D.run_oneR (hRp.mo (M.trans hq)).at' 42 4 rfl Tryd.underlying42 rfl) (hK _ (Mo.refl _))))
     ·exact og_eq _ rfl (fun f wf hq hd K hK => go_run (wnt_g rfl rfl rfl (hd 3 rfl) rfl) (wo_val (.int .i64 ((y.items.length : Nat) : Int)) (len42 _ _ _ _ _ (by exact (hd 12 rfl)) _ _ _ _ _ _) (hK _ (Mo.refl _))))
    intro kf3 u3 hq hR hne
    replace Q1 := Q1.mo hq
    replace M := M.trans hq
    clear hq hR hne
    refine wl_b .geq 3 (.tmp 18) (.tmp 26) (.int .i64 (c.i)) (.int .i64 ((y.items.length : Nat) : Int)) (.bool true) (ge3 hf2 _ _ _) ?_
    refine wl_pick (.tmp 16) (.const (.bool true)) (.tmp 27) false (.bool true) (fun _ => rfl) rfl rfl rfl ?_
    refine w_nil (xn_then (w_condT rfl (w_seq (w_reg ?_))))
    refine wl_m (.const (.int .i64 (150))) (.int .i64 (150)) ?_
    refine w_nil (xn_then (w_ret (xr_then ?_)))
    exact w_ret1 _ (.int .i64 (150)) rfl rfl ⟨congrArg (fun v => Ending.returned (.int .i64 v)) (by rw [cc_v hf0p hy]; simp; omega), M⟩
   | false =>
    have hf2p := of_decide_eq_false hf2
    refine w_any 14 [.inl (pt k1 4), .inl (.int .i64 (c.i)), .inl (.bool false), .inl (.bool false), .inl (pt k1 4), .inl (.int .i64 (c.i)), .inl (.slice pl L.length cl), .inl (pt k1 0), .inl (pt k1 0), .inl (.int .i64 (c.r.s)), .inl (pt bp (op + c.r.s.toNat * 5)), .inl (pt bp (op + c.r.s.toNat * 5 + 4)), .inl (.slice y.pi y.items.length y.ci), .inl (.int .i64 ((y.items.length : Nat) : Int))] [] (by kernel_rfl) (by kernel_rfl) (by kernel_rfl) (by kernel_rfl) rfl (by kernel_rfl) (by kernel_rfl) late_nil ?_ ?_ ?_
    ·exact Ds.none rfl
    ·refine ea_cons ?_ (ea_cons ?_ (ea_cons ?_ (ea_cons ?_ (ea_cons ?_ (ea_cons ?_ (ea_cons ?_ (ea_cons ?_ (ea_cons ?_ (ea_cons ?_ (ea_cons ?_ (ea_cons ?_ (ea_cons ?_ (ea_cons ?_ (ea_nil))))))))))))))
     ·exact og_eq _ rfl (fun f wf hq hd K hK => go_run rfl (wo_un (fun v => Instr.fieldAt 27 v 1) (.tmp 3) (pt k1 0) (pt k1 4) (fun _ => rfl) rfl (by kernel_rfl) (hK _ (Mo.refl _))))
     ·exact og_eq _ rfl (fun f wf hq hd K hK => have Q1 := Q1.mo hq; go_run rfl (wo_load 3 (.tmp 13) (pt k1 4) (.int .i64 (c.i)) rfl (hd 0 rfl) (run_one Q1 3 4 rfl Tryd.underlying3 rfl) (hK _ (Mo.refl _))))
     ·exact og_eq _ rfl (fun f wf hq hd K hK => go_run rfl (wo_bin (fun x y => do eqGuard .lss 3 (.tmp 14) (.const (.int .i64 (0))) x y; binOp .lss 3 x y) (.tmp 14) (.const (.int .i64 (0))) (.int .i64 (c.i)) (.int .i64 (0)) (.bool false) (fun _ => rfl) (hd 1 rfl) rfl (lt3 hf1 _ _ _) (hK _ (Mo.refl _))))
     ·exact og_eq _ rfl (fun f wf hq hd K hK => go_run rfl (wo_mv (.tmp 15) (.bool false) (fun _ => rfl) (hd 2 rfl) (hK _ (Mo.refl _))))
     ·exact og_eq _ rfl (fun f wf hq hd K hK => go_run (wnt_g rfl rfl rfl (hd 3 rfl) rfl) (wo_un (fun v => Instr.fieldAt 27 v 1) (.tmp 3) (pt k1 0) (pt k1 4) (fun _ => rfl) rfl (by kernel_rfl) (hK _ (Mo.refl _))))
     ·exact og_eq _ rfl (fun f wf hq hd K hK => have Q1 := Q1.mo hq; go_run (wnt_g rfl rfl rfl (hd 3 rfl) rfl) (wo_load 3 (.tmp 17) (pt k1 4) (.int .i64 (c.i)) rfl (hd 4 rfl) (run_one Q1 3 4 rfl Tryd.underlying3 rfl) (hK _ (Mo.refl _))))
     ·exact og_eq _ rfl (fun f wf hq hd K hK => go_run (wnt_g rfl rfl rfl (hd 3 rfl) rfl) (wo_mv (.tmp 0) (.slice pl L.length cl) (fun _ => rfl) rfl (hK _ (Mo.refl _))))
     ·exact og_eq _ rfl (fun f wf hq hd K hK => go_run (wnt_g rfl rfl rfl (hd 3 rfl) rfl) (wo_un (fun v => Instr.fieldAt 27 v 0) (.tmp 3) (pt k1 0) (pt k1 0) (fun _ => rfl) rfl (by kernel_rfl) (hK _ (Mo.refl _))))
     ·exact og_eq _ rfl (fun f wf hq hd K hK => go_run (wnt_g rfl rfl rfl (hd 3 rfl) rfl) (wo_un (fun v => Instr.fieldAt 25 v 0) (.tmp 20) (pt k1 0) (pt k1 0) (fun _ => rfl) (hd 7 rfl) (by kernel_rfl) (hK _ (Mo.refl _))))
     ·exact og_eq _ rfl (fun f wf hq hd K hK => have Q1 := Q1.mo hq; go_run (wnt_g rfl rfl rfl (hd 3 rfl) rfl) (wo_load 3 (.tmp 21) (pt k1 0) (.int .i64 (c.r.s)) rfl (hd 8 rfl) (run_one Q1 3 0 rfl Tryd.underlying3 rfl) (hK _ (Mo.refl _))))
     ·exact og_eq _ rfl (fun f wf hq hd K hK => go_run (wnt_g rfl rfl rfl (hd 3 rfl) rfl) (wo_bin (fun x y => Instr.indexAt 22 x y) (.tmp 19) (.tmp 22) (.slice pl L.length cl) (.int .i64 (c.r.s)) (pt bp (op + c.r.s.toNat * 5)) (fun _ => rfl) (hd 6 rfl) (hd 9 rfl) (ix22I hs0 hpp hly _) (hK _ (Mo.refl _))))
     ·exact og_eq _ rfl (fun f wf hq hd K hK => go_run (wnt_g rfl rfl rfl (hd 3 rfl) rfl) (wo_un (fun v => Instr.fieldAt 65 v 4) (.tmp 23) (pt bp (op + c.r.s.toNat * 5)) (pt bp (op + c.r.s.toNat * 5 + 4)) (fun _ => rfl) (hd 10 rfl) (by kernel_rfl) (hK _ (Mo.refl _))))
     ·exact og_eq _ rfl (fun f wf hq hd K hK => go_run (wnt_g rfl rfl rfl (hd 3 rfl) rfl) (wo_load 42 (.tmp 24) (pt bp (op + c.r.s.toNat * 5 + 4)) (.slice y.pi y.items.length y.ci) rfl (hd 11 rfl) (D.run_oneR (hRp.mo (M.trans hq)).at' 42 4 rfl Tryd.underlying42 rfl) (hK _ (Mo.refl _))))
     ·exact og_eq _ rfl (fun f wf hq hd K hK => go_run (wnt_g rfl rfl rfl (hd 3 rfl) rfl) (wo_val (.int .i64 ((y.items.length : Nat) : Int)) (len42 _ _ _ _ _ (by exact (hd 12 rfl)) _ _ _ _ _ _) (hK _ (Mo.refl _))))
    intro kf3 u3 hq hR hne
    replace Q1 := Q1.mo hq
    replace M := M.trans hq
    clear hq hR hne
    refine wl_b .geq 3 (.tmp 18) (.tmp 26) (.int .i64 (c.i)) (.int .i64 ((y.items.length : Nat) : Int)) (.bool false) (ge3 hf2 _ _ _) ?_
    refine wl_pick (.tmp 16) (.const (.bool true)) (.tmp 27) false (.bool false) (fun _ => rfl) rfl rfl rfl ?_
    refine w_nil (xn_then (w_condF rfl (w_skip (xn_then (w_seq (w_reg ?_))))))
    refine wl_m (.const (.int .i64 (0))) (.int .i64 (0)) ?_
    refine w_nil (xn_then (w_ret ?_))
    exact w_ret1 _ (.int .i64 (0)) rfl rfl ⟨congrArg (fun v => Ending.returned (.int .i64 v)) (by rw [cc_v hf0p hy]; simp; omega), M⟩
 | false =>
  have hf0p := of_decide_eq_false hf0
  refine wl_b .neq 31 (.tmp 10) (.const (.int .i64 (0))) (.int .i64 (ckR L c.r)) (.int .i64 (0)) (.bool true) (ne34 hf0 _ _ _) ?_
  refine w_nil (xn_then (w_condT rfl (w_seq (w_reg ?_))))
  refine wl_m (.tmp 5) (.int .i64 (ckR L c.r)) ?_
  refine wl_m (.tmp 12) (.int .i64 (ckR L c.r)) ?_
  refine w_nil (xn_then (w_ret (xr_then ?_)))
  exact w_ret1 _ (.int .i64 (ckR L c.r)) rfl rfl ⟨congrArg (fun v => Ending.returned (.int .i64 v)) (cc_n hf0p).symm, M⟩
theorem pid_n {L : List S5} {pl : Option Addr} {cl : Nat} {r : Ro} (w : World) (hL : LL w pl L) (hcl : L.length ≤ cl) : Calls Tryd.prog 14 #[.slice pl L.length cl, r.v] w fun e9 w' => e9 = .returned (.int .i64 (idA L r)) ∧ Mo w w' := by
 refine w_enter 21 Tryd.func14 Tryd.ntmps14 rfl rfl ?_
 have M : Mo w w := Mo.refl _
 refine w_seq (w_reg ?_)
 refine wl_box 25 (.tmp 1) _ (((r.cells).toArray)) rfl rfl (fun _ => by kernel_rfl) rfl ?_
 intro k1 u1 hk hz hq Q1
 have N_k1 : w.heap.size ≤ k1 := by have := M.size; omega
 replace M := M.trans hq
 clear hk hz hq
 refine wl_m (.const (.int .i64 (0))) (.int .i64 (0)) ?_
 refine w_nil (xn_then (w_seq (w_seq (w_reg ?_))))
 refine wl_m (.tmp 0) (.slice pl L.length cl) ?_
 refine wl_l 25 (.tmp 3) (pt k1 0) (.agg (r.cells).toArray) (run_row Q1 25 0 4 (r.cells) rfl Tryd.underlying25 rfl sz25) ?_
 refine wl_call 10 [(.tmp 5), (.tmp 6)] _ [.slice pl L.length cl, .agg (r.cells).toArray] (.int .i64 (ckR L r)) rfl rfl (fun _ _ => by kernel_rfl) (pck_n _ (hL.mo M) hcl) rfl ?_
 intro u2 hq
 replace Q1 := Q1.mo hq
 replace M := M.trans hq
 clear hq
 cases hf0 : decide (ckR L r = 0) with
 | true =>
  have hf0p := of_decide_eq_true hf0
  refine wl_b .neq 31 (.tmp 7) (.const (.int .i64 (0))) (.int .i64 (ckR L r)) (.int .i64 (0)) (.bool false) (ne34 hf0 _ _ _) ?_
  refine wl_m (.tmp 8) (.bool false) ?_
  refine wl_f 25 0 (.tmp 3) (pt k1 0) (pt k1 0) ?_
  refine wl_l 3 (.tmp 10) (pt k1 0) (.int .i64 (r.s)) (run_one Q1 3 0 rfl Tryd.underlying3 rfl) ?_
  cases hf1 : decide (r.s = 0) with
  | true =>
   have hf1p := of_decide_eq_true hf1
   refine wl_b .eql 3 (.tmp 11) (.const (.int .i64 (0))) (.int .i64 (r.s)) (.int .i64 (0)) (.bool true) (eq3 hf1 _ _ _) ?_
   refine wl_pick (.tmp 9) (.const (.bool true)) (.tmp 12) false (.bool true) (fun _ => rfl) rfl rfl rfl ?_
   refine w_nil (xn_then (w_condT rfl (w_seq (w_reg ?_))))
   refine wl_m (.const (.int .i64 (0))) (.int .i64 (0)) ?_
   refine w_nil (xn_then (w_ret (xr_then ?_)))
   exact w_ret1 _ (.int .i64 (0)) rfl rfl ⟨congrArg (fun v => Ending.returned (.int .i64 v)) (id_z (fun _ => hf1p)).symm, M⟩
  | false =>
   have hf1p := of_decide_eq_false hf1
   refine wl_b .eql 3 (.tmp 11) (.const (.int .i64 (0))) (.int .i64 (r.s)) (.int .i64 (0)) (.bool false) (eq3 hf1 _ _ _) ?_
   refine wl_pick (.tmp 9) (.const (.bool true)) (.tmp 12) false (.bool false) (fun _ => rfl) rfl rfl rfl ?_
   refine w_nil (xn_then (w_condF rfl (w_skip (xn_then (w_seq ?_)))))
   obtain ⟨hsn, hs0, hs1, hsi⟩ := ck_0 hf0p
   obtain ⟨y, hy⟩ := get_of_lt (show r.s.toNat < L.length by omega)
   have hmy := List.mem_of_getElem? hy
   have hly := lt_of_get hy
   obtain ⟨bp, op, hpp, hRp⟩ := D.SL.rw hL.sl hy
   have hdy := dp_at hsn hy
   obtain ⟨_, _, _, _, _, hd2, _⟩ := pr_at hsn hy (show r.s.toNat ≠ 0 by omega)
   refine w_reg ?_
   refine wl_m (.tmp 0) (.slice pl L.length cl) ?_
   refine wl_f 25 0 (.tmp 3) (pt k1 0) (pt k1 0) ?_
   refine wl_l 3 (.tmp 15) (pt k1 0) (.int .i64 (r.s)) (run_one Q1 3 0 rfl Tryd.underlying3 rfl) ?_
   cases hf2 : decide (y.dp = 2) with
   | true =>
    have hf2p := of_decide_eq_true hf2
    refine wl_call 29 [(.tmp 14), (.tmp 16)] _ [.slice pl L.length cl, .int .i64 (r.s)] (.int .i64 (0)) rfl rfl (fun _ _ => by kernel_rfl) (cR (congrArg (Value.int .i64) (by omega)) (pown_n _ (hL.mo M) hs0 hy (by omega) (by omega))) rfl ?_
    intro u3 hq
    replace Q1 := Q1.mo hq
    replace M := M.trans hq
    clear hq
    refine wl_f 25 1 (.tmp 3) (pt k1 0) (pt k1 1) ?_
    refine wl_bin (fun x y => Instr.indexAt 23 x y) (.tmp 18) (.tmp 17) (pt k1 1) (.int .i64 (0)) (pt k1 1) (fun _ => rfl) rfl rfl (by kernel_rfl) rfl ?_
    refine wl_l 2 (.tmp 19) (pt k1 1) (.int .i64 (r.a)) (run_one Q1 2 1 rfl Tryd.underlying2 rfl) ?_
    refine wl_m (.tmp 20) (.int .i64 (r.a)) ?_
    refine w_nil (xn_then (w_ret ?_))
    exact w_ret1 _ (.int .i64 (r.a)) rfl rfl ⟨congrArg (fun v => Ending.returned (.int .i64 v)) (by rw [id_v hf0p hf1p hy]; simp [idR, hf2p]), M⟩
   | false =>
    have hf2p := of_decide_eq_false hf2
    cases hf3 : decide (y.dp = 3) with
    | true =>
     have hf3p := of_decide_eq_true hf3
     refine wl_call 29 [(.tmp 14), (.tmp 16)] _ [.slice pl L.length cl, .int .i64 (r.s)] (.int .i64 (1)) rfl rfl (fun _ _ => by kernel_rfl) (cR (congrArg (Value.int .i64) (by omega)) (pown_n _ (hL.mo M) hs0 hy (by omega) (by omega))) rfl ?_
     intro u3 hq
     replace Q1 := Q1.mo hq
     replace M := M.trans hq
     clear hq
     refine wl_f 25 1 (.tmp 3) (pt k1 0) (pt k1 1) ?_
     refine wl_bin (fun x y => Instr.indexAt 23 x y) (.tmp 18) (.tmp 17) (pt k1 1) (.int .i64 (1)) (pt k1 2) (fun _ => rfl) rfl rfl (by kernel_rfl) rfl ?_
     refine wl_l 2 (.tmp 19) (pt k1 2) (.int .i64 (r.b)) (run_one Q1 2 2 rfl Tryd.underlying2 rfl) ?_
     refine wl_m (.tmp 20) (.int .i64 (r.b)) ?_
     refine w_nil (xn_then (w_ret ?_))
     exact w_ret1 _ (.int .i64 (r.b)) rfl rfl ⟨congrArg (fun v => Ending.returned (.int .i64 v)) (by rw [id_v hf0p hf1p hy]; simp [idR, hf3p]), M⟩
    | false =>
     have hf3p := of_decide_eq_false hf3
     refine wl_call 29 [(.tmp 14), (.tmp 16)] _ [.slice pl L.length cl, .int .i64 (r.s)] (.int .i64 (2)) rfl rfl (fun _ _ => by kernel_rfl) (cR (congrArg (Value.int .i64) (by omega)) (pown_n _ (hL.mo M) hs0 hy (by omega) (by omega))) rfl ?_
     intro u3 hq
     replace Q1 := Q1.mo hq
     replace M := M.trans hq
     clear hq
     refine wl_f 25 1 (.tmp 3) (pt k1 0) (pt k1 1) ?_
     refine wl_bin (fun x y => Instr.indexAt 23 x y) (.tmp 18) (.tmp 17) (pt k1 1) (.int .i64 (2)) (pt k1 3) (fun _ => rfl) rfl rfl (by kernel_rfl) rfl ?_
     refine wl_l 2 (.tmp 19) (pt k1 3) (.int .i64 (r.c)) (run_one Q1 2 3 rfl Tryd.underlying2 rfl) ?_
     refine wl_m (.tmp 20) (.int .i64 (r.c)) ?_
     refine w_nil (xn_then (w_ret ?_))
     exact w_ret1 _ (.int .i64 (r.c)) rfl rfl ⟨congrArg (fun v => Ending.returned (.int .i64 v)) (by rw [id_v hf0p hf1p hy]; simp [idR, hf2p, hf3p]), M⟩
 | false =>
  have hf0p := of_decide_eq_false hf0
  refine wl_b .neq 31 (.tmp 7) (.const (.int .i64 (0))) (.int .i64 (ckR L r)) (.int .i64 (0)) (.bool true) (ne34 hf0 _ _ _) ?_
  refine wl_m (.tmp 8) (.bool true) ?_
  refine wl_skip rfl (wl_skip rfl (wl_skip rfl ?_))
  refine wl_pick (.tmp 9) (.const (.bool true)) (.tmp 12) true (.bool true) (fun _ => rfl) rfl rfl rfl ?_
  refine w_nil (xn_then (w_condT rfl (w_seq (w_reg ?_))))
  refine wl_m (.const (.int .i64 (0))) (.int .i64 (0)) ?_
  refine w_nil (xn_then (w_ret (xr_then ?_)))
  exact w_ret1 _ (.int .i64 (0)) rfl rfl ⟨congrArg (fun v => Ending.returned (.int .i64 v)) (id_z (fun h => absurd h hf0p)).symm, M⟩
theorem ppar_n {L : List S5} {pl : Option Addr} {cl : Nat} {r : Ro} (w : World) (hL : LL w pl L) (hcl : L.length ≤ cl) : Calls Tryd.prog 7 #[.slice pl L.length cl, r.v] w fun e9 w' => e9 = .returned (.tuple #[(parR L r).v, .bool (parO L r)]) ∧ Mo w w' := by
 refine w_enter 30 Tryd.func7 Tryd.ntmps7 rfl rfl ?_
 have M : Mo w w := Mo.refl _
 refine w_seq (w_reg ?_)
 refine wl_box 25 (.tmp 1) _ (((r.cells).toArray)) rfl rfl (fun _ => by kernel_rfl) rfl ?_
 intro k1 u1 hk hz hq Q1
 have N_k1 : w.heap.size ≤ k1 := by have := M.size; omega
 replace M := M.trans hq
 clear hk hz hq
 refine wl_alloc 25 #[.int .i64 0, .int .i64 0, .int .i64 0, .int .i64 0] rfl (fun _ => by kernel_rfl) rfl ?_
 intro k2 u2 hk hz hq Q2
 have ne_k1_k2 : k1 ≠ k2 := by have := Q1.lt; omega
 have N_k2 : w.heap.size ≤ k2 := by have := M.size; omega
 replace Q1 := Q1.mo hq
 replace M := M.trans hq
 clear hk hz hq
 refine wl_m (.const (.bool false)) (.bool false) ?_
 refine w_nil (xn_then (w_seq (w_seq (w_reg ?_))))
 refine wl_m (.tmp 0) (.slice pl L.length cl) ?_
 refine wl_l 25 (.tmp 3) (pt k1 0) (.agg (r.cells).toArray) (run_row Q1 25 0 4 (r.cells) rfl Tryd.underlying25 rfl sz25) ?_
 refine wl_call 10 [(.tmp 6), (.tmp 7)] _ [.slice pl L.length cl, .agg (r.cells).toArray] (.int .i64 (ckR L r)) rfl rfl (fun _ _ => by kernel_rfl) (pck_n _ (hL.mo M) hcl) rfl ?_
 intro u3 hq
 replace Q1 := Q1.mo hq
 replace Q2 := Q2.mo hq
 replace M := M.trans hq
 clear hq
 cases hf0 : decide (ckR L r = 0) with
 | true =>
  have hf0p := of_decide_eq_true hf0
  refine wl_b .neq 31 (.tmp 8) (.const (.int .i64 (0))) (.int .i64 (ckR L r)) (.int .i64 (0)) (.bool false) (ne34 hf0 _ _ _) ?_
  refine wl_m (.tmp 9) (.bool false) ?_
  refine wl_f 25 0 (.tmp 3) (pt k1 0) (pt k1 0) ?_
  refine wl_l 3 (.tmp 11) (pt k1 0) (.int .i64 (r.s)) (run_one Q1 3 0 rfl Tryd.underlying3 rfl) ?_
  cases hf1 : decide (r.s = 0) with
  | true =>
   have hf1p := of_decide_eq_true hf1
   refine wl_b .eql 3 (.tmp 12) (.const (.int .i64 (0))) (.int .i64 (r.s)) (.int .i64 (0)) (.bool true) (eq3 hf1 _ _ _) ?_
   refine wl_pick (.tmp 10) (.const (.bool true)) (.tmp 13) false (.bool true) (fun _ => rfl) rfl rfl rfl ?_
   refine w_nil (xn_then (w_condT rfl (w_seq (w_reg ?_))))
   refine wl_build 25 [] [] (.agg #[.int .i64 0, .int .i64 0, .int .i64 0, .int .i64 0]) rfl rfl (by kernel_rfl) rfl ?_
   refine wl_st 25 (.tmp 4) (.tmp 15) k2 0 #[.int .i64 0, .int .i64 0, .int .i64 0, .int .i64 0] _ [.int .i64 0, .int .i64 0, .int .i64 0, .int .i64 0] Q2 rfl rfl rfl rfl rfl sz25 rfl rfl rfl ?_
   intro u4 hS Qn
   replace Q2 := Qn
   clear Qn
   replace Q1 := hS.other _ _ ne_k1_k2 Q1
   replace M := hS.mo _ N_k2 M
   clear hS
   refine wl_m (.const (.bool false)) (.bool false) ?_
   refine w_nil (xn_then (w_ret (xr_then ?_)))
   exact w_ret2 _ _ (.agg #[.int .i64 0, .int .i64 0, .int .i64 0, .int .i64 0]) (.bool false) rfl ⟨k2, rfl, (run_row Q2 25 0 4 _ rfl Tryd.underlying25 rfl sz25)⟩ rfl ⟨rp (a := ro0) (par_n (fun _ => hf1p)).1.symm (par_n (fun _ => hf1p)).2.symm, M⟩
  | false =>
   have hf1p := of_decide_eq_false hf1
   refine wl_b .eql 3 (.tmp 12) (.const (.int .i64 (0))) (.int .i64 (r.s)) (.int .i64 (0)) (.bool false) (eq3 hf1 _ _ _) ?_
   refine wl_pick (.tmp 10) (.const (.bool true)) (.tmp 13) false (.bool false) (fun _ => rfl) rfl rfl rfl ?_
   refine w_nil (xn_then (w_condF rfl (w_skip (xn_then (w_seq ?_)))))
   obtain ⟨hsn, hs0, hs1, hsi⟩ := ck_0 hf0p
   obtain ⟨y, hy⟩ := get_of_lt (show r.s.toNat < L.length by omega)
   have hmy := List.mem_of_getElem? hy
   have hly := lt_of_get hy
   obtain ⟨bp, op, hpp, hRp⟩ := D.SL.rw hL.sl hy
   have hdy := dp_at hsn hy
   obtain ⟨_, _, _, _, _, hd2, _⟩ := pr_at hsn hy (show r.s.toNat ≠ 0 by omega)
   refine w_reg ?_
   refine wl_m (.tmp 0) (.slice pl L.length cl) ?_
   refine wl_f 25 0 (.tmp 3) (pt k1 0) (pt k1 0) ?_
   refine wl_l 3 (.tmp 17) (pt k1 0) (.int .i64 (r.s)) (run_one Q1 3 0 rfl Tryd.underlying3 rfl) ?_
   cases hf2 : decide (y.dp = 2) with
   | true =>
    have hf2p := of_decide_eq_true hf2
    refine wl_call 29 [(.tmp 16), (.tmp 18)] _ [.slice pl L.length cl, .int .i64 (r.s)] (.int .i64 (0)) rfl rfl (fun _ _ => by kernel_rfl) (cR (congrArg (Value.int .i64) (by omega)) (pown_n _ (hL.mo M) hs0 hy (by omega) (by omega))) rfl ?_
    intro u4 hq
    replace Q1 := Q1.mo hq
    replace Q2 := Q2.mo hq
    replace M := M.trans hq
    clear hq
    refine wl_f 25 1 (.tmp 3) (pt k1 0) (pt k1 1) ?_
    refine wl_bin (fun x y => Instr.indexAt 23 x y) (.tmp 20) (.tmp 19) (pt k1 1) (.int .i64 (0)) (pt k1 1) (fun _ => rfl) rfl rfl (by kernel_rfl) rfl ?_
    refine wl_st1 2 (.tmp 21) (.const (.int .i64 (0))) k1 1 (.int .i64 (0)) (r.cells) [.int .i64 r.s, .int .i64 (0), .int .i64 r.b, .int .i64 r.c] Q1 rfl rfl rfl rfl rfl sz2 rfl rfl rfl rfl ?_
    intro u5 hS Qn
    replace Q1 := Qn
    clear Qn
    replace Q2 := hS.other _ _ ne_k1_k2.symm Q2
    replace M := hS.mo _ N_k1 M
    clear hS
    refine w_nil (xn_then (w_seq (w_reg ?_)))
    refine wl_m (.tmp 0) (.slice pl L.length cl) ?_
    refine wl_f 25 0 (.tmp 3) (pt k1 0) (pt k1 0) ?_
    refine wl_l 3 (.tmp 23) (pt k1 0) (.int .i64 (r.s)) (run_one Q1 3 0 rfl Tryd.underlying3 rfl) ?_
    refine wl_bin (fun x y => Instr.indexAt 22 x y) (.tmp 22) (.tmp 24) (.slice pl L.length cl) (.int .i64 (r.s)) (pt bp (op + r.s.toNat * 5)) (fun _ => rfl) rfl rfl (ix22I hs0 hpp hly _) rfl ?_
    refine wl_f 65 0 (.tmp 25) (pt bp (op + r.s.toNat * 5)) (pt bp (op + r.s.toNat * 5)) ?_
    refine wl_l 3 (.tmp 26) (pt bp (op + r.s.toNat * 5)) (.int .i64 (y.pr)) (D.run_oneR (hRp.mo M).at' 3 0 rfl Tryd.underlying3 rfl) ?_
    refine wl_f 25 0 (.tmp 3) (pt k1 0) (pt k1 0) ?_
    refine wl_st1 3 (.tmp 28) (.tmp 27) k1 0 (.int .i64 (y.pr)) _ [.int .i64 (y.pr), .int .i64 (0), .int .i64 r.b, .int .i64 r.c] Q1 rfl rfl rfl rfl rfl sz3 rfl rfl rfl rfl ?_
    intro u6 hS Qn
    replace Q1 := Qn
    clear Qn
    replace Q2 := hS.other _ _ ne_k1_k2.symm Q2
    replace M := hS.mo _ N_k1 M
    clear hS
    refine w_nil (xn_then (w_seq (w_reg ?_)))
    refine wl_l 25 (.tmp 3) (pt k1 0) (.agg #[.int .i64 (y.pr), .int .i64 (0), .int .i64 r.b, .int .i64 r.c]) (run_row Q1 25 0 4 _ rfl Tryd.underlying25 rfl sz25) ?_
    refine wl_st 25 (.tmp 4) (.tmp 29) k2 0 #[.int .i64 (y.pr), .int .i64 (0), .int .i64 r.b, .int .i64 r.c] _ [.int .i64 (y.pr), .int .i64 (0), .int .i64 r.b, .int .i64 r.c] Q2 rfl rfl rfl rfl rfl sz25 rfl rfl rfl ?_
    intro u7 hS Qn
    replace Q2 := Qn
    clear Qn
    replace Q1 := hS.other _ _ ne_k1_k2 Q1
    replace M := hS.mo _ N_k2 M
    clear hS
    refine wl_m (.const (.bool true)) (.bool true) ?_
    refine w_nil (xn_then (w_ret ?_))
    exact w_ret2 _ _ (.agg #[.int .i64 (y.pr), .int .i64 (0), .int .i64 r.b, .int .i64 r.c]) (.bool true) rfl ⟨k2, rfl, (run_row Q2 25 0 4 _ rfl Tryd.underlying25 rfl sz25)⟩ rfl ⟨rp (a := (⟨y.pr, 0, r.b, r.c⟩ : Ro)) (by rw [(par_v hf0p hf1p hy).1]; simp [setR, hf2p]) (par_v hf0p hf1p hy).2.symm, M⟩
   | false =>
    have hf2p := of_decide_eq_false hf2
    cases hf3 : decide (y.dp = 3) with
    | true =>
     have hf3p := of_decide_eq_true hf3
     refine wl_call 29 [(.tmp 16), (.tmp 18)] _ [.slice pl L.length cl, .int .i64 (r.s)] (.int .i64 (1)) rfl rfl (fun _ _ => by kernel_rfl) (cR (congrArg (Value.int .i64) (by omega)) (pown_n _ (hL.mo M) hs0 hy (by omega) (by omega))) rfl ?_
     intro u4 hq
     replace Q1 := Q1.mo hq
     replace Q2 := Q2.mo hq
     replace M := M.trans hq
     clear hq
     refine wl_f 25 1 (.tmp 3) (pt k1 0) (pt k1 1) ?_
     refine wl_bin (fun x y => Instr.indexAt 23 x y) (.tmp 20) (.tmp 19) (pt k1 1) (.int .i64 (1)) (pt k1 2) (fun _ => rfl) rfl rfl (by kernel_rfl) rfl ?_
     refine wl_st1 2 (.tmp 21) (.const (.int .i64 (0))) k1 2 (.int .i64 (0)) (r.cells) [.int .i64 r.s, .int .i64 r.a, .int .i64 (0), .int .i64 r.c] Q1 rfl rfl rfl rfl rfl sz2 rfl rfl rfl rfl ?_
     intro u5 hS Qn
     replace Q1 := Qn
     clear Qn
     replace Q2 := hS.other _ _ ne_k1_k2.symm Q2
     replace M := hS.mo _ N_k1 M
     clear hS
     refine w_nil (xn_then (w_seq (w_reg ?_)))
     refine wl_m (.tmp 0) (.slice pl L.length cl) ?_
     refine wl_f 25 0 (.tmp 3) (pt k1 0) (pt k1 0) ?_
     refine wl_l 3 (.tmp 23) (pt k1 0) (.int .i64 (r.s)) (run_one Q1 3 0 rfl Tryd.underlying3 rfl) ?_
     refine wl_bin (fun x y => Instr.indexAt 22 x y) (.tmp 22) (.tmp 24) (.slice pl L.length cl) (.int .i64 (r.s)) (pt bp (op + r.s.toNat * 5)) (fun _ => rfl) rfl rfl (ix22I hs0 hpp hly _) rfl ?_
     refine wl_f 65 0 (.tmp 25) (pt bp (op + r.s.toNat * 5)) (pt bp (op + r.s.toNat * 5)) ?_
     refine wl_l 3 (.tmp 26) (pt bp (op + r.s.toNat * 5)) (.int .i64 (y.pr)) (D.run_oneR (hRp.mo M).at' 3 0 rfl Tryd.underlying3 rfl) ?_
     refine wl_f 25 0 (.tmp 3) (pt k1 0) (pt k1 0) ?_
     refine wl_st1 3 (.tmp 28) (.tmp 27) k1 0 (.int .i64 (y.pr)) _ [.int .i64 (y.pr), .int .i64 r.a, .int .i64 (0), .int .i64 r.c] Q1 rfl rfl rfl rfl rfl sz3 rfl rfl rfl rfl ?_
     intro u6 hS Qn
     replace Q1 := Qn
     clear Qn
     replace Q2 := hS.other _ _ ne_k1_k2.symm Q2
     replace M := hS.mo _ N_k1 M
     clear hS
     refine w_nil (xn_then (w_seq (w_reg ?_)))
     refine wl_l 25 (.tmp 3) (pt k1 0) (.agg #[.int .i64 (y.pr), .int .i64 r.a, .int .i64 (0), .int .i64 r.c]) (run_row Q1 25 0 4 _ rfl Tryd.underlying25 rfl sz25) ?_
     refine wl_st 25 (.tmp 4) (.tmp 29) k2 0 #[.int .i64 (y.pr), .int .i64 r.a, .int .i64 (0), .int .i64 r.c] _ [.int .i64 (y.pr), .int .i64 r.a, .int .i64 (0), .int .i64 r.c] Q2 rfl rfl rfl rfl rfl sz25 rfl rfl rfl ?_
     intro u7 hS Qn
     replace Q2 := Qn
     clear Qn
     replace Q1 := hS.other _ _ ne_k1_k2 Q1
     replace M := hS.mo _ N_k2 M
     clear hS
     refine wl_m (.const (.bool true)) (.bool true) ?_
     refine w_nil (xn_then (w_ret ?_))
     exact w_ret2 _ _ (.agg #[.int .i64 (y.pr), .int .i64 r.a, .int .i64 (0), .int .i64 r.c]) (.bool true) rfl ⟨k2, rfl, (run_row Q2 25 0 4 _ rfl Tryd.underlying25 rfl sz25)⟩ rfl ⟨rp (a := (⟨y.pr, r.a, 0, r.c⟩ : Ro)) (by rw [(par_v hf0p hf1p hy).1]; simp [setR, hf3p]) (par_v hf0p hf1p hy).2.symm, M⟩
    | false =>
     have hf3p := of_decide_eq_false hf3
     refine wl_call 29 [(.tmp 16), (.tmp 18)] _ [.slice pl L.length cl, .int .i64 (r.s)] (.int .i64 (2)) rfl rfl (fun _ _ => by kernel_rfl) (cR (congrArg (Value.int .i64) (by omega)) (pown_n _ (hL.mo M) hs0 hy (by omega) (by omega))) rfl ?_
     intro u4 hq
     replace Q1 := Q1.mo hq
     replace Q2 := Q2.mo hq
     replace M := M.trans hq
     clear hq
     refine wl_f 25 1 (.tmp 3) (pt k1 0) (pt k1 1) ?_
     refine wl_bin (fun x y => Instr.indexAt 23 x y) (.tmp 20) (.tmp 19) (pt k1 1) (.int .i64 (2)) (pt k1 3) (fun _ => rfl) rfl rfl (by kernel_rfl) rfl ?_
     refine wl_st1 2 (.tmp 21) (.const (.int .i64 (0))) k1 3 (.int .i64 (0)) (r.cells) [.int .i64 r.s, .int .i64 r.a, .int .i64 r.b, .int .i64 (0)] Q1 rfl rfl rfl rfl rfl sz2 rfl rfl rfl rfl ?_
     intro u5 hS Qn
     replace Q1 := Qn
     clear Qn
     replace Q2 := hS.other _ _ ne_k1_k2.symm Q2
     replace M := hS.mo _ N_k1 M
     clear hS
     refine w_nil (xn_then (w_seq (w_reg ?_)))
     refine wl_m (.tmp 0) (.slice pl L.length cl) ?_
     refine wl_f 25 0 (.tmp 3) (pt k1 0) (pt k1 0) ?_
     refine wl_l 3 (.tmp 23) (pt k1 0) (.int .i64 (r.s)) (run_one Q1 3 0 rfl Tryd.underlying3 rfl) ?_
     refine wl_bin (fun x y => Instr.indexAt 22 x y) (.tmp 22) (.tmp 24) (.slice pl L.length cl) (.int .i64 (r.s)) (pt bp (op + r.s.toNat * 5)) (fun _ => rfl) rfl rfl (ix22I hs0 hpp hly _) rfl ?_
     refine wl_f 65 0 (.tmp 25) (pt bp (op + r.s.toNat * 5)) (pt bp (op + r.s.toNat * 5)) ?_
     refine wl_l 3 (.tmp 26) (pt bp (op + r.s.toNat * 5)) (.int .i64 (y.pr)) (D.run_oneR (hRp.mo M).at' 3 0 rfl Tryd.underlying3 rfl) ?_
     refine wl_f 25 0 (.tmp 3) (pt k1 0) (pt k1 0) ?_
     refine wl_st1 3 (.tmp 28) (.tmp 27) k1 0 (.int .i64 (y.pr)) _ [.int .i64 (y.pr), .int .i64 r.a, .int .i64 r.b, .int .i64 (0)] Q1 rfl rfl rfl rfl rfl sz3 rfl rfl rfl rfl ?_
     intro u6 hS Qn
     replace Q1 := Qn
     clear Qn
     replace Q2 := hS.other _ _ ne_k1_k2.symm Q2
     replace M := hS.mo _ N_k1 M
     clear hS
     refine w_nil (xn_then (w_seq (w_reg ?_)))
     refine wl_l 25 (.tmp 3) (pt k1 0) (.agg #[.int .i64 (y.pr), .int .i64 r.a, .int .i64 r.b, .int .i64 (0)]) (run_row Q1 25 0 4 _ rfl Tryd.underlying25 rfl sz25) ?_
     refine wl_st 25 (.tmp 4) (.tmp 29) k2 0 #[.int .i64 (y.pr), .int .i64 r.a, .int .i64 r.b, .int .i64 (0)] _ [.int .i64 (y.pr), .int .i64 r.a, .int .i64 r.b, .int .i64 (0)] Q2 rfl rfl rfl rfl rfl sz25 rfl rfl rfl ?_
     intro u7 hS Qn
     replace Q2 := Qn
     clear Qn
     replace Q1 := hS.other _ _ ne_k1_k2 Q1
     replace M := hS.mo _ N_k2 M
     clear hS
     refine wl_m (.const (.bool true)) (.bool true) ?_
     refine w_nil (xn_then (w_ret ?_))
     exact w_ret2 _ _ (.agg #[.int .i64 (y.pr), .int .i64 r.a, .int .i64 r.b, .int .i64 (0)]) (.bool true) rfl ⟨k2, rfl, (run_row Q2 25 0 4 _ rfl Tryd.underlying25 rfl sz25)⟩ rfl ⟨rp (a := (⟨y.pr, r.a, r.b, 0⟩ : Ro)) (by rw [(par_v hf0p hf1p hy).1]; simp [setR, hf2p, hf3p]) (par_v hf0p hf1p hy).2.symm, M⟩
 | false =>
  have hf0p := of_decide_eq_false hf0
  refine wl_b .neq 31 (.tmp 8) (.const (.int .i64 (0))) (.int .i64 (ckR L r)) (.int .i64 (0)) (.bool true) (ne34 hf0 _ _ _) ?_
  refine wl_m (.tmp 9) (.bool true) ?_
  refine wl_skip rfl (wl_skip rfl (wl_skip rfl ?_))
  refine wl_pick (.tmp 10) (.const (.bool true)) (.tmp 13) true (.bool true) (fun _ => rfl) rfl rfl rfl ?_
  refine w_nil (xn_then (w_condT rfl (w_seq (w_reg ?_))))
  refine wl_build 25 [] [] (.agg #[.int .i64 0, .int .i64 0, .int .i64 0, .int .i64 0]) rfl rfl (by kernel_rfl) rfl ?_
  refine wl_st 25 (.tmp 4) (.tmp 15) k2 0 #[.int .i64 0, .int .i64 0, .int .i64 0, .int .i64 0] _ [.int .i64 0, .int .i64 0, .int .i64 0, .int .i64 0] Q2 rfl rfl rfl rfl rfl sz25 rfl rfl rfl ?_
  intro u4 hS Qn
  replace Q2 := Qn
  clear Qn
  replace Q1 := hS.other _ _ ne_k1_k2 Q1
  replace M := hS.mo _ N_k2 M
  clear hS
  refine wl_m (.const (.bool false)) (.bool false) ?_
  refine w_nil (xn_then (w_ret (xr_then ?_)))
  exact w_ret2 _ _ (.agg #[.int .i64 0, .int .i64 0, .int .i64 0, .int .i64 0]) (.bool false) rfl ⟨k2, rfl, (run_row Q2 25 0 4 _ rfl Tryd.underlying25 rfl sz25)⟩ rfl ⟨rp (a := ro0) (par_n (fun h => absurd h hf0p)).1.symm (par_n (fun h => absurd h hf0p)).2.symm, M⟩
def udR (d : Int) (r : Ro) (s n : Int) : Ro := ⟨s, (setR d r n).a, (setR d r n).b, (setR d r n).c⟩
theorem pud_n {L : List S5} {pl : Option Addr} {cl : Nat} {r : Ro} {s n : Int} {y : S5} (w : World) (hL : LL w pl L) (h0 : 0 ≤ s) (hy : L[s.toNat]? = some y) (hd2 : 2 ≤ y.dp) (hd4 : y.dp ≤ 4) : Calls Tryd.prog 49 #[.slice pl L.length cl, r.v, .int .i64 s, .int .i64 n] w fun e9 w' => e9 = .returned (udR y.dp r s n).v ∧ Mo w w' := by
 refine w_enter 18 Tryd.func49 Tryd.ntmps49 rfl rfl ?_
 have M : Mo w w := Mo.refl _
 refine w_seq (w_reg ?_)
 refine wl_box 25 (.tmp 1) _ (((r.cells).toArray)) rfl rfl (fun _ => by kernel_rfl) rfl ?_
 intro k1 u1 hk hz hq Q1
 have N_k1 : w.heap.size ≤ k1 := by have := M.size; omega
 replace M := M.trans hq
 clear hk hz hq
 refine wl_alloc 25 #[.int .i64 0, .int .i64 0, .int .i64 0, .int .i64 0] rfl (fun _ => by kernel_rfl) rfl ?_
 intro k2 u2 hk hz hq Q2
 have ne_k1_k2 : k1 ≠ k2 := by have := Q1.lt; omega
 have N_k2 : w.heap.size ≤ k2 := by have := M.size; omega
 replace Q1 := Q1.mo hq
 replace M := M.trans hq
 clear hk hz hq
 refine w_nil (xn_then (w_seq (w_reg ?_)))
 refine wl_m (.tmp 2) (.int .i64 (s)) ?_
 refine wl_f 25 0 (.tmp 5) (pt k1 0) (pt k1 0) ?_
 refine wl_st1 3 (.tmp 10) (.tmp 9) k1 0 (.int .i64 (s)) (r.cells) [.int .i64 (s), .int .i64 r.a, .int .i64 r.b, .int .i64 r.c] Q1 rfl rfl rfl rfl rfl sz3 rfl rfl rfl rfl ?_
 intro u3 hS Qn
 replace Q1 := Qn
 clear Qn
 replace Q2 := hS.other _ _ ne_k1_k2.symm Q2
 replace M := hS.mo _ N_k1 M
 clear hS
 refine w_nil (xn_then (w_seq (w_reg ?_)))
 refine wl_m (.tmp 0) (.slice pl L.length cl) ?_
 refine wl_m (.tmp 2) (.int .i64 (s)) ?_
 cases hf0 : decide (y.dp = 2) with
 | true =>
  have hf0p := of_decide_eq_true hf0
  refine wl_call 29 [(.tmp 11), (.tmp 12)] _ [.slice pl L.length cl, .int .i64 (s)] (.int .i64 (0)) rfl rfl (fun _ _ => by kernel_rfl) (cR (congrArg (Value.int .i64) (by omega)) (pown_n _ (hL.mo M) h0 hy (by omega) (by omega))) rfl ?_
  intro u4 hq
  replace Q1 := Q1.mo hq
  replace Q2 := Q2.mo hq
  replace M := M.trans hq
  clear hq
  refine wl_m (.tmp 3) (.int .i64 (n)) ?_
  refine wl_f 25 1 (.tmp 5) (pt k1 0) (pt k1 1) ?_
  refine wl_bin (fun x y => Instr.indexAt 23 x y) (.tmp 15) (.tmp 13) (pt k1 1) (.int .i64 (0)) (pt k1 1) (fun _ => rfl) rfl rfl (by kernel_rfl) rfl ?_
  refine wl_st1 2 (.tmp 16) (.tmp 14) k1 1 (.int .i64 (n)) _ [.int .i64 (s), .int .i64 (n), .int .i64 r.b, .int .i64 r.c] Q1 rfl rfl rfl rfl rfl sz2 rfl rfl rfl rfl ?_
  intro u5 hS Qn
  replace Q1 := Qn
  clear Qn
  replace Q2 := hS.other _ _ ne_k1_k2.symm Q2
  replace M := hS.mo _ N_k1 M
  clear hS
  refine w_nil (xn_then (w_seq (w_reg ?_)))
  refine wl_l 25 (.tmp 5) (pt k1 0) (.agg #[.int .i64 (s), .int .i64 (n), .int .i64 r.b, .int .i64 r.c]) (run_row Q1 25 0 4 _ rfl Tryd.underlying25 rfl sz25) ?_
  refine wl_st 25 (.tmp 8) (.tmp 17) k2 0 #[.int .i64 (s), .int .i64 (n), .int .i64 r.b, .int .i64 r.c] _ [.int .i64 (s), .int .i64 (n), .int .i64 r.b, .int .i64 r.c] Q2 rfl rfl rfl rfl rfl sz25 rfl rfl rfl ?_
  intro u6 hS Qn
  replace Q2 := Qn
  clear Qn
  replace Q1 := hS.other _ _ ne_k1_k2 Q1
  replace M := hS.mo _ N_k2 M
  clear hS
  refine w_nil (xn_then (w_ret ?_))
  exact w_ret1 _ (.agg #[.int .i64 (s), .int .i64 (n), .int .i64 r.b, .int .i64 r.c]) rfl ⟨k2, rfl, (run_row Q2 25 0 4 _ rfl Tryd.underlying25 rfl sz25)⟩ ⟨r1v (a := (⟨s, n, r.b, r.c⟩ : Ro)) (by simp [udR, setR, hf0p]), M⟩
 | false =>
  have hf0p := of_decide_eq_false hf0
  cases hf1 : decide (y.dp = 3) with
  | true =>
   have hf1p := of_decide_eq_true hf1
   refine wl_call 29 [(.tmp 11), (.tmp 12)] _ [.slice pl L.length cl, .int .i64 (s)] (.int .i64 (1)) rfl rfl (fun _ _ => by kernel_rfl) (cR (congrArg (Value.int .i64) (by omega)) (pown_n _ (hL.mo M) h0 hy (by omega) (by omega))) rfl ?_
   intro u4 hq
   replace Q1 := Q1.mo hq
   replace Q2 := Q2.mo hq
   replace M := M.trans hq
   clear hq
   refine wl_m (.tmp 3) (.int .i64 (n)) ?_
   refine wl_f 25 1 (.tmp 5) (pt k1 0) (pt k1 1) ?_
   refine wl_bin (fun x y => Instr.indexAt 23 x y) (.tmp 15) (.tmp 13) (pt k1 1) (.int .i64 (1)) (pt k1 2) (fun _ => rfl) rfl rfl (by kernel_rfl) rfl ?_
   refine wl_st1 2 (.tmp 16) (.tmp 14) k1 2 (.int .i64 (n)) _ [.int .i64 (s), .int .i64 r.a, .int .i64 (n), .int .i64 r.c] Q1 rfl rfl rfl rfl rfl sz2 rfl rfl rfl rfl ?_
   intro u5 hS Qn
   replace Q1 := Qn
   clear Qn
   replace Q2 := hS.other _ _ ne_k1_k2.symm Q2
   replace M := hS.mo _ N_k1 M
   clear hS
   refine w_nil (xn_then (w_seq (w_reg ?_)))
   refine wl_l 25 (.tmp 5) (pt k1 0) (.agg #[.int .i64 (s), .int .i64 r.a, .int .i64 (n), .int .i64 r.c]) (run_row Q1 25 0 4 _ rfl Tryd.underlying25 rfl sz25) ?_
   refine wl_st 25 (.tmp 8) (.tmp 17) k2 0 #[.int .i64 (s), .int .i64 r.a, .int .i64 (n), .int .i64 r.c] _ [.int .i64 (s), .int .i64 r.a, .int .i64 (n), .int .i64 r.c] Q2 rfl rfl rfl rfl rfl sz25 rfl rfl rfl ?_
   intro u6 hS Qn
   replace Q2 := Qn
   clear Qn
   replace Q1 := hS.other _ _ ne_k1_k2 Q1
   replace M := hS.mo _ N_k2 M
   clear hS
   refine w_nil (xn_then (w_ret ?_))
   exact w_ret1 _ (.agg #[.int .i64 (s), .int .i64 r.a, .int .i64 (n), .int .i64 r.c]) rfl ⟨k2, rfl, (run_row Q2 25 0 4 _ rfl Tryd.underlying25 rfl sz25)⟩ ⟨r1v (a := (⟨s, r.a, n, r.c⟩ : Ro)) (by simp [udR, setR, hf1p]), M⟩
  | false =>
   have hf1p := of_decide_eq_false hf1
   refine wl_call 29 [(.tmp 11), (.tmp 12)] _ [.slice pl L.length cl, .int .i64 (s)] (.int .i64 (2)) rfl rfl (fun _ _ => by kernel_rfl) (cR (congrArg (Value.int .i64) (by omega)) (pown_n _ (hL.mo M) h0 hy (by omega) (by omega))) rfl ?_
   intro u4 hq
   replace Q1 := Q1.mo hq
   replace Q2 := Q2.mo hq
   replace M := M.trans hq
   clear hq
   refine wl_m (.tmp 3) (.int .i64 (n)) ?_
   refine wl_f 25 1 (.tmp 5) (pt k1 0) (pt k1 1) ?_
   refine wl_bin (fun x y => Instr.indexAt 23 x y) (.tmp 15) (.tmp 13) (pt k1 1) (.int .i64 (2)) (pt k1 3) (fun _ => rfl) rfl rfl (by kernel_rfl) rfl ?_
   refine wl_st1 2 (.tmp 16) (.tmp 14) k1 3 (.int .i64 (n)) _ [.int .i64 (s), .int .i64 r.a, .int .i64 r.b, .int .i64 (n)] Q1 rfl rfl rfl rfl rfl sz2 rfl rfl rfl rfl ?_
   intro u5 hS Qn
   replace Q1 := Qn
   clear Qn
   replace Q2 := hS.other _ _ ne_k1_k2.symm Q2
   replace M := hS.mo _ N_k1 M
   clear hS
   refine w_nil (xn_then (w_seq (w_reg ?_)))
   refine wl_l 25 (.tmp 5) (pt k1 0) (.agg #[.int .i64 (s), .int .i64 r.a, .int .i64 r.b, .int .i64 (n)]) (run_row Q1 25 0 4 _ rfl Tryd.underlying25 rfl sz25) ?_
   refine wl_st 25 (.tmp 8) (.tmp 17) k2 0 #[.int .i64 (s), .int .i64 r.a, .int .i64 r.b, .int .i64 (n)] _ [.int .i64 (s), .int .i64 r.a, .int .i64 r.b, .int .i64 (n)] Q2 rfl rfl rfl rfl rfl sz25 rfl rfl rfl ?_
   intro u6 hS Qn
   replace Q2 := Qn
   clear Qn
   replace Q1 := hS.other _ _ ne_k1_k2 Q1
   replace M := hS.mo _ N_k2 M
   clear hS
   refine w_nil (xn_then (w_ret ?_))
   exact w_ret1 _ (.agg #[.int .i64 (s), .int .i64 r.a, .int .i64 r.b, .int .i64 (n)]) rfl ⟨k2, rfl, (run_row Q2 25 0 4 _ rfl Tryd.underlying25 rfl sz25)⟩ ⟨r1v (a := (⟨s, r.a, r.b, n⟩ : Ro)) (by simp [udR, setR, hf0p, hf1p]), M⟩
end Go.Proofs.YtnffhcjmpjajlaaDoor
namespace Go.Proofs.YtnffhcjmpjajlaaDoor
open Go.RowKit D
theorem slb_hi (ρ : Operand → Value) (x y : Operand) (s : ByteArray) (n : Nat) (hx : ρ x = .string s) (hy : ρ y = .int .i64 (n : Int)) (hn : n ≤ s.size) (dst : Option Tmp) (type : TypeId) (pos : String) (after : Array Edge) (guard : Option (Nat × Bool)) (w : World) : (execOp ρ { dst, op := .slice 9 x none (some y) none, type, pos, after, guard }).run Tryd.prog w = .ok (.value (.string (s.extract 0 n))) w := by
 simp [go_sem, hx, hy, hn]
theorem slb_lo (ρ : Operand → Value) (x y : Operand) (s : ByteArray) (n : Nat) (hx : ρ x = .string s) (hy : ρ y = .int .i64 (n : Int)) (hn : n ≤ s.size) (dst : Option Tmp) (type : TypeId) (pos : String) (after : Array Edge) (guard : Option (Nat × Bool)) (w : World) : (execOp ρ { dst, op := .slice 9 x (some y) none none, type, pos, after, guard }).run Tryd.prog w = .ok (.value (.string (s.extract n s.size))) w := by
 simp [go_sem, hx, hy, hn]
def bgn (s h : ByteArray) : Option ByteArray := if s.size < h.size then none else if s.extract 0 h.size = h then some (s.extract h.size s.size) else none
def bgS (s h : ByteArray) : ByteArray := (bgn s h).getD ⟨#[]⟩
def bgB (s h : ByteArray) : Bool := (bgn s h).isSome
end Go.Proofs.YtnffhcjmpjajlaaDoor

