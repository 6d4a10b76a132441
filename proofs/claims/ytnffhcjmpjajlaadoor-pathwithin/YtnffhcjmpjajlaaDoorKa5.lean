/-
  A part of the proof.
-/
import Derived.Test.YtnffhcjmpjajlaaDoorKa4
import Derived.Test.YtnffhcjmpjajlaaDoorKa3
import Derived.Test.YtnffhcjmpjajlaaDoorKa2
import Derived.Test.YtnffhcjmpjajlaaDoorKa1
import Derived.RegionTactic
import Derived.Test.YtnffhcjmpjajlaaDoorProg
import Derived.WalkKit
import Derived.WalkSpells
import Derived.Handy
import Derived.BigQuiet
import Derived.Deep.RegionHeld3
import Derived.Deep.MidRow
import Derived.BigCall
import Derived.ChangeKeysEq
import Derived.Shelf.Small.Bits
import Derived.Shelf.Strconv.Itoa0
import Derived.Shelf.Bits.Mul64
import Derived.Deep.CutRange
import Derived.Deep.CutBlock
import Derived.ScopeJumps
import Derived.WalkMore
import Derived.Laws.StructEq
import Derived.Lib.CutLaws
import Derived.Maps.OwnSet
import Derived.WalkArith
import Derived.StringKeys
import Derived.ProofKit
import Derived.OpenShut
import Derived.ChangeArms
import Derived.Deep.Slices
import Derived.ReadAgain
import Derived.WideKeyArgs
import Derived.Maps.AppendAt
namespace Go.Proofs.YtnffhcjmpjajlaaDoor
open Go.RowKit D
theorem ix22I {pa : Option Addr} {b off n c : Nat} {z : Int} (hz : 0 ≤ z) (hp : pa = some ⟨b, off, none⟩) (h : z.toNat < n) (w : World) : (Instr.indexAt 22 (.slice pa n c) (.int .i64 z)).run Tryd.prog w = .ok (pt b (off + z.toNat * 5)) w := by
 have e := ix22 (c := c) hp h w
 rw [show ((z.toNat : Nat) : Int) = z by omega] at e
 exact e
theorem ix42I {pa : Option Addr} {b off n c : Nat} {z : Int} (hz : 0 ≤ z) (hp : pa = some ⟨b, off, none⟩) (h : z.toNat < n) (w : World) : (Instr.indexAt 42 (.slice pa n c) (.int .i64 z)).run Tryd.prog w = .ok (pt b (off + z.toNat * 23)) w := by
 have e := ix42 (c := c) hp h w
 rw [show ((z.toNat : Nat) : Int) = z by omega] at e
 exact e
theorem get_any (l : List S5) (i : Nat) : ∃ p : S5, i < l.length → l[i]? = some p := by
 by_cases h : i < l.length
 ·obtain ⟨p, hp⟩ := get_of_lt h; exact ⟨p, fun _ => hp⟩
 ·exact ⟨⟨0, 0, ⟨#[]⟩, 0, none, 0, []⟩, fun q => absurd q h⟩
theorem sb_0 {l : List S5} {i : Nat} {x : S5} (hi : i = 0) (h1 : x.pr = -1) (h2 : x.dp = 1) : sbd l i x = true := by unfold sbd; rw [if_pos hi]; simp [h1, h2]
theorem sb_p {l : List S5} {i : Nat} {x p : S5} (hi : ¬ i = 0) (h1 : 0 ≤ x.pr) (h2 : x.pr < (i : Int)) (hp : l[x.pr.toNat]? = some p) (h3 : x.dp = p.dp + 1) (h4 : x.dp ≤ 4) : sbd l i x = true := by
 unfold sbd; rw [if_neg hi, dpA_at hp]; simp [h1, h2, h4]; exact h3
theorem subI {a c : Int} {k : Int} (h : a - k = c) (h0 : -9223372036854775808 ≤ c) (h1 : c ≤ 9223372036854775807) (x y : Operand) (w : World) : (do eqGuard .sub 3 x y (.int .i64 a) (.int .i64 k); binOp .sub 3 (.int .i64 a) (.int .i64 k)).run Tryd.prog w = .ok (.int .i64 c) w := by
 have q : IntKind.i64.wrap (a - k) = c := by rw [IntKind.wrap_i64]; omega
 simp [go_sem, q]
set_option maxHeartbeats 2000000 in
theorem sound_n {L : List S5} {pl : Option Addr} {cl : Nat} (w : World) (hL : LL w pl L) : Calls Tryd.prog 32 #[.slice pl L.length cl] w fun e9 w' => e9 = .returned (.bool (snd L)) ∧ Mo w w' := by
 refine w_enter 73 Tryd.func32 Tryd.ntmps32 rfl rfl ?_
 have M : Mo w w := Mo.refl _
 refine w_seq (w_reg ?_)
 refine wl_m (.const (.bool false)) (.bool false) ?_
 refine w_nil (xn_then (w_seq (w_seq (w_reg ?_))))
 refine wl_m (.const (.int .i64 (0))) (.int .i64 (0)) ?_
 refine w_nil (xn_then (w_block ?_))
 have hz9 := hL.sl.1
 unfold maxLen at hz9
 refine w_loop (fun m l w1 => ∃ i : Nat, m = L.length - i ∧ i ≤ L.length ∧ look l 0 = .slice pl L.length cl ∧ look l 3 = .int .i64 ((i : Nat) : Int) ∧ (sndI L i) ∧ Mo w w1) _ ⟨0, rfl, Nat.zero_le _, rfl, rfl, (fun j hj => absurd hj (Nat.not_lt_zero j)), M⟩ ?_
 clear M
 rintro m l40 wl40 ⟨i, rfl, hi, e40_0, e40_i, hS, M⟩
 by_cases hil : i < L.length
 ·skip
  have hid : decide (i < L.length) = true := decide_eq_true hil
  obtain ⟨y, hy⟩ := get_of_lt hil
  have hmy := List.mem_of_getElem? hy
  obtain ⟨bp, op, hpp, hRp⟩ := D.SL.rw hL.sl hy
  obtain ⟨p, hp9⟩ := get_any L y.pr.toNat
  refine w_seq (w_seq (w_reg ?_))
  refine wl_mv (.tmp 3) (.int .i64 ((i : Nat) : Int)) (fun _ => rfl) e40_i rfl ?_
  refine wl_mv (.tmp 0) (.slice pl L.length cl) (fun _ => rfl) e40_0 rfl ?_
  refine wl_val (.int .i64 ((L.length : Nat) : Int)) (len22 _ _ _ _ _ (by exact rfl) _ _ _ _ _ _) rfl ?_
  refine wl_b .lss 3 (.tmp 4) (.tmp 6) (.int .i64 ((i : Nat) : Int)) (.int .i64 ((L.length : Nat) : Int)) (.bool true) (ltN hid _ _ _) ?_
  refine w_nil (xn_then (w_condT rfl (w_skip (xn_then (w_seq (w_block (w_seq (w_seq (w_reg ?_)))))))))
  refine wl_mv (.tmp 3) (.int .i64 ((i : Nat) : Int)) (fun _ => rfl) e40_i rfl ?_
  cases hf30 : decide (((i : Nat) : Int) = 0) with
  | true =>
   have hf30p := of_decide_eq_true hf30
   refine wl_b .eql 3 (.tmp 10) (.const (.int .i64 (0))) (.int .i64 ((i : Nat) : Int)) (.int .i64 (0)) (.bool true) (eq3 hf30 _ _ _) ?_
   refine wl_m (.tmp 11) (.bool true) ?_
   refine wl_mv (.tmp 0) (.slice pl L.length cl) (fun _ => rfl) e40_0 rfl ?_
   refine wl_mv (.tmp 3) (.int .i64 ((i : Nat) : Int)) (fun _ => rfl) e40_i rfl ?_
   refine wl_bin (fun x y => Instr.indexAt 22 x y) (.tmp 13) (.tmp 14) (.slice pl L.length cl) (.int .i64 ((i : Nat) : Int)) (pt bp (op + i * 5)) (fun _ => rfl) rfl rfl (ix22 (i := i) hpp hil _) rfl ?_
   refine wl_f 65 0 (.tmp 15) (pt bp (op + i * 5)) (pt bp (op + i * 5)) ?_
   refine wl_l 3 (.tmp 16) (pt bp (op + i * 5)) (.int .i64 (y.pr)) (D.run_oneR (hRp.mo M).at' 3 0 rfl Tryd.underlying3 rfl) ?_
   cases hf31 : decide (y.pr = -1) with
   | true =>
    have hf31p := of_decide_eq_true hf31
    refine wl_b .neq 3 (.tmp 17) (.const (.int .i64 (-1))) (.int .i64 (y.pr)) (.int .i64 (-1)) (.bool false) (ne3 hf31 _ _ _) ?_
    refine wl_m (.tmp 18) (.bool false) ?_
    refine wl_mv (.tmp 0) (.slice pl L.length cl) (fun _ => rfl) e40_0 rfl ?_
    refine wl_mv (.tmp 3) (.int .i64 ((i : Nat) : Int)) (fun _ => rfl) e40_i rfl ?_
    refine wl_bin (fun x y => Instr.indexAt 22 x y) (.tmp 20) (.tmp 21) (.slice pl L.length cl) (.int .i64 ((i : Nat) : Int)) (pt bp (op + i * 5)) (fun _ => rfl) rfl rfl (ix22 (i := i) hpp hil _) rfl ?_
    refine wl_f 65 1 (.tmp 22) (pt bp (op + i * 5)) (pt bp (op + i * 5 + 1)) ?_
    refine wl_l 3 (.tmp 23) (pt bp (op + i * 5 + 1)) (.int .i64 (y.dp)) (D.run_oneR (hRp.mo M).at' 3 1 rfl Tryd.underlying3 rfl) ?_
    cases hf32 : decide (y.dp = 1) with
    | true =>
     have hf32p := of_decide_eq_true hf32
     refine wl_b .neq 3 (.tmp 24) (.const (.int .i64 (1))) (.int .i64 (y.dp)) (.int .i64 (1)) (.bool false) (ne3 hf32 _ _ _) ?_
     refine wl_pick (.tmp 19) (.const (.bool true)) (.tmp 25) false (.bool false) (fun _ => rfl) rfl rfl rfl ?_
     refine wl_pick (.tmp 12) (.tmp 26) (.const (.bool false)) true (.bool false) (fun _ => rfl) rfl rfl rfl ?_
     refine w_nil (xn_then (w_condF rfl (w_skip (xn_then (w_seq ?_)))))
     cases hf33 : decide (0 < i) with
     | true =>
      have hf33p := of_decide_eq_true hf33
      cases hf34 : decide (y.pr < 0) with
      | true =>
       have hf34p := of_decide_eq_true hf34
       refine w_any 39 [.inl (.int .i64 ((i : Nat) : Int)), .inl (.bool true), .inl (.bool true), .inl (.slice pl L.length cl), .inl (.int .i64 ((i : Nat) : Int)), .inl (pt bp (op + i * 5)), .inl (pt bp (op + i * 5)), .inl (.int .i64 (y.pr)), .inl (.bool true), .inl (.bool true), .inl undef, .inl undef, .inl undef, .inl undef, .inl undef, .inl undef, .inl undef, .inl (.bool true), .inl (.bool true), .inl undef, .inl undef, .inl undef, .inl undef, .inl undef, .inl undef, .inl undef, .inl undef, .inl undef, .inl undef, .inl undef, .inl undef, .inl undef, .inl undef, .inl undef, .inl undef, .inl (.bool true), .inl (.bool true), .inl undef, .inl undef] [] (by kernel_rfl) (by kernel_rfl) (by kernel_rfl) (by kernel_rfl) rfl (by kernel_rfl) (by kernel_rfl) late_nil ?_ ?_ ?_
       ·exact Ds.none rfl
       ·refine ea_cons ?_ (ea_cons ?_ (ea_cons ?_ (ea_cons ?_ (ea_cons ?_ (ea_cons ?_ (ea_cons ?_ (ea_cons ?_ (ea_cons ?_ (ea_cons ?_ (ea_cons ?_ (ea_cons ?_ (ea_cons ?_ (ea_cons ?_ (ea_cons ?_ (ea_cons ?_ (ea_cons ?_ (ea_cons ?_ (ea_cons ?_ (ea_cons ?_ (ea_cons ?_ (ea_cons ?_ (ea_cons ?_ (ea_cons ?_ (ea_cons ?_ (ea_cons ?_ (ea_cons ?_ (ea_cons ?_ (ea_cons ?_ (ea_cons ?_ (ea_cons ?_ (ea_cons ?_ (ea_cons ?_ (ea_cons ?_ (ea_cons ?_ (ea_cons ?_ (ea_cons ?_ (ea_cons ?_ (ea_cons ?_ (ea_nil)))))))))))))))))))))))))))))))))))))))
        ·exact og_eq _ rfl (fun f wf hq hd K hK => go_run rfl (wo_mv (.tmp 3) (.int .i64 ((i : Nat) : Int)) (fun _ => rfl) e40_i (hK _ (Mo.refl _))))
        ·exact og_eq _ rfl (fun f wf hq hd K hK => go_run rfl (wo_bin (fun x y => do eqGuard .gtr 3 (.tmp 28) (.const (.int .i64 (0))) x y; binOp .gtr 3 x y) (.tmp 28) (.const (.int .i64 (0))) (.int .i64 ((i : Nat) : Int)) (.int .i64 (0)) (.bool true) (fun _ => rfl) (hd 0 rfl) rfl (gtN hf33 _ _ _) (hK _ (Mo.refl _))))
        ·exact og_eq _ rfl (fun f wf hq hd K hK => go_run rfl (wo_mv (.tmp 29) (.bool true) (fun _ => rfl) (hd 1 rfl) (hK _ (Mo.refl _))))
        ·exact og_eq _ rfl (fun f wf hq hd K hK => go_run (wnt_g rfl rfl rfl (hd 2 rfl) rfl) (wo_mv (.tmp 0) (.slice pl L.length cl) (fun _ => rfl) e40_0 (hK _ (Mo.refl _))))
        ·exact og_eq _ rfl (fun f wf hq hd K hK => go_run (wnt_g rfl rfl rfl (hd 2 rfl) rfl) (wo_mv (.tmp 3) (.int .i64 ((i : Nat) : Int)) (fun _ => rfl) e40_i (hK _ (Mo.refl _))))
        ·exact og_eq _ rfl (fun f wf hq hd K hK => go_run (wnt_g rfl rfl rfl (hd 2 rfl) rfl) (wo_bin (fun x y => Instr.indexAt 22 x y) (.tmp 31) (.tmp 32) (.slice pl L.length cl) (.int .i64 ((i : Nat) : Int)) (pt bp (op + i * 5)) (fun _ => rfl) (hd 3 rfl) (hd 4 rfl) (ix22 (i := i) hpp hil _) (hK _ (Mo.refl _))))
        ·exact og_eq _ rfl (fun f wf hq hd K hK => go_run (wnt_g rfl rfl rfl (hd 2 rfl) rfl) (wo_un (fun v => Instr.fieldAt 65 v 0) (.tmp 33) (pt bp (op + i * 5)) (pt bp (op + i * 5)) (fun _ => rfl) (hd 5 rfl) (by kernel_rfl) (hK _ (Mo.refl _))))
        ·exact og_eq _ rfl (fun f wf hq hd K hK => go_run (wnt_g rfl rfl rfl (hd 2 rfl) rfl) (wo_load 3 (.tmp 34) (pt bp (op + i * 5)) (.int .i64 (y.pr)) rfl (hd 6 rfl) (D.run_oneR (hRp.mo (M.trans hq)).at' 3 0 rfl Tryd.underlying3 rfl) (hK _ (Mo.refl _))))
        ·exact og_eq _ rfl (fun f wf hq hd K hK => go_run (wnt_g rfl rfl rfl (hd 2 rfl) rfl) (wo_bin (fun x y => do eqGuard .lss 3 (.tmp 35) (.const (.int .i64 (0))) x y; binOp .lss 3 x y) (.tmp 35) (.const (.int .i64 (0))) (.int .i64 (y.pr)) (.int .i64 (0)) (.bool true) (fun _ => rfl) (hd 7 rfl) rfl (lt3 hf34 _ _ _) (hK _ (Mo.refl _))))
        ·exact og_eq _ rfl (fun f wf hq hd K hK => go_run (wnt_g rfl rfl rfl (hd 2 rfl) rfl) (wo_mv (.tmp 36) (.bool true) (fun _ => rfl) (hd 8 rfl) (hK _ (Mo.refl _))))
        ·exact og_eq _ rfl (fun f wf hq hd K hK => go_pass (wnt_g rfl rfl rfl (hd 9 rfl) rfl) (hK _ (Mo.refl _)))
        ·exact og_eq _ rfl (fun f wf hq hd K hK => go_pass (wnt_g rfl rfl rfl (hd 9 rfl) rfl) (hK _ (Mo.refl _)))
        ·exact og_eq _ rfl (fun f wf hq hd K hK => go_pass (wnt_g rfl rfl rfl (hd 9 rfl) rfl) (hK _ (Mo.refl _)))
        ·exact og_eq _ rfl (fun f wf hq hd K hK => go_pass (wnt_g rfl rfl rfl (hd 9 rfl) rfl) (hK _ (Mo.refl _)))
        ·exact og_eq _ rfl (fun f wf hq hd K hK => go_pass (wnt_g rfl rfl rfl (hd 9 rfl) rfl) (hK _ (Mo.refl _)))
        ·exact og_eq _ rfl (fun f wf hq hd K hK => go_pass (wnt_g rfl rfl rfl (hd 9 rfl) rfl) (hK _ (Mo.refl _)))
        ·exact og_eq _ rfl (fun f wf hq hd K hK => go_pass (wnt_g rfl rfl rfl (hd 9 rfl) rfl) (hK _ (Mo.refl _)))
        ·exact og_eq _ rfl (fun f wf hq hd K hK => go_run (wnt_g rfl rfl rfl (hd 2 rfl) rfl) (wo_pick (.tmp 37) (.const (.bool true)) (.tmp 44) true (.bool true) (fun _ => rfl) (hd 9 rfl) rfl (hK _ (Mo.refl _))))
        ·exact og_eq _ rfl (fun f wf hq hd K hK => go_run (wnt_g rfl rfl rfl (hd 2 rfl) rfl) (wo_mv (.tmp 45) (.bool true) (fun _ => rfl) (hd 17 rfl) (hK _ (Mo.refl _))))
        ·exact og_eq _ rfl (fun f wf hq hd K hK => go_pass (wnt_g rfl rfl rfl (hd 18 rfl) rfl) (hK _ (Mo.refl _)))
        ·exact og_eq _ rfl (fun f wf hq hd K hK => go_pass (wnt_g rfl rfl rfl (hd 18 rfl) rfl) (hK _ (Mo.refl _)))
        ·exact og_eq _ rfl (fun f wf hq hd K hK => go_pass (wnt_g rfl rfl rfl (hd 18 rfl) rfl) (hK _ (Mo.refl _)))
        ·exact og_eq _ rfl (fun f wf hq hd K hK => go_pass (wnt_g rfl rfl rfl (hd 18 rfl) rfl) (hK _ (Mo.refl _)))
        ·exact og_eq _ rfl (fun f wf hq hd K hK => go_pass (wnt_g rfl rfl rfl (hd 18 rfl) rfl) (hK _ (Mo.refl _)))
        ·exact og_eq _ rfl (fun f wf hq hd K hK => go_pass (wnt_g rfl rfl rfl (hd 18 rfl) rfl) (hK _ (Mo.refl _)))
        ·exact og_eq _ rfl (fun f wf hq hd K hK => go_pass (wnt_g rfl rfl rfl (hd 18 rfl) rfl) (hK _ (Mo.refl _)))
        ·exact og_eq _ rfl (fun f wf hq hd K hK => go_pass (wnt_g rfl rfl rfl (hd 18 rfl) rfl) (hK _ (Mo.refl _)))
        ·exact og_eq _ rfl (fun f wf hq hd K hK => go_pass (wnt_g rfl rfl rfl (hd 18 rfl) rfl) (hK _ (Mo.refl _)))
        ·exact og_eq _ rfl (fun f wf hq hd K hK => go_pass (wnt_g rfl rfl rfl (hd 18 rfl) rfl) (hK _ (Mo.refl _)))
        ·exact og_eq _ rfl (fun f wf hq hd K hK => go_pass (wnt_g rfl rfl rfl (hd 18 rfl) rfl) (hK _ (Mo.refl _)))
        ·exact og_eq _ rfl (fun f wf hq hd K hK => go_pass (wnt_g rfl rfl rfl (hd 18 rfl) rfl) (hK _ (Mo.refl _)))
        ·exact og_eq _ rfl (fun f wf hq hd K hK => go_pass (wnt_g rfl rfl rfl (hd 18 rfl) rfl) (hK _ (Mo.refl _)))
        ·exact og_eq _ rfl (fun f wf hq hd K hK => go_pass (wnt_g rfl rfl rfl (hd 18 rfl) rfl) (hK _ (Mo.refl _)))
        ·exact og_eq _ rfl (fun f wf hq hd K hK => go_pass (wnt_g rfl rfl rfl (hd 18 rfl) rfl) (hK _ (Mo.refl _)))
        ·exact og_eq _ rfl (fun f wf hq hd K hK => go_pass (wnt_g rfl rfl rfl (hd 18 rfl) rfl) (hK _ (Mo.refl _)))
        ·exact og_eq _ rfl (fun f wf hq hd K hK => go_run (wnt_g rfl rfl rfl (hd 2 rfl) rfl) (wo_pick (.tmp 46) (.const (.bool true)) (.tmp 62) true (.bool true) (fun _ => rfl) (hd 18 rfl) rfl (hK _ (Mo.refl _))))
        ·exact og_eq _ rfl (fun f wf hq hd K hK => go_run (wnt_g rfl rfl rfl (hd 2 rfl) rfl) (wo_mv (.tmp 63) (.bool true) (fun _ => rfl) (hd 35 rfl) (hK _ (Mo.refl _))))
        ·exact og_eq _ rfl (fun f wf hq hd K hK => go_pass (wnt_g rfl rfl rfl (hd 36 rfl) rfl) (hK _ (Mo.refl _)))
        ·exact og_eq _ rfl (fun f wf hq hd K hK => go_pass (wnt_g rfl rfl rfl (hd 36 rfl) rfl) (hK _ (Mo.refl _)))
       intro kf41 u41 hq hR hne
       replace M := M.trans hq
       clear hq hR hne
       refine wl_skip rfl (wl_skip rfl (wl_skip rfl (wl_skip rfl ?_)))
       refine wl_pick (.tmp 64) (.const (.bool true)) (.tmp 70) true (.bool true) (fun _ => rfl) rfl rfl rfl ?_
       refine wl_pick (.tmp 30) (.tmp 71) (.const (.bool false)) true (.bool true) (fun _ => rfl) rfl rfl rfl ?_
       refine w_nil (xn_then (w_condT rfl (w_seq (w_reg ?_))))
       refine wl_m (.const (.bool false)) (.bool false) ?_
       refine w_nil (xn_then (w_ret (xr_blk (xr_then (xr_then (xr_blk (xr_then ?_)))))))
       exact w_ret1 _ (.bool false) rfl rfl ⟨congrArg (fun v => Ending.returned (.bool v)) (snd_no hy (by rw [Bool.eq_false_iff]; intro h; rcases sb_inv h with ⟨_, h1, h2⟩ | ⟨h0, h1, h2, h3, h4⟩ <;> first | omega)).symm, M⟩
      | false =>
       have hf34p := of_decide_eq_false hf34
       cases hf35 : decide (((i : Nat) : Int) ≤ y.pr) with
       | true =>
        have hf35p := of_decide_eq_true hf35
        refine w_any 39 [.inl (.int .i64 ((i : Nat) : Int)), .inl (.bool true), .inl (.bool true), .inl (.slice pl L.length cl), .inl (.int .i64 ((i : Nat) : Int)), .inl (pt bp (op + i * 5)), .inl (pt bp (op + i * 5)), .inl (.int .i64 (y.pr)), .inl (.bool false), .inl (.bool false), .inl (.slice pl L.length cl), .inl (.int .i64 ((i : Nat) : Int)), .inl (pt bp (op + i * 5)), .inl (pt bp (op + i * 5)), .inl (.int .i64 (y.pr)), .inl (.int .i64 ((i : Nat) : Int)), .inl (.bool true), .inl (.bool true), .inl (.bool true), .inl undef, .inl undef, .inl undef, .inl undef, .inl undef, .inl undef, .inl undef, .inl undef, .inl undef, .inl undef, .inl undef, .inl undef, .inl undef, .inl undef, .inl undef, .inl undef, .inl (.bool true), .inl (.bool true), .inl undef, .inl undef] [] (by kernel_rfl) (by kernel_rfl) (by kernel_rfl) (by kernel_rfl) rfl (by kernel_rfl) (by kernel_rfl) late_nil ?_ ?_ ?_
        ·exact Ds.none rfl
        ·refine ea_cons ?_ (ea_cons ?_ (ea_cons ?_ (ea_cons ?_ (ea_cons ?_ (ea_cons ?_ (ea_cons ?_ (ea_cons ?_ (ea_cons ?_ (ea_cons ?_ (ea_cons ?_ (ea_cons ?_ (ea_cons ?_ (ea_cons ?_ (ea_cons ?_ (ea_cons ?_ (ea_cons ?_ (ea_cons ?_ (ea_cons ?_ (ea_cons ?_ (ea_cons ?_ (ea_cons ?_ (ea_cons ?_ (ea_cons ?_ (ea_cons ?_ (ea_cons ?_ (ea_cons ?_ (ea_cons ?_ (ea_cons ?_ (ea_cons ?_ (ea_cons ?_ (ea_cons ?_ (ea_cons ?_ (ea_cons ?_ (ea_cons ?_ (ea_cons ?_ (ea_cons ?_ (ea_cons ?_ (ea_cons ?_ (ea_nil)))))))))))))))))))))))))))))))))))))))
         ·exact og_eq _ rfl (fun f wf hq hd K hK => go_run rfl (wo_mv (.tmp 3) (.int .i64 ((i : Nat) : Int)) (fun _ => rfl) e40_i (hK _ (Mo.refl _))))
         ·exact og_eq _ rfl (fun f wf hq hd K hK => go_run rfl (wo_bin (fun x y => do eqGuard .gtr 3 (.tmp 28) (.const (.int .i64 (0))) x y; binOp .gtr 3 x y) (.tmp 28) (.const (.int .i64 (0))) (.int .i64 ((i : Nat) : Int)) (.int .i64 (0)) (.bool true) (fun _ => rfl) (hd 0 rfl) rfl (gtN hf33 _ _ _) (hK _ (Mo.refl _))))
         ·exact og_eq _ rfl (fun f wf hq hd K hK => go_run rfl (wo_mv (.tmp 29) (.bool true) (fun _ => rfl) (hd 1 rfl) (hK _ (Mo.refl _))))
         ·exact og_eq _ rfl (fun f wf hq hd K hK => go_run (wnt_g rfl rfl rfl (hd 2 rfl) rfl) (wo_mv (.tmp 0) (.slice pl L.length cl) (fun _ => rfl) e40_0 (hK _ (Mo.refl _))))
         ·exact og_eq _ rfl (fun f wf hq hd K hK => go_run (wnt_g rfl rfl rfl (hd 2 rfl) rfl) (wo_mv (.tmp 3) (.int .i64 ((i : Nat) : Int)) (fun _ => rfl) e40_i (hK _ (Mo.refl _))))
         ·exact og_eq _ rfl (fun f wf hq hd K hK => go_run (wnt_g rfl rfl rfl (hd 2 rfl) rfl) (wo_bin (fun x y => Instr.indexAt 22 x y) (.tmp 31) (.tmp 32) (.slice pl L.length cl) (.int .i64 ((i : Nat) : Int)) (pt bp (op + i * 5)) (fun _ => rfl) (hd 3 rfl) (hd 4 rfl) (ix22 (i := i) hpp hil _) (hK _ (Mo.refl _))))
         ·exact og_eq _ rfl (fun f wf hq hd K hK => go_run (wnt_g rfl rfl rfl (hd 2 rfl) rfl) (wo_un (fun v => Instr.fieldAt 65 v 0) (.tmp 33) (pt bp (op + i * 5)) (pt bp (op + i * 5)) (fun _ => rfl) (hd 5 rfl) (by kernel_rfl) (hK _ (Mo.refl _))))
         ·exact og_eq _ rfl (fun f wf hq hd K hK => go_run (wnt_g rfl rfl rfl (hd 2 rfl) rfl) (wo_load 3 (.tmp 34) (pt bp (op + i * 5)) (.int .i64 (y.pr)) rfl (hd 6 rfl) (D.run_oneR (hRp.mo (M.trans hq)).at' 3 0 rfl Tryd.underlying3 rfl) (hK _ (Mo.refl _))))
         ·exact og_eq _ rfl (fun f wf hq hd K hK => go_run (wnt_g rfl rfl rfl (hd 2 rfl) rfl) (wo_bin (fun x y => do eqGuard .lss 3 (.tmp 35) (.const (.int .i64 (0))) x y; binOp .lss 3 x y) (.tmp 35) (.const (.int .i64 (0))) (.int .i64 (y.pr)) (.int .i64 (0)) (.bool false) (fun _ => rfl) (hd 7 rfl) rfl (lt3 hf34 _ _ _) (hK _ (Mo.refl _))))
         ·exact og_eq _ rfl (fun f wf hq hd K hK => go_run (wnt_g rfl rfl rfl (hd 2 rfl) rfl) (wo_mv (.tmp 36) (.bool false) (fun _ => rfl) (hd 8 rfl) (hK _ (Mo.refl _))))
         ·exact og_eq _ rfl (fun f wf hq hd K hK => go_run (wnt_g rfl rfl rfl (hd 9 rfl) rfl) (wo_mv (.tmp 0) (.slice pl L.length cl) (fun _ => rfl) e40_0 (hK _ (Mo.refl _))))
         ·exact og_eq _ rfl (fun f wf hq hd K hK => go_run (wnt_g rfl rfl rfl (hd 9 rfl) rfl) (wo_mv (.tmp 3) (.int .i64 ((i : Nat) : Int)) (fun _ => rfl) e40_i (hK _ (Mo.refl _))))
         ·exact og_eq _ rfl (fun f wf hq hd K hK => go_run (wnt_g rfl rfl rfl (hd 9 rfl) rfl) (wo_bin (fun x y => Instr.indexAt 22 x y) (.tmp 38) (.tmp 39) (.slice pl L.length cl) (.int .i64 ((i : Nat) : Int)) (pt bp (op + i * 5)) (fun _ => rfl) (hd 10 rfl) (hd 11 rfl) (ix22 (i := i) hpp hil _) (hK _ (Mo.refl _))))
         ·exact og_eq _ rfl (fun f wf hq hd K hK => go_run (wnt_g rfl rfl rfl (hd 9 rfl) rfl) (wo_un (fun v => Instr.fieldAt 65 v 0) (.tmp 40) (pt bp (op + i * 5)) (pt bp (op + i * 5)) (fun _ => rfl) (hd 12 rfl) (by kernel_rfl) (hK _ (Mo.refl _))))
         ·exact og_eq _ rfl (fun f wf hq hd K hK => go_run (wnt_g rfl rfl rfl (hd 9 rfl) rfl) (wo_load 3 (.tmp 41) (pt bp (op + i * 5)) (.int .i64 (y.pr)) rfl (hd 13 rfl) (D.run_oneR (hRp.mo (M.trans hq)).at' 3 0 rfl Tryd.underlying3 rfl) (hK _ (Mo.refl _))))
         ·exact og_eq _ rfl (fun f wf hq hd K hK => go_run (wnt_g rfl rfl rfl (hd 9 rfl) rfl) (wo_mv (.tmp 3) (.int .i64 ((i : Nat) : Int)) (fun _ => rfl) e40_i (hK _ (Mo.refl _))))
         ·exact og_eq _ rfl (fun f wf hq hd K hK => go_run (wnt_g rfl rfl rfl (hd 9 rfl) rfl) (wo_bin (fun x y => do eqGuard .geq 3 (.tmp 42) (.tmp 43) x y; binOp .geq 3 x y) (.tmp 42) (.tmp 43) (.int .i64 (y.pr)) (.int .i64 ((i : Nat) : Int)) (.bool true) (fun _ => rfl) (hd 14 rfl) (hd 15 rfl) (ge3 hf35 _ _ _) (hK _ (Mo.refl _))))
         ·exact og_eq _ rfl (fun f wf hq hd K hK => go_run (wnt_g rfl rfl rfl (hd 2 rfl) rfl) (wo_pick (.tmp 37) (.const (.bool true)) (.tmp 44) false (.bool true) (fun _ => rfl) (hd 9 rfl) (hd 16 rfl) (hK _ (Mo.refl _))))
         ·exact og_eq _ rfl (fun f wf hq hd K hK => go_run (wnt_g rfl rfl rfl (hd 2 rfl) rfl) (wo_mv (.tmp 45) (.bool true) (fun _ => rfl) (hd 17 rfl) (hK _ (Mo.refl _))))
         ·exact og_eq _ rfl (fun f wf hq hd K hK => go_pass (wnt_g rfl rfl rfl (hd 18 rfl) rfl) (hK _ (Mo.refl _)))
         ·exact og_eq _ rfl (fun f wf hq hd K hK => go_pass (wnt_g rfl rfl rfl (hd 18 rfl) rfl) (hK _ (Mo.refl _)))
         ·exact og_eq _ rfl (fun f wf hq hd K hK => go_pass (wnt_g rfl rfl rfl (hd 18 rfl) rfl) (hK _ (Mo.refl _)))
         ·exact og_eq _ rfl (fun f wf hq hd K hK => go_pass (wnt_g rfl rfl rfl (hd 18 rfl) rfl) (hK _ (Mo.refl _)))
         ·exact og_eq _ rfl (fun f wf hq hd K hK => go_pass (wnt_g rfl rfl rfl (hd 18 rfl) rfl) (hK _ (Mo.refl _)))
         ·exact og_eq _ rfl (fun f wf hq hd K hK => go_pass (wnt_g rfl rfl rfl (hd 18 rfl) rfl) (hK _ (Mo.refl _)))
         ·exact og_eq _ rfl (fun f wf hq hd K hK => go_pass (wnt_g rfl rfl rfl (hd 18 rfl) rfl) (hK _ (Mo.refl _)))
         ·exact og_eq _ rfl (fun f wf hq hd K hK => go_pass (wnt_g rfl rfl rfl (hd 18 rfl) rfl) (hK _ (Mo.refl _)))
         ·exact og_eq _ rfl (fun f wf hq hd K hK => go_pass (wnt_g rfl rfl rfl (hd 18 rfl) rfl) (hK _ (Mo.refl _)))
         ·exact og_eq _ rfl (fun f wf hq hd K hK => go_pass (wnt_g rfl rfl rfl (hd 18 rfl) rfl) (hK _ (Mo.refl _)))
         ·exact og_eq _ rfl (fun f wf hq hd K hK => go_pass (wnt_g rfl rfl rfl (hd 18 rfl) rfl) (hK _ (Mo.refl _)))
         ·exact og_eq _ rfl (fun f wf hq hd K hK => go_pass (wnt_g rfl rfl rfl (hd 18 rfl) rfl) (hK _ (Mo.refl _)))
         ·exact og_eq _ rfl (fun f wf hq hd K hK => go_pass (wnt_g rfl rfl rfl (hd 18 rfl) rfl) (hK _ (Mo.refl _)))
         ·exact og_eq _ rfl (fun f wf hq hd K hK => go_pass (wnt_g rfl rfl rfl (hd 18 rfl) rfl) (hK _ (Mo.refl _)))
         ·exact og_eq _ rfl (fun f wf hq hd K hK => go_pass (wnt_g rfl rfl rfl (hd 18 rfl) rfl) (hK _ (Mo.refl _)))
         ·exact og_eq _ rfl (fun f wf hq hd K hK => go_pass (wnt_g rfl rfl rfl (hd 18 rfl) rfl) (hK _ (Mo.refl _)))
         ·exact og_eq _ rfl (fun f wf hq hd K hK => go_run (wnt_g rfl rfl rfl (hd 2 rfl) rfl) (wo_pick (.tmp 46) (.const (.bool true)) (.tmp 62) true (.bool true) (fun _ => rfl) (hd 18 rfl) rfl (hK _ (Mo.refl _))))
         ·exact og_eq _ rfl (fun f wf hq hd K hK => go_run (wnt_g rfl rfl rfl (hd 2 rfl) rfl) (wo_mv (.tmp 63) (.bool true) (fun _ => rfl) (hd 35 rfl) (hK _ (Mo.refl _))))
         ·exact og_eq _ rfl (fun f wf hq hd K hK => go_pass (wnt_g rfl rfl rfl (hd 36 rfl) rfl) (hK _ (Mo.refl _)))
         ·exact og_eq _ rfl (fun f wf hq hd K hK => go_pass (wnt_g rfl rfl rfl (hd 36 rfl) rfl) (hK _ (Mo.refl _)))
        intro kf41 u41 hq hR hne
        replace M := M.trans hq
        clear hq hR hne
        refine wl_skip rfl (wl_skip rfl (wl_skip rfl (wl_skip rfl ?_)))
        refine wl_pick (.tmp 64) (.const (.bool true)) (.tmp 70) true (.bool true) (fun _ => rfl) rfl rfl rfl ?_
        refine wl_pick (.tmp 30) (.tmp 71) (.const (.bool false)) true (.bool true) (fun _ => rfl) rfl rfl rfl ?_
        refine w_nil (xn_then (w_condT rfl (w_seq (w_reg ?_))))
        refine wl_m (.const (.bool false)) (.bool false) ?_
        refine w_nil (xn_then (w_ret (xr_blk (xr_then (xr_then (xr_blk (xr_then ?_)))))))
        exact w_ret1 _ (.bool false) rfl rfl ⟨congrArg (fun v => Ending.returned (.bool v)) (snd_no hy (by rw [Bool.eq_false_iff]; intro h; rcases sb_inv h with ⟨_, h1, h2⟩ | ⟨h0, h1, h2, h3, h4⟩ <;> first | omega)).symm, M⟩
       | false =>
        have hf35p := of_decide_eq_false hf35
        cases hf36 : decide (y.dp = p.dp + 1) with
        | true =>
         have hf36p := of_decide_eq_true hf36
         cases hf37 : decide (4 < y.dp) with
         | true =>
          have hf37p := of_decide_eq_true hf37
          have hp := hp9 (by omega)
          have hlp := lt_of_get hp
          obtain ⟨bq, oq, hpq, hRq⟩ := D.SL.rw hL.sl hp
          have hdp := dp_rg hS y.pr.toNat (by omega) p hp
          refine w_any 39 [.inl (.int .i64 ((i : Nat) : Int)), .inl (.bool true), .inl (.bool true), .inl (.slice pl L.length cl), .inl (.int .i64 ((i : Nat) : Int)), .inl (pt bp (op + i * 5)), .inl (pt bp (op + i * 5)), .inl (.int .i64 (y.pr)), .inl (.bool false), .inl (.bool false), .inl (.slice pl L.length cl), .inl (.int .i64 ((i : Nat) : Int)), .inl (pt bp (op + i * 5)), .inl (pt bp (op + i * 5)), .inl (.int .i64 (y.pr)), .inl (.int .i64 ((i : Nat) : Int)), .inl (.bool false), .inl (.bool false), .inl (.bool false), .inl (.slice pl L.length cl), .inl (.int .i64 ((i : Nat) : Int)), .inl (pt bp (op + i * 5)), .inl (pt bp (op + i * 5 + 1)), .inl (.int .i64 (y.dp)), .inl (.slice pl L.length cl), .inl (.slice pl L.length cl), .inl (.int .i64 ((i : Nat) : Int)), .inl (pt bp (op + i * 5)), .inl (pt bp (op + i * 5)), .inl (.int .i64 (y.pr)), .inl (pt bq (oq + y.pr.toNat * 5)), .inl (pt bq (oq + y.pr.toNat * 5 + 1)), .inl (.int .i64 (p.dp)), .inl (.int .i64 (p.dp + 1)), .inl (.bool false), .inl (.bool false), .inl (.bool false), .inl (.slice pl L.length cl), .inl (.int .i64 ((i : Nat) : Int))] [] (by kernel_rfl) (by kernel_rfl) (by kernel_rfl) (by kernel_rfl) rfl (by kernel_rfl) (by kernel_rfl) late_nil ?_ ?_ ?_
          ·exact Ds.none rfl
          ·refine ea_cons ?_ (ea_cons ?_ (ea_cons ?_ (ea_cons ?_ (ea_cons ?_ (ea_cons ?_ (ea_cons ?_ (ea_cons ?_ (ea_cons ?_ (ea_cons ?_ (ea_cons ?_ (ea_cons ?_ (ea_cons ?_ (ea_cons ?_ (ea_cons ?_ (ea_cons ?_ (ea_cons ?_ (ea_cons ?_ (ea_cons ?_ (ea_cons ?_ (ea_cons ?_ (ea_cons ?_ (ea_cons ?_ (ea_cons ?_ (ea_cons ?_ (ea_cons ?_ (ea_cons ?_ (ea_cons ?_ (ea_cons ?_ (ea_cons ?_ (ea_cons ?_ (ea_cons ?_ (ea_cons ?_ (ea_cons ?_ (ea_cons ?_ (ea_cons ?_ (ea_cons ?_ (ea_cons ?_ (ea_cons ?_ (ea_nil)))))))))))))))))))))))))))))))))))))))
           ·exact og_eq _ rfl (fun f wf hq hd K hK => go_run rfl (wo_mv (.tmp 3) (.int .i64 ((i : Nat) : Int)) (fun _ => rfl) e40_i (hK _ (Mo.refl _))))
           ·exact og_eq _ rfl (fun f wf hq hd K hK => go_run rfl (wo_bin (fun x y => do eqGuard .gtr 3 (.tmp 28) (.const (.int .i64 (0))) x y; binOp .gtr 3 x y) (.tmp 28) (.const (.int .i64 (0))) (.int .i64 ((i : Nat) : Int)) (.int .i64 (0)) (.bool true) (fun _ => rfl) (hd 0 rfl) rfl (gtN hf33 _ _ _) (hK _ (Mo.refl _))))
           ·exact og_eq _ rfl (fun f wf hq hd K hK => go_run rfl (wo_mv (.tmp 29) (.bool true) (fun _ => rfl) (hd 1 rfl) (hK _ (Mo.refl _))))
           ·exact og_eq _ rfl (fun f wf hq hd K hK => go_run (wnt_g rfl rfl rfl (hd 2 rfl) rfl) (wo_mv (.tmp 0) (.slice pl L.length cl) (fun _ => rfl) e40_0 (hK _ (Mo.refl _))))
           ·exact og_eq _ rfl (fun f wf hq hd K hK => go_run (wnt_g rfl rfl rfl (hd 2 rfl) rfl) (wo_mv (.tmp 3) (.int .i64 ((i : Nat) : Int)) (fun _ => rfl) e40_i (hK _ (Mo.refl _))))
           ·exact og_eq _ rfl (fun f wf hq hd K hK => go_run (wnt_g rfl rfl rfl (hd 2 rfl) rfl) (wo_bin (fun x y => Instr.indexAt 22 x y) (.tmp 31) (.tmp 32) (.slice pl L.length cl) (.int .i64 ((i : Nat) : Int)) (pt bp (op + i * 5)) (fun _ => rfl) (hd 3 rfl) (hd 4 rfl) (ix22 (i := i) hpp hil _) (hK _ (Mo.refl _))))
           ·exact og_eq _ rfl (fun f wf hq hd K hK => go_run (wnt_g rfl rfl rfl (hd 2 rfl) rfl) (wo_un (fun v => Instr.fieldAt 65 v 0) (.tmp 33) (pt bp (op + i * 5)) (pt bp (op + i * 5)) (fun _ => rfl) (hd 5 rfl) (by kernel_rfl) (hK _ (Mo.refl _))))
           ·exact og_eq _ rfl (fun f wf hq hd K hK => go_run (wnt_g rfl rfl rfl (hd 2 rfl) rfl) (wo_load 3 (.tmp 34) (pt bp (op + i * 5)) (.int .i64 (y.pr)) rfl (hd 6 rfl) (D.run_oneR (hRp.mo (M.trans hq)).at' 3 0 rfl Tryd.underlying3 rfl) (hK _ (Mo.refl _))))
           ·exact og_eq _ rfl (fun f wf hq hd K hK => go_run (wnt_g rfl rfl rfl (hd 2 rfl) rfl) (wo_bin (fun x y => do eqGuard .lss 3 (.tmp 35) (.const (.int .i64 (0))) x y; binOp .lss 3 x y) (.tmp 35) (.const (.int .i64 (0))) (.int .i64 (y.pr)) (.int .i64 (0)) (.bool false) (fun _ => rfl) (hd 7 rfl) rfl (lt3 hf34 _ _ _) (hK _ (Mo.refl _))))
           ·exact og_eq _ rfl (fun f wf hq hd K hK => go_run (wnt_g rfl rfl rfl (hd 2 rfl) rfl) (wo_mv (.tmp 36) (.bool false) (fun _ => rfl) (hd 8 rfl) (hK _ (Mo.refl _))))
           ·exact og_eq _ rfl (fun f wf hq hd K hK => go_run (wnt_g rfl rfl rfl (hd 9 rfl) rfl) (wo_mv (.tmp 0) (.slice pl L.length cl) (fun _ => rfl) e40_0 (hK _ (Mo.refl _))))
           ·exact og_eq _ rfl (fun f wf hq hd K hK => go_run (wnt_g rfl rfl rfl (hd 9 rfl) rfl) (wo_mv (.tmp 3) (.int .i64 ((i : Nat) : Int)) (fun _ => rfl) e40_i (hK _ (Mo.refl _))))
           ·exact og_eq _ rfl (fun f wf hq hd K hK => go_run (wnt_g rfl rfl rfl (hd 9 rfl) rfl) (wo_bin (fun x y => Instr.indexAt 22 x y) (.tmp 38) (.tmp 39) (.slice pl L.length cl) (.int .i64 ((i : Nat) : Int)) (pt bp (op + i * 5)) (fun _ => rfl) (hd 10 rfl) (hd 11 rfl) (ix22 (i := i) hpp hil _) (hK _ (Mo.refl _))))
           ·exact og_eq _ rfl (fun f wf hq hd K hK => go_run (wnt_g rfl rfl rfl (hd 9 rfl) rfl) (wo_un (fun v => Instr.fieldAt 65 v 0) (.tmp 40) (pt bp (op + i * 5)) (pt bp (op + i * 5)) (fun _ => rfl) (hd 12 rfl) (by kernel_rfl) (hK _ (Mo.refl _))))
           ·exact og_eq _ rfl (fun f wf hq hd K hK => go_run (wnt_g rfl rfl rfl (hd 9 rfl) rfl) (wo_load 3 (.tmp 41) (pt bp (op + i * 5)) (.int .i64 (y.pr)) rfl (hd 13 rfl) (D.run_oneR (hRp.mo (M.trans hq)).at' 3 0 rfl Tryd.underlying3 rfl) (hK _ (Mo.refl _))))
           ·exact og_eq _ rfl (fun f wf hq hd K hK => go_run (wnt_g rfl rfl rfl (hd 9 rfl) rfl) (wo_mv (.tmp 3) (.int .i64 ((i : Nat) : Int)) (fun _ => rfl) e40_i (hK _ (Mo.refl _))))
           ·exact og_eq _ rfl (fun f wf hq hd K hK => go_run (wnt_g rfl rfl rfl (hd 9 rfl) rfl) (wo_bin (fun x y => do eqGuard .geq 3 (.tmp 42) (.tmp 43) x y; binOp .geq 3 x y) (.tmp 42) (.tmp 43) (.int .i64 (y.pr)) (.int .i64 ((i : Nat) : Int)) (.bool false) (fun _ => rfl) (hd 14 rfl) (hd 15 rfl) (ge3 hf35 _ _ _) (hK _ (Mo.refl _))))
           ·exact og_eq _ rfl (fun f wf hq hd K hK => go_run (wnt_g rfl rfl rfl (hd 2 rfl) rfl) (wo_pick (.tmp 37) (.const (.bool true)) (.tmp 44) false (.bool false) (fun _ => rfl) (hd 9 rfl) (hd 16 rfl) (hK _ (Mo.refl _))))
           ·exact og_eq _ rfl (fun f wf hq hd K hK => go_run (wnt_g rfl rfl rfl (hd 2 rfl) rfl) (wo_mv (.tmp 45) (.bool false) (fun _ => rfl) (hd 17 rfl) (hK _ (Mo.refl _))))
           ·exact og_eq _ rfl (fun f wf hq hd K hK => go_run (wnt_g rfl rfl rfl (hd 18 rfl) rfl) (wo_mv (.tmp 0) (.slice pl L.length cl) (fun _ => rfl) e40_0 (hK _ (Mo.refl _))))
           ·exact og_eq _ rfl (fun f wf hq hd K hK => go_run (wnt_g rfl rfl rfl (hd 18 rfl) rfl) (wo_mv (.tmp 3) (.int .i64 ((i : Nat) : Int)) (fun _ => rfl) e40_i (hK _ (Mo.refl _))))
           ·exact og_eq _ rfl (fun f wf hq hd K hK => go_run (wnt_g rfl rfl rfl (hd 18 rfl) rfl) (wo_bin (fun x y => Instr.indexAt 22 x y) (.tmp 47) (.tmp 48) (.slice pl L.length cl) (.int .i64 ((i : Nat) : Int)) (pt bp (op + i * 5)) (fun _ => rfl) (hd 19 rfl) (hd 20 rfl) (ix22 (i := i) hpp hil _) (hK _ (Mo.refl _))))
           ·exact og_eq _ rfl (fun f wf hq hd K hK => go_run (wnt_g rfl rfl rfl (hd 18 rfl) rfl) (wo_un (fun v => Instr.fieldAt 65 v 1) (.tmp 49) (pt bp (op + i * 5)) (pt bp (op + i * 5 + 1)) (fun _ => rfl) (hd 21 rfl) (by kernel_rfl) (hK _ (Mo.refl _))))
           ·exact og_eq _ rfl (fun f wf hq hd K hK => go_run (wnt_g rfl rfl rfl (hd 18 rfl) rfl) (wo_load 3 (.tmp 50) (pt bp (op + i * 5 + 1)) (.int .i64 (y.dp)) rfl (hd 22 rfl) (D.run_oneR (hRp.mo (M.trans hq)).at' 3 1 rfl Tryd.underlying3 rfl) (hK _ (Mo.refl _))))
           ·exact og_eq _ rfl (fun f wf hq hd K hK => go_run (wnt_g rfl rfl rfl (hd 18 rfl) rfl) (wo_mv (.tmp 0) (.slice pl L.length cl) (fun _ => rfl) e40_0 (hK _ (Mo.refl _))))
           ·exact og_eq _ rfl (fun f wf hq hd K hK => go_run (wnt_g rfl rfl rfl (hd 18 rfl) rfl) (wo_mv (.tmp 0) (.slice pl L.length cl) (fun _ => rfl) e40_0 (hK _ (Mo.refl _))))
           ·exact og_eq _ rfl (fun f wf hq hd K hK => go_run (wnt_g rfl rfl rfl (hd 18 rfl) rfl) (wo_mv (.tmp 3) (.int .i64 ((i : Nat) : Int)) (fun _ => rfl) e40_i (hK _ (Mo.refl _))))
           ·exact og_eq _ rfl (fun f wf hq hd K hK => go_run (wnt_g rfl rfl rfl (hd 18 rfl) rfl) (wo_bin (fun x y => Instr.indexAt 22 x y) (.tmp 53) (.tmp 54) (.slice pl L.length cl) (.int .i64 ((i : Nat) : Int)) (pt bp (op + i * 5)) (fun _ => rfl) (hd 25 rfl) (hd 26 rfl) (ix22 (i := i) hpp hil _) (hK _ (Mo.refl _))))
           ·exact og_eq _ rfl (fun f wf hq hd K hK => go_run (wnt_g rfl rfl rfl (hd 18 rfl) rfl) (wo_un (fun v => Instr.fieldAt 65 v 0) (.tmp 55) (pt bp (op + i * 5)) (pt bp (op + i * 5)) (fun _ => rfl) (hd 27 rfl) (by kernel_rfl) (hK _ (Mo.refl _))))
           ·exact og_eq _ rfl (fun f wf hq hd K hK => go_run (wnt_g rfl rfl rfl (hd 18 rfl) rfl) (wo_load 3 (.tmp 56) (pt bp (op + i * 5)) (.int .i64 (y.pr)) rfl (hd 28 rfl) (D.run_oneR (hRp.mo (M.trans hq)).at' 3 0 rfl Tryd.underlying3 rfl) (hK _ (Mo.refl _))))
           ·exact og_eq _ rfl (fun f wf hq hd K hK => go_run (wnt_g rfl rfl rfl (hd 18 rfl) rfl) (wo_bin (fun x y => Instr.indexAt 22 x y) (.tmp 52) (.tmp 57) (.slice pl L.length cl) (.int .i64 (y.pr)) (pt bq (oq + y.pr.toNat * 5)) (fun _ => rfl) (hd 24 rfl) (hd 29 rfl) (ix22I (Int.not_lt.1 hf34p) hpq hlp _) (hK _ (Mo.refl _))))
           ·exact og_eq _ rfl (fun f wf hq hd K hK => go_run (wnt_g rfl rfl rfl (hd 18 rfl) rfl) (wo_un (fun v => Instr.fieldAt 65 v 1) (.tmp 58) (pt bq (oq + y.pr.toNat * 5)) (pt bq (oq + y.pr.toNat * 5 + 1)) (fun _ => rfl) (hd 30 rfl) (by kernel_rfl) (hK _ (Mo.refl _))))
           ·exact og_eq _ rfl (fun f wf hq hd K hK => go_run (wnt_g rfl rfl rfl (hd 18 rfl) rfl) (wo_load 3 (.tmp 59) (pt bq (oq + y.pr.toNat * 5 + 1)) (.int .i64 (p.dp)) rfl (hd 31 rfl) (D.run_oneR (hRq.mo (M.trans hq)).at' 3 1 rfl Tryd.underlying3 rfl) (hK _ (Mo.refl _))))
           ·exact og_eq _ rfl (fun f wf hq hd K hK => go_run (wnt_g rfl rfl rfl (hd 18 rfl) rfl) (wo_bin (fun x y => do eqGuard .add 3 (.tmp 60) (.const (.int .i64 (1))) x y; binOp .add 3 x y) (.tmp 60) (.const (.int .i64 (1))) (.int .i64 (p.dp)) (.int .i64 (1)) (.int .i64 (p.dp + 1)) (fun _ => rfl) (hd 32 rfl) rfl (add1i (k := p.dp) (by omega) (by omega) _ _ _) (hK _ (Mo.refl _))))
           ·exact og_eq _ rfl (fun f wf hq hd K hK => go_run (wnt_g rfl rfl rfl (hd 18 rfl) rfl) (wo_bin (fun x y => do eqGuard .neq 3 (.tmp 51) (.tmp 61) x y; binOp .neq 3 x y) (.tmp 51) (.tmp 61) (.int .i64 (y.dp)) (.int .i64 (p.dp + 1)) (.bool false) (fun _ => rfl) (hd 23 rfl) (hd 33 rfl) (ne3 hf36 _ _ _) (hK _ (Mo.refl _))))
           ·exact og_eq _ rfl (fun f wf hq hd K hK => go_run (wnt_g rfl rfl rfl (hd 2 rfl) rfl) (wo_pick (.tmp 46) (.const (.bool true)) (.tmp 62) false (.bool false) (fun _ => rfl) (hd 18 rfl) (hd 34 rfl) (hK _ (Mo.refl _))))
           ·exact og_eq _ rfl (fun f wf hq hd K hK => go_run (wnt_g rfl rfl rfl (hd 2 rfl) rfl) (wo_mv (.tmp 63) (.bool false) (fun _ => rfl) (hd 35 rfl) (hK _ (Mo.refl _))))
           ·exact og_eq _ rfl (fun f wf hq hd K hK => go_run (wnt_g rfl rfl rfl (hd 36 rfl) rfl) (wo_mv (.tmp 0) (.slice pl L.length cl) (fun _ => rfl) e40_0 (hK _ (Mo.refl _))))
           ·exact og_eq _ rfl (fun f wf hq hd K hK => go_run (wnt_g rfl rfl rfl (hd 36 rfl) rfl) (wo_mv (.tmp 3) (.int .i64 ((i : Nat) : Int)) (fun _ => rfl) e40_i (hK _ (Mo.refl _))))
          intro kf41 u41 hq hR hne
          replace M := M.trans hq
          clear hq hR hne
          refine wl_bin (fun x y => Instr.indexAt 22 x y) (.tmp 65) (.tmp 66) (.slice pl L.length cl) (.int .i64 ((i : Nat) : Int)) (pt bp (op + i * 5)) (fun _ => rfl) rfl rfl (ix22 (i := i) hpp hil _) rfl ?_
          refine wl_f 65 1 (.tmp 67) (pt bp (op + i * 5)) (pt bp (op + i * 5 + 1)) ?_
          refine wl_l 3 (.tmp 68) (pt bp (op + i * 5 + 1)) (.int .i64 (y.dp)) (D.run_oneR (hRp.mo M).at' 3 1 rfl Tryd.underlying3 rfl) ?_
          refine wl_b .gtr 3 (.tmp 69) (.const (.int .i64 (4))) (.int .i64 (y.dp)) (.int .i64 (4)) (.bool true) (gt3 hf37 _ _ _) ?_
          refine wl_pick (.tmp 64) (.const (.bool true)) (.tmp 70) false (.bool true) (fun _ => rfl) rfl rfl rfl ?_
          refine wl_pick (.tmp 30) (.tmp 71) (.const (.bool false)) true (.bool true) (fun _ => rfl) rfl rfl rfl ?_
          refine w_nil (xn_then (w_condT rfl (w_seq (w_reg ?_))))
          refine wl_m (.const (.bool false)) (.bool false) ?_
          refine w_nil (xn_then (w_ret (xr_blk (xr_then (xr_then (xr_blk (xr_then ?_)))))))
          exact w_ret1 _ (.bool false) rfl rfl ⟨congrArg (fun v => Ending.returned (.bool v)) (snd_no hy (by rw [Bool.eq_false_iff]; intro h; rcases sb_inv h with ⟨_, h1, h2⟩ | ⟨h0, h1, h2, h3, h4⟩ <;> first | omega | (rw [dpA_at hp] at h3; omega))).symm, M⟩
         | false =>
          have hf37p := of_decide_eq_false hf37
          have hp := hp9 (by omega)
          have hlp := lt_of_get hp
          obtain ⟨bq, oq, hpq, hRq⟩ := D.SL.rw hL.sl hp
          have hdp := dp_rg hS y.pr.toNat (by omega) p hp
          refine w_any 39 [.inl (.int .i64 ((i : Nat) : Int)), .inl (.bool true), .inl (.bool true), .inl (.slice pl L.length cl), .inl (.int .i64 ((i : Nat) : Int)), .inl (pt bp (op + i * 5)), .inl (pt bp (op + i * 5)), .inl (.int .i64 (y.pr)), .inl (.bool false), .inl (.bool false), .inl (.slice pl L.length cl), .inl (.int .i64 ((i : Nat) : Int)), .inl (pt bp (op + i * 5)), .inl (pt bp (op + i * 5)), .inl (.int .i64 (y.pr)), .inl (.int .i64 ((i : Nat) : Int)), .inl (.bool false), .inl (.bool false), .inl (.bool false), .inl (.slice pl L.length cl), .inl (.int .i64 ((i : Nat) : Int)), .inl (pt bp (op + i * 5)), .inl (pt bp (op + i * 5 + 1)), .inl (.int .i64 (y.dp)), .inl (.slice pl L.length cl), .inl (.slice pl L.length cl), .inl (.int .i64 ((i : Nat) : Int)), .inl (pt bp (op + i * 5)), .inl (pt bp (op + i * 5)), .inl (.int .i64 (y.pr)), .inl (pt bq (oq + y.pr.toNat * 5)), .inl (pt bq (oq + y.pr.toNat * 5 + 1)), .inl (.int .i64 (p.dp)), .inl (.int .i64 (p.dp + 1)), .inl (.bool false), .inl (.bool false), .inl (.bool false), .inl (.slice pl L.length cl), .inl (.int .i64 ((i : Nat) : Int))] [] (by kernel_rfl) (by kernel_rfl) (by kernel_rfl) (by kernel_rfl) rfl (by kernel_rfl) (by kernel_rfl) late_nil ?_ ?_ ?_
          ·exact Ds.none rfl
          ·refine ea_cons ?_ (ea_cons ?_ (ea_cons ?_ (ea_cons ?_ (ea_cons ?_ (ea_cons ?_ (ea_cons ?_ (ea_cons ?_ (ea_cons ?_ (ea_cons ?_ (ea_cons ?_ (ea_cons ?_ (ea_cons ?_ (ea_cons ?_ (ea_cons ?_ (ea_cons ?_ (ea_cons ?_ (ea_cons ?_ (ea_cons ?_ (ea_cons ?_ (ea_cons ?_ (ea_cons ?_ (ea_cons ?_ (ea_cons ?_ (ea_cons ?_ (ea_cons ?_ (ea_cons ?_ (ea_cons ?_ (ea_cons ?_ (ea_cons ?_ (ea_cons ?_ (ea_cons ?_ (ea_cons ?_ (ea_cons ?_ (ea_cons ?_ (ea_cons ?_ (ea_cons ?_ (ea_cons ?_ (ea_cons ?_ (ea_nil)))))))))))))))))))))))))))))))))))))))
           ·exact og_eq _ rfl (fun f wf hq hd K hK => go_run rfl (wo_mv (.tmp 3) (.int .i64 ((i : Nat) : Int)) (fun _ => rfl) e40_i (hK _ (Mo.refl _))))
           ·exact og_eq _ rfl (fun f wf hq hd K hK => go_run rfl (wo_bin (fun x y => do eqGuard .gtr 3 (.tmp 28) (.const (.int .i64 (0))) x y; binOp .gtr 3 x y) (.tmp 28) (.const (.int .i64 (0))) (.int .i64 ((i : Nat) : Int)) (.int .i64 (0)) (.bool true) (fun _ => rfl) (hd 0 rfl) rfl (gtN hf33 _ _ _) (hK _ (Mo.refl _))))
           ·exact og_eq _ rfl (fun f wf hq hd K hK => go_run rfl (wo_mv (.tmp 29) (.bool true) (fun _ => rfl) (hd 1 rfl) (hK _ (Mo.refl _))))
           ·exact og_eq _ rfl (fun f wf hq hd K hK => go_run (wnt_g rfl rfl rfl (hd 2 rfl) rfl) (wo_mv (.tmp 0) (.slice pl L.length cl) (fun _ => rfl) e40_0 (hK _ (Mo.refl _))))
           ·exact og_eq _ rfl (fun f wf hq hd K hK => go_run (wnt_g rfl rfl rfl (hd 2 rfl) rfl) (wo_mv (.tmp 3) (.int .i64 ((i : Nat) : Int)) (fun _ => rfl) e40_i (hK _ (Mo.refl _))))
           ·exact og_eq _ rfl (fun f wf hq hd K hK => go_run (wnt_g rfl rfl rfl (hd 2 rfl) rfl) (wo_bin (fun x y => Instr.indexAt 22 x y) (.tmp 31) (.tmp 32) (.slice pl L.length cl) (.int .i64 ((i : Nat) : Int)) (pt bp (op + i * 5)) (fun _ => rfl) (hd 3 rfl) (hd 4 rfl) (ix22 (i := i) hpp hil _) (hK _ (Mo.refl _))))
           ·exact og_eq _ rfl (fun f wf hq hd K hK => go_run (wnt_g rfl rfl rfl (hd 2 rfl) rfl) (wo_un (fun v => Instr.fieldAt 65 v 0) (.tmp 33) (pt bp (op + i * 5)) (pt bp (op + i * 5)) (fun _ => rfl) (hd 5 rfl) (by kernel_rfl) (hK _ (Mo.refl _))))
           ·exact og_eq _ rfl (fun f wf hq hd K hK => go_run (wnt_g rfl rfl rfl (hd 2 rfl) rfl) (wo_load 3 (.tmp 34) (pt bp (op + i * 5)) (.int .i64 (y.pr)) rfl (hd 6 rfl) (D.run_oneR (hRp.mo (M.trans hq)).at' 3 0 rfl Tryd.underlying3 rfl) (hK _ (Mo.refl _))))
           ·exact og_eq _ rfl (fun f wf hq hd K hK => go_run (wnt_g rfl rfl rfl (hd 2 rfl) rfl) (wo_bin (fun x y => do eqGuard .lss 3 (.tmp 35) (.const (.int .i64 (0))) x y; binOp .lss 3 x y) (.tmp 35) (.const (.int .i64 (0))) (.int .i64 (y.pr)) (.int .i64 (0)) (.bool false) (fun _ => rfl) (hd 7 rfl) rfl (lt3 hf34 _ _ _) (hK _ (Mo.refl _))))
           ·exact og_eq _ rfl (fun f wf hq hd K hK => go_run (wnt_g rfl rfl rfl (hd 2 rfl) rfl) (wo_mv (.tmp 36) (.bool false) (fun _ => rfl) (hd 8 rfl) (hK _ (Mo.refl _))))
           ·exact og_eq _ rfl (fun f wf hq hd K hK => go_run (wnt_g rfl rfl rfl (hd 9 rfl) rfl) (wo_mv (.tmp 0) (.slice pl L.length cl) (fun _ => rfl) e40_0 (hK _ (Mo.refl _))))
           ·exact og_eq _ rfl (fun f wf hq hd K hK => go_run (wnt_g rfl rfl rfl (hd 9 rfl) rfl) (wo_mv (.tmp 3) (.int .i64 ((i : Nat) : Int)) (fun _ => rfl) e40_i (hK _ (Mo.refl _))))
           ·exact og_eq _ rfl (fun f wf hq hd K hK => go_run (wnt_g rfl rfl rfl (hd 9 rfl) rfl) (wo_bin (fun x y => Instr.indexAt 22 x y) (.tmp 38) (.tmp 39) (.slice pl L.length cl) (.int .i64 ((i : Nat) : Int)) (pt bp (op + i * 5)) (fun _ => rfl) (hd 10 rfl) (hd 11 rfl) (ix22 (i := i) hpp hil _) (hK _ (Mo.refl _))))
           ·exact og_eq _ rfl (fun f wf hq hd K hK => go_run (wnt_g rfl rfl rfl (hd 9 rfl) rfl) (wo_un (fun v => Instr.fieldAt 65 v 0) (.tmp 40) (pt bp (op + i * 5)) (pt bp (op + i * 5)) (fun _ => rfl) (hd 12 rfl) (by kernel_rfl) (hK _ (Mo.refl _))))
           ·exact og_eq _ rfl (fun f wf hq hd K hK => go_run (wnt_g rfl rfl rfl (hd 9 rfl) rfl) (wo_load 3 (.tmp 41) (pt bp (op + i * 5)) (.int .i64 (y.pr)) rfl (hd 13 rfl) (D.run_oneR (hRp.mo (M.trans hq)).at' 3 0 rfl Tryd.underlying3 rfl) (hK _ (Mo.refl _))))
           ·exact og_eq _ rfl (fun f wf hq hd K hK => go_run (wnt_g rfl rfl rfl (hd 9 rfl) rfl) (wo_mv (.tmp 3) (.int .i64 ((i : Nat) : Int)) (fun _ => rfl) e40_i (hK _ (Mo.refl _))))
           ·exact og_eq _ rfl (fun f wf hq hd K hK => go_run (wnt_g rfl rfl rfl (hd 9 rfl) rfl) (wo_bin (fun x y => do eqGuard .geq 3 (.tmp 42) (.tmp 43) x y; binOp .geq 3 x y) (.tmp 42) (.tmp 43) (.int .i64 (y.pr)) (.int .i64 ((i : Nat) : Int)) (.bool false) (fun _ => rfl) (hd 14 rfl) (hd 15 rfl) (ge3 hf35 _ _ _) (hK _ (Mo.refl _))))
           ·exact og_eq _ rfl (fun f wf hq hd K hK => go_run (wnt_g rfl rfl rfl (hd 2 rfl) rfl) (wo_pick (.tmp 37) (.const (.bool true)) (.tmp 44) false (.bool false) (fun _ => rfl) (hd 9 rfl) (hd 16 rfl) (hK _ (Mo.refl _))))
           ·exact og_eq _ rfl (fun f wf hq hd K hK => go_run (wnt_g rfl rfl rfl (hd 2 rfl) rfl) (wo_mv (.tmp 45) (.bool false) (fun _ => rfl) (hd 17 rfl) (hK _ (Mo.refl _))))
           ·exact og_eq _ rfl (fun f wf hq hd K hK => go_run (wnt_g rfl rfl rfl (hd 18 rfl) rfl) (wo_mv (.tmp 0) (.slice pl L.length cl) (fun _ => rfl) e40_0 (hK _ (Mo.refl _))))
           ·exact og_eq _ rfl (fun f wf hq hd K hK => go_run (wnt_g rfl rfl rfl (hd 18 rfl) rfl) (wo_mv (.tmp 3) (.int .i64 ((i : Nat) : Int)) (fun _ => rfl) e40_i (hK _ (Mo.refl _))))
           ·exact og_eq _ rfl (fun f wf hq hd K hK => go_run (wnt_g rfl rfl rfl (hd 18 rfl) rfl) (wo_bin (fun x y => Instr.indexAt 22 x y) (.tmp 47) (.tmp 48) (.slice pl L.length cl) (.int .i64 ((i : Nat) : Int)) (pt bp (op + i * 5)) (fun _ => rfl) (hd 19 rfl) (hd 20 rfl) (ix22 (i := i) hpp hil _) (hK _ (Mo.refl _))))
           ·exact og_eq _ rfl (fun f wf hq hd K hK => go_run (wnt_g rfl rfl rfl (hd 18 rfl) rfl) (wo_un (fun v => Instr.fieldAt 65 v 1) (.tmp 49) (pt bp (op + i * 5)) (pt bp (op + i * 5 + 1)) (fun _ => rfl) (hd 21 rfl) (by kernel_rfl) (hK _ (Mo.refl _))))
           ·exact og_eq _ rfl (fun f wf hq hd K hK => go_run (wnt_g rfl rfl rfl (hd 18 rfl) rfl) (wo_load 3 (.tmp 50) (pt bp (op + i * 5 + 1)) (.int .i64 (y.dp)) rfl (hd 22 rfl) (D.run_oneR (hRp.mo (M.trans hq)).at' 3 1 rfl Tryd.underlying3 rfl) (hK _ (Mo.refl _))))
           ·exact og_eq _ rfl (fun f wf hq hd K hK => go_run (wnt_g rfl rfl rfl (hd 18 rfl) rfl) (wo_mv (.tmp 0) (.slice pl L.length cl) (fun _ => rfl) e40_0 (hK _ (Mo.refl _))))
           ·exact og_eq _ rfl (fun f wf hq hd K hK => go_run (wnt_g rfl rfl rfl (hd 18 rfl) rfl) (wo_mv (.tmp 0) (.slice pl L.length cl) (fun _ => rfl) e40_0 (hK _ (Mo.refl _))))
           ·exact og_eq _ rfl (fun f wf hq hd K hK => go_run (wnt_g rfl rfl rfl (hd 18 rfl) rfl) (wo_mv (.tmp 3) (.int .i64 ((i : Nat) : Int)) (fun _ => rfl) e40_i (hK _ (Mo.refl _))))
           ·exact og_eq _ rfl (fun f wf hq hd K hK => go_run (wnt_g rfl rfl rfl (hd 18 rfl) rfl) (wo_bin (fun x y => Instr.indexAt 22 x y) (.tmp 53) (.tmp 54) (.slice pl L.length cl) (.int .i64 ((i : Nat) : Int)) (pt bp (op + i * 5)) (fun _ => rfl) (hd 25 rfl) (hd 26 rfl) (ix22 (i := i) hpp hil _) (hK _ (Mo.refl _))))
           ·exact og_eq _ rfl (fun f wf hq hd K hK => go_run (wnt_g rfl rfl rfl (hd 18 rfl) rfl) (wo_un (fun v => Instr.fieldAt 65 v 0) (.tmp 55) (pt bp (op + i * 5)) (pt bp (op + i * 5)) (fun _ => rfl) (hd 27 rfl) (by kernel_rfl) (hK _ (Mo.refl _))))
           ·exact og_eq _ rfl (fun f wf hq hd K hK => go_run (wnt_g rfl rfl rfl (hd 18 rfl) rfl) (wo_load 3 (.tmp 56) (pt bp (op + i * 5)) (.int .i64 (y.pr)) rfl (hd 28 rfl) (D.run_oneR (hRp.mo (M.trans hq)).at' 3 0 rfl Tryd.underlying3 rfl) (hK _ (Mo.refl _))))
           ·exact og_eq _ rfl (fun f wf hq hd K hK => go_run (wnt_g rfl rfl rfl (hd 18 rfl) rfl) (wo_bin (fun x y => Instr.indexAt 22 x y) (.tmp 52) (.tmp 57) (.slice pl L.length cl) (.int .i64 (y.pr)) (pt bq (oq + y.pr.toNat * 5)) (fun _ => rfl) (hd 24 rfl) (hd 29 rfl) (ix22I (Int.not_lt.1 hf34p) hpq hlp _) (hK _ (Mo.refl _))))
           ·exact og_eq _ rfl (fun f wf hq hd K hK => go_run (wnt_g rfl rfl rfl (hd 18 rfl) rfl) (wo_un (fun v => Instr.fieldAt 65 v 1) (.tmp 58) (pt bq (oq + y.pr.toNat * 5)) (pt bq (oq + y.pr.toNat * 5 + 1)) (fun _ => rfl) (hd 30 rfl) (by kernel_rfl) (hK _ (Mo.refl _))))
           ·exact og_eq _ rfl (fun f wf hq hd K hK => go_run (wnt_g rfl rfl rfl (hd 18 rfl) rfl) (wo_load 3 (.tmp 59) (pt bq (oq + y.pr.toNat * 5 + 1)) (.int .i64 (p.dp)) rfl (hd 31 rfl) (D.run_oneR (hRq.mo (M.trans hq)).at' 3 1 rfl Tryd.underlying3 rfl) (hK _ (Mo.refl _))))
           ·exact og_eq _ rfl (fun f wf hq hd K hK => go_run (wnt_g rfl rfl rfl (hd 18 rfl) rfl) (wo_bin (fun x y => do eqGuard .add 3 (.tmp 60) (.const (.int .i64 (1))) x y; binOp .add 3 x y) (.tmp 60) (.const (.int .i64 (1))) (.int .i64 (p.dp)) (.int .i64 (1)) (.int .i64 (p.dp + 1)) (fun _ => rfl) (hd 32 rfl) rfl (add1i (k := p.dp) (by omega) (by omega) _ _ _) (hK _ (Mo.refl _))))
           ·exact og_eq _ rfl (fun f wf hq hd K hK => go_run (wnt_g rfl rfl rfl (hd 18 rfl) rfl) (wo_bin (fun x y => do eqGuard .neq 3 (.tmp 51) (.tmp 61) x y; binOp .neq 3 x y) (.tmp 51) (.tmp 61) (.int .i64 (y.dp)) (.int .i64 (p.dp + 1)) (.bool false) (fun _ => rfl) (hd 23 rfl) (hd 33 rfl) (ne3 hf36 _ _ _) (hK _ (Mo.refl _))))
           ·exact og_eq _ rfl (fun f wf hq hd K hK => go_run (wnt_g rfl rfl rfl (hd 2 rfl) rfl) (wo_pick (.tmp 46) (.const (.bool true)) (.tmp 62) false (.bool false) (fun _ => rfl) (hd 18 rfl) (hd 34 rfl) (hK _ (Mo.refl _))))
           ·exact og_eq _ rfl (fun f wf hq hd K hK => go_run (wnt_g rfl rfl rfl (hd 2 rfl) rfl) (wo_mv (.tmp 63) (.bool false) (fun _ => rfl) (hd 35 rfl) (hK _ (Mo.refl _))))
           ·exact og_eq _ rfl (fun f wf hq hd K hK => go_run (wnt_g rfl rfl rfl (hd 36 rfl) rfl) (wo_mv (.tmp 0) (.slice pl L.length cl) (fun _ => rfl) e40_0 (hK _ (Mo.refl _))))
           ·exact og_eq _ rfl (fun f wf hq hd K hK => go_run (wnt_g rfl rfl rfl (hd 36 rfl) rfl) (wo_mv (.tmp 3) (.int .i64 ((i : Nat) : Int)) (fun _ => rfl) e40_i (hK _ (Mo.refl _))))
          intro kf41 u41 hq hR hne
          replace M := M.trans hq
          clear hq hR hne
          refine wl_bin (fun x y => Instr.indexAt 22 x y) (.tmp 65) (.tmp 66) (.slice pl L.length cl) (.int .i64 ((i : Nat) : Int)) (pt bp (op + i * 5)) (fun _ => rfl) rfl rfl (ix22 (i := i) hpp hil _) rfl ?_
          refine wl_f 65 1 (.tmp 67) (pt bp (op + i * 5)) (pt bp (op + i * 5 + 1)) ?_
          refine wl_l 3 (.tmp 68) (pt bp (op + i * 5 + 1)) (.int .i64 (y.dp)) (D.run_oneR (hRp.mo M).at' 3 1 rfl Tryd.underlying3 rfl) ?_
          refine wl_b .gtr 3 (.tmp 69) (.const (.int .i64 (4))) (.int .i64 (y.dp)) (.int .i64 (4)) (.bool false) (gt3 hf37 _ _ _) ?_
          refine wl_pick (.tmp 64) (.const (.bool true)) (.tmp 70) false (.bool false) (fun _ => rfl) rfl rfl rfl ?_
          refine wl_pick (.tmp 30) (.tmp 71) (.const (.bool false)) true (.bool false) (fun _ => rfl) rfl rfl rfl ?_
          refine w_nil (xn_then (w_condF rfl (w_skip (xn_blk (xn_then (w_reg ?_))))))
          refine wl_mv (.tmp 3) (.int .i64 ((i : Nat) : Int)) (fun _ => rfl) e40_i rfl ?_
          refine wl_b .add 3 (.tmp 8) (.const (.int .i64 (1))) (.int .i64 ((i : Nat) : Int)) (.int .i64 (1)) (.int .i64 ((i + 1 : Nat) : Int)) (add1r (k := i) (by omega) _ _ _) ?_
          refine wl_m (.tmp 9) (.int .i64 ((i + 1 : Nat) : Int)) ?_
          refine w_nil ?_
          exact xn_loop (L.length - (i + 1)) (by omega) ⟨i + 1, rfl, by omega, e40_0, rfl, (next_sb hS hy (sb_0 (by omega) (by omega) (by omega))), M⟩
        | false =>
         have hf36p := of_decide_eq_false hf36
         have hp := hp9 (by omega)
         have hlp := lt_of_get hp
         obtain ⟨bq, oq, hpq, hRq⟩ := D.SL.rw hL.sl hp
         have hdp := dp_rg hS y.pr.toNat (by omega) p hp
         refine w_any 39 [.inl (.int .i64 ((i : Nat) : Int)), .inl (.bool true), .inl (.bool true), .inl (.slice pl L.length cl), .inl (.int .i64 ((i : Nat) : Int)), .inl (pt bp (op + i * 5)), .inl (pt bp (op + i * 5)), .inl (.int .i64 (y.pr)), .inl (.bool false), .inl (.bool false), .inl (.slice pl L.length cl), .inl (.int .i64 ((i : Nat) : Int)), .inl (pt bp (op + i * 5)), .inl (pt bp (op + i * 5)), .inl (.int .i64 (y.pr)), .inl (.int .i64 ((i : Nat) : Int)), .inl (.bool false), .inl (.bool false), .inl (.bool false), .inl (.slice pl L.length cl), .inl (.int .i64 ((i : Nat) : Int)), .inl (pt bp (op + i * 5)), .inl (pt bp (op + i * 5 + 1)), .inl (.int .i64 (y.dp)), .inl (.slice pl L.length cl), .inl (.slice pl L.length cl), .inl (.int .i64 ((i : Nat) : Int)), .inl (pt bp (op + i * 5)), .inl (pt bp (op + i * 5)), .inl (.int .i64 (y.pr)), .inl (pt bq (oq + y.pr.toNat * 5)), .inl (pt bq (oq + y.pr.toNat * 5 + 1)), .inl (.int .i64 (p.dp)), .inl (.int .i64 (p.dp + 1)), .inl (.bool true), .inl (.bool true), .inl (.bool true), .inl undef, .inl undef] [] (by kernel_rfl) (by kernel_rfl) (by kernel_rfl) (by kernel_rfl) rfl (by kernel_rfl) (by kernel_rfl) late_nil ?_ ?_ ?_
         ·exact Ds.none rfl
         ·refine ea_cons ?_ (ea_cons ?_ (ea_cons ?_ (ea_cons ?_ (ea_cons ?_ (ea_cons ?_ (ea_cons ?_ (ea_cons ?_ (ea_cons ?_ (ea_cons ?_ (ea_cons ?_ (ea_cons ?_ (ea_cons ?_ (ea_cons ?_ (ea_cons ?_ (ea_cons ?_ (ea_cons ?_ (ea_cons ?_ (ea_cons ?_ (ea_cons ?_ (ea_cons ?_ (ea_cons ?_ (ea_cons ?_ (ea_cons ?_ (ea_cons ?_ (ea_cons ?_ (ea_cons ?_ (ea_cons ?_ (ea_cons ?_ (ea_cons ?_ (ea_cons ?_ (ea_cons ?_ (ea_cons ?_ (ea_cons ?_ (ea_cons ?_ (ea_cons ?_ (ea_cons ?_ (ea_cons ?_ (ea_cons ?_ (ea_nil)))))))))))))))))))))))))))))))))))))))
          ·exact og_eq _ rfl (fun f wf hq hd K hK => go_run rfl (wo_mv (.tmp 3) (.int .i64 ((i : Nat) : Int)) (fun _ => rfl) e40_i (hK _ (Mo.refl _))))
          ·exact og_eq _ rfl (fun f wf hq hd K hK => go_run rfl (wo_bin (fun x y => do eqGuard .gtr 3 (.tmp 28) (.const (.int .i64 (0))) x y; binOp .gtr 3 x y) (.tmp 28) (.const (.int .i64 (0))) (.int .i64 ((i : Nat) : Int)) (.int .i64 (0)) (.bool true) (fun _ => rfl) (hd 0 rfl) rfl (gtN hf33 _ _ _) (hK _ (Mo.refl _))))
          ·exact og_eq _ rfl (fun f wf hq hd K hK => go_run rfl (wo_mv (.tmp 29) (.bool true) (fun _ => rfl) (hd 1 rfl) (hK _ (Mo.refl _))))
          ·exact og_eq _ rfl (fun f wf hq hd K hK => go_run (wnt_g rfl rfl rfl (hd 2 rfl) rfl) (wo_mv (.tmp 0) (.slice pl L.length cl) (fun _ => rfl) e40_0 (hK _ (Mo.refl _))))
          ·exact og_eq _ rfl (fun f wf hq hd K hK => go_run (wnt_g rfl rfl rfl (hd 2 rfl) rfl) (wo_mv (.tmp 3) (.int .i64 ((i : Nat) : Int)) (fun _ => rfl) e40_i (hK _ (Mo.refl _))))
          ·exact og_eq _ rfl (fun f wf hq hd K hK => go_run (wnt_g rfl rfl rfl (hd 2 rfl) rfl) (wo_bin (fun x y => Instr.indexAt 22 x y) (.tmp 31) (.tmp 32) (.slice pl L.length cl) (.int .i64 ((i : Nat) : Int)) (pt bp (op + i * 5)) (fun _ => rfl) (hd 3 rfl) (hd 4 rfl) (ix22 (i := i) hpp hil _) (hK _ (Mo.refl _))))
          ·exact og_eq _ rfl (fun f wf hq hd K hK => go_run (wnt_g rfl rfl rfl (hd 2 rfl) rfl) (wo_un (fun v => Instr.fieldAt 65 v 0) (.tmp 33) (pt bp (op + i * 5)) (pt bp (op + i * 5)) (fun _ => rfl) (hd 5 rfl) (by kernel_rfl) (hK _ (Mo.refl _))))
          ·exact og_eq _ rfl (fun f wf hq hd K hK => go_run (wnt_g rfl rfl rfl (hd 2 rfl) rfl) (wo_load 3 (.tmp 34) (pt bp (op + i * 5)) (.int .i64 (y.pr)) rfl (hd 6 rfl) (D.run_oneR (hRp.mo (M.trans hq)).at' 3 0 rfl Tryd.underlying3 rfl) (hK _ (Mo.refl _))))
          ·exact og_eq _ rfl (fun f wf hq hd K hK => go_run (wnt_g rfl rfl rfl (hd 2 rfl) rfl) (wo_bin (fun x y => do eqGuard .lss 3 (.tmp 35) (.const (.int .i64 (0))) x y; binOp .lss 3 x y) (.tmp 35) (.const (.int .i64 (0))) (.int .i64 (y.pr)) (.int .i64 (0)) (.bool false) (fun _ => rfl) (hd 7 rfl) rfl (lt3 hf34 _ _ _) (hK _ (Mo.refl _))))
          ·exact og_eq _ rfl (fun f wf hq hd K hK => go_run (wnt_g rfl rfl rfl (hd 2 rfl) rfl) (wo_mv (.tmp 36) (.bool false) (fun _ => rfl) (hd 8 rfl) (hK _ (Mo.refl _))))
          ·exact og_eq _ rfl (fun f wf hq hd K hK => go_run (wnt_g rfl rfl rfl (hd 9 rfl) rfl) (wo_mv (.tmp 0) (.slice pl L.length cl) (fun _ => rfl) e40_0 (hK _ (Mo.refl _))))
          ·exact og_eq _ rfl (fun f wf hq hd K hK => go_run (wnt_g rfl rfl rfl (hd 9 rfl) rfl) (wo_mv (.tmp 3) (.int .i64 ((i : Nat) : Int)) (fun _ => rfl) e40_i (hK _ (Mo.refl _))))
          ·exact og_eq _ rfl (fun f wf hq hd K hK => go_run (wnt_g rfl rfl rfl (hd 9 rfl) rfl) (wo_bin (fun x y => Instr.indexAt 22 x y) (.tmp 38) (.tmp 39) (.slice pl L.length cl) (.int .i64 ((i : Nat) : Int)) (pt bp (op + i * 5)) (fun _ => rfl) (hd 10 rfl) (hd 11 rfl) (ix22 (i := i) hpp hil _) (hK _ (Mo.refl _))))
          ·exact og_eq _ rfl (fun f wf hq hd K hK => go_run (wnt_g rfl rfl rfl (hd 9 rfl) rfl) (wo_un (fun v => Instr.fieldAt 65 v 0) (.tmp 40) (pt bp (op + i * 5)) (pt bp (op + i * 5)) (fun _ => rfl) (hd 12 rfl) (by kernel_rfl) (hK _ (Mo.refl _))))
          ·exact og_eq _ rfl (fun f wf hq hd K hK => go_run (wnt_g rfl rfl rfl (hd 9 rfl) rfl) (wo_load 3 (.tmp 41) (pt bp (op + i * 5)) (.int .i64 (y.pr)) rfl (hd 13 rfl) (D.run_oneR (hRp.mo (M.trans hq)).at' 3 0 rfl Tryd.underlying3 rfl) (hK _ (Mo.refl _))))
          ·exact og_eq _ rfl (fun f wf hq hd K hK => go_run (wnt_g rfl rfl rfl (hd 9 rfl) rfl) (wo_mv (.tmp 3) (.int .i64 ((i : Nat) : Int)) (fun _ => rfl) e40_i (hK _ (Mo.refl _))))
          ·exact og_eq _ rfl (fun f wf hq hd K hK => go_run (wnt_g rfl rfl rfl (hd 9 rfl) rfl) (wo_bin (fun x y => do eqGuard .geq 3 (.tmp 42) (.tmp 43) x y; binOp .geq 3 x y) (.tmp 42) (.tmp 43) (.int .i64 (y.pr)) (.int .i64 ((i : Nat) : Int)) (.bool false) (fun _ => rfl) (hd 14 rfl) (hd 15 rfl) (ge3 hf35 _ _ _) (hK _ (Mo.refl _))))
          ·exact og_eq _ rfl (fun f wf hq hd K hK => go_run (wnt_g rfl rfl rfl (hd 2 rfl) rfl) (wo_pick (.tmp 37) (.const (.bool true)) (.tmp 44) false (.bool false) (fun _ => rfl) (hd 9 rfl) (hd 16 rfl) (hK _ (Mo.refl _))))
          ·exact og_eq _ rfl (fun f wf hq hd K hK => go_run (wnt_g rfl rfl rfl (hd 2 rfl) rfl) (wo_mv (.tmp 45) (.bool false) (fun _ => rfl) (hd 17 rfl) (hK _ (Mo.refl _))))
          ·exact og_eq _ rfl (fun f wf hq hd K hK => go_run (wnt_g rfl rfl rfl (hd 18 rfl) rfl) (wo_mv (.tmp 0) (.slice pl L.length cl) (fun _ => rfl) e40_0 (hK _ (Mo.refl _))))
          ·exact og_eq _ rfl (fun f wf hq hd K hK => go_run (wnt_g rfl rfl rfl (hd 18 rfl) rfl) (wo_mv (.tmp 3) (.int .i64 ((i : Nat) : Int)) (fun _ => rfl) e40_i (hK _ (Mo.refl _))))
          ·exact og_eq _ rfl (fun f wf hq hd K hK => go_run (wnt_g rfl rfl rfl (hd 18 rfl) rfl) (wo_bin (fun x y => Instr.indexAt 22 x y) (.tmp 47) (.tmp 48) (.slice pl L.length cl) (.int .i64 ((i : Nat) : Int)) (pt bp (op + i * 5)) (fun _ => rfl) (hd 19 rfl) (hd 20 rfl) (ix22 (i := i) hpp hil _) (hK _ (Mo.refl _))))
          ·exact og_eq _ rfl (fun f wf hq hd K hK => go_run (wnt_g rfl rfl rfl (hd 18 rfl) rfl) (wo_un (fun v => Instr.fieldAt 65 v 1) (.tmp 49) (pt bp (op + i * 5)) (pt bp (op + i * 5 + 1)) (fun _ => rfl) (hd 21 rfl) (by kernel_rfl) (hK _ (Mo.refl _))))
          ·exact og_eq _ rfl (fun f wf hq hd K hK => go_run (wnt_g rfl rfl rfl (hd 18 rfl) rfl) (wo_load 3 (.tmp 50) (pt bp (op + i * 5 + 1)) (.int .i64 (y.dp)) rfl (hd 22 rfl) (D.run_oneR (hRp.mo (M.trans hq)).at' 3 1 rfl Tryd.underlying3 rfl) (hK _ (Mo.refl _))))
          ·exact og_eq _ rfl (fun f wf hq hd K hK => go_run (wnt_g rfl rfl rfl (hd 18 rfl) rfl) (wo_mv (.tmp 0) (.slice pl L.length cl) (fun _ => rfl) e40_0 (hK _ (Mo.refl _))))
          ·exact og_eq _ rfl (fun f wf hq hd K hK => go_run (wnt_g rfl rfl rfl (hd 18 rfl) rfl) (wo_mv (.tmp 0) (.slice pl L.length cl) (fun _ => rfl) e40_0 (hK _ (Mo.refl _))))
          ·exact og_eq _ rfl (fun f wf hq hd K hK => go_run (wnt_g rfl rfl rfl (hd 18 rfl) rfl) (wo_mv (.tmp 3) (.int .i64 ((i : Nat) : Int)) (fun _ => rfl) e40_i (hK _ (Mo.refl _))))
          ·exact og_eq _ rfl (fun f wf hq hd K hK => go_run (wnt_g rfl rfl rfl (hd 18 rfl) rfl) (wo_bin (fun x y => Instr.indexAt 22 x y) (.tmp 53) (.tmp 54) (.slice pl L.length cl) (.int .i64 ((i : Nat) : Int)) (pt bp (op + i * 5)) (fun _ => rfl) (hd 25 rfl) (hd 26 rfl) (ix22 (i := i) hpp hil _) (hK _ (Mo.refl _))))
          ·exact og_eq _ rfl (fun f wf hq hd K hK => go_run (wnt_g rfl rfl rfl (hd 18 rfl) rfl) (wo_un (fun v => Instr.fieldAt 65 v 0) (.tmp 55) (pt bp (op + i * 5)) (pt bp (op + i * 5)) (fun _ => rfl) (hd 27 rfl) (by kernel_rfl) (hK _ (Mo.refl _))))
          ·exact og_eq _ rfl (fun f wf hq hd K hK => go_run (wnt_g rfl rfl rfl (hd 18 rfl) rfl) (wo_load 3 (.tmp 56) (pt bp (op + i * 5)) (.int .i64 (y.pr)) rfl (hd 28 rfl) (D.run_oneR (hRp.mo (M.trans hq)).at' 3 0 rfl Tryd.underlying3 rfl) (hK _ (Mo.refl _))))
          ·exact og_eq _ rfl (fun f wf hq hd K hK => go_run (wnt_g rfl rfl rfl (hd 18 rfl) rfl) (wo_bin (fun x y => Instr.indexAt 22 x y) (.tmp 52) (.tmp 57) (.slice pl L.length cl) (.int .i64 (y.pr)) (pt bq (oq + y.pr.toNat * 5)) (fun _ => rfl) (hd 24 rfl) (hd 29 rfl) (ix22I (Int.not_lt.1 hf34p) hpq hlp _) (hK _ (Mo.refl _))))
          ·exact og_eq _ rfl (fun f wf hq hd K hK => go_run (wnt_g rfl rfl rfl (hd 18 rfl) rfl) (wo_un (fun v => Instr.fieldAt 65 v 1) (.tmp 58) (pt bq (oq + y.pr.toNat * 5)) (pt bq (oq + y.pr.toNat * 5 + 1)) (fun _ => rfl) (hd 30 rfl) (by kernel_rfl) (hK _ (Mo.refl _))))
          ·exact og_eq _ rfl (fun f wf hq hd K hK => go_run (wnt_g rfl rfl rfl (hd 18 rfl) rfl) (wo_load 3 (.tmp 59) (pt bq (oq + y.pr.toNat * 5 + 1)) (.int .i64 (p.dp)) rfl (hd 31 rfl) (D.run_oneR (hRq.mo (M.trans hq)).at' 3 1 rfl Tryd.underlying3 rfl) (hK _ (Mo.refl _))))
          ·exact og_eq _ rfl (fun f wf hq hd K hK => go_run (wnt_g rfl rfl rfl (hd 18 rfl) rfl) (wo_bin (fun x y => do eqGuard .add 3 (.tmp 60) (.const (.int .i64 (1))) x y; binOp .add 3 x y) (.tmp 60) (.const (.int .i64 (1))) (.int .i64 (p.dp)) (.int .i64 (1)) (.int .i64 (p.dp + 1)) (fun _ => rfl) (hd 32 rfl) rfl (add1i (k := p.dp) (by omega) (by omega) _ _ _) (hK _ (Mo.refl _))))
          ·exact og_eq _ rfl (fun f wf hq hd K hK => go_run (wnt_g rfl rfl rfl (hd 18 rfl) rfl) (wo_bin (fun x y => do eqGuard .neq 3 (.tmp 51) (.tmp 61) x y; binOp .neq 3 x y) (.tmp 51) (.tmp 61) (.int .i64 (y.dp)) (.int .i64 (p.dp + 1)) (.bool true) (fun _ => rfl) (hd 23 rfl) (hd 33 rfl) (ne3 hf36 _ _ _) (hK _ (Mo.refl _))))
          ·exact og_eq _ rfl (fun f wf hq hd K hK => go_run (wnt_g rfl rfl rfl (hd 2 rfl) rfl) (wo_pick (.tmp 46) (.const (.bool true)) (.tmp 62) false (.bool true) (fun _ => rfl) (hd 18 rfl) (hd 34 rfl) (hK _ (Mo.refl _))))
          ·exact og_eq _ rfl (fun f wf hq hd K hK => go_run (wnt_g rfl rfl rfl (hd 2 rfl) rfl) (wo_mv (.tmp 63) (.bool true) (fun _ => rfl) (hd 35 rfl) (hK _ (Mo.refl _))))
          ·exact og_eq _ rfl (fun f wf hq hd K hK => go_pass (wnt_g rfl rfl rfl (hd 36 rfl) rfl) (hK _ (Mo.refl _)))
          ·exact og_eq _ rfl (fun f wf hq hd K hK => go_pass (wnt_g rfl rfl rfl (hd 36 rfl) rfl) (hK _ (Mo.refl _)))
         intro kf41 u41 hq hR hne
         replace M := M.trans hq
         clear hq hR hne
         refine wl_skip rfl (wl_skip rfl (wl_skip rfl (wl_skip rfl ?_)))
         refine wl_pick (.tmp 64) (.const (.bool true)) (.tmp 70) true (.bool true) (fun _ => rfl) rfl rfl rfl ?_
         refine wl_pick (.tmp 30) (.tmp 71) (.const (.bool false)) true (.bool true) (fun _ => rfl) rfl rfl rfl ?_
         refine w_nil (xn_then (w_condT rfl (w_seq (w_reg ?_))))
         refine wl_m (.const (.bool false)) (.bool false) ?_
         refine w_nil (xn_then (w_ret (xr_blk (xr_then (xr_then (xr_blk (xr_then ?_)))))))
         exact w_ret1 _ (.bool false) rfl rfl ⟨congrArg (fun v => Ending.returned (.bool v)) (snd_no hy (by rw [Bool.eq_false_iff]; intro h; rcases sb_inv h with ⟨_, h1, h2⟩ | ⟨h0, h1, h2, h3, h4⟩ <;> first | omega | (rw [dpA_at hp] at h3; omega))).symm, M⟩
     | false =>
      have hf33p := of_decide_eq_false hf33
      refine w_any 39 [.inl (.int .i64 ((i : Nat) : Int)), .inl (.bool false), .inl (.bool false), .inl undef, .inl undef, .inl undef, .inl undef, .inl undef, .inl undef, .inl undef, .inl undef, .inl undef, .inl undef, .inl undef, .inl undef, .inl undef, .inl undef, .inl undef, .inl undef, .inl undef, .inl undef, .inl undef, .inl undef, .inl undef, .inl undef, .inl undef, .inl undef, .inl undef, .inl undef, .inl undef, .inl undef, .inl undef, .inl undef, .inl undef, .inl undef, .inl undef, .inl undef, .inl undef, .inl undef] [] (by kernel_rfl) (by kernel_rfl) (by kernel_rfl) (by kernel_rfl) rfl (by kernel_rfl) (by kernel_rfl) late_nil ?_ ?_ ?_
      ·exact Ds.none rfl
      ·refine ea_cons ?_ (ea_cons ?_ (ea_cons ?_ (ea_cons ?_ (ea_cons ?_ (ea_cons ?_ (ea_cons ?_ (ea_cons ?_ (ea_cons ?_ (ea_cons ?_ (ea_cons ?_ (ea_cons ?_ (ea_cons ?_ (ea_cons ?_ (ea_cons ?_ (ea_cons ?_ (ea_cons ?_ (ea_cons ?_ (ea_cons ?_ (ea_cons ?_ (ea_cons ?_ (ea_cons ?_ (ea_cons ?_ (ea_cons ?_ (ea_cons ?_ (ea_cons ?_ (ea_cons ?_ (ea_cons ?_ (ea_cons ?_ (ea_cons ?_ (ea_cons ?_ (ea_cons ?_ (ea_cons ?_ (ea_cons ?_ (ea_cons ?_ (ea_cons ?_ (ea_cons ?_ (ea_cons ?_ (ea_cons ?_ (ea_nil)))))))))))))))))))))))))))))))))))))))
       ·exact og_eq _ rfl (fun f wf hq hd K hK => go_run rfl (wo_mv (.tmp 3) (.int .i64 ((i : Nat) : Int)) (fun _ => rfl) e40_i (hK _ (Mo.refl _))))
       ·exact og_eq _ rfl (fun f wf hq hd K hK => go_run rfl (wo_bin (fun x y => do eqGuard .gtr 3 (.tmp 28) (.const (.int .i64 (0))) x y; binOp .gtr 3 x y) (.tmp 28) (.const (.int .i64 (0))) (.int .i64 ((i : Nat) : Int)) (.int .i64 (0)) (.bool false) (fun _ => rfl) (hd 0 rfl) rfl (gtN hf33 _ _ _) (hK _ (Mo.refl _))))
       ·exact og_eq _ rfl (fun f wf hq hd K hK => go_run rfl (wo_mv (.tmp 29) (.bool false) (fun _ => rfl) (hd 1 rfl) (hK _ (Mo.refl _))))
       ·exact og_eq _ rfl (fun f wf hq hd K hK => go_pass (wnt_g rfl rfl rfl (hd 2 rfl) rfl) (hK _ (Mo.refl _)))
       ·exact og_eq _ rfl (fun f wf hq hd K hK => go_pass (wnt_g rfl rfl rfl (hd 2 rfl) rfl) (hK _ (Mo.refl _)))
       ·exact og_eq _ rfl (fun f wf hq hd K hK => go_pass (wnt_g rfl rfl rfl (hd 2 rfl) rfl) (hK _ (Mo.refl _)))
       ·exact og_eq _ rfl (fun f wf hq hd K hK => go_pass (wnt_g rfl rfl rfl (hd 2 rfl) rfl) (hK _ (Mo.refl _)))
       ·exact og_eq _ rfl (fun f wf hq hd K hK => go_pass (wnt_g rfl rfl rfl (hd 2 rfl) rfl) (hK _ (Mo.refl _)))
       ·exact og_eq _ rfl (fun f wf hq hd K hK => go_pass (wnt_g rfl rfl rfl (hd 2 rfl) rfl) (hK _ (Mo.refl _)))
       ·exact og_eq _ rfl (fun f wf hq hd K hK => go_pass (wnt_g rfl rfl rfl (hd 2 rfl) rfl) (hK _ (Mo.refl _)))
       ·exact og_eq _ rfl (fun f wf hq hd K hK => go_pass (wnt_u rfl rfl rfl (hd 9 rfl)) (hK _ (Mo.refl _)))
       ·exact og_eq _ rfl (fun f wf hq hd K hK => go_pass (wnt_u rfl rfl rfl (hd 9 rfl)) (hK _ (Mo.refl _)))
       ·exact og_eq _ rfl (fun f wf hq hd K hK => go_pass (wnt_u rfl rfl rfl (hd 9 rfl)) (hK _ (Mo.refl _)))
       ·exact og_eq _ rfl (fun f wf hq hd K hK => go_pass (wnt_u rfl rfl rfl (hd 9 rfl)) (hK _ (Mo.refl _)))
       ·exact og_eq _ rfl (fun f wf hq hd K hK => go_pass (wnt_u rfl rfl rfl (hd 9 rfl)) (hK _ (Mo.refl _)))
       ·exact og_eq _ rfl (fun f wf hq hd K hK => go_pass (wnt_u rfl rfl rfl (hd 9 rfl)) (hK _ (Mo.refl _)))
       ·exact og_eq _ rfl (fun f wf hq hd K hK => go_pass (wnt_u rfl rfl rfl (hd 9 rfl)) (hK _ (Mo.refl _)))
       ·exact og_eq _ rfl (fun f wf hq hd K hK => go_pass (wnt_g rfl rfl rfl (hd 2 rfl) rfl) (hK _ (Mo.refl _)))
       ·exact og_eq _ rfl (fun f wf hq hd K hK => go_pass (wnt_g rfl rfl rfl (hd 2 rfl) rfl) (hK _ (Mo.refl _)))
       ·exact og_eq _ rfl (fun f wf hq hd K hK => go_pass (wnt_u rfl rfl rfl (hd 18 rfl)) (hK _ (Mo.refl _)))
       ·exact og_eq _ rfl (fun f wf hq hd K hK => go_pass (wnt_u rfl rfl rfl (hd 18 rfl)) (hK _ (Mo.refl _)))
       ·exact og_eq _ rfl (fun f wf hq hd K hK => go_pass (wnt_u rfl rfl rfl (hd 18 rfl)) (hK _ (Mo.refl _)))
       ·exact og_eq _ rfl (fun f wf hq hd K hK => go_pass (wnt_u rfl rfl rfl (hd 18 rfl)) (hK _ (Mo.refl _)))
       ·exact og_eq _ rfl (fun f wf hq hd K hK => go_pass (wnt_u rfl rfl rfl (hd 18 rfl)) (hK _ (Mo.refl _)))
       ·exact og_eq _ rfl (fun f wf hq hd K hK => go_pass (wnt_u rfl rfl rfl (hd 18 rfl)) (hK _ (Mo.refl _)))
       ·exact og_eq _ rfl (fun f wf hq hd K hK => go_pass (wnt_u rfl rfl rfl (hd 18 rfl)) (hK _ (Mo.refl _)))
       ·exact og_eq _ rfl (fun f wf hq hd K hK => go_pass (wnt_u rfl rfl rfl (hd 18 rfl)) (hK _ (Mo.refl _)))
       ·exact og_eq _ rfl (fun f wf hq hd K hK => go_pass (wnt_u rfl rfl rfl (hd 18 rfl)) (hK _ (Mo.refl _)))
       ·exact og_eq _ rfl (fun f wf hq hd K hK => go_pass (wnt_u rfl rfl rfl (hd 18 rfl)) (hK _ (Mo.refl _)))
       ·exact og_eq _ rfl (fun f wf hq hd K hK => go_pass (wnt_u rfl rfl rfl (hd 18 rfl)) (hK _ (Mo.refl _)))
       ·exact og_eq _ rfl (fun f wf hq hd K hK => go_pass (wnt_u rfl rfl rfl (hd 18 rfl)) (hK _ (Mo.refl _)))
       ·exact og_eq _ rfl (fun f wf hq hd K hK => go_pass (wnt_u rfl rfl rfl (hd 18 rfl)) (hK _ (Mo.refl _)))
       ·exact og_eq _ rfl (fun f wf hq hd K hK => go_pass (wnt_u rfl rfl rfl (hd 18 rfl)) (hK _ (Mo.refl _)))
       ·exact og_eq _ rfl (fun f wf hq hd K hK => go_pass (wnt_u rfl rfl rfl (hd 18 rfl)) (hK _ (Mo.refl _)))
       ·exact og_eq _ rfl (fun f wf hq hd K hK => go_pass (wnt_u rfl rfl rfl (hd 18 rfl)) (hK _ (Mo.refl _)))
       ·exact og_eq _ rfl (fun f wf hq hd K hK => go_pass (wnt_g rfl rfl rfl (hd 2 rfl) rfl) (hK _ (Mo.refl _)))
       ·exact og_eq _ rfl (fun f wf hq hd K hK => go_pass (wnt_g rfl rfl rfl (hd 2 rfl) rfl) (hK _ (Mo.refl _)))
       ·exact og_eq _ rfl (fun f wf hq hd K hK => go_pass (wnt_u rfl rfl rfl (hd 36 rfl)) (hK _ (Mo.refl _)))
       ·exact og_eq _ rfl (fun f wf hq hd K hK => go_pass (wnt_u rfl rfl rfl (hd 36 rfl)) (hK _ (Mo.refl _)))
      intro kf41 u41 hq hR hne
      replace M := M.trans hq
      clear hq hR hne
      refine wl_skip rfl (wl_skip rfl (wl_skip rfl (wl_skip rfl (wl_skip rfl ?_))))
      refine wl_pick (.tmp 30) (.tmp 71) (.const (.bool false)) false (.bool false) (fun _ => rfl) rfl rfl rfl ?_
      refine w_nil (xn_then (w_condF rfl (w_skip (xn_blk (xn_then (w_reg ?_))))))
      refine wl_mv (.tmp 3) (.int .i64 ((i : Nat) : Int)) (fun _ => rfl) e40_i rfl ?_
      refine wl_b .add 3 (.tmp 8) (.const (.int .i64 (1))) (.int .i64 ((i : Nat) : Int)) (.int .i64 (1)) (.int .i64 ((i + 1 : Nat) : Int)) (add1r (k := i) (by omega) _ _ _) ?_
      refine wl_m (.tmp 9) (.int .i64 ((i + 1 : Nat) : Int)) ?_
      refine w_nil ?_
      exact xn_loop (L.length - (i + 1)) (by omega) ⟨i + 1, rfl, by omega, e40_0, rfl, (next_sb hS hy (sb_0 (by omega) (by omega) (by omega))), M⟩
    | false =>
     have hf32p := of_decide_eq_false hf32
     refine wl_b .neq 3 (.tmp 24) (.const (.int .i64 (1))) (.int .i64 (y.dp)) (.int .i64 (1)) (.bool true) (ne3 hf32 _ _ _) ?_
     refine wl_pick (.tmp 19) (.const (.bool true)) (.tmp 25) false (.bool true) (fun _ => rfl) rfl rfl rfl ?_
     refine wl_pick (.tmp 12) (.tmp 26) (.const (.bool false)) true (.bool true) (fun _ => rfl) rfl rfl rfl ?_
     refine w_nil (xn_then (w_condT rfl (w_seq (w_reg ?_))))
     refine wl_m (.const (.bool false)) (.bool false) ?_
     refine w_nil (xn_then (w_ret (xr_then (xr_blk (xr_then (xr_then (xr_blk (xr_then ?_))))))))
     exact w_ret1 _ (.bool false) rfl rfl ⟨congrArg (fun v => Ending.returned (.bool v)) (snd_no hy (by rw [Bool.eq_false_iff]; intro h; rcases sb_inv h with ⟨_, h1, h2⟩ | ⟨h0, h1, h2, h3, h4⟩ <;> first | omega)).symm, M⟩
   | false =>
    have hf31p := of_decide_eq_false hf31
    refine wl_b .neq 3 (.tmp 17) (.const (.int .i64 (-1))) (.int .i64 (y.pr)) (.int .i64 (-1)) (.bool true) (ne3 hf31 _ _ _) ?_
    refine wl_m (.tmp 18) (.bool true) ?_
    refine wl_skip rfl (wl_skip rfl (wl_skip rfl (wl_skip rfl (wl_skip rfl (wl_skip rfl ?_)))))
    refine wl_pick (.tmp 19) (.const (.bool true)) (.tmp 25) true (.bool true) (fun _ => rfl) rfl rfl rfl ?_
    refine wl_pick (.tmp 12) (.tmp 26) (.const (.bool false)) true (.bool true) (fun _ => rfl) rfl rfl rfl ?_
    refine w_nil (xn_then (w_condT rfl (w_seq (w_reg ?_))))
    refine wl_m (.const (.bool false)) (.bool false) ?_
    refine w_nil (xn_then (w_ret (xr_then (xr_blk (xr_then (xr_then (xr_blk (xr_then ?_))))))))
    exact w_ret1 _ (.bool false) rfl rfl ⟨congrArg (fun v => Ending.returned (.bool v)) (snd_no hy (by rw [Bool.eq_false_iff]; intro h; rcases sb_inv h with ⟨_, h1, h2⟩ | ⟨h0, h1, h2, h3, h4⟩ <;> first | omega)).symm, M⟩
  | false =>
   have hf30p := of_decide_eq_false hf30
   refine wl_b .eql 3 (.tmp 10) (.const (.int .i64 (0))) (.int .i64 ((i : Nat) : Int)) (.int .i64 (0)) (.bool false) (eq3 hf30 _ _ _) ?_
   refine wl_m (.tmp 11) (.bool false) ?_
   refine wl_skip rfl (wl_skip rfl (wl_skip rfl (wl_skip rfl (wl_skip rfl (wl_skip rfl (wl_skip rfl (wl_skip rfl (wl_skip rfl (wl_skip rfl (wl_skip rfl (wl_skip rfl (wl_skip rfl (wl_skip rfl ?_)))))))))))))
   refine wl_pick (.tmp 12) (.tmp 26) (.const (.bool false)) false (.bool false) (fun _ => rfl) rfl rfl rfl ?_
   refine w_nil (xn_then (w_condF rfl (w_skip (xn_then (w_seq ?_)))))
   cases hf31 : decide (0 < i) with
   | true =>
    have hf31p := of_decide_eq_true hf31
    cases hf32 : decide (y.pr < 0) with
    | true =>
     have hf32p := of_decide_eq_true hf32
     refine w_any 39 [.inl (.int .i64 ((i : Nat) : Int)), .inl (.bool true), .inl (.bool true), .inl (.slice pl L.length cl), .inl (.int .i64 ((i : Nat) : Int)), .inl (pt bp (op + i * 5)), .inl (pt bp (op + i * 5)), .inl (.int .i64 (y.pr)), .inl (.bool true), .inl (.bool true), .inl undef, .inl undef, .inl undef, .inl undef, .inl undef, .inl undef, .inl undef, .inl (.bool true), .inl (.bool true), .inl undef, .inl undef, .inl undef, .inl undef, .inl undef, .inl undef, .inl undef, .inl undef, .inl undef, .inl undef, .inl undef, .inl undef, .inl undef, .inl undef, .inl undef, .inl undef, .inl (.bool true), .inl (.bool true), .inl undef, .inl undef] [] (by kernel_rfl) (by kernel_rfl) (by kernel_rfl) (by kernel_rfl) rfl (by kernel_rfl) (by kernel_rfl) late_nil ?_ ?_ ?_
     ·exact Ds.none rfl
     ·refine ea_cons ?_ (ea_cons ?_ (ea_cons ?_ (ea_cons ?_ (ea_cons ?_ (ea_cons ?_ (ea_cons ?_ (ea_cons ?_ (ea_cons ?_ (ea_cons ?_ (ea_cons ?_ (ea_cons ?_ (ea_cons ?_ (ea_cons ?_ (ea_cons ?_ (ea_cons ?_ (ea_cons ?_ (ea_cons ?_ (ea_cons ?_ (ea_cons ?_ (ea_cons ?_ (ea_cons ?_ (ea_cons ?_ (ea_cons ?_ (ea_cons ?_ (ea_cons ?_ (ea_cons ?_ (ea_cons ?_ (ea_cons ?_ (ea_cons ?_ (ea_cons ?_ (ea_cons ?_ (ea_cons ?_ (ea_cons ?_ (ea_cons ?_ (ea_cons ?_ (ea_cons ?_ (ea_cons ?_ (ea_cons ?_ (ea_nil)))))))))))))))))))))))))))))))))))))))
      ·exact og_eq _ rfl (fun f wf hq hd K hK => go_run rfl (wo_mv (.tmp 3) (.int .i64 ((i : Nat) : Int)) (fun _ => rfl) e40_i (hK _ (Mo.refl _))))
      ·exact og_eq _ rfl (fun f wf hq hd K hK => go_run rfl (wo_bin (fun x y => do eqGuard .gtr 3 (.tmp 28) (.const (.int .i64 (0))) x y; binOp .gtr 3 x y) (.tmp 28) (.const (.int .i64 (0))) (.int .i64 ((i : Nat) : Int)) (.int .i64 (0)) (.bool true) (fun _ => rfl) (hd 0 rfl) rfl (gtN hf31 _ _ _) (hK _ (Mo.refl _))))
      ·exact og_eq _ rfl (fun f wf hq hd K hK => go_run rfl (wo_mv (.tmp 29) (.bool true) (fun _ => rfl) (hd 1 rfl) (hK _ (Mo.refl _))))
      ·exact og_eq _ rfl (fun f wf hq hd K hK => go_run (wnt_g rfl rfl rfl (hd 2 rfl) rfl) (wo_mv (.tmp 0) (.slice pl L.length cl) (fun _ => rfl) e40_0 (hK _ (Mo.refl _))))
      ·exact og_eq _ rfl (fun f wf hq hd K hK => go_run (wnt_g rfl rfl rfl (hd 2 rfl) rfl) (wo_mv (.tmp 3) (.int .i64 ((i : Nat) : Int)) (fun _ => rfl) e40_i (hK _ (Mo.refl _))))
      ·exact og_eq _ rfl (fun f wf hq hd K hK => go_run (wnt_g rfl rfl rfl (hd 2 rfl) rfl) (wo_bin (fun x y => Instr.indexAt 22 x y) (.tmp 31) (.tmp 32) (.slice pl L.length cl) (.int .i64 ((i : Nat) : Int)) (pt bp (op + i * 5)) (fun _ => rfl) (hd 3 rfl) (hd 4 rfl) (ix22 (i := i) hpp hil _) (hK _ (Mo.refl _))))
      ·exact og_eq _ rfl (fun f wf hq hd K hK => go_run (wnt_g rfl rfl rfl (hd 2 rfl) rfl) (wo_un (fun v => Instr.fieldAt 65 v 0) (.tmp 33) (pt bp (op + i * 5)) (pt bp (op + i * 5)) (fun _ => rfl) (hd 5 rfl) (by kernel_rfl) (hK _ (Mo.refl _))))
      ·exact og_eq _ rfl (fun f wf hq hd K hK => go_run (wnt_g rfl rfl rfl (hd 2 rfl) rfl) (wo_load 3 (.tmp 34) (pt bp (op + i * 5)) (.int .i64 (y.pr)) rfl (hd 6 rfl) (D.run_oneR (hRp.mo (M.trans hq)).at' 3 0 rfl Tryd.underlying3 rfl) (hK _ (Mo.refl _))))
      ·exact og_eq _ rfl (fun f wf hq hd K hK => go_run (wnt_g rfl rfl rfl (hd 2 rfl) rfl) (wo_bin (fun x y => do eqGuard .lss 3 (.tmp 35) (.const (.int .i64 (0))) x y; binOp .lss 3 x y) (.tmp 35) (.const (.int .i64 (0))) (.int .i64 (y.pr)) (.int .i64 (0)) (.bool true) (fun _ => rfl) (hd 7 rfl) rfl (lt3 hf32 _ _ _) (hK _ (Mo.refl _))))
      ·exact og_eq _ rfl (fun f wf hq hd K hK => go_run (wnt_g rfl rfl rfl (hd 2 rfl) rfl) (wo_mv (.tmp 36) (.bool true) (fun _ => rfl) (hd 8 rfl) (hK _ (Mo.refl _))))
      ·exact og_eq _ rfl (fun f wf hq hd K hK => go_pass (wnt_g rfl rfl rfl (hd 9 rfl) rfl) (hK _ (Mo.refl _)))
      ·exact og_eq _ rfl (fun f wf hq hd K hK => go_pass (wnt_g rfl rfl rfl (hd 9 rfl) rfl) (hK _ (Mo.refl _)))
      ·exact og_eq _ rfl (fun f wf hq hd K hK => go_pass (wnt_g rfl rfl rfl (hd 9 rfl) rfl) (hK _ (Mo.refl _)))
      ·exact og_eq _ rfl (fun f wf hq hd K hK => go_pass (wnt_g rfl rfl rfl (hd 9 rfl) rfl) (hK _ (Mo.refl _)))
      ·exact og_eq _ rfl (fun f wf hq hd K hK => go_pass (wnt_g rfl rfl rfl (hd 9 rfl) rfl) (hK _ (Mo.refl _)))
      ·exact og_eq _ rfl (fun f wf hq hd K hK => go_pass (wnt_g rfl rfl rfl (hd 9 rfl) rfl) (hK _ (Mo.refl _)))
      ·exact og_eq _ rfl (fun f wf hq hd K hK => go_pass (wnt_g rfl rfl rfl (hd 9 rfl) rfl) (hK _ (Mo.refl _)))
      ·exact og_eq _ rfl (fun f wf hq hd K hK => go_run (wnt_g rfl rfl rfl (hd 2 rfl) rfl) (wo_pick (.tmp 37) (.const (.bool true)) (.tmp 44) true (.bool true) (fun _ => rfl) (hd 9 rfl) rfl (hK _ (Mo.refl _))))
      ·exact og_eq _ rfl (fun f wf hq hd K hK => go_run (wnt_g rfl rfl rfl (hd 2 rfl) rfl) (wo_mv (.tmp 45) (.bool true) (fun _ => rfl) (hd 17 rfl) (hK _ (Mo.refl _))))
      ·exact og_eq _ rfl (fun f wf hq hd K hK => go_pass (wnt_g rfl rfl rfl (hd 18 rfl) rfl) (hK _ (Mo.refl _)))
      ·exact og_eq _ rfl (fun f wf hq hd K hK => go_pass (wnt_g rfl rfl rfl (hd 18 rfl) rfl) (hK _ (Mo.refl _)))
      ·exact og_eq _ rfl (fun f wf hq hd K hK => go_pass (wnt_g rfl rfl rfl (hd 18 rfl) rfl) (hK _ (Mo.refl _)))
      ·exact og_eq _ rfl (fun f wf hq hd K hK => go_pass (wnt_g rfl rfl rfl (hd 18 rfl) rfl) (hK _ (Mo.refl _)))
      ·exact og_eq _ rfl (fun f wf hq hd K hK => go_pass (wnt_g rfl rfl rfl (hd 18 rfl) rfl) (hK _ (Mo.refl _)))
      ·exact og_eq _ rfl (fun f wf hq hd K hK => go_pass (wnt_g rfl rfl rfl (hd 18 rfl) rfl) (hK _ (Mo.refl _)))
      ·exact og_eq _ rfl (fun f wf hq hd K hK => go_pass (wnt_g rfl rfl rfl (hd 18 rfl) rfl) (hK _ (Mo.refl _)))
      ·exact og_eq _ rfl (fun f wf hq hd K hK => go_pass (wnt_g rfl rfl rfl (hd 18 rfl) rfl) (hK _ (Mo.refl _)))
      ·exact og_eq _ rfl (fun f wf hq hd K hK => go_pass (wnt_g rfl rfl rfl (hd 18 rfl) rfl) (hK _ (Mo.refl _)))
      ·exact og_eq _ rfl (fun f wf hq hd K hK => go_pass (wnt_g rfl rfl rfl (hd 18 rfl) rfl) (hK _ (Mo.refl _)))
      ·exact og_eq _ rfl (fun f wf hq hd K hK => go_pass (wnt_g rfl rfl rfl (hd 18 rfl) rfl) (hK _ (Mo.refl _)))
      ·exact og_eq _ rfl (fun f wf hq hd K hK => go_pass (wnt_g rfl rfl rfl (hd 18 rfl) rfl) (hK _ (Mo.refl _)))
      ·exact og_eq _ rfl (fun f wf hq hd K hK => go_pass (wnt_g rfl rfl rfl (hd 18 rfl) rfl) (hK _ (Mo.refl _)))
      ·exact og_eq _ rfl (fun f wf hq hd K hK => go_pass (wnt_g rfl rfl rfl (hd 18 rfl) rfl) (hK _ (Mo.refl _)))
      ·exact og_eq _ rfl (fun f wf hq hd K hK => go_pass (wnt_g rfl rfl rfl (hd 18 rfl) rfl) (hK _ (Mo.refl _)))
      ·exact og_eq _ rfl (fun f wf hq hd K hK => go_pass (wnt_g rfl rfl rfl (hd 18 rfl) rfl) (hK _ (Mo.refl _)))
      ·exact og_eq _ rfl (fun f wf hq hd K hK => go_run (wnt_g rfl rfl rfl (hd 2 rfl) rfl) (wo_pick (.tmp 46) (.const (.bool true)) (.tmp 62) true (.bool true) (fun _ => rfl) (hd 18 rfl) rfl (hK _ (Mo.refl _))))
      ·exact og_eq _ rfl (fun f wf hq hd K hK => go_run (wnt_g rfl rfl rfl (hd 2 rfl) rfl) (wo_mv (.tmp 63) (.bool true) (fun _ => rfl) (hd 35 rfl) (hK _ (Mo.refl _))))
      ·exact og_eq _ rfl (fun f wf hq hd K hK => go_pass (wnt_g rfl rfl rfl (hd 36 rfl) rfl) (hK _ (Mo.refl _)))
      ·exact og_eq _ rfl (fun f wf hq hd K hK => go_pass (wnt_g rfl rfl rfl (hd 36 rfl) rfl) (hK _ (Mo.refl _)))
     intro kf41 u41 hq hR hne
     replace M := M.trans hq
     clear hq hR hne
     refine wl_skip rfl (wl_skip rfl (wl_skip rfl (wl_skip rfl ?_)))
     refine wl_pick (.tmp 64) (.const (.bool true)) (.tmp 70) true (.bool true) (fun _ => rfl) rfl rfl rfl ?_
     refine wl_pick (.tmp 30) (.tmp 71) (.const (.bool false)) true (.bool true) (fun _ => rfl) rfl rfl rfl ?_
     refine w_nil (xn_then (w_condT rfl (w_seq (w_reg ?_))))
     refine wl_m (.const (.bool false)) (.bool false) ?_
     refine w_nil (xn_then (w_ret (xr_blk (xr_then (xr_then (xr_blk (xr_then ?_)))))))
     exact w_ret1 _ (.bool false) rfl rfl ⟨congrArg (fun v => Ending.returned (.bool v)) (snd_no hy (by rw [Bool.eq_false_iff]; intro h; rcases sb_inv h with ⟨_, h1, h2⟩ | ⟨h0, h1, h2, h3, h4⟩ <;> first | omega)).symm, M⟩
    | false =>
     have hf32p := of_decide_eq_false hf32
     cases hf33 : decide (((i : Nat) : Int) ≤ y.pr) with
     | true =>
      have hf33p := of_decide_eq_true hf33
      refine w_any 39 [.inl (.int .i64 ((i : Nat) : Int)), .inl (.bool true), .inl (.bool true), .inl (.slice pl L.length cl), .inl (.int .i64 ((i : Nat) : Int)), .inl (pt bp (op + i * 5)), .inl (pt bp (op + i * 5)), .inl (.int .i64 (y.pr)), .inl (.bool false), .inl (.bool false), .inl (.slice pl L.length cl), .inl (.int .i64 ((i : Nat) : Int)), .inl (pt bp (op + i * 5)), .inl (pt bp (op + i * 5)), .inl (.int .i64 (y.pr)), .inl (.int .i64 ((i : Nat) : Int)), .inl (.bool true), .inl (.bool true), .inl (.bool true), .inl undef, .inl undef, .inl undef, .inl undef, .inl undef, .inl undef, .inl undef, .inl undef, .inl undef, .inl undef, .inl undef, .inl undef, .inl undef, .inl undef, .inl undef, .inl undef, .inl (.bool true), .inl (.bool true), .inl undef, .inl undef] [] (by kernel_rfl) (by kernel_rfl) (by kernel_rfl) (by kernel_rfl) rfl (by kernel_rfl) (by kernel_rfl) late_nil ?_ ?_ ?_
      ·exact Ds.none rfl
      ·refine ea_cons ?_ (ea_cons ?_ (ea_cons ?_ (ea_cons ?_ (ea_cons ?_ (ea_cons ?_ (ea_cons ?_ (ea_cons ?_ (ea_cons ?_ (ea_cons ?_ (ea_cons ?_ (ea_cons ?_ (ea_cons ?_ (ea_cons ?_ (ea_cons ?_ (ea_cons ?_ (ea_cons ?_ (ea_cons ?_ (ea_cons ?_ (ea_cons ?_ (ea_cons ?_ (ea_cons ?_ (ea_cons ?_ (ea_cons ?_ (ea_cons ?_ (ea_cons ?_ (ea_cons ?_ (ea_cons ?_ (ea_cons ?_ (ea_cons ?_ (ea_cons ?_ (ea_cons ?_ (ea_cons ?_ (ea_cons ?_ (ea_cons ?_ (ea_cons ?_ (ea_cons ?_ (ea_cons ?_ (ea_cons ?_ (ea_nil)))))))))))))))))))))))))))))))))))))))
       ·exact og_eq _ rfl (fun f wf hq hd K hK => go_run rfl (wo_mv (.tmp 3) (.int .i64 ((i : Nat) : Int)) (fun _ => rfl) e40_i (hK _ (Mo.refl _))))
       ·exact og_eq _ rfl (fun f wf hq hd K hK => go_run rfl (wo_bin (fun x y => do eqGuard .gtr 3 (.tmp 28) (.const (.int .i64 (0))) x y; binOp .gtr 3 x y) (.tmp 28) (.const (.int .i64 (0))) (.int .i64 ((i : Nat) : Int)) (.int .i64 (0)) (.bool true) (fun _ => rfl) (hd 0 rfl) rfl (gtN hf31 _ _ _) (hK _ (Mo.refl _))))
       ·exact og_eq _ rfl (fun f wf hq hd K hK => go_run rfl (wo_mv (.tmp 29) (.bool true) (fun _ => rfl) (hd 1 rfl) (hK _ (Mo.refl _))))
       ·exact og_eq _ rfl (fun f wf hq hd K hK => go_run (wnt_g rfl rfl rfl (hd 2 rfl) rfl) (wo_mv (.tmp 0) (.slice pl L.length cl) (fun _ => rfl) e40_0 (hK _ (Mo.refl _))))
       ·exact og_eq _ rfl (fun f wf hq hd K hK => go_run (wnt_g rfl rfl rfl (hd 2 rfl) rfl) (wo_mv (.tmp 3) (.int .i64 ((i : Nat) : Int)) (fun _ => rfl) e40_i (hK _ (Mo.refl _))))
       ·exact og_eq _ rfl (fun f wf hq hd K hK => go_run (wnt_g rfl rfl rfl (hd 2 rfl) rfl) (wo_bin (fun x y => Instr.indexAt 22 x y) (.tmp 31) (.tmp 32) (.slice pl L.length cl) (.int .i64 ((i : Nat) : Int)) (pt bp (op + i * 5)) (fun _ => rfl) (hd 3 rfl) (hd 4 rfl) (ix22 (i := i) hpp hil _) (hK _ (Mo.refl _))))
       ·exact og_eq _ rfl (fun f wf hq hd K hK => go_run (wnt_g rfl rfl rfl (hd 2 rfl) rfl) (wo_un (fun v => Instr.fieldAt 65 v 0) (.tmp 33) (pt bp (op + i * 5)) (pt bp (op + i * 5)) (fun _ => rfl) (hd 5 rfl) (by kernel_rfl) (hK _ (Mo.refl _))))
       ·exact og_eq _ rfl (fun f wf hq hd K hK => go_run (wnt_g rfl rfl rfl (hd 2 rfl) rfl) (wo_load 3 (.tmp 34) (pt bp (op + i * 5)) (.int .i64 (y.pr)) rfl (hd 6 rfl) (D.run_oneR (hRp.mo (M.trans hq)).at' 3 0 rfl Tryd.underlying3 rfl) (hK _ (Mo.refl _))))
       ·exact og_eq _ rfl (fun f wf hq hd K hK => go_run (wnt_g rfl rfl rfl (hd 2 rfl) rfl) (wo_bin (fun x y => do eqGuard .lss 3 (.tmp 35) (.const (.int .i64 (0))) x y; binOp .lss 3 x y) (.tmp 35) (.const (.int .i64 (0))) (.int .i64 (y.pr)) (.int .i64 (0)) (.bool false) (fun _ => rfl) (hd 7 rfl) rfl (lt3 hf32 _ _ _) (hK _ (Mo.refl _))))
       ·exact og_eq _ rfl (fun f wf hq hd K hK => go_run (wnt_g rfl rfl rfl (hd 2 rfl) rfl) (wo_mv (.tmp 36) (.bool false) (fun _ => rfl) (hd 8 rfl) (hK _ (Mo.refl _))))
       ·exact og_eq _ rfl (fun f wf hq hd K hK => go_run (wnt_g rfl rfl rfl (hd 9 rfl) rfl) (wo_mv (.tmp 0) (.slice pl L.length cl) (fun _ => rfl) e40_0 (hK _ (Mo.refl _))))
       ·exact og_eq _ rfl (fun f wf hq hd K hK => go_run (wnt_g rfl rfl rfl (hd 9 rfl) rfl) (wo_mv (.tmp 3) (.int .i64 ((i : Nat) : Int)) (fun _ => rfl) e40_i (hK _ (Mo.refl _))))
       ·exact og_eq _ rfl (fun f wf hq hd K hK => go_run (wnt_g rfl rfl rfl (hd 9 rfl) rfl) (wo_bin (fun x y => Instr.indexAt 22 x y) (.tmp 38) (.tmp 39) (.slice pl L.length cl) (.int .i64 ((i : Nat) : Int)) (pt bp (op + i * 5)) (fun _ => rfl) (hd 10 rfl) (hd 11 rfl) (ix22 (i := i) hpp hil _) (hK _ (Mo.refl _))))
       ·exact og_eq _ rfl (fun f wf hq hd K hK => go_run (wnt_g rfl rfl rfl (hd 9 rfl) rfl) (wo_un (fun v => Instr.fieldAt 65 v 0) (.tmp 40) (pt bp (op + i * 5)) (pt bp (op + i * 5)) (fun _ => rfl) (hd 12 rfl) (by kernel_rfl) (hK _ (Mo.refl _))))
       ·exact og_eq _ rfl (fun f wf hq hd K hK => go_run (wnt_g rfl rfl rfl (hd 9 rfl) rfl) (wo_load 3 (.tmp 41) (pt bp (op + i * 5)) (.int .i64 (y.pr)) rfl (hd 13 rfl) (D.run_oneR (hRp.mo (M.trans hq)).at' 3 0 rfl Tryd.underlying3 rfl) (hK _ (Mo.refl _))))
       ·exact og_eq _ rfl (fun f wf hq hd K hK => go_run (wnt_g rfl rfl rfl (hd 9 rfl) rfl) (wo_mv (.tmp 3) (.int .i64 ((i : Nat) : Int)) (fun _ => rfl) e40_i (hK _ (Mo.refl _))))
       ·exact og_eq _ rfl (fun f wf hq hd K hK => go_run (wnt_g rfl rfl rfl (hd 9 rfl) rfl) (wo_bin (fun x y => do eqGuard .geq 3 (.tmp 42) (.tmp 43) x y; binOp .geq 3 x y) (.tmp 42) (.tmp 43) (.int .i64 (y.pr)) (.int .i64 ((i : Nat) : Int)) (.bool true) (fun _ => rfl) (hd 14 rfl) (hd 15 rfl) (ge3 hf33 _ _ _) (hK _ (Mo.refl _))))
       ·exact og_eq _ rfl (fun f wf hq hd K hK => go_run (wnt_g rfl rfl rfl (hd 2 rfl) rfl) (wo_pick (.tmp 37) (.const (.bool true)) (.tmp 44) false (.bool true) (fun _ => rfl) (hd 9 rfl) (hd 16 rfl) (hK _ (Mo.refl _))))
       ·exact og_eq _ rfl (fun f wf hq hd K hK => go_run (wnt_g rfl rfl rfl (hd 2 rfl) rfl) (wo_mv (.tmp 45) (.bool true) (fun _ => rfl) (hd 17 rfl) (hK _ (Mo.refl _))))
       ·exact og_eq _ rfl (fun f wf hq hd K hK => go_pass (wnt_g rfl rfl rfl (hd 18 rfl) rfl) (hK _ (Mo.refl _)))
       ·exact og_eq _ rfl (fun f wf hq hd K hK => go_pass (wnt_g rfl rfl rfl (hd 18 rfl) rfl) (hK _ (Mo.refl _)))
       ·exact og_eq _ rfl (fun f wf hq hd K hK => go_pass (wnt_g rfl rfl rfl (hd 18 rfl) rfl) (hK _ (Mo.refl _)))
       ·exact og_eq _ rfl (fun f wf hq hd K hK => go_pass (wnt_g rfl rfl rfl (hd 18 rfl) rfl) (hK _ (Mo.refl _)))
       ·exact og_eq _ rfl (fun f wf hq hd K hK => go_pass (wnt_g rfl rfl rfl (hd 18 rfl) rfl) (hK _ (Mo.refl _)))
       ·exact og_eq _ rfl (fun f wf hq hd K hK => go_pass (wnt_g rfl rfl rfl (hd 18 rfl) rfl) (hK _ (Mo.refl _)))
       ·exact og_eq _ rfl (fun f wf hq hd K hK => go_pass (wnt_g rfl rfl rfl (hd 18 rfl) rfl) (hK _ (Mo.refl _)))
       ·exact og_eq _ rfl (fun f wf hq hd K hK => go_pass (wnt_g rfl rfl rfl (hd 18 rfl) rfl) (hK _ (Mo.refl _)))
       ·exact og_eq _ rfl (fun f wf hq hd K hK => go_pass (wnt_g rfl rfl rfl (hd 18 rfl) rfl) (hK _ (Mo.refl _)))
       ·exact og_eq _ rfl (fun f wf hq hd K hK => go_pass (wnt_g rfl rfl rfl (hd 18 rfl) rfl) (hK _ (Mo.refl _)))
       ·exact og_eq _ rfl (fun f wf hq hd K hK => go_pass (wnt_g rfl rfl rfl (hd 18 rfl) rfl) (hK _ (Mo.refl _)))
       ·exact og_eq _ rfl (fun f wf hq hd K hK => go_pass (wnt_g rfl rfl rfl (hd 18 rfl) rfl) (hK _ (Mo.refl _)))
       ·exact og_eq _ rfl (fun f wf hq hd K hK => go_pass (wnt_g rfl rfl rfl (hd 18 rfl) rfl) (hK _ (Mo.refl _)))
       ·exact og_eq _ rfl (fun f wf hq hd K hK => go_pass (wnt_g rfl rfl rfl (hd 18 rfl) rfl) (hK _ (Mo.refl _)))
       ·exact og_eq _ rfl (fun f wf hq hd K hK => go_pass (wnt_g rfl rfl rfl (hd 18 rfl) rfl) (hK _ (Mo.refl _)))
       ·exact og_eq _ rfl (fun f wf hq hd K hK => go_pass (wnt_g rfl rfl rfl (hd 18 rfl) rfl) (hK _ (Mo.refl _)))
       ·exact og_eq _ rfl (fun f wf hq hd K hK => go_run (wnt_g rfl rfl rfl (hd 2 rfl) rfl) (wo_pick (.tmp 46) (.const (.bool true)) (.tmp 62) true (.bool true) (fun _ => rfl) (hd 18 rfl) rfl (hK _ (Mo.refl _))))
       ·exact og_eq _ rfl (fun f wf hq hd K hK => go_run (wnt_g rfl rfl rfl (hd 2 rfl) rfl) (wo_mv (.tmp 63) (.bool true) (fun _ => rfl) (hd 35 rfl) (hK _ (Mo.refl _))))
       ·exact og_eq _ rfl (fun f wf hq hd K hK => go_pass (wnt_g rfl rfl rfl (hd 36 rfl) rfl) (hK _ (Mo.refl _)))
       ·exact og_eq _ rfl (fun f wf hq hd K hK => go_pass (wnt_g rfl rfl rfl (hd 36 rfl) rfl) (hK _ (Mo.refl _)))
      intro kf41 u41 hq hR hne
      replace M := M.trans hq
      clear hq hR hne
      refine wl_skip rfl (wl_skip rfl (wl_skip rfl (wl_skip rfl ?_)))
      refine wl_pick (.tmp 64) (.const (.bool true)) (.tmp 70) true (.bool true) (fun _ => rfl) rfl rfl rfl ?_
      refine wl_pick (.tmp 30) (.tmp 71) (.const (.bool false)) true (.bool true) (fun _ => rfl) rfl rfl rfl ?_
      refine w_nil (xn_then (w_condT rfl (w_seq (w_reg ?_))))
      refine wl_m (.const (.bool false)) (.bool false) ?_
      refine w_nil (xn_then (w_ret (xr_blk (xr_then (xr_then (xr_blk (xr_then ?_)))))))
      exact w_ret1 _ (.bool false) rfl rfl ⟨congrArg (fun v => Ending.returned (.bool v)) (snd_no hy (by rw [Bool.eq_false_iff]; intro h; rcases sb_inv h with ⟨_, h1, h2⟩ | ⟨h0, h1, h2, h3, h4⟩ <;> first | omega)).symm, M⟩
     | false =>
      have hf33p := of_decide_eq_false hf33
      cases hf34 : decide (y.dp = p.dp + 1) with
      | true =>
       have hf34p := of_decide_eq_true hf34
       cases hf35 : decide (4 < y.dp) with
       | true =>
        have hf35p := of_decide_eq_true hf35
        have hp := hp9 (by omega)
        have hlp := lt_of_get hp
        obtain ⟨bq, oq, hpq, hRq⟩ := D.SL.rw hL.sl hp
        have hdp := dp_rg hS y.pr.toNat (by omega) p hp
        refine w_any 39 [.inl (.int .i64 ((i : Nat) : Int)), .inl (.bool true), .inl (.bool true), .inl (.slice pl L.length cl), .inl (.int .i64 ((i : Nat) : Int)), .inl (pt bp (op + i * 5)), .inl (pt bp (op + i * 5)), .inl (.int .i64 (y.pr)), .inl (.bool false), .inl (.bool false), .inl (.slice pl L.length cl), .inl (.int .i64 ((i : Nat) : Int)), .inl (pt bp (op + i * 5)), .inl (pt bp (op + i * 5)), .inl (.int .i64 (y.pr)), .inl (.int .i64 ((i : Nat) : Int)), .inl (.bool false), .inl (.bool false), .inl (.bool false), .inl (.slice pl L.length cl), .inl (.int .i64 ((i : Nat) : Int)), .inl (pt bp (op + i * 5)), .inl (pt bp (op + i * 5 + 1)), .inl (.int .i64 (y.dp)), .inl (.slice pl L.length cl), .inl (.slice pl L.length cl), .inl (.int .i64 ((i : Nat) : Int)), .inl (pt bp (op + i * 5)), .inl (pt bp (op + i * 5)), .inl (.int .i64 (y.pr)), .inl (pt bq (oq + y.pr.toNat * 5)), .inl (pt bq (oq + y.pr.toNat * 5 + 1)), .inl (.int .i64 (p.dp)), .inl (.int .i64 (p.dp + 1)), .inl (.bool false), .inl (.bool false), .inl (.bool false), .inl (.slice pl L.length cl), .inl (.int .i64 ((i : Nat) : Int))] [] (by kernel_rfl) (by kernel_rfl) (by kernel_rfl) (by kernel_rfl) rfl (by kernel_rfl) (by kernel_rfl) late_nil ?_ ?_ ?_
        ·exact Ds.none rfl
        ·refine ea_cons ?_ (ea_cons ?_ (ea_cons ?_ (ea_cons ?_ (ea_cons ?_ (ea_cons ?_ (ea_cons ?_ (ea_cons ?_ (ea_cons ?_ (ea_cons ?_ (ea_cons ?_ (ea_cons ?_ (ea_cons ?_ (ea_cons ?_ (ea_cons ?_ (ea_cons ?_ (ea_cons ?_ (ea_cons ?_ (ea_cons ?_ (ea_cons ?_ (ea_cons ?_ (ea_cons ?_ (ea_cons ?_ (ea_cons ?_ (ea_cons ?_ (ea_cons ?_ (ea_cons ?_ (ea_cons ?_ (ea_cons ?_ (ea_cons ?_ (ea_cons ?_ (ea_cons ?_ (ea_cons ?_ (ea_cons ?_ (ea_cons ?_ (ea_cons ?_ (ea_cons ?_ (ea_cons ?_ (ea_cons ?_ (ea_nil)))))))))))))))))))))))))))))))))))))))
         ·exact og_eq _ rfl (fun f wf hq hd K hK => go_run rfl (wo_mv (.tmp 3) (.int .i64 ((i : Nat) : Int)) (fun _ => rfl) e40_i (hK _ (Mo.refl _))))
         ·exact og_eq _ rfl (fun f wf hq hd K hK => go_run rfl (wo_bin (fun x y => do eqGuard .gtr 3 (.tmp 28) (.const (.int .i64 (0))) x y; binOp .gtr 3 x y) (.tmp 28) (.const (.int .i64 (0))) (.int .i64 ((i : Nat) : Int)) (.int .i64 (0)) (.bool true) (fun _ => rfl) (hd 0 rfl) rfl (gtN hf31 _ _ _) (hK _ (Mo.refl _))))
         ·exact og_eq _ rfl (fun f wf hq hd K hK => go_run rfl (wo_mv (.tmp 29) (.bool true) (fun _ => rfl) (hd 1 rfl) (hK _ (Mo.refl _))))
         ·exact og_eq _ rfl (fun f wf hq hd K hK => go_run (wnt_g rfl rfl rfl (hd 2 rfl) rfl) (wo_mv (.tmp 0) (.slice pl L.length cl) (fun _ => rfl) e40_0 (hK _ (Mo.refl _))))
         ·exact og_eq _ rfl (fun f wf hq hd K hK => go_run (wnt_g rfl rfl rfl (hd 2 rfl) rfl) (wo_mv (.tmp 3) (.int .i64 ((i : Nat) : Int)) (fun _ => rfl) e40_i (hK _ (Mo.refl _))))
         ·exact og_eq _ rfl (fun f wf hq hd K hK => go_run (wnt_g rfl rfl rfl (hd 2 rfl) rfl) (wo_bin (fun x y => Instr.indexAt 22 x y) (.tmp 31) (.tmp 32) (.slice pl L.length cl) (.int .i64 ((i : Nat) : Int)) (pt bp (op + i * 5)) (fun _ => rfl) (hd 3 rfl) (hd 4 rfl) (ix22 (i := i) hpp hil _) (hK _ (Mo.refl _))))
         ·exact og_eq _ rfl (fun f wf hq hd K hK => go_run (wnt_g rfl rfl rfl (hd 2 rfl) rfl) (wo_un (fun v => Instr.fieldAt 65 v 0) (.tmp 33) (pt bp (op + i * 5)) (pt bp (op + i * 5)) (fun _ => rfl) (hd 5 rfl) (by kernel_rfl) (hK _ (Mo.refl _))))
         ·exact og_eq _ rfl (fun f wf hq hd K hK => go_run (wnt_g rfl rfl rfl (hd 2 rfl) rfl) (wo_load 3 (.tmp 34) (pt bp (op + i * 5)) (.int .i64 (y.pr)) rfl (hd 6 rfl) (D.run_oneR (hRp.mo (M.trans hq)).at' 3 0 rfl Tryd.underlying3 rfl) (hK _ (Mo.refl _))))
         ·exact og_eq _ rfl (fun f wf hq hd K hK => go_run (wnt_g rfl rfl rfl (hd 2 rfl) rfl) (wo_bin (fun x y => do eqGuard .lss 3 (.tmp 35) (.const (.int .i64 (0))) x y; binOp .lss 3 x y) (.tmp 35) (.const (.int .i64 (0))) (.int .i64 (y.pr)) (.int .i64 (0)) (.bool false) (fun _ => rfl) (hd 7 rfl) rfl (lt3 hf32 _ _ _) (hK _ (Mo.refl _))))
         ·exact og_eq _ rfl (fun f wf hq hd K hK => go_run (wnt_g rfl rfl rfl (hd 2 rfl) rfl) (wo_mv (.tmp 36) (.bool false) (fun _ => rfl) (hd 8 rfl) (hK _ (Mo.refl _))))
         ·exact og_eq _ rfl (fun f wf hq hd K hK => go_run (wnt_g rfl rfl rfl (hd 9 rfl) rfl) (wo_mv (.tmp 0) (.slice pl L.length cl) (fun _ => rfl) e40_0 (hK _ (Mo.refl _))))
         ·exact og_eq _ rfl (fun f wf hq hd K hK => go_run (wnt_g rfl rfl rfl (hd 9 rfl) rfl) (wo_mv (.tmp 3) (.int .i64 ((i : Nat) : Int)) (fun _ => rfl) e40_i (hK _ (Mo.refl _))))
         ·exact og_eq _ rfl (fun f wf hq hd K hK => go_run (wnt_g rfl rfl rfl (hd 9 rfl) rfl) (wo_bin (fun x y => Instr.indexAt 22 x y) (.tmp 38) (.tmp 39) (.slice pl L.length cl) (.int .i64 ((i : Nat) : Int)) (pt bp (op + i * 5)) (fun _ => rfl) (hd 10 rfl) (hd 11 rfl) (ix22 (i := i) hpp hil _) (hK _ (Mo.refl _))))
         ·exact og_eq _ rfl (fun f wf hq hd K hK => go_run (wnt_g rfl rfl rfl (hd 9 rfl) rfl) (wo_un (fun v => Instr.fieldAt 65 v 0) (.tmp 40) (pt bp (op + i * 5)) (pt bp (op + i * 5)) (fun _ => rfl) (hd 12 rfl) (by kernel_rfl) (hK _ (Mo.refl _))))
         ·exact og_eq _ rfl (fun f wf hq hd K hK => go_run (wnt_g rfl rfl rfl (hd 9 rfl) rfl) (wo_load 3 (.tmp 41) (pt bp (op + i * 5)) (.int .i64 (y.pr)) rfl (hd 13 rfl) (D.run_oneR (hRp.mo (M.trans hq)).at' 3 0 rfl Tryd.underlying3 rfl) (hK _ (Mo.refl _))))
         ·exact og_eq _ rfl (fun f wf hq hd K hK => go_run (wnt_g rfl rfl rfl (hd 9 rfl) rfl) (wo_mv (.tmp 3) (.int .i64 ((i : Nat) : Int)) (fun _ => rfl) e40_i (hK _ (Mo.refl _))))
         ·exact og_eq _ rfl (fun f wf hq hd K hK => go_run (wnt_g rfl rfl rfl (hd 9 rfl) rfl) (wo_bin (fun x y => do eqGuard .geq 3 (.tmp 42) (.tmp 43) x y; binOp .geq 3 x y) (.tmp 42) (.tmp 43) (.int .i64 (y.pr)) (.int .i64 ((i : Nat) : Int)) (.bool false) (fun _ => rfl) (hd 14 rfl) (hd 15 rfl) (ge3 hf33 _ _ _) (hK _ (Mo.refl _))))
         ·exact og_eq _ rfl (fun f wf hq hd K hK => go_run (wnt_g rfl rfl rfl (hd 2 rfl) rfl) (wo_pick (.tmp 37) (.const (.bool true)) (.tmp 44) false (.bool false) (fun _ => rfl) (hd 9 rfl) (hd 16 rfl) (hK _ (Mo.refl _))))
         ·exact og_eq _ rfl (fun f wf hq hd K hK => go_run (wnt_g rfl rfl rfl (hd 2 rfl) rfl) (wo_mv (.tmp 45) (.bool false) (fun _ => rfl) (hd 17 rfl) (hK _ (Mo.refl _))))
         ·exact og_eq _ rfl (fun f wf hq hd K hK => go_run (wnt_g rfl rfl rfl (hd 18 rfl) rfl) (wo_mv (.tmp 0) (.slice pl L.length cl) (fun _ => rfl) e40_0 (hK _ (Mo.refl _))))
         ·exact og_eq _ rfl (fun f wf hq hd K hK => go_run (wnt_g rfl rfl rfl (hd 18 rfl) rfl) (wo_mv (.tmp 3) (.int .i64 ((i : Nat) : Int)) (fun _ => rfl) e40_i (hK _ (Mo.refl _))))
         ·exact og_eq _ rfl (fun f wf hq hd K hK => go_run (wnt_g rfl rfl rfl (hd 18 rfl) rfl) (wo_bin (fun x y => Instr.indexAt 22 x y) (.tmp 47) (.tmp 48) (.slice pl L.length cl) (.int .i64 ((i : Nat) : Int)) (pt bp (op + i * 5)) (fun _ => rfl) (hd 19 rfl) (hd 20 rfl) (ix22 (i := i) hpp hil _) (hK _ (Mo.refl _))))
         ·exact og_eq _ rfl (fun f wf hq hd K hK => go_run (wnt_g rfl rfl rfl (hd 18 rfl) rfl) (wo_un (fun v => Instr.fieldAt 65 v 1) (.tmp 49) (pt bp (op + i * 5)) (pt bp (op + i * 5 + 1)) (fun _ => rfl) (hd 21 rfl) (by kernel_rfl) (hK _ (Mo.refl _))))
         ·exact og_eq _ rfl (fun f wf hq hd K hK => go_run (wnt_g rfl rfl rfl (hd 18 rfl) rfl) (wo_load 3 (.tmp 50) (pt bp (op + i * 5 + 1)) (.int .i64 (y.dp)) rfl (hd 22 rfl) (D.run_oneR (hRp.mo (M.trans hq)).at' 3 1 rfl Tryd.underlying3 rfl) (hK _ (Mo.refl _))))
         ·exact og_eq _ rfl (fun f wf hq hd K hK => go_run (wnt_g rfl rfl rfl (hd 18 rfl) rfl) (wo_mv (.tmp 0) (.slice pl L.length cl) (fun _ => rfl) e40_0 (hK _ (Mo.refl _))))
         ·exact og_eq _ rfl (fun f wf hq hd K hK => go_run (wnt_g rfl rfl rfl (hd 18 rfl) rfl) (wo_mv (.tmp 0) (.slice pl L.length cl) (fun _ => rfl) e40_0 (hK _ (Mo.refl _))))
         ·exact og_eq _ rfl (fun f wf hq hd K hK => go_run (wnt_g rfl rfl rfl (hd 18 rfl) rfl) (wo_mv (.tmp 3) (.int .i64 ((i : Nat) : Int)) (fun _ => rfl) e40_i (hK _ (Mo.refl _))))
         ·exact og_eq _ rfl (fun f wf hq hd K hK => go_run (wnt_g rfl rfl rfl (hd 18 rfl) rfl) (wo_bin (fun x y => Instr.indexAt 22 x y) (.tmp 53) (.tmp 54) (.slice pl L.length cl) (.int .i64 ((i : Nat) : Int)) (pt bp (op + i * 5)) (fun _ => rfl) (hd 25 rfl) (hd 26 rfl) (ix22 (i := i) hpp hil _) (hK _ (Mo.refl _))))
         ·exact og_eq _ rfl (fun f wf hq hd K hK => go_run (wnt_g rfl rfl rfl (hd 18 rfl) rfl) (wo_un (fun v => Instr.fieldAt 65 v 0) (.tmp 55) (pt bp (op + i * 5)) (pt bp (op + i * 5)) (fun _ => rfl) (hd 27 rfl) (by kernel_rfl) (hK _ (Mo.refl _))))
         ·exact og_eq _ rfl (fun f wf hq hd K hK => go_run (wnt_g rfl rfl rfl (hd 18 rfl) rfl) (wo_load 3 (.tmp 56) (pt bp (op + i * 5)) (.int .i64 (y.pr)) rfl (hd 28 rfl) (D.run_oneR (hRp.mo (M.trans hq)).at' 3 0 rfl Tryd.underlying3 rfl) (hK _ (Mo.refl _))))
         ·exact og_eq _ rfl (fun f wf hq hd K hK => go_run (wnt_g rfl rfl rfl (hd 18 rfl) rfl) (wo_bin (fun x y => Instr.indexAt 22 x y) (.tmp 52) (.tmp 57) (.slice pl L.length cl) (.int .i64 (y.pr)) (pt bq (oq + y.pr.toNat * 5)) (fun _ => rfl) (hd 24 rfl) (hd 29 rfl) (ix22I (Int.not_lt.1 hf32p) hpq hlp _) (hK _ (Mo.refl _))))
         ·exact og_eq _ rfl (fun f wf hq hd K hK => go_run (wnt_g rfl rfl rfl (hd 18 rfl) rfl) (wo_un (fun v => Instr.fieldAt 65 v 1) (.tmp 58) (pt bq (oq + y.pr.toNat * 5)) (pt bq (oq + y.pr.toNat * 5 + 1)) (fun _ => rfl) (hd 30 rfl) (by kernel_rfl) (hK _ (Mo.refl _))))
         ·exact og_eq _ rfl (fun f wf hq hd K hK => go_run (wnt_g rfl rfl rfl (hd 18 rfl) rfl) (wo_load 3 (.tmp 59) (pt bq (oq + y.pr.toNat * 5 + 1)) (.int .i64 (p.dp)) rfl (hd 31 rfl) (D.run_oneR (hRq.mo (M.trans hq)).at' 3 1 rfl Tryd.underlying3 rfl) (hK _ (Mo.refl _))))
         ·exact og_eq _ rfl (fun f wf hq hd K hK => go_run (wnt_g rfl rfl rfl (hd 18 rfl) rfl) (wo_bin (fun x y => do eqGuard .add 3 (.tmp 60) (.const (.int .i64 (1))) x y; binOp .add 3 x y) (.tmp 60) (.const (.int .i64 (1))) (.int .i64 (p.dp)) (.int .i64 (1)) (.int .i64 (p.dp + 1)) (fun _ => rfl) (hd 32 rfl) rfl (add1i (k := p.dp) (by omega) (by omega) _ _ _) (hK _ (Mo.refl _))))
         ·exact og_eq _ rfl (fun f wf hq hd K hK => go_run (wnt_g rfl rfl rfl (hd 18 rfl) rfl) (wo_bin (fun x y => do eqGuard .neq 3 (.tmp 51) (.tmp 61) x y; binOp .neq 3 x y) (.tmp 51) (.tmp 61) (.int .i64 (y.dp)) (.int .i64 (p.dp + 1)) (.bool false) (fun _ => rfl) (hd 23 rfl) (hd 33 rfl) (ne3 hf34 _ _ _) (hK _ (Mo.refl _))))
         ·exact og_eq _ rfl (fun f wf hq hd K hK => go_run (wnt_g rfl rfl rfl (hd 2 rfl) rfl) (wo_pick (.tmp 46) (.const (.bool true)) (.tmp 62) false (.bool false) (fun _ => rfl) (hd 18 rfl) (hd 34 rfl) (hK _ (Mo.refl _))))
         ·exact og_eq _ rfl (fun f wf hq hd K hK => go_run (wnt_g rfl rfl rfl (hd 2 rfl) rfl) (wo_mv (.tmp 63) (.bool false) (fun _ => rfl) (hd 35 rfl) (hK _ (Mo.refl _))))
         ·exact og_eq _ rfl (fun f wf hq hd K hK => go_run (wnt_g rfl rfl rfl (hd 36 rfl) rfl) (wo_mv (.tmp 0) (.slice pl L.length cl) (fun _ => rfl) e40_0 (hK _ (Mo.refl _))))
         ·exact og_eq _ rfl (fun f wf hq hd K hK => go_run (wnt_g rfl rfl rfl (hd 36 rfl) rfl) (wo_mv (.tmp 3) (.int .i64 ((i : Nat) : Int)) (fun _ => rfl) e40_i (hK _ (Mo.refl _))))
        intro kf41 u41 hq hR hne
        replace M := M.trans hq
        clear hq hR hne
        refine wl_bin (fun x y => Instr.indexAt 22 x y) (.tmp 65) (.tmp 66) (.slice pl L.length cl) (.int .i64 ((i : Nat) : Int)) (pt bp (op + i * 5)) (fun _ => rfl) rfl rfl (ix22 (i := i) hpp hil _) rfl ?_
        refine wl_f 65 1 (.tmp 67) (pt bp (op + i * 5)) (pt bp (op + i * 5 + 1)) ?_
        refine wl_l 3 (.tmp 68) (pt bp (op + i * 5 + 1)) (.int .i64 (y.dp)) (D.run_oneR (hRp.mo M).at' 3 1 rfl Tryd.underlying3 rfl) ?_
        refine wl_b .gtr 3 (.tmp 69) (.const (.int .i64 (4))) (.int .i64 (y.dp)) (.int .i64 (4)) (.bool true) (gt3 hf35 _ _ _) ?_
        refine wl_pick (.tmp 64) (.const (.bool true)) (.tmp 70) false (.bool true) (fun _ => rfl) rfl rfl rfl ?_
        refine wl_pick (.tmp 30) (.tmp 71) (.const (.bool false)) true (.bool true) (fun _ => rfl) rfl rfl rfl ?_
        refine w_nil (xn_then (w_condT rfl (w_seq (w_reg ?_))))
        refine wl_m (.const (.bool false)) (.bool false) ?_
        refine w_nil (xn_then (w_ret (xr_blk (xr_then (xr_then (xr_blk (xr_then ?_)))))))
        exact w_ret1 _ (.bool false) rfl rfl ⟨congrArg (fun v => Ending.returned (.bool v)) (snd_no hy (by rw [Bool.eq_false_iff]; intro h; rcases sb_inv h with ⟨_, h1, h2⟩ | ⟨h0, h1, h2, h3, h4⟩ <;> first | omega | (rw [dpA_at hp] at h3; omega))).symm, M⟩
       | false =>
        have hf35p := of_decide_eq_false hf35
        have hp := hp9 (by omega)
        have hlp := lt_of_get hp
        obtain ⟨bq, oq, hpq, hRq⟩ := D.SL.rw hL.sl hp
        have hdp := dp_rg hS y.pr.toNat (by omega) p hp
        refine w_any 39 [.inl (.int .i64 ((i : Nat) : Int)), .inl (.bool true), .inl (.bool true), .inl (.slice pl L.length cl), .inl (.int .i64 ((i : Nat) : Int)), .inl (pt bp (op + i * 5)), .inl (pt bp (op + i * 5)), .inl (.int .i64 (y.pr)), .inl (.bool false), .inl (.bool false), .inl (.slice pl L.length cl), .inl (.int .i64 ((i : Nat) : Int)), .inl (pt bp (op + i * 5)), .inl (pt bp (op + i * 5)), .inl (.int .i64 (y.pr)), .inl (.int .i64 ((i : Nat) : Int)), .inl (.bool false), .inl (.bool false), .inl (.bool false), .inl (.slice pl L.length cl), .inl (.int .i64 ((i : Nat) : Int)), .inl (pt bp (op + i * 5)), .inl (pt bp (op + i * 5 + 1)), .inl (.int .i64 (y.dp)), .inl (.slice pl L.length cl), .inl (.slice pl L.length cl), .inl (.int .i64 ((i : Nat) : Int)), .inl (pt bp (op + i * 5)), .inl (pt bp (op + i * 5)), .inl (.int .i64 (y.pr)), .inl (pt bq (oq + y.pr.toNat * 5)), .inl (pt bq (oq + y.pr.toNat * 5 + 1)), .inl (.int .i64 (p.dp)), .inl (.int .i64 (p.dp + 1)), .inl (.bool false), .inl (.bool false), .inl (.bool false), .inl (.slice pl L.length cl), .inl (.int .i64 ((i : Nat) : Int))] [] (by kernel_rfl) (by kernel_rfl) (by kernel_rfl) (by kernel_rfl) rfl (by kernel_rfl) (by kernel_rfl) late_nil ?_ ?_ ?_
        ·exact Ds.none rfl
        ·refine ea_cons ?_ (ea_cons ?_ (ea_cons ?_ (ea_cons ?_ (ea_cons ?_ (ea_cons ?_ (ea_cons ?_ (ea_cons ?_ (ea_cons ?_ (ea_cons ?_ (ea_cons ?_ (ea_cons ?_ (ea_cons ?_ (ea_cons ?_ (ea_cons ?_ (ea_cons ?_ (ea_cons ?_ (ea_cons ?_ (ea_cons ?_ (ea_cons ?_ (ea_cons ?_ (ea_cons ?_ (ea_cons ?_ (ea_cons ?_ (ea_cons ?_ (ea_cons ?_ (ea_cons ?_ (ea_cons ?_ (ea_cons ?_ (ea_cons ?_ (ea_cons ?_ (ea_cons ?_ (ea_cons ?_ (ea_cons ?_ (ea_cons ?_ (ea_cons ?_ (ea_cons ?_ (ea_cons ?_ (ea_cons ?_ (ea_nil)))))))))))))))))))))))))))))))))))))))
         ·exact og_eq _ rfl (fun f wf hq hd K hK => go_run rfl (wo_mv (.tmp 3) (.int .i64 ((i : Nat) : Int)) (fun _ => rfl) e40_i (hK _ (Mo.refl _))))
         ·exact og_eq _ rfl (fun f wf hq hd K hK => go_run rfl (wo_bin (fun x y => do eqGuard .gtr 3 (.tmp 28) (.const (.int .i64 (0))) x y; binOp .gtr 3 x y) (.tmp 28) (.const (.int .i64 (0))) (.int .i64 ((i : Nat) : Int)) (.int .i64 (0)) (.bool true) (fun _ => rfl) (hd 0 rfl) rfl (gtN hf31 _ _ _) (hK _ (Mo.refl _))))
         ·exact og_eq _ rfl (fun f wf hq hd K hK => go_run rfl (wo_mv (.tmp 29) (.bool true) (fun _ => rfl) (hd 1 rfl) (hK _ (Mo.refl _))))
         ·exact og_eq _ rfl (fun f wf hq hd K hK => go_run (wnt_g rfl rfl rfl (hd 2 rfl) rfl) (wo_mv (.tmp 0) (.slice pl L.length cl) (fun _ => rfl) e40_0 (hK _ (Mo.refl _))))
         ·exact og_eq _ rfl (fun f wf hq hd K hK => go_run (wnt_g rfl rfl rfl (hd 2 rfl) rfl) (wo_mv (.tmp 3) (.int .i64 ((i : Nat) : Int)) (fun _ => rfl) e40_i (hK _ (Mo.refl _))))
         ·exact og_eq _ rfl (fun f wf hq hd K hK => go_run (wnt_g rfl rfl rfl (hd 2 rfl) rfl) (wo_bin (fun x y => Instr.indexAt 22 x y) (.tmp 31) (.tmp 32) (.slice pl L.length cl) (.int .i64 ((i : Nat) : Int)) (pt bp (op + i * 5)) (fun _ => rfl) (hd 3 rfl) (hd 4 rfl) (ix22 (i := i) hpp hil _) (hK _ (Mo.refl _))))
         ·exact og_eq _ rfl (fun f wf hq hd K hK => go_run (wnt_g rfl rfl rfl (hd 2 rfl) rfl) (wo_un (fun v => Instr.fieldAt 65 v 0) (.tmp 33) (pt bp (op + i * 5)) (pt bp (op + i * 5)) (fun _ => rfl) (hd 5 rfl) (by kernel_rfl) (hK _ (Mo.refl _))))
         ·exact og_eq _ rfl (fun f wf hq hd K hK => go_run (wnt_g rfl rfl rfl (hd 2 rfl) rfl) (wo_load 3 (.tmp 34) (pt bp (op + i * 5)) (.int .i64 (y.pr)) rfl (hd 6 rfl) (D.run_oneR (hRp.mo (M.trans hq)).at' 3 0 rfl Tryd.underlying3 rfl) (hK _ (Mo.refl _))))
         ·exact og_eq _ rfl (fun f wf hq hd K hK => go_run (wnt_g rfl rfl rfl (hd 2 rfl) rfl) (wo_bin (fun x y => do eqGuard .lss 3 (.tmp 35) (.const (.int .i64 (0))) x y; binOp .lss 3 x y) (.tmp 35) (.const (.int .i64 (0))) (.int .i64 (y.pr)) (.int .i64 (0)) (.bool false) (fun _ => rfl) (hd 7 rfl) rfl (lt3 hf32 _ _ _) (hK _ (Mo.refl _))))
         ·exact og_eq _ rfl (fun f wf hq hd K hK => go_run (wnt_g rfl rfl rfl (hd 2 rfl) rfl) (wo_mv (.tmp 36) (.bool false) (fun _ => rfl) (hd 8 rfl) (hK _ (Mo.refl _))))
         ·exact og_eq _ rfl (fun f wf hq hd K hK => go_run (wnt_g rfl rfl rfl (hd 9 rfl) rfl) (wo_mv (.tmp 0) (.slice pl L.length cl) (fun _ => rfl) e40_0 (hK _ (Mo.refl _))))
         ·exact og_eq _ rfl (fun f wf hq hd K hK => go_run (wnt_g rfl rfl rfl (hd 9 rfl) rfl) (wo_mv (.tmp 3) (.int .i64 ((i : Nat) : Int)) (fun _ => rfl) e40_i (hK _ (Mo.refl _))))
         ·exact og_eq _ rfl (fun f wf hq hd K hK => go_run (wnt_g rfl rfl rfl (hd 9 rfl) rfl) (wo_bin (fun x y => Instr.indexAt 22 x y) (.tmp 38) (.tmp 39) (.slice pl L.length cl) (.int .i64 ((i : Nat) : Int)) (pt bp (op + i * 5)) (fun _ => rfl) (hd 10 rfl) (hd 11 rfl) (ix22 (i := i) hpp hil _) (hK _ (Mo.refl _))))
         ·exact og_eq _ rfl (fun f wf hq hd K hK => go_run (wnt_g rfl rfl rfl (hd 9 rfl) rfl) (wo_un (fun v => Instr.fieldAt 65 v 0) (.tmp 40) (pt bp (op + i * 5)) (pt bp (op + i * 5)) (fun _ => rfl) (hd 12 rfl) (by kernel_rfl) (hK _ (Mo.refl _))))
         ·exact og_eq _ rfl (fun f wf hq hd K hK => go_run (wnt_g rfl rfl rfl (hd 9 rfl) rfl) (wo_load 3 (.tmp 41) (pt bp (op + i * 5)) (.int .i64 (y.pr)) rfl (hd 13 rfl) (D.run_oneR (hRp.mo (M.trans hq)).at' 3 0 rfl Tryd.underlying3 rfl) (hK _ (Mo.refl _))))
         ·exact og_eq _ rfl (fun f wf hq hd K hK => go_run (wnt_g rfl rfl rfl (hd 9 rfl) rfl) (wo_mv (.tmp 3) (.int .i64 ((i : Nat) : Int)) (fun _ => rfl) e40_i (hK _ (Mo.refl _))))
         ·exact og_eq _ rfl (fun f wf hq hd K hK => go_run (wnt_g rfl rfl rfl (hd 9 rfl) rfl) (wo_bin (fun x y => do eqGuard .geq 3 (.tmp 42) (.tmp 43) x y; binOp .geq 3 x y) (.tmp 42) (.tmp 43) (.int .i64 (y.pr)) (.int .i64 ((i : Nat) : Int)) (.bool false) (fun _ => rfl) (hd 14 rfl) (hd 15 rfl) (ge3 hf33 _ _ _) (hK _ (Mo.refl _))))
         ·exact og_eq _ rfl (fun f wf hq hd K hK => go_run (wnt_g rfl rfl rfl (hd 2 rfl) rfl) (wo_pick (.tmp 37) (.const (.bool true)) (.tmp 44) false (.bool false) (fun _ => rfl) (hd 9 rfl) (hd 16 rfl) (hK _ (Mo.refl _))))
         ·exact og_eq _ rfl (fun f wf hq hd K hK => go_run (wnt_g rfl rfl rfl (hd 2 rfl) rfl) (wo_mv (.tmp 45) (.bool false) (fun _ => rfl) (hd 17 rfl) (hK _ (Mo.refl _))))
         ·exact og_eq _ rfl (fun f wf hq hd K hK => go_run (wnt_g rfl rfl rfl (hd 18 rfl) rfl) (wo_mv (.tmp 0) (.slice pl L.length cl) (fun _ => rfl) e40_0 (hK _ (Mo.refl _))))
         ·exact og_eq _ rfl (fun f wf hq hd K hK => go_run (wnt_g rfl rfl rfl (hd 18 rfl) rfl) (wo_mv (.tmp 3) (.int .i64 ((i : Nat) : Int)) (fun _ => rfl) e40_i (hK _ (Mo.refl _))))
         ·exact og_eq _ rfl (fun f wf hq hd K hK => go_run (wnt_g rfl rfl rfl (hd 18 rfl) rfl) (wo_bin (fun x y => Instr.indexAt 22 x y) (.tmp 47) (.tmp 48) (.slice pl L.length cl) (.int .i64 ((i : Nat) : Int)) (pt bp (op + i * 5)) (fun _ => rfl) (hd 19 rfl) (hd 20 rfl) (ix22 (i := i) hpp hil _) (hK _ (Mo.refl _))))
         ·exact og_eq _ rfl (fun f wf hq hd K hK => go_run (wnt_g rfl rfl rfl (hd 18 rfl) rfl) (wo_un (fun v => Instr.fieldAt 65 v 1) (.tmp 49) (pt bp (op + i * 5)) (pt bp (op + i * 5 + 1)) (fun _ => rfl) (hd 21 rfl) (by kernel_rfl) (hK _ (Mo.refl _))))
         ·exact og_eq _ rfl (fun f wf hq hd K hK => go_run (wnt_g rfl rfl rfl (hd 18 rfl) rfl) (wo_load 3 (.tmp 50) (pt bp (op + i * 5 + 1)) (.int .i64 (y.dp)) rfl (hd 22 rfl) (D.run_oneR (hRp.mo (M.trans hq)).at' 3 1 rfl Tryd.underlying3 rfl) (hK _ (Mo.refl _))))
         ·exact og_eq _ rfl (fun f wf hq hd K hK => go_run (wnt_g rfl rfl rfl (hd 18 rfl) rfl) (wo_mv (.tmp 0) (.slice pl L.length cl) (fun _ => rfl) e40_0 (hK _ (Mo.refl _))))
         ·exact og_eq _ rfl (fun f wf hq hd K hK => go_run (wnt_g rfl rfl rfl (hd 18 rfl) rfl) (wo_mv (.tmp 0) (.slice pl L.length cl) (fun _ => rfl) e40_0 (hK _ (Mo.refl _))))
         ·exact og_eq _ rfl (fun f wf hq hd K hK => go_run (wnt_g rfl rfl rfl (hd 18 rfl) rfl) (wo_mv (.tmp 3) (.int .i64 ((i : Nat) : Int)) (fun _ => rfl) e40_i (hK _ (Mo.refl _))))
         ·exact og_eq _ rfl (fun f wf hq hd K hK => go_run (wnt_g rfl rfl rfl (hd 18 rfl) rfl) (wo_bin (fun x y => Instr.indexAt 22 x y) (.tmp 53) (.tmp 54) (.slice pl L.length cl) (.int .i64 ((i : Nat) : Int)) (pt bp (op + i * 5)) (fun _ => rfl) (hd 25 rfl) (hd 26 rfl) (ix22 (i := i) hpp hil _) (hK _ (Mo.refl _))))
         ·exact og_eq _ rfl (fun f wf hq hd K hK => go_run (wnt_g rfl rfl rfl (hd 18 rfl) rfl) (wo_un (fun v => Instr.fieldAt 65 v 0) (.tmp 55) (pt bp (op + i * 5)) (pt bp (op + i * 5)) (fun _ => rfl) (hd 27 rfl) (by kernel_rfl) (hK _ (Mo.refl _))))
         ·exact og_eq _ rfl (fun f wf hq hd K hK => go_run (wnt_g rfl rfl rfl (hd 18 rfl) rfl) (wo_load 3 (.tmp 56) (pt bp (op + i * 5)) (.int .i64 (y.pr)) rfl (hd 28 rfl) (D.run_oneR (hRp.mo (M.trans hq)).at' 3 0 rfl Tryd.underlying3 rfl) (hK _ (Mo.refl _))))
         ·exact og_eq _ rfl (fun f wf hq hd K hK => go_run (wnt_g rfl rfl rfl (hd 18 rfl) rfl) (wo_bin (fun x y => Instr.indexAt 22 x y) (.tmp 52) (.tmp 57) (.slice pl L.length cl) (.int .i64 (y.pr)) (pt bq (oq + y.pr.toNat * 5)) (fun _ => rfl) (hd 24 rfl) (hd 29 rfl) (ix22I (Int.not_lt.1 hf32p) hpq hlp _) (hK _ (Mo.refl _))))
         ·exact og_eq _ rfl (fun f wf hq hd K hK => go_run (wnt_g rfl rfl rfl (hd 18 rfl) rfl) (wo_un (fun v => Instr.fieldAt 65 v 1) (.tmp 58) (pt bq (oq + y.pr.toNat * 5)) (pt bq (oq + y.pr.toNat * 5 + 1)) (fun _ => rfl) (hd 30 rfl) (by kernel_rfl) (hK _ (Mo.refl _))))
         ·exact og_eq _ rfl (fun f wf hq hd K hK => go_run (wnt_g rfl rfl rfl (hd 18 rfl) rfl) (wo_load 3 (.tmp 59) (pt bq (oq + y.pr.toNat * 5 + 1)) (.int .i64 (p.dp)) rfl (hd 31 rfl) (D.run_oneR (hRq.mo (M.trans hq)).at' 3 1 rfl Tryd.underlying3 rfl) (hK _ (Mo.refl _))))
         ·exact og_eq _ rfl (fun f wf hq hd K hK => go_run (wnt_g rfl rfl rfl (hd 18 rfl) rfl) (wo_bin (fun x y => do eqGuard .add 3 (.tmp 60) (.const (.int .i64 (1))) x y; binOp .add 3 x y) (.tmp 60) (.const (.int .i64 (1))) (.int .i64 (p.dp)) (.int .i64 (1)) (.int .i64 (p.dp + 1)) (fun _ => rfl) (hd 32 rfl) rfl (add1i (k := p.dp) (by omega) (by omega) _ _ _) (hK _ (Mo.refl _))))
         ·exact og_eq _ rfl (fun f wf hq hd K hK => go_run (wnt_g rfl rfl rfl (hd 18 rfl) rfl) (wo_bin (fun x y => do eqGuard .neq 3 (.tmp 51) (.tmp 61) x y; binOp .neq 3 x y) (.tmp 51) (.tmp 61) (.int .i64 (y.dp)) (.int .i64 (p.dp + 1)) (.bool false) (fun _ => rfl) (hd 23 rfl) (hd 33 rfl) (ne3 hf34 _ _ _) (hK _ (Mo.refl _))))
         ·exact og_eq _ rfl (fun f wf hq hd K hK => go_run (wnt_g rfl rfl rfl (hd 2 rfl) rfl) (wo_pick (.tmp 46) (.const (.bool true)) (.tmp 62) false (.bool false) (fun _ => rfl) (hd 18 rfl) (hd 34 rfl) (hK _ (Mo.refl _))))
         ·exact og_eq _ rfl (fun f wf hq hd K hK => go_run (wnt_g rfl rfl rfl (hd 2 rfl) rfl) (wo_mv (.tmp 63) (.bool false) (fun _ => rfl) (hd 35 rfl) (hK _ (Mo.refl _))))
         ·exact og_eq _ rfl (fun f wf hq hd K hK => go_run (wnt_g rfl rfl rfl (hd 36 rfl) rfl) (wo_mv (.tmp 0) (.slice pl L.length cl) (fun _ => rfl) e40_0 (hK _ (Mo.refl _))))
         ·exact og_eq _ rfl (fun f wf hq hd K hK => go_run (wnt_g rfl rfl rfl (hd 36 rfl) rfl) (wo_mv (.tmp 3) (.int .i64 ((i : Nat) : Int)) (fun _ => rfl) e40_i (hK _ (Mo.refl _))))
        intro kf41 u41 hq hR hne
        replace M := M.trans hq
        clear hq hR hne
        refine wl_bin (fun x y => Instr.indexAt 22 x y) (.tmp 65) (.tmp 66) (.slice pl L.length cl) (.int .i64 ((i : Nat) : Int)) (pt bp (op + i * 5)) (fun _ => rfl) rfl rfl (ix22 (i := i) hpp hil _) rfl ?_
        refine wl_f 65 1 (.tmp 67) (pt bp (op + i * 5)) (pt bp (op + i * 5 + 1)) ?_
        refine wl_l 3 (.tmp 68) (pt bp (op + i * 5 + 1)) (.int .i64 (y.dp)) (D.run_oneR (hRp.mo M).at' 3 1 rfl Tryd.underlying3 rfl) ?_
        refine wl_b .gtr 3 (.tmp 69) (.const (.int .i64 (4))) (.int .i64 (y.dp)) (.int .i64 (4)) (.bool false) (gt3 hf35 _ _ _) ?_
        refine wl_pick (.tmp 64) (.const (.bool true)) (.tmp 70) false (.bool false) (fun _ => rfl) rfl rfl rfl ?_
        refine wl_pick (.tmp 30) (.tmp 71) (.const (.bool false)) true (.bool false) (fun _ => rfl) rfl rfl rfl ?_
        refine w_nil (xn_then (w_condF rfl (w_skip (xn_blk (xn_then (w_reg ?_))))))
        refine wl_mv (.tmp 3) (.int .i64 ((i : Nat) : Int)) (fun _ => rfl) e40_i rfl ?_
        refine wl_b .add 3 (.tmp 8) (.const (.int .i64 (1))) (.int .i64 ((i : Nat) : Int)) (.int .i64 (1)) (.int .i64 ((i + 1 : Nat) : Int)) (add1r (k := i) (by omega) _ _ _) ?_
        refine wl_m (.tmp 9) (.int .i64 ((i + 1 : Nat) : Int)) ?_
        refine w_nil ?_
        exact xn_loop (L.length - (i + 1)) (by omega) ⟨i + 1, rfl, by omega, e40_0, rfl, (next_sb hS hy (sb_p (by omega) (by omega) (by omega) hp (by omega) (by omega))), M⟩
      | false =>
       have hf34p := of_decide_eq_false hf34
       have hp := hp9 (by omega)
       have hlp := lt_of_get hp
       obtain ⟨bq, oq, hpq, hRq⟩ := D.SL.rw hL.sl hp
       have hdp := dp_rg hS y.pr.toNat (by omega) p hp
       refine w_any 39 [.inl (.int .i64 ((i : Nat) : Int)), .inl (.bool true), .inl (.bool true), .inl (.slice pl L.length cl), .inl (.int .i64 ((i : Nat) : Int)), .inl (pt bp (op + i * 5)), .inl (pt bp (op + i * 5)), .inl (.int .i64 (y.pr)), .inl (.bool false), .inl (.bool false), .inl (.slice pl L.length cl), .inl (.int .i64 ((i : Nat) : Int)), .inl (pt bp (op + i * 5)), .inl (pt bp (op + i * 5)), .inl (.int .i64 (y.pr)), .inl (.int .i64 ((i : Nat) : Int)), .inl (.bool false), .inl (.bool false), .inl (.bool false), .inl (.slice pl L.length cl), .inl (.int .i64 ((i : Nat) : Int)), .inl (pt bp (op + i * 5)), .inl (pt bp (op + i * 5 + 1)), .inl (.int .i64 (y.dp)), .inl (.slice pl L.length cl), .inl (.slice pl L.length cl), .inl (.int .i64 ((i : Nat) : Int)), .inl (pt bp (op + i * 5)), .inl (pt bp (op + i * 5)), .inl (.int .i64 (y.pr)), .inl (pt bq (oq + y.pr.toNat * 5)), .inl (pt bq (oq + y.pr.toNat * 5 + 1)), .inl (.int .i64 (p.dp)), .inl (.int .i64 (p.dp + 1)), .inl (.bool true), .inl (.bool true), .inl (.bool true), .inl undef, .inl undef] [] (by kernel_rfl) (by kernel_rfl) (by kernel_rfl) (by kernel_rfl) rfl (by kernel_rfl) (by kernel_rfl) late_nil ?_ ?_ ?_
       ·exact Ds.none rfl
       ·refine ea_cons ?_ (ea_cons ?_ (ea_cons ?_ (ea_cons ?_ (ea_cons ?_ (ea_cons ?_ (ea_cons ?_ (ea_cons ?_ (ea_cons ?_ (ea_cons ?_ (ea_cons ?_ (ea_cons ?_ (ea_cons ?_ (ea_cons ?_ (ea_cons ?_ (ea_cons ?_ (ea_cons ?_ (ea_cons ?_ (ea_cons ?_ (ea_cons ?_ (ea_cons ?_ (ea_cons ?_ (ea_cons ?_ (ea_cons ?_ (ea_cons ?_ (ea_cons ?_ (ea_cons ?_ (ea_cons ?_ (ea_cons ?_ (ea_cons ?_ (ea_cons ?_ (ea_cons ?_ (ea_cons ?_ (ea_cons ?_ (ea_cons ?_ (ea_cons ?_ (ea_cons ?_ (ea_cons ?_ (ea_cons ?_ (ea_nil)))))))))))))))))))))))))))))))))))))))
        ·exact og_eq _ rfl (fun f wf hq hd K hK => go_run rfl (wo_mv (.tmp 3) (.int .i64 ((i : Nat) : Int)) (fun _ => rfl) e40_i (hK _ (Mo.refl _))))
        ·exact og_eq _ rfl (fun f wf hq hd K hK => go_run rfl (wo_bin (fun x y => do eqGuard .gtr 3 (.tmp 28) (.const (.int .i64 (0))) x y; binOp .gtr 3 x y) (.tmp 28) (.const (.int .i64 (0))) (.int .i64 ((i : Nat) : Int)) (.int .i64 (0)) (.bool true) (fun _ => rfl) (hd 0 rfl) rfl (gtN hf31 _ _ _) (hK _ (Mo.refl _))))
        ·exact og_eq _ rfl (fun f wf hq hd K hK => go_run rfl (wo_mv (.tmp 29) (.bool true) (fun _ => rfl) (hd 1 rfl) (hK _ (Mo.refl _))))
        ·exact og_eq _ rfl (fun f wf hq hd K hK => go_run (wnt_g rfl rfl rfl (hd 2 rfl) rfl) (wo_mv (.tmp 0) (.slice pl L.length cl) (fun _ => rfl) e40_0 (hK _ (Mo.refl _))))
        ·exact og_eq _ rfl (fun f wf hq hd K hK => go_run (wnt_g rfl rfl rfl (hd 2 rfl) rfl) (wo_mv (.tmp 3) (.int .i64 ((i : Nat) : Int)) (fun _ => rfl) e40_i (hK _ (Mo.refl _))))
        ·exact og_eq _ rfl (fun f wf hq hd K hK => go_run (wnt_g rfl rfl rfl (hd 2 rfl) rfl) (wo_bin (fun x y => Instr.indexAt 22 x y) (.tmp 31) (.tmp 32) (.slice pl L.length cl) (.int .i64 ((i : Nat) : Int)) (pt bp (op + i * 5)) (fun _ => rfl) (hd 3 rfl) (hd 4 rfl) (ix22 (i := i) hpp hil _) (hK _ (Mo.refl _))))
        ·exact og_eq _ rfl (fun f wf hq hd K hK => go_run (wnt_g rfl rfl rfl (hd 2 rfl) rfl) (wo_un (fun v => Instr.fieldAt 65 v 0) (.tmp 33) (pt bp (op + i * 5)) (pt bp (op + i * 5)) (fun _ => rfl) (hd 5 rfl) (by kernel_rfl) (hK _ (Mo.refl _))))
        ·exact og_eq _ rfl (fun f wf hq hd K hK => go_run (wnt_g rfl rfl rfl (hd 2 rfl) rfl) (wo_load 3 (.tmp 34) (pt bp (op + i * 5)) (.int .i64 (y.pr)) rfl (hd 6 rfl) (D.run_oneR (hRp.mo (M.trans hq)).at' 3 0 rfl Tryd.underlying3 rfl) (hK _ (Mo.refl _))))
        ·exact og_eq _ rfl (fun f wf hq hd K hK => go_run (wnt_g rfl rfl rfl (hd 2 rfl) rfl) (wo_bin (fun x y => do eqGuard .lss 3 (.tmp 35) (.const (.int .i64 (0))) x y; binOp .lss 3 x y) (.tmp 35) (.const (.int .i64 (0))) (.int .i64 (y.pr)) (.int .i64 (0)) (.bool false) (fun _ => rfl) (hd 7 rfl) rfl (lt3 hf32 _ _ _) (hK _ (Mo.refl _))))
        ·exact og_eq _ rfl (fun f wf hq hd K hK => go_run (wnt_g rfl rfl rfl (hd 2 rfl) rfl) (wo_mv (.tmp 36) (.bool false) (fun _ => rfl) (hd 8 rfl) (hK _ (Mo.refl _))))
        ·exact og_eq _ rfl (fun f wf hq hd K hK => go_run (wnt_g rfl rfl rfl (hd 9 rfl) rfl) (wo_mv (.tmp 0) (.slice pl L.length cl) (fun _ => rfl) e40_0 (hK _ (Mo.refl _))))
        ·exact og_eq _ rfl (fun f wf hq hd K hK => go_run (wnt_g rfl rfl rfl (hd 9 rfl) rfl) (wo_mv (.tmp 3) (.int .i64 ((i : Nat) : Int)) (fun _ => rfl) e40_i (hK _ (Mo.refl _))))
        ·exact og_eq _ rfl (fun f wf hq hd K hK => go_run (wnt_g rfl rfl rfl (hd 9 rfl) rfl) (wo_bin (fun x y => Instr.indexAt 22 x y) (.tmp 38) (.tmp 39) (.slice pl L.length cl) (.int .i64 ((i : Nat) : Int)) (pt bp (op + i * 5)) (fun _ => rfl) (hd 10 rfl) (hd 11 rfl) (ix22 (i := i) hpp hil _) (hK _ (Mo.refl _))))
        ·exact og_eq _ rfl (fun f wf hq hd K hK => go_run (wnt_g rfl rfl rfl (hd 9 rfl) rfl) (wo_un (fun v => Instr.fieldAt 65 v 0) (.tmp 40) (pt bp (op + i * 5)) (pt bp (op + i * 5)) (fun _ => rfl) (hd 12 rfl) (by kernel_rfl) (hK _ (Mo.refl _))))
        ·exact og_eq _ rfl (fun f wf hq hd K hK => go_run (wnt_g rfl rfl rfl (hd 9 rfl) rfl) (wo_load 3 (.tmp 41) (pt bp (op + i * 5)) (.int .i64 (y.pr)) rfl (hd 13 rfl) (D.run_oneR (hRp.mo (M.trans hq)).at' 3 0 rfl Tryd.underlying3 rfl) (hK _ (Mo.refl _))))
        ·exact og_eq _ rfl (fun f wf hq hd K hK => go_run (wnt_g rfl rfl rfl (hd 9 rfl) rfl) (wo_mv (.tmp 3) (.int .i64 ((i : Nat) : Int)) (fun _ => rfl) e40_i (hK _ (Mo.refl _))))
        ·exact og_eq _ rfl (fun f wf hq hd K hK => go_run (wnt_g rfl rfl rfl (hd 9 rfl) rfl) (wo_bin (fun x y => do eqGuard .geq 3 (.tmp 42) (.tmp 43) x y; binOp .geq 3 x y) (.tmp 42) (.tmp 43) (.int .i64 (y.pr)) (.int .i64 ((i : Nat) : Int)) (.bool false) (fun _ => rfl) (hd 14 rfl) (hd 15 rfl) (ge3 hf33 _ _ _) (hK _ (Mo.refl _))))
        ·exact og_eq _ rfl (fun f wf hq hd K hK => go_run (wnt_g rfl rfl rfl (hd 2 rfl) rfl) (wo_pick (.tmp 37) (.const (.bool true)) (.tmp 44) false (.bool false) (fun _ => rfl) (hd 9 rfl) (hd 16 rfl) (hK _ (Mo.refl _))))
        ·exact og_eq _ rfl (fun f wf hq hd K hK => go_run (wnt_g rfl rfl rfl (hd 2 rfl) rfl) (wo_mv (.tmp 45) (.bool false) (fun _ => rfl) (hd 17 rfl) (hK _ (Mo.refl _))))
        ·exact og_eq _ rfl (fun f wf hq hd K hK => go_run (wnt_g rfl rfl rfl (hd 18 rfl) rfl) (wo_mv (.tmp 0) (.slice pl L.length cl) (fun _ => rfl) e40_0 (hK _ (Mo.refl _))))
        ·exact og_eq _ rfl (fun f wf hq hd K hK => go_run (wnt_g rfl rfl rfl (hd 18 rfl) rfl) (wo_mv (.tmp 3) (.int .i64 ((i : Nat) : Int)) (fun _ => rfl) e40_i (hK _ (Mo.refl _))))
        ·exact og_eq _ rfl (fun f wf hq hd K hK => go_run (wnt_g rfl rfl rfl (hd 18 rfl) rfl) (wo_bin (fun x y => Instr.indexAt 22 x y) (.tmp 47) (.tmp 48) (.slice pl L.length cl) (.int .i64 ((i : Nat) : Int)) (pt bp (op + i * 5)) (fun _ => rfl) (hd 19 rfl) (hd 20 rfl) (ix22 (i := i) hpp hil _) (hK _ (Mo.refl _))))
        ·exact og_eq _ rfl (fun f wf hq hd K hK => go_run (wnt_g rfl rfl rfl (hd 18 rfl) rfl) (wo_un (fun v => Instr.fieldAt 65 v 1) (.tmp 49) (pt bp (op + i * 5)) (pt bp (op + i * 5 + 1)) (fun _ => rfl) (hd 21 rfl) (by kernel_rfl) (hK _ (Mo.refl _))))
        ·exact og_eq _ rfl (fun f wf hq hd K hK => go_run (wnt_g rfl rfl rfl (hd 18 rfl) rfl) (wo_load 3 (.tmp 50) (pt bp (op + i * 5 + 1)) (.int .i64 (y.dp)) rfl (hd 22 rfl) (D.run_oneR (hRp.mo (M.trans hq)).at' 3 1 rfl Tryd.underlying3 rfl) (hK _ (Mo.refl _))))
        ·exact og_eq _ rfl (fun f wf hq hd K hK => go_run (wnt_g rfl rfl rfl (hd 18 rfl) rfl) (wo_mv (.tmp 0) (.slice pl L.length cl) (fun _ => rfl) e40_0 (hK _ (Mo.refl _))))
        ·exact og_eq _ rfl (fun f wf hq hd K hK => go_run (wnt_g rfl rfl rfl (hd 18 rfl) rfl) (wo_mv (.tmp 0) (.slice pl L.length cl) (fun _ => rfl) e40_0 (hK _ (Mo.refl _))))
        ·exact og_eq _ rfl (fun f wf hq hd K hK => go_run (wnt_g rfl rfl rfl (hd 18 rfl) rfl) (wo_mv (.tmp 3) (.int .i64 ((i : Nat) : Int)) (fun _ => rfl) e40_i (hK _ (Mo.refl _))))
        ·exact og_eq _ rfl (fun f wf hq hd K hK => go_run (wnt_g rfl rfl rfl (hd 18 rfl) rfl) (wo_bin (fun x y => Instr.indexAt 22 x y) (.tmp 53) (.tmp 54) (.slice pl L.length cl) (.int .i64 ((i : Nat) : Int)) (pt bp (op + i * 5)) (fun _ => rfl) (hd 25 rfl) (hd 26 rfl) (ix22 (i := i) hpp hil _) (hK _ (Mo.refl _))))
        ·exact og_eq _ rfl (fun f wf hq hd K hK => go_run (wnt_g rfl rfl rfl (hd 18 rfl) rfl) (wo_un (fun v => Instr.fieldAt 65 v 0) (.tmp 55) (pt bp (op + i * 5)) (pt bp (op + i * 5)) (fun _ => rfl) (hd 27 rfl) (by kernel_rfl) (hK _ (Mo.refl _))))
        ·exact og_eq _ rfl (fun f wf hq hd K hK => go_run (wnt_g rfl rfl rfl (hd 18 rfl) rfl) (wo_load 3 (.tmp 56) (pt bp (op + i * 5)) (.int .i64 (y.pr)) rfl (hd 28 rfl) (D.run_oneR (hRp.mo (M.trans hq)).at' 3 0 rfl Tryd.underlying3 rfl) (hK _ (Mo.refl _))))
        ·exact og_eq _ rfl (fun f wf hq hd K hK => go_run (wnt_g rfl rfl rfl (hd 18 rfl) rfl) (wo_bin (fun x y => Instr.indexAt 22 x y) (.tmp 52) (.tmp 57) (.slice pl L.length cl) (.int .i64 (y.pr)) (pt bq (oq + y.pr.toNat * 5)) (fun _ => rfl) (hd 24 rfl) (hd 29 rfl) (ix22I (Int.not_lt.1 hf32p) hpq hlp _) (hK _ (Mo.refl _))))
        ·exact og_eq _ rfl (fun f wf hq hd K hK => go_run (wnt_g rfl rfl rfl (hd 18 rfl) rfl) (wo_un (fun v => Instr.fieldAt 65 v 1) (.tmp 58) (pt bq (oq + y.pr.toNat * 5)) (pt bq (oq + y.pr.toNat * 5 + 1)) (fun _ => rfl) (hd 30 rfl) (by kernel_rfl) (hK _ (Mo.refl _))))
        ·exact og_eq _ rfl (fun f wf hq hd K hK => go_run (wnt_g rfl rfl rfl (hd 18 rfl) rfl) (wo_load 3 (.tmp 59) (pt bq (oq + y.pr.toNat * 5 + 1)) (.int .i64 (p.dp)) rfl (hd 31 rfl) (D.run_oneR (hRq.mo (M.trans hq)).at' 3 1 rfl Tryd.underlying3 rfl) (hK _ (Mo.refl _))))
        ·exact og_eq _ rfl (fun f wf hq hd K hK => go_run (wnt_g rfl rfl rfl (hd 18 rfl) rfl) (wo_bin (fun x y => do eqGuard .add 3 (.tmp 60) (.const (.int .i64 (1))) x y; binOp .add 3 x y) (.tmp 60) (.const (.int .i64 (1))) (.int .i64 (p.dp)) (.int .i64 (1)) (.int .i64 (p.dp + 1)) (fun _ => rfl) (hd 32 rfl) rfl (add1i (k := p.dp) (by omega) (by omega) _ _ _) (hK _ (Mo.refl _))))
        ·exact og_eq _ rfl (fun f wf hq hd K hK => go_run (wnt_g rfl rfl rfl (hd 18 rfl) rfl) (wo_bin (fun x y => do eqGuard .neq 3 (.tmp 51) (.tmp 61) x y; binOp .neq 3 x y) (.tmp 51) (.tmp 61) (.int .i64 (y.dp)) (.int .i64 (p.dp + 1)) (.bool true) (fun _ => rfl) (hd 23 rfl) (hd 33 rfl) (ne3 hf34 _ _ _) (hK _ (Mo.refl _))))
        ·exact og_eq _ rfl (fun f wf hq hd K hK => go_run (wnt_g rfl rfl rfl (hd 2 rfl) rfl) (wo_pick (.tmp 46) (.const (.bool true)) (.tmp 62) false (.bool true) (fun _ => rfl) (hd 18 rfl) (hd 34 rfl) (hK _ (Mo.refl _))))
        ·exact og_eq _ rfl (fun f wf hq hd K hK => go_run (wnt_g rfl rfl rfl (hd 2 rfl) rfl) (wo_mv (.tmp 63) (.bool true) (fun _ => rfl) (hd 35 rfl) (hK _ (Mo.refl _))))
        ·exact og_eq _ rfl (fun f wf hq hd K hK => go_pass (wnt_g rfl rfl rfl (hd 36 rfl) rfl) (hK _ (Mo.refl _)))
        ·exact og_eq _ rfl (fun f wf hq hd K hK => go_pass (wnt_g rfl rfl rfl (hd 36 rfl) rfl) (hK _ (Mo.refl _)))
       intro kf41 u41 hq hR hne
       replace M := M.trans hq
       clear hq hR hne
       refine wl_skip rfl (wl_skip rfl (wl_skip rfl (wl_skip rfl ?_)))
       refine wl_pick (.tmp 64) (.const (.bool true)) (.tmp 70) true (.bool true) (fun _ => rfl) rfl rfl rfl ?_
       refine wl_pick (.tmp 30) (.tmp 71) (.const (.bool false)) true (.bool true) (fun _ => rfl) rfl rfl rfl ?_
       refine w_nil (xn_then (w_condT rfl (w_seq (w_reg ?_))))
       refine wl_m (.const (.bool false)) (.bool false) ?_
       refine w_nil (xn_then (w_ret (xr_blk (xr_then (xr_then (xr_blk (xr_then ?_)))))))
       exact w_ret1 _ (.bool false) rfl rfl ⟨congrArg (fun v => Ending.returned (.bool v)) (snd_no hy (by rw [Bool.eq_false_iff]; intro h; rcases sb_inv h with ⟨_, h1, h2⟩ | ⟨h0, h1, h2, h3, h4⟩ <;> first | omega | (rw [dpA_at hp] at h3; omega))).symm, M⟩
   | false =>
    have hf31p := of_decide_eq_false hf31
    refine w_any 39 [.inl (.int .i64 ((i : Nat) : Int)), .inl (.bool false), .inl (.bool false), .inl undef, .inl undef, .inl undef, .inl undef, .inl undef, .inl undef, .inl undef, .inl undef, .inl undef, .inl undef, .inl undef, .inl undef, .inl undef, .inl undef, .inl undef, .inl undef, .inl undef, .inl undef, .inl undef, .inl undef, .inl undef, .inl undef, .inl undef, .inl undef, .inl undef, .inl undef, .inl undef, .inl undef, .inl undef, .inl undef, .inl undef, .inl undef, .inl undef, .inl undef, .inl undef, .inl undef] [] (by kernel_rfl) (by kernel_rfl) (by kernel_rfl) (by kernel_rfl) rfl (by kernel_rfl) (by kernel_rfl) late_nil ?_ ?_ ?_
    ·exact Ds.none rfl
    ·refine ea_cons ?_ (ea_cons ?_ (ea_cons ?_ (ea_cons ?_ (ea_cons ?_ (ea_cons ?_ (ea_cons ?_ (ea_cons ?_ (ea_cons ?_ (ea_cons ?_ (ea_cons ?_ (ea_cons ?_ (ea_cons ?_ (ea_cons ?_ (ea_cons ?_ (ea_cons ?_ (ea_cons ?_ (ea_cons ?_ (ea_cons ?_ (ea_cons ?_ (ea_cons ?_ (ea_cons ?_ (ea_cons ?_ (ea_cons ?_ (ea_cons ?_ (ea_cons ?_ (ea_cons ?_ (ea_cons ?_ (ea_cons ?_ (ea_cons ?_ (ea_cons ?_ (ea_cons ?_ (ea_cons ?_ (ea_cons ?_ (ea_cons ?_ (ea_cons ?_ (ea_cons ?_ (ea_cons ?_ (ea_cons ?_ (ea_nil)))))))))))))))))))))))))))))))))))))))
     ·exact og_eq _ rfl (fun f wf hq hd K hK => go_run rfl (wo_mv (.tmp 3) (.int .i64 ((i : Nat) : Int)) (fun _ => rfl) e40_i (hK _ (Mo.refl _))))
     ·exact og_eq _ rfl (fun f wf hq hd K hK => go_run rfl (wo_bin (fun x y => do eqGuard .gtr 3 (.tmp 28) (.const (.int .i64 (0))) x y; binOp .gtr 3 x y) (.tmp 28) (.const (.int .i64 (0))) (.int .i64 ((i : Nat) : Int)) (.int .i64 (0)) (.bool false) (fun _ => rfl) (hd 0 rfl) rfl (gtN hf31 _ _ _) (hK _ (Mo.refl _))))
     ·exact og_eq _ rfl (fun f wf hq hd K hK => go_run rfl (wo_mv (.tmp 29) (.bool false) (fun _ => rfl) (hd 1 rfl) (hK _ (Mo.refl _))))
     ·exact og_eq _ rfl (fun f wf hq hd K hK => go_pass (wnt_g rfl rfl rfl (hd 2 rfl) rfl) (hK _ (Mo.refl _)))
     ·exact og_eq _ rfl (fun f wf hq hd K hK => go_pass (wnt_g rfl rfl rfl (hd 2 rfl) rfl) (hK _ (Mo.refl _)))
     ·exact og_eq _ rfl (fun f wf hq hd K hK => go_pass (wnt_g rfl rfl rfl (hd 2 rfl) rfl) (hK _ (Mo.refl _)))
     ·exact og_eq _ rfl (fun f wf hq hd K hK => go_pass (wnt_g rfl rfl rfl (hd 2 rfl) rfl) (hK _ (Mo.refl _)))
     ·exact og_eq _ rfl (fun f wf hq hd K hK => go_pass (wnt_g rfl rfl rfl (hd 2 rfl) rfl) (hK _ (Mo.refl _)))
     ·exact og_eq _ rfl (fun f wf hq hd K hK => go_pass (wnt_g rfl rfl rfl (hd 2 rfl) rfl) (hK _ (Mo.refl _)))
     ·exact og_eq _ rfl (fun f wf hq hd K hK => go_pass (wnt_g rfl rfl rfl (hd 2 rfl) rfl) (hK _ (Mo.refl _)))
     ·exact og_eq _ rfl (fun f wf hq hd K hK => go_pass (wnt_u rfl rfl rfl (hd 9 rfl)) (hK _ (Mo.refl _)))
     ·exact og_eq _ rfl (fun f wf hq hd K hK => go_pass (wnt_u rfl rfl rfl (hd 9 rfl)) (hK _ (Mo.refl _)))
     ·exact og_eq _ rfl (fun f wf hq hd K hK => go_pass (wnt_u rfl rfl rfl (hd 9 rfl)) (hK _ (Mo.refl _)))
     ·exact og_eq _ rfl (fun f wf hq hd K hK => go_pass (wnt_u rfl rfl rfl (hd 9 rfl)) (hK _ (Mo.refl _)))
     ·exact og_eq _ rfl (fun f wf hq hd K hK => go_pass (wnt_u rfl rfl rfl (hd 9 rfl)) (hK _ (Mo.refl _)))
     ·exact og_eq _ rfl (fun f wf hq hd K hK => go_pass (wnt_u rfl rfl rfl (hd 9 rfl)) (hK _ (Mo.refl _)))
     ·exact og_eq _ rfl (fun f wf hq hd K hK => go_pass (wnt_u rfl rfl rfl (hd 9 rfl)) (hK _ (Mo.refl _)))
     ·exact og_eq _ rfl (fun f wf hq hd K hK => go_pass (wnt_g rfl rfl rfl (hd 2 rfl) rfl) (hK _ (Mo.refl _)))
     ·exact og_eq _ rfl (fun f wf hq hd K hK => go_pass (wnt_g rfl rfl rfl (hd 2 rfl) rfl) (hK _ (Mo.refl _)))
     ·exact og_eq _ rfl (fun f wf hq hd K hK => go_pass (wnt_u rfl rfl rfl (hd 18 rfl)) (hK _ (Mo.refl _)))
     ·exact og_eq _ rfl (fun f wf hq hd K hK => go_pass (wnt_u rfl rfl rfl (hd 18 rfl)) (hK _ (Mo.refl _)))
     ·exact og_eq _ rfl (fun f wf hq hd K hK => go_pass (wnt_u rfl rfl rfl (hd 18 rfl)) (hK _ (Mo.refl _)))
     ·exact og_eq _ rfl (fun f wf hq hd K hK => go_pass (wnt_u rfl rfl rfl (hd 18 rfl)) (hK _ (Mo.refl _)))
     ·exact og_eq _ rfl (fun f wf hq hd K hK => go_pass (wnt_u rfl rfl rfl (hd 18 rfl)) (hK _ (Mo.refl _)))
     ·exact og_eq _ rfl (fun f wf hq hd K hK => go_pass (wnt_u rfl rfl rfl (hd 18 rfl)) (hK _ (Mo.refl _)))
     ·exact og_eq _ rfl (fun f wf hq hd K hK => go_pass (wnt_u rfl rfl rfl (hd 18 rfl)) (hK _ (Mo.refl _)))
     ·exact og_eq _ rfl (fun f wf hq hd K hK => go_pass (wnt_u rfl rfl rfl (hd 18 rfl)) (hK _ (Mo.refl _)))
     ·exact og_eq _ rfl (fun f wf hq hd K hK => go_pass (wnt_u rfl rfl rfl (hd 18 rfl)) (hK _ (Mo.refl _)))
     ·exact og_eq _ rfl (fun f wf hq hd K hK => go_pass (wnt_u rfl rfl rfl (hd 18 rfl)) (hK _ (Mo.refl _)))
     ·exact og_eq _ rfl (fun f wf hq hd K hK => go_pass (wnt_u rfl rfl rfl (hd 18 rfl)) (hK _ (Mo.refl _)))
     ·exact og_eq _ rfl (fun f wf hq hd K hK => go_pass (wnt_u rfl rfl rfl (hd 18 rfl)) (hK _ (Mo.refl _)))
     ·exact og_eq _ rfl (fun f wf hq hd K hK => go_pass (wnt_u rfl rfl rfl (hd 18 rfl)) (hK _ (Mo.refl _)))
     ·exact og_eq _ rfl (fun f wf hq hd K hK => go_pass (wnt_u rfl rfl rfl (hd 18 rfl)) (hK _ (Mo.refl _)))
     ·exact og_eq _ rfl (fun f wf hq hd K hK => go_pass (wnt_u rfl rfl rfl (hd 18 rfl)) (hK _ (Mo.refl _)))
     ·exact og_eq _ rfl (fun f wf hq hd K hK => go_pass (wnt_u rfl rfl rfl (hd 18 rfl)) (hK _ (Mo.refl _)))
     ·exact og_eq _ rfl (fun f wf hq hd K hK => go_pass (wnt_g rfl rfl rfl (hd 2 rfl) rfl) (hK _ (Mo.refl _)))
     ·exact og_eq _ rfl (fun f wf hq hd K hK => go_pass (wnt_g rfl rfl rfl (hd 2 rfl) rfl) (hK _ (Mo.refl _)))
     ·exact og_eq _ rfl (fun f wf hq hd K hK => go_pass (wnt_u rfl rfl rfl (hd 36 rfl)) (hK _ (Mo.refl _)))
     ·exact og_eq _ rfl (fun f wf hq hd K hK => go_pass (wnt_u rfl rfl rfl (hd 36 rfl)) (hK _ (Mo.refl _)))
    intro kf41 u41 hq hR hne
    replace M := M.trans hq
    clear hq hR hne
    refine wl_skip rfl (wl_skip rfl (wl_skip rfl (wl_skip rfl (wl_skip rfl ?_))))
    refine wl_pick (.tmp 30) (.tmp 71) (.const (.bool false)) false (.bool false) (fun _ => rfl) rfl rfl rfl ?_
    refine w_nil (xn_then (w_condF rfl (w_skip (xn_blk (xn_then (w_reg ?_))))))
    refine wl_mv (.tmp 3) (.int .i64 ((i : Nat) : Int)) (fun _ => rfl) e40_i rfl ?_
    refine wl_b .add 3 (.tmp 8) (.const (.int .i64 (1))) (.int .i64 ((i : Nat) : Int)) (.int .i64 (1)) (.int .i64 ((i + 1 : Nat) : Int)) (add1r (k := i) (by omega) _ _ _) ?_
    refine wl_m (.tmp 9) (.int .i64 ((i + 1 : Nat) : Int)) ?_
    refine w_nil ?_
    exact xn_loop (L.length - (i + 1)) (by omega) ⟨i + 1, rfl, by omega, e40_0, rfl, (by exfalso; omega), M⟩
 ·skip
  have hid : decide (i < L.length) = false := decide_eq_false hil
  have hie : i = L.length := by omega
  refine w_seq (w_seq (w_reg ?_))
  refine wl_mv (.tmp 3) (.int .i64 ((i : Nat) : Int)) (fun _ => rfl) e40_i rfl ?_
  refine wl_mv (.tmp 0) (.slice pl L.length cl) (fun _ => rfl) e40_0 rfl ?_
  refine wl_val (.int .i64 ((L.length : Nat) : Int)) (len22 _ _ _ _ _ (by exact rfl) _ _ _ _ _ _) rfl ?_
  refine wl_b .lss 3 (.tmp 4) (.tmp 6) (.int .i64 ((i : Nat) : Int)) (.int .i64 ((L.length : Nat) : Int)) (.bool false) (ltN hid _ _ _) ?_
  refine w_nil (xn_then (w_condF rfl (w_exit (xx_then (xx_then (xx_blk (xn_then (w_seq (w_reg ?_)))))))))
  refine wl_m (.const (.bool true)) (.bool true) ?_
  refine w_nil (xn_then (w_ret ?_))
  exact w_ret1 _ (.bool true) rfl rfl ⟨congrArg (fun v => Ending.returned (.bool v)) (snd_iff.2 (hie ▸ hS)).symm, M⟩
theorem id_n (n : Int) (w : World) : Calls Tryd.prog 33 #[.int .i64 n] w fun e9 w' => e9 = .returned (.bool (idk n)) ∧ Mo w w' := by
 refine w_enter 9 Tryd.func33 Tryd.ntmps33 rfl rfl ?_
 have M : Mo w w := Mo.refl _
 refine w_seq (w_reg ?_)
 refine wl_m (.const (.bool false)) (.bool false) ?_
 refine w_nil (xn_then (w_seq (w_reg ?_)))
 refine wl_m (.tmp 0) (.int .i64 (n)) ?_
 cases hf0 : decide (1 ≤ n) with
 | true =>
  have hf0p := of_decide_eq_true hf0
  refine wl_b .geq 2 (.tmp 3) (.const (.int .i64 (1))) (.int .i64 (n)) (.int .i64 (1)) (.bool true) (ge2 hf0 _ _ _) ?_
  refine wl_m (.tmp 4) (.bool true) ?_
  refine wl_m (.tmp 0) (.int .i64 (n)) ?_
  cases hf1 : decide (n ≤ 9007199254740992) with
  | true =>
   have hf1p := of_decide_eq_true hf1
   refine wl_b .leq 2 (.tmp 6) (.const (.int .i64 (9007199254740992))) (.int .i64 (n)) (.int .i64 (9007199254740992)) (.bool true) (le2 hf1 _ _ _) ?_
   refine wl_pick (.tmp 5) (.tmp 7) (.const (.bool false)) true (.bool true) (fun _ => rfl) rfl rfl rfl ?_
   refine wl_m (.tmp 8) (.bool true) ?_
   refine w_nil (xn_then (w_ret ?_))
   exact w_ret1 _ (.bool true) rfl rfl ⟨by simp [idk, hf0p, hf1p], M⟩
  | false =>
   have hf1p := of_decide_eq_false hf1
   refine wl_b .leq 2 (.tmp 6) (.const (.int .i64 (9007199254740992))) (.int .i64 (n)) (.int .i64 (9007199254740992)) (.bool false) (le2 hf1 _ _ _) ?_
   refine wl_pick (.tmp 5) (.tmp 7) (.const (.bool false)) true (.bool false) (fun _ => rfl) rfl rfl rfl ?_
   refine wl_m (.tmp 8) (.bool false) ?_
   refine w_nil (xn_then (w_ret ?_))
   exact w_ret1 _ (.bool false) rfl rfl ⟨by simp [idk, hf0p, hf1p], M⟩
 | false =>
  have hf0p := of_decide_eq_false hf0
  refine wl_b .geq 2 (.tmp 3) (.const (.int .i64 (1))) (.int .i64 (n)) (.int .i64 (1)) (.bool false) (ge2 hf0 _ _ _) ?_
  refine wl_m (.tmp 4) (.bool false) ?_
  refine wl_skip rfl (wl_skip rfl ?_)
  refine wl_pick (.tmp 5) (.tmp 7) (.const (.bool false)) false (.bool false) (fun _ => rfl) rfl rfl rfl ?_
  refine wl_m (.tmp 8) (.bool false) ?_
  refine w_nil (xn_then (w_ret ?_))
  exact w_ret1 _ (.bool false) rfl rfl ⟨by simp [idk, hf0p], M⟩
theorem ck_yes {l : List S5} {r : Ro} {y : S5} (h : snd l = true) (h0 : 0 ≤ r.s) (h1 : r.s < (l.length : Int)) (hy : l[r.s.toNat]? = some y) (hi : ids y.dp r = true) : ckR l r = 0 := by
 unfold ckR; rw [dpA_at hy]; simp [h, h0, h1, hi]
theorem ck_n1 {l : List S5} {r : Ro} (h : snd l = false) : ckR l r = 150 := by unfold ckR; rw [h]; rfl
theorem ck_n2 {l : List S5} {r : Ro} (h : r.s < 0 ∨ (l.length : Int) ≤ r.s) : ckR l r = 150 := by
 unfold ckR
 rw [if_neg]
 simp only [Bool.and_eq_true, decide_eq_true_eq]
 omega
theorem ck_n3 {l : List S5} {r : Ro} {y : S5} (hy : l[r.s.toNat]? = some y) (hi : ids y.dp r = false) : ckR l r = 150 := by
 unfold ckR; rw [dpA_at hy, hi]; simp
theorem rck_n {L : List S5} {pl : Option Addr} {cl : Nat} {r : Ro} (w : World) (hL : LL w pl L) : Calls Tryd.prog 11 #[.slice pl L.length cl, r.v] w fun e9 w' => e9 = .returned (.int .i64 (ckR L r)) ∧ Mo w w' := by
 refine w_enter 55 Tryd.func11 Tryd.ntmps11 rfl rfl ?_
 have M : Mo w w := Mo.refl _
 refine w_seq (w_reg ?_)
 refine wl_box 25 (.tmp 1) _ (((r.cells).toArray)) rfl rfl (fun _ => by kernel_rfl) rfl ?_
 intro k1 u1 hk hz hq Q1
 have N_k1 : w.heap.size ≤ k1 := by have := M.size; omega
 replace M := M.trans hq
 clear hk hz hq
 refine wl_m (.const (.int .i64 (0))) (.int .i64 (0)) ?_
 refine w_nil (xn_then (w_seq (w_seq (w_reg ?_))))
 refine wl_m (.tmp 0) (.slice pl L.length cl) ?_
 cases hf0 : snd L with
 | true =>
  refine wl_call 32 [(.tmp 7)] _ [.slice pl L.length cl] (.bool true) rfl rfl (fun _ _ => by kernel_rfl) (cB hf0 (sound_n _ (hL.mo M))) rfl ?_
  intro u2 hq
  replace Q1 := Q1.mo hq
  replace M := M.trans hq
  clear hq
  refine wl_un (fun v => Op.unary .not v) (.tmp 8) (.bool true) (.bool false) (fun _ => rfl) rfl (by kernel_rfl) rfl ?_
  refine wl_m (.tmp 9) (.bool false) ?_
  refine wl_f 25 0 (.tmp 3) (pt k1 0) (pt k1 0) ?_
  refine wl_l 3 (.tmp 11) (pt k1 0) (.int .i64 (r.s)) (run_one Q1 3 0 rfl Tryd.underlying3 rfl) ?_
  cases hf1 : decide (r.s < 0) with
  | true =>
   have hf1p := of_decide_eq_true hf1
   refine wl_b .lss 3 (.tmp 12) (.const (.int .i64 (0))) (.int .i64 (r.s)) (.int .i64 (0)) (.bool true) (lt3 hf1 _ _ _) ?_
   refine wl_pick (.tmp 10) (.const (.bool true)) (.tmp 13) false (.bool true) (fun _ => rfl) rfl rfl rfl ?_
   refine wl_m (.tmp 14) (.bool true) ?_
   refine wl_skip rfl (wl_skip rfl (wl_skip rfl (wl_skip rfl (wl_skip rfl ?_))))
   refine wl_pick (.tmp 15) (.const (.bool true)) (.tmp 20) true (.bool true) (fun _ => rfl) rfl rfl rfl ?_
   refine w_nil (xn_then (w_condT rfl (w_seq (w_reg ?_))))
   refine wl_m (.const (.int .i64 (150))) (.int .i64 (150)) ?_
   refine w_nil (xn_then (w_ret (xr_then ?_)))
   exact w_ret1 _ (.int .i64 (150)) rfl rfl ⟨congrArg (fun v => Ending.returned (.int .i64 v)) (ck_n2 (by omega)).symm, M⟩
  | false =>
   have hf1p := of_decide_eq_false hf1
   refine wl_b .lss 3 (.tmp 12) (.const (.int .i64 (0))) (.int .i64 (r.s)) (.int .i64 (0)) (.bool false) (lt3 hf1 _ _ _) ?_
   refine wl_pick (.tmp 10) (.const (.bool true)) (.tmp 13) false (.bool false) (fun _ => rfl) rfl rfl rfl ?_
   refine wl_m (.tmp 14) (.bool false) ?_
   refine wl_f 25 0 (.tmp 3) (pt k1 0) (pt k1 0) ?_
   refine wl_l 3 (.tmp 16) (pt k1 0) (.int .i64 (r.s)) (run_one Q1 3 0 rfl Tryd.underlying3 rfl) ?_
   refine wl_m (.tmp 0) (.slice pl L.length cl) ?_
   refine wl_val (.int .i64 ((L.length : Nat) : Int)) (len22 _ _ _ _ _ (by exact rfl) _ _ _ _ _ _) rfl ?_
   cases hf2 : decide (((L.length : Nat) : Int) ≤ r.s) with
   | true =>
    have hf2p := of_decide_eq_true hf2
    refine wl_b .geq 3 (.tmp 17) (.tmp 19) (.int .i64 (r.s)) (.int .i64 ((L.length : Nat) : Int)) (.bool true) (ge3 hf2 _ _ _) ?_
    refine wl_pick (.tmp 15) (.const (.bool true)) (.tmp 20) false (.bool true) (fun _ => rfl) rfl rfl rfl ?_
    refine w_nil (xn_then (w_condT rfl (w_seq (w_reg ?_))))
    refine wl_m (.const (.int .i64 (150))) (.int .i64 (150)) ?_
    refine w_nil (xn_then (w_ret (xr_then ?_)))
    exact w_ret1 _ (.int .i64 (150)) rfl rfl ⟨congrArg (fun v => Ending.returned (.int .i64 v)) (ck_n2 (by omega)).symm, M⟩
   | false =>
    have hf2p := of_decide_eq_false hf2
    refine wl_b .geq 3 (.tmp 17) (.tmp 19) (.int .i64 (r.s)) (.int .i64 ((L.length : Nat) : Int)) (.bool false) (ge3 hf2 _ _ _) ?_
    refine wl_pick (.tmp 15) (.const (.bool true)) (.tmp 20) false (.bool false) (fun _ => rfl) rfl rfl rfl ?_
    refine w_nil (xn_then (w_condF rfl (w_skip (xn_then (w_seq (w_seq ?_))))))
    have hs0 : 0 ≤ r.s := Int.not_lt.1 hf1p
    obtain ⟨y, hy⟩ := get_of_lt (show r.s.toNat < L.length by omega)
    have hmy := List.mem_of_getElem? hy
    have hly := lt_of_get hy
    obtain ⟨bp, op, hpp, hRp⟩ := D.SL.rw hL.sl hy
    have hdy := dp_at hf0 hy
    refine w_reg ?_
    refine wl_m (.const (.int .i64 (0))) (.int .i64 (0)) ?_
    refine w_nil (xn_then (w_block ?_))
    refine w_rounds 4 ?_
    refine w_seq (w_seq (w_reg ?_))
    refine wl_m (.tmp 5) (.int .i64 (0)) ?_
    refine wl_b .lss 3 (.tmp 22) (.const (.int .i64 (3))) (.int .i64 (0)) (.int .i64 (3)) (.bool true) (lt3 (r := true) rfl _ _ _) ?_
    refine w_nil (xn_then (w_condT rfl (w_skip (xn_then (w_seq (w_block (w_seq (w_reg ?_))))))))
    refine wl_m (.tmp 5) (.int .i64 (0)) ?_
    refine wl_m (.tmp 0) (.slice pl L.length cl) ?_
    refine wl_f 25 0 (.tmp 3) (pt k1 0) (pt k1 0) ?_
    refine wl_l 3 (.tmp 28) (pt k1 0) (.int .i64 (r.s)) (run_one Q1 3 0 rfl Tryd.underlying3 rfl) ?_
    refine wl_bin (fun x y => Instr.indexAt 22 x y) (.tmp 27) (.tmp 29) (.slice pl L.length cl) (.int .i64 (r.s)) (pt bp (op + r.s.toNat * 5)) (fun _ => rfl) rfl rfl (ix22I hs0 hpp hly _) rfl ?_
    refine wl_f 65 1 (.tmp 30) (pt bp (op + r.s.toNat * 5)) (pt bp (op + r.s.toNat * 5 + 1)) ?_
    refine wl_l 3 (.tmp 31) (pt bp (op + r.s.toNat * 5 + 1)) (.int .i64 (y.dp)) (D.run_oneR (hRp.mo M).at' 3 1 rfl Tryd.underlying3 rfl) ?_
    refine wl_b .sub 3 (.tmp 32) (.const (.int .i64 (1))) (.int .i64 (y.dp)) (.int .i64 (1)) (.int .i64 (y.dp - 1)) (subI rfl (by omega) (by omega) _ _ _) ?_
    cases hf3 : decide (y.dp = 1) with
    | true =>
     have hf3p := of_decide_eq_true hf3
     refine wl_b .lss 3 (.tmp 26) (.tmp 33) (.int .i64 (0)) (.int .i64 (y.dp - 1)) (.bool false) (lt3 (decide_eq_false (by omega)) _ _ _) ?_
     refine wl_m (.tmp 34) (.bool false) ?_
     refine w_nil (xn_then (w_seq (w_reg ?_)))
     refine wl_m (.tmp 6) (.bool false) ?_
     refine wl_m (.tmp 35) (.bool false) ?_
     refine wl_skip rfl (wl_skip rfl (wl_skip rfl (wl_skip rfl (wl_skip rfl (wl_skip rfl ?_)))))
     refine wl_pick (.tmp 36) (.tmp 42) (.const (.bool false)) false (.bool false) (fun _ => rfl) rfl rfl rfl ?_
     refine wl_m (.tmp 43) (.bool false) ?_
     refine wl_m (.tmp 6) (.bool false) ?_
     refine wl_un (fun v => Op.unary .not v) (.tmp 45) (.bool false) (.bool true) (fun _ => rfl) rfl (by kernel_rfl) rfl ?_
     refine wl_m (.tmp 46) (.bool true) ?_
     refine wl_m (.tmp 5) (.int .i64 (0)) ?_
     refine wl_f 25 1 (.tmp 3) (pt k1 0) (pt k1 1) ?_
     refine wl_bin (fun x y => Instr.indexAt 23 x y) (.tmp 49) (.tmp 48) (pt k1 1) (.int .i64 (0)) (pt k1 1) (fun _ => rfl) rfl rfl (by kernel_rfl) rfl ?_
     refine wl_l 2 (.tmp 50) (pt k1 1) (.int .i64 (r.a)) (run_one Q1 2 1 rfl Tryd.underlying2 rfl) ?_
     cases hf4 : decide (r.a = 0) with
     | true =>
      have hf4p := of_decide_eq_true hf4
      refine wl_b .neq 2 (.tmp 51) (.const (.int .i64 (0))) (.int .i64 (r.a)) (.int .i64 (0)) (.bool false) (ne2 hf4 _ _ _) ?_
      refine wl_pick (.tmp 47) (.tmp 52) (.const (.bool false)) true (.bool false) (fun _ => rfl) rfl rfl rfl ?_
      refine wl_pick (.tmp 44) (.const (.bool true)) (.tmp 53) false (.bool false) (fun _ => rfl) rfl rfl rfl ?_
      refine w_nil (xn_then (w_condF rfl (w_skip (xn_blk (xn_then (w_reg ?_))))))
      refine wl_m (.tmp 5) (.int .i64 (0)) ?_
      refine wl_b .add 3 (.tmp 24) (.const (.int .i64 (1))) (.int .i64 (0)) (.int .i64 (1)) (.int .i64 (1)) (by kernel_rfl) ?_
      refine wl_m (.tmp 25) (.int .i64 (1)) ?_
      refine w_nil ?_
      refine xn_rounds ?_
      refine w_seq (w_seq (w_reg ?_))
      refine wl_m (.tmp 5) (.int .i64 (1)) ?_
      refine wl_b .lss 3 (.tmp 22) (.const (.int .i64 (3))) (.int .i64 (1)) (.int .i64 (3)) (.bool true) (lt3 (r := true) rfl _ _ _) ?_
      refine w_nil (xn_then (w_condT rfl (w_skip (xn_then (w_seq (w_block (w_seq (w_reg ?_))))))))
      refine wl_m (.tmp 5) (.int .i64 (1)) ?_
      refine wl_m (.tmp 0) (.slice pl L.length cl) ?_
      refine wl_f 25 0 (.tmp 3) (pt k1 0) (pt k1 0) ?_
      refine wl_l 3 (.tmp 28) (pt k1 0) (.int .i64 (r.s)) (run_one Q1 3 0 rfl Tryd.underlying3 rfl) ?_
      refine wl_bin (fun x y => Instr.indexAt 22 x y) (.tmp 27) (.tmp 29) (.slice pl L.length cl) (.int .i64 (r.s)) (pt bp (op + r.s.toNat * 5)) (fun _ => rfl) rfl rfl (ix22I hs0 hpp hly _) rfl ?_
      refine wl_f 65 1 (.tmp 30) (pt bp (op + r.s.toNat * 5)) (pt bp (op + r.s.toNat * 5 + 1)) ?_
      refine wl_l 3 (.tmp 31) (pt bp (op + r.s.toNat * 5 + 1)) (.int .i64 (y.dp)) (D.run_oneR (hRp.mo M).at' 3 1 rfl Tryd.underlying3 rfl) ?_
      refine wl_b .sub 3 (.tmp 32) (.const (.int .i64 (1))) (.int .i64 (y.dp)) (.int .i64 (1)) (.int .i64 (y.dp - 1)) (subI rfl (by omega) (by omega) _ _ _) ?_
      refine wl_b .lss 3 (.tmp 26) (.tmp 33) (.int .i64 (1)) (.int .i64 (y.dp - 1)) (.bool false) (lt3 (decide_eq_false (by omega)) _ _ _) ?_
      refine wl_m (.tmp 34) (.bool false) ?_
      refine w_nil (xn_then (w_seq (w_reg ?_)))
      refine wl_m (.tmp 6) (.bool false) ?_
      refine wl_m (.tmp 35) (.bool false) ?_
      refine wl_skip rfl (wl_skip rfl (wl_skip rfl (wl_skip rfl (wl_skip rfl (wl_skip rfl ?_)))))
      refine wl_pick (.tmp 36) (.tmp 42) (.const (.bool false)) false (.bool false) (fun _ => rfl) rfl rfl rfl ?_
      refine wl_m (.tmp 43) (.bool false) ?_
      refine wl_m (.tmp 6) (.bool false) ?_
      refine wl_un (fun v => Op.unary .not v) (.tmp 45) (.bool false) (.bool true) (fun _ => rfl) rfl (by kernel_rfl) rfl ?_
      refine wl_m (.tmp 46) (.bool true) ?_
      refine wl_m (.tmp 5) (.int .i64 (1)) ?_
      refine wl_f 25 1 (.tmp 3) (pt k1 0) (pt k1 1) ?_
      refine wl_bin (fun x y => Instr.indexAt 23 x y) (.tmp 49) (.tmp 48) (pt k1 1) (.int .i64 (1)) (pt k1 2) (fun _ => rfl) rfl rfl (by kernel_rfl) rfl ?_
      refine wl_l 2 (.tmp 50) (pt k1 2) (.int .i64 (r.b)) (run_one Q1 2 2 rfl Tryd.underlying2 rfl) ?_
      cases hf5 : decide (r.b = 0) with
      | true =>
       have hf5p := of_decide_eq_true hf5
       refine wl_b .neq 2 (.tmp 51) (.const (.int .i64 (0))) (.int .i64 (r.b)) (.int .i64 (0)) (.bool false) (ne2 hf5 _ _ _) ?_
       refine wl_pick (.tmp 47) (.tmp 52) (.const (.bool false)) true (.bool false) (fun _ => rfl) rfl rfl rfl ?_
       refine wl_pick (.tmp 44) (.const (.bool true)) (.tmp 53) false (.bool false) (fun _ => rfl) rfl rfl rfl ?_
       refine w_nil (xn_then (w_condF rfl (w_skip (xn_blk (xn_then (w_reg ?_))))))
       refine wl_m (.tmp 5) (.int .i64 (1)) ?_
       refine wl_b .add 3 (.tmp 24) (.const (.int .i64 (1))) (.int .i64 (1)) (.int .i64 (1)) (.int .i64 (2)) (by kernel_rfl) ?_
       refine wl_m (.tmp 25) (.int .i64 (2)) ?_
       refine w_nil ?_
       refine xn_rounds ?_
       refine w_seq (w_seq (w_reg ?_))
       refine wl_m (.tmp 5) (.int .i64 (2)) ?_
       refine wl_b .lss 3 (.tmp 22) (.const (.int .i64 (3))) (.int .i64 (2)) (.int .i64 (3)) (.bool true) (lt3 (r := true) rfl _ _ _) ?_
       refine w_nil (xn_then (w_condT rfl (w_skip (xn_then (w_seq (w_block (w_seq (w_reg ?_))))))))
       refine wl_m (.tmp 5) (.int .i64 (2)) ?_
       refine wl_m (.tmp 0) (.slice pl L.length cl) ?_
       refine wl_f 25 0 (.tmp 3) (pt k1 0) (pt k1 0) ?_
       refine wl_l 3 (.tmp 28) (pt k1 0) (.int .i64 (r.s)) (run_one Q1 3 0 rfl Tryd.underlying3 rfl) ?_
       refine wl_bin (fun x y => Instr.indexAt 22 x y) (.tmp 27) (.tmp 29) (.slice pl L.length cl) (.int .i64 (r.s)) (pt bp (op + r.s.toNat * 5)) (fun _ => rfl) rfl rfl (ix22I hs0 hpp hly _) rfl ?_
       refine wl_f 65 1 (.tmp 30) (pt bp (op + r.s.toNat * 5)) (pt bp (op + r.s.toNat * 5 + 1)) ?_
       refine wl_l 3 (.tmp 31) (pt bp (op + r.s.toNat * 5 + 1)) (.int .i64 (y.dp)) (D.run_oneR (hRp.mo M).at' 3 1 rfl Tryd.underlying3 rfl) ?_
       refine wl_b .sub 3 (.tmp 32) (.const (.int .i64 (1))) (.int .i64 (y.dp)) (.int .i64 (1)) (.int .i64 (y.dp - 1)) (subI rfl (by omega) (by omega) _ _ _) ?_
       refine wl_b .lss 3 (.tmp 26) (.tmp 33) (.int .i64 (2)) (.int .i64 (y.dp - 1)) (.bool false) (lt3 (decide_eq_false (by omega)) _ _ _) ?_
       refine wl_m (.tmp 34) (.bool false) ?_
       refine w_nil (xn_then (w_seq (w_reg ?_)))
       refine wl_m (.tmp 6) (.bool false) ?_
       refine wl_m (.tmp 35) (.bool false) ?_
       refine wl_skip rfl (wl_skip rfl (wl_skip rfl (wl_skip rfl (wl_skip rfl (wl_skip rfl ?_)))))
       refine wl_pick (.tmp 36) (.tmp 42) (.const (.bool false)) false (.bool false) (fun _ => rfl) rfl rfl rfl ?_
       refine wl_m (.tmp 43) (.bool false) ?_
       refine wl_m (.tmp 6) (.bool false) ?_
       refine wl_un (fun v => Op.unary .not v) (.tmp 45) (.bool false) (.bool true) (fun _ => rfl) rfl (by kernel_rfl) rfl ?_
       refine wl_m (.tmp 46) (.bool true) ?_
       refine wl_m (.tmp 5) (.int .i64 (2)) ?_
       refine wl_f 25 1 (.tmp 3) (pt k1 0) (pt k1 1) ?_
       refine wl_bin (fun x y => Instr.indexAt 23 x y) (.tmp 49) (.tmp 48) (pt k1 1) (.int .i64 (2)) (pt k1 3) (fun _ => rfl) rfl rfl (by kernel_rfl) rfl ?_
       refine wl_l 2 (.tmp 50) (pt k1 3) (.int .i64 (r.c)) (run_one Q1 2 3 rfl Tryd.underlying2 rfl) ?_
       cases hf6 : decide (r.c = 0) with
       | true =>
        have hf6p := of_decide_eq_true hf6
        refine wl_b .neq 2 (.tmp 51) (.const (.int .i64 (0))) (.int .i64 (r.c)) (.int .i64 (0)) (.bool false) (ne2 hf6 _ _ _) ?_
        refine wl_pick (.tmp 47) (.tmp 52) (.const (.bool false)) true (.bool false) (fun _ => rfl) rfl rfl rfl ?_
        refine wl_pick (.tmp 44) (.const (.bool true)) (.tmp 53) false (.bool false) (fun _ => rfl) rfl rfl rfl ?_
        refine w_nil (xn_then (w_condF rfl (w_skip (xn_blk (xn_then (w_reg ?_))))))
        refine wl_m (.tmp 5) (.int .i64 (2)) ?_
        refine wl_b .add 3 (.tmp 24) (.const (.int .i64 (1))) (.int .i64 (2)) (.int .i64 (1)) (.int .i64 (3)) (by kernel_rfl) ?_
        refine wl_m (.tmp 25) (.int .i64 (3)) ?_
        refine w_nil ?_
        refine xn_rounds ?_
        refine w_seq (w_seq (w_reg ?_))
        refine wl_m (.tmp 5) (.int .i64 (3)) ?_
        refine wl_b .lss 3 (.tmp 22) (.const (.int .i64 (3))) (.int .i64 (3)) (.int .i64 (3)) (.bool false) (lt3 (r := false) rfl _ _ _) ?_
        refine w_nil (xn_then (w_condF rfl (w_exit (xx_then (xx_then (xx_blk (xn_then (w_seq (w_reg ?_)))))))))
        refine wl_m (.const (.int .i64 (0))) (.int .i64 (0)) ?_
        refine w_nil (xn_then (w_ret ?_))
        exact w_ret1 _ (.int .i64 (0)) rfl rfl ⟨congrArg (fun v => Ending.returned (.int .i64 v)) (Eq.symm (ck_yes hf0 hs0 (by omega) hy (by simp [ids, idu, hf3p, hf4p, hf5p, hf6p]))), M⟩
       | false =>
        have hf6p := of_decide_eq_false hf6
        refine wl_b .neq 2 (.tmp 51) (.const (.int .i64 (0))) (.int .i64 (r.c)) (.int .i64 (0)) (.bool true) (ne2 hf6 _ _ _) ?_
        refine wl_pick (.tmp 47) (.tmp 52) (.const (.bool false)) true (.bool true) (fun _ => rfl) rfl rfl rfl ?_
        refine wl_pick (.tmp 44) (.const (.bool true)) (.tmp 53) false (.bool true) (fun _ => rfl) rfl rfl rfl ?_
        refine w_nil (xn_then (w_condT rfl (w_seq (w_reg ?_))))
        refine wl_m (.const (.int .i64 (150))) (.int .i64 (150)) ?_
        refine w_nil (xn_then (w_ret (xr_blk (xr_then (xr_then (xr_blk (xr_then ?_)))))))
        exact w_ret1 _ (.int .i64 (150)) rfl rfl ⟨congrArg (fun v => Ending.returned (.int .i64 v)) (ck_n3 hy (by simp [ids, idu, hf3p, hf4p, hf5p, hf6p])).symm, M⟩
      | false =>
       have hf5p := of_decide_eq_false hf5
       refine wl_b .neq 2 (.tmp 51) (.const (.int .i64 (0))) (.int .i64 (r.b)) (.int .i64 (0)) (.bool true) (ne2 hf5 _ _ _) ?_
       refine wl_pick (.tmp 47) (.tmp 52) (.const (.bool false)) true (.bool true) (fun _ => rfl) rfl rfl rfl ?_
       refine wl_pick (.tmp 44) (.const (.bool true)) (.tmp 53) false (.bool true) (fun _ => rfl) rfl rfl rfl ?_
       refine w_nil (xn_then (w_condT rfl (w_seq (w_reg ?_))))
       refine wl_m (.const (.int .i64 (150))) (.int .i64 (150)) ?_
       refine w_nil (xn_then (w_ret (xr_blk (xr_then (xr_then (xr_blk (xr_then ?_)))))))
       exact w_ret1 _ (.int .i64 (150)) rfl rfl ⟨congrArg (fun v => Ending.returned (.int .i64 v)) (ck_n3 hy (by simp [ids, idu, hf3p, hf4p, hf5p])).symm, M⟩
     | false =>
      have hf4p := of_decide_eq_false hf4
      refine wl_b .neq 2 (.tmp 51) (.const (.int .i64 (0))) (.int .i64 (r.a)) (.int .i64 (0)) (.bool true) (ne2 hf4 _ _ _) ?_
      refine wl_pick (.tmp 47) (.tmp 52) (.const (.bool false)) true (.bool true) (fun _ => rfl) rfl rfl rfl ?_
      refine wl_pick (.tmp 44) (.const (.bool true)) (.tmp 53) false (.bool true) (fun _ => rfl) rfl rfl rfl ?_
      refine w_nil (xn_then (w_condT rfl (w_seq (w_reg ?_))))
      refine wl_m (.const (.int .i64 (150))) (.int .i64 (150)) ?_
      refine w_nil (xn_then (w_ret (xr_blk (xr_then (xr_then (xr_blk (xr_then ?_)))))))
      exact w_ret1 _ (.int .i64 (150)) rfl rfl ⟨congrArg (fun v => Ending.returned (.int .i64 v)) (ck_n3 hy (by simp [ids, idu, hf3p, hf4p])).symm, M⟩
    | false =>
     have hf3p := of_decide_eq_false hf3
     cases hf4 : decide (y.dp = 2) with
     | true =>
      have hf4p := of_decide_eq_true hf4
      refine wl_b .lss 3 (.tmp 26) (.tmp 33) (.int .i64 (0)) (.int .i64 (y.dp - 1)) (.bool true) (lt3 (decide_eq_true (by omega)) _ _ _) ?_
      refine wl_m (.tmp 34) (.bool true) ?_
      refine w_nil (xn_then (w_seq (w_reg ?_)))
      refine wl_m (.tmp 6) (.bool true) ?_
      refine wl_m (.tmp 35) (.bool true) ?_
      refine wl_m (.tmp 5) (.int .i64 (0)) ?_
      refine wl_f 25 1 (.tmp 3) (pt k1 0) (pt k1 1) ?_
      refine wl_bin (fun x y => Instr.indexAt 23 x y) (.tmp 38) (.tmp 37) (pt k1 1) (.int .i64 (0)) (pt k1 1) (fun _ => rfl) rfl rfl (by kernel_rfl) rfl ?_
      refine wl_l 2 (.tmp 39) (pt k1 1) (.int .i64 (r.a)) (run_one Q1 2 1 rfl Tryd.underlying2 rfl) ?_
      cases hf5 : idk r.a with
      | true =>
       refine wl_call 33 [(.tmp 40)] _ [.int .i64 (r.a)] (.bool true) rfl rfl (fun _ _ => by kernel_rfl) (cB hf5 (id_n r.a _)) rfl ?_
       intro u3 hq
       replace Q1 := Q1.mo hq
       replace M := M.trans hq
       clear hq
       refine wl_un (fun v => Op.unary .not v) (.tmp 41) (.bool true) (.bool false) (fun _ => rfl) rfl (by kernel_rfl) rfl ?_
       refine wl_pick (.tmp 36) (.tmp 42) (.const (.bool false)) true (.bool false) (fun _ => rfl) rfl rfl rfl ?_
       refine wl_m (.tmp 43) (.bool false) ?_
       refine wl_m (.tmp 6) (.bool true) ?_
       refine wl_un (fun v => Op.unary .not v) (.tmp 45) (.bool true) (.bool false) (fun _ => rfl) rfl (by kernel_rfl) rfl ?_
       refine wl_m (.tmp 46) (.bool false) ?_
       refine wl_skip rfl (wl_skip rfl (wl_skip rfl (wl_skip rfl (wl_skip rfl ?_))))
       refine wl_pick (.tmp 47) (.tmp 52) (.const (.bool false)) false (.bool false) (fun _ => rfl) rfl rfl rfl ?_
       refine wl_pick (.tmp 44) (.const (.bool true)) (.tmp 53) false (.bool false) (fun _ => rfl) rfl rfl rfl ?_
       refine w_nil (xn_then (w_condF rfl (w_skip (xn_blk (xn_then (w_reg ?_))))))
       refine wl_m (.tmp 5) (.int .i64 (0)) ?_
       refine wl_b .add 3 (.tmp 24) (.const (.int .i64 (1))) (.int .i64 (0)) (.int .i64 (1)) (.int .i64 (1)) (by kernel_rfl) ?_
       refine wl_m (.tmp 25) (.int .i64 (1)) ?_
       refine w_nil ?_
       refine xn_rounds ?_
       refine w_seq (w_seq (w_reg ?_))
       refine wl_m (.tmp 5) (.int .i64 (1)) ?_
       refine wl_b .lss 3 (.tmp 22) (.const (.int .i64 (3))) (.int .i64 (1)) (.int .i64 (3)) (.bool true) (lt3 (r := true) rfl _ _ _) ?_
       refine w_nil (xn_then (w_condT rfl (w_skip (xn_then (w_seq (w_block (w_seq (w_reg ?_))))))))
       refine wl_m (.tmp 5) (.int .i64 (1)) ?_
       refine wl_m (.tmp 0) (.slice pl L.length cl) ?_
       refine wl_f 25 0 (.tmp 3) (pt k1 0) (pt k1 0) ?_
       refine wl_l 3 (.tmp 28) (pt k1 0) (.int .i64 (r.s)) (run_one Q1 3 0 rfl Tryd.underlying3 rfl) ?_
       refine wl_bin (fun x y => Instr.indexAt 22 x y) (.tmp 27) (.tmp 29) (.slice pl L.length cl) (.int .i64 (r.s)) (pt bp (op + r.s.toNat * 5)) (fun _ => rfl) rfl rfl (ix22I hs0 hpp hly _) rfl ?_
       refine wl_f 65 1 (.tmp 30) (pt bp (op + r.s.toNat * 5)) (pt bp (op + r.s.toNat * 5 + 1)) ?_
       refine wl_l 3 (.tmp 31) (pt bp (op + r.s.toNat * 5 + 1)) (.int .i64 (y.dp)) (D.run_oneR (hRp.mo M).at' 3 1 rfl Tryd.underlying3 rfl) ?_
       refine wl_b .sub 3 (.tmp 32) (.const (.int .i64 (1))) (.int .i64 (y.dp)) (.int .i64 (1)) (.int .i64 (y.dp - 1)) (subI rfl (by omega) (by omega) _ _ _) ?_
       refine wl_b .lss 3 (.tmp 26) (.tmp 33) (.int .i64 (1)) (.int .i64 (y.dp - 1)) (.bool false) (lt3 (decide_eq_false (by omega)) _ _ _) ?_
       refine wl_m (.tmp 34) (.bool false) ?_
       refine w_nil (xn_then (w_seq (w_reg ?_)))
       refine wl_m (.tmp 6) (.bool false) ?_
       refine wl_m (.tmp 35) (.bool false) ?_
       refine wl_skip rfl (wl_skip rfl (wl_skip rfl (wl_skip rfl (wl_skip rfl (wl_skip rfl ?_)))))
       refine wl_pick (.tmp 36) (.tmp 42) (.const (.bool false)) false (.bool false) (fun _ => rfl) rfl rfl rfl ?_
       refine wl_m (.tmp 43) (.bool false) ?_
       refine wl_m (.tmp 6) (.bool false) ?_
       refine wl_un (fun v => Op.unary .not v) (.tmp 45) (.bool false) (.bool true) (fun _ => rfl) rfl (by kernel_rfl) rfl ?_
       refine wl_m (.tmp 46) (.bool true) ?_
       refine wl_m (.tmp 5) (.int .i64 (1)) ?_
       refine wl_f 25 1 (.tmp 3) (pt k1 0) (pt k1 1) ?_
       refine wl_bin (fun x y => Instr.indexAt 23 x y) (.tmp 49) (.tmp 48) (pt k1 1) (.int .i64 (1)) (pt k1 2) (fun _ => rfl) rfl rfl (by kernel_rfl) rfl ?_
       refine wl_l 2 (.tmp 50) (pt k1 2) (.int .i64 (r.b)) (run_one Q1 2 2 rfl Tryd.underlying2 rfl) ?_
       cases hf6 : decide (r.b = 0) with
       | true =>
        have hf6p := of_decide_eq_true hf6
        refine wl_b .neq 2 (.tmp 51) (.const (.int .i64 (0))) (.int .i64 (r.b)) (.int .i64 (0)) (.bool false) (ne2 hf6 _ _ _) ?_
        refine wl_pick (.tmp 47) (.tmp 52) (.const (.bool false)) true (.bool false) (fun _ => rfl) rfl rfl rfl ?_
        refine wl_pick (.tmp 44) (.const (.bool true)) (.tmp 53) false (.bool false) (fun _ => rfl) rfl rfl rfl ?_
        refine w_nil (xn_then (w_condF rfl (w_skip (xn_blk (xn_then (w_reg ?_))))))
        refine wl_m (.tmp 5) (.int .i64 (1)) ?_
        refine wl_b .add 3 (.tmp 24) (.const (.int .i64 (1))) (.int .i64 (1)) (.int .i64 (1)) (.int .i64 (2)) (by kernel_rfl) ?_
        refine wl_m (.tmp 25) (.int .i64 (2)) ?_
        refine w_nil ?_
        refine xn_rounds ?_
        refine w_seq (w_seq (w_reg ?_))
        refine wl_m (.tmp 5) (.int .i64 (2)) ?_
        refine wl_b .lss 3 (.tmp 22) (.const (.int .i64 (3))) (.int .i64 (2)) (.int .i64 (3)) (.bool true) (lt3 (r := true) rfl _ _ _) ?_
        refine w_nil (xn_then (w_condT rfl (w_skip (xn_then (w_seq (w_block (w_seq (w_reg ?_))))))))
        refine wl_m (.tmp 5) (.int .i64 (2)) ?_
        refine wl_m (.tmp 0) (.slice pl L.length cl) ?_
        refine wl_f 25 0 (.tmp 3) (pt k1 0) (pt k1 0) ?_
        refine wl_l 3 (.tmp 28) (pt k1 0) (.int .i64 (r.s)) (run_one Q1 3 0 rfl Tryd.underlying3 rfl) ?_
        refine wl_bin (fun x y => Instr.indexAt 22 x y) (.tmp 27) (.tmp 29) (.slice pl L.length cl) (.int .i64 (r.s)) (pt bp (op + r.s.toNat * 5)) (fun _ => rfl) rfl rfl (ix22I hs0 hpp hly _) rfl ?_
        refine wl_f 65 1 (.tmp 30) (pt bp (op + r.s.toNat * 5)) (pt bp (op + r.s.toNat * 5 + 1)) ?_
        refine wl_l 3 (.tmp 31) (pt bp (op + r.s.toNat * 5 + 1)) (.int .i64 (y.dp)) (D.run_oneR (hRp.mo M).at' 3 1 rfl Tryd.underlying3 rfl) ?_
        refine wl_b .sub 3 (.tmp 32) (.const (.int .i64 (1))) (.int .i64 (y.dp)) (.int .i64 (1)) (.int .i64 (y.dp - 1)) (subI rfl (by omega) (by omega) _ _ _) ?_
        refine wl_b .lss 3 (.tmp 26) (.tmp 33) (.int .i64 (2)) (.int .i64 (y.dp - 1)) (.bool false) (lt3 (decide_eq_false (by omega)) _ _ _) ?_
        refine wl_m (.tmp 34) (.bool false) ?_
        refine w_nil (xn_then (w_seq (w_reg ?_)))
        refine wl_m (.tmp 6) (.bool false) ?_
        refine wl_m (.tmp 35) (.bool false) ?_
        refine wl_skip rfl (wl_skip rfl (wl_skip rfl (wl_skip rfl (wl_skip rfl (wl_skip rfl ?_)))))
        refine wl_pick (.tmp 36) (.tmp 42) (.const (.bool false)) false (.bool false) (fun _ => rfl) rfl rfl rfl ?_
        refine wl_m (.tmp 43) (.bool false) ?_
        refine wl_m (.tmp 6) (.bool false) ?_
        refine wl_un (fun v => Op.unary .not v) (.tmp 45) (.bool false) (.bool true) (fun _ => rfl) rfl (by kernel_rfl) rfl ?_
        refine wl_m (.tmp 46) (.bool true) ?_
        refine wl_m (.tmp 5) (.int .i64 (2)) ?_
        refine wl_f 25 1 (.tmp 3) (pt k1 0) (pt k1 1) ?_
        refine wl_bin (fun x y => Instr.indexAt 23 x y) (.tmp 49) (.tmp 48) (pt k1 1) (.int .i64 (2)) (pt k1 3) (fun _ => rfl) rfl rfl (by kernel_rfl) rfl ?_
        refine wl_l 2 (.tmp 50) (pt k1 3) (.int .i64 (r.c)) (run_one Q1 2 3 rfl Tryd.underlying2 rfl) ?_
        cases hf7 : decide (r.c = 0) with
        | true =>
         have hf7p := of_decide_eq_true hf7
         refine wl_b .neq 2 (.tmp 51) (.const (.int .i64 (0))) (.int .i64 (r.c)) (.int .i64 (0)) (.bool false) (ne2 hf7 _ _ _) ?_
         refine wl_pick (.tmp 47) (.tmp 52) (.const (.bool false)) true (.bool false) (fun _ => rfl) rfl rfl rfl ?_
         refine wl_pick (.tmp 44) (.const (.bool true)) (.tmp 53) false (.bool false) (fun _ => rfl) rfl rfl rfl ?_
         refine w_nil (xn_then (w_condF rfl (w_skip (xn_blk (xn_then (w_reg ?_))))))
         refine wl_m (.tmp 5) (.int .i64 (2)) ?_
         refine wl_b .add 3 (.tmp 24) (.const (.int .i64 (1))) (.int .i64 (2)) (.int .i64 (1)) (.int .i64 (3)) (by kernel_rfl) ?_
         refine wl_m (.tmp 25) (.int .i64 (3)) ?_
         refine w_nil ?_
         refine xn_rounds ?_
         refine w_seq (w_seq (w_reg ?_))
         refine wl_m (.tmp 5) (.int .i64 (3)) ?_
         refine wl_b .lss 3 (.tmp 22) (.const (.int .i64 (3))) (.int .i64 (3)) (.int .i64 (3)) (.bool false) (lt3 (r := false) rfl _ _ _) ?_
         refine w_nil (xn_then (w_condF rfl (w_exit (xx_then (xx_then (xx_blk (xn_then (w_seq (w_reg ?_)))))))))
         refine wl_m (.const (.int .i64 (0))) (.int .i64 (0)) ?_
         refine w_nil (xn_then (w_ret ?_))
         exact w_ret1 _ (.int .i64 (0)) rfl rfl ⟨congrArg (fun v => Ending.returned (.int .i64 v)) (Eq.symm (ck_yes hf0 hs0 (by omega) hy (by simp [ids, idu, hf4p, hf5, hf6p, hf7p]))), M⟩
        | false =>
         have hf7p := of_decide_eq_false hf7
         refine wl_b .neq 2 (.tmp 51) (.const (.int .i64 (0))) (.int .i64 (r.c)) (.int .i64 (0)) (.bool true) (ne2 hf7 _ _ _) ?_
         refine wl_pick (.tmp 47) (.tmp 52) (.const (.bool false)) true (.bool true) (fun _ => rfl) rfl rfl rfl ?_
         refine wl_pick (.tmp 44) (.const (.bool true)) (.tmp 53) false (.bool true) (fun _ => rfl) rfl rfl rfl ?_
         refine w_nil (xn_then (w_condT rfl (w_seq (w_reg ?_))))
         refine wl_m (.const (.int .i64 (150))) (.int .i64 (150)) ?_
         refine w_nil (xn_then (w_ret (xr_blk (xr_then (xr_then (xr_blk (xr_then ?_)))))))
         exact w_ret1 _ (.int .i64 (150)) rfl rfl ⟨congrArg (fun v => Ending.returned (.int .i64 v)) (ck_n3 hy (by simp [ids, idu, hf4p, hf5, hf6p, hf7p])).symm, M⟩
       | false =>
        have hf6p := of_decide_eq_false hf6
        refine wl_b .neq 2 (.tmp 51) (.const (.int .i64 (0))) (.int .i64 (r.b)) (.int .i64 (0)) (.bool true) (ne2 hf6 _ _ _) ?_
        refine wl_pick (.tmp 47) (.tmp 52) (.const (.bool false)) true (.bool true) (fun _ => rfl) rfl rfl rfl ?_
        refine wl_pick (.tmp 44) (.const (.bool true)) (.tmp 53) false (.bool true) (fun _ => rfl) rfl rfl rfl ?_
        refine w_nil (xn_then (w_condT rfl (w_seq (w_reg ?_))))
        refine wl_m (.const (.int .i64 (150))) (.int .i64 (150)) ?_
        refine w_nil (xn_then (w_ret (xr_blk (xr_then (xr_then (xr_blk (xr_then ?_)))))))
        exact w_ret1 _ (.int .i64 (150)) rfl rfl ⟨congrArg (fun v => Ending.returned (.int .i64 v)) (ck_n3 hy (by simp [ids, idu, hf4p, hf5, hf6p])).symm, M⟩
      | false =>
       refine wl_call 33 [(.tmp 40)] _ [.int .i64 (r.a)] (.bool false) rfl rfl (fun _ _ => by kernel_rfl) (cB hf5 (id_n r.a _)) rfl ?_
       intro u3 hq
       replace Q1 := Q1.mo hq
       replace M := M.trans hq
       clear hq
       refine wl_un (fun v => Op.unary .not v) (.tmp 41) (.bool false) (.bool true) (fun _ => rfl) rfl (by kernel_rfl) rfl ?_
       refine wl_pick (.tmp 36) (.tmp 42) (.const (.bool false)) true (.bool true) (fun _ => rfl) rfl rfl rfl ?_
       refine wl_m (.tmp 43) (.bool true) ?_
       refine wl_skip rfl (wl_skip rfl (wl_skip rfl (wl_skip rfl (wl_skip rfl (wl_skip rfl (wl_skip rfl (wl_skip rfl (wl_skip rfl ?_))))))))
       refine wl_pick (.tmp 44) (.const (.bool true)) (.tmp 53) true (.bool true) (fun _ => rfl) rfl rfl rfl ?_
       refine w_nil (xn_then (w_condT rfl (w_seq (w_reg ?_))))
       refine wl_m (.const (.int .i64 (150))) (.int .i64 (150)) ?_
       refine w_nil (xn_then (w_ret (xr_blk (xr_then (xr_then (xr_blk (xr_then ?_)))))))
       exact w_ret1 _ (.int .i64 (150)) rfl rfl ⟨congrArg (fun v => Ending.returned (.int .i64 v)) (ck_n3 hy (by simp [ids, idu, hf4p, hf5])).symm, M⟩
     | false =>
      have hf4p := of_decide_eq_false hf4
      cases hf5 : decide (y.dp = 3) with
      | true =>
       have hf5p := of_decide_eq_true hf5
       refine wl_b .lss 3 (.tmp 26) (.tmp 33) (.int .i64 (0)) (.int .i64 (y.dp - 1)) (.bool true) (lt3 (decide_eq_true (by omega)) _ _ _) ?_
       refine wl_m (.tmp 34) (.bool true) ?_
       refine w_nil (xn_then (w_seq (w_reg ?_)))
       refine wl_m (.tmp 6) (.bool true) ?_
       refine wl_m (.tmp 35) (.bool true) ?_
       refine wl_m (.tmp 5) (.int .i64 (0)) ?_
       refine wl_f 25 1 (.tmp 3) (pt k1 0) (pt k1 1) ?_
       refine wl_bin (fun x y => Instr.indexAt 23 x y) (.tmp 38) (.tmp 37) (pt k1 1) (.int .i64 (0)) (pt k1 1) (fun _ => rfl) rfl rfl (by kernel_rfl) rfl ?_
       refine wl_l 2 (.tmp 39) (pt k1 1) (.int .i64 (r.a)) (run_one Q1 2 1 rfl Tryd.underlying2 rfl) ?_
       cases hf6 : idk r.a with
       | true =>
        refine wl_call 33 [(.tmp 40)] _ [.int .i64 (r.a)] (.bool true) rfl rfl (fun _ _ => by kernel_rfl) (cB hf6 (id_n r.a _)) rfl ?_
        intro u3 hq
        replace Q1 := Q1.mo hq
        replace M := M.trans hq
        clear hq
        refine wl_un (fun v => Op.unary .not v) (.tmp 41) (.bool true) (.bool false) (fun _ => rfl) rfl (by kernel_rfl) rfl ?_
        refine wl_pick (.tmp 36) (.tmp 42) (.const (.bool false)) true (.bool false) (fun _ => rfl) rfl rfl rfl ?_
        refine wl_m (.tmp 43) (.bool false) ?_
        refine wl_m (.tmp 6) (.bool true) ?_
        refine wl_un (fun v => Op.unary .not v) (.tmp 45) (.bool true) (.bool false) (fun _ => rfl) rfl (by kernel_rfl) rfl ?_
        refine wl_m (.tmp 46) (.bool false) ?_
        refine wl_skip rfl (wl_skip rfl (wl_skip rfl (wl_skip rfl (wl_skip rfl ?_))))
        refine wl_pick (.tmp 47) (.tmp 52) (.const (.bool false)) false (.bool false) (fun _ => rfl) rfl rfl rfl ?_
        refine wl_pick (.tmp 44) (.const (.bool true)) (.tmp 53) false (.bool false) (fun _ => rfl) rfl rfl rfl ?_
        refine w_nil (xn_then (w_condF rfl (w_skip (xn_blk (xn_then (w_reg ?_))))))
        refine wl_m (.tmp 5) (.int .i64 (0)) ?_
        refine wl_b .add 3 (.tmp 24) (.const (.int .i64 (1))) (.int .i64 (0)) (.int .i64 (1)) (.int .i64 (1)) (by kernel_rfl) ?_
        refine wl_m (.tmp 25) (.int .i64 (1)) ?_
        refine w_nil ?_
        refine xn_rounds ?_
        refine w_seq (w_seq (w_reg ?_))
        refine wl_m (.tmp 5) (.int .i64 (1)) ?_
        refine wl_b .lss 3 (.tmp 22) (.const (.int .i64 (3))) (.int .i64 (1)) (.int .i64 (3)) (.bool true) (lt3 (r := true) rfl _ _ _) ?_
        refine w_nil (xn_then (w_condT rfl (w_skip (xn_then (w_seq (w_block (w_seq (w_reg ?_))))))))
        refine wl_m (.tmp 5) (.int .i64 (1)) ?_
        refine wl_m (.tmp 0) (.slice pl L.length cl) ?_
        refine wl_f 25 0 (.tmp 3) (pt k1 0) (pt k1 0) ?_
        refine wl_l 3 (.tmp 28) (pt k1 0) (.int .i64 (r.s)) (run_one Q1 3 0 rfl Tryd.underlying3 rfl) ?_
        refine wl_bin (fun x y => Instr.indexAt 22 x y) (.tmp 27) (.tmp 29) (.slice pl L.length cl) (.int .i64 (r.s)) (pt bp (op + r.s.toNat * 5)) (fun _ => rfl) rfl rfl (ix22I hs0 hpp hly _) rfl ?_
        refine wl_f 65 1 (.tmp 30) (pt bp (op + r.s.toNat * 5)) (pt bp (op + r.s.toNat * 5 + 1)) ?_
        refine wl_l 3 (.tmp 31) (pt bp (op + r.s.toNat * 5 + 1)) (.int .i64 (y.dp)) (D.run_oneR (hRp.mo M).at' 3 1 rfl Tryd.underlying3 rfl) ?_
        refine wl_b .sub 3 (.tmp 32) (.const (.int .i64 (1))) (.int .i64 (y.dp)) (.int .i64 (1)) (.int .i64 (y.dp - 1)) (subI rfl (by omega) (by omega) _ _ _) ?_
        refine wl_b .lss 3 (.tmp 26) (.tmp 33) (.int .i64 (1)) (.int .i64 (y.dp - 1)) (.bool true) (lt3 (decide_eq_true (by omega)) _ _ _) ?_
        refine wl_m (.tmp 34) (.bool true) ?_
        refine w_nil (xn_then (w_seq (w_reg ?_)))
        refine wl_m (.tmp 6) (.bool true) ?_
        refine wl_m (.tmp 35) (.bool true) ?_
        refine wl_m (.tmp 5) (.int .i64 (1)) ?_
        refine wl_f 25 1 (.tmp 3) (pt k1 0) (pt k1 1) ?_
        refine wl_bin (fun x y => Instr.indexAt 23 x y) (.tmp 38) (.tmp 37) (pt k1 1) (.int .i64 (1)) (pt k1 2) (fun _ => rfl) rfl rfl (by kernel_rfl) rfl ?_
        refine wl_l 2 (.tmp 39) (pt k1 2) (.int .i64 (r.b)) (run_one Q1 2 2 rfl Tryd.underlying2 rfl) ?_
        cases hf7 : idk r.b with
        | true =>
         refine wl_call 33 [(.tmp 40)] _ [.int .i64 (r.b)] (.bool true) rfl rfl (fun _ _ => by kernel_rfl) (cB hf7 (id_n r.b _)) rfl ?_
         intro u4 hq
         replace Q1 := Q1.mo hq
         replace M := M.trans hq
         clear hq
         refine wl_un (fun v => Op.unary .not v) (.tmp 41) (.bool true) (.bool false) (fun _ => rfl) rfl (by kernel_rfl) rfl ?_
         refine wl_pick (.tmp 36) (.tmp 42) (.const (.bool false)) true (.bool false) (fun _ => rfl) rfl rfl rfl ?_
         refine wl_m (.tmp 43) (.bool false) ?_
         refine wl_m (.tmp 6) (.bool true) ?_
         refine wl_un (fun v => Op.unary .not v) (.tmp 45) (.bool true) (.bool false) (fun _ => rfl) rfl (by kernel_rfl) rfl ?_
         refine wl_m (.tmp 46) (.bool false) ?_
         refine wl_skip rfl (wl_skip rfl (wl_skip rfl (wl_skip rfl (wl_skip rfl ?_))))
         refine wl_pick (.tmp 47) (.tmp 52) (.const (.bool false)) false (.bool false) (fun _ => rfl) rfl rfl rfl ?_
         refine wl_pick (.tmp 44) (.const (.bool true)) (.tmp 53) false (.bool false) (fun _ => rfl) rfl rfl rfl ?_
         refine w_nil (xn_then (w_condF rfl (w_skip (xn_blk (xn_then (w_reg ?_))))))
         refine wl_m (.tmp 5) (.int .i64 (1)) ?_
         refine wl_b .add 3 (.tmp 24) (.const (.int .i64 (1))) (.int .i64 (1)) (.int .i64 (1)) (.int .i64 (2)) (by kernel_rfl) ?_
         refine wl_m (.tmp 25) (.int .i64 (2)) ?_
         refine w_nil ?_
         refine xn_rounds ?_
         refine w_seq (w_seq (w_reg ?_))
         refine wl_m (.tmp 5) (.int .i64 (2)) ?_
         refine wl_b .lss 3 (.tmp 22) (.const (.int .i64 (3))) (.int .i64 (2)) (.int .i64 (3)) (.bool true) (lt3 (r := true) rfl _ _ _) ?_
         refine w_nil (xn_then (w_condT rfl (w_skip (xn_then (w_seq (w_block (w_seq (w_reg ?_))))))))
         refine wl_m (.tmp 5) (.int .i64 (2)) ?_
         refine wl_m (.tmp 0) (.slice pl L.length cl) ?_
         refine wl_f 25 0 (.tmp 3) (pt k1 0) (pt k1 0) ?_
         refine wl_l 3 (.tmp 28) (pt k1 0) (.int .i64 (r.s)) (run_one Q1 3 0 rfl Tryd.underlying3 rfl) ?_
         refine wl_bin (fun x y => Instr.indexAt 22 x y) (.tmp 27) (.tmp 29) (.slice pl L.length cl) (.int .i64 (r.s)) (pt bp (op + r.s.toNat * 5)) (fun _ => rfl) rfl rfl (ix22I hs0 hpp hly _) rfl ?_
         refine wl_f 65 1 (.tmp 30) (pt bp (op + r.s.toNat * 5)) (pt bp (op + r.s.toNat * 5 + 1)) ?_
         refine wl_l 3 (.tmp 31) (pt bp (op + r.s.toNat * 5 + 1)) (.int .i64 (y.dp)) (D.run_oneR (hRp.mo M).at' 3 1 rfl Tryd.underlying3 rfl) ?_
         refine wl_b .sub 3 (.tmp 32) (.const (.int .i64 (1))) (.int .i64 (y.dp)) (.int .i64 (1)) (.int .i64 (y.dp - 1)) (subI rfl (by omega) (by omega) _ _ _) ?_
         refine wl_b .lss 3 (.tmp 26) (.tmp 33) (.int .i64 (2)) (.int .i64 (y.dp - 1)) (.bool false) (lt3 (decide_eq_false (by omega)) _ _ _) ?_
         refine wl_m (.tmp 34) (.bool false) ?_
         refine w_nil (xn_then (w_seq (w_reg ?_)))
         refine wl_m (.tmp 6) (.bool false) ?_
         refine wl_m (.tmp 35) (.bool false) ?_
         refine wl_skip rfl (wl_skip rfl (wl_skip rfl (wl_skip rfl (wl_skip rfl (wl_skip rfl ?_)))))
         refine wl_pick (.tmp 36) (.tmp 42) (.const (.bool false)) false (.bool false) (fun _ => rfl) rfl rfl rfl ?_
         refine wl_m (.tmp 43) (.bool false) ?_
         refine wl_m (.tmp 6) (.bool false) ?_
         refine wl_un (fun v => Op.unary .not v) (.tmp 45) (.bool false) (.bool true) (fun _ => rfl) rfl (by kernel_rfl) rfl ?_
         refine wl_m (.tmp 46) (.bool true) ?_
         refine wl_m (.tmp 5) (.int .i64 (2)) ?_
         refine wl_f 25 1 (.tmp 3) (pt k1 0) (pt k1 1) ?_
         refine wl_bin (fun x y => Instr.indexAt 23 x y) (.tmp 49) (.tmp 48) (pt k1 1) (.int .i64 (2)) (pt k1 3) (fun _ => rfl) rfl rfl (by kernel_rfl) rfl ?_
         refine wl_l 2 (.tmp 50) (pt k1 3) (.int .i64 (r.c)) (run_one Q1 2 3 rfl Tryd.underlying2 rfl) ?_
         cases hf8 : decide (r.c = 0) with
         | true =>
          have hf8p := of_decide_eq_true hf8
          refine wl_b .neq 2 (.tmp 51) (.const (.int .i64 (0))) (.int .i64 (r.c)) (.int .i64 (0)) (.bool false) (ne2 hf8 _ _ _) ?_
          refine wl_pick (.tmp 47) (.tmp 52) (.const (.bool false)) true (.bool false) (fun _ => rfl) rfl rfl rfl ?_
          refine wl_pick (.tmp 44) (.const (.bool true)) (.tmp 53) false (.bool false) (fun _ => rfl) rfl rfl rfl ?_
          refine w_nil (xn_then (w_condF rfl (w_skip (xn_blk (xn_then (w_reg ?_))))))
          refine wl_m (.tmp 5) (.int .i64 (2)) ?_
          refine wl_b .add 3 (.tmp 24) (.const (.int .i64 (1))) (.int .i64 (2)) (.int .i64 (1)) (.int .i64 (3)) (by kernel_rfl) ?_
          refine wl_m (.tmp 25) (.int .i64 (3)) ?_
          refine w_nil ?_
          refine xn_rounds ?_
          refine w_seq (w_seq (w_reg ?_))
          refine wl_m (.tmp 5) (.int .i64 (3)) ?_
          refine wl_b .lss 3 (.tmp 22) (.const (.int .i64 (3))) (.int .i64 (3)) (.int .i64 (3)) (.bool false) (lt3 (r := false) rfl _ _ _) ?_
          refine w_nil (xn_then (w_condF rfl (w_exit (xx_then (xx_then (xx_blk (xn_then (w_seq (w_reg ?_)))))))))
          refine wl_m (.const (.int .i64 (0))) (.int .i64 (0)) ?_
          refine w_nil (xn_then (w_ret ?_))
          exact w_ret1 _ (.int .i64 (0)) rfl rfl ⟨congrArg (fun v => Ending.returned (.int .i64 v)) (Eq.symm (ck_yes hf0 hs0 (by omega) hy (by simp [ids, idu, hf5p, hf6, hf7, hf8p]))), M⟩
         | false =>
          have hf8p := of_decide_eq_false hf8
          refine wl_b .neq 2 (.tmp 51) (.const (.int .i64 (0))) (.int .i64 (r.c)) (.int .i64 (0)) (.bool true) (ne2 hf8 _ _ _) ?_
          refine wl_pick (.tmp 47) (.tmp 52) (.const (.bool false)) true (.bool true) (fun _ => rfl) rfl rfl rfl ?_
          refine wl_pick (.tmp 44) (.const (.bool true)) (.tmp 53) false (.bool true) (fun _ => rfl) rfl rfl rfl ?_
          refine w_nil (xn_then (w_condT rfl (w_seq (w_reg ?_))))
          refine wl_m (.const (.int .i64 (150))) (.int .i64 (150)) ?_
          refine w_nil (xn_then (w_ret (xr_blk (xr_then (xr_then (xr_blk (xr_then ?_)))))))
          exact w_ret1 _ (.int .i64 (150)) rfl rfl ⟨congrArg (fun v => Ending.returned (.int .i64 v)) (ck_n3 hy (by simp [ids, idu, hf5p, hf6, hf7, hf8p])).symm, M⟩
        | false =>
         refine wl_call 33 [(.tmp 40)] _ [.int .i64 (r.b)] (.bool false) rfl rfl (fun _ _ => by kernel_rfl) (cB hf7 (id_n r.b _)) rfl ?_
         intro u4 hq
         replace Q1 := Q1.mo hq
         replace M := M.trans hq
         clear hq
         refine wl_un (fun v => Op.unary .not v) (.tmp 41) (.bool false) (.bool true) (fun _ => rfl) rfl (by kernel_rfl) rfl ?_
         refine wl_pick (.tmp 36) (.tmp 42) (.const (.bool false)) true (.bool true) (fun _ => rfl) rfl rfl rfl ?_
         refine wl_m (.tmp 43) (.bool true) ?_
         refine wl_skip rfl (wl_skip rfl (wl_skip rfl (wl_skip rfl (wl_skip rfl (wl_skip rfl (wl_skip rfl (wl_skip rfl (wl_skip rfl ?_))))))))
         refine wl_pick (.tmp 44) (.const (.bool true)) (.tmp 53) true (.bool true) (fun _ => rfl) rfl rfl rfl ?_
         refine w_nil (xn_then (w_condT rfl (w_seq (w_reg ?_))))
         refine wl_m (.const (.int .i64 (150))) (.int .i64 (150)) ?_
         refine w_nil (xn_then (w_ret (xr_blk (xr_then (xr_then (xr_blk (xr_then ?_)))))))
         exact w_ret1 _ (.int .i64 (150)) rfl rfl ⟨congrArg (fun v => Ending.returned (.int .i64 v)) (ck_n3 hy (by simp [ids, idu, hf5p, hf6, hf7])).symm, M⟩
       | false =>
        refine wl_call 33 [(.tmp 40)] _ [.int .i64 (r.a)] (.bool false) rfl rfl (fun _ _ => by kernel_rfl) (cB hf6 (id_n r.a _)) rfl ?_
        intro u3 hq
        replace Q1 := Q1.mo hq
        replace M := M.trans hq
        clear hq
        refine wl_un (fun v => Op.unary .not v) (.tmp 41) (.bool false) (.bool true) (fun _ => rfl) rfl (by kernel_rfl) rfl ?_
        refine wl_pick (.tmp 36) (.tmp 42) (.const (.bool false)) true (.bool true) (fun _ => rfl) rfl rfl rfl ?_
        refine wl_m (.tmp 43) (.bool true) ?_
        refine wl_skip rfl (wl_skip rfl (wl_skip rfl (wl_skip rfl (wl_skip rfl (wl_skip rfl (wl_skip rfl (wl_skip rfl (wl_skip rfl ?_))))))))
        refine wl_pick (.tmp 44) (.const (.bool true)) (.tmp 53) true (.bool true) (fun _ => rfl) rfl rfl rfl ?_
        refine w_nil (xn_then (w_condT rfl (w_seq (w_reg ?_))))
        refine wl_m (.const (.int .i64 (150))) (.int .i64 (150)) ?_
        refine w_nil (xn_then (w_ret (xr_blk (xr_then (xr_then (xr_blk (xr_then ?_)))))))
        exact w_ret1 _ (.int .i64 (150)) rfl rfl ⟨congrArg (fun v => Ending.returned (.int .i64 v)) (ck_n3 hy (by simp [ids, idu, hf5p, hf6])).symm, M⟩
      | false =>
       have hf5p := of_decide_eq_false hf5
       refine wl_b .lss 3 (.tmp 26) (.tmp 33) (.int .i64 (0)) (.int .i64 (y.dp - 1)) (.bool true) (lt3 (decide_eq_true (by omega)) _ _ _) ?_
       refine wl_m (.tmp 34) (.bool true) ?_
       refine w_nil (xn_then (w_seq (w_reg ?_)))
       refine wl_m (.tmp 6) (.bool true) ?_
       refine wl_m (.tmp 35) (.bool true) ?_
       refine wl_m (.tmp 5) (.int .i64 (0)) ?_
       refine wl_f 25 1 (.tmp 3) (pt k1 0) (pt k1 1) ?_
       refine wl_bin (fun x y => Instr.indexAt 23 x y) (.tmp 38) (.tmp 37) (pt k1 1) (.int .i64 (0)) (pt k1 1) (fun _ => rfl) rfl rfl (by kernel_rfl) rfl ?_
       refine wl_l 2 (.tmp 39) (pt k1 1) (.int .i64 (r.a)) (run_one Q1 2 1 rfl Tryd.underlying2 rfl) ?_
       cases hf6 : idk r.a with
       | true =>
        refine wl_call 33 [(.tmp 40)] _ [.int .i64 (r.a)] (.bool true) rfl rfl (fun _ _ => by kernel_rfl) (cB hf6 (id_n r.a _)) rfl ?_
        intro u3 hq
        replace Q1 := Q1.mo hq
        replace M := M.trans hq
        clear hq
        refine wl_un (fun v => Op.unary .not v) (.tmp 41) (.bool true) (.bool false) (fun _ => rfl) rfl (by kernel_rfl) rfl ?_
        refine wl_pick (.tmp 36) (.tmp 42) (.const (.bool false)) true (.bool false) (fun _ => rfl) rfl rfl rfl ?_
        refine wl_m (.tmp 43) (.bool false) ?_
        refine wl_m (.tmp 6) (.bool true) ?_
        refine wl_un (fun v => Op.unary .not v) (.tmp 45) (.bool true) (.bool false) (fun _ => rfl) rfl (by kernel_rfl) rfl ?_
        refine wl_m (.tmp 46) (.bool false) ?_
        refine wl_skip rfl (wl_skip rfl (wl_skip rfl (wl_skip rfl (wl_skip rfl ?_))))
        refine wl_pick (.tmp 47) (.tmp 52) (.const (.bool false)) false (.bool false) (fun _ => rfl) rfl rfl rfl ?_
        refine wl_pick (.tmp 44) (.const (.bool true)) (.tmp 53) false (.bool false) (fun _ => rfl) rfl rfl rfl ?_
        refine w_nil (xn_then (w_condF rfl (w_skip (xn_blk (xn_then (w_reg ?_))))))
        refine wl_m (.tmp 5) (.int .i64 (0)) ?_
        refine wl_b .add 3 (.tmp 24) (.const (.int .i64 (1))) (.int .i64 (0)) (.int .i64 (1)) (.int .i64 (1)) (by kernel_rfl) ?_
        refine wl_m (.tmp 25) (.int .i64 (1)) ?_
        refine w_nil ?_
        refine xn_rounds ?_
        refine w_seq (w_seq (w_reg ?_))
        refine wl_m (.tmp 5) (.int .i64 (1)) ?_
        refine wl_b .lss 3 (.tmp 22) (.const (.int .i64 (3))) (.int .i64 (1)) (.int .i64 (3)) (.bool true) (lt3 (r := true) rfl _ _ _) ?_
        refine w_nil (xn_then (w_condT rfl (w_skip (xn_then (w_seq (w_block (w_seq (w_reg ?_))))))))
        refine wl_m (.tmp 5) (.int .i64 (1)) ?_
        refine wl_m (.tmp 0) (.slice pl L.length cl) ?_
        refine wl_f 25 0 (.tmp 3) (pt k1 0) (pt k1 0) ?_
        refine wl_l 3 (.tmp 28) (pt k1 0) (.int .i64 (r.s)) (run_one Q1 3 0 rfl Tryd.underlying3 rfl) ?_
        refine wl_bin (fun x y => Instr.indexAt 22 x y) (.tmp 27) (.tmp 29) (.slice pl L.length cl) (.int .i64 (r.s)) (pt bp (op + r.s.toNat * 5)) (fun _ => rfl) rfl rfl (ix22I hs0 hpp hly _) rfl ?_
        refine wl_f 65 1 (.tmp 30) (pt bp (op + r.s.toNat * 5)) (pt bp (op + r.s.toNat * 5 + 1)) ?_
        refine wl_l 3 (.tmp 31) (pt bp (op + r.s.toNat * 5 + 1)) (.int .i64 (y.dp)) (D.run_oneR (hRp.mo M).at' 3 1 rfl Tryd.underlying3 rfl) ?_
        refine wl_b .sub 3 (.tmp 32) (.const (.int .i64 (1))) (.int .i64 (y.dp)) (.int .i64 (1)) (.int .i64 (y.dp - 1)) (subI rfl (by omega) (by omega) _ _ _) ?_
        refine wl_b .lss 3 (.tmp 26) (.tmp 33) (.int .i64 (1)) (.int .i64 (y.dp - 1)) (.bool true) (lt3 (decide_eq_true (by omega)) _ _ _) ?_
        refine wl_m (.tmp 34) (.bool true) ?_
        refine w_nil (xn_then (w_seq (w_reg ?_)))
        refine wl_m (.tmp 6) (.bool true) ?_
        refine wl_m (.tmp 35) (.bool true) ?_
        refine wl_m (.tmp 5) (.int .i64 (1)) ?_
        refine wl_f 25 1 (.tmp 3) (pt k1 0) (pt k1 1) ?_
        refine wl_bin (fun x y => Instr.indexAt 23 x y) (.tmp 38) (.tmp 37) (pt k1 1) (.int .i64 (1)) (pt k1 2) (fun _ => rfl) rfl rfl (by kernel_rfl) rfl ?_
        refine wl_l 2 (.tmp 39) (pt k1 2) (.int .i64 (r.b)) (run_one Q1 2 2 rfl Tryd.underlying2 rfl) ?_
        cases hf7 : idk r.b with
        | true =>
         refine wl_call 33 [(.tmp 40)] _ [.int .i64 (r.b)] (.bool true) rfl rfl (fun _ _ => by kernel_rfl) (cB hf7 (id_n r.b _)) rfl ?_
         intro u4 hq
         replace Q1 := Q1.mo hq
         replace M := M.trans hq
         clear hq
         refine wl_un (fun v => Op.unary .not v) (.tmp 41) (.bool true) (.bool false) (fun _ => rfl) rfl (by kernel_rfl) rfl ?_
         refine wl_pick (.tmp 36) (.tmp 42) (.const (.bool false)) true (.bool false) (fun _ => rfl) rfl rfl rfl ?_
         refine wl_m (.tmp 43) (.bool false) ?_
         refine wl_m (.tmp 6) (.bool true) ?_
         refine wl_un (fun v => Op.unary .not v) (.tmp 45) (.bool true) (.bool false) (fun _ => rfl) rfl (by kernel_rfl) rfl ?_
         refine wl_m (.tmp 46) (.bool false) ?_
         refine wl_skip rfl (wl_skip rfl (wl_skip rfl (wl_skip rfl (wl_skip rfl ?_))))
         refine wl_pick (.tmp 47) (.tmp 52) (.const (.bool false)) false (.bool false) (fun _ => rfl) rfl rfl rfl ?_
         refine wl_pick (.tmp 44) (.const (.bool true)) (.tmp 53) false (.bool false) (fun _ => rfl) rfl rfl rfl ?_
         refine w_nil (xn_then (w_condF rfl (w_skip (xn_blk (xn_then (w_reg ?_))))))
         refine wl_m (.tmp 5) (.int .i64 (1)) ?_
         refine wl_b .add 3 (.tmp 24) (.const (.int .i64 (1))) (.int .i64 (1)) (.int .i64 (1)) (.int .i64 (2)) (by kernel_rfl) ?_
         refine wl_m (.tmp 25) (.int .i64 (2)) ?_
         refine w_nil ?_
         refine xn_rounds ?_
         refine w_seq (w_seq (w_reg ?_))
         refine wl_m (.tmp 5) (.int .i64 (2)) ?_
         refine wl_b .lss 3 (.tmp 22) (.const (.int .i64 (3))) (.int .i64 (2)) (.int .i64 (3)) (.bool true) (lt3 (r := true) rfl _ _ _) ?_
         refine w_nil (xn_then (w_condT rfl (w_skip (xn_then (w_seq (w_block (w_seq (w_reg ?_))))))))
         refine wl_m (.tmp 5) (.int .i64 (2)) ?_
         refine wl_m (.tmp 0) (.slice pl L.length cl) ?_
         refine wl_f 25 0 (.tmp 3) (pt k1 0) (pt k1 0) ?_
         refine wl_l 3 (.tmp 28) (pt k1 0) (.int .i64 (r.s)) (run_one Q1 3 0 rfl Tryd.underlying3 rfl) ?_
         refine wl_bin (fun x y => Instr.indexAt 22 x y) (.tmp 27) (.tmp 29) (.slice pl L.length cl) (.int .i64 (r.s)) (pt bp (op + r.s.toNat * 5)) (fun _ => rfl) rfl rfl (ix22I hs0 hpp hly _) rfl ?_
         refine wl_f 65 1 (.tmp 30) (pt bp (op + r.s.toNat * 5)) (pt bp (op + r.s.toNat * 5 + 1)) ?_
         refine wl_l 3 (.tmp 31) (pt bp (op + r.s.toNat * 5 + 1)) (.int .i64 (y.dp)) (D.run_oneR (hRp.mo M).at' 3 1 rfl Tryd.underlying3 rfl) ?_
         refine wl_b .sub 3 (.tmp 32) (.const (.int .i64 (1))) (.int .i64 (y.dp)) (.int .i64 (1)) (.int .i64 (y.dp - 1)) (subI rfl (by omega) (by omega) _ _ _) ?_
         refine wl_b .lss 3 (.tmp 26) (.tmp 33) (.int .i64 (2)) (.int .i64 (y.dp - 1)) (.bool true) (lt3 (decide_eq_true (by omega)) _ _ _) ?_
         refine wl_m (.tmp 34) (.bool true) ?_
         refine w_nil (xn_then (w_seq (w_reg ?_)))
         refine wl_m (.tmp 6) (.bool true) ?_
         refine wl_m (.tmp 35) (.bool true) ?_
         refine wl_m (.tmp 5) (.int .i64 (2)) ?_
         refine wl_f 25 1 (.tmp 3) (pt k1 0) (pt k1 1) ?_
         refine wl_bin (fun x y => Instr.indexAt 23 x y) (.tmp 38) (.tmp 37) (pt k1 1) (.int .i64 (2)) (pt k1 3) (fun _ => rfl) rfl rfl (by kernel_rfl) rfl ?_
         refine wl_l 2 (.tmp 39) (pt k1 3) (.int .i64 (r.c)) (run_one Q1 2 3 rfl Tryd.underlying2 rfl) ?_
         cases hf8 : idk r.c with
         | true =>
          refine wl_call 33 [(.tmp 40)] _ [.int .i64 (r.c)] (.bool true) rfl rfl (fun _ _ => by kernel_rfl) (cB hf8 (id_n r.c _)) rfl ?_
          intro u5 hq
          replace Q1 := Q1.mo hq
          replace M := M.trans hq
          clear hq
          refine wl_un (fun v => Op.unary .not v) (.tmp 41) (.bool true) (.bool false) (fun _ => rfl) rfl (by kernel_rfl) rfl ?_
          refine wl_pick (.tmp 36) (.tmp 42) (.const (.bool false)) true (.bool false) (fun _ => rfl) rfl rfl rfl ?_
          refine wl_m (.tmp 43) (.bool false) ?_
          refine wl_m (.tmp 6) (.bool true) ?_
          refine wl_un (fun v => Op.unary .not v) (.tmp 45) (.bool true) (.bool false) (fun _ => rfl) rfl (by kernel_rfl) rfl ?_
          refine wl_m (.tmp 46) (.bool false) ?_
          refine wl_skip rfl (wl_skip rfl (wl_skip rfl (wl_skip rfl (wl_skip rfl ?_))))
          refine wl_pick (.tmp 47) (.tmp 52) (.const (.bool false)) false (.bool false) (fun _ => rfl) rfl rfl rfl ?_
          refine wl_pick (.tmp 44) (.const (.bool true)) (.tmp 53) false (.bool false) (fun _ => rfl) rfl rfl rfl ?_
          refine w_nil (xn_then (w_condF rfl (w_skip (xn_blk (xn_then (w_reg ?_))))))
          refine wl_m (.tmp 5) (.int .i64 (2)) ?_
          refine wl_b .add 3 (.tmp 24) (.const (.int .i64 (1))) (.int .i64 (2)) (.int .i64 (1)) (.int .i64 (3)) (by kernel_rfl) ?_
          refine wl_m (.tmp 25) (.int .i64 (3)) ?_
          refine w_nil ?_
          refine xn_rounds ?_
          refine w_seq (w_seq (w_reg ?_))
          refine wl_m (.tmp 5) (.int .i64 (3)) ?_
          refine wl_b .lss 3 (.tmp 22) (.const (.int .i64 (3))) (.int .i64 (3)) (.int .i64 (3)) (.bool false) (lt3 (r := false) rfl _ _ _) ?_
          refine w_nil (xn_then (w_condF rfl (w_exit (xx_then (xx_then (xx_blk (xn_then (w_seq (w_reg ?_)))))))))
          refine wl_m (.const (.int .i64 (0))) (.int .i64 (0)) ?_
          refine w_nil (xn_then (w_ret ?_))
          exact w_ret1 _ (.int .i64 (0)) rfl rfl ⟨congrArg (fun v => Ending.returned (.int .i64 v)) (Eq.symm (ck_yes hf0 hs0 (by omega) hy (by simp [ids, idu, (show y.dp = 4 by omega), hf6, hf7, hf8]))), M⟩
         | false =>
          refine wl_call 33 [(.tmp 40)] _ [.int .i64 (r.c)] (.bool false) rfl rfl (fun _ _ => by kernel_rfl) (cB hf8 (id_n r.c _)) rfl ?_
          intro u5 hq
          replace Q1 := Q1.mo hq
          replace M := M.trans hq
          clear hq
          refine wl_un (fun v => Op.unary .not v) (.tmp 41) (.bool false) (.bool true) (fun _ => rfl) rfl (by kernel_rfl) rfl ?_
          refine wl_pick (.tmp 36) (.tmp 42) (.const (.bool false)) true (.bool true) (fun _ => rfl) rfl rfl rfl ?_
          refine wl_m (.tmp 43) (.bool true) ?_
          refine wl_skip rfl (wl_skip rfl (wl_skip rfl (wl_skip rfl (wl_skip rfl (wl_skip rfl (wl_skip rfl (wl_skip rfl (wl_skip rfl ?_))))))))
          refine wl_pick (.tmp 44) (.const (.bool true)) (.tmp 53) true (.bool true) (fun _ => rfl) rfl rfl rfl ?_
          refine w_nil (xn_then (w_condT rfl (w_seq (w_reg ?_))))
          refine wl_m (.const (.int .i64 (150))) (.int .i64 (150)) ?_
          refine w_nil (xn_then (w_ret (xr_blk (xr_then (xr_then (xr_blk (xr_then ?_)))))))
          exact w_ret1 _ (.int .i64 (150)) rfl rfl ⟨congrArg (fun v => Ending.returned (.int .i64 v)) (ck_n3 hy (by simp [ids, idu, (show y.dp = 4 by omega), hf6, hf7, hf8])).symm, M⟩
        | false =>
         refine wl_call 33 [(.tmp 40)] _ [.int .i64 (r.b)] (.bool false) rfl rfl (fun _ _ => by kernel_rfl) (cB hf7 (id_n r.b _)) rfl ?_
         intro u4 hq
         replace Q1 := Q1.mo hq
         replace M := M.trans hq
         clear hq
         refine wl_un (fun v => Op.unary .not v) (.tmp 41) (.bool false) (.bool true) (fun _ => rfl) rfl (by kernel_rfl) rfl ?_
         refine wl_pick (.tmp 36) (.tmp 42) (.const (.bool false)) true (.bool true) (fun _ => rfl) rfl rfl rfl ?_
         refine wl_m (.tmp 43) (.bool true) ?_
         refine wl_skip rfl (wl_skip rfl (wl_skip rfl (wl_skip rfl (wl_skip rfl (wl_skip rfl (wl_skip rfl (wl_skip rfl (wl_skip rfl ?_))))))))
         refine wl_pick (.tmp 44) (.const (.bool true)) (.tmp 53) true (.bool true) (fun _ => rfl) rfl rfl rfl ?_
         refine w_nil (xn_then (w_condT rfl (w_seq (w_reg ?_))))
         refine wl_m (.const (.int .i64 (150))) (.int .i64 (150)) ?_
         refine w_nil (xn_then (w_ret (xr_blk (xr_then (xr_then (xr_blk (xr_then ?_)))))))
         exact w_ret1 _ (.int .i64 (150)) rfl rfl ⟨congrArg (fun v => Ending.returned (.int .i64 v)) (ck_n3 hy (by simp [ids, idu, (show y.dp = 4 by omega), hf6, hf7])).symm, M⟩
       | false =>
        refine wl_call 33 [(.tmp 40)] _ [.int .i64 (r.a)] (.bool false) rfl rfl (fun _ _ => by kernel_rfl) (cB hf6 (id_n r.a _)) rfl ?_
        intro u3 hq
        replace Q1 := Q1.mo hq
        replace M := M.trans hq
        clear hq
        refine wl_un (fun v => Op.unary .not v) (.tmp 41) (.bool false) (.bool true) (fun _ => rfl) rfl (by kernel_rfl) rfl ?_
        refine wl_pick (.tmp 36) (.tmp 42) (.const (.bool false)) true (.bool true) (fun _ => rfl) rfl rfl rfl ?_
        refine wl_m (.tmp 43) (.bool true) ?_
        refine wl_skip rfl (wl_skip rfl (wl_skip rfl (wl_skip rfl (wl_skip rfl (wl_skip rfl (wl_skip rfl (wl_skip rfl (wl_skip rfl ?_))))))))
        refine wl_pick (.tmp 44) (.const (.bool true)) (.tmp 53) true (.bool true) (fun _ => rfl) rfl rfl rfl ?_
        refine w_nil (xn_then (w_condT rfl (w_seq (w_reg ?_))))
        refine wl_m (.const (.int .i64 (150))) (.int .i64 (150)) ?_
        refine w_nil (xn_then (w_ret (xr_blk (xr_then (xr_then (xr_blk (xr_then ?_)))))))
        exact w_ret1 _ (.int .i64 (150)) rfl rfl ⟨congrArg (fun v => Ending.returned (.int .i64 v)) (ck_n3 hy (by simp [ids, idu, (show y.dp = 4 by omega), hf6])).symm, M⟩
 | false =>
  refine wl_call 32 [(.tmp 7)] _ [.slice pl L.length cl] (.bool false) rfl rfl (fun _ _ => by kernel_rfl) (cB hf0 (sound_n _ (hL.mo M))) rfl ?_
  intro u2 hq
  replace Q1 := Q1.mo hq
  replace M := M.trans hq
  clear hq
  refine wl_un (fun v => Op.unary .not v) (.tmp 8) (.bool false) (.bool true) (fun _ => rfl) rfl (by kernel_rfl) rfl ?_
  refine wl_m (.tmp 9) (.bool true) ?_
  refine wl_skip rfl (wl_skip rfl (wl_skip rfl ?_))
  refine wl_pick (.tmp 10) (.const (.bool true)) (.tmp 13) true (.bool true) (fun _ => rfl) rfl rfl rfl ?_
  refine wl_m (.tmp 14) (.bool true) ?_
  refine wl_skip rfl (wl_skip rfl (wl_skip rfl (wl_skip rfl (wl_skip rfl ?_))))
  refine wl_pick (.tmp 15) (.const (.bool true)) (.tmp 20) true (.bool true) (fun _ => rfl) rfl rfl rfl ?_
  refine w_nil (xn_then (w_condT rfl (w_seq (w_reg ?_))))
  refine wl_m (.const (.int .i64 (150))) (.int .i64 (150)) ?_
  refine w_nil (xn_then (w_ret (xr_then ?_)))
  exact w_ret1 _ (.int .i64 (150)) rfl rfl ⟨congrArg (fun v => Ending.returned (.int .i64 v)) (ck_n1 hf0).symm, M⟩
end Go.Proofs.YtnffhcjmpjajlaaDoor

