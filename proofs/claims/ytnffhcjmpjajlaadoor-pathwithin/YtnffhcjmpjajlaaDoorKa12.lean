/-
  A part of the proof.
-/
import Derived.Test.YtnffhcjmpjajlaaDoorKa11
import Derived.Test.YtnffhcjmpjajlaaDoorKa6
import Derived.Test.YtnffhcjmpjajlaaDoorKa5
import Derived.Test.YtnffhcjmpjajlaaDoorKa4
import Derived.Test.YtnffhcjmpjajlaaDoorKa3
import Derived.Test.YtnffhcjmpjajlaaDoorKa2
import Derived.Test.YtnffhcjmpjajlaaDoorKa1
import Derived.RegionTactic
import Derived.Test.YtnffhcjmpjajlaaDoorProg
import Derived.WalkKit
import Derived.WalkSpells
import Derived.Handy
import Derived.BigQuiet
import Derived.Deep.RegionHeld3
import Derived.Deep.MidRow
import Derived.BigCall
import Derived.ChangeKeysEq
import Derived.Shelf.Small.Bits
import Derived.Shelf.Strconv.Itoa0
import Derived.Shelf.Bits.Mul64
import Derived.Deep.CutRange
import Derived.Deep.CutBlock
import Derived.ScopeJumps
import Derived.WalkMore
import Derived.Laws.StructEq
import Derived.Lib.CutLaws
import Derived.Maps.OwnSet
import Derived.WalkArith
import Derived.StringKeys
import Derived.ProofKit
import Derived.OpenShut
import Derived.ChangeArms
import Derived.Deep.Slices
import Derived.ReadAgain
import Derived.WideKeyArgs
import Derived.Maps.AppendAt
import Derived.Test.YtnffhcjmpjajlaaDoorKa8
import Derived.Shelf.Strconv.Itoa4
import Derived.Test.YtnffhcjmpjajlaaDoorKa10
import Derived.Test.YtnffhcjmpjajlaaDoorKa9
import Derived.Lib.IndexBytes
import Derived.Lib.AppendIntMem
import Derived.Lib.ItoaLen
namespace Go.Proofs.YtnffhcjmpjajlaaDoor.V
open Go.RowKit D
theorem txN_bd {l : List S5} (hn : ∀ x ∈ l, x.nm.size ≤ 140737488355328) : ∀ (n : Nat) (r : Ro) (b : ByteArray), ckR l r = 0 → (b.size : Int) + dpA l r.s.toNat * 200000000000000 ≤ 1000000000000000 → ((txN l n r b).size : Int) ≤ 1000000000000000
 | 0, r, b, h, hb => by
  obtain ⟨hsn, a0, a1, _⟩ := ck_0 h
  obtain ⟨y, hy⟩ := get_of_lt (show r.s.toNat < l.length by omega)
  have := dp_at hsn hy
  rw [dpA_at hy] at hb
  rw [txN]; omega
 | n + 1, r, b, h, hb => by
  obtain ⟨hsn, a0, a1, _⟩ := ck_0 h
  obtain ⟨y, hy⟩ := get_of_lt (show r.s.toNat < l.length by omega)
  have := dp_at hsn hy
  rw [txN]
  split
  ·rw [dpA_at hy] at hb; omega
  next e =>
   have hp := par_v' h e
   rw [par_u hp]
   refine txN_bd hn n _ _ (par_ck h e) ?_
   rw [seg_cat b hy, par_dp h e]
   exact szn hb (hn y (List.mem_of_getElem? hy)) (itz h e)
theorem txR_bd {l : List S5} (hn : ∀ x ∈ l, x.nm.size ≤ 140737488355328) (r : Ro) : (txR l r).size ≤ 1000000000000000 := by
 unfold txR
 split
 next h =>
  split
  ·show 1 ≤ _; omega
  ·have := txN_bd hn r.s.toNat r ⟨#[]⟩ h (tx_sz h)
   unfold txW; omega
 next => show 1 ≤ _; omega
def txC (l : List S5) (c : Ce) : ByteArray := if ckC l c = 0 then catB (catB (txR l c.r) ⟨#[46]⟩) (nmA l c.r.s c.i) else ⟨#[63]⟩
theorem szd {a b : ByteArray} (ha : a.size ≤ 1000000000000000) (hb : b.size ≤ 140737488355328) : a.size + (⟨#[46]⟩ : ByteArray).size ≤ 9223372036854775807 ∧ (catB a ⟨#[46]⟩).size + b.size ≤ 9223372036854775807 := by
 unfold catB; simp only [ByteArray.size_append, s46]; omega
theorem cc_0 {l : List S5} {c : Ce} (h : ckC l c = 0) : ckR l c.r = 0 ∧ 0 ≤ c.i ∧ ∃ y z, l[c.r.s.toNat]? = some y ∧ y.items[c.i.toNat]? = some z ∧ nmA l c.r.s c.i = z.nm := by
 unfold ckC at h
 split at h
 next hc =>
  split at h
  next hi =>
   simp only [Bool.and_eq_true, decide_eq_true_eq] at hi
   obtain ⟨_, a0, a1, _⟩ := ck_0 hc
   obtain ⟨y, hy⟩ := get_of_lt (show c.r.s.toNat < l.length by omega)
   rw [ilA_at hy] at hi
   obtain ⟨z, hz⟩ := get_of_lt (show c.i.toNat < y.items.length by omega)
   exact ⟨hc, hi.1, y, z, hy, hz, by unfold nmA; rw [hy]; show (match y.items[c.i.toNat]? with | some y => y.nm | none => _) = _; rw [hz]⟩
  next => exact absurd h (by decide)
 next hc => exact absurd h hc
theorem rctx_n {L : List S5} {pl : Option Addr} {cl : Nat} {c : Ce} (w : World) (hL : LL w pl L) (hTb : TB w) : Calls Tryd.prog 19 #[.slice pl L.length cl, c.v] w fun e9 w' => e9 = .returned (.string (txC L c)) ∧ Mw w w' := by
 refine w_enter 27 Tryd.func19 Tryd.ntmps19 rfl rfl ?_
 have M : Mw w w := Mw.refl _
 refine w_seq (w_reg ?_)
 refine wl_box 27 (.tmp 1) _ (((c.cells).toArray)) rfl rfl (fun _ => by kernel_rfl) rfl ?_
 intro k1 u1 hk hz hq Q1
 have N_k1 : w.heap.size ≤ k1 := by have := M.size; omega
 replace M := M.trans hq
 clear hk hz hq
 refine wl_m (.const (.string ⟨#[]⟩)) (.string ⟨#[]⟩) ?_
 refine w_nil (xn_then (w_seq (w_seq (w_reg ?_))))
 refine wl_m (.tmp 0) (.slice pl L.length cl) ?_
 refine wl_l 27 (.tmp 3) (pt k1 0) (.agg (c.cells).toArray) (run_row Q1 27 0 5 (c.cells) rfl Tryd.underlying27 rfl sz27) ?_
 refine wl_call 13 [(.tmp 5), (.tmp 6)] _ [.slice pl L.length cl, .agg (c.cells).toArray] (.int .i64 (ckC L c)) rfl rfl (fun _ _ => by kernel_rfl) (wk (rcc_n _ (hL.mw M))) rfl ?_
 intro u2 hq
 replace Q1 := Q1.mo hq
 replace M := M.trans hq
 clear hq
 cases hf0 : decide (ckC L c = 0) with
 | true =>
  have hf0p := of_decide_eq_true hf0
  refine wl_b .neq 31 (.tmp 7) (.const (.int .i64 (0))) (.int .i64 (ckC L c)) (.int .i64 (0)) (.bool false) (ne34 hf0 _ _ _) ?_
  refine w_nil (xn_then (w_condF rfl (w_skip (xn_then (w_seq ?_)))))
  obtain ⟨hck, hi0, y, zz, hy, hzz, hnm⟩ := cc_0 hf0p
  obtain ⟨_, hs0, hs1, _⟩ := ck_0 hck
  have hmy := List.mem_of_getElem? hy
  have hly := lt_of_get hy
  have hlz := lt_of_get hzz
  obtain ⟨bp, op, hpp, hRp⟩ := D.SL.rw hL.sl hy
  obtain ⟨bq, oq, hpq, hRq⟩ := D.SL.rw (hL.it y hmy) hzz
  obtain ⟨d1, d2⟩ := szd (b := zz.nm) (txR_bd hL.nm c.r) (hL.im y hmy zz (List.mem_of_getElem? hzz))
  refine w_any 17 [.inl (.slice pl L.length cl), .inl (pt k1 0), .inl (.agg (c.r.cells).toArray), .inl (.string (txR L c.r)), .inl (.string (catB (txR L c.r) ⟨#[46]⟩)), .inl (.slice pl L.length cl), .inl (pt k1 0), .inl (pt k1 0), .inl (.int .i64 (c.r.s)), .inl (pt bp (op + c.r.s.toNat * 5)), .inl (pt bp (op + c.r.s.toNat * 5 + 4)), .inl (.slice y.pi y.items.length y.ci), .inl (pt k1 4), .inl (.int .i64 (c.i)), .inl (pt bq (oq + c.i.toNat * 23)), .inl (pt bq (oq + c.i.toNat * 23)), .inl (.string zz.nm)] [] (by kernel_rfl) (by kernel_rfl) (by kernel_rfl) (by kernel_rfl) rfl (by kernel_rfl) (by kernel_rfl) late_nil ?_ ?_ ?_
  ·exact Ds.none rfl
  ·refine ea_cons ?_ (ea_cons ?_ (ea_cons ?_ (ea_cons ?_ (ea_cons ?_ (ea_cons ?_ (ea_cons ?_ (ea_cons ?_ (ea_cons ?_ (ea_cons ?_ (ea_cons ?_ (ea_cons ?_ (ea_cons ?_ (ea_cons ?_ (ea_cons ?_ (ea_cons ?_ (ea_cons ?_ (ea_nil)))))))))))))))))
   ·exact og_eq _ rfl (fun f wf hq hd K hK => go_run rfl (wo_mv (.tmp 0) (.slice pl L.length cl) (fun _ => rfl) rfl (hK _ (Mw.refl _))))
   ·exact og_eq _ rfl (fun f wf hq hd K hK => go_run rfl (wo_un (fun v => Instr.fieldAt 27 v 0) (.tmp 3) (pt k1 0) (pt k1 0) (fun _ => rfl) rfl (by kernel_rfl) (hK _ (Mw.refl _))))
   ·exact og_eq _ rfl (fun f wf hq hd K hK => have Q1 := Q1.mo hq; go_run rfl (wo_load 25 (.tmp 10) (pt k1 0) (.agg (c.r.cells).toArray) rfl (hd 1 rfl) (run_row Q1 25 0 4 (c.r.cells) rfl Tryd.underlying25 rfl sz25) (hK _ (Mw.refl _))))
   ·exact og_eq _ rfl (fun f wf hq hd K hK => go_run rfl (wo_call 17 [(.tmp 9), (.tmp 11)] _ [.slice pl L.length cl, .agg (c.r.cells).toArray] (.string (txR L c.r)) rfl (li2 (hd 0 rfl) (hd 2 rfl)) (fun _ _ => by kernel_rfl) (rtxt_n _ (hL.mw (M.trans hq)) (hTb.mw (M.trans hq))) hK))
   ·exact og_eq _ rfl (fun f wf hq hd K hK => go_run rfl (wo_bin (fun x y => do eqGuard .add 9 (.tmp 12) (.const (.string ⟨#[46]⟩)) x y; binOp .add 9 x y) (.tmp 12) (.const (.string ⟨#[46]⟩)) (.string (txR L c.r)) (.string ⟨#[46]⟩) (.string (catB (txR L c.r) ⟨#[46]⟩)) (fun _ => rfl) (hd 3 rfl) rfl (catc d1 _ _ _) (hK _ (Mw.refl _))))
   ·exact og_eq _ rfl (fun f wf hq hd K hK => go_run rfl (wo_mv (.tmp 0) (.slice pl L.length cl) (fun _ => rfl) rfl (hK _ (Mw.refl _))))
   ·exact og_eq _ rfl (fun f wf hq hd K hK => go_run rfl (wo_un (fun v => Instr.fieldAt 27 v 0) (.tmp 3) (pt k1 0) (pt k1 0) (fun _ => rfl) rfl (by kernel_rfl) (hK _ (Mw.refl _))))
   ·exact og_eq _ rfl (fun f wf hq hd K hK => go_run rfl (wo_un (fun v => Instr.fieldAt 25 v 0) (.tmp 15) (pt k1 0) (pt k1 0) (fun _ => rfl) (hd 6 rfl) (by kernel_rfl) (hK _ (Mw.refl _))))
   ·exact og_eq _ rfl (fun f wf hq hd K hK => have Q1 := Q1.mo hq; go_run rfl (wo_load 3 (.tmp 16) (pt k1 0) (.int .i64 (c.r.s)) rfl (hd 7 rfl) (run_one Q1 3 0 rfl Tryd.underlying3 rfl) (hK _ (Mw.refl _))))
   ·exact og_eq _ rfl (fun f wf hq hd K hK => go_run rfl (wo_bin (fun x y => Instr.indexAt 22 x y) (.tmp 14) (.tmp 17) (.slice pl L.length cl) (.int .i64 (c.r.s)) (pt bp (op + c.r.s.toNat * 5)) (fun _ => rfl) (hd 5 rfl) (hd 8 rfl) (ix22I hs0 hpp hly _) (hK _ (Mw.refl _))))
   ·exact og_eq _ rfl (fun f wf hq hd K hK => go_run rfl (wo_un (fun v => Instr.fieldAt 65 v 4) (.tmp 18) (pt bp (op + c.r.s.toNat * 5)) (pt bp (op + c.r.s.toNat * 5 + 4)) (fun _ => rfl) (hd 9 rfl) (by kernel_rfl) (hK _ (Mw.refl _))))
   ·exact og_eq _ rfl (fun f wf hq hd K hK => go_run rfl (wo_load 42 (.tmp 19) (pt bp (op + c.r.s.toNat * 5 + 4)) (.slice y.pi y.items.length y.ci) rfl (hd 10 rfl) (D.run_oneR (hRp.mw (M.trans hq)).at' 42 4 rfl Tryd.underlying42 rfl) (hK _ (Mw.refl _))))
   ·exact og_eq _ rfl (fun f wf hq hd K hK => go_run rfl (wo_un (fun v => Instr.fieldAt 27 v 1) (.tmp 3) (pt k1 0) (pt k1 4) (fun _ => rfl) rfl (by kernel_rfl) (hK _ (Mw.refl _))))
   ·exact og_eq _ rfl (fun f wf hq hd K hK => have Q1 := Q1.mo hq; go_run rfl (wo_load 3 (.tmp 21) (pt k1 4) (.int .i64 (c.i)) rfl (hd 12 rfl) (run_one Q1 3 4 rfl Tryd.underlying3 rfl) (hK _ (Mw.refl _))))
   ·exact og_eq _ rfl (fun f wf hq hd K hK => go_run rfl (wo_bin (fun x y => Instr.indexAt 42 x y) (.tmp 20) (.tmp 22) (.slice y.pi y.items.length y.ci) (.int .i64 (c.i)) (pt bq (oq + c.i.toNat * 23)) (fun _ => rfl) (hd 11 rfl) (hd 13 rfl) (ix42I hi0 hpq hlz _) (hK _ (Mw.refl _))))
   ·exact og_eq _ rfl (fun f wf hq hd K hK => go_run rfl (wo_un (fun v => Instr.fieldAt 79 v 0) (.tmp 23) (pt bq (oq + c.i.toNat * 23)) (pt bq (oq + c.i.toNat * 23)) (fun _ => rfl) (hd 14 rfl) (by kernel_rfl) (hK _ (Mw.refl _))))
   ·exact og_eq _ rfl (fun f wf hq hd K hK => go_run rfl (wo_load 9 (.tmp 24) (pt bq (oq + c.i.toNat * 23)) (.string zz.nm) rfl (hd 15 rfl) (D.run_oneR (hRq.mw (M.trans hq)).at' 9 0 rfl Tryd.underlying9 rfl) (hK _ (Mw.refl _))))
  intro kf3 u3 hq hR hne
  replace Q1 := Q1.mo hq
  replace M := M.trans hq
  clear hq hR hne
  refine wl_b .add 9 (.tmp 13) (.tmp 25) (.string (catB (txR L c.r) ⟨#[46]⟩)) (.string zz.nm) (.string (catB (catB (txR L c.r) ⟨#[46]⟩) zz.nm)) (catc d2 _ _ _) ?_
  refine wl_m (.tmp 26) (.string (catB (catB (txR L c.r) ⟨#[46]⟩) zz.nm)) ?_
  refine w_nil (xn_then (w_ret ?_))
  exact w_ret1 _ (.string (catB (catB (txR L c.r) ⟨#[46]⟩) zz.nm)) rfl rfl ⟨congrArg (fun v => Ending.returned (.string v)) (by unfold txC; rw [if_pos hf0p, hnm]), M⟩
 | false =>
  have hf0p := of_decide_eq_false hf0
  refine wl_b .neq 31 (.tmp 7) (.const (.int .i64 (0))) (.int .i64 (ckC L c)) (.int .i64 (0)) (.bool true) (ne34 hf0 _ _ _) ?_
  refine w_nil (xn_then (w_condT rfl (w_seq (w_reg ?_))))
  refine wl_m (.const (.string ⟨#[63]⟩)) (.string ⟨#[63]⟩) ?_
  refine w_nil (xn_then (w_ret (xr_then ?_)))
  exact w_ret1 _ (.string ⟨#[63]⟩) rfl rfl ⟨congrArg (fun v => Ending.returned (.string v)) (by unfold txC; rw [if_neg hf0p]), M⟩
end Go.Proofs.YtnffhcjmpjajlaaDoor.V

