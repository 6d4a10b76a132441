/-
  A part of the proof.
-/
import Derived.Test.YtnffhcjmpjajlaaDoorKBack4
import Derived.Test.YtnffhcjmpjajlaaDoorKa16
import Derived.Test.YtnffhcjmpjajlaaDoorKBack3
import Derived.Test.YtnffhcjmpjajlaaDoorKBack2
import Derived.Test.YtnffhcjmpjajlaaDoorKBack1
import Derived.Test.YtnffhcjmpjajlaaDoorKa15
import Derived.Test.YtnffhcjmpjajlaaDoorKa13
import Derived.Test.YtnffhcjmpjajlaaDoorKa11
import Derived.Test.YtnffhcjmpjajlaaDoorKa10
import Derived.Test.YtnffhcjmpjajlaaDoorKa6
import Derived.Test.YtnffhcjmpjajlaaDoorKa5
import Derived.Test.YtnffhcjmpjajlaaDoorKa4
import Derived.Test.YtnffhcjmpjajlaaDoorKa3
import Derived.Test.YtnffhcjmpjajlaaDoorKa2
import Derived.Test.YtnffhcjmpjajlaaDoorKa1
import Derived.RegionTactic
import Derived.Test.YtnffhcjmpjajlaaDoorProg
import Derived.WalkKit
import Derived.WalkSpells
import Derived.Handy
import Derived.BigQuiet
import Derived.Deep.RegionHeld3
import Derived.Deep.MidRow
import Derived.BigCall
import Derived.ChangeKeysEq
import Derived.Shelf.Small.Bits
import Derived.Shelf.Strconv.Itoa0
import Derived.Shelf.Bits.Mul64
import Derived.Deep.CutRange
import Derived.Deep.CutBlock
import Derived.ScopeJumps
import Derived.WalkMore
import Derived.Laws.StructEq
import Derived.Lib.CutLaws
import Derived.Maps.OwnSet
import Derived.WalkArith
import Derived.StringKeys
import Derived.ProofKit
import Derived.OpenShut
import Derived.ChangeArms
import Derived.Deep.Slices
import Derived.ReadAgain
import Derived.WideKeyArgs
import Derived.Maps.AppendAt
import Derived.Test.YtnffhcjmpjajlaaDoorKa9
import Derived.Test.YtnffhcjmpjajlaaDoorKa7
import Derived.Shelf.Strconv.Itoa4
import Derived.Test.YtnffhcjmpjajlaaDoorKa8
import Derived.Lib.IndexBytes
import Derived.Lib.AppendIntMem
import Derived.Lib.ItoaLen
import Derived.Laws.MakeOwn
import Derived.Test.YtnffhcjmpjajlaaDoorKa12
import Derived.Test.YtnffhcjmpjajlaaDoorKa14
import Derived.Test.YtnffhcjmpjajlaaDoorRows
import Derived.Carry
import Derived.ChangeMaps5
import Derived.ChangeSame
import Derived.ChangeVars
import Derived.JoinedOf
import Derived.RowKitTokens
import Derived.LaidLaws
import Derived.LaidHandle
import Derived.Stop.Joined
import Derived.Lib.LaidIn
import Derived.Lib.LaidTab
import Derived.SizedLaws
import Derived.Deep.Strs
namespace Go.Proofs.YtnffhcjmpjajlaaDoor.V
open Go.RowKit D
theorem sz45 : (Tryd.prog.info? 45).map (·.size) = some 4 := by kernel_rfl
theorem sz49 : (Tryd.prog.info? 49).map (·.size) = some 7 := by kernel_rfl
theorem sz52 : (Tryd.prog.info? 52).map (·.size) = some 5 := by kernel_rfl
theorem neC {x y : Ce} {r : Bool} (h : sCe x y = r) (p q : Operand) (w : World) : (do eqGuard .neq 27 p q x.v y.v; binOp .neq 27 x.v y.v).run Tryd.prog w = .ok (.bool (!r)) w := nea_run gt27 (by rw [← h]; exact eqCe x y w) p q
theorem si_v {d : Df} (w : World) (hD : LDf w d) : Calls Tryd.prog 24 #[.agg d.rt.cells.toArray, .int .i64 50] w fun e9 w' => ∃ z : Int, e9 = .returned (.int .i64 z) ∧ Mw w w' := (si_n 50 (by omega) d.rt w hD.rt).mono (fun _ _ ⟨z, a, b⟩ => ⟨z, a, b.1⟩)
theorem rFlat_v {d : Df} {L : List S5} (hLe : L = fla d) (w : World) (hD : LDf w d) : Calls Tryd.prog 26 #[.agg d.cells.toArray] w fun e9 w' => ∃ pa cap, e9 = .returned (.slice pa L.length cap) ∧ SL w' 5 S5.cells pa L ∧ L.length ≤ cap ∧ Mw w w' := by
 subst hLe
 exact (rFlat_c d hD).mono (fun _ _ ⟨pa, cap, a, b, c, m⟩ => ⟨pa, cap, a, b, c, m.1⟩)
theorem prs_t {L : List S5} {pl : Option Addr} {cl : Nat} {r : Ro} (w : World) (hL : LL w pl L) (hcl : L.length ≤ cl) (hN : Nms L) (h16 : L.length ≤ 16) (hr : ckR L r = 0) : Calls Tryd.prog 20 #[.slice pl L.length cl, .string (txR L r)] w fun e9 w' => e9 = .returned (.tuple #[r.v, .bool true]) ∧ Mw w w' := by
 have q := pprs_v (s := txR L r) w hL hcl (by have := txR_bd hL.nm r; omega) (by omega)
 rw [prs_tx hN hr] at q
 exact q
theorem txC_bd {l : List S5} {c : Ce} (hn : ∀ x ∈ l, x.nm.size ≤ 140737488355328) (hm : ∀ x ∈ l, ∀ y ∈ x.items, y.nm.size ≤ 140737488355328) (hc : ckC l c = 0) : (txC l c).size ≤ 9223372036854775807 := by
 obtain ⟨_, _, y, z, hy, hz, e⟩ := cc_0 hc
 have h1 := txR_bd hn c.r
 have h2 := hm y (List.mem_of_getElem? hy) z (List.mem_of_getElem? hz)
 unfold txC catB
 rw [if_pos hc, e, ByteArray.size_append, ByteArray.size_append, s46]
 omega
theorem prc_t {L : List S5} {pl : Option Addr} {cl : Nat} {c : Ce} (w : World) (hL : LL w pl L) (hcl : L.length ≤ cl) (hN : Nms L) (h16 : L.length ≤ 16) (hr : ckC L c = 0) : Calls Tryd.prog 22 #[.slice pl L.length cl, .string (txC L c)] w fun e9 w' => e9 = .returned (.tuple #[c.v, .bool true]) ∧ Mw w w' := by
 have q := pprc_v (s := txC L c) w hL hcl (txC_bd hL.nm hL.im hr) (by omega)
 rw [prc_tx hN hr] at q
 exact q
theorem par_s {l : List S5} {r : Ro} (h : ckR l r = 0) (hp : parO l r = false) : r.s = 0 := by
 apply Classical.byContradiction
 intro q
 rw [par_v' h q] at hp
 cases hp
set_option maxHeartbeats 1000000 in
theorem pback_n {d : Df} {c : Ce} (w : World) (hD : LDf w d) (hTb : TB w) : Calls Tryd.prog 5 #[.agg d.cells.toArray, c.v] w fun e9 w' => e9 = .returned (.bool true) ∧ Mw w w' := by
 refine w_enter 116 Tryd.func5 Tryd.ntmps5 rfl rfl ?_
 have M : Mw w w := Mw.refl _
 refine w_seq (w_reg ?_)
 refine wl_box 49 (.tmp 0) _ (((d.cells).toArray)) rfl rfl (fun _ => by kernel_rfl) rfl ?_
 intro k1 u1 hk hz hq Q1
 have N_k1 : w.heap.size ≤ k1 := by have := M.size; omega
 replace M := M.trans hq
 clear hk hz hq
 refine wl_box 27 (.tmp 1) _ (((c.cells).toArray)) rfl rfl (fun _ => by kernel_rfl) rfl ?_
 intro k2 u2 hk hz hq Q2
 have ne_k1_k2 : k1 ≠ k2 := by have := Q1.lt; omega
 have N_k2 : w.heap.size ≤ k2 := by have := M.size; omega
 replace Q1 := Q1.mo hq
 replace M := M.trans hq
 clear hk hz hq
 refine wl_m (.const (.bool false)) (.bool false) ?_
 refine w_nil (xn_then (w_seq (w_seq (w_reg ?_))))
 refine wl_f 49 1 (.tmp 2) (pt k1 0) (pt k1 1) ?_
 refine wl_l 45 (.tmp 16) (pt k1 1) (.agg (d.rt.cells).toArray) (run_row Q1 45 1 4 (d.rt.cells) rfl Tryd.underlying45 rfl sz45) ?_
 refine wl_callx 24 [(.tmp 17), (.const (.int .i64 (50)))] _ [.agg (d.rt.cells).toArray, .int .i64 (50)] rfl rfl (fun _ _ => by kernel_rfl) (si_v _ (hD.kp M.kp)) rfl ?_
 rintro e9 u3 ⟨z9, rfl, hq⟩
 refine ⟨_, rfl, ?_⟩
 replace Q1 := Q1.mo hq
 replace Q2 := Q2.mo hq
 replace M := M.trans hq
 clear hq
 cases hf0 : decide (3000 < z9) with
 | true =>
  have hf0p := of_decide_eq_true hf0
  refine wl_b .gtr 3 (.tmp 18) (.const (.int .i64 (3000))) (.int .i64 (z9)) (.int .i64 (3000)) (.bool true) (gt3 hf0 _ _ _) ?_
  refine wl_m (.tmp 19) (.bool true) ?_
  refine wl_skip rfl (wl_skip rfl ?_)
  refine wl_pick (.tmp 20) (.const (.bool true)) (.tmp 22) true (.bool true) (fun _ => rfl) rfl rfl rfl ?_
  refine w_nil (xn_then (w_condT rfl (w_seq (w_reg ?_))))
  refine wl_call 9 [] _ [] (.bool true) rfl rfl (fun _ _ => by kernel_rfl) (live_n _ (hTb.mw M)) rfl ?_
  intro u4 hq
  replace Q1 := Q1.mo hq
  replace Q2 := Q2.mo hq
  replace M := M.trans hq
  clear hq
  refine wl_m (.tmp 24) (.bool true) ?_
  refine w_nil (xn_then (w_ret (xr_then ?_)))
  exact w_ret1 _ _ rfl rfl ⟨rfl, M⟩
 | false =>
  have hf0p := of_decide_eq_false hf0
  refine wl_b .gtr 3 (.tmp 18) (.const (.int .i64 (3000))) (.int .i64 (z9)) (.int .i64 (3000)) (.bool false) (gt3 hf0 _ _ _) ?_
  refine wl_m (.tmp 19) (.bool false) ?_
  refine wl_call 9 [] _ [] (.bool true) rfl rfl (fun _ _ => by kernel_rfl) (live_n _ (hTb.mw M)) rfl ?_
  intro u4 hq
  replace Q1 := Q1.mo hq
  replace Q2 := Q2.mo hq
  replace M := M.trans hq
  clear hq
  refine wl_un (fun v => Op.unary .not v) (.tmp 21) (.bool true) (.bool false) (fun _ => rfl) rfl (by kernel_rfl) rfl ?_
  refine wl_pick (.tmp 20) (.const (.bool true)) (.tmp 22) false (.bool false) (fun _ => rfl) rfl rfl rfl ?_
  refine w_nil (xn_then (w_condF rfl (w_skip (xn_then (w_seq (w_seq (w_reg ?_)))))))
  refine wl_l 49 (.tmp 2) (pt k1 0) (.agg (d.cells).toArray) (run_row Q1 49 0 7 (d.cells) rfl Tryd.underlying49 rfl sz49) ?_
  cases hf1 : (chk d).isSome with
  | true =>
   obtain ⟨kk, ss, ii, tt, pp, ee, hck, hne⟩ := Pk.some (pk_chk d) (show (chk d).isNone = false by cases h9 : chk d with | none => rw [h9] at hf1; cases hf1 | some _ => rfl)
   refine wl_call 25 [(.tmp 26)] _ [.agg (d.cells).toArray] (.tuple #[.agg #[.int .i64 kk, .int .i64 ss, .int .i64 ii, .int .i64 tt, .int .i64 pp], .int .i64 (ee)]) rfl rfl (fun _ _ => by kernel_rfl) (wk (cR (by rw [hck]; rfl) (check_n d (hD.kp M.kp)))) rfl ?_
   intro u5 hq
   replace Q1 := Q1.mo hq
   replace Q2 := Q2.mo hq
   replace M := M.trans hq
   clear hq
   refine wl_m (.tmp 27) (.tuple #[.agg #[.int .i64 kk, .int .i64 ss, .int .i64 ii, .int .i64 tt, .int .i64 pp], .int .i64 (ee)]) ?_
   refine wl_un (fun v => Instr.extract v 0) (.tmp 25) (.tuple #[.agg #[.int .i64 kk, .int .i64 ss, .int .i64 ii, .int .i64 tt, .int .i64 pp], .int .i64 (ee)]) (.agg #[.int .i64 kk, .int .i64 ss, .int .i64 ii, .int .i64 tt, .int .i64 pp]) (fun _ => rfl) rfl (by kernel_rfl) rfl ?_
   refine wl_un (fun v => Instr.extract v 1) (.tmp 25) (.tuple #[.agg #[.int .i64 kk, .int .i64 ss, .int .i64 ii, .int .i64 tt, .int .i64 pp], .int .i64 (ee)]) (.int .i64 (ee)) (fun _ => rfl) rfl (by kernel_rfl) rfl ?_
   refine wl_alloc 52 #[.int .i64 0, .int .i64 0, .int .i64 0, .int .i64 0, .int .i64 0] rfl (fun _ => by kernel_rfl) rfl ?_
   intro k3 u6 hk hz hq Q3
   have ne_k1_k3 : k1 ≠ k3 := by have := Q1.lt; omega
   have ne_k2_k3 : k2 ≠ k3 := by have := Q2.lt; omega
   have N_k3 : w.heap.size ≤ k3 := by have := M.size; omega
   replace Q1 := Q1.mo hq
   replace Q2 := Q2.mo hq
   replace M := M.trans hq
   clear hk hz hq
   refine wl_st 52 (.tmp 5) (.tmp 28) k3 0 #[.int .i64 kk, .int .i64 ss, .int .i64 ii, .int .i64 tt, .int .i64 pp] _ [.int .i64 kk, .int .i64 ss, .int .i64 ii, .int .i64 tt, .int .i64 pp] Q3 rfl rfl rfl rfl rfl sz52 rfl rfl rfl ?_
   intro u7 hS Qn
   replace Q3 := Qn
   clear Qn
   replace Q1 := hS.other _ _ ne_k1_k3 Q1
   replace Q2 := hS.other _ _ ne_k2_k3 Q2
   replace M := hS.mo _ N_k3 M
   clear hS
   refine wl_m (.tmp 29) (.int .i64 (ee)) ?_
   refine w_nil (xn_then (w_seq (w_reg ?_)))
   refine wl_m (.tmp 6) (.int .i64 (ee)) ?_
   refine wl_b .neq 31 (.tmp 30) (.const (.int .i64 (0))) (.int .i64 (ee)) (.int .i64 (0)) (.bool true) (ne34 (r := false) (decide_eq_false hne) _ _ _) ?_
   refine w_nil (xn_then (w_condT rfl (w_seq (w_reg ?_))))
   refine wl_m (.const (.bool true)) (.bool true) ?_
   refine w_nil (xn_then (w_ret (xr_then ?_)))
   exact w_ret1 _ _ rfl rfl ⟨rfl, M⟩
  | false =>
   refine wl_call 25 [(.tmp 26)] _ [.agg (d.cells).toArray] (.tuple #[.agg #[.int .i64 0, .int .i64 0, .int .i64 0, .int .i64 0, .int .i64 0], .int .i64 (0)]) rfl rfl (fun _ _ => by kernel_rfl) (wk (cR (by rw [isn hf1]; rfl) (check_n d (hD.kp M.kp)))) rfl ?_
   intro u5 hq
   replace Q1 := Q1.mo hq
   replace Q2 := Q2.mo hq
   replace M := M.trans hq
   clear hq
   refine wl_m (.tmp 27) (.tuple #[.agg #[.int .i64 0, .int .i64 0, .int .i64 0, .int .i64 0, .int .i64 0], .int .i64 (0)]) ?_
   refine wl_un (fun v => Instr.extract v 0) (.tmp 25) (.tuple #[.agg #[.int .i64 0, .int .i64 0, .int .i64 0, .int .i64 0, .int .i64 0], .int .i64 (0)]) (.agg #[.int .i64 0, .int .i64 0, .int .i64 0, .int .i64 0, .int .i64 0]) (fun _ => rfl) rfl (by kernel_rfl) rfl ?_
   refine wl_un (fun v => Instr.extract v 1) (.tmp 25) (.tuple #[.agg #[.int .i64 0, .int .i64 0, .int .i64 0, .int .i64 0, .int .i64 0], .int .i64 (0)]) (.int .i64 (0)) (fun _ => rfl) rfl (by kernel_rfl) rfl ?_
   refine wl_alloc 52 #[.int .i64 0, .int .i64 0, .int .i64 0, .int .i64 0, .int .i64 0] rfl (fun _ => by kernel_rfl) rfl ?_
   intro k3 u6 hk hz hq Q3
   have ne_k1_k3 : k1 ≠ k3 := by have := Q1.lt; omega
   have ne_k2_k3 : k2 ≠ k3 := by have := Q2.lt; omega
   have N_k3 : w.heap.size ≤ k3 := by have := M.size; omega
   replace Q1 := Q1.mo hq
   replace Q2 := Q2.mo hq
   replace M := M.trans hq
   clear hk hz hq
   refine wl_st 52 (.tmp 5) (.tmp 28) k3 0 #[.int .i64 0, .int .i64 0, .int .i64 0, .int .i64 0, .int .i64 0] _ [.int .i64 0, .int .i64 0, .int .i64 0, .int .i64 0, .int .i64 0] Q3 rfl rfl rfl rfl rfl sz52 rfl rfl rfl ?_
   intro u7 hS Qn
   replace Q3 := Qn
   clear Qn
   replace Q1 := hS.other _ _ ne_k1_k3 Q1
   replace Q2 := hS.other _ _ ne_k2_k3 Q2
   replace M := hS.mo _ N_k3 M
   clear hS
   refine wl_m (.tmp 29) (.int .i64 (0)) ?_
   refine w_nil (xn_then (w_seq (w_reg ?_)))
   refine wl_m (.tmp 6) (.int .i64 (0)) ?_
   refine wl_b .neq 31 (.tmp 30) (.const (.int .i64 (0))) (.int .i64 (0)) (.int .i64 (0)) (.bool false) (ne34 (r := true) (decide_eq_true rfl) _ _ _) ?_
   refine w_nil (xn_then (w_condF rfl (w_skip (xn_then (w_seq ?_)))))
   obtain ⟨L, hLe⟩ : ∃ L, L = fla d := ⟨_, rfl⟩
   obtain ⟨hN, h16⟩ := nms_of (isn hf1)
   rw [← hLe] at hN h16
   refine w_reg ?_
   refine wl_l 49 (.tmp 2) (pt k1 0) (.agg (d.cells).toArray) (run_row Q1 49 0 7 (d.cells) rfl Tryd.underlying49 rfl sz49) ?_
   refine wl_callx 26 [(.tmp 32)] _ [.agg (d.cells).toArray] rfl rfl (fun _ _ => by kernel_rfl) (rFlat_v hLe _ (hD.kp M.kp)) rfl ?_
   rintro e9 u8 ⟨pl, cl, rfl, hS, hcl, hq⟩
   refine ⟨_, rfl, ?_⟩
   replace Q1 := Q1.mo hq
   replace Q2 := Q2.mo hq
   replace Q3 := Q3.mo hq
   replace M := M.trans hq
   clear hq
   have hL : LL u8 pl L := by rw [hLe]; rw [hLe] at hS hN; exact fla_LL hD hN hS M.kp
   have M0 := M
   replace hTb := hTb.mw M0
   replace M : Mw u8 u8 := Mw.refl _
   refine wl_m (.tmp 33) (.slice pl L.length cl) ?_
   refine w_nil (xn_then (w_seq (w_seq (w_reg ?_))))
   refine wl_m (.tmp 7) (.slice pl L.length cl) ?_
   refine wl_f 27 0 (.tmp 3) (pt k2 0) (pt k2 0) ?_
   refine wl_l 25 (.tmp 35) (pt k2 0) (.agg (c.r.cells).toArray) (run_row Q2 25 0 4 (c.r.cells) rfl Tryd.underlying25 rfl sz25) ?_
   refine wl_call 10 [(.tmp 34), (.tmp 36)] _ [.slice pl L.length cl, .agg (c.r.cells).toArray] (.int .i64 (ckR L c.r)) rfl rfl (fun _ _ => by kernel_rfl) (wk (pck_n _ (hL.mw M) hcl)) rfl ?_
   intro u9 hq
   replace Q1 := Q1.mo hq
   replace Q2 := Q2.mo hq
   replace Q3 := Q3.mo hq
   replace M := M.trans hq
   clear hq
   cases hf2 : decide (ckR L c.r = 0) with
   | true =>
    have hf2p := of_decide_eq_true hf2
    refine wl_b .neq 31 (.tmp 37) (.const (.int .i64 (0))) (.int .i64 (ckR L c.r)) (.int .i64 (0)) (.bool false) (ne34 hf2 _ _ _) ?_
    refine w_nil (xn_then (w_condF rfl (w_skip (xn_then (w_seq (w_reg ?_))))))
    refine wl_m (.tmp 7) (.slice pl L.length cl) ?_
    refine wl_m (.tmp 7) (.slice pl L.length cl) ?_
    refine wl_f 27 0 (.tmp 3) (pt k2 0) (pt k2 0) ?_
    refine wl_l 25 (.tmp 42) (pt k2 0) (.agg (c.r.cells).toArray) (run_row Q2 25 0 4 (c.r.cells) rfl Tryd.underlying25 rfl sz25) ?_
    refine wl_call 16 [(.tmp 41), (.tmp 43)] _ [.slice pl L.length cl, .agg (c.r.cells).toArray] (.string (txR L c.r)) rfl rfl (fun _ _ => by kernel_rfl) (ptxt_n _ (hL.mw M) hcl (hTb.mw M)) rfl ?_
    intro u10 hq
    replace Q1 := Q1.mo hq
    replace Q2 := Q2.mo hq
    replace Q3 := Q3.mo hq
    replace M := M.trans hq
    clear hq
    refine wl_call 20 [(.tmp 40), (.tmp 44)] _ [.slice pl L.length cl, .string (txR L c.r)] (.tuple #[.agg (c.r.cells).toArray, .bool true]) rfl rfl (fun _ _ => by kernel_rfl) (prs_t _ (hL.mw M) hcl hN h16 hf2p) rfl ?_
    intro u11 hq
    replace Q1 := Q1.mo hq
    replace Q2 := Q2.mo hq
    replace Q3 := Q3.mo hq
    replace M := M.trans hq
    clear hq
    refine wl_m (.tmp 45) (.tuple #[.agg (c.r.cells).toArray, .bool true]) ?_
    refine wl_un (fun v => Instr.extract v 0) (.tmp 39) (.tuple #[.agg (c.r.cells).toArray, .bool true]) (.agg (c.r.cells).toArray) (fun _ => rfl) rfl (by kernel_rfl) rfl ?_
    refine wl_un (fun v => Instr.extract v 1) (.tmp 39) (.tuple #[.agg (c.r.cells).toArray, .bool true]) (.bool true) (fun _ => rfl) rfl (by kernel_rfl) rfl ?_
    refine wl_alloc 25 #[.int .i64 0, .int .i64 0, .int .i64 0, .int .i64 0] rfl (fun _ => by kernel_rfl) rfl ?_
    intro k4 u12 hk hz hq Q4
    have ne_k1_k4 : k1 ≠ k4 := by have := Q1.lt; omega
    have ne_k2_k4 : k2 ≠ k4 := by have := Q2.lt; omega
    have ne_k3_k4 : k3 ≠ k4 := by have := Q3.lt; omega
    have N_k4 : u8.heap.size ≤ k4 := by have := M.size; omega
    replace Q1 := Q1.mo hq
    replace Q2 := Q2.mo hq
    replace Q3 := Q3.mo hq
    replace M := M.trans hq
    clear hk hz hq
    refine wl_st 25 (.tmp 8) (.tmp 46) k4 0 ((c.r.cells).toArray) _ (c.r.cells) Q4 rfl rfl rfl rfl rfl sz25 rfl rfl rfl ?_
    intro u13 hS Qn
    replace Q4 := Qn
    clear Qn
    replace Q1 := hS.other _ _ ne_k1_k4 Q1
    replace Q2 := hS.other _ _ ne_k2_k4 Q2
    replace Q3 := hS.other _ _ ne_k3_k4 Q3
    replace M := hS.mo _ N_k4 M
    clear hS
    refine wl_m (.tmp 47) (.bool true) ?_
    refine w_nil (xn_then (w_seq (w_seq (w_reg ?_))))
    refine wl_m (.tmp 9) (.bool true) ?_
    refine wl_un (fun v => Op.unary .not v) (.tmp 48) (.bool true) (.bool false) (fun _ => rfl) rfl (by kernel_rfl) rfl ?_
    refine wl_m (.tmp 49) (.bool false) ?_
    refine wl_l 25 (.tmp 8) (pt k4 0) (.agg (c.r.cells).toArray) (run_row Q4 25 0 4 (c.r.cells) rfl Tryd.underlying25 rfl sz25) ?_
    refine wl_f 27 0 (.tmp 3) (pt k2 0) (pt k2 0) ?_
    refine wl_l 25 (.tmp 52) (pt k2 0) (.agg (c.r.cells).toArray) (run_row Q2 25 0 4 (c.r.cells) rfl Tryd.underlying25 rfl sz25) ?_
    refine wl_b .neq 25 (.tmp 51) (.tmp 53) (.agg (c.r.cells).toArray) (.agg (c.r.cells).toArray) (.bool false) (neR (sR_self _) _ _ _) ?_
    refine wl_pick (.tmp 50) (.const (.bool true)) (.tmp 54) false (.bool false) (fun _ => rfl) rfl rfl rfl ?_
    refine w_nil (xn_then (w_condF rfl (w_skip (xn_then (w_seq (w_seq (w_reg ?_)))))))
    refine wl_m (.tmp 7) (.slice pl L.length cl) ?_
    refine wl_l 27 (.tmp 3) (pt k2 0) (.agg (c.cells).toArray) (run_row Q2 27 0 5 (c.cells) rfl Tryd.underlying27 rfl sz27) ?_
    refine wl_call 12 [(.tmp 56), (.tmp 57)] _ [.slice pl L.length cl, .agg (c.cells).toArray] (.int .i64 (ckC L c)) rfl rfl (fun _ _ => by kernel_rfl) (wk (pcc_n _ (hL.mw M) hcl)) rfl ?_
    intro u14 hq
    replace Q1 := Q1.mo hq
    replace Q2 := Q2.mo hq
    replace Q3 := Q3.mo hq
    replace Q4 := Q4.mo hq
    replace M := M.trans hq
    clear hq
    cases hf3 : decide (ckC L c = 0) with
    | true =>
     have hf3p := of_decide_eq_true hf3
     refine wl_b .eql 31 (.tmp 58) (.const (.int .i64 (0))) (.int .i64 (ckC L c)) (.int .i64 (0)) (.bool true) (eq34 hf3 _ _ _) ?_
     refine w_nil (xn_then (w_condT rfl (w_seq (w_reg ?_))))
     refine wl_m (.tmp 7) (.slice pl L.length cl) ?_
     refine wl_m (.tmp 7) (.slice pl L.length cl) ?_
     refine wl_l 27 (.tmp 3) (pt k2 0) (.agg (c.cells).toArray) (run_row Q2 27 0 5 (c.cells) rfl Tryd.underlying27 rfl sz27) ?_
     refine wl_call 18 [(.tmp 62), (.tmp 63)] _ [.slice pl L.length cl, .agg (c.cells).toArray] (.string (txC L c)) rfl rfl (fun _ _ => by kernel_rfl) (pctx_n _ (hL.mw M) hcl (hTb.mw M)) rfl ?_
     intro u15 hq
     replace Q1 := Q1.mo hq
     replace Q2 := Q2.mo hq
     replace Q3 := Q3.mo hq
     replace Q4 := Q4.mo hq
     replace M := M.trans hq
     clear hq
     refine wl_call 22 [(.tmp 61), (.tmp 64)] _ [.slice pl L.length cl, .string (txC L c)] (.tuple #[.agg (c.cells).toArray, .bool true]) rfl rfl (fun _ _ => by kernel_rfl) (prc_t _ (hL.mw M) hcl hN h16 hf3p) rfl ?_
     intro u16 hq
     replace Q1 := Q1.mo hq
     replace Q2 := Q2.mo hq
     replace Q3 := Q3.mo hq
     replace Q4 := Q4.mo hq
     replace M := M.trans hq
     clear hq
     refine wl_m (.tmp 65) (.tuple #[.agg (c.cells).toArray, .bool true]) ?_
     refine wl_un (fun v => Instr.extract v 0) (.tmp 60) (.tuple #[.agg (c.cells).toArray, .bool true]) (.agg (c.cells).toArray) (fun _ => rfl) rfl (by kernel_rfl) rfl ?_
     refine wl_un (fun v => Instr.extract v 1) (.tmp 60) (.tuple #[.agg (c.cells).toArray, .bool true]) (.bool true) (fun _ => rfl) rfl (by kernel_rfl) rfl ?_
     refine wl_alloc 27 #[.int .i64 0, .int .i64 0, .int .i64 0, .int .i64 0, .int .i64 0] rfl (fun _ => by kernel_rfl) rfl ?_
     intro k5 u17 hk hz hq Q5
     have ne_k1_k5 : k1 ≠ k5 := by have := Q1.lt; omega
     have ne_k2_k5 : k2 ≠ k5 := by have := Q2.lt; omega
     have ne_k3_k5 : k3 ≠ k5 := by have := Q3.lt; omega
     have ne_k4_k5 : k4 ≠ k5 := by have := Q4.lt; omega
     have N_k5 : u8.heap.size ≤ k5 := by have := M.size; omega
     replace Q1 := Q1.mo hq
     replace Q2 := Q2.mo hq
     replace Q3 := Q3.mo hq
     replace Q4 := Q4.mo hq
     replace M := M.trans hq
     clear hk hz hq
     refine wl_st 27 (.tmp 10) (.tmp 66) k5 0 ((c.cells).toArray) _ (c.cells) Q5 rfl rfl rfl rfl rfl sz27 rfl rfl rfl ?_
     intro u18 hS Qn
     replace Q5 := Qn
     clear Qn
     replace Q1 := hS.other _ _ ne_k1_k5 Q1
     replace Q2 := hS.other _ _ ne_k2_k5 Q2
     replace Q3 := hS.other _ _ ne_k3_k5 Q3
     replace Q4 := hS.other _ _ ne_k4_k5 Q4
     replace M := hS.mo _ N_k5 M
     clear hS
     refine wl_m (.tmp 67) (.bool true) ?_
     refine w_nil (xn_then (w_seq (w_reg ?_)))
     refine wl_m (.tmp 11) (.bool true) ?_
     refine wl_un (fun v => Op.unary .not v) (.tmp 68) (.bool true) (.bool false) (fun _ => rfl) rfl (by kernel_rfl) rfl ?_
     refine wl_m (.tmp 69) (.bool false) ?_
     refine wl_l 27 (.tmp 10) (pt k5 0) (.agg (c.cells).toArray) (run_row Q5 27 0 5 (c.cells) rfl Tryd.underlying27 rfl sz27) ?_
     refine wl_l 27 (.tmp 3) (pt k2 0) (.agg (c.cells).toArray) (run_row Q2 27 0 5 (c.cells) rfl Tryd.underlying27 rfl sz27) ?_
     refine wl_b .neq 27 (.tmp 71) (.tmp 72) (.agg (c.cells).toArray) (.agg (c.cells).toArray) (.bool false) (neC (sCe_self _) _ _ _) ?_
     refine wl_pick (.tmp 70) (.const (.bool true)) (.tmp 73) false (.bool false) (fun _ => rfl) rfl rfl rfl ?_
     refine w_nil (xn_then (w_condF rfl (w_skip (xn_then (w_seq (w_reg ?_))))))
     refine wl_m (.tmp 7) (.slice pl L.length cl) ?_
     refine wl_f 27 0 (.tmp 3) (pt k2 0) (pt k2 0) ?_
     refine wl_l 25 (.tmp 77) (pt k2 0) (.agg (c.r.cells).toArray) (run_row Q2 25 0 4 (c.r.cells) rfl Tryd.underlying25 rfl sz25) ?_
     cases hf4 : parO L c.r with
     | true =>
      refine wl_call 7 [(.tmp 76), (.tmp 78)] _ [.slice pl L.length cl, .agg (c.r.cells).toArray] (.tuple #[.agg ((parU L c.r).cells).toArray, .bool true]) rfl rfl (fun _ _ => by kernel_rfl) (wk (cR (by rw [par_u hf4, hf4]) (ppar_n _ (hL.mw M) hcl))) rfl ?_
      intro u19 hq
      replace Q1 := Q1.mo hq
      replace Q2 := Q2.mo hq
      replace Q3 := Q3.mo hq
      replace Q4 := Q4.mo hq
      replace Q5 := Q5.mo hq
      replace M := M.trans hq
      clear hq
      refine wl_m (.tmp 79) (.tuple #[.agg ((parU L c.r).cells).toArray, .bool true]) ?_
      refine wl_un (fun v => Instr.extract v 0) (.tmp 75) (.tuple #[.agg ((parU L c.r).cells).toArray, .bool true]) (.agg ((parU L c.r).cells).toArray) (fun _ => rfl) rfl (by kernel_rfl) rfl ?_
      refine wl_un (fun v => Instr.extract v 1) (.tmp 75) (.tuple #[.agg ((parU L c.r).cells).toArray, .bool true]) (.bool true) (fun _ => rfl) rfl (by kernel_rfl) rfl ?_
      refine wl_alloc 25 #[.int .i64 0, .int .i64 0, .int .i64 0, .int .i64 0] rfl (fun _ => by kernel_rfl) rfl ?_
      intro k6 u20 hk hz hq Q6
      have ne_k1_k6 : k1 ≠ k6 := by have := Q1.lt; omega
      have ne_k2_k6 : k2 ≠ k6 := by have := Q2.lt; omega
      have ne_k3_k6 : k3 ≠ k6 := by have := Q3.lt; omega
      have ne_k4_k6 : k4 ≠ k6 := by have := Q4.lt; omega
      have ne_k5_k6 : k5 ≠ k6 := by have := Q5.lt; omega
      have N_k6 : u8.heap.size ≤ k6 := by have := M.size; omega
      replace Q1 := Q1.mo hq
      replace Q2 := Q2.mo hq
      replace Q3 := Q3.mo hq
      replace Q4 := Q4.mo hq
      replace Q5 := Q5.mo hq
      replace M := M.trans hq
      clear hk hz hq
      refine wl_st 25 (.tmp 12) (.tmp 80) k6 0 (((parU L c.r).cells).toArray) _ ((parU L c.r).cells) Q6 rfl rfl rfl rfl rfl sz25 rfl rfl rfl ?_
      intro u21 hS Qn
      replace Q6 := Qn
      clear Qn
      replace Q1 := hS.other _ _ ne_k1_k6 Q1
      replace Q2 := hS.other _ _ ne_k2_k6 Q2
      replace Q3 := hS.other _ _ ne_k3_k6 Q3
      replace Q4 := hS.other _ _ ne_k4_k6 Q4
      replace Q5 := hS.other _ _ ne_k5_k6 Q5
      replace M := hS.mo _ N_k6 M
      clear hS
      refine wl_m (.tmp 81) (.bool true) ?_
      refine w_nil (xn_then (w_seq (w_seq (w_reg ?_))))
      refine wl_m (.tmp 13) (.bool true) ?_
      refine wl_un (fun v => Op.unary .not v) (.tmp 82) (.bool true) (.bool false) (fun _ => rfl) rfl (by kernel_rfl) rfl ?_
      refine w_nil (xn_then (w_condF rfl (w_skip (xn_then (w_seq ?_)))))
      refine w_any 14 [.inl (.slice pl L.length cl), .inl (.agg ((parU L c.r).cells).toArray), .inl (pt k2 0), .inl (pt k2 0), .inl (.int .i64 (c.r.s)), .inl (.slice pl L.length cl), .inl (pt k2 0), .inl (.agg (c.r.cells).toArray), .inl (.int .i64 (idA L c.r)), .inl (.tuple #[.agg (c.r.cells).toArray, .int .i64 (0)]), .inl (.tuple #[.agg (c.r.cells).toArray, .int .i64 (0)]), .inl (.agg (c.r.cells).toArray), .inl (.int .i64 (0)), .inr [.int .i64 0, .int .i64 0, .int .i64 0, .int .i64 0]] [12] (by kernel_rfl) (by kernel_rfl) (by kernel_rfl) (by kernel_rfl) rfl (by kernel_rfl) (by kernel_rfl) (late_cons ⟨_, _, rfl, rfl, fun _ _ _ _ h => h, fun f hd => ⟨rfl, la_un (fun v => Instr.extract v 1) (.tmp 88) (.tuple #[.agg (c.r.cells).toArray, .int .i64 (0)]) (.int .i64 (0)) (fun _ => rfl) (hd 10 rfl _ rfl) (fun w => by kernel_rfl)⟩⟩ late_nil) ?_ ?_ ?_
      ·exact Ds.start (by kernel_rfl)
      ·refine ea_cons ?_ (ea_cons ?_ (ea_cons ?_ (ea_cons ?_ (ea_cons ?_ (ea_cons ?_ (ea_cons ?_ (ea_cons ?_ (ea_cons ?_ (ea_cons ?_ (ea_cons ?_ (ea_cons ?_ (ea_cons ?_ (ea_cons ?_ (ea_nil))))))))))))))
       ·exact og_eq _ rfl (fun f wf hq hd K hK => go_run rfl (wo_mv (.tmp 7) (.slice pl L.length cl) (fun _ => rfl) rfl (hK _ (Mw.refl _))))
       ·exact og_eq _ rfl (fun f wf hq hd K hK => have Q6 := Q6.mo hq; go_run rfl (wo_load 25 (.tmp 12) (pt k6 0) (.agg ((parU L c.r).cells).toArray) rfl rfl (run_row Q6 25 0 4 ((parU L c.r).cells) rfl Tryd.underlying25 rfl sz25) (hK _ (Mw.refl _))))
       ·exact og_eq _ rfl (fun f wf hq hd K hK => go_run rfl (wo_un (fun v => Instr.fieldAt 27 v 0) (.tmp 3) (pt k2 0) (pt k2 0) (fun _ => rfl) rfl (by kernel_rfl) (hK _ (Mw.refl _))))
       ·exact og_eq _ rfl (fun f wf hq hd K hK => go_run rfl (wo_un (fun v => Instr.fieldAt 25 v 0) (.tmp 91) (pt k2 0) (pt k2 0) (fun _ => rfl) (hd 2 rfl) (by kernel_rfl) (hK _ (Mw.refl _))))
       ·exact og_eq _ rfl (fun f wf hq hd K hK => have Q2 := Q2.mo hq; go_run rfl (wo_load 3 (.tmp 92) (pt k2 0) (.int .i64 (c.r.s)) rfl (hd 3 rfl) (run_one Q2 3 0 rfl Tryd.underlying3 rfl) (hK _ (Mw.refl _))))
       ·exact og_eq _ rfl (fun f wf hq hd K hK => go_run rfl (wo_mv (.tmp 7) (.slice pl L.length cl) (fun _ => rfl) rfl (hK _ (Mw.refl _))))
       ·exact og_eq _ rfl (fun f wf hq hd K hK => go_run rfl (wo_un (fun v => Instr.fieldAt 27 v 0) (.tmp 3) (pt k2 0) (pt k2 0) (fun _ => rfl) rfl (by kernel_rfl) (hK _ (Mw.refl _))))
       ·exact og_eq _ rfl (fun f wf hq hd K hK => have Q2 := Q2.mo hq; go_run rfl (wo_load 25 (.tmp 95) (pt k2 0) (.agg (c.r.cells).toArray) rfl (hd 6 rfl) (run_row Q2 25 0 4 (c.r.cells) rfl Tryd.underlying25 rfl sz25) (hK _ (Mw.refl _))))
       ·exact og_eq _ rfl (fun f wf hq hd K hK => go_run rfl (wo_call 14 [(.tmp 94), (.tmp 96)] _ [.slice pl L.length cl, .agg (c.r.cells).toArray] (.int .i64 (idA L c.r)) rfl (li2 (hd 5 rfl) (hd 7 rfl)) (fun _ _ => by kernel_rfl) (wk (pid_n _ (hL.mw (M.trans hq)) hcl)) hK))
       ·exact og_eq _ rfl (fun f wf hq hd K hK => go_run rfl (wo_call 27 [(.tmp 89), (.tmp 90), (.tmp 93), (.tmp 97)] _ [.slice pl L.length cl, .agg ((parU L c.r).cells).toArray, .int .i64 (c.r.s), .int .i64 (idA L c.r)] (.tuple #[.agg (c.r.cells).toArray, .int .i64 (0)]) rfl (li4 (hd 0 rfl) (hd 1 rfl) (hd 4 rfl) (hd 8 rfl)) (fun _ _ => by kernel_rfl) (wk (cR (by rw [(kid_up hf2p (par_t hf4).2.1).1, (kid_up hf2p (par_t hf4).2.1).2.1]) (pkid_n (r := parU L c.r) (s := c.r.s) (n := idA L c.r) _ (hL.mw (M.trans hq)) hcl))) hK))
       ·exact og_eq _ rfl (fun f wf hq hd K hK => go_run rfl (wo_mv (.tmp 98) (.tuple #[.agg (c.r.cells).toArray, .int .i64 (0)]) (fun _ => rfl) (hd 9 rfl) (hK _ (Mw.refl _))))
       ·exact og_eq _ rfl (fun f wf hq hd K hK => go_run rfl (wo_un (fun v => Instr.extract v 0) (.tmp 88) (.tuple #[.agg (c.r.cells).toArray, .int .i64 (0)]) (.agg (c.r.cells).toArray) (fun _ => rfl) (hd 10 rfl) (by kernel_rfl) (hK _ (Mw.refl _))))
       ·exact og_eq _ rfl (fun f wf hq hd K hK => go_run rfl (wo_un (fun v => Instr.extract v 1) (.tmp 88) (.tuple #[.agg (c.r.cells).toArray, .int .i64 (0)]) (.int .i64 (0)) (fun _ => rfl) (hd 10 rfl) (by kernel_rfl) (hK _ (Mw.refl _))))
       ·exact og_new [.int .i64 0, .int .i64 0, .int .i64 0, .int .i64 0] rfl (fun f wf hq hd K hK => go_run rfl (wo_alloc 25 #[.int .i64 0, .int .i64 0, .int .i64 0, .int .i64 0] rfl (fun _ => by kernel_rfl) hK))
      intro kf22 u22 hq hR hne
      obtain ⟨N_k7, Q7⟩ := hR 13 _ rfl rfl
      have ne_k1_k7 : k1 ≠ (kf22 13) := by have := Q1.lt; omega
      have ne_k2_k7 : k2 ≠ (kf22 13) := by have := Q2.lt; omega
      have ne_k3_k7 : k3 ≠ (kf22 13) := by have := Q3.lt; omega
      have ne_k4_k7 : k4 ≠ (kf22 13) := by have := Q4.lt; omega
      have ne_k5_k7 : k5 ≠ (kf22 13) := by have := Q5.lt; omega
      have ne_k6_k7 : k6 ≠ (kf22 13) := by have := Q6.lt; omega
      replace N_k7 := Nat.le_trans M.size N_k7
      replace Q1 := Q1.mo hq
      replace Q2 := Q2.mo hq
      replace Q3 := Q3.mo hq
      replace Q4 := Q4.mo hq
      replace Q5 := Q5.mo hq
      replace Q6 := Q6.mo hq
      replace M := M.trans hq
      clear hq hR hne
      refine wl_st 25 (.tmp 14) (.tmp 99) (kf22 13) 0 ((c.r.cells).toArray) _ (c.r.cells) Q7 rfl rfl rfl rfl rfl sz25 rfl rfl rfl ?_
      intro u23 hS Qn
      replace Q7 := Qn
      clear Qn
      replace Q1 := hS.other _ _ ne_k1_k7 Q1
      replace Q2 := hS.other _ _ ne_k2_k7 Q2
      replace Q3 := hS.other _ _ ne_k3_k7 Q3
      replace Q4 := hS.other _ _ ne_k4_k7 Q4
      replace Q5 := hS.other _ _ ne_k5_k7 Q5
      replace Q6 := hS.other _ _ ne_k6_k7 Q6
      replace M := hS.mo _ N_k7 M
      clear hS
      refine wl_m (.tmp 100) (.int .i64 (0)) ?_
      refine w_nil (xn_then (w_seq (w_reg ?_)))
      refine wl_m (.tmp 15) (.int .i64 (0)) ?_
      refine wl_b .eql 31 (.tmp 101) (.const (.int .i64 (0))) (.int .i64 (0)) (.int .i64 (0)) (.bool true) (eq34 (r := true) (decide_eq_true rfl) _ _ _) ?_
      refine wl_m (.tmp 102) (.bool true) ?_
      refine wl_l 25 (.tmp 14) (pt (kf22 13) 0) (.agg (c.r.cells).toArray) (run_row Q7 25 0 4 (c.r.cells) rfl Tryd.underlying25 rfl sz25) ?_
      refine wl_f 27 0 (.tmp 3) (pt k2 0) (pt k2 0) ?_
      refine wl_l 25 (.tmp 105) (pt k2 0) (.agg (c.r.cells).toArray) (run_row Q2 25 0 4 (c.r.cells) rfl Tryd.underlying25 rfl sz25) ?_
      refine wl_b .eql 25 (.tmp 104) (.tmp 106) (.agg (c.r.cells).toArray) (.agg (c.r.cells).toArray) (.bool true) (eqR (sR_self _) _ _ _) ?_
      refine wl_pick (.tmp 103) (.tmp 107) (.const (.bool false)) true (.bool true) (fun _ => rfl) rfl rfl rfl ?_
      refine wl_m (.tmp 108) (.bool true) ?_
      refine wl_m (.tmp 7) (.slice pl L.length cl) ?_
      refine wl_f 27 0 (.tmp 3) (pt k2 0) (pt k2 0) ?_
      refine wl_l 25 (.tmp 111) (pt k2 0) (.agg (c.r.cells).toArray) (run_row Q2 25 0 4 (c.r.cells) rfl Tryd.underlying25 rfl sz25) ?_
      refine wl_l 25 (.tmp 12) (pt k6 0) (.agg ((parU L c.r).cells).toArray) (run_row Q6 25 0 4 ((parU L c.r).cells) rfl Tryd.underlying25 rfl sz25) ?_
      refine wl_call 28 [(.tmp 110), (.tmp 112), (.tmp 113)] _ [.slice pl L.length cl, .agg (c.r.cells).toArray, .agg ((parU L c.r).cells).toArray] (.bool true) rfl rfl (fun _ _ => by kernel_rfl) (wk (cR (congrArg Value.bool (kid_up hf2p (par_t hf4).2.1).2.2) (pwit_n (r := c.r) (o := parU L c.r) _ (hL.mw M) hcl))) rfl ?_
      intro u24 hq
      replace Q1 := Q1.mo hq
      replace Q2 := Q2.mo hq
      replace Q3 := Q3.mo hq
      replace Q4 := Q4.mo hq
      replace Q5 := Q5.mo hq
      replace Q6 := Q6.mo hq
      replace Q7 := Q7.mo hq
      replace M := M.trans hq
      clear hq
      refine wl_pick (.tmp 109) (.tmp 114) (.const (.bool false)) true (.bool true) (fun _ => rfl) rfl rfl rfl ?_
      refine wl_m (.tmp 115) (.bool true) ?_
      refine w_nil (xn_then (w_ret ?_))
      exact w_ret1 _ (.bool true) rfl rfl ⟨rfl, M0.trans M⟩
     | false =>
      refine wl_call 7 [(.tmp 76), (.tmp 78)] _ [.slice pl L.length cl, .agg (c.r.cells).toArray] (.tuple #[.agg ((parR L c.r).cells).toArray, .bool false]) rfl rfl (fun _ _ => by kernel_rfl) (wk (cR (by rw [hf4]) (ppar_n _ (hL.mw M) hcl))) rfl ?_
      intro u19 hq
      replace Q1 := Q1.mo hq
      replace Q2 := Q2.mo hq
      replace Q3 := Q3.mo hq
      replace Q4 := Q4.mo hq
      replace Q5 := Q5.mo hq
      replace M := M.trans hq
      clear hq
      refine wl_m (.tmp 79) (.tuple #[.agg ((parR L c.r).cells).toArray, .bool false]) ?_
      refine wl_un (fun v => Instr.extract v 0) (.tmp 75) (.tuple #[.agg ((parR L c.r).cells).toArray, .bool false]) (.agg ((parR L c.r).cells).toArray) (fun _ => rfl) rfl (by kernel_rfl) rfl ?_
      refine wl_un (fun v => Instr.extract v 1) (.tmp 75) (.tuple #[.agg ((parR L c.r).cells).toArray, .bool false]) (.bool false) (fun _ => rfl) rfl (by kernel_rfl) rfl ?_
      refine wl_alloc 25 #[.int .i64 0, .int .i64 0, .int .i64 0, .int .i64 0] rfl (fun _ => by kernel_rfl) rfl ?_
      intro k6 u20 hk hz hq Q6
      have ne_k1_k6 : k1 ≠ k6 := by have := Q1.lt; omega
      have ne_k2_k6 : k2 ≠ k6 := by have := Q2.lt; omega
      have ne_k3_k6 : k3 ≠ k6 := by have := Q3.lt; omega
      have ne_k4_k6 : k4 ≠ k6 := by have := Q4.lt; omega
      have ne_k5_k6 : k5 ≠ k6 := by have := Q5.lt; omega
      have N_k6 : u8.heap.size ≤ k6 := by have := M.size; omega
      replace Q1 := Q1.mo hq
      replace Q2 := Q2.mo hq
      replace Q3 := Q3.mo hq
      replace Q4 := Q4.mo hq
      replace Q5 := Q5.mo hq
      replace M := M.trans hq
      clear hk hz hq
      refine wl_st 25 (.tmp 12) (.tmp 80) k6 0 (((parR L c.r).cells).toArray) _ ((parR L c.r).cells) Q6 rfl rfl rfl rfl rfl sz25 rfl rfl rfl ?_
      intro u21 hS Qn
      replace Q6 := Qn
      clear Qn
      replace Q1 := hS.other _ _ ne_k1_k6 Q1
      replace Q2 := hS.other _ _ ne_k2_k6 Q2
      replace Q3 := hS.other _ _ ne_k3_k6 Q3
      replace Q4 := hS.other _ _ ne_k4_k6 Q4
      replace Q5 := hS.other _ _ ne_k5_k6 Q5
      replace M := hS.mo _ N_k6 M
      clear hS
      refine wl_m (.tmp 81) (.bool false) ?_
      refine w_nil (xn_then (w_seq (w_seq (w_reg ?_))))
      refine wl_m (.tmp 13) (.bool false) ?_
      refine wl_un (fun v => Op.unary .not v) (.tmp 82) (.bool false) (.bool true) (fun _ => rfl) rfl (by kernel_rfl) rfl ?_
      refine w_nil (xn_then (w_condT rfl (w_seq (w_reg ?_))))
      refine wl_f 27 0 (.tmp 3) (pt k2 0) (pt k2 0) ?_
      refine wl_f 25 0 (.tmp 84) (pt k2 0) (pt k2 0) ?_
      refine wl_l 3 (.tmp 85) (pt k2 0) (.int .i64 (c.r.s)) (run_one Q2 3 0 rfl Tryd.underlying3 rfl) ?_
      cases hf5 : decide (c.r.s = 0) with
      | true =>
       have hf5p := of_decide_eq_true hf5
       refine wl_b .eql 3 (.tmp 86) (.const (.int .i64 (0))) (.int .i64 (c.r.s)) (.int .i64 (0)) (.bool true) (eq3 hf5 _ _ _) ?_
       refine wl_m (.tmp 87) (.bool true) ?_
       refine w_nil (xn_then (w_ret (xr_then ?_)))
       exact w_ret1 _ (.bool true) rfl rfl ⟨rfl, M0.trans M⟩
      | false =>
       have hf5p := of_decide_eq_false hf5
       refine wl_b .eql 3 (.tmp 86) (.const (.int .i64 (0))) (.int .i64 (c.r.s)) (.int .i64 (0)) (.bool false) (eq3 hf5 _ _ _) ?_
       refine wl_m (.tmp 87) (.bool false) ?_
       refine w_nil (xn_then (w_ret (xr_then ?_)))
       exact w_ret1 _ (.bool false) rfl rfl ⟨absurd (par_s hf2p hf4) hf5p, M0.trans M⟩
    | false =>
     have hf3p := of_decide_eq_false hf3
     refine wl_b .eql 31 (.tmp 58) (.const (.int .i64 (0))) (.int .i64 (ckC L c)) (.int .i64 (0)) (.bool false) (eq34 hf3 _ _ _) ?_
     refine w_nil (xn_then (w_condF rfl (w_skip (xn_then (w_seq (w_reg ?_))))))
     refine wl_m (.tmp 7) (.slice pl L.length cl) ?_
     refine wl_f 27 0 (.tmp 3) (pt k2 0) (pt k2 0) ?_
     refine wl_l 25 (.tmp 77) (pt k2 0) (.agg (c.r.cells).toArray) (run_row Q2 25 0 4 (c.r.cells) rfl Tryd.underlying25 rfl sz25) ?_
     cases hf4 : parO L c.r with
     | true =>
      refine wl_call 7 [(.tmp 76), (.tmp 78)] _ [.slice pl L.length cl, .agg (c.r.cells).toArray] (.tuple #[.agg ((parU L c.r).cells).toArray, .bool true]) rfl rfl (fun _ _ => by kernel_rfl) (wk (cR (by rw [par_u hf4, hf4]) (ppar_n _ (hL.mw M) hcl))) rfl ?_
      intro u15 hq
      replace Q1 := Q1.mo hq
      replace Q2 := Q2.mo hq
      replace Q3 := Q3.mo hq
      replace Q4 := Q4.mo hq
      replace M := M.trans hq
      clear hq
      refine wl_m (.tmp 79) (.tuple #[.agg ((parU L c.r).cells).toArray, .bool true]) ?_
      refine wl_un (fun v => Instr.extract v 0) (.tmp 75) (.tuple #[.agg ((parU L c.r).cells).toArray, .bool true]) (.agg ((parU L c.r).cells).toArray) (fun _ => rfl) rfl (by kernel_rfl) rfl ?_
      refine wl_un (fun v => Instr.extract v 1) (.tmp 75) (.tuple #[.agg ((parU L c.r).cells).toArray, .bool true]) (.bool true) (fun _ => rfl) rfl (by kernel_rfl) rfl ?_
      refine wl_alloc 25 #[.int .i64 0, .int .i64 0, .int .i64 0, .int .i64 0] rfl (fun _ => by kernel_rfl) rfl ?_
      intro k5 u16 hk hz hq Q5
      have ne_k1_k5 : k1 ≠ k5 := by have := Q1.lt; omega
      have ne_k2_k5 : k2 ≠ k5 := by have := Q2.lt; omega
      have ne_k3_k5 : k3 ≠ k5 := by have := Q3.lt; omega
      have ne_k4_k5 : k4 ≠ k5 := by have := Q4.lt; omega
      have N_k5 : u8.heap.size ≤ k5 := by have := M.size; omega
      replace Q1 := Q1.mo hq
      replace Q2 := Q2.mo hq
      replace Q3 := Q3.mo hq
      replace Q4 := Q4.mo hq
      replace M := M.trans hq
      clear hk hz hq
      refine wl_st 25 (.tmp 12) (.tmp 80) k5 0 (((parU L c.r).cells).toArray) _ ((parU L c.r).cells) Q5 rfl rfl rfl rfl rfl sz25 rfl rfl rfl ?_
      intro u17 hS Qn
      replace Q5 := Qn
      clear Qn
      replace Q1 := hS.other _ _ ne_k1_k5 Q1
      replace Q2 := hS.other _ _ ne_k2_k5 Q2
      replace Q3 := hS.other _ _ ne_k3_k5 Q3
      replace Q4 := hS.other _ _ ne_k4_k5 Q4
      replace M := hS.mo _ N_k5 M
      clear hS
      refine wl_m (.tmp 81) (.bool true) ?_
      refine w_nil (xn_then (w_seq (w_seq (w_reg ?_))))
      refine wl_m (.tmp 13) (.bool true) ?_
      refine wl_un (fun v => Op.unary .not v) (.tmp 82) (.bool true) (.bool false) (fun _ => rfl) rfl (by kernel_rfl) rfl ?_
      refine w_nil (xn_then (w_condF rfl (w_skip (xn_then (w_seq ?_)))))
      refine w_any 14 [.inl (.slice pl L.length cl), .inl (.agg ((parU L c.r).cells).toArray), .inl (pt k2 0), .inl (pt k2 0), .inl (.int .i64 (c.r.s)), .inl (.slice pl L.length cl), .inl (pt k2 0), .inl (.agg (c.r.cells).toArray), .inl (.int .i64 (idA L c.r)), .inl (.tuple #[.agg (c.r.cells).toArray, .int .i64 (0)]), .inl (.tuple #[.agg (c.r.cells).toArray, .int .i64 (0)]), .inl (.agg (c.r.cells).toArray), .inl (.int .i64 (0)), .inr [.int .i64 0, .int .i64 0, .int .i64 0, .int .i64 0]] [12] (by kernel_rfl) (by kernel_rfl) (by kernel_rfl) (by kernel_rfl) rfl (by kernel_rfl) (by kernel_rfl) (late_cons ⟨_, _, rfl, rfl, fun _ _ _ _ h => h, fun f hd => ⟨rfl, la_un (fun v => Instr.extract v 1) (.tmp 88) (.tuple #[.agg (c.r.cells).toArray, .int .i64 (0)]) (.int .i64 (0)) (fun _ => rfl) (hd 10 rfl _ rfl) (fun w => by kernel_rfl)⟩⟩ late_nil) ?_ ?_ ?_
      ·exact Ds.start (by kernel_rfl)
      ·refine ea_cons ?_ (ea_cons ?_ (ea_cons ?_ (ea_cons ?_ (ea_cons ?_ (ea_cons ?_ (ea_cons ?_ (ea_cons ?_ (ea_cons ?_ (ea_cons ?_ (ea_cons ?_ (ea_cons ?_ (ea_cons ?_ (ea_cons ?_ (ea_nil))))))))))))))
       ·exact og_eq _ rfl (fun f wf hq hd K hK => go_run rfl (wo_mv (.tmp 7) (.slice pl L.length cl) (fun _ => rfl) rfl (hK _ (Mw.refl _))))
       ·exact og_eq _ rfl (fun f wf hq hd K hK => have Q5 := Q5.mo hq; go_run rfl (wo_load 25 (.tmp 12) (pt k5 0) (.agg ((parU L c.r).cells).toArray) rfl rfl (run_row Q5 25 0 4 ((parU L c.r).cells) rfl Tryd.underlying25 rfl sz25) (hK _ (Mw.refl _))))
       ·exact og_eq _ rfl (fun f wf hq hd K hK => go_run rfl (wo_un (fun v => Instr.fieldAt 27 v 0) (.tmp 3) (pt k2 0) (pt k2 0) (fun _ => rfl) rfl (by kernel_rfl) (hK _ (Mw.refl _))))
       ·exact og_eq _ rfl (fun f wf hq hd K hK => go_run rfl (wo_un (fun v => Instr.fieldAt 25 v 0) (.tmp 91) (pt k2 0) (pt k2 0) (fun _ => rfl) (hd 2 rfl) (by kernel_rfl) (hK _ (Mw.refl _))))
       ·exact og_eq _ rfl (fun f wf hq hd K hK => have Q2 := Q2.mo hq; go_run rfl (wo_load 3 (.tmp 92) (pt k2 0) (.int .i64 (c.r.s)) rfl (hd 3 rfl) (run_one Q2 3 0 rfl Tryd.underlying3 rfl) (hK _ (Mw.refl _))))
       ·exact og_eq _ rfl (fun f wf hq hd K hK => go_run rfl (wo_mv (.tmp 7) (.slice pl L.length cl) (fun _ => rfl) rfl (hK _ (Mw.refl _))))
       ·exact og_eq _ rfl (fun f wf hq hd K hK => go_run rfl (wo_un (fun v => Instr.fieldAt 27 v 0) (.tmp 3) (pt k2 0) (pt k2 0) (fun _ => rfl) rfl (by kernel_rfl) (hK _ (Mw.refl _))))
       ·exact og_eq _ rfl (fun f wf hq hd K hK => have Q2 := Q2.mo hq; go_run rfl (wo_load 25 (.tmp 95) (pt k2 0) (.agg (c.r.cells).toArray) rfl (hd 6 rfl) (run_row Q2 25 0 4 (c.r.cells) rfl Tryd.underlying25 rfl sz25) (hK _ (Mw.refl _))))
       ·exact og_eq _ rfl (fun f wf hq hd K hK => go_run rfl (wo_call 14 [(.tmp 94), (.tmp 96)] _ [.slice pl L.length cl, .agg (c.r.cells).toArray] (.int .i64 (idA L c.r)) rfl (li2 (hd 5 rfl) (hd 7 rfl)) (fun _ _ => by kernel_rfl) (wk (pid_n _ (hL.mw (M.trans hq)) hcl)) hK))
       ·exact og_eq _ rfl (fun f wf hq hd K hK => go_run rfl (wo_call 27 [(.tmp 89), (.tmp 90), (.tmp 93), (.tmp 97)] _ [.slice pl L.length cl, .agg ((parU L c.r).cells).toArray, .int .i64 (c.r.s), .int .i64 (idA L c.r)] (.tuple #[.agg (c.r.cells).toArray, .int .i64 (0)]) rfl (li4 (hd 0 rfl) (hd 1 rfl) (hd 4 rfl) (hd 8 rfl)) (fun _ _ => by kernel_rfl) (wk (cR (by rw [(kid_up hf2p (par_t hf4).2.1).1, (kid_up hf2p (par_t hf4).2.1).2.1]) (pkid_n (r := parU L c.r) (s := c.r.s) (n := idA L c.r) _ (hL.mw (M.trans hq)) hcl))) hK))
       ·exact og_eq _ rfl (fun f wf hq hd K hK => go_run rfl (wo_mv (.tmp 98) (.tuple #[.agg (c.r.cells).toArray, .int .i64 (0)]) (fun _ => rfl) (hd 9 rfl) (hK _ (Mw.refl _))))
       ·exact og_eq _ rfl (fun f wf hq hd K hK => go_run rfl (wo_un (fun v => Instr.extract v 0) (.tmp 88) (.tuple #[.agg (c.r.cells).toArray, .int .i64 (0)]) (.agg (c.r.cells).toArray) (fun _ => rfl) (hd 10 rfl) (by kernel_rfl) (hK _ (Mw.refl _))))
       ·exact og_eq _ rfl (fun f wf hq hd K hK => go_run rfl (wo_un (fun v => Instr.extract v 1) (.tmp 88) (.tuple #[.agg (c.r.cells).toArray, .int .i64 (0)]) (.int .i64 (0)) (fun _ => rfl) (hd 10 rfl) (by kernel_rfl) (hK _ (Mw.refl _))))
       ·exact og_new [.int .i64 0, .int .i64 0, .int .i64 0, .int .i64 0] rfl (fun f wf hq hd K hK => go_run rfl (wo_alloc 25 #[.int .i64 0, .int .i64 0, .int .i64 0, .int .i64 0] rfl (fun _ => by kernel_rfl) hK))
      intro kf18 u18 hq hR hne
      obtain ⟨N_k6, Q6⟩ := hR 13 _ rfl rfl
      have ne_k1_k6 : k1 ≠ (kf18 13) := by have := Q1.lt; omega
      have ne_k2_k6 : k2 ≠ (kf18 13) := by have := Q2.lt; omega
      have ne_k3_k6 : k3 ≠ (kf18 13) := by have := Q3.lt; omega
      have ne_k4_k6 : k4 ≠ (kf18 13) := by have := Q4.lt; omega
      have ne_k5_k6 : k5 ≠ (kf18 13) := by have := Q5.lt; omega
      replace N_k6 := Nat.le_trans M.size N_k6
      replace Q1 := Q1.mo hq
      replace Q2 := Q2.mo hq
      replace Q3 := Q3.mo hq
      replace Q4 := Q4.mo hq
      replace Q5 := Q5.mo hq
      replace M := M.trans hq
      clear hq hR hne
      refine wl_st 25 (.tmp 14) (.tmp 99) (kf18 13) 0 ((c.r.cells).toArray) _ (c.r.cells) Q6 rfl rfl rfl rfl rfl sz25 rfl rfl rfl ?_
      intro u19 hS Qn
      replace Q6 := Qn
      clear Qn
      replace Q1 := hS.other _ _ ne_k1_k6 Q1
      replace Q2 := hS.other _ _ ne_k2_k6 Q2
      replace Q3 := hS.other _ _ ne_k3_k6 Q3
      replace Q4 := hS.other _ _ ne_k4_k6 Q4
      replace Q5 := hS.other _ _ ne_k5_k6 Q5
      replace M := hS.mo _ N_k6 M
      clear hS
      refine wl_m (.tmp 100) (.int .i64 (0)) ?_
      refine w_nil (xn_then (w_seq (w_reg ?_)))
      refine wl_m (.tmp 15) (.int .i64 (0)) ?_
      refine wl_b .eql 31 (.tmp 101) (.const (.int .i64 (0))) (.int .i64 (0)) (.int .i64 (0)) (.bool true) (eq34 (r := true) (decide_eq_true rfl) _ _ _) ?_
      refine wl_m (.tmp 102) (.bool true) ?_
      refine wl_l 25 (.tmp 14) (pt (kf18 13) 0) (.agg (c.r.cells).toArray) (run_row Q6 25 0 4 (c.r.cells) rfl Tryd.underlying25 rfl sz25) ?_
      refine wl_f 27 0 (.tmp 3) (pt k2 0) (pt k2 0) ?_
      refine wl_l 25 (.tmp 105) (pt k2 0) (.agg (c.r.cells).toArray) (run_row Q2 25 0 4 (c.r.cells) rfl Tryd.underlying25 rfl sz25) ?_
      refine wl_b .eql 25 (.tmp 104) (.tmp 106) (.agg (c.r.cells).toArray) (.agg (c.r.cells).toArray) (.bool true) (eqR (sR_self _) _ _ _) ?_
      refine wl_pick (.tmp 103) (.tmp 107) (.const (.bool false)) true (.bool true) (fun _ => rfl) rfl rfl rfl ?_
      refine wl_m (.tmp 108) (.bool true) ?_
      refine wl_m (.tmp 7) (.slice pl L.length cl) ?_
      refine wl_f 27 0 (.tmp 3) (pt k2 0) (pt k2 0) ?_
      refine wl_l 25 (.tmp 111) (pt k2 0) (.agg (c.r.cells).toArray) (run_row Q2 25 0 4 (c.r.cells) rfl Tryd.underlying25 rfl sz25) ?_
      refine wl_l 25 (.tmp 12) (pt k5 0) (.agg ((parU L c.r).cells).toArray) (run_row Q5 25 0 4 ((parU L c.r).cells) rfl Tryd.underlying25 rfl sz25) ?_
      refine wl_call 28 [(.tmp 110), (.tmp 112), (.tmp 113)] _ [.slice pl L.length cl, .agg (c.r.cells).toArray, .agg ((parU L c.r).cells).toArray] (.bool true) rfl rfl (fun _ _ => by kernel_rfl) (wk (cR (congrArg Value.bool (kid_up hf2p (par_t hf4).2.1).2.2) (pwit_n (r := c.r) (o := parU L c.r) _ (hL.mw M) hcl))) rfl ?_
      intro u20 hq
      replace Q1 := Q1.mo hq
      replace Q2 := Q2.mo hq
      replace Q3 := Q3.mo hq
      replace Q4 := Q4.mo hq
      replace Q5 := Q5.mo hq
      replace Q6 := Q6.mo hq
      replace M := M.trans hq
      clear hq
      refine wl_pick (.tmp 109) (.tmp 114) (.const (.bool false)) true (.bool true) (fun _ => rfl) rfl rfl rfl ?_
      refine wl_m (.tmp 115) (.bool true) ?_
      refine w_nil (xn_then (w_ret ?_))
      exact w_ret1 _ (.bool true) rfl rfl ⟨rfl, M0.trans M⟩
     | false =>
      refine wl_call 7 [(.tmp 76), (.tmp 78)] _ [.slice pl L.length cl, .agg (c.r.cells).toArray] (.tuple #[.agg ((parR L c.r).cells).toArray, .bool false]) rfl rfl (fun _ _ => by kernel_rfl) (wk (cR (by rw [hf4]) (ppar_n _ (hL.mw M) hcl))) rfl ?_
      intro u15 hq
      replace Q1 := Q1.mo hq
      replace Q2 := Q2.mo hq
      replace Q3 := Q3.mo hq
      replace Q4 := Q4.mo hq
      replace M := M.trans hq
      clear hq
      refine wl_m (.tmp 79) (.tuple #[.agg ((parR L c.r).cells).toArray, .bool false]) ?_
      refine wl_un (fun v => Instr.extract v 0) (.tmp 75) (.tuple #[.agg ((parR L c.r).cells).toArray, .bool false]) (.agg ((parR L c.r).cells).toArray) (fun _ => rfl) rfl (by kernel_rfl) rfl ?_
      refine wl_un (fun v => Instr.extract v 1) (.tmp 75) (.tuple #[.agg ((parR L c.r).cells).toArray, .bool false]) (.bool false) (fun _ => rfl) rfl (by kernel_rfl) rfl ?_
      refine wl_alloc 25 #[.int .i64 0, .int .i64 0, .int .i64 0, .int .i64 0] rfl (fun _ => by kernel_rfl) rfl ?_
      intro k5 u16 hk hz hq Q5
      have ne_k1_k5 : k1 ≠ k5 := by have := Q1.lt; omega
      have ne_k2_k5 : k2 ≠ k5 := by have := Q2.lt; omega
      have ne_k3_k5 : k3 ≠ k5 := by have := Q3.lt; omega
      have ne_k4_k5 : k4 ≠ k5 := by have := Q4.lt; omega
      have N_k5 : u8.heap.size ≤ k5 := by have := M.size; omega
      replace Q1 := Q1.mo hq
      replace Q2 := Q2.mo hq
      replace Q3 := Q3.mo hq
      replace Q4 := Q4.mo hq
      replace M := M.trans hq
      clear hk hz hq
      refine wl_st 25 (.tmp 12) (.tmp 80) k5 0 (((parR L c.r).cells).toArray) _ ((parR L c.r).cells) Q5 rfl rfl rfl rfl rfl sz25 rfl rfl rfl ?_
      intro u17 hS Qn
      replace Q5 := Qn
      clear Qn
      replace Q1 := hS.other _ _ ne_k1_k5 Q1
      replace Q2 := hS.other _ _ ne_k2_k5 Q2
      replace Q3 := hS.other _ _ ne_k3_k5 Q3
      replace Q4 := hS.other _ _ ne_k4_k5 Q4
      replace M := hS.mo _ N_k5 M
      clear hS
      refine wl_m (.tmp 81) (.bool false) ?_
      refine w_nil (xn_then (w_seq (w_seq (w_reg ?_))))
      refine wl_m (.tmp 13) (.bool false) ?_
      refine wl_un (fun v => Op.unary .not v) (.tmp 82) (.bool false) (.bool true) (fun _ => rfl) rfl (by kernel_rfl) rfl ?_
      refine w_nil (xn_then (w_condT rfl (w_seq (w_reg ?_))))
      refine wl_f 27 0 (.tmp 3) (pt k2 0) (pt k2 0) ?_
      refine wl_f 25 0 (.tmp 84) (pt k2 0) (pt k2 0) ?_
      refine wl_l 3 (.tmp 85) (pt k2 0) (.int .i64 (c.r.s)) (run_one Q2 3 0 rfl Tryd.underlying3 rfl) ?_
      cases hf5 : decide (c.r.s = 0) with
      | true =>
       have hf5p := of_decide_eq_true hf5
       refine wl_b .eql 3 (.tmp 86) (.const (.int .i64 (0))) (.int .i64 (c.r.s)) (.int .i64 (0)) (.bool true) (eq3 hf5 _ _ _) ?_
       refine wl_m (.tmp 87) (.bool true) ?_
       refine w_nil (xn_then (w_ret (xr_then ?_)))
       exact w_ret1 _ (.bool true) rfl rfl ⟨rfl, M0.trans M⟩
      | false =>
       have hf5p := of_decide_eq_false hf5
       refine wl_b .eql 3 (.tmp 86) (.const (.int .i64 (0))) (.int .i64 (c.r.s)) (.int .i64 (0)) (.bool false) (eq3 hf5 _ _ _) ?_
       refine wl_m (.tmp 87) (.bool false) ?_
       refine w_nil (xn_then (w_ret (xr_then ?_)))
       exact w_ret1 _ (.bool false) rfl rfl ⟨absurd (par_s hf2p hf4) hf5p, M0.trans M⟩
   | false =>
    have hf2p := of_decide_eq_false hf2
    refine wl_b .neq 31 (.tmp 37) (.const (.int .i64 (0))) (.int .i64 (ckR L c.r)) (.int .i64 (0)) (.bool true) (ne34 hf2 _ _ _) ?_
    refine w_nil (xn_then (w_condT rfl (w_seq (w_reg ?_))))
    refine wl_m (.const (.bool true)) (.bool true) ?_
    refine w_nil (xn_then (w_ret (xr_then ?_)))
    exact w_ret1 _ (.bool true) rfl rfl ⟨rfl, M0.trans M⟩
end Go.Proofs.YtnffhcjmpjajlaaDoor.V
namespace Go.Proofs.YtnffhcjmpjajlaaDoor
open Go.ChangeShapes Go.WideShapes Go.ChangeAt Go.RowKit
namespace D
theorem cl_Section : Tryd.prog.cellsOf 45 = 4 := by kernel_rfl
theorem cl_SSection : Tryd.prog.cellsOf 43 = 1 := by kernel_rfl
theorem cl_Step : Tryd.prog.cellsOf 170 = 18 := by kernel_rfl
theorem cl_SStep : Tryd.prog.cellsOf 113 = 1 := by kernel_rfl
theorem cl_Table : Tryd.prog.cellsOf 115 = 2 := by kernel_rfl
theorem cl_STable : Tryd.prog.cellsOf 46 = 1 := by kernel_rfl
theorem cl_SString : Tryd.prog.cellsOf 120 = 1 := by kernel_rfl
theorem cl_Page : Tryd.prog.cellsOf 122 = 19 := by kernel_rfl
theorem cl_SPage : Tryd.prog.cellsOf 47 = 1 := by kernel_rfl
theorem cl_Def : Tryd.prog.cellsOf 49 = 7 := by kernel_rfl
section
variable {H : Type} {enc : TypeId × Value → H} {W : World} {sp : Nat → Bool}
set_option maxRecDepth 100000 in
theorem cut_se : ∀ (fuel : Nat) {cs : List Value} {x : DataW H × List MemPlace}, DataW.trod enc Tryd.prog W 0 sp true fuel 45 cs = some x → ∃ e : Se, LSe W e ∧ cs = e.cells := by
 intro fuel
 induction fuel using Nat.strongRecOn with
 | ind fuel ih =>
  intro cs x h
  obtain ⟨xs, m, rfl, _, hl, hlen, hi⟩ := DataW.trod_struct Tryd.underlying45 h
  rw [cl_Section] at hl
  obtain ⟨c0, c1, c2, c3, rfl⟩ : ∃ c0 c1 c2 c3, cs = [c0, c1, c2, c3] := by
   match cs, hl with
   | [a0, a1, a2, a3], _ => exact ⟨a0, a1, a2, a3, rfl⟩
  obtain ⟨y0, y1, y2, y3, rfl⟩ : ∃ y0 y1 y2 y3, xs = [y0, y1, y2, y3] := by
   match xs, hlen with
   | [a0, a1, a2, a3], _ => exact ⟨a0, a1, a2, a3, rfl⟩
  have i0 := hi 0 _ rfl
  have i1 := hi 1 _ rfl
  have i2 := hi 2 _ rfl
  have i3 := hi 3 _ rfl
  simp [cl_string, cl_int, cl_SItem, cl_SSection] at i0 i1 i2 i3
  obtain ⟨nm, e0, _⟩ := DataW.trod_string Tryd.underlying9 i0
  obtain ⟨mx, e1, _, _⟩ := DataW.trod_int Tryd.underlying3 i1
  obtain ⟨A, pa, ca, e2, hA, hSA, _⟩ := cut_sl Tryd.underlying42 (n := 23) (by decide) cl_Item It.cells ⟨⟨#[]⟩, 0, 0, 0, false, 0, (.mk 0 0 ⟨#[]⟩ ⟨#[]⟩ ⟨0, ⟨false, 0, 0, 0, 0, 0⟩, false, ⟨#[]⟩, 0⟩ 0 0 none 0 [])⟩ (fun o => LEx W o.ex) It.len (fun _ h => cut_item h) i2
  obtain ⟨B, pb, cb, e3, hB, hSB, _⟩ := cut_sl Tryd.underlying43 (n := 4) (by decide) cl_Section Se.cells (.mk ⟨#[]⟩ 0 none 0 [] none 0 []) (LSe W) Se.len (fun hm h => ih _ (by omega) h) i3
  simp at e0 e1
  subst e0 e1 e2 e3
  exact ⟨.mk nm mx pa ca A pb cb B, .mk hSA hA hSB hB, rfl⟩
set_option maxRecDepth 100000 in
theorem cut_step {fuel : Nat} {cs : List Value} {x : DataW H × List MemPlace} (h : DataW.trod enc Tryd.prog W 0 sp true fuel 170 cs = some x) : ∃ s : Sp3, cs = s.cells := by
 obtain ⟨xs, m, rfl, _, hl, hlen, hi⟩ := DataW.trod_struct Tryd.underlying170 h
 rw [cl_Step] at hl
 obtain ⟨c0, c1, c2, c3, c4, c5, c6, c7, c8, c9, c10, c11, c12, c13, c14, c15, c16, c17, rfl⟩ : ∃ c0 c1 c2 c3 c4 c5 c6 c7 c8 c9 c10 c11 c12 c13 c14 c15 c16 c17, cs = [c0, c1, c2, c3, c4, c5, c6, c7, c8, c9, c10, c11, c12, c13, c14, c15, c16, c17] := by
  match cs, hl with
  | [a0, a1, a2, a3, a4, a5, a6, a7, a8, a9, a10, a11, a12, a13, a14, a15, a16, a17], _ => exact ⟨a0, a1, a2, a3, a4, a5, a6, a7, a8, a9, a10, a11, a12, a13, a14, a15, a16, a17, rfl⟩
 obtain ⟨y0, y1, y2, rfl⟩ : ∃ y0 y1 y2, xs = [y0, y1, y2] := by
  match xs, hlen with
  | [a0, a1, a2], _ => exact ⟨a0, a1, a2, rfl⟩
 have i0 := hi 0 _ rfl
 have i1 := hi 1 _ rfl
 have i2 := hi 2 _ rfl
 simp [cl_Dec] at i0 i1 i2
 obtain ⟨a, e0⟩ := cut_dec i0
 obtain ⟨b, e1⟩ := cut_dec i1
 obtain ⟨c, e2⟩ := cut_dec i2
 simp only [Dc.cells] at e0 e1 e2
 simp at e0 e1 e2
 obtain ⟨f0, f1, f2, f3, f4, f5⟩ := e0
 obtain ⟨g0, g1, g2, g3, g4, g5⟩ := e1
 obtain ⟨k0, k1, k2, k3, k4, k5⟩ := e2
 subst f0 f1 f2 f3 f4 f5 g0 g1 g2 g3 g4 g5 k0 k1 k2 k3 k4 k5
 exact ⟨⟨a, b, c⟩, rfl⟩
set_option maxRecDepth 100000 in
theorem cut_tab {fuel : Nat} {cs : List Value} {x : DataW H × List MemPlace} (h : DataW.trod enc Tryd.prog W 0 sp true fuel 115 cs = some x) : ∃ b : Tb, SL W 18 Sp3.cells b.pa b.st ∧ cs = b.cells := by
 obtain ⟨xs, m, rfl, _, hl, hlen, hi⟩ := DataW.trod_struct Tryd.underlying115 h
 rw [cl_Table] at hl
 obtain ⟨c0, c1, rfl⟩ : ∃ c0 c1, cs = [c0, c1] := by
  match cs, hl with
  | [a0, a1], _ => exact ⟨a0, a1, rfl⟩
 obtain ⟨y0, y1, rfl⟩ : ∃ y0 y1, xs = [y0, y1] := by
  match xs, hlen with
  | [a0, a1], _ => exact ⟨a0, a1, rfl⟩
 have i0 := hi 0 _ rfl
 have i1 := hi 1 _ rfl
 simp [cl_string, cl_SStep] at i0 i1
 obtain ⟨nm, e0, _⟩ := DataW.trod_string Tryd.underlying9 i0
 obtain ⟨A, pa, ca, e1, _, hSA, _⟩ := cut_sl Tryd.underlying113 (n := 18) (by decide) cl_Step Sp3.cells ⟨⟨false, 0, 0, 0, 0, 0⟩, ⟨false, 0, 0, 0, 0, 0⟩, ⟨false, 0, 0, 0, 0, 0⟩⟩ (fun _ => True) (fun _ => rfl) (fun _ h => (cut_step h).imp fun _ h => ⟨trivial, h⟩) i1
 simp at e0
 subst e0 e1
 exact ⟨⟨nm, pa, ca, A⟩, hSA, rfl⟩
set_option maxRecDepth 100000 in
theorem cut_page {fuel : Nat} {cs : List Value} {x : DataW H × List MemPlace} (h : DataW.trod enc Tryd.prog W 0 sp true fuel 122 cs = some x) : ∃ b : Pg, (LEx W b.wh ∧ SL W 1 (fun s => [Value.string s]) b.pa b.its ∧ ∀ s ∈ b.its, s.size ≤ maxLen) ∧ cs = b.cells := by
 obtain ⟨xs, m, rfl, _, hl, hlen, hi⟩ := DataW.trod_struct Tryd.underlying122 h
 rw [cl_Page] at hl
 obtain ⟨c0, c1, c2, c3, c4, c5, c6, c7, c8, c9, c10, c11, c12, c13, c14, c15, c16, c17, c18, rfl⟩ : ∃ c0 c1 c2 c3 c4 c5 c6 c7 c8 c9 c10 c11 c12 c13 c14 c15 c16 c17 c18, cs = [c0, c1, c2, c3, c4, c5, c6, c7, c8, c9, c10, c11, c12, c13, c14, c15, c16, c17, c18] := by
  match cs, hl with
  | [a0, a1, a2, a3, a4, a5, a6, a7, a8, a9, a10, a11, a12, a13, a14, a15, a16, a17, a18], _ => exact ⟨a0, a1, a2, a3, a4, a5, a6, a7, a8, a9, a10, a11, a12, a13, a14, a15, a16, a17, a18, rfl⟩
 obtain ⟨y0, y1, y2, rfl⟩ : ∃ y0 y1 y2, xs = [y0, y1, y2] := by
  match xs, hlen with
  | [a0, a1, a2], _ => exact ⟨a0, a1, a2, rfl⟩
 have i0 := hi 0 _ rfl
 have i1 := hi 1 _ rfl
 have i2 := hi 2 _ rfl
 simp [cl_string, cl_Expr, cl_SString] at i0 i1 i2
 obtain ⟨nm, e0, _⟩ := DataW.trod_string Tryd.underlying9 i0
 obtain ⟨wh, hw, e1⟩ := cut_ex _ i1
 obtain ⟨A, pa, ca, e2, hz, hSA, _⟩ := cut_sl Tryd.underlying120 (n := 1) (by decide) cl_string (fun s => [Value.string s]) ⟨#[]⟩ (fun s => s.size ≤ maxLen) (fun _ => rfl) (fun _ h => by obtain ⟨s, e, _, z⟩ := DataW.trod_string Tryd.underlying9 h; exact ⟨s, z, e⟩) i2
 simp at e0
 subst e0 e2
 refine ⟨⟨nm, wh, pa, ca, A⟩, ⟨hw, hSA, hz⟩, ?_⟩
 show _ :: _ = Value.string nm :: (wh.cells ++ [_])
 rw [← e1]; rfl
set_option maxRecDepth 100000 in
theorem cut_def {fuel : Nat} {cs : List Value} {x : DataW H × List MemPlace} (h : DataW.trod enc Tryd.prog W 0 sp true fuel 49 cs = some x) : ∃ d : Df, LDf W d ∧ cs = d.cells := by
 obtain ⟨xs, m, rfl, _, hl, hlen, hi⟩ := DataW.trod_struct Tryd.underlying49 h
 rw [cl_Def] at hl
 obtain ⟨c0, c1, c2, c3, c4, c5, c6, rfl⟩ : ∃ c0 c1 c2 c3 c4 c5 c6, cs = [c0, c1, c2, c3, c4, c5, c6] := by
  match cs, hl with
  | [a0, a1, a2, a3, a4, a5, a6], _ => exact ⟨a0, a1, a2, a3, a4, a5, a6, rfl⟩
 obtain ⟨y0, y1, y2, y3, rfl⟩ : ∃ y0 y1 y2 y3, xs = [y0, y1, y2, y3] := by
  match xs, hlen with
  | [a0, a1, a2, a3], _ => exact ⟨a0, a1, a2, a3, rfl⟩
 have i0 := hi 0 _ rfl
 have i1 := hi 1 _ rfl
 have i2 := hi 2 _ rfl
 have i3 := hi 3 _ rfl
 simp [cl_string, cl_Section, cl_STable, cl_SPage] at i0 i1 i2 i3
 obtain ⟨nm, e0, _⟩ := DataW.trod_string Tryd.underlying9 i0
 obtain ⟨rt, hr, e1⟩ := cut_se _ i1
 obtain ⟨A, pa, ca, e2, hA, hSA, _⟩ := cut_sl Tryd.underlying46 (n := 2) (by decide) cl_Table Tb.cells ⟨⟨#[]⟩, none, 0, []⟩ (fun o => SL W 18 Sp3.cells o.pa o.st) (fun _ => rfl) (fun _ h => cut_tab h) i2
 obtain ⟨B, pb, cb, e3, hB, hSB, _⟩ := cut_sl Tryd.underlying47 (n := 19) (by decide) cl_Page Pg.cells ⟨⟨#[]⟩, (.mk 0 0 ⟨#[]⟩ ⟨#[]⟩ ⟨0, ⟨false, 0, 0, 0, 0, 0⟩, false, ⟨#[]⟩, 0⟩ 0 0 none 0 []), none, 0, []⟩ (fun o => LEx W o.wh ∧ SL W 1 (fun s => [Value.string s]) o.pa o.its ∧ ∀ s ∈ o.its, s.size ≤ maxLen) Pg.len (fun _ h => cut_page h) i3
 simp at e0
 subst e0 e2 e3
 refine ⟨⟨nm, rt, pa, ca, A, pb, cb, B⟩, ⟨hr, hSA, hA, hSB, fun o ho => (hB o ho).1, fun o ho => (hB o ho).2.1, fun o ho => (hB o ho).2.2⟩, ?_⟩
 show _ :: _ = Value.string nm :: (rt.cells ++ [_, _])
 rw [← e1]; rfl
end
end D
end Go.Proofs.YtnffhcjmpjajlaaDoor

namespace Go.Proofs.YtnffhcjmpjajlaaDoor
open Go.ChangeShapes Go.WideShapes Go.ChangeAt Go.RowKit Go.ChangeMaps
section
variable {H : Type} {enc : TypeId × Value → H} {W : World} {base : Nat} {v : Value} {d : DataW H} {p : List MemPlace}
set_option maxRecDepth 100000 in
theorem open_def (hv : Value.okWide Tryd.prog W .any base 49 v) (h : DataW.Trod enc Tryd.prog W 0 (fun _ => true) true 49 v d p) : ∃ x : D.Df, v = .agg x.cells.toArray ∧ D.LDf W x := by
 obtain ⟨a, rfl, _⟩ := okWide_struct Tryd.underlying49 hv
 obtain ⟨fuel, hf⟩ := h
 obtain ⟨x, hx, e⟩ := D.cut_def hf
 exact ⟨x, by have e2 : a = x.cells.toArray := (by rw [← e]; simp [Value.cells]); rw [e2], hx⟩
end
end Go.Proofs.YtnffhcjmpjajlaaDoor
