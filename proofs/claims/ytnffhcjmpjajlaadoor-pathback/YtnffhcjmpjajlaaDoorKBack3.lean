/-
  A part of the proof.
-/
import Derived.Test.YtnffhcjmpjajlaaDoorKBack2
import Derived.Test.YtnffhcjmpjajlaaDoorKBack1
import Derived.Test.YtnffhcjmpjajlaaDoorKa16
import Derived.Test.YtnffhcjmpjajlaaDoorKa15
import Derived.Test.YtnffhcjmpjajlaaDoorKa13
import Derived.Test.YtnffhcjmpjajlaaDoorKa11
import Derived.Test.YtnffhcjmpjajlaaDoorKa10
import Derived.Test.YtnffhcjmpjajlaaDoorKa6
import Derived.Test.YtnffhcjmpjajlaaDoorKa5
import Derived.Test.YtnffhcjmpjajlaaDoorKa4
import Derived.Test.YtnffhcjmpjajlaaDoorKa3
import Derived.Test.YtnffhcjmpjajlaaDoorKa2
import Derived.Test.YtnffhcjmpjajlaaDoorKa1
import Derived.RegionTactic
import Derived.Test.YtnffhcjmpjajlaaDoorProg
import Derived.WalkKit
import Derived.WalkSpells
import Derived.Handy
import Derived.BigQuiet
import Derived.Deep.RegionHeld3
import Derived.Deep.MidRow
import Derived.BigCall
import Derived.ChangeKeysEq
import Derived.Shelf.Small.Bits
import Derived.Shelf.Strconv.Itoa0
import Derived.Shelf.Bits.Mul64
import Derived.Deep.CutRange
import Derived.Deep.CutBlock
import Derived.ScopeJumps
import Derived.WalkMore
import Derived.Laws.StructEq
import Derived.Lib.CutLaws
import Derived.Maps.OwnSet
import Derived.WalkArith
import Derived.StringKeys
import Derived.ProofKit
import Derived.OpenShut
import Derived.ChangeArms
import Derived.Deep.Slices
import Derived.ReadAgain
import Derived.WideKeyArgs
import Derived.Maps.AppendAt
import Derived.Test.YtnffhcjmpjajlaaDoorKa9
import Derived.Test.YtnffhcjmpjajlaaDoorKa7
import Derived.Shelf.Strconv.Itoa4
import Derived.Test.YtnffhcjmpjajlaaDoorKa8
import Derived.Lib.IndexBytes
import Derived.Lib.AppendIntMem
import Derived.Lib.ItoaLen
import Derived.Laws.MakeOwn
import Derived.Test.YtnffhcjmpjajlaaDoorKa12
import Derived.Test.YtnffhcjmpjajlaaDoorKa14
namespace Go.Proofs.YtnffhcjmpjajlaaDoor
open Go.RowKit D
theorem CK.fin {w w1 w2 : World} {z : Zc} {A0 A : Al} {b : Nat} (hC : CK w z A0) (h : CK w1 z A) (m : Mk z.D w w2) (m2 : Mk (fun j => j = b) w1 w2) (hb : ¬ z.D b) : CK w2 z A := by
 have k := m.kp (fun j hj => hC.nocell hj (Mo.refl _))
 exact ⟨hC.at'.kp k m.fz, hC.df.kp k, hC.ls.kp k, fun x hx => (hC.l5 x hx).kp k, hC.mi.kp k, hC.ki.kp k, h.lm, h.lk, h.om.mk m2 (fun q => hb (by rw [← q]; exact Zc.dt)), fun i c e => (h.oi i c e).mk m2 (fun q => hb (by rw [← q]; exact Zc.di e)), fun i c e => (h.ok i c e).mk m2 (fun q => hb (by rw [← q]; exact Zc.dk e)), h.nd, h.wf, h.kr⟩
theorem tables_n {w : World} {z : Zc} {I K : Nat → List (ByteArray × Int)} (hC : CK w z ⟨[], I, K⟩) (hl : z.d.tb.length ≤ 8) : Calls Tryd.prog 44 #[pt z.cb 0] w fun e w' => e = .returned (rv (tbR z.d.tb)) ∧ Mk z.D w w' ∧ (tbR z.d.tb = none → CK w' z ⟨tbA z.d.tb z.d.tb.length, I, K⟩) := by
 refine w_enter 29 Tryd.func44 Tryd.ntmps44 rfl rfl ?_
 have M : Mo w w := Mo.refl _
 refine w_seq (w_reg ?_)
 refine wl_alloc 52 #[.int .i64 0, .int .i64 0, .int .i64 0, .int .i64 0, .int .i64 0] rfl (fun _ => by kernel_rfl) rfl ?_
 intro k1 w1 hk hz hq Q1
 have N_k1 : w.heap.size ≤ k1 := by have := M.size; omega
 replace M := M.trans hq
 clear hk hz hq
 refine wl_m (.const (.int .i64 (0))) (.int .i64 (0)) ?_
 refine w_nil (xn_then (w_seq (w_seq (w_reg ?_))))
 refine wl_m (.tmp 0) (pt z.cb 0) ?_
 refine wl_nc (.tmp 7) z.cb 0 rfl rfl rfl ?_
 refine wl_f 111 0 (.tmp 8) (pt z.cb 0) (pt z.cb 0) ?_
 refine wl_f 49 2 (.tmp 9) (pt z.cb 0) (pt z.cb 5) ?_
 refine wl_l 46 (.tmp 10) (pt z.cb 5) (.slice z.d.pt z.d.tb.length z.d.ct) (D.run_oneR (hC.rw.mo M).at' 46 5 rfl Tryd.underlying46 rfl) ?_
 refine wl_val (.int .i64 ((z.d.tb.length : Nat) : Int)) (len46 _ _ _ _ _ (by exact rfl) _ _ _ _ _ _) rfl ?_
 refine wl_m (.const (.int .i64 (0))) (.int .i64 (0)) ?_
 refine w_nil (xn_then (w_block ?_))
 have hz := hC.df.tb.1
 refine w_loop (fun m l w1 => ∃ i : Nat, m = z.d.tb.length - i ∧ i ≤ z.d.tb.length ∧ look l 0 = pt z.cb 0 ∧ look l 2 = pt k1 0 ∧ look l 11 = .slice z.d.pt z.d.tb.length z.d.ct ∧ look l 12 = .int .i64 ((z.d.tb.length : Nat) : Int) ∧ look l 13 = .int .i64 ((i : Nat) : Int) ∧ At w1 k1 [.int .i64 0, .int .i64 0, .int .i64 0, .int .i64 0, .int .i64 0] ∧ (CK w1 z ⟨tbA z.d.tb i, I, K⟩) ∧ (∀ j, j < i → tbG z.d.tb j = none) ∧ Mk z.D w w1) _ ⟨0, rfl, Nat.zero_le _, rfl, rfl, rfl, rfl, rfl, Q1, hC.mo M, (fun j hj => by omega), Mk.of _ M⟩ ?_
 clear Q1 M
 rintro m l40 wl40 ⟨i, rfl, hi, e40_0, e40_2, e40_11, e40_12, e40_i, Q1, hC1, hG, MK⟩
 by_cases hil : i < z.d.tb.length
 ·skip
  have hid : decide (i < z.d.tb.length) = true := decide_eq_true hil
  have M : Mo wl40 wl40 := Mo.refl _
  obtain ⟨x, hx⟩ := get_of_lt hil
  obtain ⟨b1, o1, hp1, hR1⟩ := D.SL.rw hC1.df.tb hx
  refine w_seq (w_reg ?_)
  refine wl_bin (fun x y => do eqGuard .lss 3 (.tmp 13) (.tmp 12) x y; binOp .lss 3 x y) (.tmp 13) (.tmp 12) (.int .i64 ((i : Nat) : Int)) (.int .i64 ((z.d.tb.length : Nat) : Int)) (.bool true) (fun _ => rfl) e40_i e40_12 (ltN hid _ _ _) rfl ?_
  refine w_nil (xn_then (w_seq (w_condT rfl (w_skip (xn_then (w_seq (w_block (w_seq (w_reg ?_)))))))))
  refine wl_mv (.tmp 13) (.int .i64 ((i : Nat) : Int)) (fun _ => rfl) e40_i rfl ?_
  refine wl_bin (fun x y => Instr.indexAt 46 x y) (.tmp 11) (.tmp 13) (.slice z.d.pt z.d.tb.length z.d.ct) (.int .i64 ((i : Nat) : Int)) (pt b1 (o1 + i * 2)) (fun _ => rfl) e40_11 e40_i (ix46 (i := i) hp1 hil _) rfl ?_
  refine wl_l 115 (.tmp 16) (pt b1 (o1 + i * 2)) (.agg (x.cells).toArray) (D.run_partR (hR1.mo M).at' 115 0 2 (x.cells) rfl Tryd.underlying115 rfl sz115) ?_
  refine wl_alloc 115 #[.string ⟨#[]⟩, .slice none 0 0] rfl (fun _ => by kernel_rfl) rfl ?_
  intro k2 w41 hk hz hq Q2
  have ne_k1_k2 : k1 ≠ k2 := by have := Q1.lt; omega
  have N_k2 : wl40.heap.size ≤ k2 := by have := M.size; omega
  replace Q1 := Q1.mo hq
  replace M := M.trans hq
  clear hk hz hq
  refine wl_m (.tmp 15) (.int .i64 ((i : Nat) : Int)) ?_
  refine wl_st 115 (.tmp 5) (.tmp 17) k2 0 ((x.cells).toArray) _ (x.cells) Q2 rfl rfl rfl rfl rfl sz115 rfl rfl rfl ?_
  intro w42 hS Qn
  replace Q2 := Qn
  clear Qn
  replace Q1 := hS.other _ _ ne_k1_k2 Q1
  replace M := hS.mo _ N_k2 M
  clear hS
  refine w_nil (xn_then (w_seq (w_reg ?_)))
  refine wl_mv (.tmp 0) (pt z.cb 0) (fun _ => rfl) e40_0 rfl ?_
  refine wl_m (.tmp 4) (.int .i64 ((i : Nat) : Int)) ?_
  refine wl_l 115 (.tmp 5) (pt k2 0) (.agg (x.cells).toArray) (run_row Q2 115 0 2 (x.cells) rfl Tryd.underlying115 rfl sz115) ?_
  refine wl_callx 60 [(.tmp 18), (.tmp 19), (.tmp 20)] _ [pt z.cb 0, .int .i64 ((i : Nat) : Int), .agg (x.cells).toArray] rfl rfl (fun _ _ => by kernel_rfl) (table_n (hC1.mo M) i x (by have := tbA_len z.d.tb i; show (tbA z.d.tb i).length < _; omega)) rfl ?_
  rintro e9 w43 ⟨rfl, hK9, hC9⟩
  refine ⟨_, rfl, ?_⟩
  replace MK := (MK.trans M).same hK9
  replace Q1 := Q1.kp (hK9.kp (fun j hj => hC1.nocell hj M)) hK9.fz
  replace Q2 := Q2.kp (hK9.kp (fun j hj => hC1.nocell hj M)) hK9.fz
  clear M
  have M : Mo w43 w43 := Mo.refl _
  refine wl_m (.tmp 21) (.int .i64 (tbE (tbA z.d.tb i) x)) ?_
  refine w_nil (xn_then (w_seq (w_reg ?_)))
  refine wl_m (.tmp 6) (.int .i64 (tbE (tbA z.d.tb i) x)) ?_
  cases hf30 : decide (tbE (tbA z.d.tb i) x = 0) with
  | true =>
   have hf30p := of_decide_eq_true hf30
   refine wl_b .neq 31 (.tmp 22) (.const (.int .i64 (0))) (.int .i64 (tbE (tbA z.d.tb i) x)) (.int .i64 (0)) (.bool false) (ne34 hf30 _ _ _) ?_
   refine w_nil (xn_then (w_condF rfl (w_skip (xn_blk (xn_then (w_reg ?_))))))
   refine wl_bin (fun x y => do eqGuard .add 3 (.tmp 13) (.const (.int .i64 (1))) x y; binOp .add 3 x y) (.tmp 13) (.const (.int .i64 (1))) (.int .i64 ((i : Nat) : Int)) (.int .i64 (1)) (.int .i64 ((i + 1 : Nat) : Int)) (fun _ => rfl) e40_i rfl (add1r (k := i) (by omega) _ _ _) rfl ?_
   refine wl_m (.tmp 27) (.int .i64 ((i + 1 : Nat) : Int)) ?_
   refine w_nil ?_
   exact xn_loop (z.d.tb.length - (i + 1)) (by omega) ⟨i + 1, rfl, by omega, e40_0, e40_2, e40_11, e40_12, rfl, Q1, by rw [tbA_s hx]; exact (hC9 hf30p).mo M, fs_step hG ((tbG_of hx).trans (er_0 hf30p)), MK.trans M⟩
  | false =>
   have hf30p := of_decide_eq_false hf30
   refine wl_b .neq 31 (.tmp 22) (.const (.int .i64 (0))) (.int .i64 (tbE (tbA z.d.tb i) x)) (.int .i64 (0)) (.bool true) (ne34 hf30 _ _ _) ?_
   refine w_nil (xn_then (w_condT rfl (w_seq (w_reg ?_))))
   refine wl_m (.tmp 4) (.int .i64 ((i : Nat) : Int)) ?_
   refine wl_build 52 [(0, (.const (.int .i64 (1)))), (3, (.tmp 24))] [(0, .int .i64 (1)), (3, .int .i64 ((i : Nat) : Int))] (.agg #[.int .i64 (1), .int .i64 0, .int .i64 0, .int .i64 ((i : Nat) : Int), .int .i64 0]) rfl rfl (by kernel_rfl) rfl ?_
   refine wl_m (.tmp 6) (.int .i64 (tbE (tbA z.d.tb i) x)) ?_
   refine wl_stm 52 (.tmp 2) (.tmp 25) k1 0 #[.int .i64 (1), .int .i64 0, .int .i64 0, .int .i64 ((i : Nat) : Int), .int .i64 0] [.int .i64 0, .int .i64 0, .int .i64 0, .int .i64 0, .int .i64 0] [.int .i64 (1), .int .i64 0, .int .i64 0, .int .i64 ((i : Nat) : Int), .int .i64 0] Q1 rfl rfl e40_2 rfl rfl sz52 rfl rfl rfl ?_
   intro w44 hS hm9 Qn
   replace Q1 := Qn
   clear Qn
   replace Q2 := hS.other _ _ ne_k1_k2.symm Q2
   have hmT := (Mk.of (fun j => j = k1) M).same hm9
   replace MK := (MK.trans M).tr hm9 (fun j hj e => by omega)
   clear M hS hm9
   have M : Mo w44 w44 := Mo.refl _
   refine wl_m (.tmp 26) (.int .i64 (tbE (tbA z.d.tb i) x)) ?_
   refine w_nil (xn_then (w_ret (xr_blk (xr_then (xr_then (xr_blk (xr_then ?_)))))))
   exact w_ret2 _ _ (.agg #[.int .i64 (1), .int .i64 0, .int .i64 0, .int .i64 ((i : Nat) : Int), .int .i64 0]) (.int .i64 (tbE (tbA z.d.tb i) x)) rfl ⟨k1, e40_2, (run_row Q1 52 0 5 _ rfl Tryd.underlying52 rfl sz52)⟩ rfl ⟨by unfold tbR; rw [fs_hit hG ((tbG_of hx).trans (er_1 hf30p)) hil]; rfl, MK.trans M, fun h => by unfold tbR at h; rw [fs_hit hG ((tbG_of hx).trans (er_1 hf30p)) hil] at h; cases h⟩
 ·skip
  have hid : decide (i < z.d.tb.length) = false := decide_eq_false hil
  have hie : i = z.d.tb.length := by omega
  have M : Mo wl40 wl40 := Mo.refl _
  refine w_seq (w_reg ?_)
  refine wl_bin (fun x y => do eqGuard .lss 3 (.tmp 13) (.tmp 12) x y; binOp .lss 3 x y) (.tmp 13) (.tmp 12) (.int .i64 ((i : Nat) : Int)) (.int .i64 ((z.d.tb.length : Nat) : Int)) (.bool false) (fun _ => rfl) e40_i e40_12 (ltN hid _ _ _) rfl ?_
  refine w_nil (xn_then (w_seq (w_condF rfl (w_exit (xx_then (xx_then (xx_blk (xn_then (w_seq (w_reg ?_))))))))))
  refine wl_build 52 [] [] (.agg #[.int .i64 0, .int .i64 0, .int .i64 0, .int .i64 0, .int .i64 0]) rfl rfl (by kernel_rfl) rfl ?_
  refine wl_stm 52 (.tmp 2) (.tmp 28) k1 0 #[.int .i64 0, .int .i64 0, .int .i64 0, .int .i64 0, .int .i64 0] [.int .i64 0, .int .i64 0, .int .i64 0, .int .i64 0, .int .i64 0] [.int .i64 0, .int .i64 0, .int .i64 0, .int .i64 0, .int .i64 0] Q1 rfl rfl e40_2 rfl rfl sz52 rfl rfl rfl ?_
  intro w41 hS hm9 Qn
  replace Q1 := Qn
  clear Qn
  have hmT := (Mk.of (fun j => j = k1) M).same hm9
  replace MK := (MK.trans M).tr hm9 (fun j hj e => by omega)
  clear M hS hm9
  have M : Mo w41 w41 := Mo.refl _
  refine wl_m (.const (.int .i64 (0))) (.int .i64 (0)) ?_
  refine w_nil (xn_then (w_ret ?_))
  exact w_ret2 _ _ (.agg #[.int .i64 0, .int .i64 0, .int .i64 0, .int .i64 0, .int .i64 0]) (.int .i64 (0)) rfl ⟨k1, e40_2, (run_row Q1 52 0 5 _ rfl Tryd.underlying52 rfl sz52)⟩ rfl ⟨by unfold tbR; rw [fs_none (by rw [← hie]; exact hG)]; rfl, MK.trans M, fun _ => by rw [hie] at hC1; exact hC.fin hC1 MK hmT (fun h => by have := hC.dlt h; omega)⟩
theorem sections_n {w : World} {z : Zc} {T : List (ByteArray × Int)} (hC : CK w z ⟨T, stI z.L 0 0, stK z.L 0⟩) (hl : z.L.length ≤ 64) : Calls Tryd.prog 45 #[pt z.cb 0] w fun e w' => e = .returned (rv (seR T z.L)) ∧ Mk z.D w w' ∧ (seR T z.L = none → CK w' z ⟨T, stI z.L z.L.length 0, stK z.L z.L.length⟩) := by
 refine w_enter 50 Tryd.func45 Tryd.ntmps45 rfl rfl ?_
 have M : Mo w w := Mo.refl _
 refine w_seq (w_reg ?_)
 refine wl_alloc 52 #[.int .i64 0, .int .i64 0, .int .i64 0, .int .i64 0, .int .i64 0] rfl (fun _ => by kernel_rfl) rfl ?_
 intro k1 w1 hk hz hq Q1
 have N_k1 : w.heap.size ≤ k1 := by have := M.size; omega
 replace M := M.trans hq
 clear hk hz hq
 refine wl_m (.const (.int .i64 (0))) (.int .i64 (0)) ?_
 refine w_nil (xn_then (w_seq (w_seq (w_reg ?_))))
 refine wl_m (.tmp 0) (pt z.cb 0) ?_
 refine wl_nc (.tmp 10) z.cb 0 rfl rfl rfl ?_
 refine wl_f 111 1 (.tmp 11) (pt z.cb 0) (pt z.cb 7) ?_
 refine wl_l 22 (.tmp 12) (pt z.cb 7) (.slice z.sp z.L.length z.sc) (D.run_oneR (hC.rw.mo M).at' 22 7 rfl Tryd.underlying22 rfl) ?_
 refine wl_val (.int .i64 ((z.L.length : Nat) : Int)) (len22 _ _ _ _ _ (by exact rfl) _ _ _ _ _ _) rfl ?_
 refine wl_m (.const (.int .i64 (0))) (.int .i64 (0)) ?_
 refine w_nil (xn_then (w_block ?_))
 have hz := hC.ls.1
 refine w_loop (fun m l w1 => ∃ i : Nat, m = z.L.length - i ∧ i ≤ z.L.length ∧ look l 0 = pt z.cb 0 ∧ look l 2 = pt k1 0 ∧ look l 13 = .slice z.sp z.L.length z.sc ∧ look l 14 = .int .i64 ((z.L.length : Nat) : Int) ∧ look l 15 = .int .i64 ((i : Nat) : Int) ∧ At w1 k1 [.int .i64 0, .int .i64 0, .int .i64 0, .int .i64 0, .int .i64 0] ∧ (CK w1 z ⟨T, stI z.L i 0, stK z.L i⟩) ∧ (∀ j, j < i → seG T z.L j = none) ∧ Mk z.D w w1) _ ⟨0, rfl, Nat.zero_le _, rfl, rfl, rfl, rfl, rfl, Q1, hC.mo M, (fun j hj => by omega), Mk.of _ M⟩ ?_
 clear Q1 M
 rintro m l40 wl40 ⟨i, rfl, hi, e40_0, e40_2, e40_13, e40_14, e40_i, Q1, hC1, hG, MK⟩
 by_cases hil : i < z.L.length
 ·skip
  have hid : decide (i < z.L.length) = true := decide_eq_true hil
  have M : Mo wl40 wl40 := Mo.refl _
  obtain ⟨x, hx⟩ := get_of_lt hil
  obtain ⟨b1, o1, hp1, hR1⟩ := D.SL.rw hC1.ls hx
  refine w_seq (w_reg ?_)
  refine wl_bin (fun x y => do eqGuard .lss 3 (.tmp 15) (.tmp 14) x y; binOp .lss 3 x y) (.tmp 15) (.tmp 14) (.int .i64 ((i : Nat) : Int)) (.int .i64 ((z.L.length : Nat) : Int)) (.bool true) (fun _ => rfl) e40_i e40_14 (ltN hid _ _ _) rfl ?_
  refine w_nil (xn_then (w_seq (w_condT rfl (w_skip (xn_then (w_seq (w_block (w_seq (w_reg ?_)))))))))
  refine wl_mv (.tmp 15) (.int .i64 ((i : Nat) : Int)) (fun _ => rfl) e40_i rfl ?_
  refine wl_bin (fun x y => Instr.indexAt 22 x y) (.tmp 13) (.tmp 15) (.slice z.sp z.L.length z.sc) (.int .i64 ((i : Nat) : Int)) (pt b1 (o1 + i * 5)) (fun _ => rfl) e40_13 e40_i (ix22 (i := i) hp1 hil _) rfl ?_
  refine wl_l 65 (.tmp 18) (pt b1 (o1 + i * 5)) (.agg (x.cells).toArray) (D.run_partR (hR1.mo M).at' 65 0 5 (x.cells) rfl Tryd.underlying65 rfl sz65) ?_
  refine wl_alloc 65 #[.int .i64 0, .int .i64 0, .string ⟨#[]⟩, .int .i64 0, .slice none 0 0] rfl (fun _ => by kernel_rfl) rfl ?_
  intro k2 w41 hk hz hq Q2
  have ne_k1_k2 : k1 ≠ k2 := by have := Q1.lt; omega
  have N_k2 : wl40.heap.size ≤ k2 := by have := M.size; omega
  replace Q1 := Q1.mo hq
  replace M := M.trans hq
  clear hk hz hq
  refine wl_m (.tmp 17) (.int .i64 ((i : Nat) : Int)) ?_
  refine wl_st 65 (.tmp 5) (.tmp 19) k2 0 ((x.cells).toArray) _ (x.cells) Q2 rfl rfl rfl rfl rfl sz65 rfl rfl rfl ?_
  intro w42 hS Qn
  replace Q2 := Qn
  clear Qn
  replace Q1 := hS.other _ _ ne_k1_k2 Q1
  replace M := hS.mo _ N_k2 M
  clear hS
  refine w_nil (xn_then (w_seq (w_seq (w_reg ?_))))
  refine wl_mv (.tmp 0) (pt z.cb 0) (fun _ => rfl) e40_0 rfl ?_
  refine wl_m (.tmp 4) (.int .i64 ((i : Nat) : Int)) ?_
  refine wl_l 65 (.tmp 5) (pt k2 0) (.agg (x.cells).toArray) (run_row Q2 65 0 5 (x.cells) rfl Tryd.underlying65 rfl sz65) ?_
  refine wl_callx 61 [(.tmp 20), (.tmp 21), (.tmp 22)] _ [pt z.cb 0, .int .i64 ((i : Nat) : Int), .agg (x.cells).toArray] rfl rfl (fun _ _ => by kernel_rfl) (section_n (hC1.mo M) i x hx (fun p => by have := kdA_len z.L p i; show (kdA z.L p i).length < _; omega)) rfl ?_
  rintro e9 w43 ⟨rfl, hK9, hC9⟩
  refine ⟨_, rfl, ?_⟩
  replace MK := (MK.trans M).same hK9
  replace Q1 := Q1.kp (hK9.kp (fun j hj => hC1.nocell hj M)) hK9.fz
  replace Q2 := Q2.kp (hK9.kp (fun j hj => hC1.nocell hj M)) hK9.fz
  clear M
  have M : Mo w43 w43 := Mo.refl _
  refine wl_m (.tmp 23) (.int .i64 (seE z.L ⟨T, stI z.L i 0, stK z.L i⟩ i x)) ?_
  refine w_nil (xn_then (w_seq (w_reg ?_)))
  refine wl_m (.tmp 6) (.int .i64 (seE z.L ⟨T, stI z.L i 0, stK z.L i⟩ i x)) ?_
  cases hf30 : decide (seE z.L ⟨T, stI z.L i 0, stK z.L i⟩ i x = 0) with
  | true =>
   have hf30p := of_decide_eq_true hf30
   refine wl_b .neq 31 (.tmp 24) (.const (.int .i64 (0))) (.int .i64 (seE z.L ⟨T, stI z.L i 0, stK z.L i⟩ i x)) (.int .i64 (0)) (.bool false) (ne34 hf30 _ _ _) ?_
   refine w_nil (xn_then (w_condF rfl (w_skip (xn_then (w_seq (w_reg ?_))))))
   refine wl_f 65 4 (.tmp 5) (pt k2 0) (pt k2 4) ?_
   refine wl_l 42 (.tmp 29) (pt k2 4) (.slice x.pi x.items.length x.ci) (run_one Q2 42 4 rfl Tryd.underlying42 rfl) ?_
   refine wl_val (.int .i64 ((x.items.length : Nat) : Int)) (len42 _ _ _ _ _ (by exact rfl) _ _ _ _ _ _) rfl ?_
   refine wl_m (.const (.int .i64 (0))) (.int .i64 (0)) ?_
   refine w_nil (xn_then (w_block ?_))
   have hC2 : CK w43 z ⟨T, stI z.L i 0, stK z.L (i + 1)⟩ := by
    rcases Nat.eq_zero_or_pos i with h0 | h0
    ·rw [stK_0 hx (by have := hC1.wf i x hx; omega)]; exact ((hC9 hf30p).1 h0).mo M
    ·rw [← stK_up hx (p := x.pr.toNat) (by have := (hC1.wf i x hx).2.2 h0; omega)]; exact ((hC9 hf30p).2 h0).mo M
   have hzi : x.items.length ≤ 64 := by
    have h9 := hf30p
    unfold seE at h9
    split at h9
    ·split at h9
     ·cases h9
     ·rename_i h8; simp at h8; omega
    ·rename_i h8; exact absurd h9 h8
   refine w_loop (fun m l w1 => ∃ j : Nat, m = x.items.length - j ∧ j ≤ x.items.length ∧ look l 0 = pt z.cb 0 ∧ look l 2 = pt k1 0 ∧ look l 4 = .int .i64 ((i : Nat) : Int) ∧ look l 13 = .slice z.sp z.L.length z.sc ∧ look l 14 = .int .i64 ((z.L.length : Nat) : Int) ∧ look l 15 = .int .i64 ((i : Nat) : Int) ∧ look l 30 = .slice x.pi x.items.length x.ci ∧ look l 31 = .int .i64 ((x.items.length : Nat) : Int) ∧ look l 32 = .int .i64 ((j : Nat) : Int) ∧ At w1 k1 [.int .i64 0, .int .i64 0, .int .i64 0, .int .i64 0, .int .i64 0] ∧ (CK w1 z ⟨T, stI z.L i j, stK z.L (i + 1)⟩) ∧ (∀ m, m < j → ixG z.L i m = none) ∧ Mk z.D w w1) _ ⟨0, rfl, Nat.zero_le _, e40_0, e40_2, rfl, e40_13, e40_14, e40_i, rfl, rfl, rfl, Q1, hC2, (fun j hj => by omega), MK.trans M⟩ ?_
   clear Q1 Q2 M MK
   rintro m l70 wl70 ⟨j, rfl, hj, e70_0, e70_2, e70_4, e70_13, e70_14, e70_15, e70_30, e70_31, e70_i, Q1, hC2, hH, MK⟩
   by_cases hjl : j < x.items.length
   ·skip
    have hjd : decide (j < x.items.length) = true := decide_eq_true hjl
    have M : Mo wl70 wl70 := Mo.refl _
    obtain ⟨y, hy⟩ := get_of_lt hjl
    obtain ⟨b2, o2, hp2, hR2⟩ := D.SL.rw (hC2.l5 x (List.mem_of_getElem? hx)).it hy
    refine w_seq (w_reg ?_)
    refine wl_bin (fun x y => do eqGuard .lss 3 (.tmp 32) (.tmp 31) x y; binOp .lss 3 x y) (.tmp 32) (.tmp 31) (.int .i64 ((j : Nat) : Int)) (.int .i64 ((x.items.length : Nat) : Int)) (.bool true) (fun _ => rfl) e70_i e70_31 (ltN hjd _ _ _) rfl ?_
    refine w_nil (xn_then (w_seq (w_condT rfl (w_skip (xn_then (w_seq (w_block (w_seq (w_reg ?_)))))))))
    refine wl_mv (.tmp 32) (.int .i64 ((j : Nat) : Int)) (fun _ => rfl) e70_i rfl ?_
    refine wl_bin (fun x y => Instr.indexAt 42 x y) (.tmp 30) (.tmp 32) (.slice x.pi x.items.length x.ci) (.int .i64 ((j : Nat) : Int)) (pt b2 (o2 + j * 23)) (fun _ => rfl) e70_30 e70_i (ix42 (i := j) hp2 hjl _) rfl ?_
    refine wl_l 79 (.tmp 35) (pt b2 (o2 + j * 23)) (.agg (y.cells).toArray) (D.run_partR (hR2.mo M).at' 79 0 23 (y.cells) rfl Tryd.underlying79 rfl sz79) ?_
    refine wl_alloc 79 #[.string ⟨#[]⟩, .int .i64 0, .int .i64 0, .int .i64 0, .bool false, .int .i64 0, .int .i64 0, .int .i64 0, .string ⟨#[]⟩, .string ⟨#[]⟩, .int .i64 0, .bool false, .int .u64 0, .int .u64 0, .int .u64 0, .int .u64 0, .int .i64 0, .bool false, .string ⟨#[]⟩, .int .i64 0, .int .i64 0, .int .i64 0, .slice none 0 0] rfl (fun _ => by kernel_rfl) rfl ?_
    intro k3 w71 hk hz hq Q3
    have ne_k1_k3 : k1 ≠ k3 := by have := Q1.lt; omega
    have N_k3 : wl70.heap.size ≤ k3 := by have := M.size; omega
    replace Q1 := Q1.mo hq
    replace M := M.trans hq
    clear hk hz hq
    refine wl_m (.tmp 34) (.int .i64 ((j : Nat) : Int)) ?_
    refine wl_st 79 (.tmp 8) (.tmp 36) k3 0 ((y.cells).toArray) _ (y.cells) Q3 rfl rfl rfl rfl rfl sz79 rfl rfl rfl ?_
    intro w72 hS Qn
    replace Q3 := Qn
    clear Qn
    replace Q1 := hS.other _ _ ne_k1_k3 Q1
    replace M := hS.mo _ N_k3 M
    clear hS
    refine w_nil (xn_then (w_seq (w_reg ?_)))
    refine wl_mv (.tmp 0) (pt z.cb 0) (fun _ => rfl) e70_0 rfl ?_
    refine wl_mv (.tmp 4) (.int .i64 ((i : Nat) : Int)) (fun _ => rfl) e70_4 rfl ?_
    refine wl_l 79 (.tmp 8) (pt k3 0) (.agg (y.cells).toArray) (run_row Q3 79 0 23 (y.cells) rfl Tryd.underlying79 rfl sz79) ?_
    refine wl_callx 62 [(.tmp 37), (.tmp 38), (.tmp 39)] _ [pt z.cb 0, .int .i64 ((i : Nat) : Int), .agg (y.cells).toArray] rfl rfl (fun _ _ => by kernel_rfl) (item_n (hC2.mo M) i hil y (by show (stI z.L i j i).length < _; rw [stI_self]; have := itA_len (itO z.L i) j; omega)) rfl ?_
    rintro e9 w73 ⟨rfl, hK9, hC9⟩
    refine ⟨_, rfl, ?_⟩
    replace MK := (MK.trans M).same hK9
    replace Q1 := Q1.kp (hK9.kp (fun j hj => hC2.nocell hj M)) hK9.fz
    replace Q3 := Q3.kp (hK9.kp (fun j hj => hC2.nocell hj M)) hK9.fz
    clear M
    have M : Mo w73 w73 := Mo.refl _
    refine wl_m (.tmp 40) (.int .i64 (itE z.L (stI z.L i j) i y)) ?_
    refine w_nil (xn_then (w_seq (w_reg ?_)))
    refine wl_m (.tmp 9) (.int .i64 (itE z.L (stI z.L i j) i y)) ?_
    cases hf60 : decide (itE z.L (stI z.L i j) i y = 0) with
    | true =>
     have hf60p := of_decide_eq_true hf60
     refine wl_b .neq 31 (.tmp 41) (.const (.int .i64 (0))) (.int .i64 (itE z.L (stI z.L i j) i y)) (.int .i64 (0)) (.bool false) (ne34 hf60 _ _ _) ?_
     refine w_nil (xn_then (w_condF rfl (w_skip (xn_blk (xn_then (w_reg ?_))))))
     refine wl_bin (fun x y => do eqGuard .add 3 (.tmp 32) (.const (.int .i64 (1))) x y; binOp .add 3 x y) (.tmp 32) (.const (.int .i64 (1))) (.int .i64 ((j : Nat) : Int)) (.int .i64 (1)) (.int .i64 ((j + 1 : Nat) : Int)) (fun _ => rfl) e70_i rfl (add1r (k := j) (by omega) _ _ _) rfl ?_
     refine wl_m (.tmp 47) (.int .i64 ((j + 1 : Nat) : Int)) ?_
     refine w_nil ?_
     exact xn_loop (x.items.length - (j + 1)) (by omega) ⟨j + 1, rfl, by omega, e70_0, e70_2, e70_4, e70_13, e70_14, e70_15, e70_30, e70_31, rfl, Q1, by rw [← stI_up hx hy]; exact (hC9 hf60p).mo M, fs_step hH ((ixG_of hx hy).trans (er_0 hf60p)), MK.trans M⟩
    | false =>
     have hf60p := of_decide_eq_false hf60
     refine wl_b .neq 31 (.tmp 41) (.const (.int .i64 (0))) (.int .i64 (itE z.L (stI z.L i j) i y)) (.int .i64 (0)) (.bool true) (ne34 hf60 _ _ _) ?_
     refine w_nil (xn_then (w_condT rfl (w_seq (w_reg ?_))))
     refine wl_mv (.tmp 4) (.int .i64 ((i : Nat) : Int)) (fun _ => rfl) e70_4 rfl ?_
     refine wl_m (.tmp 7) (.int .i64 ((j : Nat) : Int)) ?_
     refine wl_build 52 [(0, (.const (.int .i64 (3)))), (1, (.tmp 43)), (2, (.tmp 44))] [(0, .int .i64 (3)), (1, .int .i64 ((i : Nat) : Int)), (2, .int .i64 ((j : Nat) : Int))] (.agg #[.int .i64 (3), .int .i64 ((i : Nat) : Int), .int .i64 ((j : Nat) : Int), .int .i64 0, .int .i64 0]) rfl rfl (by kernel_rfl) rfl ?_
     refine wl_m (.tmp 9) (.int .i64 (itE z.L (stI z.L i j) i y)) ?_
     refine wl_stm 52 (.tmp 2) (.tmp 45) k1 0 #[.int .i64 (3), .int .i64 ((i : Nat) : Int), .int .i64 ((j : Nat) : Int), .int .i64 0, .int .i64 0] [.int .i64 0, .int .i64 0, .int .i64 0, .int .i64 0, .int .i64 0] [.int .i64 (3), .int .i64 ((i : Nat) : Int), .int .i64 ((j : Nat) : Int), .int .i64 0, .int .i64 0] Q1 rfl rfl e70_2 rfl rfl sz52 rfl rfl rfl ?_
     intro w74 hS hm9 Qn
     replace Q1 := Qn
     clear Qn
     replace Q3 := hS.other _ _ ne_k1_k3.symm Q3
     have hmT := (Mk.of (fun j => j = k1) M).same hm9
     replace MK := (MK.trans M).tr hm9 (fun j hj e => by omega)
     clear M hS hm9
     have M : Mo w74 w74 := Mo.refl _
     refine wl_m (.tmp 46) (.int .i64 (itE z.L (stI z.L i j) i y)) ?_
     refine w_nil (xn_then (w_ret (xr_blk (xr_then (xr_then (xr_blk (xr_blk (xr_then (xr_then (xr_blk (xr_then ?_)))))))))))
     exact w_ret2 _ _ (.agg #[.int .i64 (3), .int .i64 ((i : Nat) : Int), .int .i64 ((j : Nat) : Int), .int .i64 0, .int .i64 0]) (.int .i64 (itE z.L (stI z.L i j) i y)) rfl ⟨k1, e70_2, (run_row Q1 52 0 5 _ rfl Tryd.underlying52 rfl sz52)⟩ rfl ⟨by unfold seR; rw [fs_hit hG ((seG_of hx).trans (by rw [er_0 hf30p, Option.none_or]; exact fs_hit hH ((ixG_of hx hy).trans (er_1 hf60p)) hjl)) hil]; rfl, MK.trans M, fun h => by unfold seR at h; rw [fs_hit hG ((seG_of hx).trans (by rw [er_0 hf30p, Option.none_or]; exact fs_hit hH ((ixG_of hx hy).trans (er_1 hf60p)) hjl)) hil] at h; cases h⟩
   ·skip
    have hjd : decide (j < x.items.length) = false := decide_eq_false hjl
    have hje : j = x.items.length := by omega
    have M : Mo wl70 wl70 := Mo.refl _
    refine w_seq (w_reg ?_)
    refine wl_bin (fun x y => do eqGuard .lss 3 (.tmp 32) (.tmp 31) x y; binOp .lss 3 x y) (.tmp 32) (.tmp 31) (.int .i64 ((j : Nat) : Int)) (.int .i64 ((x.items.length : Nat) : Int)) (.bool false) (fun _ => rfl) e70_i e70_31 (ltN hjd _ _ _) rfl ?_
    refine w_nil (xn_then (w_seq (w_condF rfl (w_exit (xx_then (xx_then (xx_blk (xn_blk (xn_then (w_reg ?_))))))))))
    refine wl_bin (fun x y => do eqGuard .add 3 (.tmp 15) (.const (.int .i64 (1))) x y; binOp .add 3 x y) (.tmp 15) (.const (.int .i64 (1))) (.int .i64 ((i : Nat) : Int)) (.int .i64 (1)) (.int .i64 ((i + 1 : Nat) : Int)) (fun _ => rfl) e70_15 rfl (add1r (k := i) (by omega) _ _ _) rfl ?_
    refine wl_m (.tmp 48) (.int .i64 ((i + 1 : Nat) : Int)) ?_
    refine w_nil ?_
    exact xn_loop (z.L.length - (i + 1)) (by omega) ⟨i + 1, rfl, by omega, e70_0, e70_2, e70_13, e70_14, rfl, Q1, by rw [hje, stI_next hx] at hC2; exact hC2.mo M, fs_step hG ((seG_of hx).trans (by rw [er_0 hf30p, Option.none_or]; exact fs_none (by rw [← hje]; exact hH))), MK.trans M⟩
  | false =>
   have hf30p := of_decide_eq_false hf30
   refine wl_b .neq 31 (.tmp 24) (.const (.int .i64 (0))) (.int .i64 (seE z.L ⟨T, stI z.L i 0, stK z.L i⟩ i x)) (.int .i64 (0)) (.bool true) (ne34 hf30 _ _ _) ?_
   refine w_nil (xn_then (w_condT rfl (w_seq (w_reg ?_))))
   refine wl_m (.tmp 4) (.int .i64 ((i : Nat) : Int)) ?_
   refine wl_build 52 [(0, (.const (.int .i64 (2)))), (1, (.tmp 26))] [(0, .int .i64 (2)), (1, .int .i64 ((i : Nat) : Int))] (.agg #[.int .i64 (2), .int .i64 ((i : Nat) : Int), .int .i64 0, .int .i64 0, .int .i64 0]) rfl rfl (by kernel_rfl) rfl ?_
   refine wl_m (.tmp 6) (.int .i64 (seE z.L ⟨T, stI z.L i 0, stK z.L i⟩ i x)) ?_
   refine wl_stm 52 (.tmp 2) (.tmp 27) k1 0 #[.int .i64 (2), .int .i64 ((i : Nat) : Int), .int .i64 0, .int .i64 0, .int .i64 0] [.int .i64 0, .int .i64 0, .int .i64 0, .int .i64 0, .int .i64 0] [.int .i64 (2), .int .i64 ((i : Nat) : Int), .int .i64 0, .int .i64 0, .int .i64 0] Q1 rfl rfl e40_2 rfl rfl sz52 rfl rfl rfl ?_
   intro w44 hS hm9 Qn
   replace Q1 := Qn
   clear Qn
   replace Q2 := hS.other _ _ ne_k1_k2.symm Q2
   have hmT := (Mk.of (fun j => j = k1) M).same hm9
   replace MK := (MK.trans M).tr hm9 (fun j hj e => by omega)
   clear M hS hm9
   have M : Mo w44 w44 := Mo.refl _
   refine wl_m (.tmp 28) (.int .i64 (seE z.L ⟨T, stI z.L i 0, stK z.L i⟩ i x)) ?_
   refine w_nil (xn_then (w_ret (xr_then (xr_blk (xr_then (xr_then (xr_blk (xr_then ?_))))))))
   exact w_ret2 _ _ (.agg #[.int .i64 (2), .int .i64 ((i : Nat) : Int), .int .i64 0, .int .i64 0, .int .i64 0]) (.int .i64 (seE z.L ⟨T, stI z.L i 0, stK z.L i⟩ i x)) rfl ⟨k1, e40_2, (run_row Q1 52 0 5 _ rfl Tryd.underlying52 rfl sz52)⟩ rfl ⟨by unfold seR; rw [fs_hit hG ((seG_of hx).trans (by rw [er_1 hf30p]; rfl)) hil]; rfl, MK.trans M, fun h => by unfold seR at h; rw [fs_hit hG ((seG_of hx).trans (by rw [er_1 hf30p]; rfl)) hil] at h; cases h⟩
 ·skip
  have hid : decide (i < z.L.length) = false := decide_eq_false hil
  have hie : i = z.L.length := by omega
  have M : Mo wl40 wl40 := Mo.refl _
  refine w_seq (w_reg ?_)
  refine wl_bin (fun x y => do eqGuard .lss 3 (.tmp 15) (.tmp 14) x y; binOp .lss 3 x y) (.tmp 15) (.tmp 14) (.int .i64 ((i : Nat) : Int)) (.int .i64 ((z.L.length : Nat) : Int)) (.bool false) (fun _ => rfl) e40_i e40_14 (ltN hid _ _ _) rfl ?_
  refine w_nil (xn_then (w_seq (w_condF rfl (w_exit (xx_then (xx_then (xx_blk (xn_then (w_seq (w_reg ?_))))))))))
  refine wl_build 52 [] [] (.agg #[.int .i64 0, .int .i64 0, .int .i64 0, .int .i64 0, .int .i64 0]) rfl rfl (by kernel_rfl) rfl ?_
  refine wl_stm 52 (.tmp 2) (.tmp 49) k1 0 #[.int .i64 0, .int .i64 0, .int .i64 0, .int .i64 0, .int .i64 0] [.int .i64 0, .int .i64 0, .int .i64 0, .int .i64 0, .int .i64 0] [.int .i64 0, .int .i64 0, .int .i64 0, .int .i64 0, .int .i64 0] Q1 rfl rfl e40_2 rfl rfl sz52 rfl rfl rfl ?_
  intro w41 hS hm9 Qn
  replace Q1 := Qn
  clear Qn
  have hmT := (Mk.of (fun j => j = k1) M).same hm9
  replace MK := (MK.trans M).tr hm9 (fun j hj e => by omega)
  clear M hS hm9
  have M : Mo w41 w41 := Mo.refl _
  refine wl_m (.const (.int .i64 (0))) (.int .i64 (0)) ?_
  refine w_nil (xn_then (w_ret ?_))
  exact w_ret2 _ _ (.agg #[.int .i64 0, .int .i64 0, .int .i64 0, .int .i64 0, .int .i64 0]) (.int .i64 (0)) rfl ⟨k1, e40_2, (run_row Q1 52 0 5 _ rfl Tryd.underlying52 rfl sz52)⟩ rfl ⟨by unfold seR; rw [fs_none (by rw [← hie]; exact hG)]; rfl, MK.trans M, fun _ => by rw [hie] at hC1; exact hC.fin hC1 MK hmT (fun h => by have := hC.dlt h; omega)⟩
theorem formulas_n {w : World} {z : Zc} {A : Al} (hC : CK w z A) : Calls Tryd.prog 46 #[pt z.cb 0] w fun e w' => e = .returned (rv (foR z.L A)) ∧ Mo w w' := by
 refine w_enter 42 Tryd.func46 Tryd.ntmps46 rfl rfl ?_
 have M : Mo w w := Mo.refl _
 refine w_seq (w_reg ?_)
 refine wl_alloc 52 #[.int .i64 0, .int .i64 0, .int .i64 0, .int .i64 0, .int .i64 0] rfl (fun _ => by kernel_rfl) rfl ?_
 intro k1 w1 hk hz hq Q1
 have N_k1 : w.heap.size ≤ k1 := by have := M.size; omega
 replace M := M.trans hq
 clear hk hz hq
 refine wl_m (.const (.int .i64 (0))) (.int .i64 (0)) ?_
 refine w_nil (xn_then (w_seq (w_seq (w_reg ?_))))
 refine wl_m (.tmp 0) (pt z.cb 0) ?_
 refine wl_nc (.tmp 8) z.cb 0 rfl rfl rfl ?_
 refine wl_f 111 1 (.tmp 9) (pt z.cb 0) (pt z.cb 7) ?_
 refine wl_l 22 (.tmp 10) (pt z.cb 7) (.slice z.sp z.L.length z.sc) (D.run_oneR (hC.rw.mo M).at' 22 7 rfl Tryd.underlying22 rfl) ?_
 refine wl_val (.int .i64 ((z.L.length : Nat) : Int)) (len22 _ _ _ _ _ (by exact rfl) _ _ _ _ _ _) rfl ?_
 refine wl_m (.const (.int .i64 (0))) (.int .i64 (0)) ?_
 refine w_nil (xn_then (w_block ?_))
 have hz := hC.ls.1
 unfold maxLen at hz
 refine w_loop (fun m l w1 => ∃ i : Nat, m = z.L.length - i ∧ i ≤ z.L.length ∧ look l 0 = pt z.cb 0 ∧ look l 2 = pt k1 0 ∧ look l 11 = .slice z.sp z.L.length z.sc ∧ look l 12 = .int .i64 ((z.L.length : Nat) : Int) ∧ look l 13 = .int .i64 ((i : Nat) : Int) ∧ At w1 k1 [.int .i64 0, .int .i64 0, .int .i64 0, .int .i64 0, .int .i64 0] ∧ (∀ j, j < i → foS z.L A j = none) ∧ Mo w w1) _ ⟨0, rfl, Nat.zero_le _, rfl, rfl, rfl, rfl, rfl, Q1, (fun j hj => by omega), M⟩ ?_
 clear Q1 M
 rintro m l40 wl40 ⟨i, rfl, hi, e40_0, e40_2, e40_11, e40_12, e40_i, Q1, hG, M⟩
 by_cases hil : i < z.L.length
 ·skip
  have hid : decide (i < z.L.length) = true := decide_eq_true hil
  obtain ⟨x, hx⟩ := get_of_lt hil
  obtain ⟨b1, o1, hp1, hR1⟩ := D.SL.rw hC.ls hx
  refine w_seq (w_reg ?_)
  refine wl_bin (fun x y => do eqGuard .lss 3 (.tmp 13) (.tmp 12) x y; binOp .lss 3 x y) (.tmp 13) (.tmp 12) (.int .i64 ((i : Nat) : Int)) (.int .i64 ((z.L.length : Nat) : Int)) (.bool true) (fun _ => rfl) e40_i e40_12 (ltN hid _ _ _) rfl ?_
  refine w_nil (xn_then (w_seq (w_condT rfl (w_skip (xn_then (w_seq (w_block (w_seq (w_reg ?_)))))))))
  refine wl_mv (.tmp 13) (.int .i64 ((i : Nat) : Int)) (fun _ => rfl) e40_i rfl ?_
  refine wl_bin (fun x y => Instr.indexAt 22 x y) (.tmp 11) (.tmp 13) (.slice z.sp z.L.length z.sc) (.int .i64 ((i : Nat) : Int)) (pt b1 (o1 + i * 5)) (fun _ => rfl) e40_11 e40_i (ix22 (i := i) hp1 hil _) rfl ?_
  refine wl_l 65 (.tmp 16) (pt b1 (o1 + i * 5)) (.agg (x.cells).toArray) (D.run_partR (hR1.mo M).at' 65 0 5 (x.cells) rfl Tryd.underlying65 rfl sz65) ?_
  refine wl_alloc 65 #[.int .i64 0, .int .i64 0, .string ⟨#[]⟩, .int .i64 0, .slice none 0 0] rfl (fun _ => by kernel_rfl) rfl ?_
  intro k2 w41 hk hz hq Q2
  have ne_k1_k2 : k1 ≠ k2 := by have := Q1.lt; omega
  have N_k2 : w.heap.size ≤ k2 := by have := M.size; omega
  replace Q1 := Q1.mo hq
  replace M := M.trans hq
  clear hk hz hq
  refine wl_m (.tmp 15) (.int .i64 ((i : Nat) : Int)) ?_
  refine wl_st 65 (.tmp 5) (.tmp 17) k2 0 ((x.cells).toArray) _ (x.cells) Q2 rfl rfl rfl rfl rfl sz65 rfl rfl rfl ?_
  intro w42 hS Qn
  replace Q2 := Qn
  clear Qn
  replace Q1 := hS.other _ _ ne_k1_k2 Q1
  replace M := hS.mo _ N_k2 M
  clear hS
  refine w_nil (xn_then (w_seq (w_reg ?_)))
  refine wl_f 65 4 (.tmp 5) (pt k2 0) (pt k2 4) ?_
  refine wl_l 42 (.tmp 18) (pt k2 4) (.slice x.pi x.items.length x.ci) (run_one Q2 42 4 rfl Tryd.underlying42 rfl) ?_
  refine wl_val (.int .i64 ((x.items.length : Nat) : Int)) (len42 _ _ _ _ _ (by exact rfl) _ _ _ _ _ _) rfl ?_
  refine wl_m (.const (.int .i64 (0))) (.int .i64 (0)) ?_
  refine w_nil (xn_then (w_block ?_))
  have h5 := hC.l5 x (List.mem_of_getElem? hx)
  have hzi := h5.it.1
  unfold maxLen at hzi
  refine w_loop (fun m l w1 => ∃ j : Nat, m = x.items.length - j ∧ j ≤ x.items.length ∧ look l 0 = pt z.cb 0 ∧ look l 2 = pt k1 0 ∧ look l 4 = .int .i64 ((i : Nat) : Int) ∧ look l 11 = .slice z.sp z.L.length z.sc ∧ look l 12 = .int .i64 ((z.L.length : Nat) : Int) ∧ look l 13 = .int .i64 ((i : Nat) : Int) ∧ look l 19 = .slice x.pi x.items.length x.ci ∧ look l 20 = .int .i64 ((x.items.length : Nat) : Int) ∧ look l 21 = .int .i64 ((j : Nat) : Int) ∧ At w1 k1 [.int .i64 0, .int .i64 0, .int .i64 0, .int .i64 0, .int .i64 0] ∧ (∀ m, m < j → foG z.L A i m = none) ∧ Mo w w1) _ ⟨0, rfl, Nat.zero_le _, e40_0, e40_2, rfl, e40_11, e40_12, e40_i, rfl, rfl, rfl, Q1, (fun j hj => by omega), M⟩ ?_
  clear Q1 Q2 M
  rintro m l70 wl70 ⟨j, rfl, hj, e70_0, e70_2, e70_4, e70_11, e70_12, e70_13, e70_19, e70_20, e70_i, Q1, hH, M⟩
  by_cases hjl : j < x.items.length
  ·skip
   have hjd : decide (j < x.items.length) = true := decide_eq_true hjl
   obtain ⟨y, hy⟩ := get_of_lt hjl
   obtain ⟨b2, o2, hp2, hR2⟩ := D.SL.rw h5.it hy
   refine w_seq (w_reg ?_)
   refine wl_bin (fun x y => do eqGuard .lss 3 (.tmp 21) (.tmp 20) x y; binOp .lss 3 x y) (.tmp 21) (.tmp 20) (.int .i64 ((j : Nat) : Int)) (.int .i64 ((x.items.length : Nat) : Int)) (.bool true) (fun _ => rfl) e70_i e70_20 (ltN hjd _ _ _) rfl ?_
   refine w_nil (xn_then (w_seq (w_condT rfl (w_skip (xn_then (w_seq (w_block (w_seq (w_reg ?_)))))))))
   refine wl_mv (.tmp 21) (.int .i64 ((j : Nat) : Int)) (fun _ => rfl) e70_i rfl ?_
   refine wl_bin (fun x y => Instr.indexAt 42 x y) (.tmp 19) (.tmp 21) (.slice x.pi x.items.length x.ci) (.int .i64 ((j : Nat) : Int)) (pt b2 (o2 + j * 23)) (fun _ => rfl) e70_19 e70_i (ix42 (i := j) hp2 hjl _) rfl ?_
   refine wl_l 79 (.tmp 24) (pt b2 (o2 + j * 23)) (.agg (y.cells).toArray) (D.run_partR (hR2.mo M).at' 79 0 23 (y.cells) rfl Tryd.underlying79 rfl sz79) ?_
   refine wl_alloc 79 #[.string ⟨#[]⟩, .int .i64 0, .int .i64 0, .int .i64 0, .bool false, .int .i64 0, .int .i64 0, .int .i64 0, .string ⟨#[]⟩, .string ⟨#[]⟩, .int .i64 0, .bool false, .int .u64 0, .int .u64 0, .int .u64 0, .int .u64 0, .int .i64 0, .bool false, .string ⟨#[]⟩, .int .i64 0, .int .i64 0, .int .i64 0, .slice none 0 0] rfl (fun _ => by kernel_rfl) rfl ?_
   intro k3 w71 hk hz hq Q3
   have ne_k1_k3 : k1 ≠ k3 := by have := Q1.lt; omega
   have N_k3 : w.heap.size ≤ k3 := by have := M.size; omega
   replace Q1 := Q1.mo hq
   replace M := M.trans hq
   clear hk hz hq
   refine wl_m (.tmp 23) (.int .i64 ((j : Nat) : Int)) ?_
   refine wl_st 79 (.tmp 7) (.tmp 25) k3 0 ((y.cells).toArray) _ (y.cells) Q3 rfl rfl rfl rfl rfl sz79 rfl rfl rfl ?_
   intro w72 hS Qn
   replace Q3 := Qn
   clear Qn
   replace Q1 := hS.other _ _ ne_k1_k3 Q1
   replace M := hS.mo _ N_k3 M
   clear hS
   refine w_nil (xn_then (w_seq (w_reg ?_)))
   refine wl_f 79 1 (.tmp 7) (pt k3 0) (pt k3 1) ?_
   refine wl_l 3 (.tmp 26) (pt k3 1) (.int .i64 (y.k)) (run_one Q3 3 1 rfl Tryd.underlying3 rfl) ?_
   cases hf60 : decide (y.k = 1) with
   | true =>
    have hf60p := of_decide_eq_true hf60
    refine wl_b .neq 3 (.tmp 27) (.const (.int .i64 (1))) (.int .i64 (y.k)) (.int .i64 (1)) (.bool false) (ne3 hf60 _ _ _) ?_
    refine wl_m (.tmp 28) (.bool false) ?_
    refine wl_skip rfl (wl_skip rfl (wl_skip rfl (wl_skip rfl (wl_skip rfl ?_))))
    refine wl_pick (.tmp 29) (.tmp 34) (.const (.bool false)) false (.bool false) (fun _ => rfl) rfl rfl rfl ?_
    refine w_nil (xn_then (w_condF rfl (w_skip (xn_blk (xn_then (w_reg ?_))))))
    refine wl_bin (fun x y => do eqGuard .add 3 (.tmp 21) (.const (.int .i64 (1))) x y; binOp .add 3 x y) (.tmp 21) (.const (.int .i64 (1))) (.int .i64 ((j : Nat) : Int)) (.int .i64 (1)) (.int .i64 ((j + 1 : Nat) : Int)) (fun _ => rfl) e70_i rfl (add1r (k := j) (by omega) _ _ _) rfl ?_
    refine wl_m (.tmp 39) (.int .i64 ((j + 1 : Nat) : Int)) ?_
    refine w_nil ?_
    exact xn_loop (x.items.length - (j + 1)) (by omega) ⟨j + 1, rfl, by omega, e70_0, e70_2, e70_4, e70_11, e70_12, e70_13, e70_19, e70_20, rfl, Q1, fs_step hH ((foG_of hx hy).trans (by rw [hf60]; rfl)), M⟩
   | false =>
    have hf60p := of_decide_eq_false hf60
    refine wl_b .neq 3 (.tmp 27) (.const (.int .i64 (1))) (.int .i64 (y.k)) (.int .i64 (1)) (.bool true) (ne3 hf60 _ _ _) ?_
    refine wl_m (.tmp 28) (.bool true) ?_
    refine wl_mv (.tmp 0) (pt z.cb 0) (fun _ => rfl) e70_0 rfl ?_
    refine wl_mv (.tmp 4) (.int .i64 ((i : Nat) : Int)) (fun _ => rfl) e70_4 rfl ?_
    refine wl_f 79 5 (.tmp 7) (pt k3 0) (pt k3 6) ?_
    refine wl_l 77 (.tmp 32) (pt k3 6) (.agg #[.int .i64 y.ex.k, .int .i64 y.ex.op, .string y.ex.nm, .string y.ex.se, .int .i64 y.ex.v.k, .bool y.ex.v.d.b, .int .u64 y.ex.v.d.n0, .int .u64 y.ex.v.d.n1, .int .u64 y.ex.v.d.n2, .int .u64 y.ex.v.d.n3, .int .i64 y.ex.v.d.s, .bool y.ex.v.f, .string y.ex.v.t, .int .i64 y.ex.v.e, .int .i64 y.ex.sc, .int .i64 y.ex.po, .slice y.ex.pa y.ex.args.length y.ex.cap]) (run_row Q3 77 6 17 _ rfl Tryd.underlying77 rfl sz77) ?_
    cases hf61 : lck (kno z.L A i) y.ex with
    | true =>
     refine wl_call 63 [(.tmp 30), (.tmp 31), (.tmp 33)] _ [pt z.cb 0, .int .i64 ((i : Nat) : Int), .agg #[.int .i64 y.ex.k, .int .i64 y.ex.op, .string y.ex.nm, .string y.ex.se, .int .i64 y.ex.v.k, .bool y.ex.v.d.b, .int .u64 y.ex.v.d.n0, .int .u64 y.ex.v.d.n1, .int .u64 y.ex.v.d.n2, .int .u64 y.ex.v.d.n3, .int .i64 y.ex.v.d.s, .bool y.ex.v.f, .string y.ex.v.t, .int .i64 y.ex.v.e, .int .i64 y.ex.sc, .int .i64 y.ex.po, .slice y.ex.pa y.ex.args.length y.ex.cap]] (.bool true) rfl rfl (fun _ _ => by kernel_rfl) (cB hf61 (lacks_n i hil y.ex (hC.mo M) ((h5.ex y (List.mem_of_getElem? hy)).kp M.kp))) rfl ?_
     intro w73 hq
     replace Q1 := Q1.mo hq
     replace Q3 := Q3.mo hq
     replace M := M.trans hq
     clear hq
     refine wl_pick (.tmp 29) (.tmp 34) (.const (.bool false)) true (.bool true) (fun _ => rfl) rfl rfl rfl ?_
     refine w_nil (xn_then (w_condT rfl (w_seq (w_reg ?_))))
     refine wl_mv (.tmp 4) (.int .i64 ((i : Nat) : Int)) (fun _ => rfl) e70_4 rfl ?_
     refine wl_m (.tmp 6) (.int .i64 ((j : Nat) : Int)) ?_
     refine wl_build 52 [(0, (.const (.int .i64 (3)))), (1, (.tmp 36)), (2, (.tmp 37))] [(0, .int .i64 (3)), (1, .int .i64 ((i : Nat) : Int)), (2, .int .i64 ((j : Nat) : Int))] (.agg #[.int .i64 (3), .int .i64 ((i : Nat) : Int), .int .i64 ((j : Nat) : Int), .int .i64 0, .int .i64 0]) rfl rfl (by kernel_rfl) rfl ?_
     refine wl_st 52 (.tmp 2) (.tmp 38) k1 0 #[.int .i64 (3), .int .i64 ((i : Nat) : Int), .int .i64 ((j : Nat) : Int), .int .i64 0, .int .i64 0] _ [.int .i64 (3), .int .i64 ((i : Nat) : Int), .int .i64 ((j : Nat) : Int), .int .i64 0, .int .i64 0] Q1 rfl rfl e70_2 rfl rfl sz52 rfl rfl rfl ?_
     intro w74 hS Qn
     replace Q1 := Qn
     clear Qn
     replace Q3 := hS.other _ _ ne_k1_k3.symm Q3
     replace M := hS.mo _ N_k1 M
     clear hS
     refine wl_m (.const (.int .i64 (91))) (.int .i64 (91)) ?_
     refine w_nil (xn_then (w_ret (xr_blk (xr_then (xr_then (xr_blk (xr_blk (xr_then (xr_then (xr_blk (xr_then ?_)))))))))))
     exact w_ret2 _ _ (.agg #[.int .i64 (3), .int .i64 ((i : Nat) : Int), .int .i64 ((j : Nat) : Int), .int .i64 0, .int .i64 0]) (.int .i64 (91)) rfl ⟨k1, e70_2, (run_row Q1 52 0 5 _ rfl Tryd.underlying52 rfl sz52)⟩ rfl ⟨by unfold foR; rw [fs_hit hG (fs_hit hH ((foG_of hx hy).trans (by rw [hf60, hf61]; rfl)) (by rw [itO_of hx]; exact hjl)) hil]; rfl, M⟩
    | false =>
     refine wl_call 63 [(.tmp 30), (.tmp 31), (.tmp 33)] _ [pt z.cb 0, .int .i64 ((i : Nat) : Int), .agg #[.int .i64 y.ex.k, .int .i64 y.ex.op, .string y.ex.nm, .string y.ex.se, .int .i64 y.ex.v.k, .bool y.ex.v.d.b, .int .u64 y.ex.v.d.n0, .int .u64 y.ex.v.d.n1, .int .u64 y.ex.v.d.n2, .int .u64 y.ex.v.d.n3, .int .i64 y.ex.v.d.s, .bool y.ex.v.f, .string y.ex.v.t, .int .i64 y.ex.v.e, .int .i64 y.ex.sc, .int .i64 y.ex.po, .slice y.ex.pa y.ex.args.length y.ex.cap]] (.bool false) rfl rfl (fun _ _ => by kernel_rfl) (cB hf61 (lacks_n i hil y.ex (hC.mo M) ((h5.ex y (List.mem_of_getElem? hy)).kp M.kp))) rfl ?_
     intro w73 hq
     replace Q1 := Q1.mo hq
     replace Q3 := Q3.mo hq
     replace M := M.trans hq
     clear hq
     refine wl_pick (.tmp 29) (.tmp 34) (.const (.bool false)) true (.bool false) (fun _ => rfl) rfl rfl rfl ?_
     refine w_nil (xn_then (w_condF rfl (w_skip (xn_blk (xn_then (w_reg ?_))))))
     refine wl_bin (fun x y => do eqGuard .add 3 (.tmp 21) (.const (.int .i64 (1))) x y; binOp .add 3 x y) (.tmp 21) (.const (.int .i64 (1))) (.int .i64 ((j : Nat) : Int)) (.int .i64 (1)) (.int .i64 ((j + 1 : Nat) : Int)) (fun _ => rfl) e70_i rfl (add1r (k := j) (by omega) _ _ _) rfl ?_
     refine wl_m (.tmp 39) (.int .i64 ((j + 1 : Nat) : Int)) ?_
     refine w_nil ?_
     exact xn_loop (x.items.length - (j + 1)) (by omega) ⟨j + 1, rfl, by omega, e70_0, e70_2, e70_4, e70_11, e70_12, e70_13, e70_19, e70_20, rfl, Q1, fs_step hH ((foG_of hx hy).trans (by rw [hf60, hf61]; rfl)), M⟩
  ·skip
   have hjd : decide (j < x.items.length) = false := decide_eq_false hjl
   have hje : j = x.items.length := by omega
   refine w_seq (w_reg ?_)
   refine wl_bin (fun x y => do eqGuard .lss 3 (.tmp 21) (.tmp 20) x y; binOp .lss 3 x y) (.tmp 21) (.tmp 20) (.int .i64 ((j : Nat) : Int)) (.int .i64 ((x.items.length : Nat) : Int)) (.bool false) (fun _ => rfl) e70_i e70_20 (ltN hjd _ _ _) rfl ?_
   refine w_nil (xn_then (w_seq (w_condF rfl (w_exit (xx_then (xx_then (xx_blk (xn_blk (xn_then (w_reg ?_))))))))))
   refine wl_bin (fun x y => do eqGuard .add 3 (.tmp 13) (.const (.int .i64 (1))) x y; binOp .add 3 x y) (.tmp 13) (.const (.int .i64 (1))) (.int .i64 ((i : Nat) : Int)) (.int .i64 (1)) (.int .i64 ((i + 1 : Nat) : Int)) (fun _ => rfl) e70_13 rfl (add1r (k := i) (by omega) _ _ _) rfl ?_
   refine wl_m (.tmp 40) (.int .i64 ((i + 1 : Nat) : Int)) ?_
   refine w_nil ?_
   exact xn_loop (z.L.length - (i + 1)) (by omega) ⟨i + 1, rfl, by omega, e70_0, e70_2, e70_11, e70_12, rfl, Q1, fs_step hG (fs_none (by rw [itO_of hx, ← hje]; exact hH)), M⟩
 ·skip
  have hid : decide (i < z.L.length) = false := decide_eq_false hil
  have hie : i = z.L.length := by omega
  refine w_seq (w_reg ?_)
  refine wl_bin (fun x y => do eqGuard .lss 3 (.tmp 13) (.tmp 12) x y; binOp .lss 3 x y) (.tmp 13) (.tmp 12) (.int .i64 ((i : Nat) : Int)) (.int .i64 ((z.L.length : Nat) : Int)) (.bool false) (fun _ => rfl) e40_i e40_12 (ltN hid _ _ _) rfl ?_
  refine w_nil (xn_then (w_seq (w_condF rfl (w_exit (xx_then (xx_then (xx_blk (xn_then (w_seq (w_reg ?_))))))))))
  refine wl_build 52 [] [] (.agg #[.int .i64 0, .int .i64 0, .int .i64 0, .int .i64 0, .int .i64 0]) rfl rfl (by kernel_rfl) rfl ?_
  refine wl_st 52 (.tmp 2) (.tmp 41) k1 0 #[.int .i64 0, .int .i64 0, .int .i64 0, .int .i64 0, .int .i64 0] _ [.int .i64 0, .int .i64 0, .int .i64 0, .int .i64 0, .int .i64 0] Q1 rfl rfl e40_2 rfl rfl sz52 rfl rfl rfl ?_
  intro w41 hS Qn
  replace Q1 := Qn
  clear Qn
  replace M := hS.mo _ N_k1 M
  clear hS
  refine wl_m (.const (.int .i64 (0))) (.int .i64 (0)) ?_
  refine w_nil (xn_then (w_ret ?_))
  exact w_ret2 _ _ (.agg #[.int .i64 0, .int .i64 0, .int .i64 0, .int .i64 0, .int .i64 0]) (.int .i64 (0)) rfl ⟨k1, e40_2, (run_row Q1 52 0 5 _ rfl Tryd.underlying52 rfl sz52)⟩ rfl ⟨by unfold foR; rw [fs_none (by rw [← hie]; exact hG)]; rfl, M⟩
end Go.Proofs.YtnffhcjmpjajlaaDoor

namespace Go.Proofs.YtnffhcjmpjajlaaDoor
open Go.RowKit D
theorem page_n {w : World} {z : Zc} {A : Al} (hC : CK w z A) (h0 : 0 < z.L.length) {pb : Nat} {P : List (ByteArray × Int)} (hP : OM w pb P) (x : Pg) (hL : LEx w x.wh) : Calls Tryd.prog 64 #[pt z.cb 0, .agg (x.cells).toArray, .map (some pb)] w fun e w' => e = .returned (.int .i64 (pgE z.L A P x)) ∧ Mo w w' := by
 refine w_enter 27 Tryd.func64 Tryd.ntmps64 rfl rfl ?_
 have M : Mo w w := Mo.refl _
 refine w_seq (w_reg ?_)
 refine wl_box 122 (.tmp 1) _ (((x.cells).toArray)) rfl rfl (fun _ => by kernel_rfl) rfl ?_
 intro k1 w1 hk hz hq Q1
 have N_k1 : w.heap.size ≤ k1 := by have := M.size; omega
 replace M := M.trans hq
 clear hk hz hq
 refine wl_m (.const (.int .i64 (0))) (.int .i64 (0)) ?_
 refine w_nil (xn_then (w_seq (w_block (w_seq (w_reg ?_)))))
 refine wl_f 122 0 (.tmp 4) (pt k1 0) (pt k1 0) ?_
 refine wl_l 9 (.tmp 8) (pt k1 0) (.string x.nm) (run_one Q1 9 0 rfl Tryd.underlying9 rfl) ?_
 cases hf0 : may x.nm with
 | true =>
  refine wl_call 58 [(.tmp 9)] _ [.string x.nm] (.bool true) rfl rfl (fun _ _ => by kernel_rfl) (cB hf0 (may_n x.nm _)) rfl ?_
  intro w2 hq
  replace Q1 := Q1.mo hq
  replace M := M.trans hq
  clear hq
  refine wl_un (fun v => Op.unary .not v) (.tmp 10) (.bool true) (.bool false) (fun _ => rfl) rfl (by kernel_rfl) rfl ?_
  refine wl_m (.tmp 11) (.bool false) ?_
  refine w_nil (xn_then (w_condF rfl (w_seq (w_reg ?_))))
  refine wl_m (.tmp 2) (.map (some pb)) ?_
  refine wl_f 122 0 (.tmp 4) (pt k1 0) (pt k1 0) ?_
  refine wl_l 9 (.tmp 14) (pt k1 0) (.string x.nm) (run_one Q1 9 0 rfl Tryd.underlying9 rfl) ?_
  cases hf1 : (lk P x.nm).isSome with
  | true =>
   refine wl_call 75 [(.tmp 13), (.tmp 15)] _ [.map (some pb), .string x.nm] (.bool true) rfl rfl (fun _ _ => by kernel_rfl) (cB hf1 (has_n (hP.mo M) x.nm (Nat.le_trans (may_sz hf0) (by decide)))) rfl ?_
   intro w3 hq
   replace Q1 := Q1.mo hq
   replace M := M.trans hq
   clear hq
   refine wl_m (.tmp 16) (.bool true) ?_
   refine w_nil (xn_then (w_condT rfl (w_seq (w_reg ?_))))
   refine wl_m (.const (.int .i64 (5))) (.int .i64 (5)) ?_
   refine w_nil (xn_then (w_ret (xr_blk (xr_then ?_))))
   exact w_ret1 _ (.int .i64 (5)) rfl rfl ⟨by unfold pgE; rw [hf0, hf1]; first | done | rfl, M⟩
  | false =>
   refine wl_call 75 [(.tmp 13), (.tmp 15)] _ [.map (some pb), .string x.nm] (.bool false) rfl rfl (fun _ _ => by kernel_rfl) (cB hf1 (has_n (hP.mo M) x.nm (Nat.le_trans (may_sz hf0) (by decide)))) rfl ?_
   intro w3 hq
   replace Q1 := Q1.mo hq
   replace M := M.trans hq
   clear hq
   refine wl_m (.tmp 16) (.bool false) ?_
   refine w_nil (xn_then (w_condF rfl (w_seq (w_reg ?_))))
   refine wl_f 122 2 (.tmp 4) (pt k1 0) (pt k1 18) ?_
   refine wl_l 120 (.tmp 18) (pt k1 18) (.slice x.pa x.its.length x.cap) (run_one Q1 120 18 rfl Tryd.underlying120 rfl) ?_
   refine wl_val (.int .i64 ((x.its.length : Nat) : Int)) (len120 _ _ _ _ _ (by exact rfl) _ _ _ _ _ _) rfl ?_
   cases hf2 : decide (64 < x.its.length) with
   | true =>
    have hf2p := of_decide_eq_true hf2
    refine wl_b .gtr 3 (.tmp 20) (.const (.int .i64 (64))) (.int .i64 ((x.its.length : Nat) : Int)) (.int .i64 (64)) (.bool true) (gtN hf2 _ _ _) ?_
    refine wl_m (.tmp 21) (.bool true) ?_
    refine w_nil (xn_then (w_condT rfl (w_seq (w_reg ?_))))
    refine wl_m (.const (.int .i64 (92))) (.int .i64 (92)) ?_
    refine w_nil (xn_then (w_ret (xr_blk (xr_then ?_))))
    exact w_ret1 _ (.int .i64 (92)) rfl rfl ⟨by unfold pgE; rw [hf0, hf1, hf2]; first | done | rfl, M⟩
   | false =>
    have hf2p := of_decide_eq_false hf2
    refine wl_b .gtr 3 (.tmp 20) (.const (.int .i64 (64))) (.int .i64 ((x.its.length : Nat) : Int)) (.int .i64 (64)) (.bool false) (gtN hf2 _ _ _) ?_
    refine wl_m (.tmp 21) (.bool false) ?_
    refine w_nil (xn_then (w_condF rfl (w_seq (w_reg ?_))))
    refine wl_m (.tmp 0) (pt z.cb 0) ?_
    refine wl_f 122 1 (.tmp 4) (pt k1 0) (pt k1 1) ?_
    refine wl_l 77 (.tmp 24) (pt k1 1) (.agg (x.wh.cells).toArray) (run_row Q1 77 1 17 (x.wh.cells) rfl Tryd.underlying77 rfl sz77) ?_
    cases hf3 : lck (kno z.L A 0) x.wh with
    | true =>
     refine wl_call 63 [(.tmp 23), (.const (.int .i64 (0))), (.tmp 25)] _ [pt z.cb 0, .int .i64 (0), .agg (x.wh.cells).toArray] (.bool true) rfl rfl (fun _ _ => by kernel_rfl) (cB hf3 (lacks_n 0 h0 x.wh (hC.mo M) (hL.kp M.kp))) rfl ?_
     intro w4 hq
     replace Q1 := Q1.mo hq
     replace M := M.trans hq
     clear hq
     refine wl_m (.tmp 26) (.bool true) ?_
     refine w_nil (xn_then (w_condT rfl (w_seq (w_reg ?_))))
     refine wl_m (.const (.int .i64 (91))) (.int .i64 (91)) ?_
     refine w_nil (xn_then (w_ret (xr_blk (xr_then ?_))))
     exact w_ret1 _ (.int .i64 (91)) rfl rfl ⟨by unfold pgE; rw [hf0, hf1, hf2, hf3]; first | done | rfl, M⟩
    | false =>
     refine wl_call 63 [(.tmp 23), (.const (.int .i64 (0))), (.tmp 25)] _ [pt z.cb 0, .int .i64 (0), .agg (x.wh.cells).toArray] (.bool false) rfl rfl (fun _ _ => by kernel_rfl) (cB hf3 (lacks_n 0 h0 x.wh (hC.mo M) (hL.kp M.kp))) rfl ?_
     intro w4 hq
     replace Q1 := Q1.mo hq
     replace M := M.trans hq
     clear hq
     refine wl_m (.tmp 26) (.bool false) ?_
     refine w_nil (xn_then (w_condF rfl (w_skip (xn_blk (xn_then (w_seq (w_reg ?_)))))))
     refine wl_m (.const (.int .i64 (0))) (.int .i64 (0)) ?_
     refine w_nil (xn_then (w_ret ?_))
     exact w_ret1 _ (.int .i64 (0)) rfl rfl ⟨by unfold pgE; rw [hf0, hf1, hf2, hf3]; first | done | rfl, M⟩
 | false =>
  refine wl_call 58 [(.tmp 9)] _ [.string x.nm] (.bool false) rfl rfl (fun _ _ => by kernel_rfl) (cB hf0 (may_n x.nm _)) rfl ?_
  intro w2 hq
  replace Q1 := Q1.mo hq
  replace M := M.trans hq
  clear hq
  refine wl_un (fun v => Op.unary .not v) (.tmp 10) (.bool false) (.bool true) (fun _ => rfl) rfl (by kernel_rfl) rfl ?_
  refine wl_m (.tmp 11) (.bool true) ?_
  refine w_nil (xn_then (w_condT rfl (w_seq (w_reg ?_))))
  refine wl_m (.const (.int .i64 (90))) (.int .i64 (90)) ?_
  refine w_nil (xn_then (w_ret (xr_blk (xr_then ?_))))
  exact w_ret1 _ (.int .i64 (90)) rfl rfl ⟨by unfold pgE; rw [hf0]; first | done | rfl, M⟩
theorem show_n {w : World} {z : Zc} {A : Al} (hC : CK w z A) (h0 : 0 < z.L.length) {sb : Nat} {S : List (ByteArray × Int)} (hS : OM w sb S) (hsb : ¬ z.D sb) (p : Int) {pa : Option Addr} {cap : Nat} {its : List ByteArray} (hN : SL w 1 (fun s => [Value.string s]) pa its) (hz : ∀ s ∈ its, s.size ≤ maxLen) (hb : S.length + its.length < 1000000) : Calls Tryd.prog 65 #[pt z.cb 0, .int .i64 p, .slice pa its.length cap, .map (some sb)] w fun e w' => e = .returned (.int .i64 (shR A p S its)) ∧ Mk (fun j => j = sb) w w' ∧ (shR A p S its = 0 → OM w' sb (shA p S its its.length)) := by
 refine w_enter 46 Tryd.func65 Tryd.ntmps65 rfl rfl ?_
 have M : Mo w w := Mo.refl _
 refine w_seq (w_reg ?_)
 refine wl_m (.const (.int .i64 (0))) (.int .i64 (0)) ?_
 refine w_nil (xn_then (w_seq (w_seq (w_reg ?_))))
 refine wl_m (.tmp 2) (.slice pa its.length cap) ?_
 refine wl_val (.int .i64 ((its.length : Nat) : Int)) (len120 _ _ _ _ _ (by exact rfl) _ _ _ _ _ _) rfl ?_
 refine wl_m (.const (.int .i64 (0))) (.int .i64 (0)) ?_
 refine w_nil (xn_then (w_block ?_))
 have hlm : 0 < z.MI.length := by rw [hC.lm]; exact h0
 have hlk : 0 < z.KI.length := by rw [hC.lk]; exact h0
 obtain ⟨ib, hib⟩ := get_of_lt hlm
 obtain ⟨kb, hkb⟩ := get_of_lt hlk
 refine w_loop (fun m l w1 => ∃ i : Nat, m = its.length - i ∧ i ≤ its.length ∧ look l 0 = pt z.cb 0 ∧ look l 1 = .int .i64 (p) ∧ look l 3 = .map (some sb) ∧ look l 11 = .slice pa its.length cap ∧ look l 12 = .int .i64 ((its.length : Nat) : Int) ∧ look l 13 = .int .i64 ((i : Nat) : Int) ∧ (CK w1 z A) ∧ (OM w1 sb (shA p S its i)) ∧ (∀ j, j < i → shG A p S its j = none) ∧ Mk (fun j => j = sb) w w1) _ ⟨0, rfl, Nat.zero_le _, rfl, rfl, rfl, rfl, rfl, rfl, hC.mo M, hS.mo M, (fun j hj => by omega), Mk.of _ M⟩ ?_
 clear M
 rintro m l40 wl40 ⟨i, rfl, hi, e40_0, e40_1, e40_3, e40_11, e40_12, e40_i, hC1, hS1, hG, MK⟩
 by_cases hil : i < its.length
 ·skip
  have hid : decide (i < its.length) = true := decide_eq_true hil
  have M : Mo wl40 wl40 := Mo.refl _
  have hN1 := hN.kp (MK.kp (fun j e o => by rw [e]; exact hS.nocell o))
  obtain ⟨a, ha⟩ := get_of_lt hil
  have hza := hz a (List.mem_of_getElem? ha)
  have hIo := hC1.oi 0 ib hib
  have hKo := hC1.ok 0 kb hkb
  obtain ⟨b1, o1, hp1, hR1⟩ := D.SL.rw hN1 ha
  obtain ⟨b2, o2, hp2, hR2⟩ := D.SL.rw hC1.mi hib
  obtain ⟨b3, o3, hp3, hR3⟩ := D.SL.rw hC1.ki hkb
  refine w_seq (w_reg ?_)
  refine wl_bin (fun x y => do eqGuard .lss 3 (.tmp 13) (.tmp 12) x y; binOp .lss 3 x y) (.tmp 13) (.tmp 12) (.int .i64 ((i : Nat) : Int)) (.int .i64 ((its.length : Nat) : Int)) (.bool true) (fun _ => rfl) e40_i e40_12 (ltN hid _ _ _) rfl ?_
  refine w_nil (xn_then (w_seq (w_condT rfl (w_skip (xn_then (w_seq (w_block (w_seq (w_reg ?_)))))))))
  refine wl_bin (fun x y => Instr.indexAt 120 x y) (.tmp 11) (.tmp 13) (.slice pa its.length cap) (.int .i64 ((i : Nat) : Int)) (pt b1 (o1 + i * 1)) (fun _ => rfl) e40_11 e40_i (ix120 (i := i) hp1 hil _) rfl ?_
  refine wl_l 9 (.tmp 15) (pt b1 (o1 + i * 1)) (.string a) (D.run_oneR (hR1.mo M).at' 9 0 rfl Tryd.underlying9 rfl) ?_
  refine wl_m (.tmp 16) (.string a) ?_
  refine w_nil (xn_then (w_seq (w_block (w_seq (w_reg ?_)))))
  refine wl_mv (.tmp 0) (pt z.cb 0) (fun _ => rfl) e40_0 rfl ?_
  refine wl_nc (.tmp 18) z.cb 0 rfl rfl rfl ?_
  refine wl_f 111 3 (.tmp 19) (pt z.cb 0) (pt z.cb 9) ?_
  refine wl_l 109 (.tmp 20) (pt z.cb 9) (.slice z.ip z.MI.length z.ic) (D.run_oneR (hC1.rw.mo M).at' 109 9 rfl Tryd.underlying109 rfl) ?_
  refine wl_bin (fun x y => Instr.indexAt 109 x y) (.tmp 21) (.const (.int .i64 (0))) (.slice z.ip z.MI.length z.ic) (.int .i64 (0)) (pt b2 (o2 + 0 * 1)) (fun _ => rfl) rfl rfl (ix109 (i := 0) hp2 hlm _) rfl ?_
  refine wl_l 108 (.tmp 22) (pt b2 (o2 + 0 * 1)) (.map (some ib)) (D.run_oneR (hR2.mo M).at' 108 0 rfl Tryd.underlying108 rfl) ?_
  refine wl_m (.tmp 10) (.string a) ?_
  refine wl_val (.int .i64 ((lk (A.I 0) a).getD 0)) (lkp 108 (.tmp 23) (.tmp 24) false (.map (some ib)) (.string a) (.int .i64 ((lk (A.I 0) a).getD 0)) rfl rfl rfl ((hIo.mo M).look hza)) rfl ?_
  cases hf30 : decide ((lk (A.I 0) a).getD 0 = 1) with
  | true =>
   have hf30p := of_decide_eq_true hf30
   refine wl_b .neq 3 (.tmp 25) (.const (.int .i64 (1))) (.int .i64 ((lk (A.I 0) a).getD 0)) (.int .i64 (1)) (.bool false) (ne3 hf30 _ _ _) ?_
   refine wl_m (.tmp 26) (.bool false) ?_
   refine wl_skip rfl (wl_skip rfl (wl_skip rfl (wl_skip rfl (wl_skip rfl (wl_skip rfl (wl_skip rfl (wl_skip rfl (wl_skip rfl ?_))))))))
   refine wl_pick (.tmp 27) (.tmp 36) (.const (.bool false)) false (.bool false) (fun _ => rfl) rfl rfl rfl ?_
   refine wl_m (.tmp 37) (.bool false) ?_
   refine w_nil (xn_then (w_condF rfl (w_seq (w_reg ?_))))
   refine wl_mv (.tmp 3) (.map (some sb)) (fun _ => rfl) e40_3 rfl ?_
   refine wl_m (.tmp 10) (.string a) ?_
   cases hf31 : (lk (shA p S its i) a).isSome with
   | true =>
    refine wl_call 75 [(.tmp 39), (.tmp 40)] _ [.map (some sb), .string a] (.bool true) rfl rfl (fun _ _ => by kernel_rfl) (cB hf31 (has_n (hS1.mo M) a hza)) rfl ?_
    intro w41 hq
    replace M := M.trans hq
    clear hq
    refine wl_m (.tmp 41) (.bool true) ?_
    refine w_nil (xn_then (w_condT rfl (w_seq (w_reg ?_))))
    refine wl_m (.const (.int .i64 (5))) (.int .i64 (5)) ?_
    refine w_nil (xn_then (w_ret (xr_blk (xr_then (xr_blk (xr_then (xr_then (xr_blk (xr_then ?_)))))))))
    have hsh : shR A p S its = 5 := by unfold shR; rw [fs_hit hG (x := 5) ((shG_of ha).trans (by rw [show shE A (shA p S its i) a = 5 from (by  unfold shE; rw [hf30, hf31]; first | done | rfl)]; rfl)) hil]; rfl
    exact w_ret1 _ (.int .i64 (5)) rfl rfl ⟨by rw [hsh], MK.trans M, fun h => by rw [hsh] at h; cases h⟩
   | false =>
    refine wl_call 75 [(.tmp 39), (.tmp 40)] _ [.map (some sb), .string a] (.bool false) rfl rfl (fun _ _ => by kernel_rfl) (cB hf31 (has_n (hS1.mo M) a hza)) rfl ?_
    intro w41 hq
    replace M := M.trans hq
    clear hq
    refine wl_m (.tmp 41) (.bool false) ?_
    refine w_nil (xn_then (w_condF rfl (w_skip (xn_blk (xn_then (w_reg ?_))))))
    refine wl_mv (.tmp 3) (.map (some sb)) (fun _ => rfl) e40_3 rfl ?_
    refine wl_m (.tmp 10) (.string a) ?_
    refine wl_mv (.tmp 1) (.int .i64 (p)) (fun _ => rfl) e40_1 rfl ?_
    refine wl_mup (.tmp 42) (.tmp 43) (.tmp 44) sb a (p) (hS1.mo M) (by have := shA_len p S its i; omega) hza (isn hf31) rfl rfl rfl rfl rfl rfl ?_
    intro w42 hO9 hK9
    have hC9 := (hC1.mo M).other (hS1.mo M) hsb hK9
    replace MK := (MK.trans M).same hK9
    clear M
    have M : Mo w42 w42 := Mo.refl _
    refine w_nil (xn_blk (xn_then (w_reg ?_)))
    refine wl_bin (fun x y => do eqGuard .add 3 (.tmp 13) (.const (.int .i64 (1))) x y; binOp .add 3 x y) (.tmp 13) (.const (.int .i64 (1))) (.int .i64 ((i : Nat) : Int)) (.int .i64 (1)) (.int .i64 ((i + 1 : Nat) : Int)) (fun _ => rfl) e40_i rfl (add1r (k := i) (by omega) _ _ _) rfl ?_
    refine wl_m (.tmp 45) (.int .i64 ((i + 1 : Nat) : Int)) ?_
    refine w_nil ?_
    exact xn_loop (its.length - (i + 1)) (by omega) ⟨i + 1, rfl, by omega, e40_0, e40_1, e40_3, e40_11, e40_12, rfl, hC9.mo M, by rw [shA_s ha]; exact hO9.mo M, fs_step hG ((shG_of ha).trans (by rw [show shE A (shA p S its i) a = 0 from (by  unfold shE; rw [hf30, hf31]; first | done | rfl)]; rfl)), MK.trans M⟩
  | false =>
   have hf30p := of_decide_eq_false hf30
   refine wl_b .neq 3 (.tmp 25) (.const (.int .i64 (1))) (.int .i64 ((lk (A.I 0) a).getD 0)) (.int .i64 (1)) (.bool true) (ne3 hf30 _ _ _) ?_
   refine wl_m (.tmp 26) (.bool true) ?_
   refine wl_mv (.tmp 0) (pt z.cb 0) (fun _ => rfl) e40_0 rfl ?_
   refine wl_nc (.tmp 28) z.cb 0 rfl rfl rfl ?_
   refine wl_f 111 4 (.tmp 29) (pt z.cb 0) (pt z.cb 10) ?_
   refine wl_l 109 (.tmp 30) (pt z.cb 10) (.slice z.kp z.KI.length z.kc) (D.run_oneR (hC1.rw.mo M).at' 109 10 rfl Tryd.underlying109 rfl) ?_
   refine wl_bin (fun x y => Instr.indexAt 109 x y) (.tmp 31) (.const (.int .i64 (0))) (.slice z.kp z.KI.length z.kc) (.int .i64 (0)) (pt b3 (o3 + 0 * 1)) (fun _ => rfl) rfl rfl (ix109 (i := 0) hp3 hlk _) rfl ?_
   refine wl_l 108 (.tmp 32) (pt b3 (o3 + 0 * 1)) (.map (some kb)) (D.run_oneR (hR3.mo M).at' 108 0 rfl Tryd.underlying108 rfl) ?_
   refine wl_m (.tmp 10) (.string a) ?_
   cases hf31 : (lk (A.K 0) a).isSome with
   | true =>
    refine wl_call 75 [(.tmp 33), (.tmp 34)] _ [.map (some kb), .string a] (.bool true) rfl rfl (fun _ _ => by kernel_rfl) (cB hf31 (has_n (hKo.mo M) a hza)) rfl ?_
    intro w41 hq
    replace M := M.trans hq
    clear hq
    refine wl_un (fun v => Op.unary .not v) (.tmp 35) (.bool true) (.bool false) (fun _ => rfl) rfl (by kernel_rfl) rfl ?_
    refine wl_pick (.tmp 27) (.tmp 36) (.const (.bool false)) true (.bool false) (fun _ => rfl) rfl rfl rfl ?_
    refine wl_m (.tmp 37) (.bool false) ?_
    refine w_nil (xn_then (w_condF rfl (w_seq (w_reg ?_))))
    refine wl_mv (.tmp 3) (.map (some sb)) (fun _ => rfl) e40_3 rfl ?_
    refine wl_m (.tmp 10) (.string a) ?_
    cases hf32 : (lk (shA p S its i) a).isSome with
    | true =>
     refine wl_call 75 [(.tmp 39), (.tmp 40)] _ [.map (some sb), .string a] (.bool true) rfl rfl (fun _ _ => by kernel_rfl) (cB hf32 (has_n (hS1.mo M) a hza)) rfl ?_
     intro w42 hq
     replace M := M.trans hq
     clear hq
     refine wl_m (.tmp 41) (.bool true) ?_
     refine w_nil (xn_then (w_condT rfl (w_seq (w_reg ?_))))
     refine wl_m (.const (.int .i64 (5))) (.int .i64 (5)) ?_
     refine w_nil (xn_then (w_ret (xr_blk (xr_then (xr_blk (xr_then (xr_then (xr_blk (xr_then ?_)))))))))
     have hsh : shR A p S its = 5 := by unfold shR; rw [fs_hit hG (x := 5) ((shG_of ha).trans (by rw [show shE A (shA p S its i) a = 5 from (by  unfold shE; rw [hf30, hf31, hf32]; first | done | rfl)]; rfl)) hil]; rfl
     exact w_ret1 _ (.int .i64 (5)) rfl rfl ⟨by rw [hsh], MK.trans M, fun h => by rw [hsh] at h; cases h⟩
    | false =>
     refine wl_call 75 [(.tmp 39), (.tmp 40)] _ [.map (some sb), .string a] (.bool false) rfl rfl (fun _ _ => by kernel_rfl) (cB hf32 (has_n (hS1.mo M) a hza)) rfl ?_
     intro w42 hq
     replace M := M.trans hq
     clear hq
     refine wl_m (.tmp 41) (.bool false) ?_
     refine w_nil (xn_then (w_condF rfl (w_skip (xn_blk (xn_then (w_reg ?_))))))
     refine wl_mv (.tmp 3) (.map (some sb)) (fun _ => rfl) e40_3 rfl ?_
     refine wl_m (.tmp 10) (.string a) ?_
     refine wl_mv (.tmp 1) (.int .i64 (p)) (fun _ => rfl) e40_1 rfl ?_
     refine wl_mup (.tmp 42) (.tmp 43) (.tmp 44) sb a (p) (hS1.mo M) (by have := shA_len p S its i; omega) hza (isn hf32) rfl rfl rfl rfl rfl rfl ?_
     intro w43 hO9 hK9
     have hC9 := (hC1.mo M).other (hS1.mo M) hsb hK9
     replace MK := (MK.trans M).same hK9
     clear M
     have M : Mo w43 w43 := Mo.refl _
     refine w_nil (xn_blk (xn_then (w_reg ?_)))
     refine wl_bin (fun x y => do eqGuard .add 3 (.tmp 13) (.const (.int .i64 (1))) x y; binOp .add 3 x y) (.tmp 13) (.const (.int .i64 (1))) (.int .i64 ((i : Nat) : Int)) (.int .i64 (1)) (.int .i64 ((i + 1 : Nat) : Int)) (fun _ => rfl) e40_i rfl (add1r (k := i) (by omega) _ _ _) rfl ?_
     refine wl_m (.tmp 45) (.int .i64 ((i + 1 : Nat) : Int)) ?_
     refine w_nil ?_
     exact xn_loop (its.length - (i + 1)) (by omega) ⟨i + 1, rfl, by omega, e40_0, e40_1, e40_3, e40_11, e40_12, rfl, hC9.mo M, by rw [shA_s ha]; exact hO9.mo M, fs_step hG ((shG_of ha).trans (by rw [show shE A (shA p S its i) a = 0 from (by  unfold shE; rw [hf30, hf31, hf32]; first | done | rfl)]; rfl)), MK.trans M⟩
   | false =>
    refine wl_call 75 [(.tmp 33), (.tmp 34)] _ [.map (some kb), .string a] (.bool false) rfl rfl (fun _ _ => by kernel_rfl) (cB hf31 (has_n (hKo.mo M) a hza)) rfl ?_
    intro w41 hq
    replace M := M.trans hq
    clear hq
    refine wl_un (fun v => Op.unary .not v) (.tmp 35) (.bool false) (.bool true) (fun _ => rfl) rfl (by kernel_rfl) rfl ?_
    refine wl_pick (.tmp 27) (.tmp 36) (.const (.bool false)) true (.bool true) (fun _ => rfl) rfl rfl rfl ?_
    refine wl_m (.tmp 37) (.bool true) ?_
    refine w_nil (xn_then (w_condT rfl (w_seq (w_reg ?_))))
    refine wl_m (.const (.int .i64 (91))) (.int .i64 (91)) ?_
    refine w_nil (xn_then (w_ret (xr_blk (xr_then (xr_blk (xr_then (xr_then (xr_blk (xr_then ?_)))))))))
    have hsh : shR A p S its = 91 := by unfold shR; rw [fs_hit hG (x := 91) ((shG_of ha).trans (by rw [show shE A (shA p S its i) a = 91 from (by  unfold shE; rw [hf30, hf31]; first | done | rfl)]; rfl)) hil]; rfl
    exact w_ret1 _ (.int .i64 (91)) rfl rfl ⟨by rw [hsh], MK.trans M, fun h => by rw [hsh] at h; cases h⟩
 ·skip
  have hid : decide (i < its.length) = false := decide_eq_false hil
  have hie : i = its.length := by omega
  have M : Mo wl40 wl40 := Mo.refl _
  refine w_seq (w_reg ?_)
  refine wl_bin (fun x y => do eqGuard .lss 3 (.tmp 13) (.tmp 12) x y; binOp .lss 3 x y) (.tmp 13) (.tmp 12) (.int .i64 ((i : Nat) : Int)) (.int .i64 ((its.length : Nat) : Int)) (.bool false) (fun _ => rfl) e40_i e40_12 (ltN hid _ _ _) rfl ?_
  refine w_nil (xn_then (w_seq (w_condF rfl (w_exit (xx_then (xx_then (xx_blk (xn_then (w_seq (w_reg ?_))))))))))
  refine wl_m (.const (.int .i64 (0))) (.int .i64 (0)) ?_
  refine w_nil (xn_then (w_ret ?_))
  exact w_ret1 _ (.int .i64 (0)) rfl rfl ⟨by unfold shR; rw [fs_none (by rw [← hie]; exact hG)]; rfl, MK.trans M, fun _ => by rw [hie] at hS1; exact hS1.mo M⟩
theorem pgE_0 {L : List S5} {A : Al} {P : List (ByteArray × Int)} {x : Pg} (h : pgE L A P x = 0) : may x.nm = true ∧ lk P x.nm = none ∧ x.its.length ≤ 64 := by
 unfold pgE at h
 split at h
 ·rename_i h1
  split at h
  ·cases h
  ·rename_i h2
   split at h
   ·cases h
   ·rename_i h3
    exact ⟨h1, isn (by simpa using h2), by simpa using h3⟩
 ·cases h
theorem pages_n {w : World} {z : Zc} {A : Al} (hC : CK w z A) (h0 : 0 < z.L.length) (hl : z.d.pg.length ≤ 16) : Calls Tryd.prog 47 #[pt z.cb 0] w fun e w' => e = .returned (rv (pgR z.L A z.d.pg)) ∧ Mo w w' := by
 refine w_enter 45 Tryd.func47 Tryd.ntmps47 rfl rfl ?_
 have M : Mo w w := Mo.refl _
 refine w_seq (w_reg ?_)
 refine wl_alloc 52 #[.int .i64 0, .int .i64 0, .int .i64 0, .int .i64 0, .int .i64 0] rfl (fun _ => by kernel_rfl) rfl ?_
 intro k1 w1 hk hz hq Q1
 have N_k1 : w.heap.size ≤ k1 := by have := M.size; omega
 replace M := M.trans hq
 clear hk hz hq
 refine wl_m (.const (.int .i64 (0))) (.int .i64 (0)) ?_
 refine w_nil (xn_then (w_seq (w_reg ?_)))
 refine wl_mm 108 rfl rfl ?_
 intro mb1 w2 hk hz9 hq hO_mb1
 have ne_k1_mb1 : k1 ≠ mb1 := by have := Q1.lt; omega
 have N_mb1 : w.heap.size ≤ mb1 := by have := M.size; omega
 replace Q1 := Q1.mo hq
 replace M := M.trans hq
 clear hk hz9 hq
 refine wl_mm 108 rfl rfl ?_
 intro mb2 w3 hk hz9 hq hO_mb2
 have ne_k1_mb2 : k1 ≠ mb2 := by have := Q1.lt; omega
 have nm_mb1_mb2 : mb1 ≠ mb2 := by have := hO_mb1.lt; omega
 have N_mb2 : w.heap.size ≤ mb2 := by have := M.size; omega
 replace Q1 := Q1.mo hq
 replace hO_mb1 := hO_mb1.mo hq
 replace M := M.trans hq
 clear hk hz9 hq
 refine wl_m (.tmp 9) (.map (some mb1)) ?_
 refine wl_m (.tmp 10) (.map (some mb2)) ?_
 refine w_nil (xn_then (w_seq (w_seq (w_reg ?_))))
 refine wl_m (.tmp 0) (pt z.cb 0) ?_
 refine wl_nc (.tmp 11) z.cb 0 rfl rfl rfl ?_
 refine wl_f 111 0 (.tmp 12) (pt z.cb 0) (pt z.cb 0) ?_
 refine wl_f 49 3 (.tmp 13) (pt z.cb 0) (pt z.cb 6) ?_
 refine wl_l 47 (.tmp 14) (pt z.cb 6) (.slice z.d.pp z.d.pg.length z.d.cp) (D.run_oneR (hC.rw.mo M).at' 47 6 rfl Tryd.underlying47 rfl) ?_
 refine wl_val (.int .i64 ((z.d.pg.length : Nat) : Int)) (len47 _ _ _ _ _ (by exact rfl) _ _ _ _ _ _) rfl ?_
 refine wl_m (.const (.int .i64 (0))) (.int .i64 (0)) ?_
 refine w_nil (xn_then (w_block ?_))
 have hpb : ¬ z.D mb1 := fun h => by have := hC.dlt h; omega
 have hsb : ¬ z.D mb2 := fun h => by have := hC.dlt h; omega
 refine w_loop (fun m l w1 => ∃ i : Nat, m = z.d.pg.length - i ∧ i ≤ z.d.pg.length ∧ look l 0 = pt z.cb 0 ∧ look l 2 = pt k1 0 ∧ look l 4 = .map (some mb1) ∧ look l 5 = .map (some mb2) ∧ look l 15 = .slice z.d.pp z.d.pg.length z.d.cp ∧ look l 16 = .int .i64 ((z.d.pg.length : Nat) : Int) ∧ look l 17 = .int .i64 ((i : Nat) : Int) ∧ At w1 k1 [.int .i64 0, .int .i64 0, .int .i64 0, .int .i64 0, .int .i64 0] ∧ (CK w1 z A) ∧ (OM w1 mb1 (pgA z.d.pg i)) ∧ (OM w1 mb2 (pgS z.d.pg i)) ∧ ((pgS z.d.pg i).length ≤ 64 * i) ∧ (∀ j, j < i → pgG z.L A z.d.pg j = none) ∧ Mk (fun _ => False) w w1) _ ⟨0, rfl, Nat.zero_le _, rfl, rfl, rfl, rfl, rfl, rfl, rfl, Q1, hC.mo M, hO_mb1, hO_mb2, Nat.zero_le _, (fun j hj => by omega), Mk.of _ M⟩ ?_
 clear Q1 M
 rintro m l40 wl40 ⟨i, rfl, hi, e40_0, e40_2, e40_4, e40_5, e40_15, e40_16, e40_i, Q1, hC1, hP1, hS1, hSl, hG, MK⟩
 by_cases hil : i < z.d.pg.length
 ·skip
  have hid : decide (i < z.d.pg.length) = true := decide_eq_true hil
  have M : Mo wl40 wl40 := Mo.refl _
  obtain ⟨x, hx⟩ := get_of_lt hil
  have hxm := List.mem_of_getElem? hx
  obtain ⟨b1, o1, hp1, hR1⟩ := D.SL.rw hC1.df.pg hx
  refine w_seq (w_reg ?_)
  refine wl_bin (fun x y => do eqGuard .lss 3 (.tmp 17) (.tmp 16) x y; binOp .lss 3 x y) (.tmp 17) (.tmp 16) (.int .i64 ((i : Nat) : Int)) (.int .i64 ((z.d.pg.length : Nat) : Int)) (.bool true) (fun _ => rfl) e40_i e40_16 (ltN hid _ _ _) rfl ?_
  refine w_nil (xn_then (w_seq (w_condT rfl (w_skip (xn_then (w_seq (w_block (w_seq (w_reg ?_)))))))))
  refine wl_mv (.tmp 17) (.int .i64 ((i : Nat) : Int)) (fun _ => rfl) e40_i rfl ?_
  refine wl_bin (fun x y => Instr.indexAt 47 x y) (.tmp 15) (.tmp 17) (.slice z.d.pp z.d.pg.length z.d.cp) (.int .i64 ((i : Nat) : Int)) (pt b1 (o1 + i * 19)) (fun _ => rfl) e40_15 e40_i (ix47 (i := i) hp1 hil _) rfl ?_
  refine wl_l 122 (.tmp 20) (pt b1 (o1 + i * 19)) (.agg (x.cells).toArray) (D.run_partR (hR1.mo M).at' 122 0 19 (x.cells) rfl Tryd.underlying122 rfl sz122) ?_
  refine wl_alloc 122 #[.string ⟨#[]⟩, .int .i64 0, .int .i64 0, .string ⟨#[]⟩, .string ⟨#[]⟩, .int .i64 0, .bool false, .int .u64 0, .int .u64 0, .int .u64 0, .int .u64 0, .int .i64 0, .bool false, .string ⟨#[]⟩, .int .i64 0, .int .i64 0, .int .i64 0, .slice none 0 0, .slice none 0 0] rfl (fun _ => by kernel_rfl) rfl ?_
  intro k2 w41 hk hz hq Q2
  have ne_k1_k2 : k1 ≠ k2 := by have := Q1.lt; omega
  have N_k2 : wl40.heap.size ≤ k2 := by have := M.size; omega
  replace Q1 := Q1.mo hq
  replace M := M.trans hq
  clear hk hz hq
  refine wl_m (.tmp 19) (.int .i64 ((i : Nat) : Int)) ?_
  refine wl_st 122 (.tmp 7) (.tmp 21) k2 0 ((x.cells).toArray) _ (x.cells) Q2 rfl rfl rfl rfl rfl sz122 rfl rfl rfl ?_
  intro w42 hS Qn
  replace Q2 := Qn
  clear Qn
  replace Q1 := hS.other _ _ ne_k1_k2 Q1
  replace M := hS.mo _ N_k2 M
  clear hS
  refine w_nil (xn_then (w_seq (w_reg ?_)))
  refine wl_mv (.tmp 0) (pt z.cb 0) (fun _ => rfl) e40_0 rfl ?_
  refine wl_l 122 (.tmp 7) (pt k2 0) (.agg (x.cells).toArray) (run_row Q2 122 0 19 (x.cells) rfl Tryd.underlying122 rfl sz122) ?_
  refine wl_mv (.tmp 4) (.map (some mb1)) (fun _ => rfl) e40_4 rfl ?_
  refine wl_call 64 [(.tmp 22), (.tmp 23), (.tmp 24)] _ [pt z.cb 0, .agg (x.cells).toArray, .map (some mb1)] (.int .i64 (pgE z.L A (pgA z.d.pg i) x)) rfl rfl (fun _ _ => by kernel_rfl) (page_n (hC1.mo M) h0 (hP1.mo M) x ((hC1.df.wh x hxm).kp M.kp)) rfl ?_
  intro w43 hq
  replace Q1 := Q1.mo hq
  replace Q2 := Q2.mo hq
  replace M := M.trans hq
  clear hq
  refine wl_m (.tmp 25) (.int .i64 (pgE z.L A (pgA z.d.pg i) x)) ?_
  refine w_nil (xn_then (w_seq (w_seq (w_reg ?_))))
  refine wl_m (.tmp 8) (.int .i64 (pgE z.L A (pgA z.d.pg i) x)) ?_
  cases hf30 : decide (pgE z.L A (pgA z.d.pg i) x = 0) with
  | true =>
   have hf30p := of_decide_eq_true hf30
   refine wl_b .eql 31 (.tmp 26) (.const (.int .i64 (0))) (.int .i64 (pgE z.L A (pgA z.d.pg i) x)) (.int .i64 (0)) (.bool true) (eq34 hf30 _ _ _) ?_
   refine w_nil (xn_then (w_condT rfl (w_reg ?_)))
   refine wl_mv (.tmp 0) (pt z.cb 0) (fun _ => rfl) e40_0 rfl ?_
   refine wl_m (.tmp 6) (.int .i64 ((i : Nat) : Int)) ?_
   refine wl_f 122 2 (.tmp 7) (pt k2 0) (pt k2 18) ?_
   refine wl_l 120 (.tmp 30) (pt k2 18) (.slice x.pa x.its.length x.cap) (run_one Q2 120 18 rfl Tryd.underlying120 rfl) ?_
   refine wl_mv (.tmp 5) (.map (some mb2)) (fun _ => rfl) e40_5 rfl ?_
   refine wl_callx 65 [(.tmp 28), (.tmp 29), (.tmp 31), (.tmp 32)] _ [pt z.cb 0, .int .i64 ((i : Nat) : Int), .slice x.pa x.its.length x.cap, .map (some mb2)] rfl rfl (fun _ _ => by kernel_rfl) (show_n (hC1.mo M) h0 (hS1.mo M) hsb _ ((hC1.df.it x hxm).kp M.kp) (hC1.df.iz x hxm) (by have := (pgE_0 hf30p).2.2; omega)) rfl ?_
   rintro e9 w44 ⟨rfl, hK9, hO9⟩
   refine ⟨_, rfl, ?_⟩
   have hC9 := (hC1.mo M).other (hS1.mo M) hsb hK9
   have hP9 := (hP1.mo M).mk hK9 nm_mb1_mb2
   replace MK := (MK.trans M).tr hK9 (fun j hj e => by omega)
   replace Q1 := Q1.kp (hK9.kp (fun j hj => fun o => by rw [hj]; exact (hS1.mo M).nocell o)) hK9.fz
   replace Q2 := Q2.kp (hK9.kp (fun j hj => fun o => by rw [hj]; exact (hS1.mo M).nocell o)) hK9.fz
   clear M
   have M : Mo w44 w44 := Mo.refl _
   refine wl_m (.tmp 33) (.int .i64 (shR A ((i : Nat) : Int) (pgS z.d.pg i) x.its)) ?_
   refine w_nil (xn_then (w_seq (w_seq (w_reg ?_))))
   refine wl_m (.tmp 8) (.int .i64 (shR A ((i : Nat) : Int) (pgS z.d.pg i) x.its)) ?_
   cases hf31 : decide (shR A ((i : Nat) : Int) (pgS z.d.pg i) x.its = 0) with
   | true =>
    have hf31p := of_decide_eq_true hf31
    refine wl_b .neq 31 (.tmp 34) (.const (.int .i64 (0))) (.int .i64 (shR A ((i : Nat) : Int) (pgS z.d.pg i) x.its)) (.int .i64 (0)) (.bool false) (ne34 hf31 _ _ _) ?_
    refine w_nil (xn_then (w_condF rfl (w_skip (xn_then (w_reg ?_)))))
    refine wl_mv (.tmp 4) (.map (some mb1)) (fun _ => rfl) e40_4 rfl ?_
    refine wl_f 122 0 (.tmp 7) (pt k2 0) (pt k2 0) ?_
    refine wl_l 9 (.tmp 40) (pt k2 0) (.string x.nm) (run_one Q2 9 0 rfl Tryd.underlying9 rfl) ?_
    refine wl_m (.tmp 6) (.int .i64 ((i : Nat) : Int)) ?_
    obtain ⟨hmy, hln, hit64⟩ := pgE_0 hf30p
    refine wl_mup (.tmp 39) (.tmp 41) (.tmp 42) mb1 x.nm (((i : Nat) : Int)) (hP9.mo M) (by have := pgA_len z.d.pg i; omega) (Nat.le_trans (may_sz hmy) (by decide)) hln rfl rfl rfl rfl rfl rfl ?_
    intro w45 hOp hKp
    have hCp := (hC9.mo M).other (hP9.mo M) hpb hKp
    have hSp := ((hO9 hf31p).mo M).mk hKp nm_mb1_mb2.symm
    replace Q1 := Q1.kp (hKp.kp (fun j hj o => by rw [hj]; exact (hP9.mo M).nocell o)) hKp.fz
    replace Q2 := Q2.kp (hKp.kp (fun j hj o => by rw [hj]; exact (hP9.mo M).nocell o)) hKp.fz
    replace MK := (MK.trans M).tr hKp (fun j hj e => by omega)
    clear M
    have M : Mo w45 w45 := Mo.refl _
    refine w_nil (xn_blk (xn_then (w_reg ?_)))
    refine wl_bin (fun x y => do eqGuard .add 3 (.tmp 17) (.const (.int .i64 (1))) x y; binOp .add 3 x y) (.tmp 17) (.const (.int .i64 (1))) (.int .i64 ((i : Nat) : Int)) (.int .i64 (1)) (.int .i64 ((i + 1 : Nat) : Int)) (fun _ => rfl) e40_i rfl (add1r (k := i) (by omega) _ _ _) rfl ?_
    refine wl_m (.tmp 43) (.int .i64 ((i + 1 : Nat) : Int)) ?_
    refine w_nil ?_
    exact xn_loop (z.d.pg.length - (i + 1)) (by omega) ⟨i + 1, rfl, by omega, e40_0, e40_2, e40_4, e40_5, e40_15, e40_16, rfl, Q1, hCp.mo M, by rw [pgA_s hx]; exact hOp.mo M, by rw [pgS_s hx]; exact hSp.mo M, by rw [pgS_s hx]; have := shA_len ((i : Nat) : Int) (pgS z.d.pg i) x.its x.its.length; omega, fs_step hG ((pgG_of hx).trans (er_0 (by unfold pgF; rw [if_pos hf30p]; exact hf31p))), MK.trans M⟩
   | false =>
    have hf31p := of_decide_eq_false hf31
    refine wl_b .neq 31 (.tmp 34) (.const (.int .i64 (0))) (.int .i64 (shR A ((i : Nat) : Int) (pgS z.d.pg i) x.its)) (.int .i64 (0)) (.bool true) (ne34 hf31 _ _ _) ?_
    refine w_nil (xn_then (w_condT rfl (w_seq (w_reg ?_))))
    refine wl_m (.tmp 6) (.int .i64 ((i : Nat) : Int)) ?_
    refine wl_build 52 [(0, (.const (.int .i64 (4)))), (4, (.tmp 36))] [(0, .int .i64 (4)), (4, .int .i64 ((i : Nat) : Int))] (.agg #[.int .i64 (4), .int .i64 0, .int .i64 0, .int .i64 0, .int .i64 ((i : Nat) : Int)]) rfl rfl (by kernel_rfl) rfl ?_
    refine wl_m (.tmp 8) (.int .i64 (shR A ((i : Nat) : Int) (pgS z.d.pg i) x.its)) ?_
    refine wl_stm 52 (.tmp 2) (.tmp 37) k1 0 #[.int .i64 (4), .int .i64 0, .int .i64 0, .int .i64 0, .int .i64 ((i : Nat) : Int)] [.int .i64 0, .int .i64 0, .int .i64 0, .int .i64 0, .int .i64 0] [.int .i64 (4), .int .i64 0, .int .i64 0, .int .i64 0, .int .i64 ((i : Nat) : Int)] Q1 rfl rfl e40_2 rfl rfl sz52 rfl rfl rfl ?_
    intro w45 hS hm9 Qn
    replace Q1 := Qn
    clear Qn
    replace Q2 := hS.other _ _ ne_k1_k2.symm Q2
    have hmT := (Mk.of (fun j => j = k1) M).same hm9
    replace MK := (MK.trans M).tr hm9 (fun j hj e => by omega)
    clear M hS hm9
    have M : Mo w45 w45 := Mo.refl _
    refine wl_m (.tmp 38) (.int .i64 (shR A ((i : Nat) : Int) (pgS z.d.pg i) x.its)) ?_
    refine w_nil (xn_then (w_ret (xr_then (xr_blk (xr_then (xr_then (xr_blk (xr_then ?_))))))))
    exact w_ret2 _ _ (.agg #[.int .i64 (4), .int .i64 0, .int .i64 0, .int .i64 0, .int .i64 ((i : Nat) : Int)]) (.int .i64 (shR A ((i : Nat) : Int) (pgS z.d.pg i) x.its)) rfl ⟨k1, e40_2, (run_row Q1 52 0 5 _ rfl Tryd.underlying52 rfl sz52)⟩ rfl ⟨by unfold pgR; rw [fs_hit hG ((pgG_of hx).trans (by rw [(show pgF z.L A z.d.pg i x = shR A ((i : Nat) : Int) (pgS z.d.pg i) x.its from if_pos hf30p)]; exact er_1 hf31p)) hil]; rfl, (MK.trans M).mo (Mo.refl _) (fun _ h => h.elim)⟩
  | false =>
   have hf30p := of_decide_eq_false hf30
   refine wl_b .eql 31 (.tmp 26) (.const (.int .i64 (0))) (.int .i64 (pgE z.L A (pgA z.d.pg i) x)) (.int .i64 (0)) (.bool false) (eq34 hf30 _ _ _) ?_
   refine w_nil (xn_then (w_condF rfl (w_skip (xn_then (w_seq (w_seq (w_reg ?_)))))))
   refine wl_m (.tmp 8) (.int .i64 (pgE z.L A (pgA z.d.pg i) x)) ?_
   refine wl_b .neq 31 (.tmp 34) (.const (.int .i64 (0))) (.int .i64 (pgE z.L A (pgA z.d.pg i) x)) (.int .i64 (0)) (.bool true) (ne34 hf30 _ _ _) ?_
   refine w_nil (xn_then (w_condT rfl (w_seq (w_reg ?_))))
   refine wl_m (.tmp 6) (.int .i64 ((i : Nat) : Int)) ?_
   refine wl_build 52 [(0, (.const (.int .i64 (4)))), (4, (.tmp 36))] [(0, .int .i64 (4)), (4, .int .i64 ((i : Nat) : Int))] (.agg #[.int .i64 (4), .int .i64 0, .int .i64 0, .int .i64 0, .int .i64 ((i : Nat) : Int)]) rfl rfl (by kernel_rfl) rfl ?_
   refine wl_m (.tmp 8) (.int .i64 (pgE z.L A (pgA z.d.pg i) x)) ?_
   refine wl_stm 52 (.tmp 2) (.tmp 37) k1 0 #[.int .i64 (4), .int .i64 0, .int .i64 0, .int .i64 0, .int .i64 ((i : Nat) : Int)] [.int .i64 0, .int .i64 0, .int .i64 0, .int .i64 0, .int .i64 0] [.int .i64 (4), .int .i64 0, .int .i64 0, .int .i64 0, .int .i64 ((i : Nat) : Int)] Q1 rfl rfl e40_2 rfl rfl sz52 rfl rfl rfl ?_
   intro w44 hS hm9 Qn
   replace Q1 := Qn
   clear Qn
   replace Q2 := hS.other _ _ ne_k1_k2.symm Q2
   have hmT := (Mk.of (fun j => j = k1) M).same hm9
   replace MK := (MK.trans M).tr hm9 (fun j hj e => by omega)
   clear M hS hm9
   have M : Mo w44 w44 := Mo.refl _
   refine wl_m (.tmp 38) (.int .i64 (pgE z.L A (pgA z.d.pg i) x)) ?_
   refine w_nil (xn_then (w_ret (xr_then (xr_blk (xr_then (xr_then (xr_blk (xr_then ?_))))))))
   exact w_ret2 _ _ (.agg #[.int .i64 (4), .int .i64 0, .int .i64 0, .int .i64 0, .int .i64 ((i : Nat) : Int)]) (.int .i64 (pgE z.L A (pgA z.d.pg i) x)) rfl ⟨k1, e40_2, (run_row Q1 52 0 5 _ rfl Tryd.underlying52 rfl sz52)⟩ rfl ⟨by unfold pgR; rw [fs_hit hG ((pgG_of hx).trans (by rw [(show pgF z.L A z.d.pg i x = pgE z.L A (pgA z.d.pg i) x from if_neg hf30p)]; exact er_1 hf30p)) hil]; rfl, (MK.trans M).mo (Mo.refl _) (fun _ h => h.elim)⟩
 ·skip
  have hid : decide (i < z.d.pg.length) = false := decide_eq_false hil
  have hie : i = z.d.pg.length := by omega
  have M : Mo wl40 wl40 := Mo.refl _
  refine w_seq (w_reg ?_)
  refine wl_bin (fun x y => do eqGuard .lss 3 (.tmp 17) (.tmp 16) x y; binOp .lss 3 x y) (.tmp 17) (.tmp 16) (.int .i64 ((i : Nat) : Int)) (.int .i64 ((z.d.pg.length : Nat) : Int)) (.bool false) (fun _ => rfl) e40_i e40_16 (ltN hid _ _ _) rfl ?_
  refine w_nil (xn_then (w_seq (w_condF rfl (w_exit (xx_then (xx_then (xx_blk (xn_then (w_seq (w_reg ?_))))))))))
  refine wl_build 52 [] [] (.agg #[.int .i64 0, .int .i64 0, .int .i64 0, .int .i64 0, .int .i64 0]) rfl rfl (by kernel_rfl) rfl ?_
  refine wl_stm 52 (.tmp 2) (.tmp 44) k1 0 #[.int .i64 0, .int .i64 0, .int .i64 0, .int .i64 0, .int .i64 0] [.int .i64 0, .int .i64 0, .int .i64 0, .int .i64 0, .int .i64 0] [.int .i64 0, .int .i64 0, .int .i64 0, .int .i64 0, .int .i64 0] Q1 rfl rfl e40_2 rfl rfl sz52 rfl rfl rfl ?_
  intro w41 hS hm9 Qn
  replace Q1 := Qn
  clear Qn
  have hmT := (Mk.of (fun j => j = k1) M).same hm9
  replace MK := (MK.trans M).tr hm9 (fun j hj e => by omega)
  clear M hS hm9
  have M : Mo w41 w41 := Mo.refl _
  refine wl_m (.const (.int .i64 (0))) (.int .i64 (0)) ?_
  refine w_nil (xn_then (w_ret ?_))
  exact w_ret2 _ _ (.agg #[.int .i64 0, .int .i64 0, .int .i64 0, .int .i64 0, .int .i64 0]) (.int .i64 (0)) rfl ⟨k1, e40_2, (run_row Q1 52 0 5 _ rfl Tryd.underlying52 rfl sz52)⟩ rfl ⟨by unfold pgR; rw [fs_none (by rw [← hie]; exact hG)]; rfl, (MK.trans M).mo (Mo.refl _) (fun _ h => h.elim)⟩
end Go.Proofs.YtnffhcjmpjajlaaDoor

namespace Go.Proofs.YtnffhcjmpjajlaaDoor
open Go.RowKit D
theorem inf65 : ∃ i, Tryd.prog.info? 65 = some i ∧ i.zero = some (.agg #[.int .i64 0, .int .i64 0, .string ⟨#[]⟩, .int .i64 0, .slice none 0 0]) ∧ i.size = 5 ∧ i.bytes = 64 := by
 have h : (Tryd.prog.info? 65).map (fun i => (i.zero, i.size, i.bytes)) = some (some (.agg #[.int .i64 0, .int .i64 0, .string ⟨#[]⟩, .int .i64 0, .slice none 0 0]), 5, 64) := by kernel_rfl
 cases hi : Tryd.prog.info? 65 with
 | none => rw [hi] at h; cases h
 | some i =>
  rw [hi] at h
  simp at h
  exact ⟨i, rfl, h.1, h.2.1, h.2.2⟩
theorem inf108 : ∃ i, Tryd.prog.info? 108 = some i ∧ i.zero = some (.map none) ∧ i.size = 1 ∧ i.bytes = 8 := by
 have h : (Tryd.prog.info? 108).map (fun i => (i.zero, i.size, i.bytes)) = some (some (.map none), 1, 8) := by kernel_rfl
 cases hi : Tryd.prog.info? 108 with
 | none => rw [hi] at h; cases h
 | some i =>
  rw [hi] at h
  simp at h
  exact ⟨i, rfl, h.1, h.2.1, h.2.2⟩
/-! Flat. -/
def flt : Se → List S5 → Int → Int → List S5
 | .mk nm mx pi ci items pk ck kids, acc, p, dp => if 64 ≤ acc.length ∨ 16 < dp then acc else kids.foldl (fun a k => flt k a acc.length (dp + 1)) (acc ++ [⟨p, dp, nm, mx, pi, ci, items⟩])
theorem flt_eq : ∀ (s : Se) (acc : List S5) (p dp : Int), flt s acc p dp = if 64 ≤ acc.length ∨ 16 < dp then acc else s.kids.foldl (fun a k => flt k a acc.length (dp + 1)) (acc ++ [⟨p, dp, s.nm, s.mx, s.pi, s.ci, s.items⟩])
 | .mk nm mx pi ci items pk ck kids, acc, p, dp => by
  rw [flt]
theorem D.Se.ind2 {M : Se → Prop} (h : ∀ x : Se, (∀ o ∈ x.kids, M o) → M x) : ∀ e, M e := Se.ind (fun nm mx pi ci items pk ck kids ih => h (.mk nm mx pi ci items pk ck kids) ih)
theorem flt_len : ∀ (s : Se) (acc : List S5) (p dp : Int), acc.length ≤ 64 → (flt s acc p dp).length ≤ 64 := by
 refine Se.ind2 ?_
 intro s ih acc p dp ha
 rw [flt_eq]
 split
 ·exact ha
 ·rename_i hc
  have h0 : (acc ++ [(⟨p, dp, s.nm, s.mx, s.pi, s.ci, s.items⟩ : S5)]).length ≤ 64 := by simp; omega
  have key : ∀ (l : List Se), (∀ o ∈ l, o ∈ s.kids) → ∀ b : List S5, b.length ≤ 64 → (l.foldl (fun a k => flt k a acc.length (dp + 1)) b).length ≤ 64 := by
   intro l
   induction l with
   | nil => intro _ b hb; exact hb
   | cons x l ihl => intro hl b hb; rw [List.foldl_cons]; exact ihl (fun o ho => hl o (List.mem_cons_of_mem _ ho)) _ (ih x (hl x (List.mem_cons_self ..)) b _ _ hb)
  exact key s.kids (fun _ h => h) _ h0
end Go.Proofs.YtnffhcjmpjajlaaDoor

namespace Go.Proofs.YtnffhcjmpjajlaaDoor
open Go.RowKit D
structure GA (w0 w : World) (lb gb : Nat) (pa : Option Addr) (cap : Nat) (acc : List S5) : Prop where
 mo : Mo w0 w
 la : At w lb [.slice pa acc.length cap]
 ga : At w gb [.func (.func 72) #[] #[pt lb 0, pt gb 0]]
 ow : w.ownsRow w0.heap.size 65 5 (.slice pa acc.length cap) acc.length (acc.flatMap S5.cells)
 ap : ∀ k, (Value.slice pa acc.length cap).ownBlock = some k → k ≠ lb ∧ k ≠ gb
def fk (s : Se) (acc : List S5) (p dp : Int) (i : Nat) : List S5 := (s.kids.take i).foldl (fun a k => flt k a acc.length (dp + 1)) (acc ++ [⟨p, dp, s.nm, s.mx, s.pi, s.ci, s.items⟩])
theorem fk_s {s : Se} {acc : List S5} {p dp : Int} {i : Nat} {k : Se} (h : s.kids[i]? = some k) : fk s acc p dp (i + 1) = flt k (fk s acc p dp i) acc.length (dp + 1) := by
 unfold fk; rw [List.take_add_one, h, List.foldl_append]; rfl
theorem fk_len {s : Se} {acc : List S5} {p dp : Int} (h : acc.length < 64) : ∀ i, (fk s acc p dp i).length ≤ 64
 | 0 => by unfold fk; simp; omega
 | i + 1 => by
  cases hk : s.kids[i]? with
  | none =>
   have := fk_len (s := s) (p := p) (dp := dp) h i
   unfold fk at this ⊢
   rw [List.take_add_one, hk]; simpa using this
  | some k => rw [fk_s hk]; exact flt_len _ _ _ _ (fk_len h i)
theorem gather_n {w0 : World} {lb gb : Nat} (ne_lb_gb : lb ≠ gb) (N_lb : w0.heap.size ≤ lb) : ∀ (s : Se), LSe w0 s → ∀ (acc : List S5) (p dp : Int) (pa : Option Addr) (cap : Nat) (w : World), GA w0 w lb gb pa cap acc → acc.length ≤ 64 → 0 ≤ dp → dp ≤ 100 → Calls Tryd.prog 72 #[.agg (s.cells).toArray, .int .i64 p, .int .i64 dp, pt lb 0, pt gb 0] w fun e w' => e = .returned (.tuple #[]) ∧ ∃ pa' cap', GA w0 w' lb gb pa' cap' (flt s acc p dp) := by
 refine Se.ind2 ?_
 intro s ih hL acc p dp pa cap w hG ha hd0 hd1
 refine w_enter 46 Tryd.func72 Tryd.ntmps72 rfl rfl ?_
 have M := hG.mo
 have QL := hG.la
 have QG := hG.ga
 have hown := hG.ow
 have on_lb : (Value.slice pa acc.length cap).ownBlock ≠ some lb := fun e => (hG.ap lb e).1 rfl
 have on_gb : (Value.slice pa acc.length cap).ownBlock ≠ some gb := fun e => (hG.ap gb e).2 rfl
 refine w_seq (w_reg ?_)
 refine wl_box 45 (.tmp 0) _ (((s.cells).toArray)) rfl rfl (fun _ => by kernel_rfl) rfl ?_
 intro k1 w1 hk hz hq Q1
 have ne_lb_k1 : lb ≠ k1 := by have := QL.lt; omega
 have ne_gb_k1 : gb ≠ k1 := by have := QG.lt; omega
 have on_k1 : (Value.slice pa acc.length cap).ownBlock ≠ some k1 := fun e => by have := (hown.lt _ e).2; omega
 have N_k1 : w0.heap.size ≤ k1 := by have := M.size; omega
 replace hown := own_mo hown hq
 replace QL := QL.mo hq
 replace QG := QG.mo hq
 replace M := M.trans hq
 clear hk hz hq
 refine w_nil (xn_then (w_seq (w_seq (w_reg ?_))))
 refine wl_l 22 (.tmp 3) (pt lb 0) (.slice pa acc.length cap) (run_one QL 22 0 rfl Tryd.underlying22 rfl) ?_
 refine wl_val (.int .i64 ((acc.length : Nat) : Int)) (len22 _ _ _ _ _ (by exact rfl) _ _ _ _ _ _) rfl ?_
 cases hf0 : decide (((acc.length : Nat) : Int) = 64) with
 | true =>
  have hf0p := of_decide_eq_true hf0
  refine wl_b .eql 3 (.tmp 12) (.const (.int .i64 (64))) (.int .i64 ((acc.length : Nat) : Int)) (.int .i64 (64)) (.bool true) (eq3 hf0 _ _ _) ?_
  refine wl_m (.tmp 13) (.bool true) ?_
  refine wl_skip rfl (wl_skip rfl ?_)
  refine wl_pick (.tmp 14) (.const (.bool true)) (.tmp 16) true (.bool true) (fun _ => rfl) rfl rfl rfl ?_
  refine w_nil (xn_then (w_condT rfl (w_ret (xr_then ?_))))
  exact w_ret0 rfl ⟨rfl, by rw [flt_eq, if_pos (by omega)]; exact ⟨_, _, ⟨M, QL, QG, hown, hG.ap⟩⟩⟩
 | false =>
  have hf0p := of_decide_eq_false hf0
  refine wl_b .eql 3 (.tmp 12) (.const (.int .i64 (64))) (.int .i64 ((acc.length : Nat) : Int)) (.int .i64 (64)) (.bool false) (eq3 hf0 _ _ _) ?_
  refine wl_m (.tmp 13) (.bool false) ?_
  refine wl_m (.tmp 2) (.int .i64 (dp)) ?_
  cases hf1 : decide (16 < dp) with
  | true =>
   have hf1p := of_decide_eq_true hf1
   refine wl_b .gtr 3 (.tmp 15) (.const (.int .i64 (16))) (.int .i64 (dp)) (.int .i64 (16)) (.bool true) (gt3 hf1 _ _ _) ?_
   refine wl_pick (.tmp 14) (.const (.bool true)) (.tmp 16) false (.bool true) (fun _ => rfl) rfl rfl rfl ?_
   refine w_nil (xn_then (w_condT rfl (w_ret (xr_then ?_))))
   exact w_ret0 rfl ⟨rfl, by rw [flt_eq, if_pos (by omega)]; exact ⟨_, _, ⟨M, QL, QG, hown, hG.ap⟩⟩⟩
  | false =>
   have hf1p := of_decide_eq_false hf1
   refine wl_b .gtr 3 (.tmp 15) (.const (.int .i64 (16))) (.int .i64 (dp)) (.int .i64 (16)) (.bool false) (gt3 hf1 _ _ _) ?_
   refine wl_pick (.tmp 14) (.const (.bool true)) (.tmp 16) false (.bool false) (fun _ => rfl) rfl rfl rfl ?_
   refine w_nil (xn_then (w_condF rfl (w_skip (xn_then (w_seq (w_reg ?_))))))
   refine wl_l 22 (.tmp 3) (pt lb 0) (.slice pa acc.length cap) (run_one QL 22 0 rfl Tryd.underlying22 rfl) ?_
   refine wl_val (.int .i64 ((acc.length : Nat) : Int)) (len22 _ _ _ _ _ (by exact rfl) _ _ _ _ _ _) rfl ?_
   refine wl_m (.tmp 19) (.int .i64 ((acc.length : Nat) : Int)) ?_
   refine w_nil (xn_then (w_seq (w_reg ?_)))
   refine wl_l 22 (.tmp 3) (pt lb 0) (.slice pa acc.length cap) (run_one QL 22 0 rfl Tryd.underlying22 rfl) ?_
   refine wl_m (.tmp 1) (.int .i64 (p)) ?_
   refine wl_m (.tmp 2) (.int .i64 (dp)) ?_
   refine wl_f 45 0 (.tmp 5) (pt k1 0) (pt k1 0) ?_
   refine wl_l 9 (.tmp 23) (pt k1 0) (.string s.nm) (run_one Q1 9 0 rfl Tryd.underlying9 rfl) ?_
   refine wl_f 45 1 (.tmp 5) (pt k1 0) (pt k1 1) ?_
   refine wl_l 3 (.tmp 25) (pt k1 1) (.int .i64 (s.mx)) (run_one Q1 3 1 rfl Tryd.underlying3 rfl) ?_
   refine wl_f 45 2 (.tmp 5) (pt k1 0) (pt k1 2) ?_
   refine wl_l 42 (.tmp 27) (pt k1 2) (.slice s.pi s.items.length s.ci) (run_one Q1 42 2 rfl Tryd.underlying42 rfl) ?_
   refine wl_build 65 [(0, (.tmp 21)), (1, (.tmp 22)), (2, (.tmp 24)), (3, (.tmp 26)), (4, (.tmp 28))] [(0, .int .i64 (p)), (1, .int .i64 (dp)), (2, .string s.nm), (3, .int .i64 (s.mx)), (4, .slice s.pi s.items.length s.ci)] (.agg #[.int .i64 (p), .int .i64 (dp), .string s.nm, .int .i64 (s.mx), .slice s.pi s.items.length s.ci]) rfl rfl (by kernel_rfl) rfl ?_
   refine wl_bs 22 1 [(0, (.tmp 29))] [(0, .agg #[.int .i64 (p), .int .i64 (dp), .string s.nm, .int .i64 (s.mx), .slice s.pi s.items.length s.ci])] #[.int .i64 (p), .int .i64 (dp), .string s.nm, .int .i64 (s.mx), .slice s.pi s.items.length s.ci] 65 rfl rfl (fun _ => by kernel_rfl) rfl ?_
   intro k2 w2 hk hz hq Q2
   have ne_lb_k2 : lb ≠ k2 := by have := QL.lt; omega
   have ne_gb_k2 : gb ≠ k2 := by have := QG.lt; omega
   have ne_k1_k2 : k1 ≠ k2 := by have := Q1.lt; omega
   have N_k2 : w0.heap.size ≤ k2 := by have := M.size; omega
   have on_k2 : (Value.slice pa acc.length cap).ownBlock ≠ some k2 := fun e => by have := (own_lt hown e).1; omega
   replace hown := own_mo hown hq
   replace QL := QL.mo hq
   replace QG := QG.mo hq
   replace Q1 := Q1.mo hq
   replace M := M.trans hq
   clear hk hz hq
   have hal : acc.length < 64 := by omega
   have lt_lb := QL.lt
   have lt_gb := QG.lt
   have lt_k1 := Q1.lt
   have lt_k2 := Q2.lt
   refine wl_app Tryd.underlying22 inf65 rfl (by decide) (.tmp 20) (.tmp 30) w0.heap.size (.slice pa acc.length cap) acc.length (acc.flatMap S5.cells) k2 1 1 (⟨p, dp, s.nm, s.mx, s.pi, s.ci, s.items⟩ : S5).cells rfl rfl rfl hown rfl Q2 (fun u hu => by simp only [S5.cells, List.mem_cons, List.not_mem_nil, or_false] at hu; rcases hu with rfl | rfl | rfl | rfl | rfl <;> rfl) (by decide) (by unfold maxLen; omega) (by omega) M.size rfl ?_
   intro v9 w3 hOw hm9 hbk
   have hlt9 := fun k e => own_lt hown (k := k) e
   replace M := hm9.mo M (fun k e => (hlt9 k e).2)
   replace QL := hm9.at QL on_lb
   replace QG := hm9.at QG on_gb
   replace Q1 := hm9.at Q1 on_k1
   replace Q2 := hm9.at Q2 on_k2
   obtain ⟨pa1, cap1, rfl, _⟩ := own_form hOw
   replace hOw : w3.ownsRow w0.heap.size 65 5 (.slice pa1 (acc ++ [(⟨p, dp, s.nm, s.mx, s.pi, s.ci, s.items⟩ : S5)]).length cap1) (acc ++ [(⟨p, dp, s.nm, s.mx, s.pi, s.ci, s.items⟩ : S5)]).length ((acc ++ [(⟨p, dp, s.nm, s.mx, s.pi, s.ci, s.items⟩ : S5)]).flatMap S5.cells) := by simpa using hOw
   have hb1 : (Value.slice pa1 (acc ++ [(⟨p, dp, s.nm, s.mx, s.pi, s.ci, s.items⟩ : S5)]).length cap1).ownBlock = (Value.slice pa acc.length cap).ownBlock ∨ (Value.slice pa1 (acc ++ [(⟨p, dp, s.nm, s.mx, s.pi, s.ci, s.items⟩ : S5)]).length cap1).ownBlock = some w2.heap.size := by cases pa1 <;> exact hbk
   replace on_lb : (Value.slice pa1 (acc ++ [(⟨p, dp, s.nm, s.mx, s.pi, s.ci, s.items⟩ : S5)]).length cap1).ownBlock ≠ some lb := fun e => by rcases hb1 with h | h; exact on_lb (h.symm.trans e); have h8 := Option.some.inj (h.symm.trans e); have := lt_lb; omega
   replace on_gb : (Value.slice pa1 (acc ++ [(⟨p, dp, s.nm, s.mx, s.pi, s.ci, s.items⟩ : S5)]).length cap1).ownBlock ≠ some gb := fun e => by rcases hb1 with h | h; exact on_gb (h.symm.trans e); have h8 := Option.some.inj (h.symm.trans e); have := lt_gb; omega
   replace on_k1 : (Value.slice pa1 (acc ++ [(⟨p, dp, s.nm, s.mx, s.pi, s.ci, s.items⟩ : S5)]).length cap1).ownBlock ≠ some k1 := fun e => by rcases hb1 with h | h; exact on_k1 (h.symm.trans e); have h8 := Option.some.inj (h.symm.trans e); have := lt_k1; omega
   replace on_k2 : (Value.slice pa1 (acc ++ [(⟨p, dp, s.nm, s.mx, s.pi, s.ci, s.items⟩ : S5)]).length cap1).ownBlock ≠ some k2 := fun e => by rcases hb1 with h | h; exact on_k2 (h.symm.trans e); have h8 := Option.some.inj (h.symm.trans e); have := lt_k2; omega
   clear hown hlt9 hbk hb1 hm9
   have hown := hOw
   rw [show acc.length + 1 = (acc ++ [(⟨p, dp, s.nm, s.mx, s.pi, s.ci, s.items⟩ : S5)]).length by simp]
   refine wl_stm1 22 (.tmp 3) (.tmp 31) lb 0 (.slice pa1 (acc ++ [(⟨p, dp, s.nm, s.mx, s.pi, s.ci, s.items⟩ : S5)]).length cap1) [.slice pa acc.length cap] [.slice pa1 (acc ++ [(⟨p, dp, s.nm, s.mx, s.pi, s.ci, s.items⟩ : S5)]).length cap1] QL rfl rfl rfl rfl rfl sz22 rfl rfl rfl rfl ?_
   intro w4 hS hm9 Qn
   replace QL := Qn
   clear Qn
   replace QG := hS.other _ _ ne_lb_gb.symm QG
   replace Q1 := hS.other _ _ ne_lb_k1.symm Q1
   replace Q2 := hS.other _ _ ne_lb_k2.symm Q2
   replace hown := own_mk hown hm9 (fun k e h => on_lb (by rw [e, h]))
   replace M := hS.mo _ N_lb M
   clear hS hm9
   refine w_nil (xn_then (w_seq (w_reg ?_)))
   refine wl_f 45 3 (.tmp 5) (pt k1 0) (pt k1 3) ?_
   refine wl_l 43 (.tmp 32) (pt k1 3) (.slice s.pk s.kids.length s.ck) (run_one Q1 43 3 rfl Tryd.underlying43 rfl) ?_
   refine wl_val (.int .i64 ((s.kids.length : Nat) : Int)) (len43 _ _ _ _ _ (by exact rfl) _ _ _ _ _ _) rfl ?_
   refine wl_m (.const (.int .i64 (0))) (.int .i64 (0)) ?_
   refine w_nil (xn_then (w_block ?_))
   have hcond : ¬ (64 ≤ acc.length ∨ 16 < dp) := by omega
   have hG1 : GA w0 w4 lb gb pa1 cap1 (acc ++ [(⟨p, dp, s.nm, s.mx, s.pi, s.ci, s.items⟩ : S5)]) := ⟨M, QL, QG, hown, fun k e => ⟨fun h => on_lb (by rw [← h]; exact e), fun h => on_gb (by rw [← h]; exact e)⟩⟩
   have hzk := hL.kd.1
   unfold maxLen at hzk
   refine w_loop (fun m l w1 => ∃ i : Nat, m = s.kids.length - i ∧ i ≤ s.kids.length ∧ look l 0 = .agg (s.cells).toArray ∧ look l 1 = .int .i64 (p) ∧ look l 2 = .int .i64 (dp) ∧ look l 3 = pt lb 0 ∧ look l 4 = pt gb 0 ∧ look l 8 = .int .i64 ((acc.length : Nat) : Int) ∧ look l 33 = .slice s.pk s.kids.length s.ck ∧ look l 34 = .int .i64 ((s.kids.length : Nat) : Int) ∧ look l 35 = .int .i64 ((i : Nat) : Int) ∧ ∃ pa cap, GA w0 w1 lb gb pa cap (fk s acc p dp i)) _ ⟨0, rfl, Nat.zero_le _, rfl, rfl, rfl, rfl, rfl, rfl, rfl, rfl, rfl, ⟨_, _, hG1⟩⟩ ?_
   clear QL QG Q1 Q2 M
   rintro m l40 wl40 ⟨i, rfl, hi, e40_0, e40_1, e40_2, e40_3, e40_4, e40_8, e40_33, e40_34, e40_i, hE⟩
   by_cases hil : i < s.kids.length
   ·skip
    have hid : decide (i < s.kids.length) = true := decide_eq_true hil
    obtain ⟨pa2, cap2, hG2⟩ := hE
    have M := hG2.mo
    have QL := hG2.la
    have QG := hG2.ga
    have hown := hG2.ow
    have on_lb : (Value.slice pa2 (fk s acc p dp i).length cap2).ownBlock ≠ some lb := fun e => (hG2.ap lb e).1 rfl
    have on_gb : (Value.slice pa2 (fk s acc p dp i).length cap2).ownBlock ≠ some gb := fun e => (hG2.ap gb e).2 rfl
    obtain ⟨k, hk⟩ := get_of_lt hil
    obtain ⟨b1, o1, hp1, hR1⟩ := D.SL.rw hL.kd hk
    refine w_seq (w_reg ?_)
    refine wl_bin (fun x y => do eqGuard .lss 3 (.tmp 35) (.tmp 34) x y; binOp .lss 3 x y) (.tmp 35) (.tmp 34) (.int .i64 ((i : Nat) : Int)) (.int .i64 ((s.kids.length : Nat) : Int)) (.bool true) (fun _ => rfl) e40_i e40_34 (ltN hid _ _ _) rfl ?_
    refine w_nil (xn_then (w_seq (w_condT rfl (w_skip (xn_then (w_seq (w_block (w_seq (w_reg ?_)))))))))
    refine wl_bin (fun x y => Instr.indexAt 43 x y) (.tmp 33) (.tmp 35) (.slice s.pk s.kids.length s.ck) (.int .i64 ((i : Nat) : Int)) (pt b1 (o1 + i * 4)) (fun _ => rfl) e40_33 e40_i (ix43 (i := i) hp1 hil _) rfl ?_
    refine wl_l 45 (.tmp 37) (pt b1 (o1 + i * 4)) (.agg (k.cells).toArray) (D.run_partR (hR1.mo M).at' 45 0 4 (k.cells) rfl Tryd.underlying45 rfl sz45) ?_
    refine wl_alloc 45 #[.string ⟨#[]⟩, .int .i64 0, .slice none 0 0, .slice none 0 0] rfl (fun _ => by kernel_rfl) rfl ?_
    intro k3 w41 hk hz hq Q3
    have ne_lb_k3 : lb ≠ k3 := by have := QL.lt; omega
    have ne_gb_k3 : gb ≠ k3 := by have := QG.lt; omega
    have on_k3 : (Value.slice pa2 (fk s acc p dp i).length cap2).ownBlock ≠ some k3 := fun e => by have := (hown.lt _ e).2; omega
    have N_k3 : w0.heap.size ≤ k3 := by have := M.size; omega
    replace hown := own_mo hown hq
    replace QL := QL.mo hq
    replace QG := QG.mo hq
    replace M := M.trans hq
    clear hk hz hq
    refine wl_stm 45 (.tmp 10) (.tmp 38) k3 0 ((k.cells).toArray) [.string ⟨#[]⟩, .int .i64 0, .slice none 0 0, .slice none 0 0] (k.cells) Q3 rfl rfl rfl rfl rfl sz45 rfl rfl rfl ?_
    intro w42 hS hm9 Qn
    replace Q3 := Qn
    clear Qn
    replace QL := hS.other _ _ ne_lb_k3 QL
    replace QG := hS.other _ _ ne_gb_k3 QG
    replace hown := own_mk hown hm9 (fun k e h => on_k3 (by rw [e, h]))
    replace M := hS.mo _ N_k3 M
    clear hS hm9
    refine w_nil (xn_then (w_reg ?_))
    refine wl_load 134 (.tmp 4) (pt gb 0) (.func (.func 72) #[] #[pt lb 0, pt gb 0]) rfl e40_4 (run_one QG 134 0 rfl Tryd.underlying134 rfl) rfl ?_
    refine wl_l 45 (.tmp 10) (pt k3 0) (.agg (k.cells).toArray) (run_row Q3 45 0 4 (k.cells) rfl Tryd.underlying45 rfl sz45) ?_
    refine wl_mv (.tmp 8) (.int .i64 ((acc.length : Nat) : Int)) (fun _ => rfl) e40_8 rfl ?_
    refine wl_mv (.tmp 2) (.int .i64 (dp)) (fun _ => rfl) e40_2 rfl ?_
    refine wl_b .add 3 (.tmp 42) (.const (.int .i64 (1))) (.int .i64 (dp)) (.int .i64 (1)) (.int .i64 (dp + 1)) (add1i (k := dp) (by omega) (by omega) _ _ _) ?_
    have hG3 : GA w0 w42 lb gb pa2 cap2 (fk s acc p dp i) := ⟨M, QL, QG, hown, hG2.ap⟩
    refine wl_callv 72 (.tmp 39) #[] #[pt lb 0, pt gb 0] [(.tmp 40), (.tmp 41), (.tmp 43)] _ [.agg (k.cells).toArray, .int .i64 ((acc.length : Nat) : Int), .int .i64 (dp + 1)] [.agg (k.cells).toArray, .int .i64 ((acc.length : Nat) : Int), .int .i64 (dp + 1), pt lb 0, pt gb 0] rfl rfl rfl rfl (fun _ _ => by kernel_rfl) (ih k (List.mem_of_getElem? hk) (hL.kr k (List.mem_of_getElem? hk)) (fk s acc p dp i) _ _ pa2 cap2 _ hG3 (fk_len (by omega) i) (by omega) (by omega)) rfl ?_
    rintro e9 w43 ⟨rfl, hE2⟩
    refine ⟨_, rfl, ?_⟩
    refine w_nil (xn_blk (xn_then (w_reg ?_)))
    refine wl_bin (fun x y => do eqGuard .add 3 (.tmp 35) (.const (.int .i64 (1))) x y; binOp .add 3 x y) (.tmp 35) (.const (.int .i64 (1))) (.int .i64 ((i : Nat) : Int)) (.int .i64 (1)) (.int .i64 ((i + 1 : Nat) : Int)) (fun _ => rfl) e40_i rfl (add1r (k := i) (by omega) _ _ _) rfl ?_
    refine wl_m (.tmp 45) (.int .i64 ((i + 1 : Nat) : Int)) ?_
    refine w_nil ?_
    exact xn_loop (s.kids.length - (i + 1)) (by omega) ⟨i + 1, rfl, by omega, e40_0, e40_1, e40_2, e40_3, e40_4, e40_8, e40_33, e40_34, rfl, by rw [fk_s hk]; exact hE2⟩
   ·skip
    have hid : decide (i < s.kids.length) = false := decide_eq_false hil
    have hie : i = s.kids.length := by omega
    refine w_seq (w_reg ?_)
    refine wl_bin (fun x y => do eqGuard .lss 3 (.tmp 35) (.tmp 34) x y; binOp .lss 3 x y) (.tmp 35) (.tmp 34) (.int .i64 ((i : Nat) : Int)) (.int .i64 ((s.kids.length : Nat) : Int)) (.bool false) (fun _ => rfl) e40_i e40_34 (ltN hid _ _ _) rfl ?_
    refine w_nil (xn_then (w_seq (w_condF rfl (w_exit (xx_then (xx_then (xx_blk ?_)))))))
    exact w_end0 rfl ⟨rfl, by obtain ⟨pa2, cap2, h⟩ := hE; rw [flt_eq, if_neg hcond]; rw [hie] at h; unfold fk at h; rw [List.take_length] at h; exact ⟨_, _, h⟩⟩
end Go.Proofs.YtnffhcjmpjajlaaDoor

namespace Go.Proofs.YtnffhcjmpjajlaaDoor
open Go.RowKit

def spQ (sp : List (Value → World → Prop)) (j : Nat) : Value → World → Prop := (sp[j]?).getD (fun _ _ => True)
def Smo (p : Value → World → Prop) : Prop := ∀ u w w', p u w → Mo w w' → p u w'
def Smos (sp : List (Value → World → Prop)) : Prop := ∀ j, Smo (spQ sp j)
theorem smos_nil : Smos [] := fun _ _ _ _ _ _ => trivial
theorem smos_cons {p : Value → World → Prop} {sp : List (Value → World → Prop)} (h : Smo p) (hs : Smos sp) : Smos (p :: sp) := fun j => by
 cases j with
 | zero => exact h
 | succ j => have := hs j; unfold spQ at this ⊢; simpa using this
def vq (v : Value) : Value → World → Prop := fun u _ => u = v
theorem smo_vq (v : Value) : Smo (vq v) := fun _ _ _ h _ => h
section
variable {P : Program} {n : Nat} {l : List (Nat × Value)} {w : World} {Q : Exit → Act → World → Prop}
structure OgC (P : Program) (ops : List Oper) (Q : Exit → Act → World → Prop) (n : Nat) (l : List (Nat × Value)) (m : Nat) (G : World → Prop) (sp : List (Value → World → Prop)) (i : Nat) (o : Oper) : Prop where
 out : ∀ f w, G w → (∀ j, depb o j = true → spQ sp j (f j) w) → ∀ K : Act → World → Prop,
  (∀ v w', G w' → spQ sp i v w' → (∀ j u, j ≠ i → spQ sp j u w → spQ sp j u w') → K (fr n (ext (asg f 0 (ops.take m) l) o.dst v)) w') →
  Go1 P ops Q n (asg f 0 (ops.take m) l) w K o
def LateC (P : Program) (ops : List Oper) (Q : Exit → Act → World → Prop) (n : Nat) (l : List (Nat × Value)) (m : Nat) (sp : List (Value → World → Prop)) (i : Nat) : Prop :=
 ∃ o v, ops[i]? = some o ∧ spQ sp i = vq v ∧ (∀ u c a w, Q (.panic c) (a.put o.dst u) w → Q (.panic c) a w) ∧
  ∀ f, (∀ j, depb o j = true → ∀ u, spQ sp j = vq u → f j = u) → wnt n (asg f 0 (ops.take m) l) ops.toArray o = true ∧ ∀ w, (execOp (evl n (asg f 0 (ops.take m) l)) o).run P w = .ok (.value v) w
theorem a_ogc {ops : List Oper} (m : Nat) (G : World → Prop) (sp : List (Value → World → Prop)) (fs : List Nat) 
    (hb : edgesBack .any ops.toArray = true) (hd : dstsApart (ops.take m) = true) (hc : chainB ops m fs = true) (hl : Nat.ble m ops.length = true) (hf : floatB ops m fs = true) (hns : Region.noSelect ops.toArray = true)
    (hlate : ∀ i, i ∈ fs → LateC P ops Q n l m sp i) (hG : G w.drew) (hs : Each (OgC P ops Q n l m G sp) 0 (ops.take m))
    (hend : ∀ f w', G w' → (∀ i, Nat.blt i m = true → spQ sp i (f i) w') → WL P ops.toArray Q (ops.drop m) n (asg f 0 (ops.take m) l) w') : wpAny P .any ops.toArray Q ops.toArray.size (Array.replicate ops.toArray.size false) (fr n l) w.drew := by
  have hml : m ≤ ops.length := Nat.le_of_ble_eq_true hl
  have hfm : ∀ i, i ∈ fs → i < m := fun i hi => by
    have := List.all_eq_true.1 hf i hi
    simp only [Bool.and_eq_true] at this
    rw [Nat.blt_eq] at this; exact this.1
  have hfs : ∀ j, m ≤ j → fs.contains j = false := fun j hj => by
    cases e : fs.contains j with
    | false => rfl
    | true => have := hfm j (by simpa using e); omega
  -- all that are not late have come up: the late ones first, then the last part
  have second : ∀ (d fuel : Nat) (listed : Array Bool) (f : Nat → Value) (w : World), listed.toList.count false = (ops.length - m) + d → (ops.length - m) + d ≤ fuel → listed.size = ops.length → Shut ops listed → (∀ j, m ≤ j → j < ops.length → listed.getD j true = false) →
      (∀ j, j < m → fs.contains j = false → listed.getD j true = true) → G w → (∀ i, i < m → listed.getD i false = true → spQ sp i (f i) w) → wpAny P .any ops.toArray Q fuel listed (putAll f 0 (ops.take m) (fr n l)) w := by
    intro d
    induction d with
    | zero =>
      intro fuel listed f w hcnt hfu hz hsh hun hall hW hR
      have hall2 : ∀ j, j < m → listed.getD j true = true := fun j hj => by
        cases e : listed.getD j true with
        | true => rfl
        | false =>
          exfalso
          have h1 : (listed.toList.drop m).count false = ops.length - m := by
            have h2 : listed.toList.drop m = List.replicate (ops.length - m) false := by
              apply List.ext_getElem
              · simp [hz]
              · intro j h3 h4
                simp at h3
                have := hun (m + j) (by omega) (by omega)
                have h5 : m + j < listed.size := by omega
                simpa [h5] using this
            rw [h2]; simp
          have h3 := List.take_append_drop m listed.toList
          have h4 : 0 < (listed.toList.take m).count false := by
            apply List.count_pos_iff.2
            have hjs : j < listed.size := by omega
            simp [hjs] at e
            rw [List.mem_iff_getElem]
            exact ⟨j, by simp; omega, by simp [e]⟩
          rw [← h3, List.count_append] at hcnt
          omega
      refine wpAny_chain hfs hc hb (ops.length - m) m _ listed _ w (by omega) (Nat.le_refl _) (by omega) hz hsh (fun j hj => ?_) ?_
      · rcases Nat.lt_or_ge j m with h | h
        · rw [hall2 j h]; simp [h]
        · rw [hun j h hj]; simp [Nat.not_lt.2 h]
      · rw [putAll_fr]
        exact (hend f w hW (fun i hi => by
          have hi' : i < m := by rw [Nat.blt_eq] at hi; exact hi
          refine hR i hi' ?_
          have h1 := hall2 i hi'
          have h2 : i < listed.size := by omega
          simpa [h2] using h1)).out
    | succ d ih =>
      intro fuel listed f w hcnt hfu hz hsh hun hall hW hR
      -- a late one that has not come up: the first
      have hex : ∃ i, i < m ∧ listed.getD i true = false := by
        apply Classical.byContradiction
        intro hno
        have hall2 : ∀ j, j < m → listed.getD j true = true := fun j hj => by
          cases e : listed.getD j true with
          | true => rfl
          | false => exact absurd ⟨j, hj, e⟩ hno
        have h3 := List.take_append_drop m listed.toList
        have h4 : (listed.toList.take m).count false = 0 := by
          rw [List.count_eq_zero]
          intro hmem
          rw [List.mem_iff_getElem] at hmem
          obtain ⟨j, hj, e⟩ := hmem
          simp at hj e
          have hj1 : j < m := by omega
          have hj2 : j < listed.size := by omega
          have := hall2 j hj1
          simp [hj2] at this
          rw [this] at e; cases e
        have h5 : (listed.toList.drop m).count false ≤ ops.length - m := by
          have := List.count_le_length (a := false) (l := listed.toList.drop m)
          simp [hz] at this; exact this
        rw [← h3, List.count_append] at hcnt
        omega
      obtain ⟨i, ⟨him, hiu⟩, hmin⟩ := exists_least0 hex
      have hif : i ∈ fs := by
        cases e : fs.contains i with
        | true => simpa using e
        | false => have := hall i him e; rw [hiu] at this; cases this
      obtain ⟨o, v, ho, hv, hQ, hy⟩ := hlate i hif
      have hdep : ∀ e ∈ o.after, Region.binds .any e = true → listed.getD e.on false = true := fun e he hbd => by
        have hlt := edgesBack_spec hb (i := i) (o := o) (by simpa using ho) e he hbd
        have h1 : listed.getD e.on true = true := by
          cases ee : listed.getD e.on true with
          | true => rfl
          | false => have := hmin e.on ⟨by omega, ee⟩; omega
        have h2 : e.on < listed.size := by omega
        simpa [h2] using h1
      have hval : ∀ j, depb o j = true → ∀ u, spQ sp j = vq u → f j = u := fun j hj u hu => by
        obtain ⟨e, he, hb'⟩ := List.any_eq_true.1 hj
        simp only [Bool.and_eq_true] at hb'
        have heon := Nat.eq_of_beq_eq_true hb'.2
        have hj' := hdep e (by simpa using he) hb'.1
        have hlt := edgesBack_spec hb (i := i) (o := o) (by simpa using ho) e (by simpa using he) hb'.1
        rw [heon] at hj' hlt
        have := hR j (by omega) hj'
        rw [hu] at this
        exact this
      obtain ⟨hw1, hw2⟩ := hy f hval
      cases fuel with
      | zero => omega
      | succ fuel =>
        refine wpAny_first (i := i) (oi := o) (v := v) (by simpa using ho) (Region.noSelect_spec hns) (hQ v) fuel listed _ w ?_ ?_ ?_ ?_
        · intro j oj hoj hji hju hno
          have hjl : j < ops.length := by have := (Array.getElem?_eq_some_iff.1 hoj).1; simpa using this
          have h1 := List.all_eq_true.1 hf i hif
          simp only [Bool.and_eq_true, ho] at h1
          have h2 := List.all_eq_true.1 h1.2 j (List.mem_range.2 hjl)
          have hoj' : ops[j]? = some oj := by simpa using hoj
          simp only [hoj', Bool.or_eq_true, Bool.and_eq_true, Bool.not_eq_true'] at h2
          rcases h2 with (h2 | h2) | h2 | h2
          · exact absurd (Nat.eq_of_beq_eq_true h2) hji
          · have := hall j (by have := h2.1; rw [Nat.blt_eq] at this; exact this) h2.2
            rw [this] at hju; cases hju
          · obtain ⟨e, he, hb'⟩ := List.any_eq_true.1 h2
            simp only [Bool.and_eq_true] at hb'
            exact absurd (Nat.eq_of_beq_eq_true hb'.2) (hno e (by simpa using he) hb'.1)
          · exact h2
        · exact mem_ready.2 ⟨hiu, o, by simpa using ho, hdep⟩
        · rw [putAll_fr]
          exact Or.inl ⟨by rw [fr_wanted]; exact hw1, fun w => by rw [fr_eval]; exact hw2 w⟩
        · have hot : (ops.take m)[i]? = some o := by rw [List.getElem?_take_of_lt him]; exact ho
          have hp := putAll_put v (ops.take m) 0 f (fr n l) hd i o hot
          rw [Nat.zero_add] at hp
          rw [hp]
          have h1 : listed.toList[i]? = some false := by
            have h' : i < listed.size := by omega
            simp [h'] at hiu; simp [h', hiu]
          have hcs := count_set _ _ h1
          refine ih fuel _ (upd f i v) w ?_ (by omega) (by simpa using hz) (hsh.step ho hdep) (fun j h1 h2 => ?_) (fun j h1 h2 => ?_) hW (fun j hj hlj => ?_)
          · simp only [Array.toList_setIfInBounds]; omega
          · rw [getD_set_ne true (by omega)]; exact hun j h1 h2
          · have hij : i ≠ j := by intro e; subst e; have : fs.contains i = true := by simpa using hif
                                   rw [this] at h2; cases h2
            rw [getD_set_ne true hij]; exact hall j h1 h2
          · by_cases e : j = i
            · subst e; rw [hv]; simp [upd, vq]
            · rw [getD_set_ne false (Ne.symm e)] at hlj
              have := hR j hj hlj
              simpa [upd, e] using this
  have main : ∀ (fuel : Nat) (listed : Array Bool) (f : Nat → Value) (w : World), listed.toList.count false ≤ fuel → listed.size = ops.length → Shut ops listed → (∀ j, m ≤ j → j < ops.length → listed.getD j true = false) →
      G w → (∀ i, i < m → listed.getD i false = true → spQ sp i (f i) w) → wpAny P .any ops.toArray Q fuel listed (putAll f 0 (ops.take m) (fr n l)) w := by
    intro fuel
    induction fuel with
    | zero =>
      intro listed f w hcnt hz hsh hun hW hR
      refine wpAny_chain hfs hc hb (ops.length - m) m 0 listed _ w (by omega) (Nat.le_refl _) ?_ hz hsh ?_ ?_
      · rcases Nat.lt_or_ge m ops.length with h | h
        · exfalso
          have h1 := hun m (Nat.le_refl _) h
          have h2 : m < listed.size := by omega
          have : false ∈ listed.toList := by simp [h2] at h1; rw [← h1]; simp
          have := List.count_pos_iff.2 this
          omega
        · omega
      · intro j hj
        have h2 : j < listed.size := by omega
        have h3 : listed.getD j true = true := by
          cases e : listed.getD j true with
          | true => rfl
          | false =>
            have : false ∈ listed.toList := by simp [h2] at e; rw [← e]; simp
            have := List.count_pos_iff.2 this
            omega
        rcases Nat.lt_or_ge j m with h | h
        · rw [h3]; simp [h]
        · rw [hun j h hj] at h3; cases h3
      · rw [putAll_fr]
        refine (hend f w hW (fun i hi => hR i (by rw [Nat.blt_eq] at hi; exact hi) ?_)).out
        have hi' : i < m := by rw [Nat.blt_eq] at hi; exact hi
        have h2 : i < listed.size := by omega
        cases e : listed.getD i false with
        | true => rfl
        | false =>
          have : false ∈ listed.toList := by simp [h2] at e; rw [← e]; simp
          have := List.count_pos_iff.2 this
          omega
    | succ fuel ih =>
      intro listed f w hcnt hz hsh hun hW hR
      by_cases hall : ∀ j, j < m → fs.contains j = false → listed.getD j true = true
      · have hge : ops.length - m ≤ listed.toList.count false := by
          have h1 : (listed.toList.drop m).count false = ops.length - m := by
            have h2 : listed.toList.drop m = List.replicate (ops.length - m) false := by
              apply List.ext_getElem
              · simp [hz]
              · intro j h3 h4
                simp at h3
                have := hun (m + j) (by omega) (by omega)
                have h5 : m + j < listed.size := by omega
                simpa [h5] using this
            rw [h2]; simp
          have h3 := List.take_append_drop m listed.toList
          rw [← h3, List.count_append]
          omega
        exact second (listed.toList.count false - (ops.length - m)) _ listed f w (by omega) (by omega) hz hsh hun hall hW hR
      · obtain ⟨u, hum, huf, hu⟩ : ∃ u, u < m ∧ fs.contains u = false ∧ listed.getD u true = false := by
          rcases Classical.not_forall.1 hall with ⟨u, h⟩
          rcases Classical.not_imp.1 h with ⟨h1, h2⟩
          rcases Classical.not_imp.1 h2 with ⟨h3, h4⟩
          exact ⟨u, h1, h3, by cases e : listed.getD u true with | true => exact absurd e h4 | false => rfl⟩
        have hne : Region.ready .any ops.toArray listed ≠ [] := fun hr => by
          have := all_listed hb hr u (by simp; omega)
          rw [hu] at this; cases this
        refine ⟨fun h0 => absurd h0 hne, fun i hi => ?_⟩
        obtain ⟨h0, o, ho, hdep⟩ := mem_ready.1 hi
        have hoi : ops[i]? = some o := by simpa using ho
        have hilt : i < ops.length := (List.getElem?_eq_some_iff.1 hoi).1
        have him : i < m := by
          rcases Nat.lt_or_ge i m with h | h
          · exact h
          · exfalso
            have h1 := chainB_spec hc hsh hoi h hdep u (by omega) huf
            have h2 : u < listed.size := by omega
            simp [h2] at h1 hu
            rw [h1] at hu; cases hu
        have hot : (ops.take m)[i]? = some o := by rw [List.getElem?_take_of_lt him]; exact hoi
        have hstep := Each.spec (ops.take m) 0 hs i o hot
        rw [Nat.zero_add] at hstep
        have hcount : ((listed.setIfInBounds i true).toList.count false) ≤ fuel := by
          have h1 : listed.toList[i]? = some false := by
            have h' : i < listed.size := by omega
            simp [h'] at h0; simp [h', h0]
          have := count_set _ _ h1
          simp only [Array.toList_setIfInBounds]
          omega
        have hun' : ∀ j, m ≤ j → j < ops.length → (listed.setIfInBounds i true).getD j true = false := fun j h1 h2 => by
          rw [getD_set_ne true (by omega)]; exact hun j h1 h2
        have next : ∀ v w', G w' → spQ sp i v w' → (∀ j u, j ≠ i → spQ sp j u w → spQ sp j u w') → wpAny P .any ops.toArray Q fuel (listed.setIfInBounds i true) (putAll (upd f i v) 0 (ops.take m) (fr n l)) w' := fun v w' hg hden hot' => by
          refine ih _ _ w' hcount (by simpa using hz) (hsh.step hoi hdep) hun' hg (fun j hj hlj => ?_)
          by_cases e : j = i
          · subst e; simpa [upd] using hden
          · rw [getD_set_ne false (Ne.symm e)] at hlj
            have := hot' j (f j) e (hR j hj hlj)
            simpa [upd, e] using this
        have put : ∀ v, fr n (ext (asg f 0 (ops.take m) l) o.dst v) = putAll (upd f i v) 0 (ops.take m) (fr n l) := fun v => by
          have := putAll_put v (ops.take m) 0 f (fr n l) hd i o hot
          rw [Nat.zero_add] at this
          rw [← this, putAll_fr, fr_put]
        refine wpOp_step ho (fun K hK => ?_)
        rw [putAll_fr, fr_wanted]
        have hh := (hstep.out f w hW (fun j hj => by
          obtain ⟨e, he, hb'⟩ := List.any_eq_true.1 hj
          simp only [Bool.and_eq_true] at hb'
          have heon := Nat.eq_of_beq_eq_true hb'.2
          have hj' := hdep e (by simpa using he) hb'.1
          have hlt := edgesBack_spec hb ho e (by simpa using he) hb'.1
          rw [heon] at hj' hlt
          exact hR j (by omega) hj') K (fun v w' h1 h2 h3 => by rw [put]; exact hK _ _ (next v w' h1 h2 h3))).out
        rw [fr_put]
        rcases hh with ⟨h1, h2⟩ | ⟨h1, h2⟩
        · rw [h1]; exact h2.out
        · rw [h1]; exact h2
  have h0 : putAll (slots (fr n l) (ops.take m).toArray) 0 (ops.take m) (fr n l) = fr n l := putAll_self _ _ 0 _ (fun i o ho t ht => by simp only [Nat.zero_add, slots]; rw [show (ops.take m).toArray[i]? = some o by simpa using ho]; simp [ht])
  have := main ops.length (Array.replicate ops.length false) (slots (fr n l) (ops.take m).toArray) w.drew (by simp) (by simp) (Shut.start _ _) (fun j _ hj => by simp [hj]) hG (fun i _ hi => by
    exfalso
    rcases Nat.lt_or_ge i ops.length with h' | h' <;> simp [h'] at hi)
  rw [h0] at this
  simpa using this
theorem w_ogc {id : Nat} {ops : List Oper} (m : Nat) (G : World → Prop) (sp : List (Value → World → Prop)) (fs : List Nat) (hm : P.follows .mixedOrders = true)
  (hb : edgesBack .any ops.toArray = true) (hd : dstsApart (ops.take m) = true) (hc : chainB ops m fs = true) (hl : Nat.ble m ops.length = true) (hf : floatB ops m fs = true) (hns : Region.noSelect ops.toArray = true)
  (hlate : ∀ i, i ∈ fs → LateC P ops Q n l m sp i) (hG : G w.drew) (hs : Each (OgC P ops Q n l m G sp) 0 (ops.take m))
  (hend : ∀ f w', G w' → (∀ i, Nat.blt i m = true → spQ sp i (f i) w') → WL P ops.toArray Q (ops.drop m) n (asg f 0 (ops.take m) l) w') : WC P (Code.region id ops.toArray true) Q n l w :=
 ⟨wp_region_any hm (a_ogc m G sp fs hb hd hc hl hf hns hlate hG hs hend)⟩
theorem latec_nil {ops : List Oper} {m : Nat} {sp : List (Value → World → Prop)} : ∀ i, i ∈ ([] : List Nat) → LateC P ops Q n l m sp i := fun _ h => by cases h
variable {o : Oper}
theorem oc_eq {ol : List Oper} {m : Nat} {G : World → Prop} {sp : List (Value → World → Prop)} {i : Nat} (v : Value) (hs : spQ sp i = vq v) (hg : ∀ w w', G w → Mo w w' → G w') (hm : Smos sp)
  (h : ∀ f w, G w → (∀ j, depb o j = true → spQ sp j (f j) w) → ∀ K : Act → World → Prop, (∀ w', Mo w w' → K (fr n (ext (asg f 0 (ol.take m) l) o.dst v)) w') → Go1 P ol Q n (asg f 0 (ol.take m) l) w K o) : OgC P ol Q n l m G sp i o :=
 ⟨fun f w hG hd K hK => h f w hG hd K (fun w' hmo => hK v w' (hg w w' hG hmo) (by rw [hs]; rfl) (fun j u _ hr => hm j u w w' hr hmo))⟩
end
end Go.Proofs.YtnffhcjmpjajlaaDoor

namespace Go.Proofs.YtnffhcjmpjajlaaDoor
open Go.RowKit D
theorem foldl_inv {I : List S5 → Prop} {f : List S5 → Se → List S5} : ∀ (l : List Se) (b : List S5), I b → (∀ k ∈ l, ∀ a, I a → I (f a k)) → I (l.foldl f b)
 | [], _, h, _ => h
 | x :: l, b, h, hs => by rw [List.foldl_cons]; exact foldl_inv l _ (hs x (List.mem_cons_self ..) b h) (fun k hk => hs k (List.mem_cons_of_mem _ hk))
theorem flt_ls {W : World} : ∀ (s : Se), LSe W s → ∀ (acc : List S5) (p dp : Int), (∀ x ∈ acc, LS5 W x) → ∀ x ∈ flt s acc p dp, LS5 W x := by
 refine Se.ind2 ?_
 intro s ih hL acc p dp ha
 rw [flt_eq]
 split
 ·exact ha
 ·refine foldl_inv (I := fun a => ∀ x ∈ a, LS5 W x) s.kids _ (fun x hx => ?_) (fun k hk a hA => ih k hk (hL.kr k hk) a _ _ hA)
  rcases List.mem_append.1 hx with h | h
  ·exact ha x h
  ·rw [List.mem_singleton.1 h]; exact ⟨hL.it, hL.ex⟩
theorem Wf.snoc {L : List S5} (h : Wf L) {x : S5} (h1 : x.pr < L.length) (h2 : -1 ≤ x.pr) (h3 : 0 < L.length → 0 ≤ x.pr) : Wf (L ++ [x]) := fun i y hy => by
 rcases Nat.lt_or_ge i L.length with q | q
 ·rw [List.getElem?_append_left q] at hy; exact h i y hy
 ·have hi : i = L.length := by have := lt_of_get hy; simp at this; omega
  subst hi
  simp at hy
  subst hy
  exact ⟨h1, h2, h3⟩
theorem flt_wf : ∀ (s : Se) (acc : List S5) (p dp : Int), Wf acc → p < acc.length → -1 ≤ p → (0 < acc.length → 0 ≤ p) → Wf (flt s acc p dp) ∧ acc.length ≤ (flt s acc p dp).length := by
 refine Se.ind2 ?_
 intro s ih acc p dp hw h1 h2 h3
 rw [flt_eq]
 split
 ·exact ⟨hw, Nat.le_refl _⟩
 ·have h0 : Wf (acc ++ [(⟨p, dp, s.nm, s.mx, s.pi, s.ci, s.items⟩ : S5)]) ∧ acc.length < (acc ++ [(⟨p, dp, s.nm, s.mx, s.pi, s.ci, s.items⟩ : S5)]).length := ⟨hw.snoc h1 h2 h3, by simp⟩
  have := foldl_inv (I := fun a => Wf a ∧ acc.length < a.length) (f := fun a k => flt k a acc.length (dp + 1)) s.kids _ h0 (fun k hk a hA => by
   have := ih k hk a acc.length (dp + 1) hA.1 (by omega) (by omega) (fun _ => by omega)
   exact ⟨this.1, by omega⟩)
  exact ⟨this.1, by omega⟩
def fla (d : Df) : List S5 := flt d.rt [] (-1) 1
theorem fla_len (d : Df) : (fla d).length ≤ 64 := flt_len _ _ _ _ (by simp)
theorem Wf.nil : Wf [] := fun i x h => by simp at h
theorem fla_wf (d : Df) : Wf (fla d) := (flt_wf d.rt [] (-1) 1 Wf.nil (by simp) (by omega) (fun h => by simp at h)).1
theorem fla_pos (d : Df) : 0 < (fla d).length := by
 unfold fla
 rw [flt_eq, if_neg (by simp)]
 refine foldl_inv (I := fun a => Wf a ∧ 0 < a.length) d.rt.kids _ ⟨Wf.nil.snoc (by simp) (by simp) (fun h => by simp at h), by simp⟩ (fun k _ a hA => ?_) |>.2
 have := flt_wf k a ([] : List S5).length (1 + 1) hA.1 (by simpa using hA.2) (by simp) (fun _ => by simp)
 exact ⟨this.1, by omega⟩
theorem stI_00 (L : List S5) : stI L 0 0 = fun _ => [] := by
 funext j; unfold stI
 rw [if_neg (Nat.not_lt_zero _)]
 split <;> rfl
theorem stK_00 (L : List S5) : stK L 0 = fun _ => [] := rfl
/-! What newChecker lays. -/
structure NW (wA w : World) (kc : Nat) (MI : List Nat) (ip : Option Addr) (ic : Nat) (KI : List Nat) (kp : Option Addr) (kk : Nat) : Prop where
 mo : Mo wA w
 ri : w.ownsRow wA.heap.size 108 1 (.slice ip MI.length ic) MI.length (MI.flatMap mpc)
 rk : w.ownsRow wA.heap.size 108 1 (.slice kp KI.length kk) KI.length (KI.flatMap mpc)
 oi : (Value.slice ip MI.length ic).ownBlock ≠ some kc
 ok : (Value.slice kp KI.length kk).ownBlock ≠ some kc
 ik : ∀ j, (Value.slice ip MI.length ic).ownBlock = some j → (Value.slice kp KI.length kk).ownBlock ≠ some j
 om : ∀ b ∈ MI ++ KI, OM w b [] ∧ wA.heap.size ≤ b
 nd : (MI ++ KI).Nodup
section
variable {wA w w' : World} {kc : Nat} {MI KI : List Nat} {ip kp : Option Addr} {ic kk : Nat}
theorem NW.mv (h : NW wA w kc MI ip ic KI kp kk) (m : Mo w w') : NW wA w' kc MI ip ic KI kp kk :=
 ⟨h.mo.trans m, own_mo h.ri m, own_mo h.rk m, h.oi, h.ok, h.ik, fun b hb => ⟨(h.om b hb).1.mo m, (h.om b hb).2⟩, h.nd⟩
theorem NW.st (h : NW wA w kc MI ip ic KI kp kk) (m : Mk (fun j => j = kc) w w') (hk : wA.heap.size ≤ kc) {v : Value} {vs : List Value} (hA : At w kc (v :: vs)) : NW wA w' kc MI ip ic KI kp kk :=
 ⟨m.mo h.mo (fun k e => by rw [e]; exact hk), own_mk h.ri m (fun k e q => h.oi (by rw [e, q])), own_mk h.rk m (fun k e q => h.ok (by rw [e, q])), h.oi, h.ok, h.ik, fun b hb => ⟨(h.om b hb).1.mk m (fun e => by
  have h1 := (h.om b hb).1.nocell 0
  have h2 := hA.1 0 v rfl
  rw [e] at h1
  rw [h1] at h2
  cases h2), (h.om b hb).2⟩, h.nd⟩
theorem own_om {e sz : Nat} {v : Value} {n N g : Nat} {xs : List Value} (h : w.ownsRow N e sz v n xs) (hg : v.ownBlock = some g) {al : List (ByteArray × Int)} (hO : OM w g al) : False := by
 obtain ⟨D0, ⟨es, clock, hb, _⟩, _⟩ := hO
 rcases h.2 with ⟨rfl, rfl⟩ | ⟨g', cap, cur, rfl, _, hb', _⟩
 ·cases hg
 ·cases hg
  rw [hb] at hb'
  cases hb'
theorem nodup_snoc {MI KI : List Nat} {b : Nat} (h : (MI ++ KI).Nodup) (hb : b ∉ MI ++ KI) : (MI ++ [b] ++ KI).Nodup := by
 have : (MI ++ [b] ++ KI).Perm (b :: (MI ++ KI)) := by rw [List.append_assoc]; exact List.perm_middle
 exact this.nodup_iff.2 (List.nodup_cons.2 ⟨hb, h⟩)
theorem nodup_snoc2 {MI KI : List Nat} {b : Nat} (h : (MI ++ KI).Nodup) (hb : b ∉ MI ++ KI) : (MI ++ (KI ++ [b])).Nodup := by
 have : (MI ++ (KI ++ [b])).Perm (b :: (MI ++ KI)) := by rw [← List.append_assoc]; exact List.perm_append_comm
 exact this.nodup_iff.2 (List.nodup_cons.2 ⟨hb, h⟩)
theorem NW.appI (h : NW wA w kc MI ip ic KI kp kk) {b : Nat} (hO : OM w b []) (hb : b ∉ MI ++ KI) (hbA : wA.heap.size ≤ b) (hkc : kc < w.heap.size) {v : Value} (hOw : w'.ownsRow wA.heap.size 108 1 v (MI.length + 1) (MI.flatMap mpc ++ [.map (some b)])) (m : Mk (fun j => (Value.slice ip MI.length ic).ownBlock = some j) w w') (hbk : v.ownBlock = (Value.slice ip MI.length ic).ownBlock ∨ v.ownBlock = some w.heap.size) :
  ∃ ip1 ic1, v = .slice ip1 (MI ++ [b]).length ic1 ∧ NW wA w' kc (MI ++ [b]) ip1 ic1 KI kp kk := by
 obtain ⟨ip1, ic1, rfl, _⟩ := own_form hOw
 have e : MI.length + 1 = (MI ++ [b]).length := by simp
 rw [e] at hOw hbk
 refine ⟨ip1, ic1, by rw [e], m.mo h.mo (fun k q => (own_lt h.ri q).2), by simpa using hOw, own_mk h.rk m (fun k q1 q2 => h.ik k q2 q1), fun q => ?_, h.ok, fun j q1 q2 => ?_, fun c hc => ?_, nodup_snoc h.nd hb⟩
 ·rcases hbk with r | r
  ·exact h.oi (r.symm.trans q)
  ·have := Option.some.inj (r.symm.trans q); omega
 ·rcases hbk with r | r
  ·exact h.ik j (r.symm.trans q1) q2
  ·have := Option.some.inj (r.symm.trans q1); have := (own_lt h.rk q2).1; omega
 ·have hc2 : c = b ∨ c ∈ MI ++ KI := by simp at hc ⊢; rcases hc with q | q | q <;> simp [q]
  rcases hc2 with rfl | q
  ·exact ⟨hO.mk m (fun q => own_om h.ri q hO), hbA⟩
  ·exact ⟨(h.om c q).1.mk m (fun r => own_om h.ri r (h.om c q).1), (h.om c q).2⟩
theorem NW.appK (h : NW wA w kc MI ip ic KI kp kk) {b : Nat} (hO : OM w b []) (hb : b ∉ MI ++ KI) (hbA : wA.heap.size ≤ b) (hkc : kc < w.heap.size) {v : Value} (hOw : w'.ownsRow wA.heap.size 108 1 v (KI.length + 1) (KI.flatMap mpc ++ [.map (some b)])) (m : Mk (fun j => (Value.slice kp KI.length kk).ownBlock = some j) w w') (hbk : v.ownBlock = (Value.slice kp KI.length kk).ownBlock ∨ v.ownBlock = some w.heap.size) :
  ∃ kp1 kk1, v = .slice kp1 (KI ++ [b]).length kk1 ∧ NW wA w' kc MI ip ic (KI ++ [b]) kp1 kk1 := by
 obtain ⟨kp1, kk1, rfl, _⟩ := own_form hOw
 have e : KI.length + 1 = (KI ++ [b]).length := by simp
 rw [e] at hOw hbk
 refine ⟨kp1, kk1, by rw [e], m.mo h.mo (fun k q => (own_lt h.rk q).2), own_mk h.ri m (fun k q1 q2 => h.ik k q1 q2), by simpa using hOw, h.oi, fun q => ?_, fun j q1 q2 => ?_, fun c hc => ?_, nodup_snoc2 h.nd hb⟩
 ·rcases hbk with r | r
  ·exact h.ok (r.symm.trans q)
  ·have := Option.some.inj (r.symm.trans q); omega
 ·rcases hbk with r | r
  ·exact h.ik j q1 (r.symm.trans q2)
  ·have := Option.some.inj (r.symm.trans q2); have := (own_lt h.ri q1).1; omega
 ·have hc2 : c = b ∨ c ∈ MI ++ KI := by simp at hc ⊢; rcases hc with q | q | q <;> simp [q]
  rcases hc2 with rfl | q
  ·exact ⟨hO.mk m (fun q => own_om h.rk q hO), hbA⟩
  ·exact ⟨(h.om c q).1.mk m (fun r => own_om h.rk r (h.om c q).1), (h.om c q).2⟩
theorem NW.new (wA : World) (kc : Nat) {w : World} (m : Mo wA w) : NW wA w kc [] none 0 [] none 0 :=
 ⟨m, ⟨rfl, Or.inl ⟨rfl, rfl⟩⟩, ⟨rfl, Or.inl ⟨rfl, rfl⟩⟩, by simp [Value.ownBlock], by simp [Value.ownBlock], fun j q => by simp [Value.ownBlock] at q, fun b hb => by simp at hb, by simp⟩
end
section
variable {P : Program} {o : Oper} {n : Nat} {l : List (Nat × Value)} {w : World} {Q : Exit → Act → World → Prop} {K : Act → World → Prop}
theorem wo_callx (g : FuncId) (xs : List Operand) (ats : Array TypeId) (args : List Value) {F : Ending → World → Prop} (ho : o.op = .call { callee := .value (.func g), args := xs.toArray, argTypes := ats }) (hx : xs.map (evl n l) = args)
  (h : ∀ args w, (callFunc g args).run P w = .ok (.enter g args) w)
  (hc : Calls P g args.toArray w F) (hk : ∀ v w', F v w' → ∃ u, v = .returned u ∧ K (fr n (ext l o.dst u)) w') : WO P o n l w K Q := by
 have e : (execOp (evl n l) o).run P w = .ok (.enter g args.toArray) w := by
  obtain ⟨dst, op, ty, pos, after, guard⟩ := o
  simp only at ho
  subst ho hx
  have e2 := execOp_call_go (fr n l) dst g xs.toArray ats ty pos after guard
  rw [fr_eval] at e2
  rw [e2, h]
  simp
 refine ⟨?_⟩
 unfold Oper.wp; rw [fr_eval, e, Oper.upon_enter]
 refine hc.mono ?_
 intro e w' hF
 obtain ⟨u, rfl, hW⟩ := hk e w' hF
 show K _ _
 rw [fr_put]
 exact hW
theorem wo_mm (t : TypeId) (ho : o.op = .makeMap t none)
  (hk : ∀ b w', w.heap.size = b → w'.heap.size = b + 1 → Mo w w' → OM w' b [] → K (fr n (ext l o.dst (.map (some b)))) w') : WO Tryd.prog o n l w K Q := by
 refine ⟨o_val (.map (some w.heap.size)) (w' := w.alloc (.map #[] 0)) ?_ (hk _ _ rfl (by simp) (Mo.allocm w) (OM.new w))⟩
 simp [execOp, ho, mm_run]
end
end Go.Proofs.YtnffhcjmpjajlaaDoor

