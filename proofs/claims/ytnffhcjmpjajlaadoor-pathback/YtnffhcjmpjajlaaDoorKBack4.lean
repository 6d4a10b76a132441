/-
  A part of the proof.
-/
import Derived.Test.YtnffhcjmpjajlaaDoorKBack3
import Derived.Test.YtnffhcjmpjajlaaDoorKBack2
import Derived.Test.YtnffhcjmpjajlaaDoorKBack1
import Derived.Test.YtnffhcjmpjajlaaDoorKa16
import Derived.Test.YtnffhcjmpjajlaaDoorKa15
import Derived.Test.YtnffhcjmpjajlaaDoorKa13
import Derived.Test.YtnffhcjmpjajlaaDoorKa11
import Derived.Test.YtnffhcjmpjajlaaDoorKa10
import Derived.Test.YtnffhcjmpjajlaaDoorKa6
import Derived.Test.YtnffhcjmpjajlaaDoorKa5
import Derived.Test.YtnffhcjmpjajlaaDoorKa4
import Derived.Test.YtnffhcjmpjajlaaDoorKa3
import Derived.Test.YtnffhcjmpjajlaaDoorKa2
import Derived.Test.YtnffhcjmpjajlaaDoorKa1
import Derived.RegionTactic
import Derived.Test.YtnffhcjmpjajlaaDoorProg
import Derived.WalkKit
import Derived.WalkSpells
import Derived.Handy
import Derived.BigQuiet
import Derived.Deep.RegionHeld3
import Derived.Deep.MidRow
import Derived.BigCall
import Derived.ChangeKeysEq
import Derived.Shelf.Small.Bits
import Derived.Shelf.Strconv.Itoa0
import Derived.Shelf.Bits.Mul64
import Derived.Deep.CutRange
import Derived.Deep.CutBlock
import Derived.ScopeJumps
import Derived.WalkMore
import Derived.Laws.StructEq
import Derived.Lib.CutLaws
import Derived.Maps.OwnSet
import Derived.WalkArith
import Derived.StringKeys
import Derived.ProofKit
import Derived.OpenShut
import Derived.ChangeArms
import Derived.Deep.Slices
import Derived.ReadAgain
import Derived.WideKeyArgs
import Derived.Maps.AppendAt
import Derived.Test.YtnffhcjmpjajlaaDoorKa9
import Derived.Test.YtnffhcjmpjajlaaDoorKa7
import Derived.Shelf.Strconv.Itoa4
import Derived.Test.YtnffhcjmpjajlaaDoorKa8
import Derived.Lib.IndexBytes
import Derived.Lib.AppendIntMem
import Derived.Lib.ItoaLen
import Derived.Laws.MakeOwn
import Derived.Test.YtnffhcjmpjajlaaDoorKa12
import Derived.Test.YtnffhcjmpjajlaaDoorKa14
namespace Go.Proofs.YtnffhcjmpjajlaaDoor
open Go.RowKit D
theorem flat_n (s : Se) {w : World} (hL : LSe w s) : Calls Tryd.prog 57 #[.agg (s.cells).toArray] w fun e w' => ∃ pa cap, e = .returned (.slice pa (flt s [] (-1) 1).length cap) ∧ Mo w w' ∧ w'.ownsRow w.heap.size 65 5 (.slice pa (flt s [] (-1) 1).length cap) (flt s [] (-1) 1).length ((flt s [] (-1) 1).flatMap S5.cells) := by
 refine w_enter 10 Tryd.func57 Tryd.ntmps57 rfl rfl ?_
 have M : Mo w w := Mo.refl _
 refine w_seq (w_reg ?_)
 refine wl_box 45 (.tmp 0) _ (((s.cells).toArray)) rfl rfl (fun _ => by kernel_rfl) rfl ?_
 intro k1 w1 hk hz hq Q1
 have N_k1 : w.heap.size ≤ k1 := by have := M.size; omega
 replace M := M.trans hq
 clear hk hz hq
 refine wl_m (.const (.slice none 0 0)) (.slice none 0 0) ?_
 refine w_nil (xn_then (w_seq (w_reg ?_)))
 refine wl_alloc 22 #[.slice none 0 0] rfl (fun _ => by kernel_rfl) rfl ?_
 intro k2 w2 hk hz hq Q2
 have ne_k1_k2 : k1 ≠ k2 := by have := Q1.lt; omega
 have N_k2 : w.heap.size ≤ k2 := by have := M.size; omega
 replace Q1 := Q1.mo hq
 replace M := M.trans hq
 clear hk hz hq
 refine w_nil (xn_then (w_seq (w_reg ?_)))
 refine wl_alloc 134 #[.nilFunc] rfl (fun _ => by kernel_rfl) rfl ?_
 intro k3 w3 hk hz hq Q3
 have ne_k1_k3 : k1 ≠ k3 := by have := Q1.lt; omega
 have ne_k2_k3 : k2 ≠ k3 := by have := Q2.lt; omega
 have N_k3 : w.heap.size ≤ k3 := by have := M.size; omega
 replace Q1 := Q1.mo hq
 replace Q2 := Q2.mo hq
 replace M := M.trans hq
 clear hk hz hq
 refine w_nil (xn_then (w_seq (w_reg ?_)))
 refine wl_mf (.func 72) [] [(.tmp 3), (.tmp 4)] [] [pt k2 0, pt k3 0] rfl rfl rfl rfl ?_
 refine wl_st1 134 (.tmp 4) (.tmp 5) k3 0 (.func (.func 72) #[] #[pt k2 0, pt k3 0]) _ [.func (.func 72) #[] #[pt k2 0, pt k3 0]] Q3 rfl rfl rfl rfl rfl sz134 rfl rfl rfl rfl ?_
 intro w4 hS Qn
 replace Q3 := Qn
 clear Qn
 replace Q1 := hS.other _ _ ne_k1_k3 Q1
 replace Q2 := hS.other _ _ ne_k2_k3 Q2
 replace M := hS.mo _ N_k3 M
 clear hS
 refine w_nil (xn_then (w_seq (w_reg ?_)))
 refine wl_l 134 (.tmp 4) (pt k3 0) (.func (.func 72) #[] #[pt k2 0, pt k3 0]) (run_one Q3 134 0 rfl Tryd.underlying134 rfl) ?_
 refine wl_l 45 (.tmp 1) (pt k1 0) (.agg (s.cells).toArray) (run_row Q1 45 0 4 (s.cells) rfl Tryd.underlying45 rfl sz45) ?_
 have hG3 : GA w w4 k2 k3 none 0 [] := ⟨M, Q2, Q3, ⟨rfl, Or.inl ⟨rfl, rfl⟩⟩, fun k e => by cases e⟩
 refine wl_callv 72 (.tmp 6) #[] #[pt k2 0, pt k3 0] [(.tmp 7), (.const (.int .i64 (-1))), (.const (.int .i64 (1)))] _ [.agg (s.cells).toArray, .int .i64 (-1), .int .i64 (1)] [.agg (s.cells).toArray, .int .i64 (-1), .int .i64 (1), pt k2 0, pt k3 0] rfl rfl rfl rfl (fun _ _ => by kernel_rfl) (gather_n ne_k2_k3 N_k2 s hL [] _ _ none 0 _ hG3 (by simp) (by omega) (by omega)) rfl ?_
 rintro e9 w5 ⟨rfl, pa, cap, hG4⟩
 refine ⟨_, rfl, ?_⟩
 have QF := hG4.la
 replace M := hG4.mo
 refine w_nil (xn_then (w_seq (w_reg ?_)))
 refine wl_l 22 (.tmp 3) (pt k2 0) (.slice pa (flt s [] (-1) 1).length cap) (run_one QF 22 0 rfl Tryd.underlying22 rfl) ?_
 refine wl_m (.tmp 9) (.slice pa (flt s [] (-1) 1).length cap) ?_
 refine w_nil (xn_then (w_ret ?_))
 exact w_ret1 _ (.slice pa (flt s [] (-1) 1).length cap) rfl rfl ⟨pa, cap, rfl, M, hG4.ow⟩
theorem ck_new {w wA w' : World} {d : Df} {kc tb : Nat} {sp ip kp : Option Addr} {sc ic kk : Nat} {MI KI : List Nat} (hD : LDf w d) (hMw : Mo w wA) (hSL : SL wA 5 S5.cells sp (fla d)) (hOt : OM wA tb []) (hN : NW wA w' kc MI ip ic KI kp kk) (hA : At w' kc (⟨kc, d, fla d, sp, sc, tb, MI, ip, ic, KI, kp, kk⟩ : Zc).cells) (h1 : MI.length = (fla d).length) (h2 : KI.length = (fla d).length) : CK w' ⟨kc, d, fla d, sp, sc, tb, MI, ip, ic, KI, kp, kk⟩ ⟨[], fun _ => [], fun _ => []⟩ := by
 have hz := fla_len d
 have m := hMw.trans hN.mo
 refine ⟨hA, hD.kp m.kp, hSL.kp hN.mo.kp, fun x hx => (flt_ls d.rt hD.rt [] _ _ (fun _ h => by cases h) x hx).kp m.kp, own_sl (cells := mpc) (fun _ => rfl) (by show MI.length ≤ _; rw [h1]; unfold maxLen; omega) hN.ri, own_sl (cells := mpc) (fun _ => rfl) (by show KI.length ≤ _; rw [h2]; unfold maxLen; omega) hN.rk, h1, h2, hOt.mo hN.mo, fun i b e => (hN.om b (List.mem_append_left _ (List.mem_of_getElem? e))).1, fun i b e => (hN.om b (List.mem_append_right _ (List.mem_of_getElem? e))).1, List.nodup_cons.2 ⟨fun h => ?_, hN.nd⟩, fla_wf d, fun i p h => by cases h⟩
 have := (hN.om tb h).2
 have := hOt.lt
 omega
theorem newck_n (d : Df) {w : World} (hD : LDf w d) : Calls Tryd.prog 42 #[.agg (d.cells).toArray] w fun e w' => ∃ z : Zc, e = .returned (pt z.cb 0) ∧ z.d = d ∧ z.L = fla d ∧ Mo w w' ∧ (∀ k, z.D k → w.heap.size ≤ k) ∧ CK w' z ⟨[], fun _ => [], fun _ => []⟩ := by
 refine w_enter 40 Tryd.func42 Tryd.ntmps42 rfl rfl ?_
 have M : Mo w w := Mo.refl _
 refine w_seq (w_reg ?_)
 refine wl_box 49 (.tmp 0) _ (((d.cells).toArray)) rfl rfl (fun _ => by kernel_rfl) rfl ?_
 intro k1 w1 hk hz hq Q1
 have N_k1 : w.heap.size ≤ k1 := by have := M.size; omega
 replace M := M.trans hq
 clear hk hz hq
 refine wl_m (.const (.pointer none)) (.pointer none) ?_
 refine w_nil (xn_then (w_seq ?_))
 have hsm : Smos [vq (.agg (d.cells).toArray), vq (pt k1 1), vq (.agg (d.rt.cells).toArray), fun u w9 => ∃ pa cap, u = .slice pa (fla d).length cap ∧ SL w9 5 S5.cells pa (fla d), fun u w9 => ∃ b, u = .map (some b) ∧ w.heap.size ≤ b ∧ OM w9 b []] := smos_cons (smo_vq _) (smos_cons (smo_vq _) (smos_cons (smo_vq _) (smos_cons (fun u a b ⟨pa, cap, h1, h2⟩ m => ⟨pa, cap, h1, h2.kp m.kp⟩) (smos_cons (fun u a b ⟨b9, h1, h2, h3⟩ m => ⟨b9, h1, h2, h3.mo m⟩) (smos_nil)))))
 have hgr : ∀ a b : World, Mo w1 a → Mo a b → Mo w1 b := fun _ _ h m => h.trans m
 refine w_ogc 5 (fun w9 => Mo w1 w9) [vq (.agg (d.cells).toArray), vq (pt k1 1), vq (.agg (d.rt.cells).toArray), fun u w9 => ∃ pa cap, u = .slice pa (fla d).length cap ∧ SL w9 5 S5.cells pa (fla d), fun u w9 => ∃ b, u = .map (some b) ∧ w.heap.size ≤ b ∧ OM w9 b []] [] (by kernel_rfl) (by kernel_rfl) (by kernel_rfl) (by kernel_rfl) rfl (by kernel_rfl) (by kernel_rfl) latec_nil ((Mo.refl _).drew) ?_ ?_
 ·refine ea_cons ?_ (ea_cons ?_ (ea_cons ?_ (ea_cons ?_ (ea_cons ?_ (ea_nil)))))
  ·exact oc_eq _ rfl hgr hsm (fun f wf hG9 hd K hK => have Q1 := Q1.mo hG9; go_run rfl (wo_load 49 (.tmp 1) (pt k1 0) (.agg (d.cells).toArray) rfl rfl (run_row Q1 49 0 7 (d.cells) rfl Tryd.underlying49 rfl sz49) (hK _ (Mo.refl _))))
  ·exact oc_eq _ rfl hgr hsm (fun f wf hG9 hd K hK => go_run rfl (wo_un (fun v => Instr.fieldAt 49 v 1) (.tmp 1) (pt k1 0) (pt k1 1) (fun _ => rfl) rfl (by kernel_rfl) (hK _ (Mo.refl _))))
  ·exact oc_eq _ rfl hgr hsm (fun f wf hG9 hd K hK => have Q1 := Q1.mo hG9; go_run rfl (wo_load 45 (.tmp 5) (pt k1 1) (.agg (d.rt.cells).toArray) rfl (hd 1 rfl) (run_row Q1 45 1 4 (d.rt.cells) rfl Tryd.underlying45 rfl sz45) (hK _ (Mo.refl _))))
  ·refine ⟨fun f wf hG9 hd K hK => ?_⟩
   refine go_run rfl (wo_callx 57 [(.tmp 6)] _ [.agg (d.rt.cells).toArray] rfl (li1 (hd 2 rfl)) (fun _ _ => by kernel_rfl) (flat_n d.rt (hD.rt.kp (M.trans hG9).kp)) ?_)
   rintro e9 w9 ⟨pa, cap, rfl, q1, q2⟩
   exact ⟨_, rfl, hK _ w9 (hG9.trans q1) ⟨pa, cap, rfl, own_sl (cells := S5.cells) (fun _ => rfl) (Nat.le_trans (fla_len d) (by decide)) q2⟩ (fun j u _ hr9 => hsm j u _ _ hr9 q1)⟩
  ·refine ⟨fun f wf hG9 hd K hK => ?_⟩
   exact go_run rfl (wo_mm 108 rfl (fun b9 w9 e9 z9 q1 q2 => hK _ w9 (hG9.trans q1) ⟨b9, rfl, by have := (M.trans hG9).size; omega, q2⟩ (fun j u _ hr9 => hsm j u _ _ hr9 q1)))
 intro f9 w2 hq hR9
 obtain ⟨sp, sc, e9s, hSL⟩ := hR9 3 rfl
 obtain ⟨tb, e9m, hNt, hOt⟩ := hR9 4 rfl
 replace Q1 := Q1.mo hq
 replace M := M.trans hq
 clear hq hsm hgr
 have hMw := M
 replace M : Mo w2 w2 := Mo.refl _
 refine wl_build 111 [(0, (.tmp 4)), (1, (.tmp 7)), (2, (.tmp 8))] [(0, .agg (d.cells).toArray), (1, .slice sp (fla d).length sc), (2, .map (some tb))] (.agg #[.string d.nm, .string d.rt.nm, .int .i64 d.rt.mx, .slice d.rt.pi d.rt.items.length d.rt.ci, .slice d.rt.pk d.rt.kids.length d.rt.ck, .slice d.pt d.tb.length d.ct, .slice d.pp d.pg.length d.cp, .slice sp (fla d).length sc, .map (some tb), .slice none 0 0, .slice none 0 0]) rfl (lp3 (hR9 0 rfl) e9s e9m) (by kernel_rfl) rfl ?_
 refine wl_box 111 (.tmp 9) _ (#[.string d.nm, .string d.rt.nm, .int .i64 d.rt.mx, .slice d.rt.pi d.rt.items.length d.rt.ci, .slice d.rt.pk d.rt.kids.length d.rt.ck, .slice d.pt d.tb.length d.ct, .slice d.pp d.pg.length d.cp, .slice sp (fla d).length sc, .map (some tb), .slice none 0 0, .slice none 0 0]) rfl rfl (fun _ => by kernel_rfl) rfl ?_
 intro k2 w3 hk hz hq Q2
 have ne_k1_k2 : k1 ≠ k2 := by have := Q1.lt; omega
 have N_k2 : w2.heap.size ≤ k2 := by have := M.size; omega
 replace Q1 := Q1.mo hq
 replace M := M.trans hq
 clear hk hz hq
 refine wl_m (.tmp 10) (pt k2 0) ?_
 refine w_nil (xn_then (w_seq (w_seq (w_reg ?_))))
 refine wl_m (.tmp 3) (pt k2 0) ?_
 refine wl_nc (.tmp 11) k2 0 rfl rfl rfl ?_
 refine wl_f 111 1 (.tmp 12) (pt k2 0) (pt k2 7) ?_
 refine wl_l 22 (.tmp 13) (pt k2 7) (.slice sp (fla d).length sc) (run_one Q2 22 7 rfl Tryd.underlying22 rfl) ?_
 refine wl_val (.int .i64 (((fla d).length : Nat) : Int)) (len22 _ _ _ _ _ (by exact rfl) _ _ _ _ _ _) rfl ?_
 refine wl_m (.const (.int .i64 (0))) (.int .i64 (0)) ?_
 refine w_nil (xn_then (w_block ?_))
 have hzl := fla_len d
 have hE0 : NW w2 w3 k2 [] none 0 [] none 0 := NW.new w2 k2 (by assumption)
 refine w_loop (fun m l w1 => ∃ i : Nat, m = (fla d).length - i ∧ i ≤ (fla d).length ∧ look l 3 = pt k2 0 ∧ look l 14 = .slice sp (fla d).length sc ∧ look l 15 = .int .i64 (((fla d).length : Nat) : Int) ∧ look l 16 = .int .i64 ((i : Nat) : Int) ∧ ∃ (MI : List Nat) (ip : Option Addr) (ic : Nat) (KI : List Nat) (kp : Option Addr) (kk : Nat), MI.length = i ∧ KI.length = i ∧ At w1 k2 (⟨k2, d, fla d, sp, sc, tb, MI, ip, ic, KI, kp, kk⟩ : Zc).cells ∧ NW w2 w1 k2 MI ip ic KI kp kk) _ ⟨0, rfl, Nat.zero_le _, rfl, rfl, rfl, rfl, ⟨[], none, 0, [], none, 0, rfl, rfl, Q2, hE0⟩⟩ ?_
 clear Q1 Q2 M
 rintro m l40 wl40 ⟨i, rfl, hi, e40_3, e40_14, e40_15, e40_i, hE⟩
 by_cases hil : i < (fla d).length
 ·skip
  have hid : decide (i < (fla d).length) = true := decide_eq_true hil
  obtain ⟨MI, ip, ic, KI, kp, kk, hmi, hki, QC, hN⟩ := hE
  have M := hN.mo
  replace QC : At wl40 k2 [.string d.nm, .string d.rt.nm, .int .i64 d.rt.mx, .slice d.rt.pi d.rt.items.length d.rt.ci, .slice d.rt.pk d.rt.kids.length d.rt.ck, .slice d.pt d.tb.length d.ct, .slice d.pp d.pg.length d.cp, .slice sp (fla d).length sc, .map (some tb), .slice ip MI.length ic, .slice kp KI.length kk] := QC
  refine w_seq (w_reg ?_)
  refine wl_bin (fun x y => do eqGuard .lss 3 (.tmp 16) (.tmp 15) x y; binOp .lss 3 x y) (.tmp 16) (.tmp 15) (.int .i64 ((i : Nat) : Int)) (.int .i64 (((fla d).length : Nat) : Int)) (.bool true) (fun _ => rfl) e40_i e40_15 (ltN hid _ _ _) rfl ?_
  refine w_nil (xn_then (w_seq (w_condT rfl (w_skip (xn_then (w_seq (w_block (w_seq (w_reg ?_)))))))))
  refine wl_mv (.tmp 3) (pt k2 0) (fun _ => rfl) e40_3 rfl ?_
  refine wl_mv (.tmp 3) (pt k2 0) (fun _ => rfl) e40_3 rfl ?_
  refine wl_nc (.tmp 19) k2 0 rfl rfl rfl ?_
  refine wl_f 111 3 (.tmp 20) (pt k2 0) (pt k2 9) ?_
  refine wl_l 109 (.tmp 21) (pt k2 9) (.slice ip MI.length ic) (run_one QC 109 9 rfl Tryd.underlying109 rfl) ?_
  refine wl_mm 108 rfl rfl ?_
  intro mb1 w41 hk hz9 hq hO_mb1
  have ne_k2_mb1 : k2 ≠ mb1 := by have := QC.lt; omega
  have nb_mb1 : mb1 ∉ MI ++ KI := fun h => by have := (hN.om mb1 h).1.lt; omega
  have N_mb1 : w2.heap.size ≤ mb1 := by have := M.size; omega
  replace QC := QC.mo hq
  replace hN := hN.mv hq
  replace M := M.trans hq
  clear hk hz9 hq
  refine wl_bs 109 1 [(0, (.tmp 23))] [(0, .map (some mb1))] #[.map (some mb1)] 108 rfl rfl (fun _ => by kernel_rfl) rfl ?_
  intro k3 w42 hk hz hq Q3
  have ne_k2_k3 : k2 ≠ k3 := by have := QC.lt; omega
  have N_k3 : w2.heap.size ≤ k3 := by have := M.size; omega
  replace QC := QC.mo hq
  replace hN := hN.mv hq
  replace hO_mb1 := hO_mb1.mo hq
  replace M := M.trans hq
  clear hk hz hq
  have ltc := QC.lt
  refine wl_app Tryd.underlying109 inf108 rfl (by decide) (.tmp 22) (.tmp 24) w2.heap.size (.slice ip MI.length ic) MI.length (MI.flatMap mpc) k3 1 1 [.map (some mb1)] rfl rfl rfl hN.ri rfl Q3 (fun u hu => by rw [List.mem_singleton.1 hu]; rfl) (by decide) (by unfold maxLen; first | omega | (simp; omega)) (by first | omega | (simp; omega)) M.size rfl ?_
  intro v9 w43 hOw hm9 hbk
  replace QC := hm9.at QC hN.oi
  obtain ⟨ip1, ic1, rfl, hN1⟩ := hN.appI hO_mb1 nb_mb1 N_mb1 ltc hOw hm9 hbk
  clear hN hOw hbk hm9 ltc
  have hN := hN1
  clear hN1
  replace M := hN.mo
  refine wl_nc (.tmp 18) k2 0 rfl rfl rfl ?_
  refine wl_f 111 3 (.tmp 26) (pt k2 0) (pt k2 9) ?_
  refine wl_stm1 109 (.tmp 27) (.tmp 25) k2 9 (.slice ip1 (MI ++ [mb1]).length ic1) [.string d.nm, .string d.rt.nm, .int .i64 d.rt.mx, .slice d.rt.pi d.rt.items.length d.rt.ci, .slice d.rt.pk d.rt.kids.length d.rt.ck, .slice d.pt d.tb.length d.ct, .slice d.pp d.pg.length d.cp, .slice sp (fla d).length sc, .map (some tb), .slice ip MI.length ic, .slice kp KI.length kk] [.string d.nm, .string d.rt.nm, .int .i64 d.rt.mx, .slice d.rt.pi d.rt.items.length d.rt.ci, .slice d.rt.pk d.rt.kids.length d.rt.ck, .slice d.pt d.tb.length d.ct, .slice d.pp d.pg.length d.cp, .slice sp (fla d).length sc, .map (some tb), .slice ip1 (MI ++ [mb1]).length ic1, .slice kp KI.length kk] QC rfl rfl rfl rfl rfl sz109 rfl rfl rfl rfl ?_
  intro w44 hS hm9 Qn
  replace hN := hN.st hm9 N_k2 QC
  replace QC := Qn
  clear Qn hS hm9
  replace M := hN.mo
  refine w_nil (xn_then (w_reg ?_))
  refine wl_mv (.tmp 3) (pt k2 0) (fun _ => rfl) e40_3 rfl ?_
  refine wl_mv (.tmp 3) (pt k2 0) (fun _ => rfl) e40_3 rfl ?_
  refine wl_nc (.tmp 29) k2 0 rfl rfl rfl ?_
  refine wl_f 111 4 (.tmp 30) (pt k2 0) (pt k2 10) ?_
  refine wl_l 109 (.tmp 31) (pt k2 10) (.slice kp KI.length kk) (run_one QC 109 10 rfl Tryd.underlying109 rfl) ?_
  refine wl_mm 108 rfl rfl ?_
  intro mb2 w45 hk hz9 hq hO_mb2
  have ne_k2_mb2 : k2 ≠ mb2 := by have := QC.lt; omega
  have nb_mb2 : mb2 ∉ (MI ++ [mb1]) ++ KI := fun h => by have := (hN.om mb2 h).1.lt; omega
  have N_mb2 : w2.heap.size ≤ mb2 := by have := M.size; omega
  replace QC := QC.mo hq
  replace hN := hN.mv hq
  replace M := M.trans hq
  clear hk hz9 hq
  refine wl_bs 109 1 [(0, (.tmp 33))] [(0, .map (some mb2))] #[.map (some mb2)] 108 rfl rfl (fun _ => by kernel_rfl) rfl ?_
  intro k4 w46 hk hz hq Q4
  have ne_k2_k4 : k2 ≠ k4 := by have := QC.lt; omega
  have N_k4 : w2.heap.size ≤ k4 := by have := M.size; omega
  replace QC := QC.mo hq
  replace hN := hN.mv hq
  replace hO_mb2 := hO_mb2.mo hq
  replace M := M.trans hq
  clear hk hz hq
  have ltc := QC.lt
  refine wl_app Tryd.underlying109 inf108 rfl (by decide) (.tmp 32) (.tmp 34) w2.heap.size (.slice kp KI.length kk) KI.length (KI.flatMap mpc) k4 1 1 [.map (some mb2)] rfl rfl rfl hN.rk rfl Q4 (fun u hu => by rw [List.mem_singleton.1 hu]; rfl) (by decide) (by unfold maxLen; first | omega | (simp; omega)) (by first | omega | (simp; omega)) M.size rfl ?_
  intro v9 w47 hOw hm9 hbk
  replace QC := hm9.at QC hN.ok
  obtain ⟨kp1, kk1, rfl, hN1⟩ := hN.appK hO_mb2 nb_mb2 N_mb2 ltc hOw hm9 hbk
  clear hN hOw hbk hm9 ltc
  have hN := hN1
  clear hN1
  replace M := hN.mo
  refine wl_nc (.tmp 28) k2 0 rfl rfl rfl ?_
  refine wl_f 111 4 (.tmp 36) (pt k2 0) (pt k2 10) ?_
  refine wl_stm1 109 (.tmp 37) (.tmp 35) k2 10 (.slice kp1 (KI ++ [mb2]).length kk1) [.string d.nm, .string d.rt.nm, .int .i64 d.rt.mx, .slice d.rt.pi d.rt.items.length d.rt.ci, .slice d.rt.pk d.rt.kids.length d.rt.ck, .slice d.pt d.tb.length d.ct, .slice d.pp d.pg.length d.cp, .slice sp (fla d).length sc, .map (some tb), .slice ip1 (MI ++ [mb1]).length ic1, .slice kp KI.length kk] [.string d.nm, .string d.rt.nm, .int .i64 d.rt.mx, .slice d.rt.pi d.rt.items.length d.rt.ci, .slice d.rt.pk d.rt.kids.length d.rt.ck, .slice d.pt d.tb.length d.ct, .slice d.pp d.pg.length d.cp, .slice sp (fla d).length sc, .map (some tb), .slice ip1 (MI ++ [mb1]).length ic1, .slice kp1 (KI ++ [mb2]).length kk1] QC rfl rfl rfl rfl rfl sz109 rfl rfl rfl rfl ?_
  intro w48 hS hm9 Qn
  replace hN := hN.st hm9 N_k2 QC
  replace QC := Qn
  clear Qn hS hm9
  replace M := hN.mo
  refine w_nil (xn_blk (xn_then (w_reg ?_)))
  refine wl_bin (fun x y => do eqGuard .add 3 (.tmp 16) (.const (.int .i64 (1))) x y; binOp .add 3 x y) (.tmp 16) (.const (.int .i64 (1))) (.int .i64 ((i : Nat) : Int)) (.int .i64 (1)) (.int .i64 ((i + 1 : Nat) : Int)) (fun _ => rfl) e40_i rfl (add1r (k := i) (by omega) _ _ _) rfl ?_
  refine wl_m (.tmp 38) (.int .i64 ((i + 1 : Nat) : Int)) ?_
  refine w_nil ?_
  exact xn_loop ((fla d).length - (i + 1)) (by omega) ⟨i + 1, rfl, by omega, e40_3, e40_14, e40_15, rfl, ⟨_, _, _, _, _, _, by simp; omega, by simp; omega, QC, hN⟩⟩
 ·skip
  have hid : decide (i < (fla d).length) = false := decide_eq_false hil
  have hie : i = (fla d).length := by omega
  obtain ⟨MI, ip, ic, KI, kp, kk, hmi, hki, QC, hN⟩ := hE
  have M := hN.mo
  refine w_seq (w_reg ?_)
  refine wl_bin (fun x y => do eqGuard .lss 3 (.tmp 16) (.tmp 15) x y; binOp .lss 3 x y) (.tmp 16) (.tmp 15) (.int .i64 ((i : Nat) : Int)) (.int .i64 (((fla d).length : Nat) : Int)) (.bool false) (fun _ => rfl) e40_i e40_15 (ltN hid _ _ _) rfl ?_
  refine w_nil (xn_then (w_seq (w_condF rfl (w_exit (xx_then (xx_then (xx_blk (xn_then (w_seq (w_reg ?_))))))))))
  refine wl_mv (.tmp 3) (pt k2 0) (fun _ => rfl) e40_3 rfl ?_
  refine wl_m (.tmp 39) (pt k2 0) ?_
  refine w_nil (xn_then (w_ret ?_))
  exact w_ret1 _ (pt k2 0) rfl rfl ⟨⟨k2, d, fla d, sp, sc, tb, MI, ip, ic, KI, kp, kk⟩, rfl, rfl, rfl, hMw.trans M, (fun k hk => by rcases List.mem_cons.1 hk with e | hk; exact (by rw [e]; exact hNt); exact Nat.le_trans hMw.size (hN.om k hk).2), ck_new hD hMw hSL hOt hN QC (by omega) (by omega)⟩
end Go.Proofs.YtnffhcjmpjajlaaDoor

namespace Go.Proofs.YtnffhcjmpjajlaaDoor
open Go.RowKit D
def Pk (o : Option (Value × Int)) : Prop := ∀ q, o = some q → (∃ k s i t p : Int, q.1 = plc k s i t p) ∧ q.2 ≠ 0
theorem Pk.er (k s i t p e : Int) : Pk (erY (plc k s i t p) e) := fun q hq => by
 unfold Go.Proofs.YtnffhcjmpjajlaaDoor.erY at hq
 split at hq
 ·cases hq
 ·rename_i h
  cases hq
  exact ⟨⟨k, s, i, t, p, rfl⟩, h⟩
theorem Pk.none : Pk none := fun q hq => by cases hq
theorem Pk.bind {α : Type} {o : Option α} {f : α → Option (Value × Int)} (h : ∀ x, Pk (f x)) : Pk (o.bind f) := fun q hq => by
 cases o with
 | none => cases hq
 | some x => exact h x q hq
theorem Pk.fs {g : Nat → Option (Value × Int)} (h : ∀ j, Pk (g j)) (N : Nat) : Pk ((List.range N).findSome? g) := fun q hq => by
 obtain ⟨j, _, hj⟩ := List.exists_of_findSome?_eq_some hq
 exact h j q hj
theorem Pk.or {a b : Option (Value × Int)} (ha : Pk a) (hb : Pk b) : Pk (a.or b) := fun q hq => by
 cases a with
 | none => exact hb q hq
 | some x => exact ha q hq
theorem Pk.ite {c : Prop} [Decidable c] {a b : Option (Value × Int)} (ha : Pk a) (hb : Pk b) : Pk (if c then a else b) := by
 split
 ·exact ha
 ·exact hb
theorem pk_tb (l : List Tb) : Pk (tbR l) := Pk.fs (fun _ => Pk.bind (fun _ => Pk.er _ _ _ _ _ _)) _
theorem pk_se (T : List (ByteArray × Int)) (L : List S5) : Pk (seR T L) := Pk.fs (fun _ => Pk.bind (fun _ => Pk.or (Pk.er _ _ _ _ _ _) (Pk.fs (fun _ => Pk.bind (fun _ => Pk.er _ _ _ _ _ _)) _))) _
theorem pk_one (k s i t p e : Int) (h : e ≠ 0) : Pk (some (plc k s i t p, e)) := fun q hq => by cases hq; exact ⟨⟨k, s, i, t, p, rfl⟩, h⟩
theorem pk_fo (L : List S5) (A : Al) : Pk (foR L A) := Pk.fs (fun _ => Pk.fs (fun _ => Pk.bind (fun _ => Pk.ite (pk_one _ _ _ _ _ _ (by decide)) Pk.none)) _) _
theorem pk_pg (L : List S5) (A : Al) (l : List Pg) : Pk (pgR L A l) := Pk.fs (fun _ => Pk.bind (fun _ => Pk.er _ _ _ _ _ _)) _
theorem Pk.some {o : Option (Value × Int)} (h : Pk o) (hs : o.isNone = false) : ∃ k s i t p e : Int, o = some (plc k s i t p, e) ∧ e ≠ 0 := by
 cases o with
 | none => cases hs
 | some q =>
  obtain ⟨⟨k, s, i, t, p, h1⟩, h2⟩ := h q rfl
  exact ⟨k, s, i, t, p, q.2, by rw [← h1], h2⟩
theorem isnn {α : Type} {o : Option α} (h : o.isNone = true) : o = none := by cases o with | none => rfl | some _ => cases h
def alF (d : Df) : Al := ⟨tbA d.tb d.tb.length, stI (fla d) (fla d).length 0, stK (fla d) (fla d).length⟩
def chk (d : Df) : Option (Value × Int) := (erY (plc 0 0 0 0 0) (whE d (fla d))).or ((tbR d.tb).or ((seR (tbA d.tb d.tb.length) (fla d)).or ((foR (fla d) (alF d)).or (pgR (fla d) (alF d) d.pg))))
theorem whE_0 {d : Df} {L : List S5} (h : whE d L = 0) : d.tb.length ≤ 8 ∧ d.pg.length ≤ 16 ∧ L.length ≤ 16 := by
 unfold whE at h
 split at h
 ·split at h
  ·cases h
  ·rename_i h2
   simp [tms] at h2
   omega
 ·cases h
theorem check_n (d : Df) {w : World} (hD : LDf w d) : Calls Tryd.prog 25 #[.agg (d.cells).toArray] w fun e w' => e = .returned (rv (chk d)) ∧ Mo w w' := by
 refine w_enter 38 Tryd.func25 Tryd.ntmps25 rfl rfl ?_
 have M : Mo w w := Mo.refl _
 refine w_seq (w_reg ?_)
 refine wl_box 49 (.tmp 0) _ (((d.cells).toArray)) rfl rfl (fun _ => by kernel_rfl) rfl ?_
 intro k1 w1 hk hz hq Q1
 have N_k1 : w.heap.size ≤ k1 := by have := M.size; omega
 replace M := M.trans hq
 clear hk hz hq
 refine wl_alloc 52 #[.int .i64 0, .int .i64 0, .int .i64 0, .int .i64 0, .int .i64 0] rfl (fun _ => by kernel_rfl) rfl ?_
 intro k2 w2 hk hz hq Q2
 have ne_k1_k2 : k1 ≠ k2 := by have := Q1.lt; omega
 have N_k2 : w.heap.size ≤ k2 := by have := M.size; omega
 replace Q1 := Q1.mo hq
 replace M := M.trans hq
 clear hk hz hq
 refine wl_m (.const (.int .i64 (0))) (.int .i64 (0)) ?_
 refine w_nil (xn_then (w_seq (w_reg ?_)))
 refine wl_l 49 (.tmp 1) (pt k1 0) (.agg (d.cells).toArray) (run_row Q1 49 0 7 (d.cells) rfl Tryd.underlying49 rfl sz49) ?_
 refine wl_callx 42 [(.tmp 9)] _ [.agg (d.cells).toArray] rfl rfl (fun _ _ => by kernel_rfl) (newck_n d (hD.kp M.kp)) rfl ?_
 rintro e9 w3 ⟨z, rfl, hzd, hzL, hq, hzD, hC⟩
 refine ⟨_, rfl, ?_⟩
 replace Q1 := Q1.mo hq
 replace Q2 := Q2.mo hq
 replace hzD : ∀ k, z.D k → w.heap.size ≤ k := fun k hk => by have := hzD k hk; have := M.size; omega
 have MK : Mk (fun _ => False) w w3 := Mk.of _ (M.trans hq)
 clear M hq
 subst hzd
 obtain ⟨AL, hAL⟩ : ∃ AL : Al, AL = alF z.d := ⟨_, rfl⟩
 have M : Mo w3 w3 := Mo.refl _
 refine wl_m (.tmp 10) (pt z.cb 0) ?_
 refine w_nil (xn_then (w_seq (w_seq (w_reg ?_))))
 refine wl_m (.tmp 4) (pt z.cb 0) ?_
 refine wl_mf (.func 43) [(.tmp 11)] [] [pt z.cb 0] [] rfl rfl rfl rfl ?_
 refine wl_m (.tmp 4) (pt z.cb 0) ?_
 refine wl_mf (.func 44) [(.tmp 13)] [] [pt z.cb 0] [] rfl rfl rfl rfl ?_
 refine wl_m (.tmp 4) (pt z.cb 0) ?_
 refine wl_mf (.func 45) [(.tmp 15)] [] [pt z.cb 0] [] rfl rfl rfl rfl ?_
 refine wl_m (.tmp 4) (pt z.cb 0) ?_
 refine wl_mf (.func 46) [(.tmp 17)] [] [pt z.cb 0] [] rfl rfl rfl rfl ?_
 refine wl_m (.tmp 4) (pt z.cb 0) ?_
 refine wl_mf (.func 47) [(.tmp 19)] [] [pt z.cb 0] [] rfl rfl rfl rfl ?_
 refine wl_bs 98 5 [(0, (.tmp 12)), (1, (.tmp 14)), (2, (.tmp 16)), (3, (.tmp 18)), (4, (.tmp 20))] [(0, .func (.func 43) #[pt z.cb 0] #[]), (1, .func (.func 44) #[pt z.cb 0] #[]), (2, .func (.func 45) #[pt z.cb 0] #[]), (3, .func (.func 46) #[pt z.cb 0] #[]), (4, .func (.func 47) #[pt z.cb 0] #[])] #[.func (.func 43) #[pt z.cb 0] #[], .func (.func 44) #[pt z.cb 0] #[], .func (.func 45) #[pt z.cb 0] #[], .func (.func 46) #[pt z.cb 0] #[], .func (.func 47) #[pt z.cb 0] #[]] 97 rfl rfl (fun _ => by kernel_rfl) rfl ?_
 intro k3 w4 hk hz hq Q3
 have ne_k1_k3 : k1 ≠ k3 := by have := Q1.lt; omega
 have ne_k2_k3 : k2 ≠ k3 := by have := Q2.lt; omega
 have N_k3 : w3.heap.size ≤ k3 := by have := M.size; omega
 replace Q1 := Q1.mo hq
 replace Q2 := Q2.mo hq
 replace M := M.trans hq
 clear hk hz hq
 refine wl_val (.int .i64 (5)) (len98 _ _ _ 5 _ (by exact rfl) _ _ _ _ _ _) rfl ?_
 refine wl_m (.const (.int .i64 (0))) (.int .i64 (0)) ?_
 refine w_nil (xn_then (w_block ?_))
 refine w_rounds 6 ?_
 refine w_seq (w_reg ?_)
 refine wl_b .lss 3 (.tmp 23) (.tmp 22) (.int .i64 (0)) (.int .i64 (5)) (.bool true) (lt3 (r := true) rfl _ _ _) ?_
 refine w_nil (xn_then (w_seq (w_condT rfl (w_skip (xn_then (w_seq (w_block (w_seq (w_reg ?_)))))))))
 refine wl_bin (fun x y => Instr.indexAt 98 x y) (.tmp 21) (.tmp 23) (.slice (some ⟨k3, 0, none⟩) 5 5) (.int .i64 (0)) (pt k3 0) (fun _ => rfl) rfl rfl (ix98 (i := 0) rfl (by decide) _) rfl ?_
 refine wl_l 97 (.tmp 25) (pt k3 0) (.func (.func 43) #[pt z.cb 0] #[]) (run_one Q3 97 0 rfl Tryd.underlying97 rfl) ?_
 refine wl_m (.tmp 26) (.func (.func 43) #[pt z.cb 0] #[]) ?_
 refine w_nil (xn_then (w_seq (w_reg ?_)))
 refine wl_m (.tmp 6) (.func (.func 43) #[pt z.cb 0] #[]) ?_
 refine wl_callv 43 (.tmp 28) #[pt z.cb 0] #[] [] _ [] [pt z.cb 0] rfl rfl rfl rfl (fun _ _ => by kernel_rfl) (whole_n (hC.mo M)) rfl ?_
 rintro e9 w5 ⟨rfl, hq⟩
 refine ⟨_, rfl, ?_⟩
 replace Q1 := Q1.mo hq
 replace Q2 := Q2.mo hq
 replace Q3 := Q3.mo hq
 replace M := M.trans hq
 clear hq
 refine wl_m (.tmp 29) (.tuple #[.agg #[.int .i64 (0), .int .i64 (0), .int .i64 (0), .int .i64 (0), .int .i64 (0)], .int .i64 (whE z.d z.L)]) ?_
 refine wl_un (fun v => Instr.extract v 0) (.tmp 27) (.tuple #[.agg #[.int .i64 (0), .int .i64 (0), .int .i64 (0), .int .i64 (0), .int .i64 (0)], .int .i64 (whE z.d z.L)]) (.agg #[.int .i64 (0), .int .i64 (0), .int .i64 (0), .int .i64 (0), .int .i64 (0)]) (fun _ => rfl) rfl (by kernel_rfl) rfl ?_
 refine wl_un (fun v => Instr.extract v 1) (.tmp 27) (.tuple #[.agg #[.int .i64 (0), .int .i64 (0), .int .i64 (0), .int .i64 (0), .int .i64 (0)], .int .i64 (whE z.d z.L)]) (.int .i64 (whE z.d z.L)) (fun _ => rfl) rfl (by kernel_rfl) rfl ?_
 refine wl_alloc 52 #[.int .i64 0, .int .i64 0, .int .i64 0, .int .i64 0, .int .i64 0] rfl (fun _ => by kernel_rfl) rfl ?_
 intro k4 w6 hk hz hq Q4
 have ne_k1_k4 : k1 ≠ k4 := by have := Q1.lt; omega
 have ne_k2_k4 : k2 ≠ k4 := by have := Q2.lt; omega
 have ne_k3_k4 : k3 ≠ k4 := by have := Q3.lt; omega
 have N_k4 : w3.heap.size ≤ k4 := by have := M.size; omega
 replace Q1 := Q1.mo hq
 replace Q2 := Q2.mo hq
 replace Q3 := Q3.mo hq
 replace M := M.trans hq
 clear hk hz hq
 refine wl_st 52 (.tmp 7) (.tmp 30) k4 0 #[.int .i64 (0), .int .i64 (0), .int .i64 (0), .int .i64 (0), .int .i64 (0)] _ [.int .i64 (0), .int .i64 (0), .int .i64 (0), .int .i64 (0), .int .i64 (0)] Q4 rfl rfl rfl rfl rfl sz52 rfl rfl rfl ?_
 intro w7 hS Qn
 replace Q4 := Qn
 clear Qn
 replace Q1 := hS.other _ _ ne_k1_k4 Q1
 replace Q2 := hS.other _ _ ne_k2_k4 Q2
 replace Q3 := hS.other _ _ ne_k3_k4 Q3
 replace M := hS.mo _ N_k4 M
 clear hS
 refine wl_m (.tmp 31) (.int .i64 (whE z.d z.L)) ?_
 refine w_nil (xn_then (w_seq (w_reg ?_)))
 refine wl_m (.tmp 8) (.int .i64 (whE z.d z.L)) ?_
 cases hf0 : decide (whE z.d z.L = 0) with
 | true =>
  have hf0p := of_decide_eq_true hf0
  refine wl_b .neq 31 (.tmp 32) (.const (.int .i64 (0))) (.int .i64 (whE z.d z.L)) (.int .i64 (0)) (.bool false) (ne34 hf0 _ _ _) ?_
  refine w_nil (xn_then (w_condF rfl (w_skip (xn_blk (xn_then (w_reg ?_))))))
  refine wl_b .add 3 (.tmp 23) (.const (.int .i64 (1))) (.int .i64 (0)) (.int .i64 (1)) (.int .i64 (1)) (by kernel_rfl) ?_
  refine wl_m (.tmp 36) (.int .i64 (1)) ?_
  refine w_nil ?_
  refine xn_rounds ?_
  refine w_seq (w_reg ?_)
  refine wl_b .lss 3 (.tmp 23) (.tmp 22) (.int .i64 (1)) (.int .i64 (5)) (.bool true) (lt3 (r := true) rfl _ _ _) ?_
  refine w_nil (xn_then (w_seq (w_condT rfl (w_skip (xn_then (w_seq (w_block (w_seq (w_reg ?_)))))))))
  refine wl_bin (fun x y => Instr.indexAt 98 x y) (.tmp 21) (.tmp 23) (.slice (some ⟨k3, 0, none⟩) 5 5) (.int .i64 (1)) (pt k3 1) (fun _ => rfl) rfl rfl (ix98 (i := 1) rfl (by decide) _) rfl ?_
  refine wl_l 97 (.tmp 25) (pt k3 1) (.func (.func 44) #[pt z.cb 0] #[]) (run_one Q3 97 1 rfl Tryd.underlying97 rfl) ?_
  refine wl_m (.tmp 26) (.func (.func 44) #[pt z.cb 0] #[]) ?_
  refine w_nil (xn_then (w_seq (w_reg ?_)))
  refine wl_m (.tmp 6) (.func (.func 44) #[pt z.cb 0] #[]) ?_
  cases hf1 : (tbR z.d.tb).isNone with
  | true =>
   have ho31 := isnn hf1
   have hcn := tables_n (hC.mo M) (whE_0 hf0p).1
   rw [ho31] at hcn
   refine wl_callv 44 (.tmp 28) #[pt z.cb 0] #[] [] _ [] [pt z.cb 0] rfl rfl rfl rfl (fun _ _ => by kernel_rfl) hcn rfl ?_
   rintro x9 w8 ⟨rfl, hK9, hC9⟩
   refine ⟨_, rfl, ?_⟩
   replace Q1 := Q1.kp (hK9.kp (fun j hj => hC.nocell hj M)) hK9.fz
   replace Q2 := Q2.kp (hK9.kp (fun j hj => hC.nocell hj M)) hK9.fz
   replace Q3 := Q3.kp (hK9.kp (fun j hj => hC.nocell hj M)) hK9.fz
   replace Q4 := Q4.kp (hK9.kp (fun j hj => hC.nocell hj M)) hK9.fz
   replace MK := (MK.trans M).tr hK9 (fun j hj e => by have := hzD j e; omega)
   clear M hcn
   have M : Mo w8 w8 := Mo.refl _
   have hC1 := hC9 rfl
   clear hC9 hK9
   refine wl_m (.tmp 29) (.tuple #[.agg #[.int .i64 (0), .int .i64 (0), .int .i64 (0), .int .i64 (0), .int .i64 (0)], .int .i64 (0)]) ?_
   refine wl_un (fun v => Instr.extract v 0) (.tmp 27) (.tuple #[.agg #[.int .i64 (0), .int .i64 (0), .int .i64 (0), .int .i64 (0), .int .i64 (0)], .int .i64 (0)]) (.agg #[.int .i64 (0), .int .i64 (0), .int .i64 (0), .int .i64 (0), .int .i64 (0)]) (fun _ => rfl) rfl (by kernel_rfl) rfl ?_
   refine wl_un (fun v => Instr.extract v 1) (.tmp 27) (.tuple #[.agg #[.int .i64 (0), .int .i64 (0), .int .i64 (0), .int .i64 (0), .int .i64 (0)], .int .i64 (0)]) (.int .i64 (0)) (fun _ => rfl) rfl (by kernel_rfl) rfl ?_
   refine wl_alloc 52 #[.int .i64 0, .int .i64 0, .int .i64 0, .int .i64 0, .int .i64 0] rfl (fun _ => by kernel_rfl) rfl ?_
   intro k5 w9 hk hz hq Q5
   have ne_k1_k5 : k1 ≠ k5 := by have := Q1.lt; omega
   have ne_k2_k5 : k2 ≠ k5 := by have := Q2.lt; omega
   have ne_k3_k5 : k3 ≠ k5 := by have := Q3.lt; omega
   have ne_k4_k5 : k4 ≠ k5 := by have := Q4.lt; omega
   have N_k5 : w8.heap.size ≤ k5 := by have := M.size; omega
   replace Q1 := Q1.mo hq
   replace Q2 := Q2.mo hq
   replace Q3 := Q3.mo hq
   replace Q4 := Q4.mo hq
   replace M := M.trans hq
   clear hk hz hq
   refine wl_st 52 (.tmp 7) (.tmp 30) k5 0 #[.int .i64 (0), .int .i64 (0), .int .i64 (0), .int .i64 (0), .int .i64 (0)] _ [.int .i64 (0), .int .i64 (0), .int .i64 (0), .int .i64 (0), .int .i64 (0)] Q5 rfl rfl rfl rfl rfl sz52 rfl rfl rfl ?_
   intro w10 hS Qn
   replace Q5 := Qn
   clear Qn
   replace Q1 := hS.other _ _ ne_k1_k5 Q1
   replace Q2 := hS.other _ _ ne_k2_k5 Q2
   replace Q3 := hS.other _ _ ne_k3_k5 Q3
   replace Q4 := hS.other _ _ ne_k4_k5 Q4
   replace M := hS.mo _ N_k5 M
   clear hS
   refine wl_m (.tmp 31) (.int .i64 (0)) ?_
   refine w_nil (xn_then (w_seq (w_reg ?_)))
   refine wl_m (.tmp 8) (.int .i64 (0)) ?_
   refine wl_b .neq 31 (.tmp 32) (.const (.int .i64 (0))) (.int .i64 (0)) (.int .i64 (0)) (.bool false) (ne34 (r := true) rfl _ _ _) ?_
   refine w_nil (xn_then (w_condF rfl (w_skip (xn_blk (xn_then (w_reg ?_))))))
   refine wl_b .add 3 (.tmp 23) (.const (.int .i64 (1))) (.int .i64 (1)) (.int .i64 (1)) (.int .i64 (2)) (by kernel_rfl) ?_
   refine wl_m (.tmp 36) (.int .i64 (2)) ?_
   refine w_nil ?_
   refine xn_rounds ?_
   refine w_seq (w_reg ?_)
   refine wl_b .lss 3 (.tmp 23) (.tmp 22) (.int .i64 (2)) (.int .i64 (5)) (.bool true) (lt3 (r := true) rfl _ _ _) ?_
   refine w_nil (xn_then (w_seq (w_condT rfl (w_skip (xn_then (w_seq (w_block (w_seq (w_reg ?_)))))))))
   refine wl_bin (fun x y => Instr.indexAt 98 x y) (.tmp 21) (.tmp 23) (.slice (some ⟨k3, 0, none⟩) 5 5) (.int .i64 (2)) (pt k3 2) (fun _ => rfl) rfl rfl (ix98 (i := 2) rfl (by decide) _) rfl ?_
   refine wl_l 97 (.tmp 25) (pt k3 2) (.func (.func 45) #[pt z.cb 0] #[]) (run_one Q3 97 2 rfl Tryd.underlying97 rfl) ?_
   refine wl_m (.tmp 26) (.func (.func 45) #[pt z.cb 0] #[]) ?_
   refine w_nil (xn_then (w_seq (w_reg ?_)))
   refine wl_m (.tmp 6) (.func (.func 45) #[pt z.cb 0] #[]) ?_
   cases hf2 : (seR (tbA z.d.tb z.d.tb.length) z.L).isNone with
   | true =>
    have ho32 := isnn hf2
    have hcn := sections_n (T := tbA z.d.tb z.d.tb.length) (by rw [stI_00, stK_00]; exact hC1.mo M) (by rw [hzL]; exact fla_len _)
    rw [ho32] at hcn
    refine wl_callv 45 (.tmp 28) #[pt z.cb 0] #[] [] _ [] [pt z.cb 0] rfl rfl rfl rfl (fun _ _ => by kernel_rfl) hcn rfl ?_
    rintro x9 w11 ⟨rfl, hK9, hC9⟩
    refine ⟨_, rfl, ?_⟩
    replace Q1 := Q1.kp (hK9.kp (fun j hj => hC1.nocell hj M)) hK9.fz
    replace Q2 := Q2.kp (hK9.kp (fun j hj => hC1.nocell hj M)) hK9.fz
    replace Q3 := Q3.kp (hK9.kp (fun j hj => hC1.nocell hj M)) hK9.fz
    replace Q4 := Q4.kp (hK9.kp (fun j hj => hC1.nocell hj M)) hK9.fz
    replace Q5 := Q5.kp (hK9.kp (fun j hj => hC1.nocell hj M)) hK9.fz
    replace MK := (MK.trans M).tr hK9 (fun j hj e => by have := hzD j e; omega)
    clear M hcn
    have M : Mo w11 w11 := Mo.refl _
    have hC2 := hC9 rfl
    rw [show (⟨tbA z.d.tb z.d.tb.length, stI z.L z.L.length 0, stK z.L z.L.length⟩ : Al) = AL by rw [hAL]; unfold alF; rw [← hzL]] at hC2
    clear hC9 hK9
    refine wl_m (.tmp 29) (.tuple #[.agg #[.int .i64 (0), .int .i64 (0), .int .i64 (0), .int .i64 (0), .int .i64 (0)], .int .i64 (0)]) ?_
    refine wl_un (fun v => Instr.extract v 0) (.tmp 27) (.tuple #[.agg #[.int .i64 (0), .int .i64 (0), .int .i64 (0), .int .i64 (0), .int .i64 (0)], .int .i64 (0)]) (.agg #[.int .i64 (0), .int .i64 (0), .int .i64 (0), .int .i64 (0), .int .i64 (0)]) (fun _ => rfl) rfl (by kernel_rfl) rfl ?_
    refine wl_un (fun v => Instr.extract v 1) (.tmp 27) (.tuple #[.agg #[.int .i64 (0), .int .i64 (0), .int .i64 (0), .int .i64 (0), .int .i64 (0)], .int .i64 (0)]) (.int .i64 (0)) (fun _ => rfl) rfl (by kernel_rfl) rfl ?_
    refine wl_alloc 52 #[.int .i64 0, .int .i64 0, .int .i64 0, .int .i64 0, .int .i64 0] rfl (fun _ => by kernel_rfl) rfl ?_
    intro k6 w12 hk hz hq Q6
    have ne_k1_k6 : k1 ≠ k6 := by have := Q1.lt; omega
    have ne_k2_k6 : k2 ≠ k6 := by have := Q2.lt; omega
    have ne_k3_k6 : k3 ≠ k6 := by have := Q3.lt; omega
    have ne_k4_k6 : k4 ≠ k6 := by have := Q4.lt; omega
    have ne_k5_k6 : k5 ≠ k6 := by have := Q5.lt; omega
    have N_k6 : w11.heap.size ≤ k6 := by have := M.size; omega
    replace Q1 := Q1.mo hq
    replace Q2 := Q2.mo hq
    replace Q3 := Q3.mo hq
    replace Q4 := Q4.mo hq
    replace Q5 := Q5.mo hq
    replace M := M.trans hq
    clear hk hz hq
    refine wl_st 52 (.tmp 7) (.tmp 30) k6 0 #[.int .i64 (0), .int .i64 (0), .int .i64 (0), .int .i64 (0), .int .i64 (0)] _ [.int .i64 (0), .int .i64 (0), .int .i64 (0), .int .i64 (0), .int .i64 (0)] Q6 rfl rfl rfl rfl rfl sz52 rfl rfl rfl ?_
    intro w13 hS Qn
    replace Q6 := Qn
    clear Qn
    replace Q1 := hS.other _ _ ne_k1_k6 Q1
    replace Q2 := hS.other _ _ ne_k2_k6 Q2
    replace Q3 := hS.other _ _ ne_k3_k6 Q3
    replace Q4 := hS.other _ _ ne_k4_k6 Q4
    replace Q5 := hS.other _ _ ne_k5_k6 Q5
    replace M := hS.mo _ N_k6 M
    clear hS
    refine wl_m (.tmp 31) (.int .i64 (0)) ?_
    refine w_nil (xn_then (w_seq (w_reg ?_)))
    refine wl_m (.tmp 8) (.int .i64 (0)) ?_
    refine wl_b .neq 31 (.tmp 32) (.const (.int .i64 (0))) (.int .i64 (0)) (.int .i64 (0)) (.bool false) (ne34 (r := true) rfl _ _ _) ?_
    refine w_nil (xn_then (w_condF rfl (w_skip (xn_blk (xn_then (w_reg ?_))))))
    refine wl_b .add 3 (.tmp 23) (.const (.int .i64 (1))) (.int .i64 (2)) (.int .i64 (1)) (.int .i64 (3)) (by kernel_rfl) ?_
    refine wl_m (.tmp 36) (.int .i64 (3)) ?_
    refine w_nil ?_
    refine xn_rounds ?_
    refine w_seq (w_reg ?_)
    refine wl_b .lss 3 (.tmp 23) (.tmp 22) (.int .i64 (3)) (.int .i64 (5)) (.bool true) (lt3 (r := true) rfl _ _ _) ?_
    refine w_nil (xn_then (w_seq (w_condT rfl (w_skip (xn_then (w_seq (w_block (w_seq (w_reg ?_)))))))))
    refine wl_bin (fun x y => Instr.indexAt 98 x y) (.tmp 21) (.tmp 23) (.slice (some ⟨k3, 0, none⟩) 5 5) (.int .i64 (3)) (pt k3 3) (fun _ => rfl) rfl rfl (ix98 (i := 3) rfl (by decide) _) rfl ?_
    refine wl_l 97 (.tmp 25) (pt k3 3) (.func (.func 46) #[pt z.cb 0] #[]) (run_one Q3 97 3 rfl Tryd.underlying97 rfl) ?_
    refine wl_m (.tmp 26) (.func (.func 46) #[pt z.cb 0] #[]) ?_
    refine w_nil (xn_then (w_seq (w_reg ?_)))
    refine wl_m (.tmp 6) (.func (.func 46) #[pt z.cb 0] #[]) ?_
    cases hf3 : (foR z.L AL).isNone with
    | true =>
     have ho33 := isnn hf3
     have hcn := formulas_n (A := AL) (hC2.mo M)
     rw [ho33] at hcn
     refine wl_callv 46 (.tmp 28) #[pt z.cb 0] #[] [] _ [] [pt z.cb 0] rfl rfl rfl rfl (fun _ _ => by kernel_rfl) hcn rfl ?_
     rintro x9 w14 ⟨rfl, hq⟩
     refine ⟨_, rfl, ?_⟩
     replace Q1 := Q1.mo hq
     replace Q2 := Q2.mo hq
     replace Q3 := Q3.mo hq
     replace Q4 := Q4.mo hq
     replace Q5 := Q5.mo hq
     replace Q6 := Q6.mo hq
     replace M := M.trans hq
     clear hq hcn
     refine wl_m (.tmp 29) (.tuple #[.agg #[.int .i64 (0), .int .i64 (0), .int .i64 (0), .int .i64 (0), .int .i64 (0)], .int .i64 (0)]) ?_
     refine wl_un (fun v => Instr.extract v 0) (.tmp 27) (.tuple #[.agg #[.int .i64 (0), .int .i64 (0), .int .i64 (0), .int .i64 (0), .int .i64 (0)], .int .i64 (0)]) (.agg #[.int .i64 (0), .int .i64 (0), .int .i64 (0), .int .i64 (0), .int .i64 (0)]) (fun _ => rfl) rfl (by kernel_rfl) rfl ?_
     refine wl_un (fun v => Instr.extract v 1) (.tmp 27) (.tuple #[.agg #[.int .i64 (0), .int .i64 (0), .int .i64 (0), .int .i64 (0), .int .i64 (0)], .int .i64 (0)]) (.int .i64 (0)) (fun _ => rfl) rfl (by kernel_rfl) rfl ?_
     refine wl_alloc 52 #[.int .i64 0, .int .i64 0, .int .i64 0, .int .i64 0, .int .i64 0] rfl (fun _ => by kernel_rfl) rfl ?_
     intro k7 w15 hk hz hq Q7
     have ne_k1_k7 : k1 ≠ k7 := by have := Q1.lt; omega
     have ne_k2_k7 : k2 ≠ k7 := by have := Q2.lt; omega
     have ne_k3_k7 : k3 ≠ k7 := by have := Q3.lt; omega
     have ne_k4_k7 : k4 ≠ k7 := by have := Q4.lt; omega
     have ne_k5_k7 : k5 ≠ k7 := by have := Q5.lt; omega
     have ne_k6_k7 : k6 ≠ k7 := by have := Q6.lt; omega
     have N_k7 : w11.heap.size ≤ k7 := by have := M.size; omega
     replace Q1 := Q1.mo hq
     replace Q2 := Q2.mo hq
     replace Q3 := Q3.mo hq
     replace Q4 := Q4.mo hq
     replace Q5 := Q5.mo hq
     replace Q6 := Q6.mo hq
     replace M := M.trans hq
     clear hk hz hq
     refine wl_st 52 (.tmp 7) (.tmp 30) k7 0 #[.int .i64 (0), .int .i64 (0), .int .i64 (0), .int .i64 (0), .int .i64 (0)] _ [.int .i64 (0), .int .i64 (0), .int .i64 (0), .int .i64 (0), .int .i64 (0)] Q7 rfl rfl rfl rfl rfl sz52 rfl rfl rfl ?_
     intro w16 hS Qn
     replace Q7 := Qn
     clear Qn
     replace Q1 := hS.other _ _ ne_k1_k7 Q1
     replace Q2 := hS.other _ _ ne_k2_k7 Q2
     replace Q3 := hS.other _ _ ne_k3_k7 Q3
     replace Q4 := hS.other _ _ ne_k4_k7 Q4
     replace Q5 := hS.other _ _ ne_k5_k7 Q5
     replace Q6 := hS.other _ _ ne_k6_k7 Q6
     replace M := hS.mo _ N_k7 M
     clear hS
     refine wl_m (.tmp 31) (.int .i64 (0)) ?_
     refine w_nil (xn_then (w_seq (w_reg ?_)))
     refine wl_m (.tmp 8) (.int .i64 (0)) ?_
     refine wl_b .neq 31 (.tmp 32) (.const (.int .i64 (0))) (.int .i64 (0)) (.int .i64 (0)) (.bool false) (ne34 (r := true) rfl _ _ _) ?_
     refine w_nil (xn_then (w_condF rfl (w_skip (xn_blk (xn_then (w_reg ?_))))))
     refine wl_b .add 3 (.tmp 23) (.const (.int .i64 (1))) (.int .i64 (3)) (.int .i64 (1)) (.int .i64 (4)) (by kernel_rfl) ?_
     refine wl_m (.tmp 36) (.int .i64 (4)) ?_
     refine w_nil ?_
     refine xn_rounds ?_
     refine w_seq (w_reg ?_)
     refine wl_b .lss 3 (.tmp 23) (.tmp 22) (.int .i64 (4)) (.int .i64 (5)) (.bool true) (lt3 (r := true) rfl _ _ _) ?_
     refine w_nil (xn_then (w_seq (w_condT rfl (w_skip (xn_then (w_seq (w_block (w_seq (w_reg ?_)))))))))
     refine wl_bin (fun x y => Instr.indexAt 98 x y) (.tmp 21) (.tmp 23) (.slice (some ⟨k3, 0, none⟩) 5 5) (.int .i64 (4)) (pt k3 4) (fun _ => rfl) rfl rfl (ix98 (i := 4) rfl (by decide) _) rfl ?_
     refine wl_l 97 (.tmp 25) (pt k3 4) (.func (.func 47) #[pt z.cb 0] #[]) (run_one Q3 97 4 rfl Tryd.underlying97 rfl) ?_
     refine wl_m (.tmp 26) (.func (.func 47) #[pt z.cb 0] #[]) ?_
     refine w_nil (xn_then (w_seq (w_reg ?_)))
     refine wl_m (.tmp 6) (.func (.func 47) #[pt z.cb 0] #[]) ?_
     cases hf4 : (pgR z.L AL z.d.pg).isNone with
     | true =>
      have ho34 := isnn hf4
      have hcn := pages_n (A := AL) (hC2.mo M) (by rw [hzL]; exact fla_pos _) (whE_0 hf0p).2.1
      rw [ho34] at hcn
      refine wl_callv 47 (.tmp 28) #[pt z.cb 0] #[] [] _ [] [pt z.cb 0] rfl rfl rfl rfl (fun _ _ => by kernel_rfl) hcn rfl ?_
      rintro x9 w17 ⟨rfl, hq⟩
      refine ⟨_, rfl, ?_⟩
      replace Q1 := Q1.mo hq
      replace Q2 := Q2.mo hq
      replace Q3 := Q3.mo hq
      replace Q4 := Q4.mo hq
      replace Q5 := Q5.mo hq
      replace Q6 := Q6.mo hq
      replace Q7 := Q7.mo hq
      replace M := M.trans hq
      clear hq hcn
      refine wl_m (.tmp 29) (.tuple #[.agg #[.int .i64 (0), .int .i64 (0), .int .i64 (0), .int .i64 (0), .int .i64 (0)], .int .i64 (0)]) ?_
      refine wl_un (fun v => Instr.extract v 0) (.tmp 27) (.tuple #[.agg #[.int .i64 (0), .int .i64 (0), .int .i64 (0), .int .i64 (0), .int .i64 (0)], .int .i64 (0)]) (.agg #[.int .i64 (0), .int .i64 (0), .int .i64 (0), .int .i64 (0), .int .i64 (0)]) (fun _ => rfl) rfl (by kernel_rfl) rfl ?_
      refine wl_un (fun v => Instr.extract v 1) (.tmp 27) (.tuple #[.agg #[.int .i64 (0), .int .i64 (0), .int .i64 (0), .int .i64 (0), .int .i64 (0)], .int .i64 (0)]) (.int .i64 (0)) (fun _ => rfl) rfl (by kernel_rfl) rfl ?_
      refine wl_alloc 52 #[.int .i64 0, .int .i64 0, .int .i64 0, .int .i64 0, .int .i64 0] rfl (fun _ => by kernel_rfl) rfl ?_
      intro k8 w18 hk hz hq Q8
      have ne_k1_k8 : k1 ≠ k8 := by have := Q1.lt; omega
      have ne_k2_k8 : k2 ≠ k8 := by have := Q2.lt; omega
      have ne_k3_k8 : k3 ≠ k8 := by have := Q3.lt; omega
      have ne_k4_k8 : k4 ≠ k8 := by have := Q4.lt; omega
      have ne_k5_k8 : k5 ≠ k8 := by have := Q5.lt; omega
      have ne_k6_k8 : k6 ≠ k8 := by have := Q6.lt; omega
      have ne_k7_k8 : k7 ≠ k8 := by have := Q7.lt; omega
      have N_k8 : w11.heap.size ≤ k8 := by have := M.size; omega
      replace Q1 := Q1.mo hq
      replace Q2 := Q2.mo hq
      replace Q3 := Q3.mo hq
      replace Q4 := Q4.mo hq
      replace Q5 := Q5.mo hq
      replace Q6 := Q6.mo hq
      replace Q7 := Q7.mo hq
      replace M := M.trans hq
      clear hk hz hq
      refine wl_st 52 (.tmp 7) (.tmp 30) k8 0 #[.int .i64 (0), .int .i64 (0), .int .i64 (0), .int .i64 (0), .int .i64 (0)] _ [.int .i64 (0), .int .i64 (0), .int .i64 (0), .int .i64 (0), .int .i64 (0)] Q8 rfl rfl rfl rfl rfl sz52 rfl rfl rfl ?_
      intro w19 hS Qn
      replace Q8 := Qn
      clear Qn
      replace Q1 := hS.other _ _ ne_k1_k8 Q1
      replace Q2 := hS.other _ _ ne_k2_k8 Q2
      replace Q3 := hS.other _ _ ne_k3_k8 Q3
      replace Q4 := hS.other _ _ ne_k4_k8 Q4
      replace Q5 := hS.other _ _ ne_k5_k8 Q5
      replace Q6 := hS.other _ _ ne_k6_k8 Q6
      replace Q7 := hS.other _ _ ne_k7_k8 Q7
      replace M := hS.mo _ N_k8 M
      clear hS
      refine wl_m (.tmp 31) (.int .i64 (0)) ?_
      refine w_nil (xn_then (w_seq (w_reg ?_)))
      refine wl_m (.tmp 8) (.int .i64 (0)) ?_
      refine wl_b .neq 31 (.tmp 32) (.const (.int .i64 (0))) (.int .i64 (0)) (.int .i64 (0)) (.bool false) (ne34 (r := true) rfl _ _ _) ?_
      refine w_nil (xn_then (w_condF rfl (w_skip (xn_blk (xn_then (w_reg ?_))))))
      refine wl_b .add 3 (.tmp 23) (.const (.int .i64 (1))) (.int .i64 (4)) (.int .i64 (1)) (.int .i64 (5)) (by kernel_rfl) ?_
      refine wl_m (.tmp 36) (.int .i64 (5)) ?_
      refine w_nil ?_
      refine xn_rounds ?_
      refine w_seq (w_reg ?_)
      refine wl_b .lss 3 (.tmp 23) (.tmp 22) (.int .i64 (5)) (.int .i64 (5)) (.bool false) (lt3 (r := false) rfl _ _ _) ?_
      refine w_nil (xn_then (w_seq (w_condF rfl (w_exit (xx_then (xx_then (xx_blk (xn_then (w_seq (w_reg ?_))))))))))
      refine wl_build 52 [] [] (.agg #[.int .i64 0, .int .i64 0, .int .i64 0, .int .i64 0, .int .i64 0]) rfl rfl (by kernel_rfl) rfl ?_
      refine wl_stm 52 (.tmp 2) (.tmp 37) k2 0 #[.int .i64 0, .int .i64 0, .int .i64 0, .int .i64 0, .int .i64 0] [.int .i64 0, .int .i64 0, .int .i64 0, .int .i64 0, .int .i64 0] [.int .i64 0, .int .i64 0, .int .i64 0, .int .i64 0, .int .i64 0] Q2 rfl rfl rfl rfl rfl sz52 rfl rfl rfl ?_
      intro w20 hS hm9 Qn
      replace Q2 := Qn
      clear Qn
      replace Q1 := hS.other _ _ ne_k1_k2 Q1
      replace Q3 := hS.other _ _ ne_k2_k3.symm Q3
      replace Q4 := hS.other _ _ ne_k2_k4.symm Q4
      replace Q5 := hS.other _ _ ne_k2_k5.symm Q5
      replace Q6 := hS.other _ _ ne_k2_k6.symm Q6
      replace Q7 := hS.other _ _ ne_k2_k7.symm Q7
      replace Q8 := hS.other _ _ ne_k2_k8.symm Q8
      have hmT := (Mk.of (fun j => j = k2) M).same hm9
      replace MK := (MK.trans M).tr hm9 (fun j hj e => by omega)
      clear M hS hm9
      have M : Mo w20 w20 := Mo.refl _
      refine wl_m (.const (.int .i64 (0))) (.int .i64 (0)) ?_
      refine w_nil (xn_then (w_ret ?_))
      exact w_ret2 _ _ (.agg #[.int .i64 0, .int .i64 0, .int .i64 0, .int .i64 0, .int .i64 0]) (.int .i64 (0)) rfl ⟨k2, rfl, (run_row Q2 52 0 5 _ rfl Tryd.underlying52 rfl sz52)⟩ rfl ⟨by unfold chk; rw [← hAL, ← hzL, er_0 hf0p, Option.none_or, ho31, Option.none_or, ho32, Option.none_or, ho33, Option.none_or, ho34]; rfl, (MK.trans M).mo (Mo.refl _) (fun _ h => h.elim)⟩
     | false =>
      obtain ⟨k9, s9, i9, t9, p9, e9, ho34, hne34⟩ := Pk.some (pk_pg _ _ _) hf4
      have hcn := pages_n (A := AL) (hC2.mo M) (by rw [hzL]; exact fla_pos _) (whE_0 hf0p).2.1
      rw [ho34] at hcn
      refine wl_callv 47 (.tmp 28) #[pt z.cb 0] #[] [] _ [] [pt z.cb 0] rfl rfl rfl rfl (fun _ _ => by kernel_rfl) hcn rfl ?_
      rintro x9 w17 ⟨rfl, hq⟩
      refine ⟨_, rfl, ?_⟩
      replace Q1 := Q1.mo hq
      replace Q2 := Q2.mo hq
      replace Q3 := Q3.mo hq
      replace Q4 := Q4.mo hq
      replace Q5 := Q5.mo hq
      replace Q6 := Q6.mo hq
      replace Q7 := Q7.mo hq
      replace M := M.trans hq
      clear hq hcn
      refine wl_m (.tmp 29) (.tuple #[.agg #[.int .i64 k9, .int .i64 s9, .int .i64 i9, .int .i64 t9, .int .i64 p9], .int .i64 (e9)]) ?_
      refine wl_un (fun v => Instr.extract v 0) (.tmp 27) (.tuple #[.agg #[.int .i64 k9, .int .i64 s9, .int .i64 i9, .int .i64 t9, .int .i64 p9], .int .i64 (e9)]) (.agg #[.int .i64 k9, .int .i64 s9, .int .i64 i9, .int .i64 t9, .int .i64 p9]) (fun _ => rfl) rfl (by kernel_rfl) rfl ?_
      refine wl_un (fun v => Instr.extract v 1) (.tmp 27) (.tuple #[.agg #[.int .i64 k9, .int .i64 s9, .int .i64 i9, .int .i64 t9, .int .i64 p9], .int .i64 (e9)]) (.int .i64 (e9)) (fun _ => rfl) rfl (by kernel_rfl) rfl ?_
      refine wl_alloc 52 #[.int .i64 0, .int .i64 0, .int .i64 0, .int .i64 0, .int .i64 0] rfl (fun _ => by kernel_rfl) rfl ?_
      intro k8 w18 hk hz hq Q8
      have ne_k1_k8 : k1 ≠ k8 := by have := Q1.lt; omega
      have ne_k2_k8 : k2 ≠ k8 := by have := Q2.lt; omega
      have ne_k3_k8 : k3 ≠ k8 := by have := Q3.lt; omega
      have ne_k4_k8 : k4 ≠ k8 := by have := Q4.lt; omega
      have ne_k5_k8 : k5 ≠ k8 := by have := Q5.lt; omega
      have ne_k6_k8 : k6 ≠ k8 := by have := Q6.lt; omega
      have ne_k7_k8 : k7 ≠ k8 := by have := Q7.lt; omega
      have N_k8 : w11.heap.size ≤ k8 := by have := M.size; omega
      replace Q1 := Q1.mo hq
      replace Q2 := Q2.mo hq
      replace Q3 := Q3.mo hq
      replace Q4 := Q4.mo hq
      replace Q5 := Q5.mo hq
      replace Q6 := Q6.mo hq
      replace Q7 := Q7.mo hq
      replace M := M.trans hq
      clear hk hz hq
      refine wl_st 52 (.tmp 7) (.tmp 30) k8 0 #[.int .i64 k9, .int .i64 s9, .int .i64 i9, .int .i64 t9, .int .i64 p9] _ [.int .i64 k9, .int .i64 s9, .int .i64 i9, .int .i64 t9, .int .i64 p9] Q8 rfl rfl rfl rfl rfl sz52 rfl rfl rfl ?_
      intro w19 hS Qn
      replace Q8 := Qn
      clear Qn
      replace Q1 := hS.other _ _ ne_k1_k8 Q1
      replace Q2 := hS.other _ _ ne_k2_k8 Q2
      replace Q3 := hS.other _ _ ne_k3_k8 Q3
      replace Q4 := hS.other _ _ ne_k4_k8 Q4
      replace Q5 := hS.other _ _ ne_k5_k8 Q5
      replace Q6 := hS.other _ _ ne_k6_k8 Q6
      replace Q7 := hS.other _ _ ne_k7_k8 Q7
      replace M := hS.mo _ N_k8 M
      clear hS
      refine wl_m (.tmp 31) (.int .i64 (e9)) ?_
      refine w_nil (xn_then (w_seq (w_reg ?_)))
      refine wl_m (.tmp 8) (.int .i64 (e9)) ?_
      refine wl_b .neq 31 (.tmp 32) (.const (.int .i64 (0))) (.int .i64 (e9)) (.int .i64 (0)) (.bool true) (ne34 (decide_eq_false hne34) _ _ _) ?_
      refine w_nil (xn_then (w_condT rfl (w_seq (w_reg ?_))))
      refine wl_l 52 (.tmp 7) (pt k8 0) (.agg #[.int .i64 k9, .int .i64 s9, .int .i64 i9, .int .i64 t9, .int .i64 p9]) (run_row Q8 52 0 5 _ rfl Tryd.underlying52 rfl sz52) ?_
      refine wl_m (.tmp 8) (.int .i64 (e9)) ?_
      refine wl_stm 52 (.tmp 2) (.tmp 34) k2 0 #[.int .i64 k9, .int .i64 s9, .int .i64 i9, .int .i64 t9, .int .i64 p9] [.int .i64 0, .int .i64 0, .int .i64 0, .int .i64 0, .int .i64 0] [.int .i64 k9, .int .i64 s9, .int .i64 i9, .int .i64 t9, .int .i64 p9] Q2 rfl rfl rfl rfl rfl sz52 rfl rfl rfl ?_
      intro w20 hS hm9 Qn
      replace Q2 := Qn
      clear Qn
      replace Q1 := hS.other _ _ ne_k1_k2 Q1
      replace Q3 := hS.other _ _ ne_k2_k3.symm Q3
      replace Q4 := hS.other _ _ ne_k2_k4.symm Q4
      replace Q5 := hS.other _ _ ne_k2_k5.symm Q5
      replace Q6 := hS.other _ _ ne_k2_k6.symm Q6
      replace Q7 := hS.other _ _ ne_k2_k7.symm Q7
      replace Q8 := hS.other _ _ ne_k2_k8.symm Q8
      have hmT := (Mk.of (fun j => j = k2) M).same hm9
      replace MK := (MK.trans M).tr hm9 (fun j hj e => by omega)
      clear M hS hm9
      have M : Mo w20 w20 := Mo.refl _
      refine wl_m (.tmp 35) (.int .i64 (e9)) ?_
      refine w_nil (xn_then (w_ret (xr_blk (xr_then (xr_then (xr_blk (xr_then ?_)))))))
      exact w_ret2 _ _ (.agg #[.int .i64 k9, .int .i64 s9, .int .i64 i9, .int .i64 t9, .int .i64 p9]) (.int .i64 (e9)) rfl ⟨k2, rfl, (run_row Q2 52 0 5 _ rfl Tryd.underlying52 rfl sz52)⟩ rfl ⟨by unfold chk; rw [← hAL, ← hzL, er_0 hf0p, Option.none_or, ho31, Option.none_or, ho32, Option.none_or, ho33, Option.none_or, ho34]; rfl, (MK.trans M).mo (Mo.refl _) (fun _ h => h.elim)⟩
    | false =>
     obtain ⟨k9, s9, i9, t9, p9, e9, ho33, hne33⟩ := Pk.some (pk_fo _ _) hf3
     have hcn := formulas_n (A := AL) (hC2.mo M)
     rw [ho33] at hcn
     refine wl_callv 46 (.tmp 28) #[pt z.cb 0] #[] [] _ [] [pt z.cb 0] rfl rfl rfl rfl (fun _ _ => by kernel_rfl) hcn rfl ?_
     rintro x9 w14 ⟨rfl, hq⟩
     refine ⟨_, rfl, ?_⟩
     replace Q1 := Q1.mo hq
     replace Q2 := Q2.mo hq
     replace Q3 := Q3.mo hq
     replace Q4 := Q4.mo hq
     replace Q5 := Q5.mo hq
     replace Q6 := Q6.mo hq
     replace M := M.trans hq
     clear hq hcn
     refine wl_m (.tmp 29) (.tuple #[.agg #[.int .i64 k9, .int .i64 s9, .int .i64 i9, .int .i64 t9, .int .i64 p9], .int .i64 (e9)]) ?_
     refine wl_un (fun v => Instr.extract v 0) (.tmp 27) (.tuple #[.agg #[.int .i64 k9, .int .i64 s9, .int .i64 i9, .int .i64 t9, .int .i64 p9], .int .i64 (e9)]) (.agg #[.int .i64 k9, .int .i64 s9, .int .i64 i9, .int .i64 t9, .int .i64 p9]) (fun _ => rfl) rfl (by kernel_rfl) rfl ?_
     refine wl_un (fun v => Instr.extract v 1) (.tmp 27) (.tuple #[.agg #[.int .i64 k9, .int .i64 s9, .int .i64 i9, .int .i64 t9, .int .i64 p9], .int .i64 (e9)]) (.int .i64 (e9)) (fun _ => rfl) rfl (by kernel_rfl) rfl ?_
     refine wl_alloc 52 #[.int .i64 0, .int .i64 0, .int .i64 0, .int .i64 0, .int .i64 0] rfl (fun _ => by kernel_rfl) rfl ?_
     intro k7 w15 hk hz hq Q7
     have ne_k1_k7 : k1 ≠ k7 := by have := Q1.lt; omega
     have ne_k2_k7 : k2 ≠ k7 := by have := Q2.lt; omega
     have ne_k3_k7 : k3 ≠ k7 := by have := Q3.lt; omega
     have ne_k4_k7 : k4 ≠ k7 := by have := Q4.lt; omega
     have ne_k5_k7 : k5 ≠ k7 := by have := Q5.lt; omega
     have ne_k6_k7 : k6 ≠ k7 := by have := Q6.lt; omega
     have N_k7 : w11.heap.size ≤ k7 := by have := M.size; omega
     replace Q1 := Q1.mo hq
     replace Q2 := Q2.mo hq
     replace Q3 := Q3.mo hq
     replace Q4 := Q4.mo hq
     replace Q5 := Q5.mo hq
     replace Q6 := Q6.mo hq
     replace M := M.trans hq
     clear hk hz hq
     refine wl_st 52 (.tmp 7) (.tmp 30) k7 0 #[.int .i64 k9, .int .i64 s9, .int .i64 i9, .int .i64 t9, .int .i64 p9] _ [.int .i64 k9, .int .i64 s9, .int .i64 i9, .int .i64 t9, .int .i64 p9] Q7 rfl rfl rfl rfl rfl sz52 rfl rfl rfl ?_
     intro w16 hS Qn
     replace Q7 := Qn
     clear Qn
     replace Q1 := hS.other _ _ ne_k1_k7 Q1
     replace Q2 := hS.other _ _ ne_k2_k7 Q2
     replace Q3 := hS.other _ _ ne_k3_k7 Q3
     replace Q4 := hS.other _ _ ne_k4_k7 Q4
     replace Q5 := hS.other _ _ ne_k5_k7 Q5
     replace Q6 := hS.other _ _ ne_k6_k7 Q6
     replace M := hS.mo _ N_k7 M
     clear hS
     refine wl_m (.tmp 31) (.int .i64 (e9)) ?_
     refine w_nil (xn_then (w_seq (w_reg ?_)))
     refine wl_m (.tmp 8) (.int .i64 (e9)) ?_
     refine wl_b .neq 31 (.tmp 32) (.const (.int .i64 (0))) (.int .i64 (e9)) (.int .i64 (0)) (.bool true) (ne34 (decide_eq_false hne33) _ _ _) ?_
     refine w_nil (xn_then (w_condT rfl (w_seq (w_reg ?_))))
     refine wl_l 52 (.tmp 7) (pt k7 0) (.agg #[.int .i64 k9, .int .i64 s9, .int .i64 i9, .int .i64 t9, .int .i64 p9]) (run_row Q7 52 0 5 _ rfl Tryd.underlying52 rfl sz52) ?_
     refine wl_m (.tmp 8) (.int .i64 (e9)) ?_
     refine wl_stm 52 (.tmp 2) (.tmp 34) k2 0 #[.int .i64 k9, .int .i64 s9, .int .i64 i9, .int .i64 t9, .int .i64 p9] [.int .i64 0, .int .i64 0, .int .i64 0, .int .i64 0, .int .i64 0] [.int .i64 k9, .int .i64 s9, .int .i64 i9, .int .i64 t9, .int .i64 p9] Q2 rfl rfl rfl rfl rfl sz52 rfl rfl rfl ?_
     intro w17 hS hm9 Qn
     replace Q2 := Qn
     clear Qn
     replace Q1 := hS.other _ _ ne_k1_k2 Q1
     replace Q3 := hS.other _ _ ne_k2_k3.symm Q3
     replace Q4 := hS.other _ _ ne_k2_k4.symm Q4
     replace Q5 := hS.other _ _ ne_k2_k5.symm Q5
     replace Q6 := hS.other _ _ ne_k2_k6.symm Q6
     replace Q7 := hS.other _ _ ne_k2_k7.symm Q7
     have hmT := (Mk.of (fun j => j = k2) M).same hm9
     replace MK := (MK.trans M).tr hm9 (fun j hj e => by omega)
     clear M hS hm9
     have M : Mo w17 w17 := Mo.refl _
     refine wl_m (.tmp 35) (.int .i64 (e9)) ?_
     refine w_nil (xn_then (w_ret (xr_blk (xr_then (xr_then (xr_blk (xr_then ?_)))))))
     exact w_ret2 _ _ (.agg #[.int .i64 k9, .int .i64 s9, .int .i64 i9, .int .i64 t9, .int .i64 p9]) (.int .i64 (e9)) rfl ⟨k2, rfl, (run_row Q2 52 0 5 _ rfl Tryd.underlying52 rfl sz52)⟩ rfl ⟨by unfold chk; rw [← hAL, ← hzL, er_0 hf0p, Option.none_or, ho31, Option.none_or, ho32, Option.none_or, ho33]; rfl, (MK.trans M).mo (Mo.refl _) (fun _ h => h.elim)⟩
   | false =>
    obtain ⟨k9, s9, i9, t9, p9, e9, ho32, hne32⟩ := Pk.some (pk_se _ _) hf2
    have hcn := sections_n (T := tbA z.d.tb z.d.tb.length) (by rw [stI_00, stK_00]; exact hC1.mo M) (by rw [hzL]; exact fla_len _)
    rw [ho32] at hcn
    refine wl_callv 45 (.tmp 28) #[pt z.cb 0] #[] [] _ [] [pt z.cb 0] rfl rfl rfl rfl (fun _ _ => by kernel_rfl) hcn rfl ?_
    rintro x9 w11 ⟨rfl, hK9, hC9⟩
    refine ⟨_, rfl, ?_⟩
    replace Q1 := Q1.kp (hK9.kp (fun j hj => hC1.nocell hj M)) hK9.fz
    replace Q2 := Q2.kp (hK9.kp (fun j hj => hC1.nocell hj M)) hK9.fz
    replace Q3 := Q3.kp (hK9.kp (fun j hj => hC1.nocell hj M)) hK9.fz
    replace Q4 := Q4.kp (hK9.kp (fun j hj => hC1.nocell hj M)) hK9.fz
    replace Q5 := Q5.kp (hK9.kp (fun j hj => hC1.nocell hj M)) hK9.fz
    replace MK := (MK.trans M).tr hK9 (fun j hj e => by have := hzD j e; omega)
    clear M hcn
    have M : Mo w11 w11 := Mo.refl _
    refine wl_m (.tmp 29) (.tuple #[.agg #[.int .i64 k9, .int .i64 s9, .int .i64 i9, .int .i64 t9, .int .i64 p9], .int .i64 (e9)]) ?_
    refine wl_un (fun v => Instr.extract v 0) (.tmp 27) (.tuple #[.agg #[.int .i64 k9, .int .i64 s9, .int .i64 i9, .int .i64 t9, .int .i64 p9], .int .i64 (e9)]) (.agg #[.int .i64 k9, .int .i64 s9, .int .i64 i9, .int .i64 t9, .int .i64 p9]) (fun _ => rfl) rfl (by kernel_rfl) rfl ?_
    refine wl_un (fun v => Instr.extract v 1) (.tmp 27) (.tuple #[.agg #[.int .i64 k9, .int .i64 s9, .int .i64 i9, .int .i64 t9, .int .i64 p9], .int .i64 (e9)]) (.int .i64 (e9)) (fun _ => rfl) rfl (by kernel_rfl) rfl ?_
    refine wl_alloc 52 #[.int .i64 0, .int .i64 0, .int .i64 0, .int .i64 0, .int .i64 0] rfl (fun _ => by kernel_rfl) rfl ?_
    intro k6 w12 hk hz hq Q6
    have ne_k1_k6 : k1 ≠ k6 := by have := Q1.lt; omega
    have ne_k2_k6 : k2 ≠ k6 := by have := Q2.lt; omega
    have ne_k3_k6 : k3 ≠ k6 := by have := Q3.lt; omega
    have ne_k4_k6 : k4 ≠ k6 := by have := Q4.lt; omega
    have ne_k5_k6 : k5 ≠ k6 := by have := Q5.lt; omega
    have N_k6 : w11.heap.size ≤ k6 := by have := M.size; omega
    replace Q1 := Q1.mo hq
    replace Q2 := Q2.mo hq
    replace Q3 := Q3.mo hq
    replace Q4 := Q4.mo hq
    replace Q5 := Q5.mo hq
    replace M := M.trans hq
    clear hk hz hq
    refine wl_st 52 (.tmp 7) (.tmp 30) k6 0 #[.int .i64 k9, .int .i64 s9, .int .i64 i9, .int .i64 t9, .int .i64 p9] _ [.int .i64 k9, .int .i64 s9, .int .i64 i9, .int .i64 t9, .int .i64 p9] Q6 rfl rfl rfl rfl rfl sz52 rfl rfl rfl ?_
    intro w13 hS Qn
    replace Q6 := Qn
    clear Qn
    replace Q1 := hS.other _ _ ne_k1_k6 Q1
    replace Q2 := hS.other _ _ ne_k2_k6 Q2
    replace Q3 := hS.other _ _ ne_k3_k6 Q3
    replace Q4 := hS.other _ _ ne_k4_k6 Q4
    replace Q5 := hS.other _ _ ne_k5_k6 Q5
    replace M := hS.mo _ N_k6 M
    clear hS
    refine wl_m (.tmp 31) (.int .i64 (e9)) ?_
    refine w_nil (xn_then (w_seq (w_reg ?_)))
    refine wl_m (.tmp 8) (.int .i64 (e9)) ?_
    refine wl_b .neq 31 (.tmp 32) (.const (.int .i64 (0))) (.int .i64 (e9)) (.int .i64 (0)) (.bool true) (ne34 (decide_eq_false hne32) _ _ _) ?_
    refine w_nil (xn_then (w_condT rfl (w_seq (w_reg ?_))))
    refine wl_l 52 (.tmp 7) (pt k6 0) (.agg #[.int .i64 k9, .int .i64 s9, .int .i64 i9, .int .i64 t9, .int .i64 p9]) (run_row Q6 52 0 5 _ rfl Tryd.underlying52 rfl sz52) ?_
    refine wl_m (.tmp 8) (.int .i64 (e9)) ?_
    refine wl_stm 52 (.tmp 2) (.tmp 34) k2 0 #[.int .i64 k9, .int .i64 s9, .int .i64 i9, .int .i64 t9, .int .i64 p9] [.int .i64 0, .int .i64 0, .int .i64 0, .int .i64 0, .int .i64 0] [.int .i64 k9, .int .i64 s9, .int .i64 i9, .int .i64 t9, .int .i64 p9] Q2 rfl rfl rfl rfl rfl sz52 rfl rfl rfl ?_
    intro w14 hS hm9 Qn
    replace Q2 := Qn
    clear Qn
    replace Q1 := hS.other _ _ ne_k1_k2 Q1
    replace Q3 := hS.other _ _ ne_k2_k3.symm Q3
    replace Q4 := hS.other _ _ ne_k2_k4.symm Q4
    replace Q5 := hS.other _ _ ne_k2_k5.symm Q5
    replace Q6 := hS.other _ _ ne_k2_k6.symm Q6
    have hmT := (Mk.of (fun j => j = k2) M).same hm9
    replace MK := (MK.trans M).tr hm9 (fun j hj e => by omega)
    clear M hS hm9
    have M : Mo w14 w14 := Mo.refl _
    refine wl_m (.tmp 35) (.int .i64 (e9)) ?_
    refine w_nil (xn_then (w_ret (xr_blk (xr_then (xr_then (xr_blk (xr_then ?_)))))))
    exact w_ret2 _ _ (.agg #[.int .i64 k9, .int .i64 s9, .int .i64 i9, .int .i64 t9, .int .i64 p9]) (.int .i64 (e9)) rfl ⟨k2, rfl, (run_row Q2 52 0 5 _ rfl Tryd.underlying52 rfl sz52)⟩ rfl ⟨by unfold chk; rw [← hAL, ← hzL, er_0 hf0p, Option.none_or, ho31, Option.none_or, ho32]; rfl, (MK.trans M).mo (Mo.refl _) (fun _ h => h.elim)⟩
  | false =>
   obtain ⟨k9, s9, i9, t9, p9, e9, ho31, hne31⟩ := Pk.some (pk_tb _) hf1
   have hcn := tables_n (hC.mo M) (whE_0 hf0p).1
   rw [ho31] at hcn
   refine wl_callv 44 (.tmp 28) #[pt z.cb 0] #[] [] _ [] [pt z.cb 0] rfl rfl rfl rfl (fun _ _ => by kernel_rfl) hcn rfl ?_
   rintro x9 w8 ⟨rfl, hK9, hC9⟩
   refine ⟨_, rfl, ?_⟩
   replace Q1 := Q1.kp (hK9.kp (fun j hj => hC.nocell hj M)) hK9.fz
   replace Q2 := Q2.kp (hK9.kp (fun j hj => hC.nocell hj M)) hK9.fz
   replace Q3 := Q3.kp (hK9.kp (fun j hj => hC.nocell hj M)) hK9.fz
   replace Q4 := Q4.kp (hK9.kp (fun j hj => hC.nocell hj M)) hK9.fz
   replace MK := (MK.trans M).tr hK9 (fun j hj e => by have := hzD j e; omega)
   clear M hcn
   have M : Mo w8 w8 := Mo.refl _
   refine wl_m (.tmp 29) (.tuple #[.agg #[.int .i64 k9, .int .i64 s9, .int .i64 i9, .int .i64 t9, .int .i64 p9], .int .i64 (e9)]) ?_
   refine wl_un (fun v => Instr.extract v 0) (.tmp 27) (.tuple #[.agg #[.int .i64 k9, .int .i64 s9, .int .i64 i9, .int .i64 t9, .int .i64 p9], .int .i64 (e9)]) (.agg #[.int .i64 k9, .int .i64 s9, .int .i64 i9, .int .i64 t9, .int .i64 p9]) (fun _ => rfl) rfl (by kernel_rfl) rfl ?_
   refine wl_un (fun v => Instr.extract v 1) (.tmp 27) (.tuple #[.agg #[.int .i64 k9, .int .i64 s9, .int .i64 i9, .int .i64 t9, .int .i64 p9], .int .i64 (e9)]) (.int .i64 (e9)) (fun _ => rfl) rfl (by kernel_rfl) rfl ?_
   refine wl_alloc 52 #[.int .i64 0, .int .i64 0, .int .i64 0, .int .i64 0, .int .i64 0] rfl (fun _ => by kernel_rfl) rfl ?_
   intro k5 w9 hk hz hq Q5
   have ne_k1_k5 : k1 ≠ k5 := by have := Q1.lt; omega
   have ne_k2_k5 : k2 ≠ k5 := by have := Q2.lt; omega
   have ne_k3_k5 : k3 ≠ k5 := by have := Q3.lt; omega
   have ne_k4_k5 : k4 ≠ k5 := by have := Q4.lt; omega
   have N_k5 : w8.heap.size ≤ k5 := by have := M.size; omega
   replace Q1 := Q1.mo hq
   replace Q2 := Q2.mo hq
   replace Q3 := Q3.mo hq
   replace Q4 := Q4.mo hq
   replace M := M.trans hq
   clear hk hz hq
   refine wl_st 52 (.tmp 7) (.tmp 30) k5 0 #[.int .i64 k9, .int .i64 s9, .int .i64 i9, .int .i64 t9, .int .i64 p9] _ [.int .i64 k9, .int .i64 s9, .int .i64 i9, .int .i64 t9, .int .i64 p9] Q5 rfl rfl rfl rfl rfl sz52 rfl rfl rfl ?_
   intro w10 hS Qn
   replace Q5 := Qn
   clear Qn
   replace Q1 := hS.other _ _ ne_k1_k5 Q1
   replace Q2 := hS.other _ _ ne_k2_k5 Q2
   replace Q3 := hS.other _ _ ne_k3_k5 Q3
   replace Q4 := hS.other _ _ ne_k4_k5 Q4
   replace M := hS.mo _ N_k5 M
   clear hS
   refine wl_m (.tmp 31) (.int .i64 (e9)) ?_
   refine w_nil (xn_then (w_seq (w_reg ?_)))
   refine wl_m (.tmp 8) (.int .i64 (e9)) ?_
   refine wl_b .neq 31 (.tmp 32) (.const (.int .i64 (0))) (.int .i64 (e9)) (.int .i64 (0)) (.bool true) (ne34 (decide_eq_false hne31) _ _ _) ?_
   refine w_nil (xn_then (w_condT rfl (w_seq (w_reg ?_))))
   refine wl_l 52 (.tmp 7) (pt k5 0) (.agg #[.int .i64 k9, .int .i64 s9, .int .i64 i9, .int .i64 t9, .int .i64 p9]) (run_row Q5 52 0 5 _ rfl Tryd.underlying52 rfl sz52) ?_
   refine wl_m (.tmp 8) (.int .i64 (e9)) ?_
   refine wl_stm 52 (.tmp 2) (.tmp 34) k2 0 #[.int .i64 k9, .int .i64 s9, .int .i64 i9, .int .i64 t9, .int .i64 p9] [.int .i64 0, .int .i64 0, .int .i64 0, .int .i64 0, .int .i64 0] [.int .i64 k9, .int .i64 s9, .int .i64 i9, .int .i64 t9, .int .i64 p9] Q2 rfl rfl rfl rfl rfl sz52 rfl rfl rfl ?_
   intro w11 hS hm9 Qn
   replace Q2 := Qn
   clear Qn
   replace Q1 := hS.other _ _ ne_k1_k2 Q1
   replace Q3 := hS.other _ _ ne_k2_k3.symm Q3
   replace Q4 := hS.other _ _ ne_k2_k4.symm Q4
   replace Q5 := hS.other _ _ ne_k2_k5.symm Q5
   have hmT := (Mk.of (fun j => j = k2) M).same hm9
   replace MK := (MK.trans M).tr hm9 (fun j hj e => by omega)
   clear M hS hm9
   have M : Mo w11 w11 := Mo.refl _
   refine wl_m (.tmp 35) (.int .i64 (e9)) ?_
   refine w_nil (xn_then (w_ret (xr_blk (xr_then (xr_then (xr_blk (xr_then ?_)))))))
   exact w_ret2 _ _ (.agg #[.int .i64 k9, .int .i64 s9, .int .i64 i9, .int .i64 t9, .int .i64 p9]) (.int .i64 (e9)) rfl ⟨k2, rfl, (run_row Q2 52 0 5 _ rfl Tryd.underlying52 rfl sz52)⟩ rfl ⟨by unfold chk; rw [← hAL, ← hzL, er_0 hf0p, Option.none_or, ho31]; rfl, (MK.trans M).mo (Mo.refl _) (fun _ h => h.elim)⟩
 | false =>
  have hf0p := of_decide_eq_false hf0
  refine wl_b .neq 31 (.tmp 32) (.const (.int .i64 (0))) (.int .i64 (whE z.d z.L)) (.int .i64 (0)) (.bool true) (ne34 hf0 _ _ _) ?_
  refine w_nil (xn_then (w_condT rfl (w_seq (w_reg ?_))))
  refine wl_l 52 (.tmp 7) (pt k4 0) (.agg #[.int .i64 (0), .int .i64 (0), .int .i64 (0), .int .i64 (0), .int .i64 (0)]) (run_row Q4 52 0 5 _ rfl Tryd.underlying52 rfl sz52) ?_
  refine wl_m (.tmp 8) (.int .i64 (whE z.d z.L)) ?_
  refine wl_stm 52 (.tmp 2) (.tmp 34) k2 0 #[.int .i64 (0), .int .i64 (0), .int .i64 (0), .int .i64 (0), .int .i64 (0)] [.int .i64 0, .int .i64 0, .int .i64 0, .int .i64 0, .int .i64 0] [.int .i64 (0), .int .i64 (0), .int .i64 (0), .int .i64 (0), .int .i64 (0)] Q2 rfl rfl rfl rfl rfl sz52 rfl rfl rfl ?_
  intro w8 hS hm9 Qn
  replace Q2 := Qn
  clear Qn
  replace Q1 := hS.other _ _ ne_k1_k2 Q1
  replace Q3 := hS.other _ _ ne_k2_k3.symm Q3
  replace Q4 := hS.other _ _ ne_k2_k4.symm Q4
  have hmT := (Mk.of (fun j => j = k2) M).same hm9
  replace MK := (MK.trans M).tr hm9 (fun j hj e => by omega)
  clear M hS hm9
  have M : Mo w8 w8 := Mo.refl _
  refine wl_m (.tmp 35) (.int .i64 (whE z.d z.L)) ?_
  refine w_nil (xn_then (w_ret (xr_blk (xr_then (xr_then (xr_blk (xr_then ?_)))))))
  exact w_ret2 _ _ (.agg #[.int .i64 (0), .int .i64 (0), .int .i64 (0), .int .i64 (0), .int .i64 (0)]) (.int .i64 (whE z.d z.L)) rfl ⟨k2, rfl, (run_row Q2 52 0 5 _ rfl Tryd.underlying52 rfl sz52)⟩ rfl ⟨by unfold chk; rw [← hzL, er_1 hf0p]; rfl, (MK.trans M).mo (Mo.refl _) (fun _ h => h.elim)⟩
end Go.Proofs.YtnffhcjmpjajlaaDoor

namespace Go.Proofs.YtnffhcjmpjajlaaDoor
open Go.RowKit D
structure GB (w0 wE w1 : World) (vin : Value) (pa : Option Addr) (cap : Nat) (acc : List S5) : Prop where
 mo : Mo w0 w1
 ow : w1.ownsRow w0.heap.size 65 5 (.slice pa acc.length cap) acc.length (acc.flatMap S5.cells)
 mkk : Mk (fun j => vin.ownBlock = some j) wE w1
 ob : (Value.slice pa acc.length cap).ownBlock = vin.ownBlock ∨ ∀ k, (Value.slice pa acc.length cap).ownBlock = some k → wE.heap.size ≤ k
section
variable {w0 wE w1 w2 : World} {vin : Value} {pa pa2 : Option Addr} {cap cap2 : Nat} {acc acc2 : List S5}
theorem GB.mv (h : GB w0 wE w1 vin pa cap acc) (m : Mo w1 w2) : GB w0 wE w2 vin pa cap acc := ⟨h.mo.trans m, own_mo h.ow m, h.mkk.trans m, h.ob⟩
theorem GB.tr (h : GB w0 wE w1 vin pa cap acc) (g : GB w0 w1 w2 (.slice pa acc.length cap) pa2 cap2 acc2) : GB w0 wE w2 vin pa2 cap2 acc2 := by
 refine ⟨g.mo, g.ow, h.mkk.tr g.mkk (fun j hj e => ?_), ?_⟩
 ·rcases h.ob with q | q
  ·rw [← q]; exact e
  ·have := q j e; omega
 ·rcases g.ob with q | q
  ·rcases h.ob with r | r
   ·exact Or.inl (q.trans r)
   ·exact Or.inr (fun k e => r k (q.symm.trans e))
  ·exact Or.inr (fun k e => Nat.le_trans h.mkk.size (q k e))
theorem GB.ne (h : GB w0 wE w1 vin pa cap acc) {k1 : Nat} (h1 : vin.ownBlock ≠ some k1) (h2 : k1 < wE.heap.size) : (Value.slice pa acc.length cap).ownBlock ≠ some k1 := fun e => by
 rcases h.ob with q | q
 ·exact h1 (q.symm.trans e)
 ·have := q k1 e; omega
end
theorem rflat_n {w0 : World} : ∀ (s : Se), LSe w0 s → ∀ (acc : List S5) (p dp : Int) (pa : Option Addr) (cap : Nat) (w : World), Mo w0 w → w.ownsRow w0.heap.size 65 5 (.slice pa acc.length cap) acc.length (acc.flatMap S5.cells) → acc.length ≤ 64 → 0 ≤ dp → dp ≤ 100 → Calls Tryd.prog 48 #[.slice pa acc.length cap, .agg (s.cells).toArray, .int .i64 p, .int .i64 dp] w fun e w' => ∃ pa' cap', e = .returned (.slice pa' (flt s acc p dp).length cap') ∧ GB w0 w w' (.slice pa acc.length cap) pa' cap' (flt s acc p dp) := by
 refine Se.ind2 ?_
 intro s ih hL acc p dp pa cap w hM hown ha hd0 hd1
 refine w_enter 51 Tryd.func48 Tryd.ntmps48 rfl rfl ?_
 have M := hM
 have MW : Mo w w := Mo.refl _
 refine w_seq (w_reg ?_)
 refine wl_box 45 (.tmp 1) _ (((s.cells).toArray)) rfl rfl (fun _ => by kernel_rfl) rfl ?_
 intro k1 u1 hk hz hq Q1
 have on_k1 : (Value.slice pa acc.length cap).ownBlock ≠ some k1 := fun e => by have := (hown.lt _ e).2; omega
 have N_k1 : w0.heap.size ≤ k1 := by have := M.size; omega
 replace hown := own_mo hown hq
 replace M := M.trans hq
 replace MW := MW.trans hq
 clear hk hz hq
 refine wl_m (.const (.slice none 0 0)) (.slice none 0 0) ?_
 refine w_nil (xn_then (w_seq (w_seq (w_reg ?_))))
 refine wl_m (.tmp 0) (.slice pa acc.length cap) ?_
 refine wl_val (.int .i64 ((acc.length : Nat) : Int)) (len22 _ _ _ _ _ (by exact rfl) _ _ _ _ _ _) rfl ?_
 cases hf0 : decide (64 ≤ ((acc.length : Nat) : Int)) with
 | true =>
  have hf0p := of_decide_eq_true hf0
  refine wl_b .geq 3 (.tmp 12) (.const (.int .i64 (64))) (.int .i64 ((acc.length : Nat) : Int)) (.int .i64 (64)) (.bool true) (ge3 hf0 _ _ _) ?_
  refine wl_m (.tmp 13) (.bool true) ?_
  refine wl_skip rfl (wl_skip rfl ?_)
  refine wl_pick (.tmp 14) (.const (.bool true)) (.tmp 16) true (.bool true) (fun _ => rfl) rfl rfl rfl ?_
  refine w_nil (xn_then (w_condT rfl (w_seq (w_reg ?_))))
  refine wl_m (.tmp 0) (.slice pa acc.length cap) ?_
  refine wl_m (.tmp 18) (.slice pa acc.length cap) ?_
  refine w_nil (xn_then (w_ret (xr_then ?_)))
  exact w_ret1 _ (.slice pa acc.length cap) rfl rfl ⟨pa, cap, by rw [flt_eq, if_pos (by omega)], by rw [flt_eq, if_pos (by omega)]; exact ⟨M, hown, Mk.of _ MW, Or.inl rfl⟩⟩
 | false =>
  have hf0p := of_decide_eq_false hf0
  refine wl_b .geq 3 (.tmp 12) (.const (.int .i64 (64))) (.int .i64 ((acc.length : Nat) : Int)) (.int .i64 (64)) (.bool false) (ge3 hf0 _ _ _) ?_
  refine wl_m (.tmp 13) (.bool false) ?_
  refine wl_m (.tmp 3) (.int .i64 (dp)) ?_
  cases hf1 : decide (16 < dp) with
  | true =>
   have hf1p := of_decide_eq_true hf1
   refine wl_b .gtr 3 (.tmp 15) (.const (.int .i64 (16))) (.int .i64 (dp)) (.int .i64 (16)) (.bool true) (gt3 hf1 _ _ _) ?_
   refine wl_pick (.tmp 14) (.const (.bool true)) (.tmp 16) false (.bool true) (fun _ => rfl) rfl rfl rfl ?_
   refine w_nil (xn_then (w_condT rfl (w_seq (w_reg ?_))))
   refine wl_m (.tmp 0) (.slice pa acc.length cap) ?_
   refine wl_m (.tmp 18) (.slice pa acc.length cap) ?_
   refine w_nil (xn_then (w_ret (xr_then ?_)))
   exact w_ret1 _ (.slice pa acc.length cap) rfl rfl ⟨pa, cap, by rw [flt_eq, if_pos (by omega)], by rw [flt_eq, if_pos (by omega)]; exact ⟨M, hown, Mk.of _ MW, Or.inl rfl⟩⟩
  | false =>
   have hf1p := of_decide_eq_false hf1
   refine wl_b .gtr 3 (.tmp 15) (.const (.int .i64 (16))) (.int .i64 (dp)) (.int .i64 (16)) (.bool false) (gt3 hf1 _ _ _) ?_
   refine wl_pick (.tmp 14) (.const (.bool true)) (.tmp 16) false (.bool false) (fun _ => rfl) rfl rfl rfl ?_
   refine w_nil (xn_then (w_condF rfl (w_skip (xn_then (w_seq (w_reg ?_))))))
   refine wl_m (.tmp 0) (.slice pa acc.length cap) ?_
   refine wl_val (.int .i64 ((acc.length : Nat) : Int)) (len22 _ _ _ _ _ (by exact rfl) _ _ _ _ _ _) rfl ?_
   refine wl_m (.tmp 20) (.int .i64 ((acc.length : Nat) : Int)) ?_
   refine w_nil (xn_then (w_seq (w_reg ?_)))
   refine wl_m (.tmp 0) (.slice pa acc.length cap) ?_
   refine wl_m (.tmp 2) (.int .i64 (p)) ?_
   refine wl_m (.tmp 3) (.int .i64 (dp)) ?_
   refine wl_f 45 0 (.tmp 5) (pt k1 0) (pt k1 0) ?_
   refine wl_l 9 (.tmp 24) (pt k1 0) (.string s.nm) (run_one Q1 9 0 rfl Tryd.underlying9 rfl) ?_
   refine wl_f 45 1 (.tmp 5) (pt k1 0) (pt k1 1) ?_
   refine wl_l 3 (.tmp 26) (pt k1 1) (.int .i64 (s.mx)) (run_one Q1 3 1 rfl Tryd.underlying3 rfl) ?_
   refine wl_f 45 2 (.tmp 5) (pt k1 0) (pt k1 2) ?_
   refine wl_l 42 (.tmp 28) (pt k1 2) (.slice s.pi s.items.length s.ci) (run_one Q1 42 2 rfl Tryd.underlying42 rfl) ?_
   refine wl_build 65 [(0, (.tmp 22)), (1, (.tmp 23)), (2, (.tmp 25)), (3, (.tmp 27)), (4, (.tmp 29))] [(0, .int .i64 (p)), (1, .int .i64 (dp)), (2, .string s.nm), (3, .int .i64 (s.mx)), (4, .slice s.pi s.items.length s.ci)] (.agg #[.int .i64 (p), .int .i64 (dp), .string s.nm, .int .i64 (s.mx), .slice s.pi s.items.length s.ci]) rfl rfl (by kernel_rfl) rfl ?_
   refine wl_bs 22 1 [(0, (.tmp 30))] [(0, .agg #[.int .i64 (p), .int .i64 (dp), .string s.nm, .int .i64 (s.mx), .slice s.pi s.items.length s.ci])] #[.int .i64 (p), .int .i64 (dp), .string s.nm, .int .i64 (s.mx), .slice s.pi s.items.length s.ci] 65 rfl rfl (fun _ => by kernel_rfl) rfl ?_
   intro k2 u2 hk hz hq Q2
   have ne_k1_k2 : k1 ≠ k2 := by have := Q1.lt; omega
   have N_k2 : w0.heap.size ≤ k2 := by have := M.size; omega
   have on_k2 : (Value.slice pa acc.length cap).ownBlock ≠ some k2 := fun e => by have := (own_lt hown e).1; omega
   replace hown := own_mo hown hq
   replace Q1 := Q1.mo hq
   replace M := M.trans hq
   replace MW := MW.trans hq
   clear hk hz hq
   have lt_k1 := Q1.lt
   have lt_k2 := Q2.lt
   have hal : acc.length < 64 := by omega
   refine wl_app Tryd.underlying22 inf65 rfl (by decide) (.tmp 21) (.tmp 31) w0.heap.size (.slice pa acc.length cap) acc.length (acc.flatMap S5.cells) k2 1 1 (⟨p, dp, s.nm, s.mx, s.pi, s.ci, s.items⟩ : S5).cells rfl rfl rfl hown rfl Q2 (fun u hu => by simp only [S5.cells, List.mem_cons, List.not_mem_nil, or_false] at hu; rcases hu with rfl | rfl | rfl | rfl | rfl <;> rfl) (by decide) (by unfold maxLen; omega) (by omega) M.size rfl ?_
   intro v9 u3 hOw hm9 hbk
   obtain ⟨pa1, cap1, rfl, _⟩ := own_form hOw
   have hb1 : (Value.slice pa1 (acc ++ [(⟨p, dp, s.nm, s.mx, s.pi, s.ci, s.items⟩ : S5)]).length cap1).ownBlock = (Value.slice pa acc.length cap).ownBlock ∨ (Value.slice pa1 (acc ++ [(⟨p, dp, s.nm, s.mx, s.pi, s.ci, s.items⟩ : S5)]).length cap1).ownBlock = some u2.heap.size := by cases pa1 <;> exact hbk
   replace hOw : u3.ownsRow w0.heap.size 65 5 (.slice pa1 (acc ++ [(⟨p, dp, s.nm, s.mx, s.pi, s.ci, s.items⟩ : S5)]).length cap1) (acc ++ [(⟨p, dp, s.nm, s.mx, s.pi, s.ci, s.items⟩ : S5)]).length ((acc ++ [(⟨p, dp, s.nm, s.mx, s.pi, s.ci, s.items⟩ : S5)]).flatMap S5.cells) := by simpa using hOw
   have hG1 : GB w0 w u3 (Value.slice pa acc.length cap) pa1 cap1 (acc ++ [(⟨p, dp, s.nm, s.mx, s.pi, s.ci, s.items⟩ : S5)]) := ⟨hm9.mo M (fun k e => (own_lt hown e).2), hOw, (Mk.of _ MW).same hm9, hb1.imp_right (fun h k e => by have h8 := Option.some.inj (h.symm.trans e); have := MW.size; omega)⟩
   have on1 : (Value.slice pa1 (acc ++ [(⟨p, dp, s.nm, s.mx, s.pi, s.ci, s.items⟩ : S5)]).length cap1).ownBlock ≠ some k1 := fun e => by rcases hb1 with h | h; exact on_k1 (h.symm.trans e); have h8 := Option.some.inj (h.symm.trans e); omega
   replace Q1 := hm9.at Q1 on_k1
   replace M := hG1.mo
   clear hOw hm9 hb1 hbk hown MW
   rw [show acc.length + 1 = (acc ++ [(⟨p, dp, s.nm, s.mx, s.pi, s.ci, s.items⟩ : S5)]).length by simp]
   refine wl_m (.tmp 32) (.slice pa1 (acc ++ [(⟨p, dp, s.nm, s.mx, s.pi, s.ci, s.items⟩ : S5)]).length cap1) ?_
   refine w_nil (xn_then (w_seq (w_seq (w_reg ?_))))
   refine wl_m (.const (.int .i64 (0))) (.int .i64 (0)) ?_
   refine w_nil (xn_then (w_block ?_))
   have hcond : ¬ (64 ≤ acc.length ∨ 16 < dp) := by omega
   have hzk := hL.kd.1
   unfold maxLen at hzk
   refine w_loop (fun m l w1 => ∃ i : Nat, m = s.kids.length - i ∧ i ≤ s.kids.length ∧ look l 2 = .int .i64 (p) ∧ look l 3 = .int .i64 (dp) ∧ look l 5 = pt k1 0 ∧ look l 9 = .int .i64 ((acc.length : Nat) : Int) ∧ look l 10 = .int .i64 ((i : Nat) : Int) ∧ ∃ (pa2 : Option Addr) (cap2 : Nat), look l 0 = .slice pa2 (fk s acc p dp i).length cap2 ∧ GB w0 w w1 (Value.slice pa acc.length cap) pa2 cap2 (fk s acc p dp i) ∧ (Value.slice pa2 (fk s acc p dp i).length cap2).ownBlock ≠ some k1 ∧ At w1 k1 s.cells) _ ⟨0, rfl, Nat.zero_le _, rfl, rfl, rfl, rfl, rfl, ⟨pa1, cap1, rfl, hG1, on1, Q1⟩⟩ ?_
   clear Q1 M
   rintro m l40 wl40 ⟨i, rfl, hi, e40_2, e40_3, e40_5, e40_9, e40_i, hE⟩
   by_cases hil : i < s.kids.length
   ·skip
    have hid : decide (i < s.kids.length) = true := decide_eq_true hil
    obtain ⟨pa2, cap2, e0, hG2, on2, Q1⟩ := hE
    have M := hG2.mo
    obtain ⟨k, hk⟩ := get_of_lt hil
    obtain ⟨bp, op, hpp, hRp⟩ := D.SL.rw hL.kd hk
    refine w_seq (w_seq (w_reg ?_))
    refine wl_mv (.tmp 10) (.int .i64 ((i : Nat) : Int)) (fun _ => rfl) e40_i rfl ?_
    refine wl_un (fun v => Instr.fieldAt 45 v 3) (.tmp 5) (pt k1 0) (pt k1 3) (fun _ => rfl) e40_5 (by kernel_rfl) rfl ?_
    refine wl_l 43 (.tmp 34) (pt k1 3) (.slice s.pk s.kids.length s.ck) (run_one Q1 43 3 rfl Tryd.underlying43 rfl) ?_
    refine wl_val (.int .i64 ((s.kids.length : Nat) : Int)) (len43 _ _ _ _ _ (by exact rfl) _ _ _ _ _ _) rfl ?_
    refine wl_b .lss 3 (.tmp 33) (.tmp 36) (.int .i64 ((i : Nat) : Int)) (.int .i64 ((s.kids.length : Nat) : Int)) (.bool true) (ltN hid _ _ _) ?_
    refine w_nil (xn_then (w_condT rfl (w_skip (xn_then (w_seq (w_block (w_reg ?_)))))))
    refine wl_mv (.tmp 0) (.slice pa2 (fk s acc p dp i).length cap2) (fun _ => rfl) e0 rfl ?_
    refine wl_un (fun v => Instr.fieldAt 45 v 3) (.tmp 5) (pt k1 0) (pt k1 3) (fun _ => rfl) e40_5 (by kernel_rfl) rfl ?_
    refine wl_l 43 (.tmp 41) (pt k1 3) (.slice s.pk s.kids.length s.ck) (run_one Q1 43 3 rfl Tryd.underlying43 rfl) ?_
    refine wl_mv (.tmp 10) (.int .i64 ((i : Nat) : Int)) (fun _ => rfl) e40_i rfl ?_
    refine wl_bin (fun x y => Instr.indexAt 43 x y) (.tmp 42) (.tmp 43) (.slice s.pk s.kids.length s.ck) (.int .i64 ((i : Nat) : Int)) (pt bp (op + i * 4)) (fun _ => rfl) rfl rfl (ix43 (i := i) hpp hil _) rfl ?_
    refine wl_l 45 (.tmp 44) (pt bp (op + i * 4)) (.agg (k.cells).toArray) (D.run_partR (hRp.mo M).at' 45 0 4 (k.cells) rfl Tryd.underlying45 rfl sz45) ?_
    refine wl_mv (.tmp 9) (.int .i64 ((acc.length : Nat) : Int)) (fun _ => rfl) e40_9 rfl ?_
    refine wl_mv (.tmp 3) (.int .i64 (dp)) (fun _ => rfl) e40_3 rfl ?_
    refine wl_b .add 3 (.tmp 47) (.const (.int .i64 (1))) (.int .i64 (dp)) (.int .i64 (1)) (.int .i64 (dp + 1)) (add1i (k := dp) (by omega) (by omega) _ _ _) ?_
    refine wl_callx 48 [(.tmp 40), (.tmp 45), (.tmp 46), (.tmp 48)] _ [.slice pa2 (fk s acc p dp i).length cap2, .agg (k.cells).toArray, .int .i64 ((acc.length : Nat) : Int), .int .i64 (dp + 1)] rfl rfl (fun _ _ => by kernel_rfl) (ih k (List.mem_of_getElem? hk) (hL.kr k (List.mem_of_getElem? hk)) (fk s acc p dp i) _ _ pa2 cap2 _ M hG2.ow (fk_len (by omega) i) (by omega) (by omega)) rfl ?_
    rintro e9 u41 ⟨pa3, cap3, rfl, hG3⟩
    refine ⟨_, rfl, ?_⟩
    have ltk := Q1.lt
    replace Q1 := hG3.mkk.at Q1 on2
    have on3 := hG3.ne on2 ltk
    have hG4 := hG2.tr hG3
    replace M := hG4.mo
    refine wl_m (.tmp 49) (.slice pa3 (flt k (fk s acc p dp i) acc.length (dp + 1)).length cap3) ?_
    refine w_nil (xn_blk (xn_then (w_reg ?_)))
    refine wl_mv (.tmp 10) (.int .i64 ((i : Nat) : Int)) (fun _ => rfl) e40_i rfl ?_
    refine wl_b .add 3 (.tmp 38) (.const (.int .i64 (1))) (.int .i64 ((i : Nat) : Int)) (.int .i64 (1)) (.int .i64 ((i + 1 : Nat) : Int)) (add1r (k := i) (by omega) _ _ _) ?_
    refine wl_m (.tmp 39) (.int .i64 ((i + 1 : Nat) : Int)) ?_
    refine w_nil ?_
    exact xn_loop (s.kids.length - (i + 1)) (by omega) ⟨i + 1, rfl, by omega, e40_2, e40_3, e40_5, e40_9, rfl, ⟨pa3, cap3, by rw [fk_s hk]; rfl, by rw [fk_s hk]; exact hG4, by rw [fk_s hk]; exact on3, Q1⟩⟩
   ·skip
    have hid : decide (i < s.kids.length) = false := decide_eq_false hil
    have hie : i = s.kids.length := by omega
    obtain ⟨pa2, cap2, e0, hG2, on2, Q1⟩ := hE
    have M := hG2.mo
    refine w_seq (w_seq (w_reg ?_))
    refine wl_mv (.tmp 10) (.int .i64 ((i : Nat) : Int)) (fun _ => rfl) e40_i rfl ?_
    refine wl_un (fun v => Instr.fieldAt 45 v 3) (.tmp 5) (pt k1 0) (pt k1 3) (fun _ => rfl) e40_5 (by kernel_rfl) rfl ?_
    refine wl_l 43 (.tmp 34) (pt k1 3) (.slice s.pk s.kids.length s.ck) (run_one Q1 43 3 rfl Tryd.underlying43 rfl) ?_
    refine wl_val (.int .i64 ((s.kids.length : Nat) : Int)) (len43 _ _ _ _ _ (by exact rfl) _ _ _ _ _ _) rfl ?_
    refine wl_b .lss 3 (.tmp 33) (.tmp 36) (.int .i64 ((i : Nat) : Int)) (.int .i64 ((s.kids.length : Nat) : Int)) (.bool false) (ltN hid _ _ _) ?_
    refine w_nil (xn_then (w_condF rfl (w_exit (xx_then (xx_then (xx_blk (xn_then (w_seq (w_reg ?_)))))))))
    refine wl_mv (.tmp 0) (.slice pa2 (fk s acc p dp i).length cap2) (fun _ => rfl) e0 rfl ?_
    refine wl_m (.tmp 50) (.slice pa2 (fk s acc p dp i).length cap2) ?_
    refine w_nil (xn_then (w_ret ?_))
    exact w_ret1 _ (.slice pa2 (fk s acc p dp i).length cap2) rfl rfl ⟨pa2, cap2, by rw [flt_eq, if_neg hcond, hie]; unfold fk; rw [List.take_length], by rw [flt_eq, if_neg hcond]; rw [hie] at hG2; unfold fk at hG2; rw [List.take_length] at hG2; exact hG2⟩
end Go.Proofs.YtnffhcjmpjajlaaDoor

namespace Go.Proofs.YtnffhcjmpjajlaaDoor
open Go.RowKit D
theorem addw {a b : Int} (x y : Operand) (w : World) : (do eqGuard .add 3 x y (.int .i64 a) (.int .i64 b); binOp .add 3 (.int .i64 a) (.int .i64 b)).run Tryd.prog w = .ok (.int .i64 (IntKind.i64.wrap (a + b))) w := by simp [go_sem]
theorem sub1n {m : Nat} (h : m ≤ 1000) (x y : Operand) (w : World) : (do eqGuard .sub 3 x y (.int .i64 ((m + 1 : Nat) : Int)) (.int .i64 1); binOp .sub 3 (.int .i64 ((m + 1 : Nat) : Int)) (.int .i64 1)).run Tryd.prog w = .ok (.int .i64 ((m : Nat) : Int)) w := subI (by omega) (by omega) (by omega) x y w
theorem es_0 {e : Ex} (w : World) : Calls Tryd.prog 41 #[.agg e.cells.toArray, .int .i64 0] w fun e9 w' => ∃ z : Int, e9 = .returned (.int .i64 z) ∧ Mo w w' := by
 refine w_enter 25 Tryd.func41 Tryd.ntmps41 rfl rfl ?_
 have M : Mo w w := Mo.refl _
 refine w_seq (w_reg ?_)
 refine wl_box 77 (.tmp 0) _ (((e.cells).toArray)) rfl rfl (fun _ => by kernel_rfl) rfl ?_
 intro k1 u1 hk hz hq Q1
 have N_k1 : w.heap.size ≤ k1 := by have := M.size; omega
 replace M := M.trans hq
 clear hk hz hq
 refine wl_m (.const (.int .i64 (0))) (.int .i64 (0)) ?_
 refine w_nil (xn_then (w_seq (w_seq (w_reg ?_))))
 refine wl_m (.tmp 1) (.int .i64 0) ?_
 refine wl_b .eql 3 (.tmp 8) (.const (.int .i64 (0))) (.int .i64 0) (.int .i64 (0)) (.bool true) (eq3 (r := true) (decide_eq_true rfl) _ _ _) ?_
 refine w_nil (xn_then (w_condT rfl (w_seq (w_reg ?_))))
 refine wl_m (.const (.int .i64 (10000))) (.int .i64 (10000)) ?_
 refine w_nil (xn_then (w_ret (xr_then ?_)))
 exact w_ret1 _ (.int .i64 (10000)) rfl rfl ⟨_, rfl, M⟩
theorem es_s {e : Ex} {dd : Nat} (hm : dd ≤ 1000) (hrec : ∀ (o : Ex) (w : World), LEx w o → Calls Tryd.prog 41 #[.agg o.cells.toArray, .int .i64 ((dd : Nat) : Int)] w fun e9 w' => ∃ z : Int, e9 = .returned (.int .i64 z) ∧ Mo w w') (w : World) (hE : LEx w e) : Calls Tryd.prog 41 #[.agg e.cells.toArray, .int .i64 ((dd + 1 : Nat) : Int)] w fun e9 w' => ∃ z : Int, e9 = .returned (.int .i64 z) ∧ Mo w w' := by
 refine w_enter 25 Tryd.func41 Tryd.ntmps41 rfl rfl ?_
 have M : Mo w w := Mo.refl _
 refine w_seq (w_reg ?_)
 refine wl_box 77 (.tmp 0) _ (((e.cells).toArray)) rfl rfl (fun _ => by kernel_rfl) rfl ?_
 intro k1 u1 hk hz hq Q1
 have N_k1 : w.heap.size ≤ k1 := by have := M.size; omega
 replace M := M.trans hq
 clear hk hz hq
 refine wl_m (.const (.int .i64 (0))) (.int .i64 (0)) ?_
 refine w_nil (xn_then (w_seq (w_seq (w_reg ?_))))
 refine wl_m (.tmp 1) (.int .i64 ((dd + 1 : Nat) : Int)) ?_
 refine wl_b .eql 3 (.tmp 8) (.const (.int .i64 (0))) (.int .i64 ((dd + 1 : Nat) : Int)) (.int .i64 (0)) (.bool false) (eq3 (r := false) (decide_eq_false (by omega)) _ _ _) ?_
 refine w_nil (xn_then (w_condF rfl (w_skip (xn_then (w_seq (w_reg ?_))))))
 refine wl_m (.const (.int .i64 (1))) (.int .i64 (1)) ?_
 refine w_nil (xn_then (w_seq (w_seq (w_reg ?_))))
 refine wl_f 77 7 (.tmp 2) (pt k1 0) (pt k1 16) ?_
 refine wl_l 75 (.tmp 10) (pt k1 16) (.slice e.pa e.args.length e.cap) (run_one Q1 75 16 rfl Tryd.underlying75 rfl) ?_
 refine wl_val (.int .i64 ((e.args.length : Nat) : Int)) (len75 _ _ _ _ _ (by exact rfl) _ _ _ _ _ _) rfl ?_
 refine wl_m (.const (.int .i64 (0))) (.int .i64 (0)) ?_
 refine w_nil (xn_then (w_block ?_))
 have hz_i := hE.sl.1
 unfold maxLen at hz_i
 refine w_loop (fun m l w1 => ∃ i : Nat, m = e.args.length - i ∧ i ≤ e.args.length ∧ look l 1 = .int .i64 ((dd + 1 : Nat) : Int) ∧ look l 2 = pt k1 0 ∧ look l 11 = .slice e.pa e.args.length e.cap ∧ look l 12 = .int .i64 ((e.args.length : Nat) : Int) ∧ look l 13 = .int .i64 ((i : Nat) : Int) ∧ At w1 k1 (e.cells) ∧ (∃ z1 : Int, look l 5 = .int .i64 z1) ∧ Mo w w1) _ ⟨0, rfl, Nat.zero_le _, rfl, rfl, rfl, rfl, rfl, Q1, ⟨1, rfl⟩, M⟩ ?_
 clear Q1 M
 rintro m l40 wl40 ⟨i, rfl, hi, e40_1, e40_2, e40_11, e40_12, e40_i, Q1, hz5, M⟩
 by_cases hil : i < e.args.length
 ·skip
  have hid : decide (i < e.args.length) = true := decide_eq_true hil
  obtain ⟨z1, e5⟩ := hz5
  obtain ⟨o, ho⟩ := get_of_lt hil
  have hmo := List.mem_of_getElem? ho
  obtain ⟨bpi, opi, hppi, hRpi⟩ := D.SL.rw hE.sl ho
  refine w_seq (w_reg ?_)
  refine wl_bin (fun x y => do eqGuard .lss 3 (.tmp 13) (.tmp 12) x y; binOp .lss 3 x y) (.tmp 13) (.tmp 12) (.int .i64 ((i : Nat) : Int)) (.int .i64 ((e.args.length : Nat) : Int)) (.bool true) (fun _ => rfl) e40_i e40_12 (ltN hid _ _ _) rfl ?_
  refine w_nil (xn_then (w_seq (w_condT rfl (w_skip (xn_then (w_seq (w_block (w_seq (w_reg ?_)))))))))
  refine wl_bin (fun x y => Instr.indexAt 75 x y) (.tmp 11) (.tmp 13) (.slice e.pa e.args.length e.cap) (.int .i64 ((i : Nat) : Int)) (pt bpi (opi + i * 17)) (fun _ => rfl) e40_11 e40_i (ix75 (i := i) hppi hil _) rfl ?_
  refine wl_l 77 (.tmp 15) (pt bpi (opi + i * 17)) (.agg (o.cells).toArray) (D.run_partR (hRpi.mo M).at' 77 0 17 (o.cells) rfl Tryd.underlying77 rfl sz77) ?_
  refine wl_alloc 77 #[.int .i64 0, .int .i64 0, .string ⟨#[]⟩, .string ⟨#[]⟩, .int .i64 0, .bool false, .int .u64 0, .int .u64 0, .int .u64 0, .int .u64 0, .int .i64 0, .bool false, .string ⟨#[]⟩, .int .i64 0, .int .i64 0, .int .i64 0, .slice none 0 0] rfl (fun _ => by kernel_rfl) rfl ?_
  intro k2 u41 hk hz hq Q2
  have ne_k1_k2 : k1 ≠ k2 := by have := Q1.lt; omega
  have N_k2 : w.heap.size ≤ k2 := by have := M.size; omega
  replace Q1 := Q1.mo hq
  replace M := M.trans hq
  clear hk hz hq
  refine wl_st 77 (.tmp 7) (.tmp 16) k2 0 ((o.cells).toArray) _ (o.cells) Q2 rfl rfl rfl rfl rfl sz77 rfl rfl rfl ?_
  intro u42 hS Qn
  replace Q2 := Qn
  clear Qn
  replace Q1 := hS.other _ _ ne_k1_k2 Q1
  replace M := hS.mo _ N_k2 M
  clear hS
  refine w_nil (xn_then (w_reg ?_))
  refine wl_mv (.tmp 5) (.int .i64 (z1)) (fun _ => rfl) e5 rfl ?_
  refine wl_l 77 (.tmp 7) (pt k2 0) (.agg (o.cells).toArray) (run_row Q2 77 0 17 (o.cells) rfl Tryd.underlying77 rfl sz77) ?_
  refine wl_mv (.tmp 1) (.int .i64 ((dd + 1 : Nat) : Int)) (fun _ => rfl) e40_1 rfl ?_
  refine wl_b .sub 3 (.tmp 19) (.const (.int .i64 (1))) (.int .i64 ((dd + 1 : Nat) : Int)) (.int .i64 (1)) (.int .i64 ((dd : Nat) : Int)) (sub1n hm _ _ _) ?_
  refine wl_callx 41 [(.tmp 18), (.tmp 20)] _ [.agg (o.cells).toArray, .int .i64 ((dd : Nat) : Int)] rfl rfl (fun _ _ => by kernel_rfl) (hrec o _ ((hE.ar o hmo).kp M.kp)) rfl ?_
  rintro e9 u43 ⟨z9, rfl, hq⟩
  refine ⟨_, rfl, ?_⟩
  replace Q1 := Q1.mo hq
  replace Q2 := Q2.mo hq
  replace M := M.trans hq
  clear hq
  refine wl_b .add 3 (.tmp 17) (.tmp 21) (.int .i64 (z1)) (.int .i64 (z9)) (.int .i64 (IntKind.i64.wrap (z1 + z9))) (addw _ _ _) ?_
  refine wl_m (.tmp 22) (.int .i64 (IntKind.i64.wrap (z1 + z9))) ?_
  refine w_nil (xn_blk (xn_then (w_reg ?_)))
  refine wl_bin (fun x y => do eqGuard .add 3 (.tmp 13) (.const (.int .i64 (1))) x y; binOp .add 3 x y) (.tmp 13) (.const (.int .i64 (1))) (.int .i64 ((i : Nat) : Int)) (.int .i64 (1)) (.int .i64 ((i + 1 : Nat) : Int)) (fun _ => rfl) e40_i rfl (add1r (k := i) (by omega) _ _ _) rfl ?_
  refine wl_m (.tmp 23) (.int .i64 ((i + 1 : Nat) : Int)) ?_
  refine w_nil ?_
  exact xn_loop (e.args.length - (i + 1)) (by omega) ⟨i + 1, rfl, by omega, e40_1, e40_2, e40_11, e40_12, rfl, Q1, ⟨IntKind.i64.wrap (z1 + z9), rfl⟩, M⟩
 ·skip
  have hid : decide (i < e.args.length) = false := decide_eq_false hil
  have hie : i = e.args.length := by omega
  obtain ⟨z1, e5⟩ := hz5
  refine w_seq (w_reg ?_)
  refine wl_bin (fun x y => do eqGuard .lss 3 (.tmp 13) (.tmp 12) x y; binOp .lss 3 x y) (.tmp 13) (.tmp 12) (.int .i64 ((i : Nat) : Int)) (.int .i64 ((e.args.length : Nat) : Int)) (.bool false) (fun _ => rfl) e40_i e40_12 (ltN hid _ _ _) rfl ?_
  refine w_nil (xn_then (w_seq (w_condF rfl (w_exit (xx_then (xx_then (xx_blk (xn_then (w_seq (w_reg ?_))))))))))
  refine wl_mv (.tmp 5) (.int .i64 (z1)) (fun _ => rfl) e5 rfl ?_
  refine wl_m (.tmp 24) (.int .i64 (z1)) ?_
  refine w_nil (xn_then (w_ret ?_))
  exact w_ret1 _ (.int .i64 (z1)) rfl rfl ⟨_, rfl, M⟩
theorem es_n : ∀ (m : Nat), m ≤ 1000 → ∀ (e : Ex) (w : World), LEx w e → Calls Tryd.prog 41 #[.agg e.cells.toArray, .int .i64 ((m : Nat) : Int)] w fun e9 w' => ∃ z : Int, e9 = .returned (.int .i64 z) ∧ Mo w w'
 | 0, _, _, w, _ => es_0 w
 | m + 1, h, _, w, hE => es_s (by omega) (fun o w' ho => es_n m (by omega) o w' ho) w hE
theorem si_0 {s : Se} (w : World) : Calls Tryd.prog 24 #[.agg s.cells.toArray, .int .i64 0] w fun e9 w' => ∃ z : Int, e9 = .returned (.int .i64 z) ∧ Mo w w' := by
 refine w_enter 41 Tryd.func24 Tryd.ntmps24 rfl rfl ?_
 have M : Mo w w := Mo.refl _
 refine w_seq (w_reg ?_)
 refine wl_box 45 (.tmp 0) _ (((s.cells).toArray)) rfl rfl (fun _ => by kernel_rfl) rfl ?_
 intro k1 u1 hk hz hq Q1
 have N_k1 : w.heap.size ≤ k1 := by have := M.size; omega
 replace M := M.trans hq
 clear hk hz hq
 refine wl_m (.const (.int .i64 (0))) (.int .i64 (0)) ?_
 refine w_nil (xn_then (w_seq (w_seq (w_reg ?_))))
 refine wl_m (.tmp 1) (.int .i64 0) ?_
 refine wl_b .eql 3 (.tmp 10) (.const (.int .i64 (0))) (.int .i64 0) (.int .i64 (0)) (.bool true) (eq3 (r := true) (decide_eq_true rfl) _ _ _) ?_
 refine w_nil (xn_then (w_condT rfl (w_seq (w_reg ?_))))
 refine wl_m (.const (.int .i64 (10000))) (.int .i64 (10000)) ?_
 refine w_nil (xn_then (w_ret (xr_then ?_)))
 exact w_ret1 _ (.int .i64 (10000)) rfl rfl ⟨_, rfl, M⟩
theorem si_s {s : Se} {dd : Nat} (hm : dd ≤ 1000) (hrec : ∀ (o : Se) (w : World), LSe w o → Calls Tryd.prog 24 #[.agg o.cells.toArray, .int .i64 ((dd : Nat) : Int)] w fun e9 w' => ∃ z : Int, e9 = .returned (.int .i64 z) ∧ Mo w w') (w : World) (hE : LSe w s) : Calls Tryd.prog 24 #[.agg s.cells.toArray, .int .i64 ((dd + 1 : Nat) : Int)] w fun e9 w' => ∃ z : Int, e9 = .returned (.int .i64 z) ∧ Mo w w' := by
 refine w_enter 41 Tryd.func24 Tryd.ntmps24 rfl rfl ?_
 have M : Mo w w := Mo.refl _
 refine w_seq (w_reg ?_)
 refine wl_box 45 (.tmp 0) _ (((s.cells).toArray)) rfl rfl (fun _ => by kernel_rfl) rfl ?_
 intro k1 u1 hk hz hq Q1
 have N_k1 : w.heap.size ≤ k1 := by have := M.size; omega
 replace M := M.trans hq
 clear hk hz hq
 refine wl_m (.const (.int .i64 (0))) (.int .i64 (0)) ?_
 refine w_nil (xn_then (w_seq (w_seq (w_reg ?_))))
 refine wl_m (.tmp 1) (.int .i64 ((dd + 1 : Nat) : Int)) ?_
 refine wl_b .eql 3 (.tmp 10) (.const (.int .i64 (0))) (.int .i64 ((dd + 1 : Nat) : Int)) (.int .i64 (0)) (.bool false) (eq3 (r := false) (decide_eq_false (by omega)) _ _ _) ?_
 refine w_nil (xn_then (w_condF rfl (w_skip (xn_then (w_seq (w_reg ?_))))))
 refine wl_m (.const (.int .i64 (1))) (.int .i64 (1)) ?_
 refine w_nil (xn_then (w_seq (w_seq (w_reg ?_))))
 refine wl_f 45 2 (.tmp 2) (pt k1 0) (pt k1 2) ?_
 refine wl_l 42 (.tmp 12) (pt k1 2) (.slice s.pi s.items.length s.ci) (run_one Q1 42 2 rfl Tryd.underlying42 rfl) ?_
 refine wl_val (.int .i64 ((s.items.length : Nat) : Int)) (len42 _ _ _ _ _ (by exact rfl) _ _ _ _ _ _) rfl ?_
 refine wl_m (.const (.int .i64 (0))) (.int .i64 (0)) ?_
 refine w_nil (xn_then (w_block ?_))
 have hz_i := hE.it.1
 unfold maxLen at hz_i
 refine w_loop (fun m l w1 => ∃ i : Nat, m = s.items.length - i ∧ i ≤ s.items.length ∧ look l 1 = .int .i64 ((dd + 1 : Nat) : Int) ∧ look l 2 = pt k1 0 ∧ look l 13 = .slice s.pi s.items.length s.ci ∧ look l 14 = .int .i64 ((s.items.length : Nat) : Int) ∧ look l 15 = .int .i64 ((i : Nat) : Int) ∧ At w1 k1 (s.cells) ∧ (∃ z1 : Int, look l 5 = .int .i64 z1) ∧ Mo w w1) _ ⟨0, rfl, Nat.zero_le _, rfl, rfl, rfl, rfl, rfl, Q1, ⟨1, rfl⟩, M⟩ ?_
 clear Q1 M
 rintro m l40 wl40 ⟨i, rfl, hi, e40_1, e40_2, e40_13, e40_14, e40_i, Q1, hz5, M⟩
 by_cases hil : i < s.items.length
 ·skip
  have hid : decide (i < s.items.length) = true := decide_eq_true hil
  obtain ⟨z1, e5⟩ := hz5
  obtain ⟨o, ho⟩ := get_of_lt hil
  have hmo := List.mem_of_getElem? ho
  obtain ⟨bpi, opi, hppi, hRpi⟩ := D.SL.rw hE.it ho
  refine w_seq (w_reg ?_)
  refine wl_bin (fun x y => do eqGuard .lss 3 (.tmp 15) (.tmp 14) x y; binOp .lss 3 x y) (.tmp 15) (.tmp 14) (.int .i64 ((i : Nat) : Int)) (.int .i64 ((s.items.length : Nat) : Int)) (.bool true) (fun _ => rfl) e40_i e40_14 (ltN hid _ _ _) rfl ?_
  refine w_nil (xn_then (w_seq (w_condT rfl (w_skip (xn_then (w_seq (w_block (w_seq (w_reg ?_)))))))))
  refine wl_bin (fun x y => Instr.indexAt 42 x y) (.tmp 13) (.tmp 15) (.slice s.pi s.items.length s.ci) (.int .i64 ((i : Nat) : Int)) (pt bpi (opi + i * 23)) (fun _ => rfl) e40_13 e40_i (ix42 (i := i) hppi hil _) rfl ?_
  refine wl_l 79 (.tmp 17) (pt bpi (opi + i * 23)) (.agg (o.cells).toArray) (D.run_partR (hRpi.mo M).at' 79 0 23 (o.cells) rfl Tryd.underlying79 rfl sz79) ?_
  refine wl_alloc 79 #[.string ⟨#[]⟩, .int .i64 0, .int .i64 0, .int .i64 0, .bool false, .int .i64 0, .int .i64 0, .int .i64 0, .string ⟨#[]⟩, .string ⟨#[]⟩, .int .i64 0, .bool false, .int .u64 0, .int .u64 0, .int .u64 0, .int .u64 0, .int .i64 0, .bool false, .string ⟨#[]⟩, .int .i64 0, .int .i64 0, .int .i64 0, .slice none 0 0] rfl (fun _ => by kernel_rfl) rfl ?_
  intro k2 u41 hk hz hq Q2
  have ne_k1_k2 : k1 ≠ k2 := by have := Q1.lt; omega
  have N_k2 : w.heap.size ≤ k2 := by have := M.size; omega
  replace Q1 := Q1.mo hq
  replace M := M.trans hq
  clear hk hz hq
  refine wl_st 79 (.tmp 7) (.tmp 18) k2 0 ((o.cells).toArray) _ (o.cells) Q2 rfl rfl rfl rfl rfl sz79 rfl rfl rfl ?_
  intro u42 hS Qn
  replace Q2 := Qn
  clear Qn
  replace Q1 := hS.other _ _ ne_k1_k2 Q1
  replace M := hS.mo _ N_k2 M
  clear hS
  refine w_nil (xn_then (w_reg ?_))
  refine wl_mv (.tmp 5) (.int .i64 (z1)) (fun _ => rfl) e5 rfl ?_
  refine wl_f 79 5 (.tmp 7) (pt k2 0) (pt k2 6) ?_
  refine wl_l 77 (.tmp 20) (pt k2 6) (.agg #[.int .i64 o.ex.k, .int .i64 o.ex.op, .string o.ex.nm, .string o.ex.se, .int .i64 o.ex.v.k, .bool o.ex.v.d.b, .int .u64 o.ex.v.d.n0, .int .u64 o.ex.v.d.n1, .int .u64 o.ex.v.d.n2, .int .u64 o.ex.v.d.n3, .int .i64 o.ex.v.d.s, .bool o.ex.v.f, .string o.ex.v.t, .int .i64 o.ex.v.e, .int .i64 o.ex.sc, .int .i64 o.ex.po, .slice o.ex.pa o.ex.args.length o.ex.cap]) (run_row Q2 77 6 17 _ rfl Tryd.underlying77 rfl sz77) ?_
  refine wl_callx 41 [(.tmp 21), (.const (.int .i64 (60)))] _ [.agg #[.int .i64 o.ex.k, .int .i64 o.ex.op, .string o.ex.nm, .string o.ex.se, .int .i64 o.ex.v.k, .bool o.ex.v.d.b, .int .u64 o.ex.v.d.n0, .int .u64 o.ex.v.d.n1, .int .u64 o.ex.v.d.n2, .int .u64 o.ex.v.d.n3, .int .i64 o.ex.v.d.s, .bool o.ex.v.f, .string o.ex.v.t, .int .i64 o.ex.v.e, .int .i64 o.ex.sc, .int .i64 o.ex.po, .slice o.ex.pa o.ex.args.length o.ex.cap], .int .i64 (60)] rfl rfl (fun _ _ => by kernel_rfl) (es_n 60 (by omega) o.ex _ ((hE.ex o hmo).kp M.kp)) rfl ?_
  rintro e9 u43 ⟨z9, rfl, hq⟩
  refine ⟨_, rfl, ?_⟩
  replace Q1 := Q1.mo hq
  replace Q2 := Q2.mo hq
  replace M := M.trans hq
  clear hq
  refine wl_b .add 3 (.const (.int .i64 (1))) (.tmp 22) (.int .i64 (1)) (.int .i64 (z9)) (.int .i64 (IntKind.i64.wrap (1 + z9))) (addw _ _ _) ?_
  refine wl_b .add 3 (.tmp 19) (.tmp 23) (.int .i64 (z1)) (.int .i64 (IntKind.i64.wrap (1 + z9))) (.int .i64 (IntKind.i64.wrap (z1 + IntKind.i64.wrap (1 + z9)))) (addw _ _ _) ?_
  refine wl_m (.tmp 24) (.int .i64 (IntKind.i64.wrap (z1 + IntKind.i64.wrap (1 + z9)))) ?_
  refine w_nil (xn_blk (xn_then (w_reg ?_)))
  refine wl_bin (fun x y => do eqGuard .add 3 (.tmp 15) (.const (.int .i64 (1))) x y; binOp .add 3 x y) (.tmp 15) (.const (.int .i64 (1))) (.int .i64 ((i : Nat) : Int)) (.int .i64 (1)) (.int .i64 ((i + 1 : Nat) : Int)) (fun _ => rfl) e40_i rfl (add1r (k := i) (by omega) _ _ _) rfl ?_
  refine wl_m (.tmp 25) (.int .i64 ((i + 1 : Nat) : Int)) ?_
  refine w_nil ?_
  exact xn_loop (s.items.length - (i + 1)) (by omega) ⟨i + 1, rfl, by omega, e40_1, e40_2, e40_13, e40_14, rfl, Q1, ⟨IntKind.i64.wrap (z1 + IntKind.i64.wrap (1 + z9)), rfl⟩, M⟩
 ·skip
  have hid : decide (i < s.items.length) = false := decide_eq_false hil
  have hie : i = s.items.length := by omega
  obtain ⟨z1, e5⟩ := hz5
  refine w_seq (w_reg ?_)
  refine wl_bin (fun x y => do eqGuard .lss 3 (.tmp 15) (.tmp 14) x y; binOp .lss 3 x y) (.tmp 15) (.tmp 14) (.int .i64 ((i : Nat) : Int)) (.int .i64 ((s.items.length : Nat) : Int)) (.bool false) (fun _ => rfl) e40_i e40_14 (ltN hid _ _ _) rfl ?_
  refine w_nil (xn_then (w_seq (w_condF rfl (w_exit (xx_then (xx_then (xx_blk (xn_then (w_seq (w_seq (w_reg ?_)))))))))))
  refine wl_un (fun v => Instr.fieldAt 45 v 3) (.tmp 2) (pt k1 0) (pt k1 3) (fun _ => rfl) e40_2 (by kernel_rfl) rfl ?_
  refine wl_l 43 (.tmp 26) (pt k1 3) (.slice s.pk s.kids.length s.ck) (run_one Q1 43 3 rfl Tryd.underlying43 rfl) ?_
  refine wl_val (.int .i64 ((s.kids.length : Nat) : Int)) (len43 _ _ _ _ _ (by exact rfl) _ _ _ _ _ _) rfl ?_
  refine wl_m (.const (.int .i64 (0))) (.int .i64 (0)) ?_
  refine w_nil (xn_then (w_block ?_))
  have hz_j := hE.kd.1
  unfold maxLen at hz_j
  refine w_loop (fun m l w1 => ∃ j : Nat, m = s.kids.length - j ∧ j ≤ s.kids.length ∧ look l 1 = .int .i64 ((dd + 1 : Nat) : Int) ∧ look l 2 = pt k1 0 ∧ look l 27 = .slice s.pk s.kids.length s.ck ∧ look l 28 = .int .i64 ((s.kids.length : Nat) : Int) ∧ look l 29 = .int .i64 ((j : Nat) : Int) ∧ At w1 k1 (s.cells) ∧ (∃ z1 : Int, look l 5 = .int .i64 z1) ∧ Mo w w1) _ ⟨0, rfl, Nat.zero_le _, e40_1, e40_2, rfl, rfl, rfl, Q1, ⟨z1, e5⟩, M⟩ ?_
  clear Q1 M
  rintro m l80 wl80 ⟨j, rfl, hj, e80_1, e80_2, e80_27, e80_28, e80_i, Q1, hz5, M⟩
  by_cases hjl : j < s.kids.length
  ·skip
   have hjd : decide (j < s.kids.length) = true := decide_eq_true hjl
   obtain ⟨z1, e5⟩ := hz5
   obtain ⟨o, ho⟩ := get_of_lt hjl
   have hmo := List.mem_of_getElem? ho
   obtain ⟨bpj, opj, hppj, hRpj⟩ := D.SL.rw hE.kd ho
   refine w_seq (w_reg ?_)
   refine wl_bin (fun x y => do eqGuard .lss 3 (.tmp 29) (.tmp 28) x y; binOp .lss 3 x y) (.tmp 29) (.tmp 28) (.int .i64 ((j : Nat) : Int)) (.int .i64 ((s.kids.length : Nat) : Int)) (.bool true) (fun _ => rfl) e80_i e80_28 (ltN hjd _ _ _) rfl ?_
   refine w_nil (xn_then (w_seq (w_condT rfl (w_skip (xn_then (w_seq (w_block (w_seq (w_reg ?_)))))))))
   refine wl_bin (fun x y => Instr.indexAt 43 x y) (.tmp 27) (.tmp 29) (.slice s.pk s.kids.length s.ck) (.int .i64 ((j : Nat) : Int)) (pt bpj (opj + j * 4)) (fun _ => rfl) e80_27 e80_i (ix43 (i := j) hppj hjl _) rfl ?_
   refine wl_l 45 (.tmp 31) (pt bpj (opj + j * 4)) (.agg (o.cells).toArray) (D.run_partR (hRpj.mo M).at' 45 0 4 (o.cells) rfl Tryd.underlying45 rfl sz45) ?_
   refine wl_alloc 45 #[.string ⟨#[]⟩, .int .i64 0, .slice none 0 0, .slice none 0 0] rfl (fun _ => by kernel_rfl) rfl ?_
   intro k2 u81 hk hz hq Q2
   have ne_k1_k2 : k1 ≠ k2 := by have := Q1.lt; omega
   have N_k2 : w.heap.size ≤ k2 := by have := M.size; omega
   replace Q1 := Q1.mo hq
   replace M := M.trans hq
   clear hk hz hq
   refine wl_st 45 (.tmp 9) (.tmp 32) k2 0 ((o.cells).toArray) _ (o.cells) Q2 rfl rfl rfl rfl rfl sz45 rfl rfl rfl ?_
   intro u82 hS Qn
   replace Q2 := Qn
   clear Qn
   replace Q1 := hS.other _ _ ne_k1_k2 Q1
   replace M := hS.mo _ N_k2 M
   clear hS
   refine w_nil (xn_then (w_reg ?_))
   refine wl_mv (.tmp 5) (.int .i64 (z1)) (fun _ => rfl) e5 rfl ?_
   refine wl_l 45 (.tmp 9) (pt k2 0) (.agg (o.cells).toArray) (run_row Q2 45 0 4 (o.cells) rfl Tryd.underlying45 rfl sz45) ?_
   refine wl_mv (.tmp 1) (.int .i64 ((dd + 1 : Nat) : Int)) (fun _ => rfl) e80_1 rfl ?_
   refine wl_b .sub 3 (.tmp 35) (.const (.int .i64 (1))) (.int .i64 ((dd + 1 : Nat) : Int)) (.int .i64 (1)) (.int .i64 ((dd : Nat) : Int)) (sub1n hm _ _ _) ?_
   refine wl_callx 24 [(.tmp 34), (.tmp 36)] _ [.agg (o.cells).toArray, .int .i64 ((dd : Nat) : Int)] rfl rfl (fun _ _ => by kernel_rfl) (hrec o _ ((hE.kr o hmo).kp M.kp)) rfl ?_
   rintro e9 u83 ⟨z9, rfl, hq⟩
   refine ⟨_, rfl, ?_⟩
   replace Q1 := Q1.mo hq
   replace Q2 := Q2.mo hq
   replace M := M.trans hq
   clear hq
   refine wl_b .add 3 (.tmp 33) (.tmp 37) (.int .i64 (z1)) (.int .i64 (z9)) (.int .i64 (IntKind.i64.wrap (z1 + z9))) (addw _ _ _) ?_
   refine wl_m (.tmp 38) (.int .i64 (IntKind.i64.wrap (z1 + z9))) ?_
   refine w_nil (xn_blk (xn_then (w_reg ?_)))
   refine wl_bin (fun x y => do eqGuard .add 3 (.tmp 29) (.const (.int .i64 (1))) x y; binOp .add 3 x y) (.tmp 29) (.const (.int .i64 (1))) (.int .i64 ((j : Nat) : Int)) (.int .i64 (1)) (.int .i64 ((j + 1 : Nat) : Int)) (fun _ => rfl) e80_i rfl (add1r (k := j) (by omega) _ _ _) rfl ?_
   refine wl_m (.tmp 39) (.int .i64 ((j + 1 : Nat) : Int)) ?_
   refine w_nil ?_
   exact xn_loop (s.kids.length - (j + 1)) (by omega) ⟨j + 1, rfl, by omega, e80_1, e80_2, e80_27, e80_28, rfl, Q1, ⟨IntKind.i64.wrap (z1 + z9), rfl⟩, M⟩
  ·skip
   have hjd : decide (j < s.kids.length) = false := decide_eq_false hjl
   have hje : j = s.kids.length := by omega
   obtain ⟨z1, e5⟩ := hz5
   refine w_seq (w_reg ?_)
   refine wl_bin (fun x y => do eqGuard .lss 3 (.tmp 29) (.tmp 28) x y; binOp .lss 3 x y) (.tmp 29) (.tmp 28) (.int .i64 ((j : Nat) : Int)) (.int .i64 ((s.kids.length : Nat) : Int)) (.bool false) (fun _ => rfl) e80_i e80_28 (ltN hjd _ _ _) rfl ?_
   refine w_nil (xn_then (w_seq (w_condF rfl (w_exit (xx_then (xx_then (xx_blk (xn_then (w_seq (w_reg ?_))))))))))
   refine wl_mv (.tmp 5) (.int .i64 (z1)) (fun _ => rfl) e5 rfl ?_
   refine wl_m (.tmp 40) (.int .i64 (z1)) ?_
   refine w_nil (xn_then (w_ret ?_))
   exact w_ret1 _ (.int .i64 (z1)) rfl rfl ⟨_, rfl, M⟩
theorem si_n : ∀ (m : Nat), m ≤ 1000 → ∀ (e : Se) (w : World), LSe w e → Calls Tryd.prog 24 #[.agg e.cells.toArray, .int .i64 ((m : Nat) : Int)] w fun e9 w' => ∃ z : Int, e9 = .returned (.int .i64 z) ∧ Mo w w'
 | 0, _, _, w, _ => si_0 w
 | m + 1, h, _, w, hE => si_s (by omega) (fun o w' ho => si_n m (by omega) o w' ho) w hE
theorem own_cap {w : World} {N e sz : Nat} {pa : Option Addr} {cap n : Nat} {xs : List Value} (h : w.ownsRow N e sz (.slice pa n cap) n xs) : n ≤ cap := by
 rcases h.2 with ⟨e, h0⟩ | ⟨g, c2, cur, e, hg, hb, hnc, hcm, hcs, htk⟩
 ·rw [h0]; exact Nat.zero_le _
 ·cases e; exact hnc
theorem rFlat_c (d : Df) {w : World} (hD : LDf w d) : Calls Tryd.prog 26 #[.agg (d.cells).toArray] w fun e w' => ∃ pa cap, e = .returned (.slice pa (fla d).length cap) ∧ SL w' 5 S5.cells pa (fla d) ∧ (fla d).length ≤ cap ∧ Mo w w' := by
 refine w_enter 6 Tryd.func26 Tryd.ntmps26 rfl rfl ?_
 have M : Mo w w := Mo.refl _
 refine w_seq (w_reg ?_)
 refine wl_box 49 (.tmp 0) _ (((d.cells).toArray)) rfl rfl (fun _ => by kernel_rfl) rfl ?_
 intro k1 u1 hk hz hq Q1
 have N_k1 : w.heap.size ≤ k1 := by have := M.size; omega
 replace M := M.trans hq
 clear hk hz hq
 refine wl_m (.const (.slice none 0 0)) (.slice none 0 0) ?_
 refine w_nil (xn_then (w_seq (w_reg ?_)))
 refine wl_f 49 1 (.tmp 1) (pt k1 0) (pt k1 1) ?_
 refine wl_l 45 (.tmp 3) (pt k1 1) (.agg (d.rt.cells).toArray) (run_row Q1 45 1 4 (d.rt.cells) rfl Tryd.underlying45 rfl sz45) ?_
 refine wl_callx 48 [(.const (.slice none 0 0)), (.tmp 4), (.const (.int .i64 (-1))), (.const (.int .i64 (1)))] _ [.slice none 0 0, .agg (d.rt.cells).toArray, .int .i64 (-1), .int .i64 (1)] rfl rfl (fun _ _ => by kernel_rfl) (rflat_n d.rt hD.rt [] (-1) 1 none 0 _ M ⟨rfl, Or.inl ⟨rfl, rfl⟩⟩ (by simp) (by omega) (by omega)) rfl ?_
 rintro e9 u2 ⟨pa, cap, rfl, hG⟩
 refine ⟨_, rfl, ?_⟩
 replace M := hG.mo
 refine wl_m (.tmp 5) (.slice pa (fla d).length cap) ?_
 refine w_nil (xn_then (w_ret ?_))
 exact w_ret1 _ (.slice pa (fla d).length cap) rfl rfl ⟨pa, cap, rfl, own_sl (cells := S5.cells) (fun _ => rfl) (Nat.le_trans (fla_len d) (by decide)) hG.ow, own_cap hG.ow, M⟩
end Go.Proofs.YtnffhcjmpjajlaaDoor
namespace Go.Proofs.YtnffhcjmpjajlaaDoor.V
open Go.RowKit D
structure Nms (L : List S5) : Prop where
 root : ∀ x : S5, L[0]? = some x → x.nm = ⟨#[]⟩
 sec : ∀ (n : Nat) (x : S5), L[n]? = some x → n ≠ 0 → nam x.nm = true
 kid : ∀ (m n : Nat) (x y : S5), m < n → L[m]? = some x → L[n]? = some y → 0 ≤ y.pr → x.pr = y.pr → x.nm ≠ y.nm
 itm : ∀ (n : Nat) (x : S5) (i : Nat) (y : It), L[n]? = some x → x.items[i]? = some y → nam y.nm = true
 two : ∀ (n : Nat) (x : S5) (i j : Nat) (y z : It), L[n]? = some x → i < j → x.items[i]? = some y → x.items[j]? = some z → y.nm ≠ z.nm
theorem er_none {b : Value} {e : Int} (h : erY b e = none) : e = 0 := by
 unfold erY at h
 split at h
 ·assumption
 ·cases h
theorem lk_no {al : List (ByteArray × Int)} {s : ByteArray} (h : lk al s = none) : ∀ q ∈ al, q.1 ≠ s := by
 intro q hq e
 unfold lk at h
 rw [Option.map_eq_none_iff, List.find?_eq_none] at h
 exact h q hq (decide_eq_true e)
theorem kdA_mem {L : List S5} {p : Nat} {m : Nat} {x : S5} (hx : L[m]? = some x) (hp : x.pr = p) : ∀ n, m < n → (x.nm, (m : Int)) ∈ kdA L p n
 | 0, h => absurd h (Nat.not_lt_zero m)
 | n + 1, h => by
  rw [kdA]
  by_cases e : m = n
  ·subst e; rw [hx]; dsimp only; rw [if_pos hp]; exact List.mem_cons_self ..
  ·have ih := kdA_mem hx hp n (by omega)
   cases hL : L[n]? with
   | none => exact ih
   | some y =>
    dsimp only
    split
    ·exact List.mem_cons_of_mem _ ih
    ·exact ih
theorem itA_mem {l : List It} {i : Nat} {y : It} (hy : l[i]? = some y) : ∀ n, i < n → (y.nm, y.k) ∈ itA l n
 | 0, h => absurd h (Nat.not_lt_zero i)
 | n + 1, h => by
  rw [itA]
  by_cases e : i = n
  ·subst e; rw [hy]; exact List.mem_cons_self ..
  ·have ih := itA_mem hy n (by omega)
   cases hL : l[n]? with
   | none => exact ih
   | some z => exact List.mem_cons_of_mem _ ih
theorem fs_all {α : Type} {g : Nat → Option α} {N : Nat} (h : (List.range N).findSome? g = none) : ∀ j, j < N → g j = none := fun j hj => List.findSome?_eq_none_iff.1 h j (List.mem_range.2 hj)
theorem may_nam {s : ByteArray} (h : may s = true) : nam s = true := by unfold may at h; simp at h; exact h.1
theorem nms_of {d : Df} (h : chk d = none) : Nms (fla d) ∧ (fla d).length ≤ 16 := by
 unfold chk at h
 rw [Option.or_eq_none_iff, Option.or_eq_none_iff, Option.or_eq_none_iff] at h
 obtain ⟨h0, _, hse, _⟩ := h
 have hw := whE_0 (er_none h0)
 refine ⟨?_, hw.2.2⟩
 have hall := fs_all hse
 have key : ∀ n x, (fla d)[n]? = some x → nsE (fla d) ⟨tbA d.tb d.tb.length, stI (fla d) n 0, stK (fla d) n⟩ n x = 0 ∧ ∀ i y, x.items[i]? = some y → itE (fla d) (stI (fla d) n i) n y = 0 := fun n x hx => by
  have h1 := hall n (lt_of_get hx)
  rw [seG_of hx, Option.or_eq_none_iff] at h1
  refine ⟨?_, fun i y hy => ?_⟩
  ·have h2 := er_none h1.1
   unfold seE at h2
   split at h2
   ·assumption
   ·exact h2
  ·have h2 := fs_all h1.2 i (lt_of_get hy)
   rw [ixG_of hx hy] at h2
   exact er_none h2
 refine ⟨fun x hx => ?_, fun n x hx h0 => ?_, fun m n x y hmn hx hy h0 hp => ?_, fun n x i y hx hy => ?_, fun n x i j y z hx hij hy hz => ?_⟩
 ·have h1 := (key 0 x hx).1
  unfold nsE at h1
  rw [if_pos rfl] at h1
  split at h1
  ·assumption
  ·cases h1
 ·have h1 := (key n x hx).1
  unfold nsE at h1
  rw [if_neg h0] at h1
  split at h1
  ·exact may_nam (by assumption)
  ·cases h1
 ·have h1 := (key n y hy).1
  unfold nsE at h1
  rw [if_neg (by omega)] at h1
  split at h1
  ·split at h1
   ·cases h1
   ·rename_i h3
    simp only [Bool.or_eq_true, not_or] at h3
    have h4' : lk (stK (fla d) n y.pr.toNat) y.nm = none := by simpa using h3.1
    have h4 : lk (kdA (fla d) y.pr.toNat n) y.nm = none := h4'
    exact lk_no h4 _ (kdA_mem hx (by omega) n hmn)
  ·cases h1
 ·have h1 := (key n x hx).2 i y hy
  unfold itE at h1
  split at h1
  ·exact may_nam (by assumption)
  ·cases h1
 ·have h1 := (key n x hx).2 j z hz
  unfold itE at h1
  split at h1
  ·split at h1
   ·cases h1
   ·rename_i h3
    have h4 : tkn (fla d) (stI (fla d) n j) n z.nm = false := by simpa using h3
    unfold tkn at h4
    rw [List.any_eq_false] at h4
    have h5 := h4 n (by rw [anc]; exact List.mem_cons_self ..)
    simp only [Bool.or_eq_true, not_or] at h5
    have h6 : lk (stI (fla d) n j n) z.nm = none := isn (by simpa using h5.2)
    rw [stI_self, itO_of hx] at h6
    exact lk_no h6 _ (itA_mem hy j hij)
  ·cases h1
theorem nmF_at {s : ByteArray} : ∀ (n k : Nat), nmF s n k = true → ∀ j, j < n → ltr (bt s (k + j)) = true ∨ dgt (bt s (k + j)) = true
 | 0, _, _, j, hj => absurd hj (Nat.not_lt_zero j)
 | n + 1, k, h, j, hj => by
  rw [nmF, Bool.and_eq_true] at h
  cases j with
  | zero => simpa using h.1
  | succ j => have := nmF_at n (k + 1) h.2 j (by omega); rw [show k + (j + 1) = k + 1 + j by omega]; exact this
theorem nam_at {s : ByteArray} (h : nam s = true) : 0 < s.size ∧ s.size ≤ 32 ∧ ∀ j, j < s.size → bt s j ≠ 46 ∧ bt s j ≠ 47 ∧ bt s j ≠ 58 := by
 unfold nam at h
 simp only [Bool.and_eq_true, Bool.not_eq_true', decide_eq_false_iff_not] at h
 obtain ⟨⟨⟨h1, h2⟩, _⟩, h4⟩ := h
 refine ⟨by omega, by omega, fun j hj => ?_⟩
 unfold nmAy at h4
 have := nmF_at _ _ h4 j (by omega)
 rw [Nat.zero_add] at this
 unfold ltr dgt at this
 simp at this
 omega
theorem nam_bl {s : ByteArray} (h : nam s = true) : ∀ c ∈ bl s, c ≠ 46 ∧ c ≠ 47 ∧ c ≠ 58 := by
 intro c hc
 obtain ⟨j, hj⟩ := List.getElem?_of_mem hc
 have hlt : j < s.size := by rw [← bl_len]; exact lt_of_get hj
 have h1 := bl_at hlt
 rw [hj] at h1
 have h2 := (nam_at h).2.2 j hlt
 have h3 := bt_bd s j
 have h4 : c.toNat = (bt s j).toNat := by
  rw [Option.some.inj h1, UInt8.toNat_ofNat_of_lt' (by show _ < 256; omega)]
 refine ⟨fun e => ?_, fun e => ?_, fun e => ?_⟩ <;> (rw [e] at h4; have := h4; simp at this; omega)
theorem cut_at {a b : List UInt8} {c : UInt8} {x y : List UInt8} (ha : c ∉ a) (hb : c ∉ b) (h : a ++ c :: x = b ++ c :: y) : a = b ∧ x = y := by
 induction a generalizing b with
 | nil =>
  cases b with
  | nil => simp at h; exact ⟨rfl, h⟩
  | cons d b => simp at h; exact absurd (h.1 ▸ List.mem_cons_self ..) hb
 | cons e a ih =>
  cases b with
  | nil => simp at h; exact absurd (h.1.symm ▸ List.mem_cons_self ..) ha
  | cons d b =>
   simp at h
   obtain ⟨rfl, h2⟩ := h
   have := ih (fun q => ha (List.mem_cons_of_mem _ q)) (fun q => hb (List.mem_cons_of_mem _ q)) h2
   exact ⟨by rw [this.1], this.2⟩
theorem dg_step {v : ByteArray} {i : Nat} {n : Int} {c : UInt8} {d : Nat} (hi : (bl v)[i]? = some c) (hc : c = UInt8.ofNat (48 + d)) (hd : d < 10) (hn : n ≤ 9007199254740992) : dgF v (v.size - i) i n = dgF v (v.size - (i + 1)) (i + 1) (10 * n + (d : Int)) := by
 have hlt : i < v.size := by rw [← bl_len]; exact lt_of_get hi
 have h1 := bl_at hlt
 rw [hi] at h1
 have h3 := bt_bd v i
 have h4 : bt v i = 48 + (d : Int) := by
  have h5 := congrArg UInt8.toNat (Option.some.inj h1)
  rw [UInt8.toNat_ofNat_of_lt' (show (bt v i).toNat < 256 by omega), hc, UInt8.toNat_ofNat_of_lt' (show 48 + d < 256 by omega)] at h5
  omega
 have hcc : dgC v i n = true := by unfold dgC; simp; omega
 rw [dg_on hcc, h4, show 48 + (d : Int) - 48 = (d : Int) by omega]
theorem dg_read {v : ByteArray} : ∀ (k : Nat) (n : Int) (u : List UInt8), n.toNat ≤ k → 0 ≤ n → n ≤ 9007199254740992 → bl v = Lib.itoa n ++ u → dgF v v.size 0 0 = dgF v (v.size - (Lib.itoa n).length) (Lib.itoa n).length n
 | 0, n, u, hk, h0, h1, e => by
  have : n = 0 := by omega
  subst this
  rw [it_one (by omega) (by omega)] at e ⊢
  exact dg_step (i := 0) (n := 0) (d := 0) (by rw [e]; rfl) rfl (by omega) (by omega)
 | k + 1, n, u, hk, h0, h1, e => by
  by_cases q : n ≤ 9
  ·rw [it_one h0 q] at e ⊢
   have := dg_step (v := v) (i := 0) (n := 0) (d := n.toNat) (by rw [e]; rfl) rfl (by omega) (by omega)
   rw [show 10 * (0 : Int) + (n.toNat : Int) = n by omega] at this
   exact this
  ·have hb := it_big (n := n / 10) (d := n % 10) (by omega) (by omega) (by omega)
   rw [show 10 * (n / 10) + n % 10 = n by omega] at hb
   rw [hb, List.append_assoc] at e
   rw [dg_read k (n / 10) _ (by omega) (by omega) (by omega) e]
   have := dg_step (v := v) (i := (Lib.itoa (n / 10)).length) (n := n / 10) (c := UInt8.ofNat (48 + (n % 10).toNat)) (d := (n % 10).toNat) (by rw [e, List.getElem?_append_right (Nat.le_refl _), Nat.sub_self]; rfl) rfl (by omega) (by omega)
   rw [this, hb, List.length_append]
   rw [show 10 * (n / 10) + ((n % 10).toNat : Int) = n by omega]
   rfl
def ndg (u : ByteArray) : Prop := ∀ c r, bl u = c :: r → c = 46 ∨ c = 47
theorem cid_r {n : Int} {u : ByteArray} (hi : idk n = true) (hu : ndg u) : cid (itB n ++ u) = some (n, u) := by
 have hb : 1 ≤ n ∧ n ≤ 9007199254740992 := by unfold idk at hi; simp at hi; exact hi
 have e : bl (itB n ++ u) = Lib.itoa n ++ bl u := by rw [bl_app, bl_it]
 have hsz : (itB n ++ u).size = (Lib.itoa n).length + u.size := by rw [← bl_len, e, List.length_append, bl_len]
 have h1 : dgR (itB n ++ u) = (n, (Lib.itoa n).length) := by
  unfold dgR
  rw [dg_read n.toNat n (bl u) (Nat.le_refl _) (by omega) hb.2 e]
  apply dg_stop
  unfold dgC
  cases hbu : bl u with
  | nil =>
   have : u.size = 0 := by rw [← bl_len, hbu]; rfl
   rw [decide_eq_false (by omega)]; rfl
  | cons c r =>
   have hlt : (Lib.itoa n).length < (itB n ++ u).size := by
    have : u.size = r.length + 1 := by rw [← bl_len, hbu]; rfl
    omega
   have h2 := bl_at hlt
   rw [e, List.getElem?_append_right (Nat.le_refl _), Nat.sub_self, hbu] at h2
   have h3 := bt_bd (itB n ++ u) (Lib.itoa n).length
   have h4 := congrArg UInt8.toNat (Option.some.inj h2)
   rw [UInt8.toNat_ofNat_of_lt' (show (bt (itB n ++ u) (Lib.itoa n).length).toNat < 256 by omega)] at h4
   have h5 : c.toNat = 46 ∨ c.toNat = 47 := by rcases hu c r hbu with q | q <;> (rw [q]; decide)
   rw [decide_eq_false (show ¬ 48 ≤ bt (itB n ++ u) (Lib.itoa n).length by omega)]
   simp
 have h2 := cid_s hi (congrArg Prod.fst h1) (v := itB n ++ u) (u := u) rfl
 rw [h2, h1]
 dsimp only
 have : (itB n ++ u).extract (Lib.itoa n).length (itB n ++ u).size = u := by
  apply ba_ext; rw [bl_ext, e, List.drop_left]
 rw [this]
theorem ndg_nil : ndg ⟨#[]⟩ := fun c r h => by cases h
theorem ndg_46 (u : ByteArray) : ndg (⟨#[46]⟩ ++ u) := fun c r h => by
 rw [bl_app] at h
 have : (46 : UInt8) :: bl u = c :: r := h
 simp at this
 exact .inl this.1.symm
theorem hd_bl {nm x : ByteArray} : bl (catB (catB ⟨#[47]⟩ nm) ⟨#[58]⟩ ++ x) = 47 :: (bl nm ++ 58 :: bl x) := by
 unfold catB
 rw [bl_app, bl_app, bl_app]
 show ([47] ++ bl nm ++ [58]) ++ bl x = _
 simp
theorem ndg_47 {nm x : ByteArray} : ndg (catB (catB ⟨#[47]⟩ nm) ⟨#[58]⟩ ++ x) := fun c r h => by
 rw [hd_bl] at h
 simp at h
 exact .inr h.1.symm
theorem ud_inv {l : List S5} {r : Ro} {y : S5} (h : ckR l r = 0) (h0 : ¬ r.s = 0) (hy : l[r.s.toNat]? = some y) : udR y.dp (parU l r) r.s (idR y.dp r) = r := by
 obtain ⟨hsn, _⟩ := ck_0 h
 have hz : r.s.toNat ≠ 0 := by obtain ⟨_, a, _⟩ := ck_0 h; omega
 obtain ⟨_, _, _, _, _, hd2, hd4⟩ := pr_at hsn hy hz
 unfold parU
 rw [dpA_at hy]
 obtain ⟨s, a, b, c⟩ := r
 rcases dcase hd2 hd4 with e | e | e <;> (rw [e]; simp [udR, setR, idR])
theorem vz_row {l : List S5} {s : ByteArray} : ∀ (k : Nat) (q : Ro) (R : ByteArray), q.s.toNat < k → ckR l q = 0 → s = txW l q ++ R → ndg R → (¬ q.s = 0 → vz l s q.s.toNat = ⟨q, R, true⟩) ∧ (q.s = 0 → R = s ∧ q = ro0)
 | 0, q, R, h, _, _, _ => absurd h (Nat.not_lt_zero _)
 | k + 1, q, R, h, hc, hs, hR => by
  obtain ⟨hsn, a0, a1, hi⟩ := ck_0 hc
  obtain ⟨y, hy⟩ := get_of_lt (show q.s.toNat < l.length by omega)
  refine ⟨fun h0 => ?_, fun h0 => ?_⟩
  ·obtain ⟨x, hx, p0, p1, hd, hd2, hd4⟩ := pr_at hsn hy (by omega)
   rw [dpA_at hy] at hi
   have hik := id_ok hd2 hd4 hi
   have hpc := par_ck hc h0
   have hps : (parU l q).s = y.pr := prA_at hy
   have hseg := hdz_seg (z := q.s.toNat) hy (by omega) hc (by omega)
   rw [hd_nm hy] at hseg
   have hs2 : s = txW l (parU l q) ++ (catB (catB ⟨#[47]⟩ y.nm) ⟨#[58]⟩ ++ (itB (idR y.dp q) ++ R)) := by
    rw [hs, txW_up hc h0, hseg]; simp only [ByteArray.append_assoc]
   have hcst : cst (catB (catB ⟨#[47]⟩ y.nm) ⟨#[58]⟩ ++ (itB (idR y.dp q) ++ R)) y.nm = some (idR y.dp q, R) := by
    unfold cst; rw [bgn_y, Option.bind_some]; exact cid_r hik hR
   obtain ⟨i1, i2⟩ := vz_row k (parU l q) _ (by rw [hps]; omega) hpc hs2 ndg_47
   have hvp : (vz l s y.pr.toNat).s = catB (catB ⟨#[47]⟩ y.nm) ⟨#[58]⟩ ++ (itB (idR y.dp q) ++ R) ∧ (vz l s y.pr.toNat).r = parU l q := by
    rw [hps] at i1 i2
    by_cases hp : y.pr = 0
    ·obtain ⟨e1, e2⟩ := i2 hp
     rw [hp]
     exact ⟨e1.symm, e2.symm⟩
    ·rw [i1 hp]; exact ⟨rfl, rfl⟩
   rw [vz_up hsn hy (by omega), hvp.1, hcst, hvp.2]
   have hq : ((q.s.toNat : Nat) : Int) = q.s := by omega
   dsimp only
   rw [hq, ud_inv hc h0 hy]
  ·have e1 := txW_0 (l := l) h0
   rw [e1] at hs
   refine ⟨by rw [hs]; exact (ByteArray.empty_append).symm, ?_⟩
   have hz := ids_zer hi
   rw [show q.s.toNat = 0 by omega] at hz hy
   rw [dpA_at hy, dp_root hsn hy] at hz
   obtain ⟨za, zb, zc⟩ := hz
   obtain ⟨s', a, b, c⟩ := q
   have := za (by omega); have := zb (by omega); have := zc (by omega)
   unfold ro0
   simp_all
end Go.Proofs.YtnffhcjmpjajlaaDoor.V
namespace Go.Proofs.YtnffhcjmpjajlaaDoor.V
open Go.RowKit D
theorem ar_D {l : List S5} : ∀ (k : Nat) (r : Ro) (R0 : ByteArray), r.s.toNat < k → ckR l r = 0 → ∀ (z : Int) (q : Ro), arO l z r = some q → ckR l q = 0 ∧ q.s = z ∧ ∃ Rq, txW l r ++ R0 = txW l q ++ Rq ∧ ((q = r ∧ Rq = R0) ∨ ∃ q1 R1, arO l q1.s r = some q1 ∧ ckR l q1 = 0 ∧ ¬ q1.s = 0 ∧ parU l q1 = q ∧ Rq = seg l q1 ++ R1)
 | 0, r, R0, h, _, _, _, _ => absurd h (Nat.not_lt_zero _)
 | k + 1, r, R0, h, hc, z, q, e => by
  by_cases hz : r.s = z
  ·rw [ar_hit hz] at e
   cases e
   exact ⟨hc, hz, R0, rfl, .inl ⟨rfl, rfl⟩⟩
  ·cases hp : parO l r with
   | false => rw [ar_no hz hp] at e; cases e
   | true =>
    have ht := par_t hp
    rw [ar_up hz hp] at e
    obtain ⟨i1, i2, Rq, i3, i4⟩ := ar_D k (parU l r) (seg l r ++ R0) (by omega) (par_ck hc ht.2.1) z q e
    refine ⟨i1, i2, Rq, ?_, ?_⟩
    ·rw [← i3, txW_up hc ht.2.1, ByteArray.append_assoc]
    ·rcases i4 with ⟨rfl, rfl⟩ | ⟨q1, R1, j1, j2, j3, j4, j5⟩
     ·exact .inr ⟨r, R0, ar_hit rfl, hc, ht.2.1, rfl, rfl⟩
     ·have hin := ar_in _ _ _ (Nat.le_refl _) j1
      exact .inr ⟨q1, R1, by rw [ar_up (by omega) hp]; exact j1, j2, j3, j4, j5⟩
theorem ar_root {l : List S5} : ∀ (k : Nat) (r : Ro), r.s.toNat < k → ckR l r = 0 → ∃ q, arO l 0 r = some q
 | 0, r, h, _ => absurd h (Nat.not_lt_zero _)
 | k + 1, r, h, hc => by
  by_cases hz : r.s = 0
  ·exact ⟨r, ar_hit hz⟩
  ·have hp := par_v' hc hz
   have ht := par_t hp
   rw [ar_up hz hp]
   exact ar_root k (parU l r) (by omega) (par_ck hc hz)
theorem seg_hd {l : List S5} {q : Ro} (h : ckR l q = 0) (h0 : ¬ q.s = 0) : ∃ y, l[q.s.toNat]? = some y ∧ seg l q = catB (catB ⟨#[47]⟩ y.nm) ⟨#[58]⟩ ++ itB (idR y.dp q) ∧ (parU l q).s = y.pr ∧ 0 ≤ q.s := by
 obtain ⟨hsn, a0, a1, _⟩ := ck_0 h
 obtain ⟨y, hy⟩ := get_of_lt (show q.s.toNat < l.length by omega)
 have := hdz_seg (z := q.s.toNat) hy (by omega) h (by omega)
 rw [hd_nm hy] at this
 exact ⟨y, hy, this, prA_at hy, a0⟩
theorem no58 {s : ByteArray} (h : nam s = true) : (58 : UInt8) ∉ bl s := fun q => (nam_bl h 58 q).2.2 rfl
section
variable {l : List S5} {s R0 : ByteArray} {r : Ro}
theorem only_up (hN : Nms l) (hr : ckR l r = 0) (hs : s = txW l r ++ R0) (hR : ndg R0) (hR2 : ∀ nm, cst R0 nm = none) : ∀ (k z : Nat) (y : S5), z < k → l[z]? = some y → (vz l s z).b = true → ∃ q, arO l (z : Int) r = some q
 | 0, z, y, h, _, _ => absurd h (Nat.not_lt_zero z)
 | k + 1, z, y, h, hy, hv => by
  obtain ⟨hsn, _⟩ := ck_0 hr
  by_cases h0 : z = 0
  ·subst h0; exact ar_root _ r (Nat.lt_succ_self _) hr
  ·obtain ⟨x, hx, p0, p1, hd, hd2, hd4⟩ := pr_at hsn hy h0
   have hpp : ((y.pr.toNat : Nat) : Int) = y.pr := by omega
   rw [vz_up hsn hy h0] at hv
   cases hc : cst (vz l s y.pr.toNat).s y.nm with
   | none => rw [hc] at hv; cases hv
   | some c =>
    have hb : (vz l s y.pr.toNat).b = true := by
     cases q : (vz l s y.pr.toNat).b with
     | true => rfl
     | false =>
      have := ((key hsn s (y.pr.toNat + 1) y.pr.toNat x (by omega) hx).2 q).1
      rw [this, show bg0.s = ⟨#[]⟩ from rfl, cst_0] at hc
      cases hc
    obtain ⟨qp, hqp⟩ := only_up hN hr hs hR hR2 k y.pr.toNat x (by omega) hx hb
    obtain ⟨d1, d2, Rq, d3, d4⟩ := ar_D (r.s.toNat + 1) r R0 (Nat.lt_succ_self _) hr _ qp hqp
    rw [← hs] at d3
    have hnd : ndg Rq := by
     rcases d4 with ⟨_, e⟩ | ⟨q1, R1, _, j2, j3, _, e⟩
     ·rw [e]; exact hR
     ·obtain ⟨y1, _, hse, _⟩ := seg_hd j2 j3
      rw [e, hse, ByteArray.append_assoc]; exact ndg_47
    have hvs : (vz l s y.pr.toNat).s = Rq := by
     obtain ⟨v1, v2⟩ := vz_row (qp.s.toNat + 1) qp Rq (Nat.lt_succ_self _) d1 d3 hnd
     have hq : qp.s.toNat = y.pr.toNat := by omega
     by_cases hz : qp.s = 0
     ·have : y.pr.toNat = 0 := by omega
      rw [this, (v2 hz).1]; rfl
     ·have := v1 hz
      rw [hq] at this
      rw [this]
    rw [hvs] at hc
    rcases d4 with ⟨_, e⟩ | ⟨q1, R1, j1, j2, j3, j4, e⟩
    ·rw [e, hR2] at hc; cases hc
    ·obtain ⟨y1, hy1, hse, hps, hq0⟩ := seg_hd j2 j3
     obtain ⟨v, hv1, _⟩ := cst_inv (n := c.1) (u := c.2) hc
     have hbe := bgn_s hv1
     rw [e, hse, ByteArray.append_assoc] at hbe
     have hbl := congrArg bl hbe
     rw [hd_bl, hd_bl] at hbl
     have hn1 := hN.sec _ _ hy1 (by omega)
     have hn2 := hN.sec _ _ hy h0
     have hcut := cut_at (no58 hn1) (no58 hn2) (List.cons.inj hbl).2
     have hnm : y1.nm = y.nm := ba_ext hcut.1
     have hpr : y1.pr = y.pr := by rw [← hps, j4]; omega
     have hzz : q1.s.toNat = z := by
      rcases Nat.lt_trichotomy q1.s.toNat z with q | q | q
      ·exact absurd hnm (hN.kid _ _ _ _ q hy1 hy (by omega) hpr)
      ·exact q
      ·exact absurd hnm.symm (hN.kid _ _ _ _ q hy hy1 (by omega) hpr.symm)
     have : q1.s = (z : Int) := by omega
     rw [this] at j1
     exact ⟨q1, j1⟩
theorem bqs_get (hs : snd l = true) {i : Nat} (hi : i < l.length) : (bqs l s)[i]? = some (bqS l s (bqL l s i) i) := by
 unfold bqs; rw [if_pos hs]; exact bqL_get _ _ hi
theorem known (hN : Nms l) (hr : ckR l r = 0) (h0 : ¬ r.s = 0) (hs : s = txW l r ++ R0) (hR : ndg R0) (hR2 : ∀ nm, cst R0 nm = none) : (bqs l s)[r.s.toNat]? = some ⟨r, R0, true⟩ ∧ ∀ i, i < r.s.toNat → ∀ g, (bqs l s)[i]? = some g → g.b = true → ∃ c t, bl g.s = c :: t ∧ c ≠ 46 := by
 obtain ⟨hsn, a0, a1, _⟩ := ck_0 hr
 refine ⟨?_, fun i hi g hg hb => ?_⟩
 ·rw [bqs_get hsn (by omega)]
  have := (vz_row (r.s.toNat + 1) r R0 (Nat.lt_succ_self _) hr hs hR).1 h0
  unfold vz at this
  rw [if_neg (by omega)] at this
  rw [this]
 ·obtain ⟨y, hy⟩ := get_of_lt (show i < l.length by omega)
  rw [bqs_get hsn (lt_of_get hy)] at hg
  have hg := Option.some.inj hg
  by_cases hi0 : i = 0
  ·subst hi0
   rw [bqS_0 hy] at hg
   subst hg
   have hbt := bgB_t hb
   obtain ⟨q, hq⟩ := ar_root _ r (Nat.lt_succ_self _) hr
   obtain ⟨d1, d2, Rq, d3, d4⟩ := ar_D (r.s.toNat + 1) r R0 (Nat.lt_succ_self _) hr _ q hq
   rcases d4 with ⟨e, _⟩ | ⟨q1, R1, j1, j2, j3, j4, e⟩
   ·rw [e] at d2; exact absurd d2 h0
   ·obtain ⟨y1, hy1, hse, hps, hq0⟩ := seg_hd j2 j3
    have e1 : s = catB (catB ⟨#[47]⟩ y1.nm) ⟨#[58]⟩ ++ (itB (idR y1.dp q1) ++ R1) := by
     rw [hs, d3, txW_0 d2, e, hse, ByteArray.append_assoc]; exact ByteArray.empty_append
    have e2 := bgn_s hbt
    have hbl := congrArg bl (e2.symm.trans e1)
    rw [hd_bl, bl_app] at hbl
    have hbl2 : (47 : UInt8) :: bl (bgS s ⟨#[47]⟩) = 47 :: (bl y1.nm ++ 58 :: bl (itB (idR y1.dp q1) ++ R1)) := hbl
    have hbl3 := (List.cons.inj hbl2).2
    have hn1 := hN.sec _ _ hy1 (by omega)
    have hpos := (nam_at hn1).1
    cases hb1 : bl y1.nm with
    | nil => rw [← bl_len, hb1] at hpos; exact absurd hpos (Nat.lt_irrefl _)
    | cons c t =>
     rw [hb1] at hbl3
     rw [hbt]
     exact ⟨c, _, hbl3, (nam_bl hn1 c (by rw [hb1]; exact List.mem_cons_self ..)).1⟩
  ·have hv : vz l s i = g := by unfold vz; rw [if_neg hi0]; exact hg
   obtain ⟨q, hq⟩ := only_up hN hr hs hR hR2 (i + 1) i y (Nat.lt_succ_self _) hy (by rw [hv]; exact hb)
   obtain ⟨d1, d2, Rq, d3, d4⟩ := ar_D (r.s.toNat + 1) r R0 (Nat.lt_succ_self _) hr _ q hq
   rcases d4 with ⟨e, _⟩ | ⟨q1, R1, j1, j2, j3, j4, e⟩
   ·rw [e] at d2; omega
   ·obtain ⟨y1, hy1, hse, hps, hq0⟩ := seg_hd j2 j3
    have e1 : Rq = catB (catB ⟨#[47]⟩ y1.nm) ⟨#[58]⟩ ++ (itB (idR y1.dp q1) ++ R1) := by rw [e, hse, ByteArray.append_assoc]
    have hv2 := (vz_row (q.s.toNat + 1) q Rq (Nat.lt_succ_self _) d1 (hs.trans d3) (by rw [e1]; exact ndg_47)).1 (by omega)
    rw [show q.s.toNat = i by omega, hv] at hv2
    rw [hv2]
    exact ⟨47, _, by rw [e1, hd_bl], by decide⟩
end
theorem fst_no {α : Type} {f : Nat → Option α} : ∀ n, (∀ i, i < n → f i = none) → fstN f n = none
 | 0, _ => rfl
 | n + 1, h => fst_next (fst_no n (fun i hi => h i (by omega))) (h n (by omega))
theorem cst_46 {x nm : ByteArray} : cst (⟨#[46]⟩ ++ x) nm = none := by
 cases e : cst (⟨#[46]⟩ ++ x) nm with
 | none => rfl
 | some c =>
  obtain ⟨v, h1, _⟩ := cst_inv (n := c.1) (u := c.2) e
  have := congrArg bl (bgn_s h1)
  rw [hd_bl, bl_app] at this
  have h2 : (46 : UInt8) :: bl x = 47 :: (bl nm ++ 58 :: bl v) := this
  exact absurd (List.cons.inj h2).1 (by decide)
theorem ro_root {l : List S5} {r : Ro} (h : ckR l r = 0) (h0 : r.s = 0) : r = ro0 := ((vz_row (l := l) (s := txW l r ++ ⟨#[]⟩) (r.s.toNat + 1) r ⟨#[]⟩ (Nat.lt_succ_self _) h rfl ndg_nil).2 h0).2
theorem txR_0 {l : List S5} (h : ckR l ro0 = 0) : txR l ro0 = ⟨#[47]⟩ := by unfold txR; rw [if_pos h, if_pos (txW_0 rfl)]
theorem txR_w {l : List S5} {r : Ro} (h : ckR l r = 0) (h0 : ¬ r.s = 0) : txR l r = txW l r := by unfold txR; rw [if_pos h, if_neg (txW_ne h h0)]
theorem root_get {l : List S5} {u : ByteArray} (h : ckR l ro0 = 0) : (bqs l (⟨#[47]⟩ ++ u))[0]? = some ⟨ro0, u, true⟩ ∧ 0 < (bqs l (⟨#[47]⟩ ++ u)).length := by
 obtain ⟨hsn, _, a1, _⟩ := ck_0 h
 have hl : 0 < l.length := by have : (0 : Int) < (l.length : Int) := a1; omega
 obtain ⟨y, hy⟩ := get_of_lt hl
 refine ⟨?_, by unfold bqs; rw [if_pos hsn, bqL_len]; exact hl⟩
 rw [bqs_get hsn hl, bqS_0 hy]
 unfold bgB
 rw [bgn_y]
 rfl
theorem prs_tx {l : List S5} {r : Ro} (hN : Nms l) (hr : ckR l r = 0) : prs l (txR l r) = some r := by
 rw [prs_ppr]
 unfold ppr
 by_cases h0 : r.s = 0
 ·have := ro_root hr h0
  subst this
  rw [txR_0 hr, show (⟨#[47]⟩ : ByteArray) = ⟨#[47]⟩ ++ ⟨#[]⟩ from rfl]
  obtain ⟨g1, g2⟩ := root_get (u := ⟨#[]⟩) hr
  exact fst_hit (i := 0) rfl (by rw [ppA_at g1]; rfl) _ g2
 ·obtain ⟨hsn, a0, a1, _⟩ := ck_0 hr
  rw [txR_w hr h0]
  have hk := known (s := txW l r) (R0 := ⟨#[]⟩) hN hr h0 (ByteArray.append_empty).symm ndg_nil (fun _ => cst_0)
  refine fst_hit (i := r.s.toNat) (fst_no _ (fun i hi => ?_)) (by rw [ppA_at hk.1]; rfl) _ (by unfold bqs; rw [if_pos hsn, bqL_len]; omega)
  cases hg : (bqs l (txW l r))[i]? with
  | none => unfold ppA; rw [hg]
  | some g =>
   rw [ppA_at hg]
   cases hb : g.b with
   | false => rfl
   | true =>
    obtain ⟨c, t, h1, _⟩ := hk.2 i hi g hg hb
    rw [decide_eq_false (fun e => by rw [e] at h1; cases h1)]
    rfl
theorem ifN_at {its : List It} {u : ByteArray} {k : Nat} {z : It} (hz : its[k]? = some z) (hu : z.nm = u) (h : ∀ i y, i < k → its[i]? = some y → y.nm ≠ z.nm) : ifN its u = some k := by
 unfold ifN
 refine fst_hit (i := k) (fst_no _ (fun i hi => ?_)) (by rw [ifA_at hz, if_pos hu]) _ (lt_of_get hz)
 cases hy : its[i]? with
 | none => unfold ifA; rw [hy]
 | some y => rw [ifA_at hy, if_neg (by rw [← hu]; exact h i y hi hy)]
theorem prc_tx {l : List S5} {c : Ce} (hN : Nms l) (hc : ckC l c = 0) : prc l (txC l c) = some c := by
 obtain ⟨hr, hi0, y, z, hy, hz, hn⟩ := cc_0 hc
 obtain ⟨hsn, a0, a1, _⟩ := ck_0 hr
 have ht : txC l c = txR l c.r ++ (⟨#[46]⟩ ++ z.nm) := by
  unfold txC catB; rw [if_pos hc, hn, ByteArray.append_assoc]
 have hif : ifN y.items z.nm = some c.i.toNat := ifN_at hz rfl (fun i y2 hi hy2 => hN.two _ _ _ _ _ _ hy hi hy2 hz)
 have hci : ((c.i.toNat : Nat) : Int) = c.i := by omega
 have hce : (⟨c.r, ((c.i.toNat : Nat) : Int)⟩ : Ce) = c := by rw [hci]
 rw [prc_ppc, ht]
 unfold ppc
 by_cases h0 : c.r.s = 0
 ·have e := ro_root hr h0
  rw [e] at hr
  rw [e, txR_0 hr]
  obtain ⟨g1, g2⟩ := root_get (u := ⟨#[46]⟩ ++ z.nm) hr
  rw [show c.r.s.toNat = 0 by omega] at hy
  refine fst_hit (i := 0) rfl ?_ _ g2
  rw [pcA_at g1 hy]
  show (if true = true then (bgn (⟨#[46]⟩ ++ z.nm) ⟨#[46]⟩).bind _ else none) = some c
  rw [if_pos rfl, bgn_y, Option.bind_some, hif]
  show some (⟨ro0, ((c.i.toNat : Nat) : Int)⟩ : Ce) = some c
  rw [← e, hce]
 ·rw [txR_w hr h0]
  have hk := known (s := txW l c.r ++ (⟨#[46]⟩ ++ z.nm)) (R0 := ⟨#[46]⟩ ++ z.nm) hN hr h0 rfl (ndg_46 _) (fun _ => cst_46)
  refine fst_hit (i := c.r.s.toNat) (fst_no _ (fun i hi => ?_)) ?_ _ (by unfold bqs; rw [if_pos hsn, bqL_len]; omega)
  ·cases hg : (bqs l (txW l c.r ++ (⟨#[46]⟩ ++ z.nm)))[i]? with
   | none => unfold pcA; rw [hg]
   | some g =>
    obtain ⟨y2, hy2⟩ := get_of_lt (show i < l.length by omega)
    rw [pcA_at hg hy2]
    cases hb : g.b with
    | false => rfl
    | true =>
     obtain ⟨c1, t, h1, h2⟩ := hk.2 i hi g hg hb
     rw [if_pos rfl]
     cases hbg : bgn g.s ⟨#[46]⟩ with
     | none => rfl
     | some u =>
      have := congrArg bl (bgn_s hbg)
      rw [h1, bl_app] at this
      have h3 : c1 :: t = (46 : UInt8) :: bl u := this
      exact absurd (List.cons.inj h3).1 h2
  ·rw [pcA_at hk.1 hy]
   show (if true = true then (bgn (⟨#[46]⟩ ++ z.nm) ⟨#[46]⟩).bind _ else none) = some c
   rw [if_pos rfl, bgn_y, Option.bind_some, hif]
   show some (⟨c.r, ((c.i.toNat : Nat) : Int)⟩ : Ce) = some c
   rw [hce]
theorem kid_up {l : List S5} {r : Ro} (h : ckR l r = 0) (h0 : ¬ r.s = 0) : kidE l (parU l r) r.s (idA l r) = 0 ∧ kidR l (parU l r) r.s (idA l r) = r ∧ witB l r (parU l r) = true := by
 obtain ⟨hsn, a0, a1, hi⟩ := ck_0 h
 obtain ⟨y, hy⟩ := get_of_lt (show r.s.toNat < l.length by omega)
 obtain ⟨x, hx, p0, p1, hd, hd2, hd4⟩ := pr_at hsn hy (by omega)
 rw [dpA_at hy] at hi
 have hk := kid_v (r := parU l r) (s := r.s) (n := idA l r) (par_ck h h0) (by omega) a1 hy (prA_at hy).symm (by rw [id_v h h0 hy]; exact id_ok hd2 hd4 hi)
 refine ⟨hk.1, ?_, ?_⟩
 ·rw [hk.2, id_v h h0 hy]
  exact ud_inv h h0 hy
 ·have hp := par_v' h h0
  have ht := par_t hp
  exact wit_iff.2 ⟨h, par_ck h h0, by rw [ar_up (by omega) hp]; exact ar_hit rfl⟩
theorem fla_LL {W W' : World} {d : Df} {pa : Option Addr} (hD : LDf W d) (hN : Nms (fla d)) (hS : SL W' 5 S5.cells pa (fla d)) (m : Kp W W') : LL W' pa (fla d) := by
 have hls : ∀ x ∈ fla d, LS5 W x := flt_ls d.rt hD.rt [] (-1) 1 (fun x hx => by cases hx)
 refine ⟨hS, fun x hx => (hls x hx).it.kp m, fun x hx => ?_, fun x hx y hy => ?_⟩
 ·obtain ⟨n, hn⟩ := List.getElem?_of_mem hx
  by_cases h0 : n = 0
  ·subst h0; rw [hN.root x hn]; show 0 ≤ _; omega
  ·have := (nam_at (hN.sec n x hn h0)).2.1; omega
 ·obtain ⟨n, hn⟩ := List.getElem?_of_mem hx
  obtain ⟨i, hi⟩ := List.getElem?_of_mem hy
  have := (nam_at (hN.itm n x i y hn hi)).2.1; omega
theorem pk_chk (d : Df) : Pk (chk d) := Pk.or (Pk.er _ _ _ _ _ _) (Pk.or (pk_tb _) (Pk.or (pk_se _ _) (Pk.or (pk_fo _ _) (pk_pg _ _ _))))
end Go.Proofs.YtnffhcjmpjajlaaDoor.V
