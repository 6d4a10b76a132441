/-
  flat, newChecker.
-/
import Derived.Test.YtbanldffohopiaaS9
namespace Go.Proofs.Ytbanldffohopiaa
open Go.RowKit D
theorem flat_n (s : Se) {w : World} (hL : LSe w s) : Calls Try.prog 45 #[.agg (s.cells).toArray] w fun e w' => ∃ pa cap, e = .returned (.slice pa (flt s [] (-1) 1).length cap) ∧ Mo w w' ∧ w'.ownsRow w.heap.size 52 5 (.slice pa (flt s [] (-1) 1).length cap) (flt s [] (-1) 1).length ((flt s [] (-1) 1).flatMap S5.cells) := by
  refine w_enter 10 Try.func45 Try.ntmps45 rfl rfl ?_
  have M : Mo w w := Mo.refl _
  refine w_seq ?_
  refine w_reg ?_
  refine wl_box 25 (.tmp 0) (.agg (s.cells).toArray) (((s.cells).toArray)) rfl rfl (fun _ => by kernel_rfl) rfl ?_
  intro k1 w1 hk hz hq Q1
  have N_k1 : w.heap.size ≤ k1 := by have := M.size; omega
  replace M := M.trans hq
  clear hk hz hq
  refine wl_mv (.const (.slice none 0 0)) (.slice none 0 0) (fun _ => rfl) rfl rfl ?_
  refine w_nil ?_
  refine xn_then ?_
  refine w_seq ?_
  refine w_reg ?_
  refine wl_alloc 37 #[.slice none 0 0] rfl (fun _ => by kernel_rfl) rfl ?_
  intro k2 w2 hk hz hq Q2
  have ne_k1_k2 : k1 ≠ k2 := by have := Q1.lt; omega
  have N_k2 : w.heap.size ≤ k2 := by have := M.size; omega
  replace Q1 := Q1.mo hq
  replace M := M.trans hq
  clear hk hz hq
  refine w_nil ?_
  refine xn_then ?_
  refine w_seq ?_
  refine w_reg ?_
  refine wl_alloc 106 #[.nilFunc] rfl (fun _ => by kernel_rfl) rfl ?_
  intro k3 w3 hk hz hq Q3
  have ne_k1_k3 : k1 ≠ k3 := by have := Q1.lt; omega
  have ne_k2_k3 : k2 ≠ k3 := by have := Q2.lt; omega
  have N_k3 : w.heap.size ≤ k3 := by have := M.size; omega
  replace Q1 := Q1.mo hq
  replace Q2 := Q2.mo hq
  replace M := M.trans hq
  clear hk hz hq
  refine w_nil ?_
  refine xn_then ?_
  refine w_seq ?_
  refine w_reg ?_
  refine wl_mf (.func 62) [] [(.tmp 3), (.tmp 4)] [] [pt k2 0, pt k3 0] rfl rfl rfl rfl ?_
  refine wl_st1 106 (.tmp 4) (.tmp 5) k3 0 (.func (.func 62) #[] #[pt k2 0, pt k3 0]) [.nilFunc] [.func (.func 62) #[] #[pt k2 0, pt k3 0]] Q3 rfl rfl rfl rfl rfl sz106 rfl rfl rfl rfl ?_
  intro w4 hS Qn
  replace Q3 := Qn
  clear Qn
  replace Q1 := hS.other _ _ ne_k1_k3 Q1
  replace Q2 := hS.other _ _ ne_k2_k3 Q2
  replace M := hS.mo _ N_k3 M
  clear hS
  refine w_nil ?_
  refine xn_then ?_
  refine w_seq ?_
  refine w_reg ?_
  refine wl_load 106 (.tmp 4) (pt k3 0) (.func (.func 62) #[] #[pt k2 0, pt k3 0]) rfl rfl (run_one Q3 106 0 rfl Try.underlying106 rfl) rfl ?_
  refine wl_load 25 (.tmp 1) (pt k1 0) (.agg (s.cells).toArray) rfl rfl (run_row Q1 25 0 4 (s.cells) rfl Try.underlying25 rfl sz25) rfl ?_
  have hG3 : GA w w4 k2 k3 none 0 [] := ⟨M, Q2, Q3, ⟨rfl, Or.inl ⟨rfl, rfl⟩⟩, fun k e => by cases e⟩
  refine wl_callv 62 (.tmp 6) #[] #[pt k2 0, pt k3 0] [(.tmp 7), (.const (.int .i64 (-1))), (.const (.int .i64 (1)))] _ [.agg (s.cells).toArray, .int .i64 (-1), .int .i64 (1)] [.agg (s.cells).toArray, .int .i64 (-1), .int .i64 (1), pt k2 0, pt k3 0] rfl rfl rfl rfl (fun _ _ => by kernel_rfl) (gather_n ne_k2_k3 N_k2 s hL [] _ _ none 0 _ hG3 (by simp) (by omega) (by omega)) rfl ?_
  rintro e9 w5 ⟨rfl, pa, cap, hG4⟩
  refine ⟨_, rfl, ?_⟩
  have QF := hG4.la
  replace M := hG4.mo
  refine w_nil ?_
  refine xn_then ?_
  refine w_seq ?_
  refine w_reg ?_
  refine wl_load 37 (.tmp 3) (pt k2 0) (.slice pa (flt s [] (-1) 1).length cap) rfl rfl (run_one QF 37 0 rfl Try.underlying37 rfl) rfl ?_
  refine wl_mv (.tmp 9) (.slice pa (flt s [] (-1) 1).length cap) (fun _ => rfl) rfl rfl ?_
  refine w_nil ?_
  refine xn_then ?_
  refine w_ret ?_
  exact w_ret1 _ (.slice pa (flt s [] (-1) 1).length cap) rfl rfl ⟨pa, cap, rfl, M, hG4.ow⟩
theorem ck_new {w wA w' : World} {d : Df} {kc tb : Nat} {sp ip kp : Option Addr} {sc ic kk : Nat} {MI KI : List Nat} (hD : LDf w d) (hMw : Mo w wA) (hSL : SL wA 5 S5.cells sp (fla d)) (hOt : OM wA tb []) (hN : NW wA w' kc MI ip ic KI kp kk) (hA : At w' kc (⟨kc, d, fla d, sp, sc, tb, MI, ip, ic, KI, kp, kk⟩ : Zc).cells) (h1 : MI.length = (fla d).length) (h2 : KI.length = (fla d).length) : CK w' ⟨kc, d, fla d, sp, sc, tb, MI, ip, ic, KI, kp, kk⟩ ⟨[], fun _ => [], fun _ => []⟩ := by
  have hz := fla_len d
  have m := hMw.trans hN.mo
  refine ⟨hA, hD.kp m.kp, hSL.kp hN.mo.kp, fun x hx => (flt_ls d.rt hD.rt [] _ _ (fun _ h => by cases h) x hx).kp m.kp, own_sl (cells := mpc) (fun _ => rfl) (by show MI.length ≤ _; rw [h1]; unfold maxLen; omega) hN.ri, own_sl (cells := mpc) (fun _ => rfl) (by show KI.length ≤ _; rw [h2]; unfold maxLen; omega) hN.rk, h1, h2, hOt.mo hN.mo, fun i b e => (hN.om b (List.mem_append_left _ (List.mem_of_getElem? e))).1, fun i b e => (hN.om b (List.mem_append_right _ (List.mem_of_getElem? e))).1, List.nodup_cons.2 ⟨fun h => ?_, hN.nd⟩, fla_wf d, fun i p h => by cases h⟩
  have := (hN.om tb h).2
  have := hOt.lt
  omega
theorem newck_n (d : Df) {w : World} (hD : LDf w d) : Calls Try.prog 29 #[.agg (d.cells).toArray] w fun e w' => ∃ z : Zc, e = .returned (pt z.cb 0) ∧ z.d = d ∧ z.L = fla d ∧ Mo w w' ∧ (∀ k, z.D k → w.heap.size ≤ k) ∧ CK w' z ⟨[], fun _ => [], fun _ => []⟩ := by
  refine w_enter 40 Try.func29 Try.ntmps29 rfl rfl ?_
  have M : Mo w w := Mo.refl _
  refine w_seq ?_
  refine w_reg ?_
  refine wl_box 29 (.tmp 0) (.agg (d.cells).toArray) (((d.cells).toArray)) rfl rfl (fun _ => by kernel_rfl) rfl ?_
  intro k1 w1 hk hz hq Q1
  have N_k1 : w.heap.size ≤ k1 := by have := M.size; omega
  replace M := M.trans hq
  clear hk hz hq
  refine wl_mv (.const (.pointer none)) (.pointer none) (fun _ => rfl) rfl rfl ?_
  refine w_nil ?_
  refine xn_then ?_
  refine w_seq ?_
  have hsm : Smos [vq (.agg (d.cells).toArray), vq (pt k1 1), vq (.agg (d.rt.cells).toArray), fun u w9 => ∃ pa cap, u = .slice pa (fla d).length cap ∧ SL w9 5 S5.cells pa (fla d), fun u w9 => ∃ b, u = .map (some b) ∧ w.heap.size ≤ b ∧ OM w9 b []] := smos_cons (smo_vq _) (smos_cons (smo_vq _) (smos_cons (smo_vq _) (smos_cons (fun u a b ⟨pa, cap, h1, h2⟩ m => ⟨pa, cap, h1, h2.kp m.kp⟩) (smos_cons (fun u a b ⟨b9, h1, h2, h3⟩ m => ⟨b9, h1, h2, h3.mo m⟩) (smos_nil)))))
  have hgr : ∀ a b : World, Mo w1 a → Mo a b → Mo w1 b := fun _ _ h m => h.trans m
  refine w_ogc 5 (fun w9 => Mo w1 w9) [vq (.agg (d.cells).toArray), vq (pt k1 1), vq (.agg (d.rt.cells).toArray), fun u w9 => ∃ pa cap, u = .slice pa (fla d).length cap ∧ SL w9 5 S5.cells pa (fla d), fun u w9 => ∃ b, u = .map (some b) ∧ w.heap.size ≤ b ∧ OM w9 b []] [] (by kernel_rfl) (by kernel_rfl) (by kernel_rfl) (by kernel_rfl) rfl (by kernel_rfl) (by kernel_rfl) latec_nil ((Mo.refl _).drew) ?_ ?_
  · refine ea_cons ?_ (ea_cons ?_ (ea_cons ?_ (ea_cons ?_ (ea_cons ?_ (ea_nil)))))
    · exact oc_eq (.agg (d.cells).toArray) rfl hgr hsm (fun f wf hG9 hd K hK => have Q1 := Q1.mo hG9; go_run rfl (wo_load 29 (.tmp 1) (pt k1 0) (.agg (d.cells).toArray) rfl rfl (run_row Q1 29 0 7 (d.cells) rfl Try.underlying29 rfl sz29) (hK _ (Mo.refl _))))
    · exact oc_eq (pt k1 1) rfl hgr hsm (fun f wf hG9 hd K hK => go_run rfl (wo_un (fun v => Instr.fieldAt 29 v 1) (.tmp 1) (pt k1 0) (pt k1 1) (fun _ => rfl) rfl (by kernel_rfl) (hK _ (Mo.refl _))))
    · exact oc_eq (.agg (d.rt.cells).toArray) rfl hgr hsm (fun f wf hG9 hd K hK => have Q1 := Q1.mo hG9; go_run rfl (wo_load 25 (.tmp 5) (pt k1 1) (.agg (d.rt.cells).toArray) rfl (hd 1 rfl) (run_row Q1 25 1 4 (d.rt.cells) rfl Try.underlying25 rfl sz25) (hK _ (Mo.refl _))))
    · refine ⟨fun f wf hG9 hd K hK => ?_⟩
      refine go_run rfl (wo_callx 45 [(.tmp 6)] _ [.agg (d.rt.cells).toArray] rfl (li1 (hd 2 rfl)) (fun _ _ => by kernel_rfl) (flat_n d.rt (hD.rt.kp (M.trans hG9).kp)) ?_)
      rintro e9 w9 ⟨pa, cap, rfl, q1, q2⟩
      exact ⟨_, rfl, hK _ w9 (hG9.trans q1) ⟨pa, cap, rfl, own_sl (cells := S5.cells) (fun _ => rfl) (Nat.le_trans (fla_len d) (by decide)) q2⟩ (fun j u _ hr9 => hsm j u _ _ hr9 q1)⟩
    · refine ⟨fun f wf hG9 hd K hK => ?_⟩
      exact go_run rfl (wo_mm 91 rfl (fun b9 w9 e9 z9 q1 q2 => hK _ w9 (hG9.trans q1) ⟨b9, rfl, by have := (M.trans hG9).size; omega, q2⟩ (fun j u _ hr9 => hsm j u _ _ hr9 q1)))
  intro f9 w2 hq hR9
  obtain ⟨sp, sc, e9s, hSL⟩ := hR9 3 rfl
  obtain ⟨tb, e9m, hNt, hOt⟩ := hR9 4 rfl
  replace Q1 := Q1.mo hq
  replace M := M.trans hq
  clear hq hsm hgr
  have hMw := M
  replace M : Mo w2 w2 := Mo.refl _
  refine wl_build 94 [(0, (.tmp 4)), (1, (.tmp 7)), (2, (.tmp 8))] [(0, .agg (d.cells).toArray), (1, .slice sp (fla d).length sc), (2, .map (some tb))] (.agg #[.string d.nm, .string d.rt.nm, .int .i64 d.rt.mx, .slice d.rt.pi d.rt.items.length d.rt.ci, .slice d.rt.pk d.rt.kids.length d.rt.ck, .slice d.pt d.tb.length d.ct, .slice d.pp d.pg.length d.cp, .slice sp (fla d).length sc, .map (some tb), .slice none 0 0, .slice none 0 0]) rfl (lp3 (hR9 0 rfl) e9s e9m) (by kernel_rfl) rfl ?_
  refine wl_box 94 (.tmp 9) (.agg #[.string d.nm, .string d.rt.nm, .int .i64 d.rt.mx, .slice d.rt.pi d.rt.items.length d.rt.ci, .slice d.rt.pk d.rt.kids.length d.rt.ck, .slice d.pt d.tb.length d.ct, .slice d.pp d.pg.length d.cp, .slice sp (fla d).length sc, .map (some tb), .slice none 0 0, .slice none 0 0]) (#[.string d.nm, .string d.rt.nm, .int .i64 d.rt.mx, .slice d.rt.pi d.rt.items.length d.rt.ci, .slice d.rt.pk d.rt.kids.length d.rt.ck, .slice d.pt d.tb.length d.ct, .slice d.pp d.pg.length d.cp, .slice sp (fla d).length sc, .map (some tb), .slice none 0 0, .slice none 0 0]) rfl rfl (fun _ => by kernel_rfl) rfl ?_
  intro k2 w3 hk hz hq Q2
  have ne_k1_k2 : k1 ≠ k2 := by have := Q1.lt; omega
  have N_k2 : w2.heap.size ≤ k2 := by have := M.size; omega
  replace Q1 := Q1.mo hq
  replace M := M.trans hq
  clear hk hz hq
  refine wl_mv (.tmp 10) (pt k2 0) (fun _ => rfl) rfl rfl ?_
  refine w_nil ?_
  refine xn_then ?_
  refine w_seq ?_
  refine w_seq ?_
  refine w_reg ?_
  refine wl_mv (.tmp 3) (pt k2 0) (fun _ => rfl) rfl rfl ?_
  refine wl_nc (.tmp 11) k2 0 rfl rfl rfl ?_
  refine wl_un (fun v => Instr.fieldAt 94 v 1) (.tmp 12) (pt k2 0) (pt k2 7) (fun _ => rfl) rfl (by kernel_rfl) rfl ?_
  refine wl_load 37 (.tmp 13) (pt k2 7) (.slice sp (fla d).length sc) rfl rfl (run_one Q2 37 7 rfl Try.underlying37 rfl) rfl ?_
  refine wl_val (.int .i64 (((fla d).length : Nat) : Int)) (len37 _ _ _ _ _ (by exact rfl) _ _ _ _ _ _) rfl ?_
  refine wl_mv (.const (.int .i64 (0))) (.int .i64 (0)) (fun _ => rfl) rfl rfl ?_
  refine w_nil ?_
  refine xn_then ?_
  refine w_block ?_
  have hzl := fla_len d
  have hE0 : NW w2 w3 k2 [] none 0 [] none 0 := NW.new w2 k2 (by assumption)
  refine w_loop (fun m l w1 => ∃ i : Nat, m = (fla d).length - i ∧ i ≤ (fla d).length ∧ look l 3 = pt k2 0 ∧ look l 14 = .slice sp (fla d).length sc ∧ look l 15 = .int .i64 (((fla d).length : Nat) : Int) ∧ look l 16 = .int .i64 ((i : Nat) : Int) ∧ ∃ (MI : List Nat) (ip : Option Addr) (ic : Nat) (KI : List Nat) (kp : Option Addr) (kk : Nat), MI.length = i ∧ KI.length = i ∧ At w1 k2 (⟨k2, d, fla d, sp, sc, tb, MI, ip, ic, KI, kp, kk⟩ : Zc).cells ∧ NW w2 w1 k2 MI ip ic KI kp kk) _ ⟨0, rfl, Nat.zero_le _, rfl, rfl, rfl, rfl, ⟨[], none, 0, [], none, 0, rfl, rfl, Q2, hE0⟩⟩ ?_
  clear Q1 Q2 M
  rintro m l40 wl40 ⟨i, rfl, hi, e40_3, e40_14, e40_15, e40_i, hE⟩
  by_cases hil : i < (fla d).length
  · skip
    have hid : decide (i < (fla d).length) = true := decide_eq_true hil
    obtain ⟨MI, ip, ic, KI, kp, kk, hmi, hki, QC, hN⟩ := hE
    have M := hN.mo
    replace QC : At wl40 k2 [.string d.nm, .string d.rt.nm, .int .i64 d.rt.mx, .slice d.rt.pi d.rt.items.length d.rt.ci, .slice d.rt.pk d.rt.kids.length d.rt.ck, .slice d.pt d.tb.length d.ct, .slice d.pp d.pg.length d.cp, .slice sp (fla d).length sc, .map (some tb), .slice ip MI.length ic, .slice kp KI.length kk] := QC
    refine w_seq ?_
    refine w_reg ?_
    refine wl_bin (fun x y => do eqGuard .lss 3 (.tmp 16) (.tmp 15) x y; binOp .lss 3 x y) (.tmp 16) (.tmp 15) (.int .i64 ((i : Nat) : Int)) (.int .i64 (((fla d).length : Nat) : Int)) (.bool true) (fun _ => rfl) e40_i e40_15 (ltN hid _ _ _) rfl ?_
    refine w_nil ?_
    refine xn_then ?_
    refine w_seq ?_
    refine w_condT rfl ?_
    refine w_skip ?_
    refine xn_then ?_
    refine w_seq ?_
    refine w_block ?_
    refine w_seq ?_
    refine w_reg ?_
    refine wl_mv (.tmp 3) (pt k2 0) (fun _ => rfl) e40_3 rfl ?_
    refine wl_mv (.tmp 3) (pt k2 0) (fun _ => rfl) e40_3 rfl ?_
    refine wl_nc (.tmp 19) k2 0 rfl rfl rfl ?_
    refine wl_un (fun v => Instr.fieldAt 94 v 3) (.tmp 20) (pt k2 0) (pt k2 9) (fun _ => rfl) rfl (by kernel_rfl) rfl ?_
    refine wl_load 92 (.tmp 21) (pt k2 9) (.slice ip MI.length ic) rfl rfl (run_one QC 92 9 rfl Try.underlying92 rfl) rfl ?_
    refine wl_mm 91 rfl rfl ?_
    intro mb1 w41 hk hz9 hq hO_mb1
    have ne_k2_mb1 : k2 ≠ mb1 := by have := QC.lt; omega
    have nb_mb1 : mb1 ∉ MI ++ KI := fun h => by have := (hN.om mb1 h).1.lt; omega
    have N_mb1 : w2.heap.size ≤ mb1 := by have := M.size; omega
    replace QC := QC.mo hq
    replace hN := hN.mv hq
    replace M := M.trans hq
    clear hk hz9 hq
    refine wl_bs 92 1 [(0, (.tmp 23))] [(0, .map (some mb1))] #[.map (some mb1)] 91 rfl rfl (fun _ => by kernel_rfl) rfl ?_
    intro k3 w42 hk hz hq Q3
    have ne_k2_k3 : k2 ≠ k3 := by have := QC.lt; omega
    have N_k3 : w2.heap.size ≤ k3 := by have := M.size; omega
    replace QC := QC.mo hq
    replace hN := hN.mv hq
    replace hO_mb1 := hO_mb1.mo hq
    replace M := M.trans hq
    clear hk hz hq
    have ltc := QC.lt
    refine wl_app Try.underlying92 inf91 rfl (by decide) (.tmp 22) (.tmp 24) w2.heap.size (.slice ip MI.length ic) MI.length (MI.flatMap mpc) k3 1 1 [.map (some mb1)] rfl rfl rfl hN.ri rfl Q3 (fun u hu => by rw [List.mem_singleton.1 hu]; rfl) (by decide) (by unfold maxLen; first | omega | (simp; omega)) (by first | omega | (simp; omega)) M.size rfl ?_
    intro v9 w43 hOw hm9 hbk
    replace QC := hm9.at QC hN.oi
    obtain ⟨ip1, ic1, rfl, hN1⟩ := hN.appI hO_mb1 nb_mb1 N_mb1 ltc hOw hm9 hbk
    clear hN hOw hbk hm9 ltc
    have hN := hN1
    clear hN1
    replace M := hN.mo
    refine wl_nc (.tmp 18) k2 0 rfl rfl rfl ?_
    refine wl_un (fun v => Instr.fieldAt 94 v 3) (.tmp 26) (pt k2 0) (pt k2 9) (fun _ => rfl) rfl (by kernel_rfl) rfl ?_
    refine wl_stm1 92 (.tmp 27) (.tmp 25) k2 9 (.slice ip1 (MI ++ [mb1]).length ic1) [.string d.nm, .string d.rt.nm, .int .i64 d.rt.mx, .slice d.rt.pi d.rt.items.length d.rt.ci, .slice d.rt.pk d.rt.kids.length d.rt.ck, .slice d.pt d.tb.length d.ct, .slice d.pp d.pg.length d.cp, .slice sp (fla d).length sc, .map (some tb), .slice ip MI.length ic, .slice kp KI.length kk] [.string d.nm, .string d.rt.nm, .int .i64 d.rt.mx, .slice d.rt.pi d.rt.items.length d.rt.ci, .slice d.rt.pk d.rt.kids.length d.rt.ck, .slice d.pt d.tb.length d.ct, .slice d.pp d.pg.length d.cp, .slice sp (fla d).length sc, .map (some tb), .slice ip1 (MI ++ [mb1]).length ic1, .slice kp KI.length kk] QC rfl rfl rfl rfl rfl sz92 rfl rfl rfl rfl ?_
    intro w44 hS hm9 Qn
    replace hN := hN.st hm9 N_k2 QC
    replace QC := Qn
    clear Qn hS hm9
    replace M := hN.mo
    refine w_nil ?_
    refine xn_then ?_
    refine w_reg ?_
    refine wl_mv (.tmp 3) (pt k2 0) (fun _ => rfl) e40_3 rfl ?_
    refine wl_mv (.tmp 3) (pt k2 0) (fun _ => rfl) e40_3 rfl ?_
    refine wl_nc (.tmp 29) k2 0 rfl rfl rfl ?_
    refine wl_un (fun v => Instr.fieldAt 94 v 4) (.tmp 30) (pt k2 0) (pt k2 10) (fun _ => rfl) rfl (by kernel_rfl) rfl ?_
    refine wl_load 92 (.tmp 31) (pt k2 10) (.slice kp KI.length kk) rfl rfl (run_one QC 92 10 rfl Try.underlying92 rfl) rfl ?_
    refine wl_mm 91 rfl rfl ?_
    intro mb2 w45 hk hz9 hq hO_mb2
    have ne_k2_mb2 : k2 ≠ mb2 := by have := QC.lt; omega
    have nb_mb2 : mb2 ∉ (MI ++ [mb1]) ++ KI := fun h => by have := (hN.om mb2 h).1.lt; omega
    have N_mb2 : w2.heap.size ≤ mb2 := by have := M.size; omega
    replace QC := QC.mo hq
    replace hN := hN.mv hq
    replace M := M.trans hq
    clear hk hz9 hq
    refine wl_bs 92 1 [(0, (.tmp 33))] [(0, .map (some mb2))] #[.map (some mb2)] 91 rfl rfl (fun _ => by kernel_rfl) rfl ?_
    intro k4 w46 hk hz hq Q4
    have ne_k2_k4 : k2 ≠ k4 := by have := QC.lt; omega
    have N_k4 : w2.heap.size ≤ k4 := by have := M.size; omega
    replace QC := QC.mo hq
    replace hN := hN.mv hq
    replace hO_mb2 := hO_mb2.mo hq
    replace M := M.trans hq
    clear hk hz hq
    have ltc := QC.lt
    refine wl_app Try.underlying92 inf91 rfl (by decide) (.tmp 32) (.tmp 34) w2.heap.size (.slice kp KI.length kk) KI.length (KI.flatMap mpc) k4 1 1 [.map (some mb2)] rfl rfl rfl hN.rk rfl Q4 (fun u hu => by rw [List.mem_singleton.1 hu]; rfl) (by decide) (by unfold maxLen; first | omega | (simp; omega)) (by first | omega | (simp; omega)) M.size rfl ?_
    intro v9 w47 hOw hm9 hbk
    replace QC := hm9.at QC hN.ok
    obtain ⟨kp1, kk1, rfl, hN1⟩ := hN.appK hO_mb2 nb_mb2 N_mb2 ltc hOw hm9 hbk
    clear hN hOw hbk hm9 ltc
    have hN := hN1
    clear hN1
    replace M := hN.mo
    refine wl_nc (.tmp 28) k2 0 rfl rfl rfl ?_
    refine wl_un (fun v => Instr.fieldAt 94 v 4) (.tmp 36) (pt k2 0) (pt k2 10) (fun _ => rfl) rfl (by kernel_rfl) rfl ?_
    refine wl_stm1 92 (.tmp 37) (.tmp 35) k2 10 (.slice kp1 (KI ++ [mb2]).length kk1) [.string d.nm, .string d.rt.nm, .int .i64 d.rt.mx, .slice d.rt.pi d.rt.items.length d.rt.ci, .slice d.rt.pk d.rt.kids.length d.rt.ck, .slice d.pt d.tb.length d.ct, .slice d.pp d.pg.length d.cp, .slice sp (fla d).length sc, .map (some tb), .slice ip1 (MI ++ [mb1]).length ic1, .slice kp KI.length kk] [.string d.nm, .string d.rt.nm, .int .i64 d.rt.mx, .slice d.rt.pi d.rt.items.length d.rt.ci, .slice d.rt.pk d.rt.kids.length d.rt.ck, .slice d.pt d.tb.length d.ct, .slice d.pp d.pg.length d.cp, .slice sp (fla d).length sc, .map (some tb), .slice ip1 (MI ++ [mb1]).length ic1, .slice kp1 (KI ++ [mb2]).length kk1] QC rfl rfl rfl rfl rfl sz92 rfl rfl rfl rfl ?_
    intro w48 hS hm9 Qn
    replace hN := hN.st hm9 N_k2 QC
    replace QC := Qn
    clear Qn hS hm9
    replace M := hN.mo
    refine w_nil ?_
    refine xn_blk ?_
    refine xn_then ?_
    refine w_reg ?_
    refine wl_bin (fun x y => do eqGuard .add 3 (.tmp 16) (.const (.int .i64 (1))) x y; binOp .add 3 x y) (.tmp 16) (.const (.int .i64 (1))) (.int .i64 ((i : Nat) : Int)) (.int .i64 (1)) (.int .i64 ((i + 1 : Nat) : Int)) (fun _ => rfl) e40_i rfl (add1r (k := i) (by omega) _ _ _) rfl ?_
    refine wl_mv (.tmp 38) (.int .i64 ((i + 1 : Nat) : Int)) (fun _ => rfl) rfl rfl ?_
    refine w_nil ?_
    exact xn_loop ((fla d).length - (i + 1)) (by omega) ⟨i + 1, rfl, by omega, e40_3, e40_14, e40_15, rfl, ⟨_, _, _, _, _, _, by simp; omega, by simp; omega, QC, hN⟩⟩
  · skip
    have hid : decide (i < (fla d).length) = false := decide_eq_false hil
    have hie : i = (fla d).length := by omega
    obtain ⟨MI, ip, ic, KI, kp, kk, hmi, hki, QC, hN⟩ := hE
    have M := hN.mo
    refine w_seq ?_
    refine w_reg ?_
    refine wl_bin (fun x y => do eqGuard .lss 3 (.tmp 16) (.tmp 15) x y; binOp .lss 3 x y) (.tmp 16) (.tmp 15) (.int .i64 ((i : Nat) : Int)) (.int .i64 (((fla d).length : Nat) : Int)) (.bool false) (fun _ => rfl) e40_i e40_15 (ltN hid _ _ _) rfl ?_
    refine w_nil ?_
    refine xn_then ?_
    refine w_seq ?_
    refine w_condF rfl ?_
    refine w_exit ?_
    refine xx_then ?_
    refine xx_then ?_
    refine xx_blk ?_
    refine xn_then ?_
    refine w_seq ?_
    refine w_reg ?_
    refine wl_mv (.tmp 3) (pt k2 0) (fun _ => rfl) e40_3 rfl ?_
    refine wl_mv (.tmp 39) (pt k2 0) (fun _ => rfl) rfl rfl ?_
    refine w_nil ?_
    refine xn_then ?_
    refine w_ret ?_
    exact w_ret1 _ (pt k2 0) rfl rfl ⟨⟨k2, d, fla d, sp, sc, tb, MI, ip, ic, KI, kp, kk⟩, rfl, rfl, rfl, hMw.trans M, (fun k hk => by rcases List.mem_cons.1 hk with e | hk; exact (by rw [e]; exact hNt); exact Nat.le_trans hMw.size (hN.om k hk).2), ck_new hD hMw hSL hOt hN QC (by omega) (by omega)⟩
end Go.Proofs.Ytbanldffohopiaa
