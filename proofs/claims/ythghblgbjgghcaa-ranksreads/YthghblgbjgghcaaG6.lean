/-
  Sections are entered.
-/
import Derived.Test.YthghblgbjgghcaaEn
namespace Go.Proofs.Ythghblgbjgghcaa
open Go.RowKit D
theorem sumI_drop (l : List S5) : ∀ (S : List Nat) (i : Nat), sumI l (S.drop i) ≤ sumI l S
  | [], i => by simp
  | s :: S, 0 => Nat.le_refl _
  | s :: S, i + 1 => by have := sumI_drop l S i; unfold sumI at this ⊢; simp only [List.drop_succ_cons, List.map_cons, List.sum_cons]; omega
namespace R
theorem enter_n {l : List S5} {A : Ra} {w w0 : World} {F : Fn} {hid : List (ByteArray × Int)} (hR : Rdr l A w F hid) (hK0 : Kp w0 w) (hN0 : w0.heap.size ≤ A.N) (hL : SL w0 5 S5.cells A.pl l) (hLx : ∀ x ∈ l, LS5 w0 x) (hzI : nI l < 1000000) {ps : Option Addr} {cs : Nat} {S : List Nat} (hS : Li w ps S) (hSr : ∀ s ∈ S, s < l.length) (hz : S.length < 1000000) (hb : hid.length + sumI l S ≤ 1000000) : Calls Try.prog 36 #[pt A.r 0, .slice ps S.length cs] w fun e w' => e = .returned (.tuple #[]) ∧ Rdr l A w' (entW l S (F, hid)).1 (entW l S (F, hid)).2 ∧ Mk (DE A w) w w' := by
  have hRw0 := hR
  refine calls_of (m := 9) (w_enter 67 Try.func36 Try.ntmps36 rfl rfl ?_)
  have M : Mo w w := Mo.refl _
  refine w_seq ?_
  refine w_reg ?_
  refine wl_boxO 72 (.tmp 0) (pt A.r 0) [pt A.r 0] rfl rfl (fun _ => by kernel_rfl) rfl ?_
  intro k1 u1 hk hz9 hq O1
  have Q1 := O1.at
  have N_k1 : w.heap.size ≤ k1 := by have := M.size; omega
  replace M := M.trans hq
  clear hk hz9 hq
  refine w_nil ?_
  refine xn_then ?_
  refine w_seq ?_
  refine w_reg ?_
  refine wl_mv (.tmp 1) (.slice ps S.length cs) (fun _ => rfl) rfl rfl ?_
  refine wl_callx 55 [(.tmp 9)] _ [.slice ps S.length cs] rfl rfl (fun _ _ => by kernel_rfl) (backw55 ps S.length cs _) rfl ?_
  rintro e9 u2 ⟨kc, rfl, hkc, hkcN, hq⟩
  refine ⟨_, rfl, ?_⟩
  replace Q1 := Q1.mo hq
  replace O1 := O1.mo hq
  replace M := M.trans hq
  clear hq
  refine w_nil ?_
  refine xn_then ?_
  refine w_block ?_
  have hNR : w.heap.size ≤ u2.heap.size := M.size
  have hRw := hR.mo M
  have hmb : A.mb < w.heap.size := by obtain ⟨_, h, _⟩ := hR.mt; exact h.lt
  have hnb : A.nb < w.heap.size := by obtain ⟨_, h, _⟩ := hR.st.nm; exact h.lt
  have hob : A.ob < w.heap.size := by obtain ⟨_, h, _⟩ := hR.st.ow; exact h.lt
  refine w_rg 70 #[] #[pt kc 0] rfl (fun _ _ => by kernel_rfl) (fun x : Nat × Nat => #[.int .i64 ((x.1 : Nat) : Int), .int .i64 ((x.2 : Nat) : Int)]) (fun q _ => q.1 ++ [q.2] <+: bk S) OwnF.pure (Kb kc 32 (.slice ps S.length cs) 3 1 ic ps S) (fun xs => xs = bk S) (fun pre => pre <+: bk S) S.length (back70 hkc (hS.mo M).tl (by omega)) (fun h k => h.tr k) (fun W l o o' _ hl ho ho' => Kb.put W l o o' hl ho ho') (fun _ => rfl) (EI l A w k1 S F hid) (fun _ _ _ => False) (EI.own (by omega) (by omega) (by omega) hNR) (fun _ _ _ _ _ h _ _ _ => h) ⟨by rw [show S.length - ([] : List (Nat × Nat)).length = S.length by simp, List.drop_length]; exact hRw, O1, Mk.of _ M⟩ _ ?lx (fun x => frps2 11 12 _ _) ?assign ?body ?done (fun _ _ _ _ _ _ h _ => h.elim)
  case assign =>
    intro lp x W K hK
    refine w_reg ?_
    refine wl_mv (.tmp 12) (.int .i64 ((x.2 : Nat) : Int)) (fun _ => rfl) rfl rfl ?_
    refine w_nil ?_
    exact hK
  case body =>
    rintro lp pre ⟨ix, sx⟩ W hI hT hlen
    obtain ⟨hxs, hxl⟩ := bk_next hT
    replace hxs : S[ix]? = some sx := hxs
    replace hxl : ix + 1 + pre.length = S.length := hxl
    have hR := hI.rd
    rw [show S.length - pre.length = ix + 1 by omega] at hR
    have hB1 := hI.bx
    have hMK : Mk (DE A W) W W := Mk.refl _ _
    have hRI := hR
    have hKP := kp_de hRw0 hI.mw hK0 hN0
    have hsl := hSr sx (List.mem_of_getElem? hxs)
    obtain ⟨y, hy⟩ := get_of_lt hsl
    have hfle := fsn_s hy
    have hfle2 := fsn_le l (sx + 1)
    have hbd : hid.length + sumI l (sx :: S.drop (ix + 1)) ≤ 1000000 := by rw [← drop_s hxs]; have := sumI_drop l S ix; omega
    have hLW := hL.kp hKP
    clear M O1 hRw
    have M : Mo W W := Mo.refl _
    have Q1 := hB1.at
    obtain ⟨hv0, hO0, _⟩ := hR.rc
    have QR0 := hO0.at
    obtain ⟨bp, op, hpp, hRp⟩ := D.SL.rw hLW hy
    refine w_block ?_
    refine w_seq ?_
    refine w_reg ?_
    refine wl_load 72 (.tmp 2) (pt k1 0) (pt A.r 0) rfl rfl (run_one Q1 72 0 rfl Try.underlying72 rfl) rfl ?_
    refine wl_nc (.tmp 13) A.r 0 rfl rfl rfl ?_
    refine wl_un (fun v => Instr.fieldAt 95 v 0) (.tmp 14) (pt A.r 0) (pt A.r 0) (fun _ => rfl) rfl (by kernel_rfl) rfl ?_
    refine wl_load 22 (.tmp 15) (pt A.r 0) (.slice A.pl l.length A.cl) rfl rfl (run_one QR0 22 0 rfl Try.underlying22 rfl) rfl ?_
    refine wl_mv (.tmp 5) (.int .i64 ((sx : Nat) : Int)) (fun _ => rfl) rfl rfl ?_
    refine wl_bin (fun x y => Instr.indexAt 22 x y) (.tmp 16) (.tmp 17) (.slice A.pl l.length A.cl) (.int .i64 ((sx : Nat) : Int)) (pt bp (op + sx * 5)) (fun _ => rfl) rfl rfl (ix22 (i := sx) hpp hsl _) rfl ?_
    refine wl_un (fun v => Instr.fieldAt 55 v 4) (.tmp 18) (pt bp (op + sx * 5)) (pt bp (op + sx * 5 + 4)) (fun _ => rfl) rfl (by kernel_rfl) rfl ?_
    refine wl_load 39 (.tmp 19) (pt bp (op + sx * 5 + 4)) (.slice y.pi y.items.length y.ci) rfl rfl (D.run_oneR (hRp.mo M).at' 39 4 rfl Try.underlying39 rfl) rfl ?_
    refine wl_mv (.tmp 20) (.slice y.pi y.items.length y.ci) (fun _ => rfl) rfl rfl ?_
    refine w_nil ?_
    refine xn_then ?_
    refine w_seq ?_
    refine w_reg ?_
    refine wl_mv (.tmp 6) (.slice y.pi y.items.length y.ci) (fun _ => rfl) rfl rfl ?_
    refine wl_val (.int .i64 ((y.items.length : Nat) : Int)) (len39 _ _ _ _ _ (by exact rfl) _ _ _ _ _ _) rfl ?_
    refine wl_bin (fun x y => do eqGuard .sub 3 (.tmp 22) (.const (.int .i64 (1))) x y; binOp .sub 3 x y) (.tmp 22) (.const (.int .i64 (1))) (.int .i64 ((y.items.length : Nat) : Int)) (.int .i64 (1)) (.int .i64 (((y.items.length : Nat) : Int) - 1)) (fun _ => rfl) rfl rfl (subZ (a := ((y.items.length : Nat) : Int)) (b := 1) (by omega) (by omega) _ _ _) rfl ?_
    refine wl_mv (.tmp 23) (.int .i64 (((y.items.length : Nat) : Int) - 1)) (fun _ => rfl) rfl rfl ?_
    refine w_nil ?_
    refine xn_then ?_
    refine w_block ?_
    clear QR0 hO0
    refine w_loop (fun m lf w1 => ∃ j : Nat, m = j + 1 ∧ look lf 2 = pt k1 0 ∧ look lf 5 = .int .i64 ((sx : Nat) : Int) ∧ look lf 6 = .slice y.pi y.items.length y.ci ∧ look lf 7 = .int .i64 ((j : Int) - 1) ∧ (j ≤ y.items.length) ∧ (Rdr l A w1 (entL (fsn l sx + j) (y.items.drop j) (entW l (S.drop (ix + 1)) (F, hid))).1 (entL (fsn l sx + j) (y.items.drop j) (entW l (S.drop (ix + 1)) (F, hid))).2) ∧ (Ob w1 k1 72 [pt A.r 0]) ∧ (Mk (DE A W) W w1)) _ ⟨y.items.length, rfl, rfl, rfl, rfl, rfl, Nat.le_refl _, by rw [List.drop_length]; exact hR.mo M, hB1.mo M, Mk.of _ M⟩ ?_
    clear hR hB1 hMK M Q1
    rintro m lf40 wl40 ⟨j, rfl, e40_2, e40_5, e40_6, e40_7, hj, hR, hB1, hMK⟩
    have hKPl := kp_de hRI hMK hKP hN0
    cases hd2 : decide (0 ≤ (j : Int) - 1) with
    | true =>
      have hjp := of_decide_eq_true hd2
      obtain ⟨jj, rfl⟩ : ∃ i, j = i + 1 := ⟨j - 1, by omega⟩
      have hjl : jj < y.items.length := by omega
      obtain ⟨z, hz⟩ := get_of_lt hjl
      have gj : (((jj + 1 : Nat) : Int) - 1) = ((jj : Nat) : Int) := by omega
      rw [gj] at e40_7 hd2
      have M : Mo wl40 wl40 := Mo.refl _
      have Q1 := hB1.at
      have hIt := ((hLx y (List.mem_of_getElem? hy)).it).kp hKPl
      obtain ⟨bq, oq, hpq, hRq⟩ := D.SL.rw hIt hz
      have hNw : A.N ≤ wl40.heap.size := by obtain ⟨_, h, _⟩ := hR.rc; have := h.lt; have := hR.nr; omega
      have hfj := fsn_lt hy hjl
      cases hr : rdb z.k with
      | true =>
        refine w_seq ?_
        refine w_seq ?_
        refine w_reg ?_
        refine wl_mv (.tmp 7) (.int .i64 ((jj : Nat) : Int)) (fun _ => rfl) e40_7 rfl ?_
        refine wl_bin (fun x y => do eqGuard .geq 3 (.tmp 24) (.const (.int .i64 (0))) x y; binOp .geq 3 x y) (.tmp 24) (.const (.int .i64 (0))) (.int .i64 ((jj : Nat) : Int)) (.int .i64 (0)) (.bool true) (fun _ => rfl) rfl rfl (ge3 hd2 _ _ _) rfl ?_
        refine w_nil ?_
        refine xn_then ?_
        refine w_condT rfl ?_
        refine w_skip ?_
        refine xn_then ?_
        refine w_seq ?_
        refine w_block ?_
        refine w_seq ?_
        refine w_reg ?_
        refine wl_mv (.tmp 6) (.slice y.pi y.items.length y.ci) (fun _ => rfl) e40_6 rfl ?_
        refine wl_mv (.tmp 7) (.int .i64 ((jj : Nat) : Int)) (fun _ => rfl) e40_7 rfl ?_
        refine wl_bin (fun x y => Instr.indexAt 39 x y) (.tmp 28) (.tmp 29) (.slice y.pi y.items.length y.ci) (.int .i64 ((jj : Nat) : Int)) (pt bq (oq + jj * 23)) (fun _ => rfl) rfl rfl (ix39 (i := jj) hpq hjl _) rfl ?_
        refine wl_un (fun v => Instr.fieldAt 69 v 1) (.tmp 30) (pt bq (oq + jj * 23)) (pt bq (oq + jj * 23 + 1)) (fun _ => rfl) rfl (by kernel_rfl) rfl ?_
        refine wl_load 3 (.tmp 31) (pt bq (oq + jj * 23 + 1)) (.int .i64 (z.k)) rfl rfl (D.run_oneR (hRq.mo M).at' 3 1 rfl Try.underlying3 rfl) rfl ?_
        refine wl_call 54 [(.tmp 32)] _ [.int .i64 (z.k)] (.bool true) rfl rfl (fun _ _ => by kernel_rfl) (cB hr (can_n z.k _)) rfl ?_
        intro u41 hq
        replace Q1 := Q1.mo hq
        replace M := M.trans hq
        clear hq
        refine w_nil ?_
        refine xn_then ?_
        refine w_condT rfl ?_
        refine w_seq ?_
        refine w_reg ?_
        refine wl_mv (.tmp 6) (.slice y.pi y.items.length y.ci) (fun _ => rfl) e40_6 rfl ?_
        refine wl_mv (.tmp 7) (.int .i64 ((jj : Nat) : Int)) (fun _ => rfl) e40_7 rfl ?_
        refine wl_bin (fun x y => Instr.indexAt 39 x y) (.tmp 34) (.tmp 35) (.slice y.pi y.items.length y.ci) (.int .i64 ((jj : Nat) : Int)) (pt bq (oq + jj * 23)) (fun _ => rfl) rfl rfl (ix39 (i := jj) hpq hjl _) rfl ?_
        refine wl_un (fun v => Instr.fieldAt 69 v 0) (.tmp 36) (pt bq (oq + jj * 23)) (pt bq (oq + jj * 23)) (fun _ => rfl) rfl (by kernel_rfl) rfl ?_
        refine wl_load 9 (.tmp 37) (pt bq (oq + jj * 23)) (.string z.nm) rfl rfl (D.run_oneR (hRq.mo M).at' 9 0 rfl Try.underlying9 rfl) rfl ?_
        refine wl_mv (.tmp 38) (.string z.nm) (fun _ => rfl) rfl rfl ?_
        refine w_nil ?_
        refine xn_then ?_
        refine w_seq ?_
        replace hR := hR.mo M
        replace hB1 := hB1.mo M
        replace hMK := hMK.trans M
        replace hNw := Nat.le_trans hNw M.size
        clear M
        have M : Mo u41 u41 := Mo.refl _
        obtain ⟨hv, hO, hown⟩ := hR.rc
        obtain ⟨pv, cv, rfl, _⟩ := own_form hown
        obtain ⟨am, hm1, hm2⟩ := hR.mt
        have QR := hO.at
        have hsm9 : Smos [vq (pt A.r 0), vq (pt A.r 0), vq (pt A.r 0), vq (pt A.r 7), vq (.slice pv (entL (fsn l sx + (jj + 1)) (y.items.drop (jj + 1)) (entW l (S.drop (ix + 1)) (F, hid))).2.length cv), vq (.string z.nm), vq (pt A.r 0), vq (.string z.nm), vq (.int .i64 ((entL (fsn l sx + (jj + 1)) (y.items.drop (jj + 1)) (entW l (S.drop (ix + 1)) (F, hid))).1 z.nm)), vq (.agg #[.string z.nm, .int .i64 ((entL (fsn l sx + (jj + 1)) (y.items.drop (jj + 1)) (entW l (S.drop (ix + 1)) (F, hid))).1 z.nm)]), bsq u41 [.string z.nm, .int .i64 ((entL (fsn l sx + (jj + 1)) (y.items.drop (jj + 1)) (entW l (S.drop (ix + 1)) (F, hid))).1 z.nm)], apq u41 A.N 105 2 hc pv cv (entL (fsn l sx + (jj + 1)) (y.items.drop (jj + 1)) (entW l (S.drop (ix + 1)) (F, hid))).2 (z.nm, (entL (fsn l sx + (jj + 1)) (y.items.drop (jj + 1)) (entW l (S.drop (ix + 1)) (F, hid))).1 z.nm)] := smos_cons (smo_vq _) (smos_cons (smo_vq _) (smos_cons (smo_vq _) (smos_cons (smo_vq _) (smos_cons (smo_vq _) (smos_cons (smo_vq _) (smos_cons (smo_vq _) (smos_cons (smo_vq _) (smos_cons (smo_vq _) (smos_cons (smo_vq _) (smos_cons (smo_bsq _ _) (smos_cons (smo_apq _ _ _ _ _ _ _ _ _) (smos_nil))))))))))))
        refine R.w_ogl 12 (apG u41 11 pv (entL (fsn l sx + (jj + 1)) (y.items.drop (jj + 1)) (entW l (S.drop (ix + 1)) (F, hid))).2.length cv) [vq (pt A.r 0), vq (pt A.r 0), vq (pt A.r 0), vq (pt A.r 7), vq (.slice pv (entL (fsn l sx + (jj + 1)) (y.items.drop (jj + 1)) (entW l (S.drop (ix + 1)) (F, hid))).2.length cv), vq (.string z.nm), vq (pt A.r 0), vq (.string z.nm), vq (.int .i64 ((entL (fsn l sx + (jj + 1)) (y.items.drop (jj + 1)) (entW l (S.drop (ix + 1)) (F, hid))).1 z.nm)), vq (.agg #[.string z.nm, .int .i64 ((entL (fsn l sx + (jj + 1)) (y.items.drop (jj + 1)) (entW l (S.drop (ix + 1)) (F, hid))).1 z.nm)]), bsq u41 [.string z.nm, .int .i64 ((entL (fsn l sx + (jj + 1)) (y.items.drop (jj + 1)) (entW l (S.drop (ix + 1)) (F, hid))).1 z.nm)], apq u41 A.N 105 2 hc pv cv (entL (fsn l sx + (jj + 1)) (y.items.drop (jj + 1)) (entW l (S.drop (ix + 1)) (F, hid))).2 (z.nm, (entL (fsn l sx + (jj + 1)) (y.items.drop (jj + 1)) (entW l (S.drop (ix + 1)) (F, hid))).1 z.nm)] (by kernel_rfl) (by kernel_rfl) (by kernel_rfl) (by kernel_rfl) rfl (by kernel_rfl) (fun f => ⟨fun _ => (Mo.refl _).drew, Mk.of _ ((Mo.refl _).drew)⟩) ?_ ?_
        · refine ea_cons ?_ (ea_cons ?_ (ea_cons ?_ (ea_cons ?_ (ea_cons ?_ (ea_cons ?_ (ea_cons ?_ (ea_cons ?_ (ea_cons ?_ (ea_cons ?_ (ea_cons ?_ (ea_cons ?_ (ea_nil))))))))))))
          · exact ol_eq (pt A.r 0) rfl (apG_mo (by decide)) hsm9 (fun L9 f wf hG9 hd K hK => have Q1 := hG9.2.at Q1 (fun e => by have := (own_ty hown e).two hB1.ty; cases this); go_run rfl (wo_load 72 (.tmp 2) (pt k1 0) (pt A.r 0) rfl e40_2 (run_one Q1 72 0 rfl Try.underlying72 rfl) (hK _ (Mo.refl _))))
          · exact ol_eq (pt A.r 0) rfl (apG_mo (by decide)) hsm9 (fun L9 f wf hG9 hd K hK => have Q1 := hG9.2.at Q1 (fun e => by have := (own_ty hown e).two hB1.ty; cases this); go_run rfl (wo_load 72 (.tmp 2) (pt k1 0) (pt A.r 0) rfl e40_2 (run_one Q1 72 0 rfl Try.underlying72 rfl) (hK _ (Mo.refl _))))
          · exact ol_eq (pt A.r 0) rfl (apG_mo (by decide)) hsm9 (fun L9 f wf hG9 hd K hK => go_run rfl (wo_nc (.tmp 40) A.r 0 rfl (hd 1 rfl) (hK _ (Mo.refl _))))
          · exact ol_eq (pt A.r 7) rfl (apG_mo (by decide)) hsm9 (fun L9 f wf hG9 hd K hK => go_run rfl (wo_un (fun v => Instr.fieldAt 95 v 7) (.tmp 41) (pt A.r 0) (pt A.r 7) (fun _ => rfl) (hd 2 rfl) (by kernel_rfl) (hK _ (Mo.refl _))))
          · exact ol_eq (.slice pv (entL (fsn l sx + (jj + 1)) (y.items.drop (jj + 1)) (entW l (S.drop (ix + 1)) (F, hid))).2.length cv) rfl (apG_mo (by decide)) hsm9 (fun L9 f wf hG9 hd K hK => have QR := hG9.2.at QR (fun e => by have := (own_ty hown e).two hO.ty; cases this); go_run rfl (wo_load 93 (.tmp 42) (pt A.r 7) (.slice pv (entL (fsn l sx + (jj + 1)) (y.items.drop (jj + 1)) (entW l (S.drop (ix + 1)) (F, hid))).2.length cv) rfl (hd 3 rfl) (run_one QR 93 7 rfl Try.underlying93 rfl) (hK _ (Mo.refl _))))
          · exact ol_eq (.string z.nm) rfl (apG_mo (by decide)) hsm9 (fun L9 f wf hG9 hd K hK => go_run rfl (wo_mv (.tmp 8) (.string z.nm) (fun _ => rfl) rfl (hK _ (Mo.refl _))))
          · exact ol_eq (pt A.r 0) rfl (apG_mo (by decide)) hsm9 (fun L9 f wf hG9 hd K hK => have Q1 := hG9.2.at Q1 (fun e => by have := (own_ty hown e).two hB1.ty; cases this); go_run rfl (wo_load 72 (.tmp 2) (pt k1 0) (pt A.r 0) rfl e40_2 (run_one Q1 72 0 rfl Try.underlying72 rfl) (hK _ (Mo.refl _))))
          · exact ol_eq (.string z.nm) rfl (apG_mo (by decide)) hsm9 (fun L9 f wf hG9 hd K hK => go_run rfl (wo_mv (.tmp 8) (.string z.nm) (fun _ => rfl) rfl (hK _ (Mo.refl _))))
          · exact ol_eq (.int .i64 ((entL (fsn l sx + (jj + 1)) (y.items.drop (jj + 1)) (entW l (S.drop (ix + 1)) (F, hid))).1 z.nm)) rfl (apG_mo (by decide)) hsm9 (fun L9 f wf hG9 hd K hK => go_run rfl (wo_call 56 [(.tmp 45), (.tmp 46)] _ [pt A.r 0, .string z.nm] (.int .i64 ((entL (fsn l sx + (jj + 1)) (y.items.drop (jj + 1)) (entW l (S.drop (ix + 1)) (F, hid))).1 z.nm)) rfl (li2 (hd 6 rfl) (hd 7 rfl)) (fun _ _ => by kernel_rfl) (find_w (hO.mk hG9.2 (fun e => by have := (own_ty hown e).two hO.ty; cases this)) (hm1.mk hG9.2 (fun e => hm1.nty (own_ty hown e) rfl)) hm2 z.nm) hK))
          · exact ol_eq (.agg #[.string z.nm, .int .i64 ((entL (fsn l sx + (jj + 1)) (y.items.drop (jj + 1)) (entW l (S.drop (ix + 1)) (F, hid))).1 z.nm)]) rfl (apG_mo (by decide)) hsm9 (fun L9 f wf hG9 hd K hK => go_run rfl (wo_build 105 [(0, (.tmp 44)), (1, (.tmp 47))] [(0, .string z.nm), (1, .int .i64 ((entL (fsn l sx + (jj + 1)) (y.items.drop (jj + 1)) (entW l (S.drop (ix + 1)) (F, hid))).1 z.nm))] (.agg #[.string z.nm, .int .i64 ((entL (fsn l sx + (jj + 1)) (y.items.drop (jj + 1)) (entW l (S.drop (ix + 1)) (F, hid))).1 z.nm)]) rfl (lp2 (hd 5 rfl) (hd 8 rfl)) (by kernel_rfl) (hK _ (Mo.refl _))))
          · exact ol_bs [.string z.nm, .int .i64 ((entL (fsn l sx + (jj + 1)) (y.items.drop (jj + 1)) (entW l (S.drop (ix + 1)) (F, hid))).1 z.nm)] rfl (by decide) hsm9 (fun L9 f wf hG9 hd K hK => go_run rfl (wo_bs 93 1 [(0, (.tmp 48))] [(0, .agg #[.string z.nm, .int .i64 ((entL (fsn l sx + (jj + 1)) (y.items.drop (jj + 1)) (entW l (S.drop (ix + 1)) (F, hid))).1 z.nm)])] #[.string z.nm, .int .i64 ((entL (fsn l sx + (jj + 1)) (y.items.drop (jj + 1)) (entW l (S.drop (ix + 1)) (F, hid))).1 z.nm)] 105 rfl (lp1 (hd 9 rfl)) (fun _ => by kernel_rfl) (fun k9 w9 h1 _ h3 h4 => hK k9 w9 h1 h3 h4)))
          · refine ol_ap rfl hown (fun j hj => ?_) ?_
            · match j, hj with
              | 0, _ => exact Or.inl ⟨_, rfl⟩
              | 1, _ => exact Or.inl ⟨_, rfl⟩
              | 2, _ => exact Or.inl ⟨_, rfl⟩
              | 3, _ => exact Or.inl ⟨_, rfl⟩
              | 4, _ => exact Or.inl ⟨_, rfl⟩
              | 5, _ => exact Or.inl ⟨_, rfl⟩
              | 6, _ => exact Or.inl ⟨_, rfl⟩
              | 7, _ => exact Or.inl ⟨_, rfl⟩
              | 8, _ => exact Or.inl ⟨_, rfl⟩
              | 9, _ => exact Or.inl ⟨_, rfl⟩
              | 10, _ => exact Or.inr (Or.inl ⟨_, rfl⟩)
              | 11, hj => exact absurd rfl hj
              | j + 12, _ => exact Or.inr (Or.inr rfl)
            · intro f wf hmo hd K hK
              obtain ⟨kb9, hb1, hb2, hb3⟩ := hd 10 rfl
              exact go_run rfl (wo_apG Try.underlying93 inf105 rfl (by decide) (by decide) (.tmp 43) (.tmp 49) kb9 rfl (hd 4 rfl) hb1 (own_mo hown hmo) rfl (by simp [Value.oneCell']) hb3 (by have := ent_bd (j := jj + 1) (F := F) (hid := hid) hy hbd; omega) (Nat.le_trans hNw hmo.size) hK)
        intro L9 f u42 hall9 hG9 hR9
        obtain ⟨pv2, cv2, hap1, hW2, hap2⟩ := hR9 11 rfl
        have hK9 := hG9.2
        have er0 := hR9 0 rfl
        have er1 := hR9 1 rfl
        have er2 := hR9 2 rfl
        have er3 := hR9 3 rfl
        have er4 := hR9 4 rfl
        have er5 := hR9 5 rfl
        have er6 := hR9 6 rfl
        have er7 := hR9 7 rfl
        have er8 := hR9 8 rfl
        have er9 := hR9 9 rfl
        clear hall9 hG9 hR9 hsm9
        clear QR Q1
        have hB0 := hB1
        replace hB1 := hB1.mk hK9 (fun e => by have := (own_ty hown e).two hB1.ty; cases this)
        have Q1 := hB1.at
        have hO9 := hO.mk hK9 (fun e => by have := (own_ty hown e).two hO.ty; cases this)
        have QR := hO9.at
        refine wl_nc (.tmp 39) A.r 0 rfl er0 rfl ?_
        refine wl_un (fun v => Instr.fieldAt 95 v 7) (.tmp 51) (pt A.r 0) (pt A.r 7) (fun _ => rfl) rfl (by kernel_rfl) rfl ?_
        refine wl_stO 93 (.tmp 52) (.tmp 50) A.r 7 (.slice pv2 ((entL (fsn l sx + (jj + 1)) (y.items.drop (jj + 1)) (entW l (S.drop (ix + 1)) (F, hid))).2 ++ [(z.nm, (entL (fsn l sx + (jj + 1)) (y.items.drop (jj + 1)) (entW l (S.drop (ix + 1)) (F, hid))).1 z.nm)]).length cv2) 95 _ [.slice A.pl l.length A.cl, .int .i64 ((nI l : Nat) : Int), .slice A.pf l.length A.cf, .slice A.pk l.length A.ck, .map (some A.nb), .map (some A.ob), .map (some A.mb), .slice pv2 ((entL (fsn l sx + (jj + 1)) (y.items.drop (jj + 1)) (entW l (S.drop (ix + 1)) (F, hid))).2 ++ [(z.nm, (entL (fsn l sx + (jj + 1)) (y.items.drop (jj + 1)) (entW l (S.drop (ix + 1)) (F, hid))).1 z.nm)]).length cv2] hO9 rfl rfl rfl hap1 rfl sz93 rfl rfl rfl rfl ?_
        intro u43 hK8 hO8
        replace hB1 := hB1.mk hK8 (hB1.ne hO9 (by decide))
        obtain ⟨hR2, hM2⟩ := hR.push hO hown hK9 hW2 hK8 hO8
        clear hR QR Q1 hO hown hO9 hK8 hK9 hW2 hap2 hO8 hm1 hm2 hB0 am
        replace hMK := DE.tr hMK hM2
        clear hM2
        clear M
        have M : Mo u43 u43 := Mo.refl _
        have Q1 := hB1.at
        refine w_nil ?_
        refine xn_then ?_
        obtain ⟨hv, hO, hown⟩ := hR2.rc
        obtain ⟨am, hm1, hm2⟩ := hR2.mt
        have QR := hO.at
        have hfx : (fsts l)[sx]? = some (fsn l sx) := by unfold fsts; rw [List.getElem?_map, List.getElem?_range hsl]; rfl
        have hfl9 : sx < l.length := hsl
        obtain ⟨bf, of, hpf, hRf⟩ := D.SL.rw hR2.st.fs.sl hfx
        have hsm9 : Smos [vq (pt A.r 0), vq (pt A.r 0), vq (pt A.r 6), vq (.map (some A.mb)), vq (.string z.nm), vq (pt A.r 0), vq (pt A.r 0), vq (pt A.r 2), vq (.slice A.pf l.length A.cf), vq (.int .i64 ((sx : Nat) : Int)), vq (pt bf (of + sx * 1)), vq (.int .i64 ((fsn l sx : Nat) : Int)), vq (.int .i64 ((jj : Nat) : Int)), vq (.int .i64 ((fsn l sx + jj : Nat) : Int))] := smos_cons (smo_vq _) (smos_cons (smo_vq _) (smos_cons (smo_vq _) (smos_cons (smo_vq _) (smos_cons (smo_vq _) (smos_cons (smo_vq _) (smos_cons (smo_vq _) (smos_cons (smo_vq _) (smos_cons (smo_vq _) (smos_cons (smo_vq _) (smos_cons (smo_vq _) (smos_cons (smo_vq _) (smos_cons (smo_vq _) (smos_cons (smo_vq _) (smos_nil))))))))))))))
        refine R.w_ogc 14 (fun w9 => Mo u43 w9) [vq (pt A.r 0), vq (pt A.r 0), vq (pt A.r 6), vq (.map (some A.mb)), vq (.string z.nm), vq (pt A.r 0), vq (pt A.r 0), vq (pt A.r 2), vq (.slice A.pf l.length A.cf), vq (.int .i64 ((sx : Nat) : Int)), vq (pt bf (of + sx * 1)), vq (.int .i64 ((fsn l sx : Nat) : Int)), vq (.int .i64 ((jj : Nat) : Int)), vq (.int .i64 ((fsn l sx + jj : Nat) : Int))] [] (by kernel_rfl) (by kernel_rfl) (by kernel_rfl) (by kernel_rfl) rfl (by kernel_rfl) (by kernel_rfl) (by kernel_rfl) latec_nil ((Mo.refl _).drew) ?_ ?_
        · refine ea_cons ?_ (ea_cons ?_ (ea_cons ?_ (ea_cons ?_ (ea_cons ?_ (ea_cons ?_ (ea_cons ?_ (ea_cons ?_ (ea_cons ?_ (ea_cons ?_ (ea_cons ?_ (ea_cons ?_ (ea_cons ?_ (ea_cons ?_ (ea_nil))))))))))))))
          · exact oc_eq (pt A.r 0) rfl (fun _ _ h m => h.trans m) hsm9 (fun f wf hq hd K hK => have Q1 := Q1.mo hq; go_run rfl (wo_load 72 (.tmp 2) (pt k1 0) (pt A.r 0) rfl e40_2 (run_one Q1 72 0 rfl Try.underlying72 rfl) (hK _ (Mo.refl _))))
          · exact oc_eq (pt A.r 0) rfl (fun _ _ h m => h.trans m) hsm9 (fun f wf hq hd K hK => go_run rfl (wo_nc (.tmp 53) A.r 0 rfl (hd 0 rfl) (hK _ (Mo.refl _))))
          · exact oc_eq (pt A.r 6) rfl (fun _ _ h m => h.trans m) hsm9 (fun f wf hq hd K hK => go_run rfl (wo_un (fun v => Instr.fieldAt 95 v 6) (.tmp 54) (pt A.r 0) (pt A.r 6) (fun _ => rfl) (hd 1 rfl) (by kernel_rfl) (hK _ (Mo.refl _))))
          · exact oc_eq (.map (some A.mb)) rfl (fun _ _ h m => h.trans m) hsm9 (fun f wf hq hd K hK => have QR := QR.mo hq; go_run rfl (wo_load 92 (.tmp 55) (pt A.r 6) (.map (some A.mb)) rfl (hd 2 rfl) (run_one QR 92 6 rfl Try.underlying92 rfl) (hK _ (Mo.refl _))))
          · exact oc_eq (.string z.nm) rfl (fun _ _ h m => h.trans m) hsm9 (fun f wf hq hd K hK => go_run rfl (wo_mv (.tmp 8) (.string z.nm) (fun _ => rfl) rfl (hK _ (Mo.refl _))))
          · exact oc_eq (pt A.r 0) rfl (fun _ _ h m => h.trans m) hsm9 (fun f wf hq hd K hK => have Q1 := Q1.mo hq; go_run rfl (wo_load 72 (.tmp 2) (pt k1 0) (pt A.r 0) rfl e40_2 (run_one Q1 72 0 rfl Try.underlying72 rfl) (hK _ (Mo.refl _))))
          · exact oc_eq (pt A.r 0) rfl (fun _ _ h m => h.trans m) hsm9 (fun f wf hq hd K hK => go_run rfl (wo_nc (.tmp 58) A.r 0 rfl (hd 5 rfl) (hK _ (Mo.refl _))))
          · exact oc_eq (pt A.r 2) rfl (fun _ _ h m => h.trans m) hsm9 (fun f wf hq hd K hK => go_run rfl (wo_un (fun v => Instr.fieldAt 95 v 2) (.tmp 59) (pt A.r 0) (pt A.r 2) (fun _ => rfl) (hd 6 rfl) (by kernel_rfl) (hK _ (Mo.refl _))))
          · exact oc_eq (.slice A.pf l.length A.cf) rfl (fun _ _ h m => h.trans m) hsm9 (fun f wf hq hd K hK => have QR := QR.mo hq; go_run rfl (wo_load 32 (.tmp 60) (pt A.r 2) (.slice A.pf l.length A.cf) rfl (hd 7 rfl) (run_one QR 32 2 rfl Try.underlying32 rfl) (hK _ (Mo.refl _))))
          · exact oc_eq (.int .i64 ((sx : Nat) : Int)) rfl (fun _ _ h m => h.trans m) hsm9 (fun f wf hq hd K hK => go_run rfl (wo_mv (.tmp 5) (.int .i64 ((sx : Nat) : Int)) (fun _ => rfl) e40_5 (hK _ (Mo.refl _))))
          · exact oc_eq (pt bf (of + sx * 1)) rfl (fun _ _ h m => h.trans m) hsm9 (fun f wf hq hd K hK => go_run rfl (wo_bin (fun x y => Instr.indexAt 32 x y) (.tmp 61) (.tmp 62) (.slice A.pf l.length A.cf) (.int .i64 ((sx : Nat) : Int)) (pt bf (of + sx * 1)) (fun _ => rfl) (hd 8 rfl) (hd 9 rfl) (ix32 (i := sx) hpf hfl9 _) (hK _ (Mo.refl _))))
          · exact oc_eq (.int .i64 ((fsn l sx : Nat) : Int)) rfl (fun _ _ h m => h.trans m) hsm9 (fun f wf hq hd K hK => go_run rfl (wo_load 3 (.tmp 63) (pt bf (of + sx * 1)) (.int .i64 ((fsn l sx : Nat) : Int)) rfl (hd 10 rfl) (D.run_oneR (hRf.mo (M.trans hq)).at' 3 0 rfl Try.underlying3 rfl) (hK _ (Mo.refl _))))
          · exact oc_eq (.int .i64 ((jj : Nat) : Int)) rfl (fun _ _ h m => h.trans m) hsm9 (fun f wf hq hd K hK => go_run rfl (wo_mv (.tmp 7) (.int .i64 ((jj : Nat) : Int)) (fun _ => rfl) e40_7 (hK _ (Mo.refl _))))
          · exact oc_eq (.int .i64 ((fsn l sx + jj : Nat) : Int)) rfl (fun _ _ h m => h.trans m) hsm9 (fun f wf hq hd K hK => go_run rfl (wo_bin (fun x y => do eqGuard .add 3 (.tmp 64) (.tmp 65) x y; binOp .add 3 x y) (.tmp 64) (.tmp 65) (.int .i64 ((fsn l sx : Nat) : Int)) (.int .i64 ((jj : Nat) : Int)) (.int .i64 ((fsn l sx + jj : Nat) : Int)) (fun _ => rfl) (hd 11 rfl) (hd 12 rfl) (addN (a := fsn l sx) (b := jj) (by omega) _ _ _) (hK _ (Mo.refl _))))
        intro f u44 hq hR9
        have er0 := hR9 0 rfl
        have er1 := hR9 1 rfl
        have er2 := hR9 2 rfl
        have er3 := hR9 3 rfl
        have er4 := hR9 4 rfl
        have er5 := hR9 5 rfl
        have er6 := hR9 6 rfl
        have er7 := hR9 7 rfl
        have er8 := hR9 8 rfl
        have er9 := hR9 9 rfl
        have er10 := hR9 10 rfl
        have er11 := hR9 11 rfl
        have er12 := hR9 12 rfl
        have er13 := hR9 13 rfl
        clear hR9 hsm9
        replace Q1 := Q1.mo hq
        replace QR := QR.mo hq
        replace M := M.trans hq
        clear hq
        refine wl_mupq (al := am) (.tmp 56) (.tmp 57) (.tmp 66) z.nm ((fsn l sx + jj : Nat) : Int) (hm1.mo M) kt9 Try.underlying92 rfl rfl er3 er4 er13 rfl ?_
        intro u45 hm9 hK9
        replace hB1 := (hB1.mk (Mk.of (fun _ => False) M) (fun e => e)).mk hK9 (fun e => (hm1.mo M).nec (hB1.mo M) e)
        obtain ⟨hR3, hM3⟩ := (hR2.mo M).mput hm2 hm9 hK9
        replace hMK := DE.tr (hMK.trans M) hM3
        clear hR2 QR Q1 hO hown hm1 hm2 hm9 hK9 hM3 M
        have M : Mo u45 u45 := Mo.refl _
        refine w_nil ?_
        refine xn_blk ?_
        refine xn_then ?_
        refine w_reg ?_
        refine wl_mv (.tmp 7) (.int .i64 ((jj : Nat) : Int)) (fun _ => rfl) e40_7 rfl ?_
        refine wl_bin (fun x y => do eqGuard .sub 3 (.tmp 26) (.const (.int .i64 (1))) x y; binOp .sub 3 x y) (.tmp 26) (.const (.int .i64 (1))) (.int .i64 ((jj : Nat) : Int)) (.int .i64 (1)) (.int .i64 (((jj : Nat) : Int) - 1)) (fun _ => rfl) rfl rfl (subZ (a := ((jj : Nat) : Int)) (b := 1) (by omega) (by omega) _ _ _) rfl ?_
        refine wl_mv (.tmp 27) (.int .i64 (((jj : Nat) : Int) - 1)) (fun _ => rfl) rfl rfl ?_
        refine w_nil ?_
        exact xn_loop (jj + 1) (by omega) ⟨jj, rfl, e40_2, e40_5, e40_6, rfl, by omega, by rw [entL_s hz hr]; exact hR3.mo M, hB1.mo M, hMK.trans M⟩
      | false =>
        refine w_seq ?_
        refine w_seq ?_
        refine w_reg ?_
        refine wl_mv (.tmp 7) (.int .i64 ((jj : Nat) : Int)) (fun _ => rfl) e40_7 rfl ?_
        refine wl_bin (fun x y => do eqGuard .geq 3 (.tmp 24) (.const (.int .i64 (0))) x y; binOp .geq 3 x y) (.tmp 24) (.const (.int .i64 (0))) (.int .i64 ((jj : Nat) : Int)) (.int .i64 (0)) (.bool true) (fun _ => rfl) rfl rfl (ge3 hd2 _ _ _) rfl ?_
        refine w_nil ?_
        refine xn_then ?_
        refine w_condT rfl ?_
        refine w_skip ?_
        refine xn_then ?_
        refine w_seq ?_
        refine w_block ?_
        refine w_seq ?_
        refine w_reg ?_
        refine wl_mv (.tmp 6) (.slice y.pi y.items.length y.ci) (fun _ => rfl) e40_6 rfl ?_
        refine wl_mv (.tmp 7) (.int .i64 ((jj : Nat) : Int)) (fun _ => rfl) e40_7 rfl ?_
        refine wl_bin (fun x y => Instr.indexAt 39 x y) (.tmp 28) (.tmp 29) (.slice y.pi y.items.length y.ci) (.int .i64 ((jj : Nat) : Int)) (pt bq (oq + jj * 23)) (fun _ => rfl) rfl rfl (ix39 (i := jj) hpq hjl _) rfl ?_
        refine wl_un (fun v => Instr.fieldAt 69 v 1) (.tmp 30) (pt bq (oq + jj * 23)) (pt bq (oq + jj * 23 + 1)) (fun _ => rfl) rfl (by kernel_rfl) rfl ?_
        refine wl_load 3 (.tmp 31) (pt bq (oq + jj * 23 + 1)) (.int .i64 (z.k)) rfl rfl (D.run_oneR (hRq.mo M).at' 3 1 rfl Try.underlying3 rfl) rfl ?_
        refine wl_call 54 [(.tmp 32)] _ [.int .i64 (z.k)] (.bool false) rfl rfl (fun _ _ => by kernel_rfl) (cB hr (can_n z.k _)) rfl ?_
        intro u41 hq
        replace Q1 := Q1.mo hq
        replace M := M.trans hq
        clear hq
        refine w_nil ?_
        refine xn_then ?_
        refine w_condF rfl ?_
        refine w_skip ?_
        refine xn_blk ?_
        refine xn_then ?_
        refine w_reg ?_
        refine wl_mv (.tmp 7) (.int .i64 ((jj : Nat) : Int)) (fun _ => rfl) e40_7 rfl ?_
        refine wl_bin (fun x y => do eqGuard .sub 3 (.tmp 26) (.const (.int .i64 (1))) x y; binOp .sub 3 x y) (.tmp 26) (.const (.int .i64 (1))) (.int .i64 ((jj : Nat) : Int)) (.int .i64 (1)) (.int .i64 (((jj : Nat) : Int) - 1)) (fun _ => rfl) rfl rfl (subZ (a := ((jj : Nat) : Int)) (b := 1) (by omega) (by omega) _ _ _) rfl ?_
        refine wl_mv (.tmp 27) (.int .i64 (((jj : Nat) : Int) - 1)) (fun _ => rfl) rfl rfl ?_
        refine w_nil ?_
        exact xn_loop (jj + 1) (by omega) ⟨jj, rfl, e40_2, e40_5, e40_6, rfl, by omega, by rw [entL_n hz hr]; exact hR.mo M, hB1.mo M, hMK.trans M⟩
    | false =>
      have hj0 : j = 0 := by have := of_decide_eq_false hd2; omega
      refine w_seq ?_
      refine w_seq ?_
      refine w_reg ?_
      refine wl_mv (.tmp 7) (.int .i64 ((j : Int) - 1)) (fun _ => rfl) e40_7 rfl ?_
      refine wl_bin (fun x y => do eqGuard .geq 3 (.tmp 24) (.const (.int .i64 (0))) x y; binOp .geq 3 x y) (.tmp 24) (.const (.int .i64 (0))) (.int .i64 ((j : Int) - 1)) (.int .i64 (0)) (.bool false) (fun _ => rfl) rfl rfl (ge3 hd2 _ _ _) rfl ?_
      refine w_nil ?_
      refine xn_then ?_
      refine w_condF rfl ?_
      refine w_exit ?_
      refine xx_then ?_
      refine xx_then ?_
      refine xx_blk ?_
      refine xn_blk ?_
      rw [hj0, List.drop_zero, Nat.add_zero] at hR
      have hRN : Rdr l A wl40 (entW l (S.drop ix) (F, hid)).1 (entW l (S.drop ix) (F, hid)).2 := by rw [drop_s hxs, entW, itn_eq hy]; exact hR
      exact WX.mk ⟨DE.keeps hRI (by omega) hMK, DE.kb hRI hMK, ⟨by rw [show S.length - (pre ++ [(ix, sx)]).length = ix by simp; omega]; exact hRN, hB1, DE.tr hI.mw hMK⟩⟩
  case done =>
    rintro D xs W hD rfl hI hK9
    have hR2 := hI.rd
    rw [bk_len, Nat.sub_self, List.drop_zero] at hR2
    refine xn_blk ?_
    have mD := put_mk (o' := .deferred none) hK9 rfl rfl
    exact w_end0m D rfl hK9 ⟨rfl, hR2.grown (B := u2.heap.size) (grownBy_putObj' _ _ _) mD.fz (fun r e => by cases e; exact ⟨hD, _, hK9, rfl⟩) (by omega) (by omega) (by omega), hI.mw.tr mD (fun j hj e => by omega)⟩
end R
end Go.Proofs.Ythghblgbjgghcaa
