/-
  A section and its kids are gone through.
-/
import Derived.Test.YthghblgbjgghcaaGy
namespace Go.Proofs.Ythghblgbjgghcaa
open Go.RowKit D
theorem take_get {L : List Nat} {i j u x : Nat} (hx : L[i]? = some x) (hj : (L.take (i + 1))[j]? = some u) : (L.take i)[j]? = some u ∨ u = x := by
  rw [List.take_add_one, hx] at hj
  rcases Nat.lt_or_ge j (L.take i).length with q | q
  · rw [List.getElem?_append_left q] at hj; exact Or.inl hj
  · rw [List.getElem?_append_right q] at hj
    have h := List.mem_of_getElem? hj
    simp at h; exact Or.inr h
theorem rdI_len (l : List S5) (s : Nat) (F : Fn) (z : It) : (rdI l s F z).length ≤ nI l := by
  unfold rdI; split
  · simp
  · exact ris_len _ _
theorem gather_n {w0 : World} {l : List S5} {A : Ra} {G : Gd} (hN : w0.heap.size ≤ A.N) (hL : SL w0 5 S5.cells A.pl l) (hLx : ∀ x ∈ l, LS5 w0 x) (hz : l.length < 1000000) (hzI : nI l < 1000000) (hnd : ∀ y ∈ l, ∀ z ∈ y.items, nd z.ex ≤ 3000000) : ∀ (n : Nat) {E : List Bool} {V : List Iz} {hid : List (ByteArray × Int)} {s : Nat} {w : World}, cfl E ≤ n → s < l.length → Gs w0 l A G w E V (FM l (par l s)) hid → hid.length + rem l E ≤ 1000000 → Calls Try.prog 65 #[.int .i64 ((s : Nat) : Int), pt G.kE 0, pt G.kQ 0, pt G.kL 0, pt G.kA 0, pt G.kG 0] w fun e w' => e = .returned (.tuple #[]) ∧ ∃ E' V', Gs w0 l A G w' E' V' (FM l (par l s)) hid ∧ Mk (DG A G w) w w' ∧ Gx l E (V.map Iz.L) E' (V'.map Iz.L) ∧ E'[s]? = some true := by
  intro n
  induction n using Nat.strongRecOn with
  | ind n ih0 =>
  intro E V hid s w hn hs hG hb
  have ih : ∀ {E2 : List Bool} {V : List Iz} {hid : List (ByteArray × Int)} {s : Nat} {w : World}, cfl E2 < cfl E → s < l.length → Gs w0 l A G w E2 V (FM l (par l s)) hid → hid.length + rem l E2 ≤ 1000000 → Calls Try.prog 65 #[.int .i64 ((s : Nat) : Int), pt G.kE 0, pt G.kQ 0, pt G.kL 0, pt G.kA 0, pt G.kG 0] w fun e w' => e = .returned (.tuple #[]) ∧ ∃ E' V', Gs w0 l A G w' E' V' (FM l (par l s)) hid ∧ Mk (DG A G w) w w' ∧ Gx l E2 (V.map Iz.L) E' (V'.map Iz.L) ∧ E'[s]? = some true := fun h1 h2 h3 h4 => ih0 _ (by omega) (Nat.le_refl _) h2 h3 h4
  obtain ⟨y, hy⟩ := get_of_lt hs
  have hit := itn_eq hy
  have hEl : E[s]? = some true ∨ E[s]? = some false := by obtain ⟨bb, hbb⟩ := get_of_lt (show s < E.length by rw [hG.le]; exact hs); cases bb; exact Or.inr hbb; exact Or.inl hbb
  rcases hEl with hEs | hEs
  · have M : Mo w w := Mo.refl _
    have a_kE := hG.bE.at
    have a_kQ := hG.bQ.at
    have a_kL := hG.bL.at
    have a_kA := hG.bA.at
    have a_kG := hG.bG.at
    have a_ke := hG.en.at
    refine w_enter 71 Try.func65 Try.ntmps65 rfl rfl ?_
    refine w_seq ?_
    refine w_seq ?_
    refine w_reg ?_
    refine wl_load 81 (.tmp 1) (pt G.kE 0) (.slice (some ⟨G.ke, 0, none⟩) l.length l.length) rfl rfl (run_one a_kE 81 0 rfl Try.underlying81 rfl) rfl ?_
    refine wl_mv (.tmp 0) (.int .i64 ((s : Nat) : Int)) (fun _ => rfl) rfl rfl ?_
    refine wl_bin (fun x y => Instr.indexAt 81 x y) (.tmp 11) (.tmp 12) (.slice (some ⟨G.ke, 0, none⟩) l.length l.length) (.int .i64 ((s : Nat) : Int)) (pt G.ke (0 + s * 1)) (fun _ => rfl) rfl rfl (ix81 (i := s) rfl hs _) rfl ?_
    refine wl_load 4 (.tmp 13) (pt G.ke (0 + s * 1)) (.bool true) rfl rfl (run_one a_ke 4 (0 + s * 1) (by simp [hEs]) Try.underlying4 rfl) rfl ?_
    refine w_nil ?_
    refine xn_then ?_
    refine w_condT rfl ?_
    refine w_ret ?_
    refine xr_then ?_
    exact w_ret0 rfl ⟨rfl, E, V, hG.mo M, Mk.of _ M, Gx.refl _ _ _, hEs⟩
  · have M : Mo w w := Mo.refl _
    have a_kE := hG.bE.at
    have a_kQ := hG.bQ.at
    have a_kL := hG.bL.at
    have a_kA := hG.bA.at
    have a_kG := hG.bG.at
    have a_ke := hG.en.at
    refine w_enter 71 Try.func65 Try.ntmps65 rfl rfl ?_
    refine w_seq ?_
    refine w_seq ?_
    refine w_reg ?_
    refine wl_load 81 (.tmp 1) (pt G.kE 0) (.slice (some ⟨G.ke, 0, none⟩) l.length l.length) rfl rfl (run_one a_kE 81 0 rfl Try.underlying81 rfl) rfl ?_
    refine wl_mv (.tmp 0) (.int .i64 ((s : Nat) : Int)) (fun _ => rfl) rfl rfl ?_
    refine wl_bin (fun x y => Instr.indexAt 81 x y) (.tmp 11) (.tmp 12) (.slice (some ⟨G.ke, 0, none⟩) l.length l.length) (.int .i64 ((s : Nat) : Int)) (pt G.ke (0 + s * 1)) (fun _ => rfl) rfl rfl (ix81 (i := s) rfl hs _) rfl ?_
    refine wl_load 4 (.tmp 13) (pt G.ke (0 + s * 1)) (.bool false) rfl rfl (run_one a_ke 4 (0 + s * 1) (by simp [hEs]) Try.underlying4 rfl) rfl ?_
    refine w_nil ?_
    refine xn_then ?_
    refine w_condF rfl ?_
    refine w_skip ?_
    refine xn_then ?_
    refine w_seq ?_
    refine w_reg ?_
    refine wl_load 81 (.tmp 1) (pt G.kE 0) (.slice (some ⟨G.ke, 0, none⟩) l.length l.length) rfl rfl (run_one a_kE 81 0 rfl Try.underlying81 rfl) rfl ?_
    refine wl_mv (.tmp 0) (.int .i64 ((s : Nat) : Int)) (fun _ => rfl) rfl rfl ?_
    refine wl_bin (fun x y => Instr.indexAt 81 x y) (.tmp 15) (.tmp 16) (.slice (some ⟨G.ke, 0, none⟩) l.length l.length) (.int .i64 ((s : Nat) : Int)) (pt G.ke (0 + s * 1)) (fun _ => rfl) rfl rfl (ix81 (i := s) rfl hs _) rfl ?_
    refine wl_sti 4 (.tmp 17) (.const (.bool true)) G.ke (0 + s * 1) (.bool true) 4 (E.map Value.bool) (hG.mo M).en rfl rfl rfl rfl (by simp; rw [hG.le]; exact hs) sz4 rfl rfl rfl ?_
    intro u1 hK9 hO9
    have hG1 := (hG.mo M).sete hN hK9 (s := s) (by simpa using hO9)
    have hD1 : Mk (DG A G w) w u1 := (Mk.of _ M).tr hK9 (fun j _ e => Or.inr (Or.inl e))
    clear a_kE
    clear a_kQ
    clear a_kL
    clear a_kA
    clear a_kG
    clear a_ke
    clear hK9 hO9
    clear M
    have M : Mo u1 u1 := Mo.refl _
    have a_kE := hG1.bE.at
    have a_kQ := hG1.bQ.at
    have a_kL := hG1.bL.at
    have a_kA := hG1.bA.at
    have a_kG := hG1.bG.at
    obtain ⟨hv, hO, _⟩ := hG1.rd.rc
    have QR := hO.at
    refine w_nil ?_
    refine xn_then ?_
    refine w_seq ?_
    obtain ⟨hv9, hO9, hown9⟩ := hG1.rd.rc
    have hve : hv = hv9 := by unfold Ob at hO hO9; rw [hO9] at hO; simpa using hO.symm
    subst hve
    obtain ⟨pv, cv, rfl, _⟩ := own_form hown9
    refine w_reg ?_
    refine wl_load 72 (.tmp 2) (pt G.kQ 0) (pt A.r 0) rfl rfl (run_one a_kQ 72 0 rfl Try.underlying72 rfl) rfl ?_
    refine wl_nc (.tmp 18) A.r 0 rfl rfl rfl ?_
    refine wl_un (fun v => Instr.fieldAt 95 v 7) (.tmp 19) (pt A.r 0) (pt A.r 7) (fun _ => rfl) rfl (by kernel_rfl) rfl ?_
    refine wl_load 93 (.tmp 20) (pt A.r 7) (.slice pv hid.length cv) rfl rfl (run_one QR 93 7 rfl Try.underlying93 rfl) rfl ?_
    refine wl_val (.int .i64 ((hid.length : Nat) : Int)) (len93 _ _ _ _ _ (by exact rfl) _ _ _ _ _ _) rfl ?_
    refine wl_mv (.tmp 22) (.int .i64 ((hid.length : Nat) : Int)) (fun _ => rfl) rfl rfl ?_
    refine w_nil ?_
    refine xn_then ?_
    refine w_seq ?_
    refine w_reg ?_
    refine wl_load 72 (.tmp 2) (pt G.kQ 0) (pt A.r 0) rfl rfl (run_one a_kQ 72 0 rfl Try.underlying72 rfl) rfl ?_
    refine wl_mv (.tmp 0) (.int .i64 ((s : Nat) : Int)) (fun _ => rfl) rfl rfl ?_
    refine wl_bsO 32 1 [(0, (.tmp 24))] [(0, .int .i64 ((s : Nat) : Int))] [.int .i64 ((s : Nat) : Int)] 3 rfl rfl (fun _ => by kernel_rfl) rfl ?_
    intro kb u2 hk hz9 hq hOb
    replace a_kE := a_kE.mo hq
    replace a_kQ := a_kQ.mo hq
    replace a_kL := a_kL.mo hq
    replace a_kA := a_kA.mo hq
    replace a_kG := a_kG.mo hq
    replace QR := QR.mo hq
    replace M := M.trans hq
    clear hk hz9 hq
    refine wl_callx 36 [(.tmp 23), (.tmp 25)] _ [pt A.r 0, .slice (some ⟨kb, 0, none⟩) 1 1] rfl rfl (fun _ _ => by kernel_rfl) (R.enter_n (S := [s]) (hG1.rd.mo M) (hG1.mo M).kp hN hL hLx hzI (Li.ob (by simpa using hOb) (by simp [maxLen])) (fun x hx => by simp at hx; subst hx; exact hs) (by simp) (by simp [sumI]; have := rem_set hEs hs; omega)) rfl ?_
    rintro e9 u3 ⟨rfl, hR2, hm9⟩
    refine ⟨_, rfl, ?_⟩
    obtain ⟨Pp, hP1, hP2, hP3⟩ := entW_hid l [s] (FM l (par l s), hid)
    have hF2 : (entW l [s] (FM l (par l s), hid)).1 = FM l (s : Int) := FM_in hs hid
    rw [hF2] at hR2 hP3
    rw [hP1] at hR2
    replace hP3 : lev Pp (FM l (s : Int)) = FM l (par l s) := hP3
    replace hR2 : Rdr l A u3 (FM l (s : Int)) (hid ++ Pp) := hR2
    have hG2 := (hG1.mo M).de hN hm9 hR2
    have hD2 := DG.tr (hD1.trans M) (hm9.mono (fun j e => Or.inl e))
    have hPl : Pp.length ≤ (itn l s).length := by simpa [sumI] using hP2
    clear a_kE
    clear a_kQ
    clear a_kL
    clear a_kA
    clear a_kG
    clear QR
    clear hO
    clear hm9 hR2 hO9 hown9 hG1 hD1 hOb
    clear M
    have M : Mo u3 u3 := Mo.refl _
    have a_kE := hG2.bE.at
    have a_kQ := hG2.bQ.at
    have a_kL := hG2.bL.at
    have a_kA := hG2.bA.at
    have a_kG := hG2.bG.at
    obtain ⟨hv, hO, _⟩ := hG2.rd.rc
    have QR := hO.at
    refine w_nil ?_
    refine xn_then ?_
    refine w_seq ?_
    refine w_seq ?_
    have hLW := hL.kp hG2.kp
    obtain ⟨bp, op, hpp, hRp⟩ := D.SL.rw hLW hy
    refine w_reg ?_
    refine wl_load 22 (.tmp 3) (pt G.kL 0) (.slice A.pl l.length A.cl) rfl rfl (run_one a_kL 22 0 rfl Try.underlying22 rfl) rfl ?_
    refine wl_mv (.tmp 0) (.int .i64 ((s : Nat) : Int)) (fun _ => rfl) rfl rfl ?_
    refine wl_bin (fun x y => Instr.indexAt 22 x y) (.tmp 27) (.tmp 28) (.slice A.pl l.length A.cl) (.int .i64 ((s : Nat) : Int)) (pt bp (op + s * 5)) (fun _ => rfl) rfl rfl (ix22 (i := s) hpp hs _) rfl ?_
    refine wl_un (fun v => Instr.fieldAt 55 v 4) (.tmp 29) (pt bp (op + s * 5)) (pt bp (op + s * 5 + 4)) (fun _ => rfl) rfl (by kernel_rfl) rfl ?_
    refine wl_load 39 (.tmp 30) (pt bp (op + s * 5 + 4)) (.slice y.pi y.items.length y.ci) rfl rfl (D.run_oneR (hRp.mo M).at' 39 4 rfl Try.underlying39 rfl) rfl ?_
    refine wl_val (.int .i64 ((y.items.length : Nat) : Int)) (len39 _ _ _ _ _ (by exact rfl) _ _ _ _ _ _) rfl ?_
    refine wl_mv (.const (.int .i64 (0))) (.int .i64 (0)) (fun _ => rfl) rfl rfl ?_
    refine w_nil ?_
    refine xn_then ?_
    refine w_block ?_
    clear a_kE
    clear a_kQ
    clear a_kL
    clear a_kA
    clear a_kG
    clear QR
    clear hO
    refine w_loop (fun m lf w1 => ∃ i : Nat, ∃ V1 : List Iz, m = y.items.length - i ∧ look lf 0 = .int .i64 ((s : Nat) : Int) ∧ look lf 1 = pt G.kE 0 ∧ look lf 2 = pt G.kQ 0 ∧ look lf 3 = pt G.kL 0 ∧ look lf 4 = pt G.kA 0 ∧ look lf 5 = pt G.kG 0 ∧ look lf 7 = .int .i64 ((hid.length : Nat) : Int) ∧ look lf 32 = .int .i64 ((y.items.length : Nat) : Int) ∧ look lf 33 = .int .i64 ((i : Nat) : Int) ∧ (i ≤ y.items.length) ∧ (Gs w0 l A G w1 (E.set s true) V1 (FM l (s : Int)) (hid ++ Pp)) ∧ (Mk (DG A G w) w w1) ∧ (Rw1 l s i (V.map Iz.L) (V1.map Iz.L))) _ ⟨0, V, rfl, rfl, rfl, rfl, rfl, rfl, rfl, rfl, rfl, rfl, Nat.zero_le _, hG2.mo M, hD2.trans M, Rw1.nil _ _ _⟩ ?_
    clear hG2 hD2 M
    rintro m lf40 wl40 ⟨i, V1, rfl, e40_0, e40_1, e40_2, e40_3, e40_4, e40_5, e40_7, e40_32, e40_33, hi, hG3, hD3, hRw⟩
    have M : Mo wl40 wl40 := Mo.refl _
    cases hd2 : decide (i < y.items.length) with
    | true =>
      have hil := of_decide_eq_true hd2
      obtain ⟨zi, hzi⟩ := get_of_lt hil
      have hzi2 : (itn l s)[i]? = some zi := by rw [hit]; exact hzi
      have hfs := fsn_lt hy hil
      have a_kE := hG3.bE.at
      have a_kQ := hG3.bQ.at
      have a_kL := hG3.bL.at
      have a_kA := hG3.bA.at
      have a_kG := hG3.bG.at
      obtain ⟨hv, hO, _⟩ := hG3.rd.rc
      have QR := hO.at
      have a_ka := hG3.al.at
      have hfx : (fsts l)[s]? = some (fsn l s) := by unfold fsts; rw [List.getElem?_map, List.getElem?_range hs]; rfl
      obtain ⟨bf, of, hpf, hRf⟩ := D.SL.rw hG3.rd.st.fs.sl hfx
      refine w_seq ?_
      refine w_reg ?_
      refine wl_bin (fun x y => do eqGuard .lss 3 (.tmp 33) (.tmp 32) x y; binOp .lss 3 x y) (.tmp 33) (.tmp 32) (.int .i64 ((i : Nat) : Int)) (.int .i64 ((y.items.length : Nat) : Int)) (.bool true) (fun _ => rfl) e40_33 e40_32 (ltN hd2 _ _ _) rfl ?_
      refine w_nil ?_
      refine xn_then ?_
      refine w_seq ?_
      refine w_condT rfl ?_
      refine w_skip ?_
      refine xn_then ?_
      refine w_seq ?_
      refine w_block ?_
      refine w_seq ?_
      refine w_reg ?_
      refine wl_mv (.tmp 33) (.int .i64 ((i : Nat) : Int)) (fun _ => rfl) e40_33 rfl ?_
      refine wl_mv (.tmp 35) (.int .i64 ((i : Nat) : Int)) (fun _ => rfl) rfl rfl ?_
      refine w_nil ?_
      refine xn_then ?_
      have hsm9 : Smos [vq (.slice (some ⟨G.ka, 0, none⟩) (nI l) (nI l)), vq (pt A.r 0), vq (pt A.r 0), vq (pt A.r 2), vq (.slice A.pf l.length A.cf), vq (.int .i64 ((s : Nat) : Int)), vq (pt bf (of + s * 1)), vq (.int .i64 ((fsn l s : Nat) : Int)), vq (.int .i64 ((i : Nat) : Int)), vq (.int .i64 ((fsn l s + i : Nat) : Int)), vq (pt A.r 0), vq (.int .i64 ((s : Nat) : Int)), vq (.int .i64 ((i : Nat) : Int)), slq wl40.heap.size (rdI l s (FM l (s : Int)) zi)] := smos_cons (smo_vq _) (smos_cons (smo_vq _) (smos_cons (smo_vq _) (smos_cons (smo_vq _) (smos_cons (smo_vq _) (smos_cons (smo_vq _) (smos_cons (smo_vq _) (smos_cons (smo_vq _) (smos_cons (smo_vq _) (smos_cons (smo_vq _) (smos_cons (smo_vq _) (smos_cons (smo_vq _) (smos_cons (smo_vq _) (smos_cons (smo_slq _ _) (smos_nil))))))))))))))
      refine w_ogc 14 (fun w9 => Mo wl40 w9) [vq (.slice (some ⟨G.ka, 0, none⟩) (nI l) (nI l)), vq (pt A.r 0), vq (pt A.r 0), vq (pt A.r 2), vq (.slice A.pf l.length A.cf), vq (.int .i64 ((s : Nat) : Int)), vq (pt bf (of + s * 1)), vq (.int .i64 ((fsn l s : Nat) : Int)), vq (.int .i64 ((i : Nat) : Int)), vq (.int .i64 ((fsn l s + i : Nat) : Int)), vq (pt A.r 0), vq (.int .i64 ((s : Nat) : Int)), vq (.int .i64 ((i : Nat) : Int)), slq wl40.heap.size (rdI l s (FM l (s : Int)) zi)] [] (by kernel_rfl) (by kernel_rfl) (by kernel_rfl) (by kernel_rfl) rfl (by kernel_rfl) (by kernel_rfl) latec_nil ((Mo.refl _).drew) ?_ ?_
      · refine ea_cons ?_ (ea_cons ?_ (ea_cons ?_ (ea_cons ?_ (ea_cons ?_ (ea_cons ?_ (ea_cons ?_ (ea_cons ?_ (ea_cons ?_ (ea_cons ?_ (ea_cons ?_ (ea_cons ?_ (ea_cons ?_ (ea_cons ?_ (ea_nil))))))))))))))
        · exact oc_eq (.slice (some ⟨G.ka, 0, none⟩) (nI l) (nI l)) rfl (fun _ _ h m => h.trans m) hsm9 (fun f wf hq hd K hK => have a_kA := a_kA.mo hq; go_run rfl (wo_load 79 (.tmp 4) (pt G.kA 0) (.slice (some ⟨G.ka, 0, none⟩) (nI l) (nI l)) rfl e40_4 (run_one a_kA 79 0 rfl Try.underlying79 rfl) (hK _ (Mo.refl _))))
        · exact oc_eq (pt A.r 0) rfl (fun _ _ h m => h.trans m) hsm9 (fun f wf hq hd K hK => have a_kQ := a_kQ.mo hq; go_run rfl (wo_load 72 (.tmp 2) (pt G.kQ 0) (pt A.r 0) rfl e40_2 (run_one a_kQ 72 0 rfl Try.underlying72 rfl) (hK _ (Mo.refl _))))
        · exact oc_eq (pt A.r 0) rfl (fun _ _ h m => h.trans m) hsm9 (fun f wf hq hd K hK => go_run rfl (wo_nc (.tmp 37) A.r 0 rfl (hd 1 rfl) (hK _ (Mo.refl _))))
        · exact oc_eq (pt A.r 2) rfl (fun _ _ h m => h.trans m) hsm9 (fun f wf hq hd K hK => go_run rfl (wo_un (fun v => Instr.fieldAt 95 v 2) (.tmp 38) (pt A.r 0) (pt A.r 2) (fun _ => rfl) (hd 2 rfl) (by kernel_rfl) (hK _ (Mo.refl _))))
        · exact oc_eq (.slice A.pf l.length A.cf) rfl (fun _ _ h m => h.trans m) hsm9 (fun f wf hq hd K hK => have QR := QR.mo hq; go_run rfl (wo_load 32 (.tmp 39) (pt A.r 2) (.slice A.pf l.length A.cf) rfl (hd 3 rfl) (run_one QR 32 2 rfl Try.underlying32 rfl) (hK _ (Mo.refl _))))
        · exact oc_eq (.int .i64 ((s : Nat) : Int)) rfl (fun _ _ h m => h.trans m) hsm9 (fun f wf hq hd K hK => go_run rfl (wo_mv (.tmp 0) (.int .i64 ((s : Nat) : Int)) (fun _ => rfl) e40_0 (hK _ (Mo.refl _))))
        · exact oc_eq (pt bf (of + s * 1)) rfl (fun _ _ h m => h.trans m) hsm9 (fun f wf hq hd K hK => go_run rfl (wo_bin (fun x y => Instr.indexAt 32 x y) (.tmp 40) (.tmp 41) (.slice A.pf l.length A.cf) (.int .i64 ((s : Nat) : Int)) (pt bf (of + s * 1)) (fun _ => rfl) (hd 4 rfl) (hd 5 rfl) (ix32 (i := s) hpf hs _) (hK _ (Mo.refl _))))
        · exact oc_eq (.int .i64 ((fsn l s : Nat) : Int)) rfl (fun _ _ h m => h.trans m) hsm9 (fun f wf hq hd K hK => go_run rfl (wo_load 3 (.tmp 42) (pt bf (of + s * 1)) (.int .i64 ((fsn l s : Nat) : Int)) rfl (hd 6 rfl) (D.run_oneR (hRf.mo (M.trans hq)).at' 3 0 rfl Try.underlying3 rfl) (hK _ (Mo.refl _))))
        · exact oc_eq (.int .i64 ((i : Nat) : Int)) rfl (fun _ _ h m => h.trans m) hsm9 (fun f wf hq hd K hK => go_run rfl (wo_mv (.tmp 8) (.int .i64 ((i : Nat) : Int)) (fun _ => rfl) rfl (hK _ (Mo.refl _))))
        · exact oc_eq (.int .i64 ((fsn l s + i : Nat) : Int)) rfl (fun _ _ h m => h.trans m) hsm9 (fun f wf hq hd K hK => go_run rfl (wo_bin (fun x y => do eqGuard .add 3 (.tmp 43) (.tmp 44) x y; binOp .add 3 x y) (.tmp 43) (.tmp 44) (.int .i64 ((fsn l s : Nat) : Int)) (.int .i64 ((i : Nat) : Int)) (.int .i64 ((fsn l s + i : Nat) : Int)) (fun _ => rfl) (hd 7 rfl) (hd 8 rfl) (addN (a := fsn l s) (b := i) (by omega) _ _ _) (hK _ (Mo.refl _))))
        · exact oc_eq (pt A.r 0) rfl (fun _ _ h m => h.trans m) hsm9 (fun f wf hq hd K hK => have a_kQ := a_kQ.mo hq; go_run rfl (wo_load 72 (.tmp 2) (pt G.kQ 0) (pt A.r 0) rfl e40_2 (run_one a_kQ 72 0 rfl Try.underlying72 rfl) (hK _ (Mo.refl _))))
        · exact oc_eq (.int .i64 ((s : Nat) : Int)) rfl (fun _ _ h m => h.trans m) hsm9 (fun f wf hq hd K hK => go_run rfl (wo_mv (.tmp 0) (.int .i64 ((s : Nat) : Int)) (fun _ => rfl) e40_0 (hK _ (Mo.refl _))))
        · exact oc_eq (.int .i64 ((i : Nat) : Int)) rfl (fun _ _ h m => h.trans m) hsm9 (fun f wf hq hd K hK => go_run rfl (wo_mv (.tmp 8) (.int .i64 ((i : Nat) : Int)) (fun _ => rfl) rfl (hK _ (Mo.refl _))))
        · exact oc_call hsm9 (fun f wf hq hd K hK => go_run rfl (wo_callx 37 [(.tmp 46), (.tmp 47), (.tmp 48)] _ [pt A.r 0, .int .i64 ((s : Nat) : Int), .int .i64 ((i : Nat) : Int)] rfl (li3 (hd 10 rfl) (hd 11 rfl) (hd 12 rfl)) (fun _ _ => by kernel_rfl) (reads_n (((hG3.mo M).mo hq).rd) ((hG3.mo M).mo hq).kp (Fok.FM l _) hL hLx hy hzi (hnd y (List.mem_of_getElem? hy) zi (List.mem_of_getElem? hzi))) (fun e9 w9 ⟨pa9, cap9, he9, ho9, hm9⟩ => ⟨_, he9, hK _ w9 hm9 ⟨pa9, cap9, rfl, own_base ho9 hq.size⟩⟩)))
      intro f u41 hq hR9
      have er0 := hR9 0 rfl
      have er1 := hR9 1 rfl
      have er2 := hR9 2 rfl
      have er3 := hR9 3 rfl
      have er4 := hR9 4 rfl
      have er5 := hR9 5 rfl
      have er6 := hR9 6 rfl
      have er7 := hR9 7 rfl
      have er8 := hR9 8 rfl
      have er9 := hR9 9 rfl
      have er10 := hR9 10 rfl
      have er11 := hR9 11 rfl
      have er12 := hR9 12 rfl
      obtain ⟨pa9, cap9, er13, ho9⟩ := hR9 13 rfl
      clear hR9 hsm9
      replace a_kE := a_kE.mo hq
      replace a_kQ := a_kQ.mo hq
      replace a_kL := a_kL.mo hq
      replace a_kA := a_kA.mo hq
      replace a_kG := a_kG.mo hq
      replace QR := QR.mo hq
      replace a_ka := a_ka.mo hq
      replace M := M.trans hq
      clear hq
      refine wl_bin (fun x y => Instr.indexAt 79 x y) (.tmp 36) (.tmp 45) (.slice (some ⟨G.ka, 0, none⟩) (nI l) (nI l)) (.int .i64 ((fsn l s + i : Nat) : Int)) (pt G.ka (0 + (fsn l s + i) * 1)) (fun _ => rfl) er0 er9 (ix79 (i := fsn l s + i) rfl hfs _) rfl ?_
      refine wl_sti 32 (.tmp 50) (.tmp 49) G.ka (0 + (fsn l s + i) * 1) (.slice pa9 (rdI l s (FM l (s : Int)) zi).length cap9) 32 (V1.map Iz.v) (hG3.mo M).al rfl rfl rfl er13 (by simp; rw [hG3.lv]; exact hfs) sz32 rfl rfl rfl ?_
      intro u42 hK9 hO9
      have hli := Li.own ho9 (by have := rdI_len l s (FM l (s : Int)) zi; unfold maxLen; omega)
      have hG4 := (hG3.mo M).seta hN (n := fsn l s + i) (x := ⟨pa9, cap9, rdI l s (FM l (s : Int)) zi⟩) hli hK9 (by simpa using hO9)
      have hD4 := (hD3.trans M).tr hK9 (fun j _ e => Or.inr (Or.inr e))
      clear a_kE
      clear a_kQ
      clear a_kL
      clear a_kA
      clear a_kG
      clear QR
      clear a_ka
      clear hO
      clear hK9 hO9
      clear M
      have M : Mo u42 u42 := Mo.refl _
      refine w_nil ?_
      refine xn_blk ?_
      refine xn_then ?_
      refine w_reg ?_
      refine wl_bin (fun x y => do eqGuard .add 3 (.tmp 33) (.const (.int .i64 (1))) x y; binOp .add 3 x y) (.tmp 33) (.const (.int .i64 (1))) (.int .i64 ((i : Nat) : Int)) (.int .i64 (1)) (.int .i64 ((i + 1 : Nat) : Int)) (fun _ => rfl) e40_33 rfl (add1r (k := i) (by omega) _ _ _) rfl ?_
      refine wl_mv (.tmp 51) (.int .i64 ((i + 1 : Nat) : Int)) (fun _ => rfl) rfl rfl ?_
      refine w_nil ?_
      exact xn_loop (y.items.length - (i + 1)) (by omega) ⟨i + 1, _, rfl, e40_0, e40_1, e40_2, e40_3, e40_4, e40_5, e40_7, e40_32, rfl, by omega, hG4.mo M, hD4.trans M, by rw [List.map_set]; exact hRw.more hzi2 (by rw [List.length_map, hG.lv])⟩
    | false =>
      have hie : i = (itn l s).length := by rw [hit]; have := of_decide_eq_false hd2; omega
      rw [hie] at hRw
      have a_kE := hG3.bE.at
      have a_kQ := hG3.bQ.at
      have a_kL := hG3.bL.at
      have a_kA := hG3.bA.at
      have a_kG := hG3.bG.at
      obtain ⟨hv, hO, _⟩ := hG3.rd.rc
      have QR := hO.at
      obtain ⟨kx, hkx, hkL⟩ : ∃ kx, A.V[s]? = some kx ∧ kx.L = kidL l s := by have h1 := congrArg (fun L => L[s]?) hG3.rd.st.kv; simp only [List.getElem?_map, List.getElem?_range hs, Option.map_some] at h1; cases e : A.V[s]? with | none => rw [e] at h1; cases h1 | some x => rw [e] at h1; exact ⟨x, rfl, by simpa using h1⟩
      have hkl9 : kx.L.length ≤ l.length := by rw [hkL]; unfold kidL; have := List.length_filter_le (fun t => decide (par l t = (s : Int))) (List.range l.length); simpa using this
      have hkm := List.mem_of_getElem? hkx
      obtain ⟨bk, ok, hpk, hRk⟩ := D.SL.rw hG3.rd.st.kd hkx
      refine w_seq ?_
      refine w_reg ?_
      refine wl_bin (fun x y => do eqGuard .lss 3 (.tmp 33) (.tmp 32) x y; binOp .lss 3 x y) (.tmp 33) (.tmp 32) (.int .i64 ((i : Nat) : Int)) (.int .i64 ((y.items.length : Nat) : Int)) (.bool false) (fun _ => rfl) e40_33 e40_32 (ltN hd2 _ _ _) rfl ?_
      refine w_nil ?_
      refine xn_then ?_
      refine w_seq ?_
      refine w_condF rfl ?_
      refine w_exit ?_
      refine xx_then ?_
      refine xx_then ?_
      refine xx_blk ?_
      refine xn_then ?_
      refine w_seq ?_
      refine w_seq ?_
      refine w_reg ?_
      refine wl_load 72 (.tmp 2) (pt G.kQ 0) (pt A.r 0) rfl e40_2 (run_one a_kQ 72 0 rfl Try.underlying72 rfl) rfl ?_
      refine wl_nc (.tmp 52) A.r 0 rfl rfl rfl ?_
      refine wl_un (fun v => Instr.fieldAt 95 v 3) (.tmp 53) (pt A.r 0) (pt A.r 3) (fun _ => rfl) rfl (by kernel_rfl) rfl ?_
      refine wl_load 79 (.tmp 54) (pt A.r 3) (.slice A.pk l.length A.ck) rfl rfl (run_one QR 79 3 rfl Try.underlying79 rfl) rfl ?_
      refine wl_mv (.tmp 0) (.int .i64 ((s : Nat) : Int)) (fun _ => rfl) e40_0 rfl ?_
      refine wl_bin (fun x y => Instr.indexAt 79 x y) (.tmp 55) (.tmp 56) (.slice A.pk l.length A.ck) (.int .i64 ((s : Nat) : Int)) (pt bk (ok + s * 1)) (fun _ => rfl) rfl rfl (ix79 (i := s) hpk hs _) rfl ?_
      refine wl_load 32 (.tmp 57) (pt bk (ok + s * 1)) (.slice kx.pa kx.L.length kx.cap) rfl rfl (D.run_oneR (hRk.mo M).at' 32 0 rfl Try.underlying32 rfl) rfl ?_
      refine wl_val (.int .i64 ((kx.L.length : Nat) : Int)) (len32 _ _ _ _ _ (by exact rfl) _ _ _ _ _ _) rfl ?_
      refine wl_mv (.const (.int .i64 (0))) (.int .i64 (0)) (fun _ => rfl) rfl rfl ?_
      refine w_nil ?_
      refine xn_then ?_
      refine w_block ?_
      clear a_kE
      clear a_kQ
      clear a_kL
      clear a_kA
      clear a_kG
      clear QR
      clear hO
      refine w_loop (fun m lf w1 => ∃ i2 : Nat, ∃ E5 : List Bool, ∃ V5 : List Iz, m = kx.L.length - i2 ∧ look lf 0 = .int .i64 ((s : Nat) : Int) ∧ look lf 2 = pt G.kQ 0 ∧ look lf 5 = pt G.kG 0 ∧ look lf 7 = .int .i64 ((hid.length : Nat) : Int) ∧ look lf 58 = .slice kx.pa kx.L.length kx.cap ∧ look lf 59 = .int .i64 ((kx.L.length : Nat) : Int) ∧ look lf 60 = .int .i64 ((i2 : Nat) : Int) ∧ (i2 ≤ kx.L.length) ∧ (Gs w0 l A G w1 E5 V5 (FM l (s : Int)) (hid ++ Pp)) ∧ (Mk (DG A G w) w w1) ∧ (Gx l (E.set s true) (V1.map Iz.L) E5 (V5.map Iz.L)) ∧ (∀ (j u : Nat), (kx.L.take i2)[j]? = some u → E5[u]? = some true)) _ ⟨0, E.set s true, V1, rfl, e40_0, e40_2, e40_5, e40_7, rfl, rfl, rfl, Nat.zero_le _, hG3.mo M, hD3.trans M, Gx.refl _ _ _, (fun j u hj => by simp at hj)⟩ ?_
      clear hG3 hD3 M
      rintro m lf70 wl70 ⟨i2, E5, V5, rfl, e70_0, e70_2, e70_5, e70_7, e70_58, e70_59, e70_60, hi2, hG5, hD5, hX5, hK5⟩
      have M : Mo wl70 wl70 := Mo.refl _
      cases hd3 : decide (i2 < kx.L.length) with
      | true =>
        have hil2 := of_decide_eq_true hd3
        obtain ⟨ku, hku⟩ := get_of_lt hil2
        have hkum : ku ∈ kidL l s := by rw [← hkL]; exact List.mem_of_getElem? hku
        obtain ⟨hkul, hkup⟩ := mem_kidL.1 hkum
        have a_kE := hG5.bE.at
        have a_kQ := hG5.bQ.at
        have a_kL := hG5.bL.at
        have a_kA := hG5.bA.at
        have a_kG := hG5.bG.at
        have hli := hG5.rd.st.kl kx hkm
        obtain ⟨bu, ou, hpu, hRu⟩ := D.SL.rw hli.sl hku
        refine w_seq ?_
        refine w_reg ?_
        refine wl_bin (fun x y => do eqGuard .lss 3 (.tmp 60) (.tmp 59) x y; binOp .lss 3 x y) (.tmp 60) (.tmp 59) (.int .i64 ((i2 : Nat) : Int)) (.int .i64 ((kx.L.length : Nat) : Int)) (.bool true) (fun _ => rfl) e70_60 e70_59 (ltN hd3 _ _ _) rfl ?_
        refine w_nil ?_
        refine xn_then ?_
        refine w_seq ?_
        refine w_condT rfl ?_
        refine w_skip ?_
        refine xn_then ?_
        refine w_seq ?_
        refine w_block ?_
        refine w_seq ?_
        refine w_reg ?_
        refine wl_bin (fun x y => Instr.indexAt 32 x y) (.tmp 58) (.tmp 60) (.slice kx.pa kx.L.length kx.cap) (.int .i64 ((i2 : Nat) : Int)) (pt bu (ou + i2 * 1)) (fun _ => rfl) e70_58 e70_60 (ix32 (i := i2) hpu hil2 _) rfl ?_
        refine wl_load 3 (.tmp 62) (pt bu (ou + i2 * 1)) (.int .i64 ((ku : Nat) : Int)) rfl rfl (D.run_oneR (hRu.mo M).at' 3 0 rfl Try.underlying3 rfl) rfl ?_
        refine wl_mv (.tmp 63) (.int .i64 ((ku : Nat) : Int)) (fun _ => rfl) rfl rfl ?_
        refine w_nil ?_
        refine xn_then ?_
        refine w_reg ?_
        refine wl_load 82 (.tmp 5) (pt G.kG 0) (.func (.func 65) #[] #[pt G.kE 0, pt G.kQ 0, pt G.kL 0, pt G.kA 0, pt G.kG 0]) rfl e70_5 (run_one a_kG 82 0 rfl Try.underlying82 rfl) rfl ?_
        refine wl_mv (.tmp 10) (.int .i64 ((ku : Nat) : Int)) (fun _ => rfl) rfl rfl ?_
        refine wl_callv 65 (.tmp 64) #[] #[pt G.kE 0, pt G.kQ 0, pt G.kL 0, pt G.kA 0, pt G.kG 0] [(.tmp 65)] _ [.int .i64 ((ku : Nat) : Int)] [.int .i64 ((ku : Nat) : Int), pt G.kE 0, pt G.kQ 0, pt G.kL 0, pt G.kA 0, pt G.kG 0] rfl rfl rfl rfl (fun _ _ => by kernel_rfl) (ih (E2 := E5) (V := V5) (hid := hid ++ Pp) (by have := cfl_le (E := E.set s true) hX5.le hX5.up; have := cfl_set hEs; omega) hkul (by rw [hkup]; exact hG5.mo M) (by have h1 := rem_set hEs hs; have h2 := rem_le (l := l) hX5.up; simp only [List.length_append]; omega)) rfl ?_
        rintro e9 u71 ⟨rfl, E6, V6, hG6, hD6, hX6, hT6⟩
        refine ⟨_, rfl, ?_⟩
        rw [hkup] at hG6
        have hD7 := DG.tr (hD5.trans M) hD6
        have hX7 := hX5.trans hX6
        clear a_kE
        clear a_kQ
        clear a_kL
        clear a_kA
        clear a_kG
        clear M
        have M : Mo u71 u71 := Mo.refl _
        refine w_nil ?_
        refine xn_blk ?_
        refine xn_then ?_
        refine w_reg ?_
        refine wl_bin (fun x y => do eqGuard .add 3 (.tmp 60) (.const (.int .i64 (1))) x y; binOp .add 3 x y) (.tmp 60) (.const (.int .i64 (1))) (.int .i64 ((i2 : Nat) : Int)) (.int .i64 (1)) (.int .i64 ((i2 + 1 : Nat) : Int)) (fun _ => rfl) e70_60 rfl (add1r (k := i2) (by omega) _ _ _) rfl ?_
        refine wl_mv (.tmp 67) (.int .i64 ((i2 + 1 : Nat) : Int)) (fun _ => rfl) rfl rfl ?_
        refine w_nil ?_
        exact xn_loop (kx.L.length - (i2 + 1)) (by omega) ⟨i2 + 1, E6, V6, rfl, e70_0, e70_2, e70_5, e70_7, e70_58, e70_59, rfl, by omega, hG6.mo M, hD7.trans M, hX7, (fun j u hj => by rcases take_get hku hj with q | q; exact hX6.up u (hK5 j u q); subst q; exact hT6)⟩
      | false =>
        have hie2 : i2 = kx.L.length := by have := of_decide_eq_false hd3; omega
        rw [hie2, List.take_length] at hK5
        have a_kE := hG5.bE.at
        have a_kQ := hG5.bQ.at
        have a_kL := hG5.bL.at
        have a_kA := hG5.bA.at
        have a_kG := hG5.bG.at
        refine w_seq ?_
        refine w_reg ?_
        refine wl_bin (fun x y => do eqGuard .lss 3 (.tmp 60) (.tmp 59) x y; binOp .lss 3 x y) (.tmp 60) (.tmp 59) (.int .i64 ((i2 : Nat) : Int)) (.int .i64 ((kx.L.length : Nat) : Int)) (.bool false) (fun _ => rfl) e70_60 e70_59 (ltN hd3 _ _ _) rfl ?_
        refine w_nil ?_
        refine xn_then ?_
        refine w_seq ?_
        refine w_condF rfl ?_
        refine w_exit ?_
        refine xx_then ?_
        refine xx_then ?_
        refine xx_blk ?_
        refine xn_then ?_
        refine w_reg ?_
        refine wl_load 72 (.tmp 2) (pt G.kQ 0) (pt A.r 0) rfl e70_2 (run_one a_kQ 72 0 rfl Try.underlying72 rfl) rfl ?_
        refine wl_mv (.tmp 7) (.int .i64 ((hid.length : Nat) : Int)) (fun _ => rfl) e70_7 rfl ?_
        refine wl_callx 66 [(.tmp 68), (.tmp 69)] _ [pt A.r 0, .int .i64 ((hid.length : Nat) : Int)] rfl rfl (fun _ _ => by kernel_rfl) (R.leave_n (hG5.rd.mo M) (h := hid.length) (by simp) (by simp; have := rem_set hEs hs; omega)) rfl ?_
        rintro e9 u71 ⟨rfl, hR6, hm9⟩
        refine ⟨_, rfl, ?_⟩
        rw [List.drop_left, List.take_left, hP3] at hR6
        have hG6 := (hG5.mo M).de hN hm9 hR6
        have hD6 := DG.tr (hD5.trans M) (hm9.mono (fun j e => Or.inl e))
        clear a_kE
        clear a_kQ
        clear a_kL
        clear a_kA
        clear a_kG
        refine w_nil ?_
        exact w_end0 rfl ⟨rfl, E5, V5, hG6, hD6, Gx.one hEs hs hRw.ln (fun i zz hz => hRw.ok i zz (lt_of_get hz) hz) hRw.sm hX5 (fun u hu hp => by have hm : u ∈ kx.L := (by rw [hkL]; exact mem_kidL.2 ⟨hu, hp⟩); obtain ⟨j, hj, e⟩ := List.mem_iff_getElem.1 hm; exact hK5 j u (by rw [List.getElem?_eq_getElem hj, e])), hX5.up s (List.getElem?_set_self (lt_of_get hEs))⟩
end Go.Proofs.Ythghblgbjgghcaa
