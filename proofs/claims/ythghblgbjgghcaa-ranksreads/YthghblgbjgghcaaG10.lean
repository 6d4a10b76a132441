/-
  What all items read.
-/
import Derived.Test.YthghblgbjgghcaaRo
namespace Go.Proofs.Ythghblgbjgghcaa
open Go.RowKit D
theorem readsAll_n {w : World} {l : List S5} {pl : Option Addr} {cl : Nat} (hL : SL w 5 S5.cells pl l) (hLx : ∀ x ∈ l, LS5 w x) (hz : l.length < 400000) (hzI : nI l < 400000) (hnd : ∀ y ∈ l, ∀ z ∈ y.items, nd z.ex ≤ 3000000) : Calls Try.prog 44 #[.slice pl l.length cl] w fun e w' => ∃ (ka : Nat) (V : List Iz), e = .returned (.slice (some ⟨ka, 0, none⟩) (nI l) (nI l)) ∧ Ob w' ka 32 (V.map Iz.v) ∧ (∀ x ∈ V, Li w' x.pa x.L) ∧ V.map Iz.L = RA l ∧ w.heap.size ≤ ka ∧ Mo w w' := by
  refine w_enter 54 Try.func44 Try.ntmps44 rfl rfl ?_
  have M : Mo w w := Mo.refl _
  refine w_seq ?_
  refine w_reg ?_
  refine wl_boxO 22 (.tmp 0) (.slice pl l.length cl) [.slice pl l.length cl] rfl rfl (fun _ => by kernel_rfl) rfl ?_
  intro k1 u1 hk hz9 hq O1
  have Q1 := O1.at
  have N_k1 : w.heap.size ≤ k1 := by have := M.size; omega
  replace M := M.trans hq
  clear hk hz9 hq
  refine wl_mv (.const (.slice none 0 0)) (.slice none 0 0) (fun _ => rfl) rfl rfl ?_
  refine w_nil ?_
  refine xn_then ?_
  refine w_seq ?_
  refine w_reg ?_
  refine wl_load 22 (.tmp 1) (pt k1 0) (.slice pl l.length cl) rfl rfl (run_one Q1 22 0 rfl Try.underlying22 rfl) rfl ?_
  refine wl_callx 34 [(.tmp 10)] _ [.slice pl l.length cl] rfl rfl (fun _ _ => by kernel_rfl) (newReader_n (hL.kp M.kp) (fun x hx => (hLx x hx).kp M.kp) (by omega) (by omega)) rfl ?_
  rintro e9 u2 ⟨A, rfl, hR, hA1, hA2, hA3, hq⟩
  refine ⟨_, rfl, ?_⟩
  subst hA1
  subst hA2
  have hAN : w.heap.size ≤ A.N := by rw [hA3]; exact M.size
  replace Q1 := Q1.mo hq
  replace O1 := O1.mo hq
  replace M := M.trans hq
  clear hq
  have hkb : ∀ a, A.pk = some a → a.block < u2.heap.size := fun a e => (hR.st.kt a e).lt
  have MR : Mo u2 u2 := Mo.refl _
  have hANR : A.N ≤ u2.heap.size := by obtain ⟨_, h, _⟩ := hR.rc; have := h.lt; have := hR.nr; omega
  refine wl_allocO 72 [.pointer none] rfl (fun _ => by kernel_rfl) rfl ?_
  intro k2 u3 hk hz9 hq O2
  have Q2 := O2.at
  have NR_k2 : u2.heap.size ≤ k2 := by have := MR.size; omega
  have ne_k1_k2 : k1 ≠ k2 := by have := Q1.lt; omega
  have N_k2 : w.heap.size ≤ k2 := by have := M.size; omega
  replace Q1 := Q1.mo hq
  replace O1 := O1.mo hq
  replace MR := MR.trans hq
  replace M := M.trans hq
  clear hk hz9 hq
  refine wl_stO 72 (.tmp 3) (.tmp 11) k2 0 (pt A.r 0) _ _ [pt A.r 0] O2 rfl rfl rfl rfl rfl sz72 rfl rfl rfl rfl ?_
  intro u4 hK9 O9
  clear O2
  have O2 := O9
  clear O9
  replace Q2 := O2.at
  replace Q1 := hK9.at Q1 ne_k1_k2
  replace O1 := O1.mk hK9 ne_k1_k2
  replace MR := hK9.mo MR (fun k e => e ▸ NR_k2)
  replace M := hK9.mo M (fun k e => e ▸ N_k2)
  clear hK9
  refine w_nil ?_
  refine xn_then ?_
  refine w_seq ?_
  obtain ⟨hv, hO, _⟩ := (hR.mo MR).rc
  have QR := hO.at
  refine w_reg ?_
  refine wl_load 72 (.tmp 3) (pt k2 0) (pt A.r 0) rfl rfl (run_one Q2 72 0 rfl Try.underlying72 rfl) rfl ?_
  refine wl_nc (.tmp 12) A.r 0 rfl rfl rfl ?_
  refine wl_un (fun v => Instr.fieldAt 95 v 1) (.tmp 13) (pt A.r 0) (pt A.r 1) (fun _ => rfl) rfl (by kernel_rfl) rfl ?_
  refine wl_load 3 (.tmp 14) (pt A.r 1) (.int .i64 ((nI l : Nat) : Int)) rfl rfl (run_one QR 3 1 rfl Try.underlying3 rfl) rfl ?_
  refine wl_makeS 79 32 (.tmp 15) (.tmp 15) (nI l) (.slice none 0 0) 24 Try.underlying79 inf32 rfl (by omega) (by omega) rfl rfl rfl rfl ?_
  intro k3 u5 hk hz hq O3
  have Q3 := O3.at
  have ne_k1_k3 : k1 ≠ k3 := by have := Q1.lt; omega
  have ne_k2_k3 : k2 ≠ k3 := by have := Q2.lt; omega
  have ne_kr_k3 : A.r ≠ k3 := by have := QR.lt; omega
  have N_k3 : w.heap.size ≤ k3 := by have := M.size; omega
  have NL_k3 : A.N ≤ k3 := by have := MR.size; omega
  have hk3R : ∀ a, A.pk = some a → a.block ≠ k3 := fun a e => by have := hkb a e; have := MR.size; omega
  replace Q1 := Q1.mo hq
  replace Q2 := Q2.mo hq
  replace QR := QR.mo hq
  replace O1 := O1.mo hq
  replace O2 := O2.mo hq
  replace MR := MR.trans hq
  replace M := M.trans hq
  clear hk hz hq
  refine wl_allocO 79 [.slice none 0 0] rfl (fun _ => by kernel_rfl) rfl ?_
  intro k4 u6 hk hz9 hq O4
  have Q4 := O4.at
  have NR_k4 : u2.heap.size ≤ k4 := by have := MR.size; omega
  have ne_k1_k4 : k1 ≠ k4 := by have := Q1.lt; omega
  have ne_k2_k4 : k2 ≠ k4 := by have := Q2.lt; omega
  have ne_kr_k4 : A.r ≠ k4 := by have := QR.lt; omega
  have ne_k3_k4 : k3 ≠ k4 := by have := Q3.lt; omega
  have N_k4 : w.heap.size ≤ k4 := by have := M.size; omega
  replace Q1 := Q1.mo hq
  replace Q2 := Q2.mo hq
  replace QR := QR.mo hq
  replace Q3 := Q3.mo hq
  replace O1 := O1.mo hq
  replace O2 := O2.mo hq
  replace O3 := O3.mo hq
  replace MR := MR.trans hq
  replace M := M.trans hq
  clear hk hz9 hq
  refine wl_stO 79 (.tmp 4) (.tmp 16) k4 0 (.slice (some ⟨k3, 0, none⟩) (nI l) (nI l)) _ _ [.slice (some ⟨k3, 0, none⟩) (nI l) (nI l)] O4 rfl rfl rfl rfl rfl sz79 rfl rfl rfl rfl ?_
  intro u7 hK9 O9
  clear O4
  have O4 := O9
  clear O9
  replace Q4 := O4.at
  replace Q1 := hK9.at Q1 ne_k1_k4
  replace O1 := O1.mk hK9 ne_k1_k4
  replace Q2 := hK9.at Q2 ne_k2_k4
  replace O2 := O2.mk hK9 ne_k2_k4
  replace QR := hK9.at QR ne_kr_k4
  replace Q3 := hK9.at Q3 ne_k3_k4
  replace O3 := O3.mk hK9 ne_k3_k4
  replace MR := hK9.mo MR (fun k e => e ▸ NR_k4)
  replace M := hK9.mo M (fun k e => e ▸ N_k4)
  clear hK9
  refine w_nil ?_
  refine xn_then ?_
  refine w_seq ?_
  refine w_reg ?_
  refine wl_load 22 (.tmp 1) (pt k1 0) (.slice A.pl l.length A.cl) rfl rfl (run_one Q1 22 0 rfl Try.underlying22 rfl) rfl ?_
  refine wl_val (.int .i64 ((l.length : Nat) : Int)) (len22 _ _ _ _ _ (by exact rfl) _ _ _ _ _ _) rfl ?_
  refine wl_makeS 81 4 (.tmp 18) (.tmp 18) (l.length) (.bool false) 1 Try.underlying81 inf4 rfl (by omega) (by omega) rfl rfl rfl rfl ?_
  intro k5 u8 hk hz hq O5
  have Q5 := O5.at
  have ne_k1_k5 : k1 ≠ k5 := by have := Q1.lt; omega
  have ne_k2_k5 : k2 ≠ k5 := by have := Q2.lt; omega
  have ne_kr_k5 : A.r ≠ k5 := by have := QR.lt; omega
  have ne_k3_k5 : k3 ≠ k5 := by have := Q3.lt; omega
  have ne_k4_k5 : k4 ≠ k5 := by have := Q4.lt; omega
  have N_k5 : w.heap.size ≤ k5 := by have := M.size; omega
  have NL_k5 : A.N ≤ k5 := by have := MR.size; omega
  replace Q1 := Q1.mo hq
  replace Q2 := Q2.mo hq
  replace QR := QR.mo hq
  replace Q3 := Q3.mo hq
  replace Q4 := Q4.mo hq
  replace O1 := O1.mo hq
  replace O2 := O2.mo hq
  replace O3 := O3.mo hq
  replace O4 := O4.mo hq
  replace MR := MR.trans hq
  replace M := M.trans hq
  clear hk hz hq
  refine wl_allocO 81 [.slice none 0 0] rfl (fun _ => by kernel_rfl) rfl ?_
  intro k6 u9 hk hz9 hq O6
  have Q6 := O6.at
  have NR_k6 : u2.heap.size ≤ k6 := by have := MR.size; omega
  have ne_k1_k6 : k1 ≠ k6 := by have := Q1.lt; omega
  have ne_k2_k6 : k2 ≠ k6 := by have := Q2.lt; omega
  have ne_kr_k6 : A.r ≠ k6 := by have := QR.lt; omega
  have ne_k3_k6 : k3 ≠ k6 := by have := Q3.lt; omega
  have ne_k4_k6 : k4 ≠ k6 := by have := Q4.lt; omega
  have ne_k5_k6 : k5 ≠ k6 := by have := Q5.lt; omega
  have N_k6 : w.heap.size ≤ k6 := by have := M.size; omega
  replace Q1 := Q1.mo hq
  replace Q2 := Q2.mo hq
  replace QR := QR.mo hq
  replace Q3 := Q3.mo hq
  replace Q4 := Q4.mo hq
  replace Q5 := Q5.mo hq
  replace O1 := O1.mo hq
  replace O2 := O2.mo hq
  replace O3 := O3.mo hq
  replace O4 := O4.mo hq
  replace O5 := O5.mo hq
  replace MR := MR.trans hq
  replace M := M.trans hq
  clear hk hz9 hq
  refine wl_stO 81 (.tmp 5) (.tmp 19) k6 0 (.slice (some ⟨k5, 0, none⟩) l.length l.length) _ _ [.slice (some ⟨k5, 0, none⟩) l.length l.length] O6 rfl rfl rfl rfl rfl sz81 rfl rfl rfl rfl ?_
  intro u10 hK9 O9
  clear O6
  have O6 := O9
  clear O9
  replace Q6 := O6.at
  replace Q1 := hK9.at Q1 ne_k1_k6
  replace O1 := O1.mk hK9 ne_k1_k6
  replace Q2 := hK9.at Q2 ne_k2_k6
  replace O2 := O2.mk hK9 ne_k2_k6
  replace QR := hK9.at QR ne_kr_k6
  replace Q3 := hK9.at Q3 ne_k3_k6
  replace O3 := O3.mk hK9 ne_k3_k6
  replace Q4 := hK9.at Q4 ne_k4_k6
  replace O4 := O4.mk hK9 ne_k4_k6
  replace Q5 := hK9.at Q5 ne_k5_k6
  replace O5 := O5.mk hK9 ne_k5_k6
  replace MR := hK9.mo MR (fun k e => e ▸ NR_k6)
  replace M := hK9.mo M (fun k e => e ▸ N_k6)
  clear hK9
  refine w_nil ?_
  refine xn_then ?_
  refine w_seq ?_
  refine w_reg ?_
  refine wl_allocO 82 [.nilFunc] rfl (fun _ => by kernel_rfl) rfl ?_
  intro k7 u11 hk hz9 hq O7
  have Q7 := O7.at
  have NR_k7 : u2.heap.size ≤ k7 := by have := MR.size; omega
  have ne_k1_k7 : k1 ≠ k7 := by have := Q1.lt; omega
  have ne_k2_k7 : k2 ≠ k7 := by have := Q2.lt; omega
  have ne_kr_k7 : A.r ≠ k7 := by have := QR.lt; omega
  have ne_k3_k7 : k3 ≠ k7 := by have := Q3.lt; omega
  have ne_k4_k7 : k4 ≠ k7 := by have := Q4.lt; omega
  have ne_k5_k7 : k5 ≠ k7 := by have := Q5.lt; omega
  have ne_k6_k7 : k6 ≠ k7 := by have := Q6.lt; omega
  have N_k7 : w.heap.size ≤ k7 := by have := M.size; omega
  replace Q1 := Q1.mo hq
  replace Q2 := Q2.mo hq
  replace QR := QR.mo hq
  replace Q3 := Q3.mo hq
  replace Q4 := Q4.mo hq
  replace Q5 := Q5.mo hq
  replace Q6 := Q6.mo hq
  replace O1 := O1.mo hq
  replace O2 := O2.mo hq
  replace O3 := O3.mo hq
  replace O4 := O4.mo hq
  replace O5 := O5.mo hq
  replace O6 := O6.mo hq
  replace MR := MR.trans hq
  replace M := M.trans hq
  clear hk hz9 hq
  refine w_nil ?_
  refine xn_then ?_
  refine w_seq ?_
  refine w_reg ?_
  refine wl_mf (.func 65) [] [(.tmp 5), (.tmp 3), (.tmp 1), (.tmp 4), (.tmp 6)] [] [pt k6 0, pt k2 0, pt k1 0, pt k4 0, pt k7 0] rfl rfl rfl rfl ?_
  refine wl_stO 82 (.tmp 6) (.tmp 20) k7 0 (.func (.func 65) #[] #[pt k6 0, pt k2 0, pt k1 0, pt k4 0, pt k7 0]) _ _ [.func (.func 65) #[] #[pt k6 0, pt k2 0, pt k1 0, pt k4 0, pt k7 0]] O7 rfl rfl rfl rfl rfl sz82 rfl rfl rfl rfl ?_
  intro u12 hK9 O9
  clear O7
  have O7 := O9
  clear O9
  replace Q7 := O7.at
  replace Q1 := hK9.at Q1 ne_k1_k7
  replace O1 := O1.mk hK9 ne_k1_k7
  replace Q2 := hK9.at Q2 ne_k2_k7
  replace O2 := O2.mk hK9 ne_k2_k7
  replace QR := hK9.at QR ne_kr_k7
  replace Q3 := hK9.at Q3 ne_k3_k7
  replace O3 := O3.mk hK9 ne_k3_k7
  replace Q4 := hK9.at Q4 ne_k4_k7
  replace O4 := O4.mk hK9 ne_k4_k7
  replace Q5 := hK9.at Q5 ne_k5_k7
  replace O5 := O5.mk hK9 ne_k5_k7
  replace Q6 := hK9.at Q6 ne_k6_k7
  replace O6 := O6.mk hK9 ne_k6_k7
  replace MR := hK9.mo MR (fun k e => e ▸ NR_k7)
  replace M := hK9.mo M (fun k e => e ▸ N_k7)
  clear hK9
  refine w_nil ?_
  refine xn_then ?_
  refine w_seq ?_
  refine w_seq ?_
  refine w_reg ?_
  refine wl_load 22 (.tmp 1) (pt k1 0) (.slice A.pl l.length A.cl) rfl rfl (run_one Q1 22 0 rfl Try.underlying22 rfl) rfl ?_
  refine wl_val (.int .i64 ((l.length : Nat) : Int)) (len22 _ _ _ _ _ (by exact rfl) _ _ _ _ _ _) rfl ?_
  refine wl_mv (.const (.int .i64 (0))) (.int .i64 (0)) (fun _ => rfl) rfl rfl ?_
  refine w_nil ?_
  refine xn_then ?_
  refine w_block ?_
  have hG : Gs w l A ⟨k6, k2, k1, k4, k7, k5, k3⟩ u12 (List.replicate l.length false) (List.replicate (nI l) ⟨none, 0, []⟩) F0 [] := ⟨O6, O2, O1, O4, O7, by rw [List.map_replicate]; exact O5, by rw [List.map_replicate]; exact O3, by simp, by simp, fun x hx => by rw [(List.mem_replicate.1 hx).2]; exact Li.nil _, hR.mo MR, hk3R, NL_k5, NL_k3, M.kp⟩
  obtain ⟨G, hGG⟩ : ∃ G : Gd, G = ⟨k6, k2, k1, k4, k7, k5, k3⟩ := ⟨_, rfl⟩
  rw [← hGG] at hG
  have g_kE : k6 = G.kE := by rw [hGG]
  have g_kQ : k2 = G.kQ := by rw [hGG]
  have g_kL : k1 = G.kL := by rw [hGG]
  have g_kA : k4 = G.kA := by rw [hGG]
  have g_kG : k7 = G.kG := by rw [hGG]
  have g_ke : k5 = G.ke := by rw [hGG]
  have g_ka : k3 = G.ka := by rw [hGG]
  have hkaN : w.heap.size ≤ G.ka := by rw [← g_ka]; exact N_k3
  refine w_loop (fun m lf w1 => ∃ i : Nat, ∃ E : List Bool, ∃ V : List Iz, m = l.length - i ∧ look lf 1 = pt G.kL 0 ∧ look lf 3 = pt G.kQ 0 ∧ look lf 4 = pt G.kA 0 ∧ look lf 5 = pt G.kE 0 ∧ look lf 6 = pt G.kG 0 ∧ look lf 22 = .int .i64 ((l.length : Nat) : Int) ∧ look lf 23 = .int .i64 ((i : Nat) : Int) ∧ (i ≤ l.length) ∧ (Gs w l A G w1 E V F0 []) ∧ (Mo w w1) ∧ (Gx l (List.replicate l.length false) ((List.replicate (nI l) (⟨none, 0, []⟩ : Iz)).map Iz.L) E (V.map Iz.L)) ∧ (∀ j, j < i → E[j]? = some true)) _ ⟨0, _, _, rfl, (congrArg (fun q => pt q 0) g_kL), (congrArg (fun q => pt q 0) g_kQ), (congrArg (fun q => pt q 0) g_kA), (congrArg (fun q => pt q 0) g_kE), (congrArg (fun q => pt q 0) g_kG), rfl, rfl, Nat.zero_le _, hG, M, Gx.refl _ _ _, (fun j hj => by omega)⟩ ?_
  clear hG M
  rintro m lf40 wl40 ⟨i, E, V, rfl, e40_1, e40_3, e40_4, e40_5, e40_6, e40_22, e40_23, hi, hG, M, hX, hT⟩
  have M0 := M
  clear M
  have M : Mo wl40 wl40 := Mo.refl _
  cases hd2 : decide (i < l.length) with
  | true =>
    have hil := of_decide_eq_true hd2
    have hsi : hasS l (i : Int) = true := by rw [hasS_nat]; exact decide_eq_true hil
    have hEl : E[i]? = some true ∨ E[i]? = some false := by obtain ⟨bb, hbb⟩ := get_of_lt (show i < E.length by rw [hG.le]; exact hil); cases bb; exact Or.inr hbb; exact Or.inl hbb
    rcases hEl with hEi | hEi
    · skip
      have a_kE := hG.bE.at
      have a_kQ := hG.bQ.at
      have a_kL := hG.bL.at
      have a_kA := hG.bA.at
      have a_kG := hG.bG.at
      have a_ke := hG.en.at
      refine w_seq ?_
      refine w_reg ?_
      refine wl_bin (fun x y => do eqGuard .lss 3 (.tmp 23) (.tmp 22) x y; binOp .lss 3 x y) (.tmp 23) (.tmp 22) (.int .i64 ((i : Nat) : Int)) (.int .i64 ((l.length : Nat) : Int)) (.bool true) (fun _ => rfl) e40_23 e40_22 (ltN hd2 _ _ _) rfl ?_
      refine w_nil ?_
      refine xn_then ?_
      refine w_seq ?_
      refine w_condT rfl ?_
      refine w_skip ?_
      refine xn_then ?_
      refine w_seq ?_
      refine w_block ?_
      refine w_seq ?_
      refine w_reg ?_
      refine wl_mv (.tmp 23) (.int .i64 ((i : Nat) : Int)) (fun _ => rfl) e40_23 rfl ?_
      refine wl_mv (.tmp 25) (.int .i64 ((i : Nat) : Int)) (fun _ => rfl) rfl rfl ?_
      refine w_nil ?_
      refine xn_then ?_
      refine w_seq ?_
      refine w_reg ?_
      refine wl_load 81 (.tmp 5) (pt G.kE 0) (.slice (some ⟨G.ke, 0, none⟩) l.length l.length) rfl e40_5 (run_one a_kE 81 0 rfl Try.underlying81 rfl) rfl ?_
      refine wl_mv (.tmp 7) (.int .i64 ((i : Nat) : Int)) (fun _ => rfl) rfl rfl ?_
      refine wl_bin (fun x y => Instr.indexAt 81 x y) (.tmp 26) (.tmp 27) (.slice (some ⟨G.ke, 0, none⟩) l.length l.length) (.int .i64 ((i : Nat) : Int)) (pt G.ke (0 + i * 1)) (fun _ => rfl) rfl rfl (ix81 (i := i) rfl hil _) rfl ?_
      refine wl_load 4 (.tmp 28) (pt G.ke (0 + i * 1)) (.bool true) rfl rfl (run_one a_ke 4 (0 + i * 1) (by simp [hEi]) Try.underlying4 rfl) rfl ?_
      refine wl_un (fun v => Op.unary .not v) (.tmp 29) (.bool true) (.bool false) (fun _ => rfl) rfl (by kernel_rfl) rfl ?_
      refine w_nil ?_
      refine xn_then ?_
      refine w_condF rfl ?_
      refine w_skip ?_
      refine xn_blk ?_
      refine xn_then ?_
      refine w_reg ?_
      refine wl_bin (fun x y => do eqGuard .add 3 (.tmp 23) (.const (.int .i64 (1))) x y; binOp .add 3 x y) (.tmp 23) (.const (.int .i64 (1))) (.int .i64 ((i : Nat) : Int)) (.int .i64 (1)) (.int .i64 ((i + 1 : Nat) : Int)) (fun _ => rfl) e40_23 rfl (add1r (k := i) (by omega) _ _ _) rfl ?_
      refine wl_mv (.tmp 52) (.int .i64 ((i + 1 : Nat) : Int)) (fun _ => rfl) rfl rfl ?_
      refine w_nil ?_
      exact xn_loop (l.length - (i + 1)) (by omega) ⟨i + 1, E, V, rfl, e40_1, e40_3, e40_4, e40_5, e40_6, e40_22, rfl, by omega, hG.mo M, M0.trans M, hX, (fun j hj => by rcases Nat.lt_or_ge j i with q | q; exact hT j q; rw [show j = i by omega]; exact hEi)⟩
    · skip
      have a_kE := hG.bE.at
      have a_kQ := hG.bQ.at
      have a_kL := hG.bL.at
      have a_kA := hG.bA.at
      have a_kG := hG.bG.at
      have a_ke := hG.en.at
      refine w_seq ?_
      refine w_reg ?_
      refine wl_bin (fun x y => do eqGuard .lss 3 (.tmp 23) (.tmp 22) x y; binOp .lss 3 x y) (.tmp 23) (.tmp 22) (.int .i64 ((i : Nat) : Int)) (.int .i64 ((l.length : Nat) : Int)) (.bool true) (fun _ => rfl) e40_23 e40_22 (ltN hd2 _ _ _) rfl ?_
      refine w_nil ?_
      refine xn_then ?_
      refine w_seq ?_
      refine w_condT rfl ?_
      refine w_skip ?_
      refine xn_then ?_
      refine w_seq ?_
      refine w_block ?_
      refine w_seq ?_
      refine w_reg ?_
      refine wl_mv (.tmp 23) (.int .i64 ((i : Nat) : Int)) (fun _ => rfl) e40_23 rfl ?_
      refine wl_mv (.tmp 25) (.int .i64 ((i : Nat) : Int)) (fun _ => rfl) rfl rfl ?_
      refine w_nil ?_
      refine xn_then ?_
      refine w_seq ?_
      refine w_reg ?_
      refine wl_load 81 (.tmp 5) (pt G.kE 0) (.slice (some ⟨G.ke, 0, none⟩) l.length l.length) rfl e40_5 (run_one a_kE 81 0 rfl Try.underlying81 rfl) rfl ?_
      refine wl_mv (.tmp 7) (.int .i64 ((i : Nat) : Int)) (fun _ => rfl) rfl rfl ?_
      refine wl_bin (fun x y => Instr.indexAt 81 x y) (.tmp 26) (.tmp 27) (.slice (some ⟨G.ke, 0, none⟩) l.length l.length) (.int .i64 ((i : Nat) : Int)) (pt G.ke (0 + i * 1)) (fun _ => rfl) rfl rfl (ix81 (i := i) rfl hil _) rfl ?_
      refine wl_load 4 (.tmp 28) (pt G.ke (0 + i * 1)) (.bool false) rfl rfl (run_one a_ke 4 (0 + i * 1) (by simp [hEi]) Try.underlying4 rfl) rfl ?_
      refine wl_un (fun v => Op.unary .not v) (.tmp 29) (.bool false) (.bool true) (fun _ => rfl) rfl (by kernel_rfl) rfl ?_
      refine w_nil ?_
      refine xn_then ?_
      refine w_condT rfl ?_
      refine w_seq ?_
      refine w_reg ?_
      refine wl_load 22 (.tmp 1) (pt G.kL 0) (.slice A.pl l.length A.cl) rfl e40_1 (run_one a_kL 22 0 rfl Try.underlying22 rfl) rfl ?_
      refine wl_mv (.tmp 7) (.int .i64 ((i : Nat) : Int)) (fun _ => rfl) rfl rfl ?_
      refine wl_callx 35 [(.tmp 32), (.tmp 33)] _ [.slice A.pl l.length A.cl, .int .i64 ((i : Nat) : Int)] rfl rfl (fun _ _ => by kernel_rfl) (wayUp_n (hL.kp (hG.mo M).kp) (by omega) ((i : Nat) : Int)) rfl ?_
      rintro e9 u41 ⟨wp, wc, rfl, hW, hq⟩
      refine ⟨_, rfl, ?_⟩
      replace hW := own_base hW (Nat.zero_le _)
      replace a_kE := a_kE.mo hq
      replace a_kQ := a_kQ.mo hq
      replace a_kL := a_kL.mo hq
      replace a_kA := a_kA.mo hq
      replace a_kG := a_kG.mo hq
      replace a_ke := a_ke.mo hq
      replace M := M.trans hq
      clear hq
      have hWy := way_of l ((i : Nat) : Int)
      obtain ⟨tl, htl, htlL, hFt⟩ := FM_circ hsi []
      have hWl := hWy.len
      have hcl : (wy l ((i : Nat) : Int)).2 ≤ (wy l ((i : Nat) : Int)).1.length := by rcases hWy.en with ⟨q, _⟩ | ⟨_, _, _, _, q⟩; omega; have := lt_of_get q; omega
      obtain ⟨p2, c2, hTl, hsl⟩ := piece32 hW hcl (by unfold maxLen; omega)
      have hLiW := Li.own hW (by unfold maxLen; omega)
      generalize hWW : (wy l ((i : Nat) : Int)).1 = WW at *
      generalize hcc : (wy l ((i : Nat) : Int)).2 = cc at *
      refine wl_mv (.tmp 34) (.tuple #[.slice wp WW.length wc, .int .i64 ((cc : Nat) : Int)]) (fun _ => rfl) rfl rfl ?_
      refine wl_un (fun v => Instr.extract v 0) (.tmp 31) (.tuple #[.slice wp WW.length wc, .int .i64 ((cc : Nat) : Int)]) (.slice wp WW.length wc) (fun _ => rfl) rfl (by kernel_rfl) rfl ?_
      refine wl_un (fun v => Instr.extract v 1) (.tmp 31) (.tuple #[.slice wp WW.length wc, .int .i64 ((cc : Nat) : Int)]) (.int .i64 ((cc : Nat) : Int)) (fun _ => rfl) rfl (by kernel_rfl) rfl ?_
      refine wl_mv (.tmp 35) (.slice wp WW.length wc) (fun _ => rfl) rfl rfl ?_
      refine wl_mv (.tmp 36) (.int .i64 ((cc : Nat) : Int)) (fun _ => rfl) rfl rfl ?_
      refine w_nil ?_
      refine xn_then ?_
      refine w_seq ?_
      have MT : Mo u41 u41 := Mo.refl _
      have hsm9 : Smos [vq (pt A.r 0), vq (.slice wp WW.length wc), vq (.int .i64 ((cc : Nat) : Int)), vq (.slice p2 (WW.drop cc).length c2)] := smos_cons (smo_vq _) (smos_cons (smo_vq _) (smos_cons (smo_vq _) (smos_cons (smo_vq _) (smos_nil))))
      refine w_ogc 4 (fun w9 => Mo u41 w9) [vq (pt A.r 0), vq (.slice wp WW.length wc), vq (.int .i64 ((cc : Nat) : Int)), vq (.slice p2 (WW.drop cc).length c2)] [] (by kernel_rfl) (by kernel_rfl) (by kernel_rfl) (by kernel_rfl) rfl (by kernel_rfl) (by kernel_rfl) latec_nil ((Mo.refl _).drew) ?_ ?_
      · refine ea_cons ?_ (ea_cons ?_ (ea_cons ?_ (ea_cons ?_ (ea_nil))))
        · exact oc_eq (pt A.r 0) rfl (fun _ _ h m => h.trans m) hsm9 (fun f wf hq hd K hK => have a_kQ := a_kQ.mo hq; go_run rfl (wo_load 72 (.tmp 3) (pt G.kQ 0) (pt A.r 0) rfl e40_3 (run_one a_kQ 72 0 rfl Try.underlying72 rfl) (hK _ (Mo.refl _))))
        · exact oc_eq (.slice wp WW.length wc) rfl (fun _ _ h m => h.trans m) hsm9 (fun f wf hq hd K hK => go_run rfl (wo_mv (.tmp 8) (.slice wp WW.length wc) (fun _ => rfl) rfl (hK _ (Mo.refl _))))
        · exact oc_eq (.int .i64 ((cc : Nat) : Int)) rfl (fun _ _ h m => h.trans m) hsm9 (fun f wf hq hd K hK => go_run rfl (wo_mv (.tmp 9) (.int .i64 ((cc : Nat) : Int)) (fun _ => rfl) rfl (hK _ (Mo.refl _))))
        · exact oc_eq (.slice p2 (WW.drop cc).length c2) rfl (fun _ _ h m => h.trans m) hsm9 (fun f wf hq hd K hK => go_run rfl (wo_val (.slice p2 (WW.drop cc).length c2) (hsl _ _ _ (by exact (hd 1 rfl)) (by exact (hd 2 rfl)) _ _ _ _ _ _) (hK _ (Mo.refl _))))
      intro f u42 hq hR9
      have er0 := hR9 0 rfl
      have er1 := hR9 1 rfl
      have er2 := hR9 2 rfl
      have er3 := hR9 3 rfl
      clear hR9 hsm9
      replace a_kE := a_kE.mo hq
      replace a_kQ := a_kQ.mo hq
      replace a_kL := a_kL.mo hq
      replace a_kA := a_kA.mo hq
      replace a_kG := a_kG.mo hq
      replace a_ke := a_ke.mo hq
      replace MT := MT.trans hq
      replace M := M.trans hq
      clear hq
      refine wl_callx 36 [(.tmp 37), (.tmp 40)] _ [pt A.r 0, .slice p2 (WW.drop cc).length c2] rfl (li2 er0 er3) (fun _ _ => by kernel_rfl) (R.enter_n (S := WW.drop cc) ((hG.mo M).rd) (hG.mo M).kp hAN hL hLx (by omega) ⟨(hTl.mo MT).sl, (hTl.mo MT).ty⟩ (fun x hx => hWy.rg x (List.mem_of_mem_drop hx)) (by simp; omega) (by have := sumI_le (l := l) (hWy.nd.sublist (List.drop_sublist cc WW)) (fun x hx => hWy.rg x (List.mem_of_mem_drop hx)); simp; omega)) rfl ?_
      rintro e9 u43 ⟨rfl, hR2, hm9⟩
      refine ⟨_, rfl, ?_⟩
      obtain ⟨Pp, hP1, hP2, hP3⟩ := entW_hid l (WW.drop cc) (F0, [])
      have hPb := sumI_le (l := l) (hWy.nd.sublist (List.drop_sublist cc WW)) (fun x hx => hWy.rg x (List.mem_of_mem_drop hx))
      rw [hFt] at hR2 hP3
      rw [hP1] at hR2
      replace hP3 : lev Pp (FM l (par l tl)) = F0 := hP3
      replace hR2 : Rdr l A u43 (FM l (par l tl)) Pp := hR2
      have hG2 := (hG.mo M).de hAN hm9 hR2
      have M2 := hm9.mo (M0.trans M) (fun k e => Nat.le_trans hAN (DE.N (hG.rd.mo M) e))
      have hLi2 := (hLiW.mo MT).kk hm9 (fun a e => DE.ty (hG.rd.mo M) ((hLiW.mo MT).ty a e) (by decide) (by decide))
      clear a_kE
      clear a_kQ
      clear a_kL
      clear a_kA
      clear a_kG
      clear a_ke
      clear hm9 hR2 MT
      clear M
      have M : Mo u43 u43 := Mo.refl _
      have a_kE := hG2.bE.at
      have a_kQ := hG2.bQ.at
      have a_kL := hG2.bL.at
      have a_kA := hG2.bA.at
      have a_kG := hG2.bG.at
      refine w_nil ?_
      refine xn_then ?_
      refine w_seq ?_
      have hWp : 0 < WW.length := by rw [List.getLast?_eq_getElem?] at htl; have := lt_of_get htl; omega
      have hwt : WW[WW.length - 1]? = some tl := by rw [← List.getLast?_eq_getElem?]; exact htl
      have hwl : WW.length - 1 < WW.length := by omega
      obtain ⟨bw, ow, hpw, hRw⟩ := D.SL.rw hLi2.sl hwt
      have hsm9 : Smos [vq (.func (.func 65) #[] #[pt G.kE 0, pt G.kQ 0, pt G.kL 0, pt G.kA 0, pt G.kG 0]), vq (.slice wp WW.length wc), vq (.slice wp WW.length wc), vq (.int .i64 ((WW.length : Nat) : Int)), vq (.int .i64 ((WW.length - 1 : Nat) : Int)), vq (pt bw (ow + (WW.length - 1) * 1)), vq (.int .i64 ((tl : Nat) : Int))] := smos_cons (smo_vq _) (smos_cons (smo_vq _) (smos_cons (smo_vq _) (smos_cons (smo_vq _) (smos_cons (smo_vq _) (smos_cons (smo_vq _) (smos_cons (smo_vq _) (smos_nil)))))))
      refine w_ogc 7 (fun w9 => Mo u43 w9) [vq (.func (.func 65) #[] #[pt G.kE 0, pt G.kQ 0, pt G.kL 0, pt G.kA 0, pt G.kG 0]), vq (.slice wp WW.length wc), vq (.slice wp WW.length wc), vq (.int .i64 ((WW.length : Nat) : Int)), vq (.int .i64 ((WW.length - 1 : Nat) : Int)), vq (pt bw (ow + (WW.length - 1) * 1)), vq (.int .i64 ((tl : Nat) : Int))] [] (by kernel_rfl) (by kernel_rfl) (by kernel_rfl) (by kernel_rfl) rfl (by kernel_rfl) (by kernel_rfl) latec_nil ((Mo.refl _).drew) ?_ ?_
      · refine ea_cons ?_ (ea_cons ?_ (ea_cons ?_ (ea_cons ?_ (ea_cons ?_ (ea_cons ?_ (ea_cons ?_ (ea_nil)))))))
        · exact oc_eq (.func (.func 65) #[] #[pt G.kE 0, pt G.kQ 0, pt G.kL 0, pt G.kA 0, pt G.kG 0]) rfl (fun _ _ h m => h.trans m) hsm9 (fun f wf hq hd K hK => have a_kG := a_kG.mo hq; go_run rfl (wo_load 82 (.tmp 6) (pt G.kG 0) (.func (.func 65) #[] #[pt G.kE 0, pt G.kQ 0, pt G.kL 0, pt G.kA 0, pt G.kG 0]) rfl e40_6 (run_one a_kG 82 0 rfl Try.underlying82 rfl) (hK _ (Mo.refl _))))
        · exact oc_eq (.slice wp WW.length wc) rfl (fun _ _ h m => h.trans m) hsm9 (fun f wf hq hd K hK => go_run rfl (wo_mv (.tmp 8) (.slice wp WW.length wc) (fun _ => rfl) rfl (hK _ (Mo.refl _))))
        · exact oc_eq (.slice wp WW.length wc) rfl (fun _ _ h m => h.trans m) hsm9 (fun f wf hq hd K hK => go_run rfl (wo_mv (.tmp 8) (.slice wp WW.length wc) (fun _ => rfl) rfl (hK _ (Mo.refl _))))
        · exact oc_eq (.int .i64 ((WW.length : Nat) : Int)) rfl (fun _ _ h m => h.trans m) hsm9 (fun f wf hq hd K hK => go_run rfl (wo_val (.int .i64 ((WW.length : Nat) : Int)) (len32 _ _ _ _ _ (by exact (hd 2 rfl)) _ _ _ _ _ _) (hK _ (Mo.refl _))))
        · exact oc_eq (.int .i64 ((WW.length - 1 : Nat) : Int)) rfl (fun _ _ h m => h.trans m) hsm9 (fun f wf hq hd K hK => go_run rfl (wo_bin (fun x y => do eqGuard .sub 3 (.tmp 45) (.const (.int .i64 (1))) x y; binOp .sub 3 x y) (.tmp 45) (.const (.int .i64 (1))) (.int .i64 ((WW.length : Nat) : Int)) (.int .i64 (1)) (.int .i64 ((WW.length - 1 : Nat) : Int)) (fun _ => rfl) (hd 3 rfl) rfl (sub1N hWp (by omega) _ _ _) (hK _ (Mo.refl _))))
        · exact oc_eq (pt bw (ow + (WW.length - 1) * 1)) rfl (fun _ _ h m => h.trans m) hsm9 (fun f wf hq hd K hK => go_run rfl (wo_bin (fun x y => Instr.indexAt 32 x y) (.tmp 43) (.tmp 46) (.slice wp WW.length wc) (.int .i64 ((WW.length - 1 : Nat) : Int)) (pt bw (ow + (WW.length - 1) * 1)) (fun _ => rfl) (hd 1 rfl) (hd 4 rfl) (ix32 (i := WW.length - 1) hpw hwl _) (hK _ (Mo.refl _))))
        · exact oc_eq (.int .i64 ((tl : Nat) : Int)) rfl (fun _ _ h m => h.trans m) hsm9 (fun f wf hq hd K hK => go_run rfl (wo_load 3 (.tmp 47) (pt bw (ow + (WW.length - 1) * 1)) (.int .i64 ((tl : Nat) : Int)) rfl (hd 5 rfl) (D.run_oneR (hRw.mo (M.trans hq)).at' 3 0 rfl Try.underlying3 rfl) (hK _ (Mo.refl _))))
      intro f u44 hq hR9
      have er0 := hR9 0 rfl
      have er1 := hR9 1 rfl
      have er2 := hR9 2 rfl
      have er3 := hR9 3 rfl
      have er4 := hR9 4 rfl
      have er5 := hR9 5 rfl
      have er6 := hR9 6 rfl
      clear hR9 hsm9
      replace a_kE := a_kE.mo hq
      replace a_kQ := a_kQ.mo hq
      replace a_kL := a_kL.mo hq
      replace a_kA := a_kA.mo hq
      replace a_kG := a_kG.mo hq
      replace M := M.trans hq
      clear hq
      refine wl_callv 65 (.tmp 42) #[] #[pt G.kE 0, pt G.kQ 0, pt G.kL 0, pt G.kA 0, pt G.kG 0] [(.tmp 48)] _ [.int .i64 ((tl : Nat) : Int)] [.int .i64 ((tl : Nat) : Int), pt G.kE 0, pt G.kQ 0, pt G.kL 0, pt G.kA 0, pt G.kG 0] rfl er0 (li1 er6) rfl (fun _ _ => by kernel_rfl) (gather_n hAN hL hLx (by omega) (by omega) hnd (cfl E) (Nat.le_refl _) htlL (hG2.mo M) (by have := rem_nI l E; omega)) rfl ?_
      rintro e9 u45 ⟨rfl, E2, V2, hG3, hD3, hX2, hT3⟩
      refine ⟨_, rfl, ?_⟩
      have M3 := hD3.mo (M2.trans M) (fun k e => by rcases e with e | e | e; exact Nat.le_trans hAN (DE.N (hG2.rd.mo M) e); exact e ▸ Nat.le_trans hAN hG2.ne; exact e ▸ Nat.le_trans hAN hG2.na)
      have hEi2 : E2[i]? = some true := way_in hWy (closed (hX.trans hX2)) 0 i tl (by have := hWy.hd hsi; rwa [Int.toNat_natCast] at this) hwt hT3
      clear a_kE
      clear a_kQ
      clear a_kL
      clear a_kA
      clear a_kG
      clear M
      have M : Mo u45 u45 := Mo.refl _
      have a_kE := hG3.bE.at
      have a_kQ := hG3.bQ.at
      have a_kL := hG3.bL.at
      have a_kA := hG3.bA.at
      have a_kG := hG3.bG.at
      refine w_nil ?_
      refine xn_then ?_
      refine w_reg ?_
      refine wl_load 72 (.tmp 3) (pt G.kQ 0) (pt A.r 0) rfl e40_3 (run_one a_kQ 72 0 rfl Try.underlying72 rfl) rfl ?_
      refine wl_callx 66 [(.tmp 50), (.const (.int .i64 (0)))] _ [pt A.r 0, .int .i64 (0)] rfl rfl (fun _ _ => by kernel_rfl) (R.leave_n (hG3.rd.mo M) (h := 0) (Nat.zero_le _) (by omega)) rfl ?_
      rintro e9 u46 ⟨rfl, hR6, hm9⟩
      refine ⟨_, rfl, ?_⟩
      rw [List.drop_zero, List.take_zero, hP3] at hR6
      have hG4 := (hG3.mo M).de hAN hm9 hR6
      have M4 := hm9.mo (M3.trans M) (fun k e => Nat.le_trans hAN (DE.N (hG3.rd.mo M) e))
      clear a_kE
      clear a_kQ
      clear a_kL
      clear a_kA
      clear a_kG
      clear hm9 hR6
      clear M
      have M : Mo u46 u46 := Mo.refl _
      refine w_nil ?_
      refine xn_blk ?_
      refine xn_then ?_
      refine w_reg ?_
      refine wl_bin (fun x y => do eqGuard .add 3 (.tmp 23) (.const (.int .i64 (1))) x y; binOp .add 3 x y) (.tmp 23) (.const (.int .i64 (1))) (.int .i64 ((i : Nat) : Int)) (.int .i64 (1)) (.int .i64 ((i + 1 : Nat) : Int)) (fun _ => rfl) e40_23 rfl (add1r (k := i) (by omega) _ _ _) rfl ?_
      refine wl_mv (.tmp 52) (.int .i64 ((i + 1 : Nat) : Int)) (fun _ => rfl) rfl rfl ?_
      refine w_nil ?_
      exact xn_loop (l.length - (i + 1)) (by omega) ⟨i + 1, E2, V2, rfl, e40_1, e40_3, e40_4, e40_5, e40_6, e40_22, rfl, by omega, hG4.mo M, M4.trans M, hX.trans hX2, (fun j hj => by rcases Nat.lt_or_ge j i with q | q; exact hX2.up j (hT j q); rw [show j = i by omega]; exact hEi2)⟩
  | false =>
    have hie : i = l.length := by have := of_decide_eq_false hd2; omega
    have a_kE := hG.bE.at
    have a_kQ := hG.bQ.at
    have a_kL := hG.bL.at
    have a_kA := hG.bA.at
    have a_kG := hG.bG.at
    refine w_seq ?_
    refine w_reg ?_
    refine wl_bin (fun x y => do eqGuard .lss 3 (.tmp 23) (.tmp 22) x y; binOp .lss 3 x y) (.tmp 23) (.tmp 22) (.int .i64 ((i : Nat) : Int)) (.int .i64 ((l.length : Nat) : Int)) (.bool false) (fun _ => rfl) e40_23 e40_22 (ltN hd2 _ _ _) rfl ?_
    refine w_nil ?_
    refine xn_then ?_
    refine w_seq ?_
    refine w_condF rfl ?_
    refine w_exit ?_
    refine xx_then ?_
    refine xx_then ?_
    refine xx_blk ?_
    refine xn_then ?_
    refine w_seq ?_
    refine w_reg ?_
    refine wl_load 79 (.tmp 4) (pt G.kA 0) (.slice (some ⟨G.ka, 0, none⟩) (nI l) (nI l)) rfl e40_4 (run_one a_kA 79 0 rfl Try.underlying79 rfl) rfl ?_
    refine wl_mv (.tmp 53) (.slice (some ⟨G.ka, 0, none⟩) (nI l) (nI l)) (fun _ => rfl) rfl rfl ?_
    refine w_nil ?_
    refine xn_then ?_
    refine w_ret ?_
    exact w_ret1 _ (.slice (some ⟨G.ka, 0, none⟩) (nI l) (nI l)) rfl rfl ⟨G.ka, V, rfl, (hG.mo M).al, (hG.mo M).li, all_done hX (by simp) (fun j hj => hT j (by omega)), hkaN, M0.trans M⟩
end Go.Proofs.Ythghblgbjgghcaa
