/-
  What an expression reads, gathered.
-/
import Derived.Test.YthghblgbjgghcaaGa
namespace Go.Proofs.Ythghblgbjgghcaa
open Go.RowKit D
theorem gath_n {l : List S5} {A : Ra} {wE w0 : World} {F : Fn} {hid : List (ByteArray × Int)} {s kR kS kF kG : Nat} (hR : Rdr l A wE F hid) (hK : Kp w0 wE) (hF : Fok l F) : ∀ (x : Ex), LEx w0 x → ∀ {b o : Nat}, Rw w0 b o x.cells → ∀ {S : Nat → Prop} {w : World} {L : List Nat}, Fs A s wE S w kR kS kF kG L → L.length + nd x ≤ 3000000 → Calls Try.prog 57 #[pt b o, pt kR 0, pt kS 0, pt kF 0, pt kG 0] w fun e w' => e = .returned (.tuple #[]) ∧ Fr A s wE S w kR kS kF kG w' (L ++ gth l ((s : Nat) : Int) F x) := by
  refine Ex.ind2 ?_
  intro x ih hL b o hX S w L hS hz
  have hX0 := hX
  replace hX := hX.kp (hK.trans hS.me.kp)
  rcases rdO_ok hF ((s : Nat) : Int) x.k x.op x.nm x.se with hro | ⟨rj, hro, hrj⟩
  · have hrd : rdN l ((s : Nat) : Int) F x = [] := by unfold rdN; rw [if_pos hro]
    have aR := hS.aR
    have aS := hS.aS
    refine w_enter 35 Try.func57 Try.ntmps57 rfl rfl ?_
    have M : Mo w w := Mo.refl _
    refine w_seq ?_
    refine w_seq ?_
    refine w_reg ?_
    refine wl_load 72 (.tmp 1) (pt kR 0) (pt A.r 0) rfl rfl (run_one aR 72 0 rfl Try.underlying72 rfl) rfl ?_
    refine wl_load 3 (.tmp 2) (pt kS 0) (.int .i64 ((s : Nat) : Int)) rfl rfl (run_one aS 3 0 rfl Try.underlying3 rfl) rfl ?_
    refine wl_mv (.tmp 0) (pt b (o)) (fun _ => rfl) rfl rfl ?_
    refine wl_call 58 [(.tmp 8), (.tmp 9), (.tmp 10)] _ [pt A.r 0, .int .i64 ((s : Nat) : Int), pt b (o)] (.int .i64 (-1)) rfl rfl (fun _ _ => by kernel_rfl) (cR (congrArg (Value.int .i64) hro) (readBy_n ((hR.mo hS.me).mo M) ((hK.trans hS.me.kp).trans M.kp) ((s : Nat) : Int) hX0)) rfl ?_
    intro u1 hq
    replace aR := aR.mo hq
    replace aS := aS.mo hq
    replace M := M.trans hq
    clear hq
    refine wl_mv (.tmp 11) (.int .i64 (-1)) (fun _ => rfl) rfl rfl ?_
    refine w_nil ?_
    refine xn_then ?_
    refine w_seq ?_
    refine w_reg ?_
    refine wl_mv (.tmp 6) (.int .i64 (-1)) (fun _ => rfl) rfl rfl ?_
    refine wl_bin (fun x y => do eqGuard .neq 3 (.tmp 12) (.const (.int .i64 (-1))) x y; binOp .neq 3 x y) (.tmp 12) (.const (.int .i64 (-1))) (.int .i64 (-1)) (.int .i64 (-1)) (.bool false) (fun _ => rfl) rfl rfl (ne3 (r := true) rfl _ _ _) rfl ?_
    refine w_nil ?_
    refine xn_then ?_
    refine w_condF rfl ?_
    refine w_skip ?_
    refine xn_then ?_
    refine w_seq ?_
    refine w_reg ?_
    refine wl_mv (.tmp 0) (pt b (o)) (fun _ => rfl) rfl rfl ?_
    refine wl_nc (.tmp 18) b (o) rfl rfl rfl ?_
    refine wl_un (fun v => Instr.fieldAt 67 v 7) (.tmp 19) (pt b (o)) (pt b (o + 16)) (fun _ => rfl) rfl (by kernel_rfl) rfl ?_
    refine wl_load 65 (.tmp 20) (pt b (o + 16)) (.slice x.pa x.args.length x.cap) rfl rfl (D.run_oneR (hX.mo M).at' 65 16 rfl Try.underlying65 rfl) rfl ?_
    refine wl_val (.int .i64 ((x.args.length : Nat) : Int)) (len65 _ _ _ _ _ (by exact rfl) _ _ _ _ _ _) rfl ?_
    refine wl_mv (.const (.int .i64 (0))) (.int .i64 (0)) (fun _ => rfl) rfl rfl ?_
    refine w_nil ?_
    refine xn_then ?_
    refine w_block ?_
    have hE : Fr A s wE S w kR kS kF kG u1 (L ++ rdN l ((s : Nat) : Int) F x) := by rw [hrd]; rw [List.append_nil]; exact Fr.of hS M
    have hz9 := hL.sl.1
    unfold maxLen at hz9
    refine w_loop (fun m lf w1 => ∃ i : Nat, m = x.args.length - i ∧ look lf 0 = pt b (o) ∧ look lf 4 = pt kG 0 ∧ look lf 22 = .int .i64 ((x.args.length : Nat) : Int) ∧ look lf 23 = .int .i64 ((i : Nat) : Int) ∧ (i ≤ x.args.length) ∧ (Fr A s wE S w kR kS kF kG w1 (L ++ rdN l ((s : Nat) : Int) F x ++ (x.args.take i).flatMap (gth l ((s : Nat) : Int) F)))) _ ⟨0, rfl, rfl, rfl, rfl, rfl, Nat.zero_le _, by rw [List.take_zero, List.flatMap_nil, List.append_nil]; exact hE⟩ ?_
    clear hE M
    rintro m lf40 wl40 ⟨i, rfl, e40_0, e40_4, e40_22, e40_23, hi, hE⟩
    obtain ⟨S1, hS1, hm1, hl1⟩ := hE
    have M : Mo wl40 wl40 := Mo.refl _
    have hKw := hK.trans hS1.me.kp
    have hXw := hX0.kp hKw
    cases hd2 : decide (i < x.args.length) with
    | true =>
      have hil := of_decide_eq_true hd2
      obtain ⟨a, ha⟩ := get_of_lt hil
      have hma := List.mem_of_getElem? ha
      obtain ⟨ba, oa, hpa, hRa⟩ := D.SL.rw hL.sl ha
      have hRaw := hRa.kp hKw
      have aG := hS1.aG
      refine w_seq ?_
      refine w_reg ?_
      refine wl_bin (fun x y => do eqGuard .lss 3 (.tmp 23) (.tmp 22) x y; binOp .lss 3 x y) (.tmp 23) (.tmp 22) (.int .i64 ((i : Nat) : Int)) (.int .i64 ((x.args.length : Nat) : Int)) (.bool true) (fun _ => rfl) e40_23 e40_22 (ltN hd2 _ _ _) rfl ?_
      refine w_nil ?_
      refine xn_then ?_
      refine w_seq ?_
      refine w_condT rfl ?_
      refine w_skip ?_
      refine xn_then ?_
      refine w_seq ?_
      refine w_block ?_
      refine w_seq ?_
      refine w_reg ?_
      refine wl_mv (.tmp 23) (.int .i64 ((i : Nat) : Int)) (fun _ => rfl) e40_23 rfl ?_
      refine wl_mv (.tmp 25) (.int .i64 ((i : Nat) : Int)) (fun _ => rfl) rfl rfl ?_
      refine w_nil ?_
      refine xn_then ?_
      have hsm9 : Smos [vq (.func (.func 57) #[] #[pt kR 0, pt kS 0, pt kF 0, pt kG 0]), vq (pt b (o)), vq (pt b (o)), vq (pt b (o + 16)), vq (.slice x.pa x.args.length x.cap), vq (.int .i64 ((i : Nat) : Int)), vq (pt ba (oa + i * 17))] := smos_cons (smo_vq _) (smos_cons (smo_vq _) (smos_cons (smo_vq _) (smos_cons (smo_vq _) (smos_cons (smo_vq _) (smos_cons (smo_vq _) (smos_cons (smo_vq _) (smos_nil)))))))
      refine w_ogc 7 (fun w9 => Mo wl40 w9) [vq (.func (.func 57) #[] #[pt kR 0, pt kS 0, pt kF 0, pt kG 0]), vq (pt b (o)), vq (pt b (o)), vq (pt b (o + 16)), vq (.slice x.pa x.args.length x.cap), vq (.int .i64 ((i : Nat) : Int)), vq (pt ba (oa + i * 17))] [] (by kernel_rfl) (by kernel_rfl) (by kernel_rfl) (by kernel_rfl) rfl (by kernel_rfl) (by kernel_rfl) latec_nil ((Mo.refl _).drew) ?_ ?_
      · refine ea_cons ?_ (ea_cons ?_ (ea_cons ?_ (ea_cons ?_ (ea_cons ?_ (ea_cons ?_ (ea_cons ?_ (ea_nil)))))))
        · exact oc_eq (.func (.func 57) #[] #[pt kR 0, pt kS 0, pt kF 0, pt kG 0]) rfl (fun _ _ h m => h.trans m) hsm9 (fun f wf hq hd K hK => have aG := aG.mo hq; go_run rfl (wo_load 107 (.tmp 4) (pt kG 0) (.func (.func 57) #[] #[pt kR 0, pt kS 0, pt kF 0, pt kG 0]) rfl e40_4 (run_one aG 107 0 rfl Try.underlying107 rfl) (hK _ (Mo.refl _))))
        · exact oc_eq (pt b (o)) rfl (fun _ _ h m => h.trans m) hsm9 (fun f wf hq hd K hK => go_run rfl (wo_mv (.tmp 0) (pt b (o)) (fun _ => rfl) e40_0 (hK _ (Mo.refl _))))
        · exact oc_eq (pt b (o)) rfl (fun _ _ h m => h.trans m) hsm9 (fun f wf hq hd K hK => go_run rfl (wo_nc (.tmp 27) b (o) rfl (hd 1 rfl) (hK _ (Mo.refl _))))
        · exact oc_eq (pt b (o + 16)) rfl (fun _ _ h m => h.trans m) hsm9 (fun f wf hq hd K hK => go_run rfl (wo_un (fun v => Instr.fieldAt 67 v 7) (.tmp 28) (pt b (o)) (pt b (o + 16)) (fun _ => rfl) (hd 2 rfl) (by kernel_rfl) (hK _ (Mo.refl _))))
        · exact oc_eq (.slice x.pa x.args.length x.cap) rfl (fun _ _ h m => h.trans m) hsm9 (fun f wf hq hd K hK => go_run rfl (wo_load 65 (.tmp 29) (pt b (o + 16)) (.slice x.pa x.args.length x.cap) rfl (hd 3 rfl) (D.run_oneR (hXw.mo (M.trans hq)).at' 65 16 rfl Try.underlying65 rfl) (hK _ (Mo.refl _))))
        · exact oc_eq (.int .i64 ((i : Nat) : Int)) rfl (fun _ _ h m => h.trans m) hsm9 (fun f wf hq hd K hK => go_run rfl (wo_mv (.tmp 7) (.int .i64 ((i : Nat) : Int)) (fun _ => rfl) rfl (hK _ (Mo.refl _))))
        · exact oc_eq (pt ba (oa + i * 17)) rfl (fun _ _ h m => h.trans m) hsm9 (fun f wf hq hd K hK => go_run rfl (wo_bin (fun x y => Instr.indexAt 65 x y) (.tmp 30) (.tmp 31) (.slice x.pa x.args.length x.cap) (.int .i64 ((i : Nat) : Int)) (pt ba (oa + i * 17)) (fun _ => rfl) (hd 4 rfl) (hd 5 rfl) (ix65 (i := i) hpa hil _) (hK _ (Mo.refl _))))
      intro f u41 hq hR9
      have er0 := hR9 0 rfl
      have er1 := hR9 1 rfl
      have er2 := hR9 2 rfl
      have er3 := hR9 3 rfl
      have er4 := hR9 4 rfl
      have er5 := hR9 5 rfl
      have er6 := hR9 6 rfl
      clear hR9 hsm9
      replace aG := aG.mo hq
      replace M := M.trans hq
      clear hq
      refine wl_callv 57 (.tmp 26) #[] #[pt kR 0, pt kS 0, pt kF 0, pt kG 0] [(.tmp 32)] _ [pt ba (oa + i * 17)] [pt ba (oa + i * 17), pt kR 0, pt kS 0, pt kF 0, pt kG 0] rfl er0 (li1 er6) rfl (fun _ _ => by kernel_rfl) (ih a hma (hL.ar a hma) hRa (hS1.mo M) (gth_tk hz ha)) rfl ?_
      rintro e9 u42 ⟨rfl, hR9⟩
      refine ⟨_, rfl, ?_⟩
      have hE2 := Fr.tr (hm1.trans M) hl1 hR9
      refine w_nil ?_
      refine xn_blk ?_
      refine xn_then ?_
      refine w_reg ?_
      refine wl_bin (fun x y => do eqGuard .add 3 (.tmp 23) (.const (.int .i64 (1))) x y; binOp .add 3 x y) (.tmp 23) (.const (.int .i64 (1))) (.int .i64 ((i : Nat) : Int)) (.int .i64 (1)) (.int .i64 ((i + 1 : Nat) : Int)) (fun _ => rfl) e40_23 rfl (add1r (k := i) (by omega) _ _ _) rfl ?_
      refine wl_mv (.tmp 34) (.int .i64 ((i + 1 : Nat) : Int)) (fun _ => rfl) rfl rfl ?_
      refine w_nil ?_
      exact xn_loop (x.args.length - (i + 1)) (by omega) ⟨i + 1, rfl, e40_0, e40_4, e40_22, rfl, by omega, by rw [flat_s ha, ← List.append_assoc]; exact hE2⟩
    | false =>
      have hie : i = x.args.length := by have := of_decide_eq_false hd2; omega
      refine w_seq ?_
      refine w_reg ?_
      refine wl_bin (fun x y => do eqGuard .lss 3 (.tmp 23) (.tmp 22) x y; binOp .lss 3 x y) (.tmp 23) (.tmp 22) (.int .i64 ((i : Nat) : Int)) (.int .i64 ((x.args.length : Nat) : Int)) (.bool false) (fun _ => rfl) e40_23 e40_22 (ltN hd2 _ _ _) rfl ?_
      refine w_nil ?_
      refine xn_then ?_
      refine w_seq ?_
      refine w_condF rfl ?_
      refine w_exit ?_
      refine xx_then ?_
      refine xx_then ?_
      refine xx_blk ?_
      exact w_end0 rfl ⟨rfl, by rw [gth_eq, ← List.append_assoc]; rw [hie, List.take_length] at hS1; exact ⟨S1, hS1.mo M, hm1.trans M, hl1⟩⟩
  · have hrd : rdN l ((s : Nat) : Int) F x = [rj] := by unfold rdN; rw [hro, if_neg (by omega), Int.toNat_natCast]
    have aR := hS.aR
    have aS := hS.aS
    have hrn : decide (((rj : Nat) : Int) = -1) = false := decide_eq_false (by omega)
    refine w_enter 35 Try.func57 Try.ntmps57 rfl rfl ?_
    have M : Mo w w := Mo.refl _
    refine w_seq ?_
    refine w_seq ?_
    refine w_reg ?_
    refine wl_load 72 (.tmp 1) (pt kR 0) (pt A.r 0) rfl rfl (run_one aR 72 0 rfl Try.underlying72 rfl) rfl ?_
    refine wl_load 3 (.tmp 2) (pt kS 0) (.int .i64 ((s : Nat) : Int)) rfl rfl (run_one aS 3 0 rfl Try.underlying3 rfl) rfl ?_
    refine wl_mv (.tmp 0) (pt b (o)) (fun _ => rfl) rfl rfl ?_
    refine wl_call 58 [(.tmp 8), (.tmp 9), (.tmp 10)] _ [pt A.r 0, .int .i64 ((s : Nat) : Int), pt b (o)] (.int .i64 ((rj : Nat) : Int)) rfl rfl (fun _ _ => by kernel_rfl) (cR (congrArg (Value.int .i64) hro) (readBy_n ((hR.mo hS.me).mo M) ((hK.trans hS.me.kp).trans M.kp) ((s : Nat) : Int) hX0)) rfl ?_
    intro u1 hq
    replace aR := aR.mo hq
    replace aS := aS.mo hq
    replace M := M.trans hq
    clear hq
    refine wl_mv (.tmp 11) (.int .i64 ((rj : Nat) : Int)) (fun _ => rfl) rfl rfl ?_
    refine w_nil ?_
    refine xn_then ?_
    refine w_seq ?_
    refine w_reg ?_
    refine wl_mv (.tmp 6) (.int .i64 ((rj : Nat) : Int)) (fun _ => rfl) rfl rfl ?_
    refine wl_bin (fun x y => do eqGuard .neq 3 (.tmp 12) (.const (.int .i64 (-1))) x y; binOp .neq 3 x y) (.tmp 12) (.const (.int .i64 (-1))) (.int .i64 ((rj : Nat) : Int)) (.int .i64 (-1)) (.bool true) (fun _ => rfl) rfl rfl (ne3 hrn _ _ _) rfl ?_
    refine w_nil ?_
    refine xn_then ?_
    refine w_condT rfl ?_
    obtain ⟨v, aF0, hown, hvS⟩ := hS.ow
    obtain ⟨pv, cv, rfl, _⟩ := own_form hown
    have aF := aF0.mo M
    refine w_reg ?_
    refine wl_load 32 (.tmp 3) (pt kF 0) (.slice pv L.length cv) rfl rfl (run_one aF 32 0 rfl Try.underlying32 rfl) rfl ?_
    refine wl_mv (.tmp 6) (.int .i64 ((rj : Nat) : Int)) (fun _ => rfl) rfl rfl ?_
    refine wl_bs 32 1 [(0, (.tmp 15))] [(0, .int .i64 ((rj : Nat) : Int))] #[.int .i64 ((rj : Nat) : Int)] 3 rfl rfl (fun _ => by kernel_rfl) rfl ?_
    intro k1 u2 hk hz hq Q1
    have ne_kR_k1 : kR ≠ k1 := by have := aR.lt; omega
    have ne_kS_k1 : kS ≠ k1 := by have := aS.lt; omega
    have ne_kF_k1 : kF ≠ k1 := by have := aF.lt; omega
    have N_k1 : w.heap.size ≤ k1 := by have := M.size; omega
    replace aR := aR.mo hq
    replace aS := aS.mo hq
    replace aF := aF.mo hq
    replace M := M.trans hq
    clear hk hz hq
    refine wl_apI (.tmp 14) (.tmp 16) k1 rfl rfl rfl (own_mo hown M) Q1 (by have := nd_pos x; omega) (by have := hS.me.size; have := M.size; omega) rfl ?_
    intro pv2 cv2 u3 hW2 hK9 hv9
    have aF := hK9.at (aF0.mo M) (fun e => (hvS _ e).2 rfl)
    refine wl_stm1 32 (.tmp 3) (.tmp 17) kF 0 (.slice pv2 (L ++ [rj]).length cv2) [.slice pv L.length cv] [.slice pv2 (L ++ [rj]).length cv2] aF rfl rfl rfl rfl rfl sz32 rfl rfl rfl rfl ?_
    intro u4 _ hK8 aF8
    have hFr := Fr.tr (Mk.of S M) (fun _ _ q => q) ((hS.mo M).add (aF0.mo M) hvS hK9 hW2 hv9 hK8 aF8)
    clear M aF aF8 hK8 hK9 hW2
    have M : Mo u4 u4 := Mo.refl _
    replace hX := hX0.kp (hK.trans (by obtain ⟨_, q, _⟩ := hFr; exact q.me.kp))
    refine w_nil ?_
    refine xn_then ?_
    refine w_seq ?_
    refine w_reg ?_
    refine wl_mv (.tmp 0) (pt b (o)) (fun _ => rfl) rfl rfl ?_
    refine wl_nc (.tmp 18) b (o) rfl rfl rfl ?_
    refine wl_un (fun v => Instr.fieldAt 67 v 7) (.tmp 19) (pt b (o)) (pt b (o + 16)) (fun _ => rfl) rfl (by kernel_rfl) rfl ?_
    refine wl_load 65 (.tmp 20) (pt b (o + 16)) (.slice x.pa x.args.length x.cap) rfl rfl (D.run_oneR (hX.mo M).at' 65 16 rfl Try.underlying65 rfl) rfl ?_
    refine wl_val (.int .i64 ((x.args.length : Nat) : Int)) (len65 _ _ _ _ _ (by exact rfl) _ _ _ _ _ _) rfl ?_
    refine wl_mv (.const (.int .i64 (0))) (.int .i64 (0)) (fun _ => rfl) rfl rfl ?_
    refine w_nil ?_
    refine xn_then ?_
    refine w_block ?_
    have hE : Fr A s wE S w kR kS kF kG u4 (L ++ rdN l ((s : Nat) : Int) F x) := by rw [hrd]; exact hFr.mo M
    have hz9 := hL.sl.1
    unfold maxLen at hz9
    refine w_loop (fun m lf w1 => ∃ i : Nat, m = x.args.length - i ∧ look lf 0 = pt b (o) ∧ look lf 4 = pt kG 0 ∧ look lf 22 = .int .i64 ((x.args.length : Nat) : Int) ∧ look lf 23 = .int .i64 ((i : Nat) : Int) ∧ (i ≤ x.args.length) ∧ (Fr A s wE S w kR kS kF kG w1 (L ++ rdN l ((s : Nat) : Int) F x ++ (x.args.take i).flatMap (gth l ((s : Nat) : Int) F)))) _ ⟨0, rfl, rfl, rfl, rfl, rfl, Nat.zero_le _, by rw [List.take_zero, List.flatMap_nil, List.append_nil]; exact hE⟩ ?_
    clear hE M
    rintro m lf40 wl40 ⟨i, rfl, e40_0, e40_4, e40_22, e40_23, hi, hE⟩
    obtain ⟨S1, hS1, hm1, hl1⟩ := hE
    have M : Mo wl40 wl40 := Mo.refl _
    have hKw := hK.trans hS1.me.kp
    have hXw := hX0.kp hKw
    cases hd2 : decide (i < x.args.length) with
    | true =>
      have hil := of_decide_eq_true hd2
      obtain ⟨a, ha⟩ := get_of_lt hil
      have hma := List.mem_of_getElem? ha
      obtain ⟨ba, oa, hpa, hRa⟩ := D.SL.rw hL.sl ha
      have hRaw := hRa.kp hKw
      have aG := hS1.aG
      refine w_seq ?_
      refine w_reg ?_
      refine wl_bin (fun x y => do eqGuard .lss 3 (.tmp 23) (.tmp 22) x y; binOp .lss 3 x y) (.tmp 23) (.tmp 22) (.int .i64 ((i : Nat) : Int)) (.int .i64 ((x.args.length : Nat) : Int)) (.bool true) (fun _ => rfl) e40_23 e40_22 (ltN hd2 _ _ _) rfl ?_
      refine w_nil ?_
      refine xn_then ?_
      refine w_seq ?_
      refine w_condT rfl ?_
      refine w_skip ?_
      refine xn_then ?_
      refine w_seq ?_
      refine w_block ?_
      refine w_seq ?_
      refine w_reg ?_
      refine wl_mv (.tmp 23) (.int .i64 ((i : Nat) : Int)) (fun _ => rfl) e40_23 rfl ?_
      refine wl_mv (.tmp 25) (.int .i64 ((i : Nat) : Int)) (fun _ => rfl) rfl rfl ?_
      refine w_nil ?_
      refine xn_then ?_
      have hsm9 : Smos [vq (.func (.func 57) #[] #[pt kR 0, pt kS 0, pt kF 0, pt kG 0]), vq (pt b (o)), vq (pt b (o)), vq (pt b (o + 16)), vq (.slice x.pa x.args.length x.cap), vq (.int .i64 ((i : Nat) : Int)), vq (pt ba (oa + i * 17))] := smos_cons (smo_vq _) (smos_cons (smo_vq _) (smos_cons (smo_vq _) (smos_cons (smo_vq _) (smos_cons (smo_vq _) (smos_cons (smo_vq _) (smos_cons (smo_vq _) (smos_nil)))))))
      refine w_ogc 7 (fun w9 => Mo wl40 w9) [vq (.func (.func 57) #[] #[pt kR 0, pt kS 0, pt kF 0, pt kG 0]), vq (pt b (o)), vq (pt b (o)), vq (pt b (o + 16)), vq (.slice x.pa x.args.length x.cap), vq (.int .i64 ((i : Nat) : Int)), vq (pt ba (oa + i * 17))] [] (by kernel_rfl) (by kernel_rfl) (by kernel_rfl) (by kernel_rfl) rfl (by kernel_rfl) (by kernel_rfl) latec_nil ((Mo.refl _).drew) ?_ ?_
      · refine ea_cons ?_ (ea_cons ?_ (ea_cons ?_ (ea_cons ?_ (ea_cons ?_ (ea_cons ?_ (ea_cons ?_ (ea_nil)))))))
        · exact oc_eq (.func (.func 57) #[] #[pt kR 0, pt kS 0, pt kF 0, pt kG 0]) rfl (fun _ _ h m => h.trans m) hsm9 (fun f wf hq hd K hK => have aG := aG.mo hq; go_run rfl (wo_load 107 (.tmp 4) (pt kG 0) (.func (.func 57) #[] #[pt kR 0, pt kS 0, pt kF 0, pt kG 0]) rfl e40_4 (run_one aG 107 0 rfl Try.underlying107 rfl) (hK _ (Mo.refl _))))
        · exact oc_eq (pt b (o)) rfl (fun _ _ h m => h.trans m) hsm9 (fun f wf hq hd K hK => go_run rfl (wo_mv (.tmp 0) (pt b (o)) (fun _ => rfl) e40_0 (hK _ (Mo.refl _))))
        · exact oc_eq (pt b (o)) rfl (fun _ _ h m => h.trans m) hsm9 (fun f wf hq hd K hK => go_run rfl (wo_nc (.tmp 27) b (o) rfl (hd 1 rfl) (hK _ (Mo.refl _))))
        · exact oc_eq (pt b (o + 16)) rfl (fun _ _ h m => h.trans m) hsm9 (fun f wf hq hd K hK => go_run rfl (wo_un (fun v => Instr.fieldAt 67 v 7) (.tmp 28) (pt b (o)) (pt b (o + 16)) (fun _ => rfl) (hd 2 rfl) (by kernel_rfl) (hK _ (Mo.refl _))))
        · exact oc_eq (.slice x.pa x.args.length x.cap) rfl (fun _ _ h m => h.trans m) hsm9 (fun f wf hq hd K hK => go_run rfl (wo_load 65 (.tmp 29) (pt b (o + 16)) (.slice x.pa x.args.length x.cap) rfl (hd 3 rfl) (D.run_oneR (hXw.mo (M.trans hq)).at' 65 16 rfl Try.underlying65 rfl) (hK _ (Mo.refl _))))
        · exact oc_eq (.int .i64 ((i : Nat) : Int)) rfl (fun _ _ h m => h.trans m) hsm9 (fun f wf hq hd K hK => go_run rfl (wo_mv (.tmp 7) (.int .i64 ((i : Nat) : Int)) (fun _ => rfl) rfl (hK _ (Mo.refl _))))
        · exact oc_eq (pt ba (oa + i * 17)) rfl (fun _ _ h m => h.trans m) hsm9 (fun f wf hq hd K hK => go_run rfl (wo_bin (fun x y => Instr.indexAt 65 x y) (.tmp 30) (.tmp 31) (.slice x.pa x.args.length x.cap) (.int .i64 ((i : Nat) : Int)) (pt ba (oa + i * 17)) (fun _ => rfl) (hd 4 rfl) (hd 5 rfl) (ix65 (i := i) hpa hil _) (hK _ (Mo.refl _))))
      intro f u41 hq hR9
      have er0 := hR9 0 rfl
      have er1 := hR9 1 rfl
      have er2 := hR9 2 rfl
      have er3 := hR9 3 rfl
      have er4 := hR9 4 rfl
      have er5 := hR9 5 rfl
      have er6 := hR9 6 rfl
      clear hR9 hsm9
      replace aG := aG.mo hq
      replace M := M.trans hq
      clear hq
      refine wl_callv 57 (.tmp 26) #[] #[pt kR 0, pt kS 0, pt kF 0, pt kG 0] [(.tmp 32)] _ [pt ba (oa + i * 17)] [pt ba (oa + i * 17), pt kR 0, pt kS 0, pt kF 0, pt kG 0] rfl er0 (li1 er6) rfl (fun _ _ => by kernel_rfl) (ih a hma (hL.ar a hma) hRa (hS1.mo M) (gth_tk hz ha)) rfl ?_
      rintro e9 u42 ⟨rfl, hR9⟩
      refine ⟨_, rfl, ?_⟩
      have hE2 := Fr.tr (hm1.trans M) hl1 hR9
      refine w_nil ?_
      refine xn_blk ?_
      refine xn_then ?_
      refine w_reg ?_
      refine wl_bin (fun x y => do eqGuard .add 3 (.tmp 23) (.const (.int .i64 (1))) x y; binOp .add 3 x y) (.tmp 23) (.const (.int .i64 (1))) (.int .i64 ((i : Nat) : Int)) (.int .i64 (1)) (.int .i64 ((i + 1 : Nat) : Int)) (fun _ => rfl) e40_23 rfl (add1r (k := i) (by omega) _ _ _) rfl ?_
      refine wl_mv (.tmp 34) (.int .i64 ((i + 1 : Nat) : Int)) (fun _ => rfl) rfl rfl ?_
      refine w_nil ?_
      exact xn_loop (x.args.length - (i + 1)) (by omega) ⟨i + 1, rfl, e40_0, e40_4, e40_22, rfl, by omega, by rw [flat_s ha, ← List.append_assoc]; exact hE2⟩
    | false =>
      have hie : i = x.args.length := by have := of_decide_eq_false hd2; omega
      refine w_seq ?_
      refine w_reg ?_
      refine wl_bin (fun x y => do eqGuard .lss 3 (.tmp 23) (.tmp 22) x y; binOp .lss 3 x y) (.tmp 23) (.tmp 22) (.int .i64 ((i : Nat) : Int)) (.int .i64 ((x.args.length : Nat) : Int)) (.bool false) (fun _ => rfl) e40_23 e40_22 (ltN hd2 _ _ _) rfl ?_
      refine w_nil ?_
      refine xn_then ?_
      refine w_seq ?_
      refine w_condF rfl ?_
      refine w_exit ?_
      refine xx_then ?_
      refine xx_then ?_
      refine xx_blk ?_
      exact w_end0 rfl ⟨rfl, by rw [gth_eq, ← List.append_assoc]; rw [hie, List.take_length] at hS1; exact ⟨S1, hS1.mo M, hm1.trans M, hl1⟩⟩
/-- What an item of a section reads, rising. -/
def rdI (l : List S5) (s : Nat) (F : Fn) (z : It) : List Nat := if z.k = 1 then [] else ris (nI l) (fun k => decide (k ∈ gth l (s : Int) F z.ex))
theorem reads_n {l : List S5} {A : Ra} {w w0 : World} {F : Fn} {hid : List (ByteArray × Int)} {s j : Nat} {y : S5} {z : It} (hR : Rdr l A w F hid) (hK : Kp w0 w) (hF : Fok l F) (hL : SL w0 5 S5.cells A.pl l) (hLx : ∀ x ∈ l, LS5 w0 x) (hy : l[s]? = some y) (hz : y.items[j]? = some z) (hn : nd z.ex ≤ 3000000) : Calls Try.prog 37 #[pt A.r 0, .int .i64 ((s : Nat) : Int), .int .i64 ((j : Nat) : Int)] w fun e w' => ∃ pa cap, e = .returned (.slice pa (rdI l s F z).length cap) ∧ Ow w.heap.size 3 1 ic w' pa cap (rdI l s F z) ∧ Mo w w' := by
  have hsl := lt_of_get hy
  have hjl := lt_of_get hz
  have hym := List.mem_of_getElem? hy
  have hzm := List.mem_of_getElem? hz
  obtain ⟨hv, hO, _⟩ := hR.rc
  have QR := hO.at
  have hLW := hL.kp hK
  have hIW := (hLx y hym).it.kp hK
  obtain ⟨bz, oz, hpz, hRz⟩ := D.SL.rw (hLx y hym).it hz
  have hRzw := hRz.kp hK
  obtain ⟨bp, op, hpp, hRp⟩ := D.SL.rw hLW hy
  refine w_enter 35 Try.func37 Try.ntmps37 rfl rfl ?_
  have M : Mo w w := Mo.refl _
  refine w_seq ?_
  refine w_reg ?_
  refine wl_box 72 (.tmp 0) (pt A.r 0) (#[pt A.r 0]) rfl rfl (fun _ => by kernel_rfl) rfl ?_
  intro k1 u1 hk hz hq Q1
  have ne_kr_k1 : A.r ≠ k1 := by have := QR.lt; omega
  have N_k1 : w.heap.size ≤ k1 := by have := M.size; omega
  replace QR := QR.mo hq
  replace M := M.trans hq
  clear hk hz hq
  refine wl_box 3 (.tmp 1) (.int .i64 ((s : Nat) : Int)) (#[.int .i64 ((s : Nat) : Int)]) rfl rfl (fun _ => by kernel_rfl) rfl ?_
  intro k2 u2 hk hz hq Q2
  have ne_kr_k2 : A.r ≠ k2 := by have := QR.lt; omega
  have ne_k1_k2 : k1 ≠ k2 := by have := Q1.lt; omega
  have N_k2 : w.heap.size ≤ k2 := by have := M.size; omega
  replace QR := QR.mo hq
  replace Q1 := Q1.mo hq
  replace M := M.trans hq
  clear hk hz hq
  refine wl_mv (.const (.slice none 0 0)) (.slice none 0 0) (fun _ => rfl) rfl rfl ?_
  refine w_nil ?_
  refine xn_then ?_
  refine w_seq ?_
  have hsm9 : Smos [vq (pt A.r 0), vq (pt A.r 0), vq (pt A.r 0), vq (.slice A.pl l.length A.cl), vq (.int .i64 ((s : Nat) : Int)), vq (pt bp (op + s * 5)), vq (pt bp (op + s * 5 + 4)), vq (.slice y.pi y.items.length y.ci), vq (.int .i64 ((j : Nat) : Int)), vq (pt bz (oz + j * 23)), vq (pt bz (oz + j * 23))] := smos_cons (smo_vq _) (smos_cons (smo_vq _) (smos_cons (smo_vq _) (smos_cons (smo_vq _) (smos_cons (smo_vq _) (smos_cons (smo_vq _) (smos_cons (smo_vq _) (smos_cons (smo_vq _) (smos_cons (smo_vq _) (smos_cons (smo_vq _) (smos_cons (smo_vq _) (smos_nil)))))))))))
  refine w_ogc 11 (fun w9 => Mo u2 w9) [vq (pt A.r 0), vq (pt A.r 0), vq (pt A.r 0), vq (.slice A.pl l.length A.cl), vq (.int .i64 ((s : Nat) : Int)), vq (pt bp (op + s * 5)), vq (pt bp (op + s * 5 + 4)), vq (.slice y.pi y.items.length y.ci), vq (.int .i64 ((j : Nat) : Int)), vq (pt bz (oz + j * 23)), vq (pt bz (oz + j * 23))] [] (by kernel_rfl) (by kernel_rfl) (by kernel_rfl) (by kernel_rfl) rfl (by kernel_rfl) (by kernel_rfl) latec_nil ((Mo.refl _).drew) ?_ ?_
  · refine ea_cons ?_ (ea_cons ?_ (ea_cons ?_ (ea_cons ?_ (ea_cons ?_ (ea_cons ?_ (ea_cons ?_ (ea_cons ?_ (ea_cons ?_ (ea_cons ?_ (ea_cons ?_ (ea_nil)))))))))))
    · exact oc_eq (pt A.r 0) rfl (fun _ _ h m => h.trans m) hsm9 (fun f wf hq hd K hK => have Q1 := Q1.mo hq; go_run rfl (wo_load 72 (.tmp 3) (pt k1 0) (pt A.r 0) rfl rfl (run_one Q1 72 0 rfl Try.underlying72 rfl) (hK _ (Mo.refl _))))
    · exact oc_eq (pt A.r 0) rfl (fun _ _ h m => h.trans m) hsm9 (fun f wf hq hd K hK => go_run rfl (wo_nc (.tmp 10) A.r 0 rfl (hd 0 rfl) (hK _ (Mo.refl _))))
    · exact oc_eq (pt A.r 0) rfl (fun _ _ h m => h.trans m) hsm9 (fun f wf hq hd K hK => go_run rfl (wo_un (fun v => Instr.fieldAt 95 v 0) (.tmp 11) (pt A.r 0) (pt A.r 0) (fun _ => rfl) (hd 1 rfl) (by kernel_rfl) (hK _ (Mo.refl _))))
    · exact oc_eq (.slice A.pl l.length A.cl) rfl (fun _ _ h m => h.trans m) hsm9 (fun f wf hq hd K hK => have QR := QR.mo hq; go_run rfl (wo_load 22 (.tmp 12) (pt A.r 0) (.slice A.pl l.length A.cl) rfl (hd 2 rfl) (run_one QR 22 0 rfl Try.underlying22 rfl) (hK _ (Mo.refl _))))
    · exact oc_eq (.int .i64 ((s : Nat) : Int)) rfl (fun _ _ h m => h.trans m) hsm9 (fun f wf hq hd K hK => have Q2 := Q2.mo hq; go_run rfl (wo_load 3 (.tmp 4) (pt k2 0) (.int .i64 ((s : Nat) : Int)) rfl rfl (run_one Q2 3 0 rfl Try.underlying3 rfl) (hK _ (Mo.refl _))))
    · exact oc_eq (pt bp (op + s * 5)) rfl (fun _ _ h m => h.trans m) hsm9 (fun f wf hq hd K hK => go_run rfl (wo_bin (fun x y => Instr.indexAt 22 x y) (.tmp 13) (.tmp 14) (.slice A.pl l.length A.cl) (.int .i64 ((s : Nat) : Int)) (pt bp (op + s * 5)) (fun _ => rfl) (hd 3 rfl) (hd 4 rfl) (ix22 (i := s) hpp hsl _) (hK _ (Mo.refl _))))
    · exact oc_eq (pt bp (op + s * 5 + 4)) rfl (fun _ _ h m => h.trans m) hsm9 (fun f wf hq hd K hK => go_run rfl (wo_un (fun v => Instr.fieldAt 55 v 4) (.tmp 15) (pt bp (op + s * 5)) (pt bp (op + s * 5 + 4)) (fun _ => rfl) (hd 5 rfl) (by kernel_rfl) (hK _ (Mo.refl _))))
    · exact oc_eq (.slice y.pi y.items.length y.ci) rfl (fun _ _ h m => h.trans m) hsm9 (fun f wf hq hd K hK => go_run rfl (wo_load 39 (.tmp 16) (pt bp (op + s * 5 + 4)) (.slice y.pi y.items.length y.ci) rfl (hd 6 rfl) (D.run_oneR (hRp.mo (M.trans hq)).at' 39 4 rfl Try.underlying39 rfl) (hK _ (Mo.refl _))))
    · exact oc_eq (.int .i64 ((j : Nat) : Int)) rfl (fun _ _ h m => h.trans m) hsm9 (fun f wf hq hd K hK => go_run rfl (wo_mv (.tmp 2) (.int .i64 ((j : Nat) : Int)) (fun _ => rfl) rfl (hK _ (Mo.refl _))))
    · exact oc_eq (pt bz (oz + j * 23)) rfl (fun _ _ h m => h.trans m) hsm9 (fun f wf hq hd K hK => go_run rfl (wo_bin (fun x y => Instr.indexAt 39 x y) (.tmp 17) (.tmp 18) (.slice y.pi y.items.length y.ci) (.int .i64 ((j : Nat) : Int)) (pt bz (oz + j * 23)) (fun _ => rfl) (hd 7 rfl) (hd 8 rfl) (ix39 (i := j) hpz hjl _) (hK _ (Mo.refl _))))
    · exact oc_eq (pt bz (oz + j * 23)) rfl (fun _ _ h m => h.trans m) hsm9 (fun f wf hq hd K hK => go_run rfl (wo_mv (.tmp 19) (pt bz (oz + j * 23)) (fun _ => rfl) (hd 9 rfl) (hK _ (Mo.refl _))))
  intro f u3 hq hR9
  have er0 := hR9 0 rfl
  have er1 := hR9 1 rfl
  have er2 := hR9 2 rfl
  have er3 := hR9 3 rfl
  have er4 := hR9 4 rfl
  have er5 := hR9 5 rfl
  have er6 := hR9 6 rfl
  have er7 := hR9 7 rfl
  have er8 := hR9 8 rfl
  have er9 := hR9 9 rfl
  have er10 := hR9 10 rfl
  clear hR9 hsm9
  replace QR := QR.mo hq
  replace Q1 := Q1.mo hq
  replace Q2 := Q2.mo hq
  replace M := M.trans hq
  clear hq
  refine w_nil ?_
  refine xn_then ?_
  refine w_seq ?_
  refine w_seq ?_
  refine w_reg ?_
  refine wl_mv (.tmp 7) (pt bz (oz + j * 23)) (fun _ => rfl) er10 rfl ?_
  refine wl_nc (.tmp 20) bz (oz + j * 23) rfl rfl rfl ?_
  refine wl_un (fun v => Instr.fieldAt 69 v 1) (.tmp 21) (pt bz (oz + j * 23)) (pt bz (oz + j * 23 + 1)) (fun _ => rfl) rfl (by kernel_rfl) rfl ?_
  refine wl_load 3 (.tmp 22) (pt bz (oz + j * 23 + 1)) (.int .i64 (z.k)) rfl rfl (D.run_oneR (hRzw.mo M).at' 3 1 rfl Try.underlying3 rfl) rfl ?_
  cases hf0 : decide (z.k = 1) with
  | true =>
    have hf0p := of_decide_eq_true hf0
    refine wl_bin (fun x y => do eqGuard .eql 3 (.tmp 23) (.const (.int .i64 (1))) x y; binOp .eql 3 x y) (.tmp 23) (.const (.int .i64 (1))) (.int .i64 (z.k)) (.int .i64 (1)) (.bool true) (fun _ => rfl) rfl rfl (eq3 hf0 _ _ _) rfl ?_
    refine w_nil ?_
    refine xn_then ?_
    refine w_condT rfl ?_
    refine w_seq ?_
    refine w_reg ?_
    refine wl_mv (.const (.slice none 0 0)) (.slice none 0 0) (fun _ => rfl) rfl rfl ?_
    refine w_nil ?_
    refine xn_then ?_
    refine w_ret ?_
    refine xr_then ?_
    exact w_ret1 _ (.slice none 0 0) rfl rfl ⟨none, 0, by unfold rdI; rw [if_pos hf0p]; rfl, by unfold rdI; rw [if_pos hf0p]; exact Ow.nil _ _ _ _ _, M⟩
  | false =>
    have hf0p := of_decide_eq_false hf0
    refine wl_bin (fun x y => do eqGuard .eql 3 (.tmp 23) (.const (.int .i64 (1))) x y; binOp .eql 3 x y) (.tmp 23) (.const (.int .i64 (1))) (.int .i64 (z.k)) (.int .i64 (1)) (.bool false) (fun _ => rfl) rfl rfl (eq3 hf0 _ _ _) rfl ?_
    refine w_nil ?_
    refine xn_then ?_
    refine w_condF rfl ?_
    refine w_skip ?_
    refine xn_then ?_
    refine w_seq ?_
    refine w_reg ?_
    refine wl_alloc 32 #[.slice none 0 0] rfl (fun _ => by kernel_rfl) rfl ?_
    intro k3 u4 hk hz hq Q3
    have ne_kr_k3 : A.r ≠ k3 := by have := QR.lt; omega
    have ne_k1_k3 : k1 ≠ k3 := by have := Q1.lt; omega
    have ne_k2_k3 : k2 ≠ k3 := by have := Q2.lt; omega
    have N_k3 : w.heap.size ≤ k3 := by have := M.size; omega
    replace QR := QR.mo hq
    replace Q1 := Q1.mo hq
    replace Q2 := Q2.mo hq
    replace M := M.trans hq
    clear hk hz hq
    refine w_nil ?_
    refine xn_then ?_
    refine w_seq ?_
    refine w_reg ?_
    refine wl_alloc 107 #[.nilFunc] rfl (fun _ => by kernel_rfl) rfl ?_
    intro k4 u5 hk hz hq Q4
    have ne_kr_k4 : A.r ≠ k4 := by have := QR.lt; omega
    have ne_k1_k4 : k1 ≠ k4 := by have := Q1.lt; omega
    have ne_k2_k4 : k2 ≠ k4 := by have := Q2.lt; omega
    have ne_k3_k4 : k3 ≠ k4 := by have := Q3.lt; omega
    have N_k4 : w.heap.size ≤ k4 := by have := M.size; omega
    replace QR := QR.mo hq
    replace Q1 := Q1.mo hq
    replace Q2 := Q2.mo hq
    replace Q3 := Q3.mo hq
    replace M := M.trans hq
    clear hk hz hq
    refine w_nil ?_
    refine xn_then ?_
    refine w_seq ?_
    refine w_reg ?_
    refine wl_mf (.func 57) [] [(.tmp 3), (.tmp 4), (.tmp 8), (.tmp 9)] [] [pt k1 0, pt k2 0, pt k3 0, pt k4 0] rfl rfl rfl rfl ?_
    refine wl_st1 107 (.tmp 9) (.tmp 25) k4 0 (.func (.func 57) #[] #[pt k1 0, pt k2 0, pt k3 0, pt k4 0]) [.nilFunc] [.func (.func 57) #[] #[pt k1 0, pt k2 0, pt k3 0, pt k4 0]] Q4 rfl rfl rfl rfl rfl sz107 rfl rfl rfl rfl ?_
    intro u6 hS Qn
    replace Q4 := Qn
    clear Qn
    replace QR := hS.other _ _ ne_kr_k4 QR
    replace Q1 := hS.other _ _ ne_k1_k4 Q1
    replace Q2 := hS.other _ _ ne_k2_k4 Q2
    replace Q3 := hS.other _ _ ne_k3_k4 Q3
    replace M := hS.mo _ N_k4 M
    clear hS
    refine w_nil ?_
    refine xn_then ?_
    refine w_seq ?_
    have hsm9 : Smos [vq (.func (.func 57) #[] #[pt k1 0, pt k2 0, pt k3 0, pt k4 0]), vq (pt bz (oz + j * 23)), vq (pt bz (oz + j * 23)), vq (pt bz (oz + j * 23 + 6))] := smos_cons (smo_vq _) (smos_cons (smo_vq _) (smos_cons (smo_vq _) (smos_cons (smo_vq _) (smos_nil))))
    refine w_ogc 4 (fun w9 => Mo u6 w9) [vq (.func (.func 57) #[] #[pt k1 0, pt k2 0, pt k3 0, pt k4 0]), vq (pt bz (oz + j * 23)), vq (pt bz (oz + j * 23)), vq (pt bz (oz + j * 23 + 6))] [] (by kernel_rfl) (by kernel_rfl) (by kernel_rfl) (by kernel_rfl) rfl (by kernel_rfl) (by kernel_rfl) latec_nil ((Mo.refl _).drew) ?_ ?_
    · refine ea_cons ?_ (ea_cons ?_ (ea_cons ?_ (ea_cons ?_ (ea_nil))))
      · exact oc_eq (.func (.func 57) #[] #[pt k1 0, pt k2 0, pt k3 0, pt k4 0]) rfl (fun _ _ h m => h.trans m) hsm9 (fun f wf hq hd K hK => have Q4 := Q4.mo hq; go_run rfl (wo_load 107 (.tmp 9) (pt k4 0) (.func (.func 57) #[] #[pt k1 0, pt k2 0, pt k3 0, pt k4 0]) rfl rfl (run_one Q4 107 0 rfl Try.underlying107 rfl) (hK _ (Mo.refl _))))
      · exact oc_eq (pt bz (oz + j * 23)) rfl (fun _ _ h m => h.trans m) hsm9 (fun f wf hq hd K hK => go_run rfl (wo_mv (.tmp 7) (pt bz (oz + j * 23)) (fun _ => rfl) er10 (hK _ (Mo.refl _))))
      · exact oc_eq (pt bz (oz + j * 23)) rfl (fun _ _ h m => h.trans m) hsm9 (fun f wf hq hd K hK => go_run rfl (wo_nc (.tmp 27) bz (oz + j * 23) rfl (hd 1 rfl) (hK _ (Mo.refl _))))
      · exact oc_eq (pt bz (oz + j * 23 + 6)) rfl (fun _ _ h m => h.trans m) hsm9 (fun f wf hq hd K hK => go_run rfl (wo_un (fun v => Instr.fieldAt 69 v 5) (.tmp 28) (pt bz (oz + j * 23)) (pt bz (oz + j * 23 + 6)) (fun _ => rfl) (hd 2 rfl) (by kernel_rfl) (hK _ (Mo.refl _))))
    intro f u7 hq hR9
    have er0 := hR9 0 rfl
    have er1 := hR9 1 rfl
    have er2 := hR9 2 rfl
    have er3 := hR9 3 rfl
    clear hR9 hsm9
    replace QR := QR.mo hq
    replace Q1 := Q1.mo hq
    replace Q2 := Q2.mo hq
    replace Q3 := Q3.mo hq
    replace Q4 := Q4.mo hq
    replace M := M.trans hq
    clear hq
    have QO9 : True := trivial
    have hS : Fs A s w (fun k => k = k3) u7 k1 k2 k3 k4 [] := ⟨Q1, fun e => ne_k1_k3 e, Q2, fun e => ne_k2_k3 e, Q4, fun e => ne_k3_k4 e.symm, rfl, ⟨.slice none 0 0, Q3, ⟨rfl, Or.inl ⟨rfl, rfl⟩⟩, fun k e => by cases e⟩, fun k e => e ▸ N_k3, fun k e => e ▸ Q3.2.2, M⟩
    have hRx : Rw w0 bz (oz + j * 23 + 6) z.ex.cells := ⟨hRz.lt, fun i v hv => by have := hRz.at' (i + 6) v (show z.cells[i + 6]? = some v from hv); rw [show oz + j * 23 + 6 + i = oz + j * 23 + (i + 6) by omega]; exact this⟩
    refine wl_callv 57 (.tmp 26) #[] #[pt k1 0, pt k2 0, pt k3 0, pt k4 0] [(.tmp 29)] _ [pt bz (oz + j * 23 + 6)] [pt bz (oz + j * 23 + 6), pt k1 0, pt k2 0, pt k3 0, pt k4 0] rfl er0 (li1 er3) rfl (fun _ _ => by kernel_rfl) (gath_n hR hK hF z.ex ((hLx y hym).ex z hzm) hRx hS (by simpa using hn)) rfl ?_
    rintro e9 u8 ⟨rfl, S1, hS1, hm1, hl1⟩
    refine ⟨_, rfl, ?_⟩
    rw [List.nil_append] at hS1
    obtain ⟨v, aF, hown, hvS⟩ := hS1.ow
    obtain ⟨pv, cv, rfl, _⟩ := own_form hown
    clear Q1 Q2 Q3 Q4 M
    have M := hS1.me
    have hgl : (gth l ((s : Nat) : Int) F z.ex).length < 4000000 := by have := gth_len l ((s : Nat) : Int) F z.ex; omega
    refine w_nil ?_
    refine xn_then ?_
    refine w_seq ?_
    refine w_reg ?_
    refine wl_load 32 (.tmp 8) (pt k3 0) (.slice pv (gth l ((s : Nat) : Int) F z.ex).length cv) rfl rfl (run_one aF 32 0 rfl Try.underlying32 rfl) rfl ?_
    refine wl_callx 59 [(.tmp 31)] _ [.slice pv (gth l ((s : Nat) : Int) F z.ex).length cv] rfl rfl (fun _ _ => by kernel_rfl) (sort_n hown hgl) rfl ?_
    rintro e9 u9 ⟨rfl, ⟨zs, hzs, hown2⟩, hK9⟩
    refine ⟨_, rfl, ?_⟩
    replace aF := hK9.at aF (fun e => (hvS _ e).2 rfl)
    replace M := own_gap hown hK9 (Nat.le_refl _) M
    have hzl : zs.length = (gth l ((s : Nat) : Int) F z.ex).length := by rw [hzs]; simp
    rw [← hzl] at hown2
    refine w_nil ?_
    refine xn_then ?_
    refine w_seq ?_
    refine w_reg ?_
    refine wl_load 32 (.tmp 8) (pt k3 0) (.slice pv (gth l ((s : Nat) : Int) F z.ex).length cv) rfl rfl (run_one aF 32 0 rfl Try.underlying32 rfl) rfl ?_
    refine wl_callx 60 [(.tmp 33)] _ [.slice pv (gth l ((s : Nat) : Int) F z.ex).length cv] rfl rfl (fun _ _ => by kernel_rfl) ((hzl ▸ compact_n hown2 (by omega) (C := ris (nI l) (fun k => decide (k ∈ gth l ((s : Nat) : Int) F z.ex))) (by rw [hzs]; exact comp_ris _ (gth_lt hF _ z.ex)))) rfl ?_
    rintro e9 u10 ⟨rfl, hown3, hK8⟩
    refine ⟨_, rfl, ?_⟩
    have hMo := own_gap hown2 (hzl ▸ hK8) (Nat.le_refl _) M
    refine wl_mv (.tmp 34) (.slice pv (ris (nI l) (fun k => decide (k ∈ gth l ((s : Nat) : Int) F z.ex))).length cv) (fun _ => rfl) rfl rfl ?_
    refine w_nil ?_
    refine xn_then ?_
    refine w_ret ?_
    exact w_ret1 _ (.slice pv (ris (nI l) (fun k => decide (k ∈ gth l ((s : Nat) : Int) F z.ex))).length cv) rfl rfl ⟨pv, cv, by unfold rdI; rw [if_neg hf0p], by unfold rdI; rw [if_neg hf0p]; exact hown3, hMo⟩
end Go.Proofs.Ythghblgbjgghcaa
