/-
  A reader is made.
-/
import Derived.Test.YthghblgbjgghcaaNr
namespace Go.Proofs.Ythghblgbjgghcaa
open Go.RowKit D
theorem fsI_all (l : List S5) : fsI l l.length = fsts l := rfl
theorem VK.nil (l : List S5) : VK l 0 (List.replicate l.length ⟨none, 0, []⟩) := by
  unfold VK
  have h : kidI l 0 = fun _ => [] := by funext s; rfl
  rw [List.map_replicate, h, List.map_const', List.length_range]
theorem VK.bd {l : List S5} {i : Nat} {V : List Iz} (h : VK l i V) {x : Iz} (hx : x ∈ V) : x.L.length ≤ i := by
  have h1 : x.L ∈ V.map Iz.L := List.mem_map.2 ⟨x, hx, rfl⟩
  rw [h] at h1
  obtain ⟨s, _, e⟩ := List.mem_map.1 h1
  rw [← e]; unfold kidI
  have := List.length_filter_le (fun t => decide (par l t = (s : Int))) (List.range i)
  simpa using this
theorem newReader_n {w : World} {l : List S5} {pl : Option Addr} {cl : Nat} (hL : SL w 5 S5.cells pl l) (hLx : ∀ x ∈ l, LS5 w x) (hz : l.length < 1000000) (hzI : nI l < 1000000) : Calls Try.prog 34 #[.slice pl l.length cl] w fun e w' => ∃ A : Ra, e = .returned (pt A.r 0) ∧ Rdr l A w' F0 [] ∧ A.pl = pl ∧ A.cl = cl ∧ A.N = w.heap.size ∧ Mo w w' := by
  refine w_enter 118 Try.func34 Try.ntmps34 rfl rfl ?_
  have M : Mo w w := Mo.refl _
  refine w_seq ?_
  refine w_reg ?_
  refine wl_mv (.const (.pointer none)) (.pointer none) (fun _ => rfl) rfl rfl ?_
  refine w_nil ?_
  refine xn_then ?_
  refine w_seq ?_
  refine w_reg ?_
  refine wl_mv (.tmp 0) (.slice pl l.length cl) (fun _ => rfl) rfl rfl ?_
  refine wl_mv (.tmp 0) (.slice pl l.length cl) (fun _ => rfl) rfl rfl ?_
  refine wl_val (.int .i64 ((l.length : Nat) : Int)) (len22 _ _ _ _ _ (by exact rfl) _ _ _ _ _ _) rfl ?_
  refine wl_makeS 79 32 (.tmp 10) (.tmp 10) (l.length) (.slice none 0 0) 24 Try.underlying79 inf32 rfl (by omega) (by omega) rfl rfl rfl rfl ?_
  intro k1 u1 hk hz hq O1
  have Q1 := O1.at
  have N_k1 : w.heap.size ≤ k1 := by have := M.size; omega
  replace M := M.trans hq
  clear hk hz hq
  refine wl_mmq es 91 rfl rfl ?_
  intro mb1 u2 hk hz9 hq hO_mb1
  have N_mb1 : w.heap.size ≤ mb1 := by have := M.size; omega
  replace O1 := O1.mo hq
  replace M := M.trans hq
  clear hk hz9 hq
  refine wl_mmq es 91 rfl rfl ?_
  intro mb2 u3 hk hz9 hq hO_mb2
  have nm_mb1_mb2 : mb1 ≠ mb2 := by have := hO_mb1.lt; omega
  have N_mb2 : w.heap.size ≤ mb2 := by have := M.size; omega
  replace O1 := O1.mo hq
  replace hO_mb1 := hO_mb1.mo hq
  replace M := M.trans hq
  clear hk hz9 hq
  refine wl_mmq Value.string 92 rfl rfl ?_
  intro mb3 u4 hk hz9 hq hO_mb3
  have nm_mb1_mb3 : mb1 ≠ mb3 := by have := hO_mb1.lt; omega
  have nm_mb2_mb3 : mb2 ≠ mb3 := by have := hO_mb2.lt; omega
  have N_mb3 : w.heap.size ≤ mb3 := by have := M.size; omega
  replace O1 := O1.mo hq
  replace hO_mb1 := hO_mb1.mo hq
  replace hO_mb2 := hO_mb2.mo hq
  replace M := M.trans hq
  clear hk hz9 hq
  refine wl_build 95 [(0, (.tmp 8)), (3, (.tmp 11)), (4, (.tmp 12)), (5, (.tmp 13)), (6, (.tmp 14))] [(0, .slice pl l.length cl), (3, .slice (some ⟨k1, 0, none⟩) l.length l.length), (4, .map (some mb1)), (5, .map (some mb2)), (6, .map (some mb3))] (.agg #[.slice pl l.length cl, .int .i64 0, .slice none 0 0, .slice (some ⟨k1, 0, none⟩) l.length l.length, .map (some mb1), .map (some mb2), .map (some mb3), .slice none 0 0]) rfl rfl (by kernel_rfl) rfl ?_
  refine wl_boxO 95 (.tmp 15) (.agg #[.slice pl l.length cl, .int .i64 0, .slice none 0 0, .slice (some ⟨k1, 0, none⟩) l.length l.length, .map (some mb1), .map (some mb2), .map (some mb3), .slice none 0 0]) [.slice pl l.length cl, .int .i64 0, .slice none 0 0, .slice (some ⟨k1, 0, none⟩) l.length l.length, .map (some mb1), .map (some mb2), .map (some mb3), .slice none 0 0] rfl rfl (fun _ => by kernel_rfl) rfl ?_
  intro k2 u5 hk hz9 hq O2
  have Q2 := O2.at
  have N_k2 : w.heap.size ≤ k2 := by have := M.size; omega
  replace O1 := O1.mo hq
  replace hO_mb1 := hO_mb1.mo hq
  replace hO_mb2 := hO_mb2.mo hq
  replace hO_mb3 := hO_mb3.mo hq
  replace M := M.trans hq
  clear hk hz9 hq
  refine wl_mv (.tmp 16) (pt k2 0) (fun _ => rfl) rfl rfl ?_
  refine w_nil ?_
  refine xn_then ?_
  refine w_seq ?_
  refine w_seq ?_
  refine w_reg ?_
  refine wl_mv (.tmp 0) (.slice pl l.length cl) (fun _ => rfl) rfl rfl ?_
  refine wl_val (.int .i64 ((l.length : Nat) : Int)) (len22 _ _ _ _ _ (by exact rfl) _ _ _ _ _ _) rfl ?_
  refine wl_mv (.const (.int .i64 (0))) (.int .i64 (0)) (fun _ => rfl) rfl rfl ?_
  refine w_nil ?_
  refine xn_then ?_
  refine w_block ?_
  have hV : Vs w.heap.size u5 k1 (List.replicate l.length ⟨none, 0, []⟩) := Vs.nil (by rw [List.length_replicate]; exact O1) (by simp)
  refine w_loop (fun m lf w1 => ∃ i : Nat, ∃ an : List (Spo × Int), ∃ ao : List (Spo × Int), ∃ V : List Iz, ∃ pf : Option Addr, ∃ cf : Nat, m = l.length - i ∧ look lf 0 = .slice pl l.length cl ∧ look lf 3 = pt k2 0 ∧ look lf 18 = .int .i64 ((l.length : Nat) : Int) ∧ look lf 19 = .int .i64 ((i : Nat) : Int) ∧ (i ≤ l.length) ∧ (Ob w1 k2 95 [.slice pl l.length cl, .int .i64 ((fsn l i : Nat) : Int), .slice pf (fsI l i).length cf, .slice (some ⟨k1, 0, none⟩) l.length l.length, .map (some mb1), .map (some mb2), .map (some mb3), .slice none 0 0]) ∧ (Ow w.heap.size 3 1 ic w1 pf cf (fsI l i)) ∧ (Vs w.heap.size w1 k1 V) ∧ (Apt pf (fsI l i).length cf V) ∧ (Mp es w1 mb1 an) ∧ (Mp es w1 mb2 ao) ∧ (Mp Value.string w1 mb3 []) ∧ (VK l i V) ∧ (NK l i an) ∧ (OK2 l i 0 ao) ∧ (Mo w w1)) _ ⟨0, [], [], List.replicate l.length ⟨none, 0, []⟩, none, 0, rfl, rfl, rfl, rfl, rfl, Nat.zero_le _, O2, Ow.nil _ _ _ _ _, hV, (fun x hx k e => by rw [(List.mem_replicate.1 hx).2] at e; cases e), hO_mb1, hO_mb2, hO_mb3, VK.nil l, NK.nil l, OK2.nil l, M⟩ ?_
  clear hV O1 O2 hO_mb1 hO_mb2 hO_mb3 Q1 Q2 M
  rintro m lf40 wl40 ⟨i, an, ao, V, pf, cf, rfl, e40_0, e40_3, e40_18, e40_19, hi, hO, hF, hV, hA, hM1, hM2, hM3, hVK, hNK, hOK, M⟩
  cases hd : decide (i < l.length) with
  | true =>
    have hil := of_decide_eq_true hd
    obtain ⟨x, hx⟩ := get_of_lt hil
    have hit := itn_eq hx
    have hfl := fsn_s hx
    have hfle := fsn_le l (i + 1)
    obtain ⟨bp, op, hpp, hRp⟩ := D.SL.rw hL hx
    cases hp : hasS l x.pr with
    | true =>
      obtain ⟨pk, px, hpk, hpx⟩ := hasS_get hp
      have hpl := lt_of_get hpx
      refine w_seq ?_
      refine w_reg ?_
      refine wl_bin (fun x y => do eqGuard .lss 3 (.tmp 19) (.tmp 18) x y; binOp .lss 3 x y) (.tmp 19) (.tmp 18) (.int .i64 ((i : Nat) : Int)) (.int .i64 ((l.length : Nat) : Int)) (.bool true) (fun _ => rfl) e40_19 e40_18 (ltN hd _ _ _) rfl ?_
      refine w_nil ?_
      refine xn_then ?_
      refine w_seq ?_
      refine w_condT rfl ?_
      refine w_skip ?_
      refine xn_then ?_
      refine w_seq ?_
      refine w_block ?_
      refine w_seq ?_
      refine w_reg ?_
      refine wl_mv (.tmp 19) (.int .i64 ((i : Nat) : Int)) (fun _ => rfl) e40_19 rfl ?_
      refine wl_mv (.tmp 21) (.int .i64 ((i : Nat) : Int)) (fun _ => rfl) rfl rfl ?_
      refine w_nil ?_
      refine xn_then ?_
      refine w_seq ?_
      refine w_reg ?_
      refine wl_mv (.tmp 0) (.slice pl l.length cl) (fun _ => rfl) e40_0 rfl ?_
      refine wl_mv (.tmp 4) (.int .i64 ((i : Nat) : Int)) (fun _ => rfl) rfl rfl ?_
      refine wl_bin (fun x y => Instr.indexAt 22 x y) (.tmp 22) (.tmp 23) (.slice pl l.length cl) (.int .i64 ((i : Nat) : Int)) (pt bp (op + i * 5)) (fun _ => rfl) rfl rfl (ix22 (i := i) hpp hil _) rfl ?_
      refine wl_un (fun v => Instr.fieldAt 55 v 0) (.tmp 24) (pt bp (op + i * 5)) (pt bp (op + i * 5)) (fun _ => rfl) rfl (by kernel_rfl) rfl ?_
      refine wl_load 3 (.tmp 25) (pt bp (op + i * 5)) (.int .i64 (x.pr)) rfl rfl (D.run_oneR (hRp.mo M).at' 3 0 rfl Try.underlying3 rfl) rfl ?_
      refine wl_mv (.tmp 26) (.int .i64 (x.pr)) (fun _ => rfl) rfl rfl ?_
      refine w_nil ?_
      refine xn_then ?_
      refine w_seq ?_
      refine w_seq ?_
      refine w_reg ?_
      refine wl_mv (.tmp 0) (.slice pl l.length cl) (fun _ => rfl) e40_0 rfl ?_
      refine wl_mv (.tmp 5) (.int .i64 (x.pr)) (fun _ => rfl) rfl rfl ?_
      refine wl_call 33 [(.tmp 27), (.tmp 28)] _ [.slice pl l.length cl, .int .i64 (x.pr)] (.bool true) rfl rfl (fun _ _ => by kernel_rfl) (cB hp (has_n pl l.length cl _ _)) rfl ?_
      intro u41 hq
      replace hO := hO.mo hq
      replace hM1 := hM1.mo hq
      replace hM2 := hM2.mo hq
      replace hM3 := hM3.mo hq
      replace hV := hV.mo hq
      replace hF := own_mo hF hq
      replace M := M.trans hq
      clear hq
      refine w_nil ?_
      refine xn_then ?_
      refine w_condT rfl ?_
      refine w_seq ?_
      obtain ⟨vx, hVx, hvL⟩ := hVK.get hpl
      have hvm := List.mem_of_getElem? hVx
      have hvx := hV.ow vx hvm
      have hvz : vx.L.length < 4000000 := by rw [hvL]; unfold kidI; have := List.length_filter_le (fun t => decide (par l t = (pk : Int))) (List.range i); simp at this; omega
      have QO := hO.at
      have QV := hV.ob.at
      have hF0 := hF
      have hsm9 : Smos [vq (pt k2 0), vq (pt k2 0), vq (pt k2 3), vq (.slice (some ⟨k1, 0, none⟩) l.length l.length), vq (.int .i64 ((pk : Nat) : Int)), vq (pt k2 0), vq (pt k2 0), vq (pt k2 3), vq (.slice (some ⟨k1, 0, none⟩) l.length l.length), vq (.int .i64 ((pk : Nat) : Int)), vq (pt k1 (0 + pk * 1)), vq (.slice vx.pa vx.L.length vx.cap), vq (.int .i64 ((i : Nat) : Int)), bsq u41 [.int .i64 ((i : Nat) : Int)], apq u41 w.heap.size 3 1 ic vx.pa vx.cap vx.L i] := smos_cons (smo_vq _) (smos_cons (smo_vq _) (smos_cons (smo_vq _) (smos_cons (smo_vq _) (smos_cons (smo_vq _) (smos_cons (smo_vq _) (smos_cons (smo_vq _) (smos_cons (smo_vq _) (smos_cons (smo_vq _) (smos_cons (smo_vq _) (smos_cons (smo_vq _) (smos_cons (smo_vq _) (smos_cons (smo_vq _) (smos_cons (smo_bsq _ _) (smos_cons (smo_apq _ _ _ _ _ _ _ _ _) (smos_nil)))))))))))))))
      refine w_ogl 15 (apG u41 14 vx.pa vx.L.length vx.cap) [vq (pt k2 0), vq (pt k2 0), vq (pt k2 3), vq (.slice (some ⟨k1, 0, none⟩) l.length l.length), vq (.int .i64 ((pk : Nat) : Int)), vq (pt k2 0), vq (pt k2 0), vq (pt k2 3), vq (.slice (some ⟨k1, 0, none⟩) l.length l.length), vq (.int .i64 ((pk : Nat) : Int)), vq (pt k1 (0 + pk * 1)), vq (.slice vx.pa vx.L.length vx.cap), vq (.int .i64 ((i : Nat) : Int)), bsq u41 [.int .i64 ((i : Nat) : Int)], apq u41 w.heap.size 3 1 ic vx.pa vx.cap vx.L i] (by kernel_rfl) (by kernel_rfl) (by kernel_rfl) (by kernel_rfl) rfl (fun f => ⟨fun _ => (Mo.refl _).drew, Mk.of _ ((Mo.refl _).drew)⟩) ?_ ?_
      · refine ea_cons ?_ (ea_cons ?_ (ea_cons ?_ (ea_cons ?_ (ea_cons ?_ (ea_cons ?_ (ea_cons ?_ (ea_cons ?_ (ea_cons ?_ (ea_cons ?_ (ea_cons ?_ (ea_cons ?_ (ea_cons ?_ (ea_cons ?_ (ea_cons ?_ (ea_nil)))))))))))))))
        · exact ol_eq (pt k2 0) rfl (apG_mo (by decide)) hsm9 (fun L9 f wf hG9 hd K hK => go_run rfl (wo_mv (.tmp 3) (pt k2 0) (fun _ => rfl) e40_3 (hK _ (Mo.refl _))))
        · exact ol_eq (pt k2 0) rfl (apG_mo (by decide)) hsm9 (fun L9 f wf hG9 hd K hK => go_run rfl (wo_nc (.tmp 30) k2 0 rfl (hd 0 rfl) (hK _ (Mo.refl _))))
        · exact ol_eq (pt k2 3) rfl (apG_mo (by decide)) hsm9 (fun L9 f wf hG9 hd K hK => go_run rfl (wo_un (fun v => Instr.fieldAt 95 v 3) (.tmp 31) (pt k2 0) (pt k2 3) (fun _ => rfl) (hd 1 rfl) (by kernel_rfl) (hK _ (Mo.refl _))))
        · exact ol_eq (.slice (some ⟨k1, 0, none⟩) l.length l.length) rfl (apG_mo (by decide)) hsm9 (fun L9 f wf hG9 hd K hK => have QO := hG9.2.at QO (fun e => by have := (hV.b3 hvm e).two hO.ty; cases this); go_run rfl (wo_load 79 (.tmp 32) (pt k2 3) (.slice (some ⟨k1, 0, none⟩) l.length l.length) rfl (hd 2 rfl) (run_one QO 79 3 rfl Try.underlying79 rfl) (hK _ (Mo.refl _))))
        · exact ol_eq (.int .i64 ((pk : Nat) : Int)) rfl (apG_mo (by decide)) hsm9 (fun L9 f wf hG9 hd K hK => go_run rfl (wo_mv (.tmp 5) (.int .i64 ((pk : Nat) : Int)) (fun _ => rfl) (congrArg (Value.int .i64) hpk) (hK _ (Mo.refl _))))
        · exact ol_eq (pt k2 0) rfl (apG_mo (by decide)) hsm9 (fun L9 f wf hG9 hd K hK => go_run rfl (wo_mv (.tmp 3) (pt k2 0) (fun _ => rfl) e40_3 (hK _ (Mo.refl _))))
        · exact ol_eq (pt k2 0) rfl (apG_mo (by decide)) hsm9 (fun L9 f wf hG9 hd K hK => go_run rfl (wo_nc (.tmp 35) k2 0 rfl (hd 5 rfl) (hK _ (Mo.refl _))))
        · exact ol_eq (pt k2 3) rfl (apG_mo (by decide)) hsm9 (fun L9 f wf hG9 hd K hK => go_run rfl (wo_un (fun v => Instr.fieldAt 95 v 3) (.tmp 36) (pt k2 0) (pt k2 3) (fun _ => rfl) (hd 6 rfl) (by kernel_rfl) (hK _ (Mo.refl _))))
        · exact ol_eq (.slice (some ⟨k1, 0, none⟩) l.length l.length) rfl (apG_mo (by decide)) hsm9 (fun L9 f wf hG9 hd K hK => have QO := hG9.2.at QO (fun e => by have := (hV.b3 hvm e).two hO.ty; cases this); go_run rfl (wo_load 79 (.tmp 37) (pt k2 3) (.slice (some ⟨k1, 0, none⟩) l.length l.length) rfl (hd 7 rfl) (run_one QO 79 3 rfl Try.underlying79 rfl) (hK _ (Mo.refl _))))
        · exact ol_eq (.int .i64 ((pk : Nat) : Int)) rfl (apG_mo (by decide)) hsm9 (fun L9 f wf hG9 hd K hK => go_run rfl (wo_mv (.tmp 5) (.int .i64 ((pk : Nat) : Int)) (fun _ => rfl) (congrArg (Value.int .i64) hpk) (hK _ (Mo.refl _))))
        · exact ol_eq (pt k1 (0 + pk * 1)) rfl (apG_mo (by decide)) hsm9 (fun L9 f wf hG9 hd K hK => go_run rfl (wo_bin (fun x y => Instr.indexAt 79 x y) (.tmp 38) (.tmp 39) (.slice (some ⟨k1, 0, none⟩) l.length l.length) (.int .i64 ((pk : Nat) : Int)) (pt k1 (0 + pk * 1)) (fun _ => rfl) (hd 8 rfl) (hd 9 rfl) (ix79 (i := pk) rfl (by have := hVK.len; omega) _) (hK _ (Mo.refl _))))
        · exact ol_eq (.slice vx.pa vx.L.length vx.cap) rfl (apG_mo (by decide)) hsm9 (fun L9 f wf hG9 hd K hK => have QV := hG9.2.at QV (fun e => by have := (hV.b3 hvm e).two hV.ob.ty; cases this); go_run rfl (wo_load 32 (.tmp 40) (pt k1 (0 + pk * 1)) (.slice vx.pa vx.L.length vx.cap) rfl (hd 10 rfl) (run_one QV 32 (0 + pk * 1) (by simp [hVx]) Try.underlying32 rfl) (hK _ (Mo.refl _))))
        · exact ol_eq (.int .i64 ((i : Nat) : Int)) rfl (apG_mo (by decide)) hsm9 (fun L9 f wf hG9 hd K hK => go_run rfl (wo_mv (.tmp 4) (.int .i64 ((i : Nat) : Int)) (fun _ => rfl) rfl (hK _ (Mo.refl _))))
        · exact ol_bs [.int .i64 ((i : Nat) : Int)] rfl (by decide) hsm9 (fun L9 f wf hG9 hd K hK => go_run rfl (wo_bs 32 1 [(0, (.tmp 42))] [(0, .int .i64 ((i : Nat) : Int))] #[.int .i64 ((i : Nat) : Int)] 3 rfl (lp1 (hd 12 rfl)) (fun _ => by kernel_rfl) (fun k9 w9 h1 _ h3 h4 => hK k9 w9 h1 h3 h4)))
        · refine ol_ap rfl hvx (fun j hj => ?_) ?_
          · match j, hj with
            | 0, _ => exact Or.inl ⟨_, rfl⟩
            | 1, _ => exact Or.inl ⟨_, rfl⟩
            | 2, _ => exact Or.inl ⟨_, rfl⟩
            | 3, _ => exact Or.inl ⟨_, rfl⟩
            | 4, _ => exact Or.inl ⟨_, rfl⟩
            | 5, _ => exact Or.inl ⟨_, rfl⟩
            | 6, _ => exact Or.inl ⟨_, rfl⟩
            | 7, _ => exact Or.inl ⟨_, rfl⟩
            | 8, _ => exact Or.inl ⟨_, rfl⟩
            | 9, _ => exact Or.inl ⟨_, rfl⟩
            | 10, _ => exact Or.inl ⟨_, rfl⟩
            | 11, _ => exact Or.inl ⟨_, rfl⟩
            | 12, _ => exact Or.inl ⟨_, rfl⟩
            | 13, _ => exact Or.inr (Or.inl ⟨_, rfl⟩)
            | 14, hj => exact absurd rfl hj
            | j + 15, _ => exact Or.inr (Or.inr rfl)
          · intro f wf hmo hd K hK
            obtain ⟨kb9, hb1, hb2, hb3⟩ := hd 13 rfl
            exact go_run rfl (wo_apG Try.underlying32 inf3 rfl (by decide) (by decide) (.tmp 41) (.tmp 43) kb9 rfl (hd 11 rfl) hb1 (own_mo hvx hmo) rfl (by simp [Value.oneCell']) hb3 hvz (Nat.le_trans M.size hmo.size) hK)
      intro L9 f u42 hall9 hG9 hR9
      obtain ⟨pv2, cv2, hap1, hW2, hap2⟩ := hR9 14 rfl
      have hK9 := hG9.2
      have er0 := hR9 0 rfl
      have er1 := hR9 1 rfl
      have er2 := hR9 2 rfl
      have er3 := hR9 3 rfl
      have er4 := hR9 4 rfl
      have er5 := hR9 5 rfl
      have er6 := hR9 6 rfl
      have er7 := hR9 7 rfl
      have er8 := hR9 8 rfl
      have er9 := hR9 9 rfl
      have er10 := hR9 10 rfl
      have er11 := hR9 11 rfl
      have er12 := hR9 12 rfl
      clear hall9 hG9 hR9 hsm9
      have hV0 := hV
      replace hF := own_mk hF hK9 (fun k e e2 => hA vx hvm k e2 e)
      replace hM1 := hM1.mk hK9 (fun e => hM1.nty (hV.b3 hvm e) rfl)
      replace hM2 := hM2.mk hK9 (fun e => hM2.nty (hV.b3 hvm e) rfl)
      replace hM3 := hM3.mk hK9 (fun e => hM3.nty (hV.b3 hvm e) rfl)
      have hOb := hV.ob.mk hK9 (fun e => by have := (hV.b3 hvm e).two hV.ob.ty; cases this)
      replace hO := hO.mk hK9 (fun e => by have := (hV.b3 hvm e).two hO.ty; cases this)
      replace M := own_gap hvx hK9 (Nat.le_refl _) M
      clear QO QV hvx
      have QO := hO.at
      have QV := hOb.at
      refine wl_bin (fun x y => Instr.indexAt 79 x y) (.tmp 33) (.tmp 34) (.slice (some ⟨k1, 0, none⟩) l.length l.length) (.int .i64 ((pk : Nat) : Int)) (pt k1 (0 + pk * 1)) (fun _ => rfl) er3 er4 (ix79 (i := pk) rfl (by have := hVK.len; omega) _) rfl ?_
      refine wl_sti 32 (.tmp 45) (.tmp 44) k1 (0 + pk * 1) (.slice pv2 (vx.L ++ [i]).length cv2) 32 (V.map Iz.v) hOb rfl rfl rfl hap1 (by simp; have := hVK.len; omega) sz32 rfl rfl rfl ?_
      intro u43 hK8 hOb2
      replace hF := own_mk hF hK8 (fun k e e2 => by subst e2; have := (own_ty hF e).two hOb.ty; cases this)
      replace hM1 := hM1.mk hK8 (fun e => hM1.nec hOb e.symm)
      replace hM2 := hM2.mk hK8 (fun e => hM2.nec hOb e.symm)
      replace hM3 := hM3.mk hK8 (fun e => hM3.nec hOb e.symm)
      replace hO := hO.mk hK8 (hO.ne hOb (by decide))
      replace M := hK8.mo M (fun k e => e ▸ N_k1)
      have hV := hV0.app hVx hK9 hW2 hap2 hK8 (by simpa using hOb2)
      have hpi : par l i = (pk : Int) := by rw [par_eq hx]; exact hpk
      replace hVK := hVK.more hpl hpi hVx pv2 cv2
      replace hA := hA.set hF0 rfl hVx hap2
      clear hV0 hOb hOb2 hK8 hK9 hW2 hap2 hap1 QO QV hVx hvL hvm hvz
      refine w_nil ?_
      refine xn_then ?_
      have QO := hO.at
      refine w_any 12 [.inl (pt k2 0), .inl (pt k2 0), .inl (pt k2 4), .inl (.map (some mb1)), .inl (.int .i64 (x.pr)), .inl (.slice pl l.length cl), .inl (.int .i64 ((i : Nat) : Int)), .inl (pt bp (op + i * 5)), .inl (pt bp (op + i * 5 + 2)), .inl (.string x.nm), .inl (.agg #[.int .i64 (x.pr), .string x.nm]), .inl (.int .i64 ((i : Nat) : Int))] [] (by kernel_rfl) (by kernel_rfl) (by kernel_rfl) (by kernel_rfl) rfl (by kernel_rfl) (by kernel_rfl) late_nil ?_ ?_ ?_
      · exact Ds.none rfl
      · refine ea_cons ?_ (ea_cons ?_ (ea_cons ?_ (ea_cons ?_ (ea_cons ?_ (ea_cons ?_ (ea_cons ?_ (ea_cons ?_ (ea_cons ?_ (ea_cons ?_ (ea_cons ?_ (ea_cons ?_ (ea_nil))))))))))))
        · exact og_eq (pt k2 0) rfl (fun f wf hq hd K hK => go_run rfl (wo_mv (.tmp 3) (pt k2 0) (fun _ => rfl) e40_3 (hK _ (Mo.refl _))))
        · exact og_eq (pt k2 0) rfl (fun f wf hq hd K hK => go_run rfl (wo_nc (.tmp 46) k2 0 rfl (hd 0 rfl) (hK _ (Mo.refl _))))
        · exact og_eq (pt k2 4) rfl (fun f wf hq hd K hK => go_run rfl (wo_un (fun v => Instr.fieldAt 95 v 4) (.tmp 47) (pt k2 0) (pt k2 4) (fun _ => rfl) (hd 1 rfl) (by kernel_rfl) (hK _ (Mo.refl _))))
        · exact og_eq (.map (some mb1)) rfl (fun f wf hq hd K hK => have QO := QO.mo hq; go_run rfl (wo_load 91 (.tmp 48) (pt k2 4) (.map (some mb1)) rfl (hd 2 rfl) (run_one QO 91 4 rfl Try.underlying91 rfl) (hK _ (Mo.refl _))))
        · exact og_eq (.int .i64 (x.pr)) rfl (fun f wf hq hd K hK => go_run rfl (wo_mv (.tmp 5) (.int .i64 (x.pr)) (fun _ => rfl) rfl (hK _ (Mo.refl _))))
        · exact og_eq (.slice pl l.length cl) rfl (fun f wf hq hd K hK => go_run rfl (wo_mv (.tmp 0) (.slice pl l.length cl) (fun _ => rfl) e40_0 (hK _ (Mo.refl _))))
        · exact og_eq (.int .i64 ((i : Nat) : Int)) rfl (fun f wf hq hd K hK => go_run rfl (wo_mv (.tmp 4) (.int .i64 ((i : Nat) : Int)) (fun _ => rfl) rfl (hK _ (Mo.refl _))))
        · exact og_eq (pt bp (op + i * 5)) rfl (fun f wf hq hd K hK => go_run rfl (wo_bin (fun x y => Instr.indexAt 22 x y) (.tmp 51) (.tmp 52) (.slice pl l.length cl) (.int .i64 ((i : Nat) : Int)) (pt bp (op + i * 5)) (fun _ => rfl) (hd 5 rfl) (hd 6 rfl) (ix22 (i := i) hpp hil _) (hK _ (Mo.refl _))))
        · exact og_eq (pt bp (op + i * 5 + 2)) rfl (fun f wf hq hd K hK => go_run rfl (wo_un (fun v => Instr.fieldAt 55 v 2) (.tmp 53) (pt bp (op + i * 5)) (pt bp (op + i * 5 + 2)) (fun _ => rfl) (hd 7 rfl) (by kernel_rfl) (hK _ (Mo.refl _))))
        · exact og_eq (.string x.nm) rfl (fun f wf hq hd K hK => go_run rfl (wo_load 9 (.tmp 54) (pt bp (op + i * 5 + 2)) (.string x.nm) rfl (hd 8 rfl) (D.run_oneR (hRp.mo (M.trans hq)).at' 9 2 rfl Try.underlying9 rfl) (hK _ (Mo.refl _))))
        · exact og_eq (.agg #[.int .i64 (x.pr), .string x.nm]) rfl (fun f wf hq hd K hK => go_run rfl (wo_build 98 [(0, (.tmp 50)), (1, (.tmp 55))] [(0, .int .i64 (x.pr)), (1, .string x.nm)] (.agg #[.int .i64 (x.pr), .string x.nm]) rfl (lp2 (hd 4 rfl) (hd 9 rfl)) (by kernel_rfl) (hK _ (Mo.refl _))))
        · exact og_eq (.int .i64 ((i : Nat) : Int)) rfl (fun f wf hq hd K hK => go_run rfl (wo_mv (.tmp 4) (.int .i64 ((i : Nat) : Int)) (fun _ => rfl) rfl (hK _ (Mo.refl _))))
      intro kf44 u44 hq hR hne
      replace QO := QO.mo hq
      replace hO := hO.mo hq
      replace hM1 := hM1.mo hq
      replace hM2 := hM2.mo hq
      replace hM3 := hM3.mo hq
      replace hV := hV.mo hq
      replace hF := own_mo hF hq
      replace M := M.trans hq
      clear hq hR hne
      refine wl_callx 53 [(.tmp 49), (.tmp 56), (.tmp 57)] _ [.map (some mb1), .agg #[.int .i64 (x.pr), .string x.nm], .int .i64 ((i : Nat) : Int)] rfl rfl (fun _ _ => by kernel_rfl) (keep_n hM1 (x.pr, x.nm) (i : Int)) rfl ?_
      rintro e9 u45 ⟨rfl, hN9, hK9⟩
      refine ⟨_, rfl, ?_⟩
      have hM10 := hM1
      replace hO := hO.mk hK9 (hM10.nec hO)
      replace hF := own_mk hF hK9 (fun k e h => hM10.nty (own_ty hF e) h)
      replace hV := hV.kk hK9 (hM10.nec hV.ob) (fun x hx k e h => hM10.nty (hV.b3 hx e) h)
      replace hM2 := hM2.mk hK9 nm_mb1_mb2.symm
      replace hM3 := hM3.mk hK9 nm_mb1_mb3.symm
      replace M := hK9.mo M (fun k e => e ▸ N_mb1)
      clear hM1 QO
      have hM1 := hN9
      clear hM10 hN9 hK9
      refine w_nil ?_
      refine xn_then ?_
      refine w_seq ?_
      have QO := hO.at
      have QO := hO.at
      have hFz : (fsI l i).length < 4000000 := by rw [fsI_len]; omega
      have hsm9 : Smos [vq (pt k2 0), vq (pt k2 0), vq (pt k2 0), vq (pt k2 2), vq (.slice pf (fsI l i).length cf), vq (pt k2 0), vq (pt k2 0), vq (pt k2 1), vq (.int .i64 ((fsn l i : Nat) : Int)), bsq u45 [.int .i64 ((fsn l i : Nat) : Int)], apq u45 w.heap.size 3 1 ic pf cf (fsI l i) (fsn l i)] := smos_cons (smo_vq _) (smos_cons (smo_vq _) (smos_cons (smo_vq _) (smos_cons (smo_vq _) (smos_cons (smo_vq _) (smos_cons (smo_vq _) (smos_cons (smo_vq _) (smos_cons (smo_vq _) (smos_cons (smo_vq _) (smos_cons (smo_bsq _ _) (smos_cons (smo_apq _ _ _ _ _ _ _ _ _) (smos_nil)))))))))))
      refine w_ogl 11 (apG u45 10 pf (fsI l i).length cf) [vq (pt k2 0), vq (pt k2 0), vq (pt k2 0), vq (pt k2 2), vq (.slice pf (fsI l i).length cf), vq (pt k2 0), vq (pt k2 0), vq (pt k2 1), vq (.int .i64 ((fsn l i : Nat) : Int)), bsq u45 [.int .i64 ((fsn l i : Nat) : Int)], apq u45 w.heap.size 3 1 ic pf cf (fsI l i) (fsn l i)] (by kernel_rfl) (by kernel_rfl) (by kernel_rfl) (by kernel_rfl) rfl (fun f => ⟨fun _ => (Mo.refl _).drew, Mk.of _ ((Mo.refl _).drew)⟩) ?_ ?_
      · refine ea_cons ?_ (ea_cons ?_ (ea_cons ?_ (ea_cons ?_ (ea_cons ?_ (ea_cons ?_ (ea_cons ?_ (ea_cons ?_ (ea_cons ?_ (ea_cons ?_ (ea_cons ?_ (ea_nil)))))))))))
        · exact ol_eq (pt k2 0) rfl (apG_mo (by decide)) hsm9 (fun L9 f wf hG9 hd K hK => go_run rfl (wo_mv (.tmp 3) (pt k2 0) (fun _ => rfl) e40_3 (hK _ (Mo.refl _))))
        · exact ol_eq (pt k2 0) rfl (apG_mo (by decide)) hsm9 (fun L9 f wf hG9 hd K hK => go_run rfl (wo_mv (.tmp 3) (pt k2 0) (fun _ => rfl) e40_3 (hK _ (Mo.refl _))))
        · exact ol_eq (pt k2 0) rfl (apG_mo (by decide)) hsm9 (fun L9 f wf hG9 hd K hK => go_run rfl (wo_nc (.tmp 60) k2 0 rfl (hd 1 rfl) (hK _ (Mo.refl _))))
        · exact ol_eq (pt k2 2) rfl (apG_mo (by decide)) hsm9 (fun L9 f wf hG9 hd K hK => go_run rfl (wo_un (fun v => Instr.fieldAt 95 v 2) (.tmp 61) (pt k2 0) (pt k2 2) (fun _ => rfl) (hd 2 rfl) (by kernel_rfl) (hK _ (Mo.refl _))))
        · exact ol_eq (.slice pf (fsI l i).length cf) rfl (apG_mo (by decide)) hsm9 (fun L9 f wf hG9 hd K hK => have QO := hG9.2.at QO (fun e => by have := (own_ty hF e).two hO.ty; cases this); go_run rfl (wo_load 32 (.tmp 62) (pt k2 2) (.slice pf (fsI l i).length cf) rfl (hd 3 rfl) (run_one QO 32 2 rfl Try.underlying32 rfl) (hK _ (Mo.refl _))))
        · exact ol_eq (pt k2 0) rfl (apG_mo (by decide)) hsm9 (fun L9 f wf hG9 hd K hK => go_run rfl (wo_mv (.tmp 3) (pt k2 0) (fun _ => rfl) e40_3 (hK _ (Mo.refl _))))
        · exact ol_eq (pt k2 0) rfl (apG_mo (by decide)) hsm9 (fun L9 f wf hG9 hd K hK => go_run rfl (wo_nc (.tmp 64) k2 0 rfl (hd 5 rfl) (hK _ (Mo.refl _))))
        · exact ol_eq (pt k2 1) rfl (apG_mo (by decide)) hsm9 (fun L9 f wf hG9 hd K hK => go_run rfl (wo_un (fun v => Instr.fieldAt 95 v 1) (.tmp 65) (pt k2 0) (pt k2 1) (fun _ => rfl) (hd 6 rfl) (by kernel_rfl) (hK _ (Mo.refl _))))
        · exact ol_eq (.int .i64 ((fsn l i : Nat) : Int)) rfl (apG_mo (by decide)) hsm9 (fun L9 f wf hG9 hd K hK => have QO := hG9.2.at QO (fun e => by have := (own_ty hF e).two hO.ty; cases this); go_run rfl (wo_load 3 (.tmp 66) (pt k2 1) (.int .i64 ((fsn l i : Nat) : Int)) rfl (hd 7 rfl) (run_one QO 3 1 rfl Try.underlying3 rfl) (hK _ (Mo.refl _))))
        · exact ol_bs [.int .i64 ((fsn l i : Nat) : Int)] rfl (by decide) hsm9 (fun L9 f wf hG9 hd K hK => go_run rfl (wo_bs 32 1 [(0, (.tmp 67))] [(0, .int .i64 ((fsn l i : Nat) : Int))] #[.int .i64 ((fsn l i : Nat) : Int)] 3 rfl (lp1 (hd 8 rfl)) (fun _ => by kernel_rfl) (fun k9 w9 h1 _ h3 h4 => hK k9 w9 h1 h3 h4)))
        · refine ol_ap rfl hF (fun j hj => ?_) ?_
          · match j, hj with
            | 0, _ => exact Or.inl ⟨_, rfl⟩
            | 1, _ => exact Or.inl ⟨_, rfl⟩
            | 2, _ => exact Or.inl ⟨_, rfl⟩
            | 3, _ => exact Or.inl ⟨_, rfl⟩
            | 4, _ => exact Or.inl ⟨_, rfl⟩
            | 5, _ => exact Or.inl ⟨_, rfl⟩
            | 6, _ => exact Or.inl ⟨_, rfl⟩
            | 7, _ => exact Or.inl ⟨_, rfl⟩
            | 8, _ => exact Or.inl ⟨_, rfl⟩
            | 9, _ => exact Or.inr (Or.inl ⟨_, rfl⟩)
            | 10, hj => exact absurd rfl hj
            | j + 11, _ => exact Or.inr (Or.inr rfl)
          · intro f wf hmo hd K hK
            obtain ⟨kb9, hb1, hb2, hb3⟩ := hd 9 rfl
            exact go_run rfl (wo_apG Try.underlying32 inf3 rfl (by decide) (by decide) (.tmp 63) (.tmp 68) kb9 rfl (hd 4 rfl) hb1 (own_mo hF hmo) rfl (by simp [Value.oneCell']) hb3 hFz (Nat.le_trans M.size hmo.size) hK)
      intro L9 f u46 hall9 hG9 hR9
      obtain ⟨pf2, cf2, hap1, hW2, hap2⟩ := hR9 10 rfl
      have hK9 := hG9.2
      have er0 := hR9 0 rfl
      have er1 := hR9 1 rfl
      have er2 := hR9 2 rfl
      have er3 := hR9 3 rfl
      have er4 := hR9 4 rfl
      have er5 := hR9 5 rfl
      have er6 := hR9 6 rfl
      have er7 := hR9 7 rfl
      have er8 := hR9 8 rfl
      clear hall9 hG9 hR9 hsm9
      have hA2 := hA.app hV hap2
      clear QO
      replace hO := hO.mk hK9 (fun e => by have := (own_ty hF e).two hO.ty; cases this)
      replace hV := hV.kk hK9 (fun e => by have := (own_ty hF e).two hV.ob.ty; cases this) (fun x hx k e h => hA x hx k e h)
      replace hM1 := hM1.mk hK9 (fun e => hM1.nty (own_ty hF e) rfl)
      replace hM2 := hM2.mk hK9 (fun e => hM2.nty (own_ty hF e) rfl)
      replace hM3 := hM3.mk hK9 (fun e => hM3.nty (own_ty hF e) rfl)
      replace M := own_gap hF hK9 (Nat.le_refl _) M
      clear hA hF hK9 hap2
      have hA := hA2
      clear hA2
      have hF := hW2
      clear hW2
      have QO := hO.at
      refine wl_nc (.tmp 59) k2 0 rfl er0 rfl ?_
      refine wl_un (fun v => Instr.fieldAt 95 v 2) (.tmp 70) (pt k2 0) (pt k2 2) (fun _ => rfl) rfl (by kernel_rfl) rfl ?_
      refine wl_stO 32 (.tmp 71) (.tmp 69) k2 2 (.slice pf2 ((fsI l i) ++ [(fsn l i)]).length cf2) 95 _ [.slice pl l.length cl, .int .i64 ((fsn l i : Nat) : Int), .slice pf2 (fsI l i ++ [fsn l i]).length cf2, .slice (some ⟨k1, 0, none⟩) l.length l.length, .map (some mb1), .map (some mb2), .map (some mb3), .slice none 0 0] hO rfl rfl rfl hap1 rfl sz32 rfl rfl rfl rfl ?_
      intro u47 hK9 hO2
      have hO0 := hO
      replace hF := own_mk hF hK9 (fun k e e2 => by subst e2; have := (own_ty hF e).two hO0.ty; cases this)
      replace hV := hV.kk hK9 (hV.ob.ne hO0 (by decide)) (fun x hx k e e2 => by subst e2; have := (hV.b3 hx e).two hO0.ty; cases this)
      replace hM1 := hM1.mk hK9 (fun e => hM1.nec hO0 e.symm)
      replace hM2 := hM2.mk hK9 (fun e => hM2.nec hO0 e.symm)
      replace hM3 := hM3.mk hK9 (fun e => hM3.nec hO0 e.symm)
      replace M := hK9.mo M (fun k e => e ▸ N_k2)
      clear hO hO0 hK9 QO
      have hO := hO2
      clear hO2
      refine w_nil ?_
      refine xn_then ?_
      refine w_seq ?_
      refine w_reg ?_
      refine wl_mv (.tmp 0) (.slice pl l.length cl) (fun _ => rfl) e40_0 rfl ?_
      refine wl_mv (.tmp 4) (.int .i64 ((i : Nat) : Int)) (fun _ => rfl) rfl rfl ?_
      refine wl_bin (fun x y => Instr.indexAt 22 x y) (.tmp 72) (.tmp 73) (.slice pl l.length cl) (.int .i64 ((i : Nat) : Int)) (pt bp (op + i * 5)) (fun _ => rfl) rfl rfl (ix22 (i := i) hpp hil _) rfl ?_
      refine wl_un (fun v => Instr.fieldAt 55 v 4) (.tmp 74) (pt bp (op + i * 5)) (pt bp (op + i * 5 + 4)) (fun _ => rfl) rfl (by kernel_rfl) rfl ?_
      refine wl_load 39 (.tmp 75) (pt bp (op + i * 5 + 4)) (.slice x.pi x.items.length x.ci) rfl rfl (D.run_oneR (hRp.mo M).at' 39 4 rfl Try.underlying39 rfl) rfl ?_
      refine wl_mv (.tmp 76) (.slice x.pi x.items.length x.ci) (fun _ => rfl) rfl rfl ?_
      refine w_nil ?_
      refine xn_then ?_
      refine w_seq ?_
      refine w_seq ?_
      refine w_reg ?_
      refine wl_mv (.tmp 6) (.slice x.pi x.items.length x.ci) (fun _ => rfl) rfl rfl ?_
      refine wl_val (.int .i64 ((x.items.length : Nat) : Int)) (len39 _ _ _ _ _ (by exact rfl) _ _ _ _ _ _) rfl ?_
      refine wl_mv (.const (.int .i64 (0))) (.int .i64 (0)) (fun _ => rfl) rfl rfl ?_
      refine w_nil ?_
      refine xn_then ?_
      refine w_block ?_
      have hLi := (hLx x (List.mem_of_getElem? hx)).it
      refine w_loop (fun m lf w1 => ∃ j : Nat, ∃ ao2 : List (Spo × Int), m = x.items.length - j ∧ look lf 0 = .slice pl l.length cl ∧ look lf 3 = pt k2 0 ∧ look lf 18 = .int .i64 ((l.length : Nat) : Int) ∧ look lf 19 = .int .i64 ((i : Nat) : Int) ∧ look lf 4 = .int .i64 ((i : Nat) : Int) ∧ look lf 6 = .slice x.pi x.items.length x.ci ∧ look lf 78 = .int .i64 ((x.items.length : Nat) : Int) ∧ look lf 79 = .int .i64 ((j : Nat) : Int) ∧ (j ≤ x.items.length) ∧ (Ob w1 k2 95 [.slice pl l.length cl, .int .i64 ((fsn l i : Nat) : Int), .slice pf2 (fsI l i ++ [fsn l i]).length cf2, .slice (some ⟨k1, 0, none⟩) l.length l.length, .map (some mb1), .map (some mb2), .map (some mb3), .slice none 0 0]) ∧ (Ow w.heap.size 3 1 ic w1 pf2 cf2 (fsI l i ++ [fsn l i])) ∧ (Vs w.heap.size w1 k1 (V.set pk ⟨pv2, cv2, vx.L ++ [i]⟩)) ∧ (Mp es w1 mb1 (kfq an (x.pr, x.nm) (i : Int))) ∧ (Mp es w1 mb2 ao2) ∧ (Mp Value.string w1 mb3 []) ∧ (OK2 l i j ao2) ∧ (Mo w w1)) _ ⟨0, ao, rfl, e40_0, e40_3, e40_18, e40_19, rfl, rfl, rfl, rfl, Nat.zero_le _, hO, hF, hV, hM1, hM2, hM3, hOK, M⟩ ?_
      clear hO hF hV hM1 hM2 hM3 hOK M
      rintro m lf70 wl70 ⟨j, ao2, rfl, e70_0, e70_3, e70_18, e70_19, e70_4, e70_6, e70_78, e70_79, hj, hO, hF, hV, hM1, hM2, hM3, hOK, M⟩
      cases hd2 : decide (j < x.items.length) with
      | true =>
        have hjl := of_decide_eq_true hd2
        obtain ⟨y, hy⟩ := get_of_lt hjl
        have hyi : (itn l i)[j]? = some y := by rw [hit]; exact hy
        have hfj := fsn_lt hx hjl
        obtain ⟨bq, oq, hpq, hRq⟩ := D.SL.rw hLi hy
        cases hr : rdb y.k with
        | true =>
          refine w_seq ?_
          refine w_reg ?_
          refine wl_bin (fun x y => do eqGuard .lss 3 (.tmp 79) (.tmp 78) x y; binOp .lss 3 x y) (.tmp 79) (.tmp 78) (.int .i64 ((j : Nat) : Int)) (.int .i64 ((x.items.length : Nat) : Int)) (.bool true) (fun _ => rfl) e70_79 e70_78 (ltN hd2 _ _ _) rfl ?_
          refine w_nil ?_
          refine xn_then ?_
          refine w_seq ?_
          refine w_condT rfl ?_
          refine w_skip ?_
          refine xn_then ?_
          refine w_seq ?_
          refine w_block ?_
          refine w_seq ?_
          refine w_reg ?_
          refine wl_mv (.tmp 79) (.int .i64 ((j : Nat) : Int)) (fun _ => rfl) e70_79 rfl ?_
          refine wl_mv (.tmp 81) (.int .i64 ((j : Nat) : Int)) (fun _ => rfl) rfl rfl ?_
          refine w_nil ?_
          refine xn_then ?_
          refine w_seq ?_
          have QO := hO.at
          refine w_reg ?_
          refine wl_mv (.tmp 6) (.slice x.pi x.items.length x.ci) (fun _ => rfl) e70_6 rfl ?_
          refine wl_mv (.tmp 7) (.int .i64 ((j : Nat) : Int)) (fun _ => rfl) rfl rfl ?_
          refine wl_bin (fun x y => Instr.indexAt 39 x y) (.tmp 82) (.tmp 83) (.slice x.pi x.items.length x.ci) (.int .i64 ((j : Nat) : Int)) (pt bq (oq + j * 23)) (fun _ => rfl) rfl rfl (ix39 (i := j) hpq hjl _) rfl ?_
          refine wl_un (fun v => Instr.fieldAt 69 v 1) (.tmp 84) (pt bq (oq + j * 23)) (pt bq (oq + j * 23 + 1)) (fun _ => rfl) rfl (by kernel_rfl) rfl ?_
          refine wl_load 3 (.tmp 85) (pt bq (oq + j * 23 + 1)) (.int .i64 (y.k)) rfl rfl (D.run_oneR (hRq.mo M).at' 3 1 rfl Try.underlying3 rfl) rfl ?_
          refine wl_call 54 [(.tmp 86)] _ [.int .i64 (y.k)] (.bool true) rfl rfl (fun _ _ => by kernel_rfl) (cB hr (can_n y.k _)) rfl ?_
          intro u71 hq
          replace QO := QO.mo hq
          replace hO := hO.mo hq
          replace hM1 := hM1.mo hq
          replace hM2 := hM2.mo hq
          replace hM3 := hM3.mo hq
          replace hV := hV.mo hq
          replace hF := own_mo hF hq
          replace M := M.trans hq
          clear hq
          refine w_nil ?_
          refine xn_then ?_
          refine w_condT rfl ?_
          have QO := hO.at
          refine w_any 17 [.inl (pt k2 0), .inl (pt k2 0), .inl (pt k2 5), .inl (.map (some mb2)), .inl (.int .i64 ((i : Nat) : Int)), .inl (.slice x.pi x.items.length x.ci), .inl (.int .i64 ((j : Nat) : Int)), .inl (pt bq (oq + j * 23)), .inl (pt bq (oq + j * 23)), .inl (.string y.nm), .inl (.agg #[.int .i64 ((i : Nat) : Int), .string y.nm]), .inl (pt k2 0), .inl (pt k2 0), .inl (pt k2 1), .inl (.int .i64 ((fsn l i : Nat) : Int)), .inl (.int .i64 ((j : Nat) : Int)), .inl (.int .i64 ((fsn l i + j : Nat) : Int))] [] (by kernel_rfl) (by kernel_rfl) (by kernel_rfl) (by kernel_rfl) rfl (by kernel_rfl) (by kernel_rfl) late_nil ?_ ?_ ?_
          · exact Ds.none rfl
          · refine ea_cons ?_ (ea_cons ?_ (ea_cons ?_ (ea_cons ?_ (ea_cons ?_ (ea_cons ?_ (ea_cons ?_ (ea_cons ?_ (ea_cons ?_ (ea_cons ?_ (ea_cons ?_ (ea_cons ?_ (ea_cons ?_ (ea_cons ?_ (ea_cons ?_ (ea_cons ?_ (ea_cons ?_ (ea_nil)))))))))))))))))
            · exact og_eq (pt k2 0) rfl (fun f wf hq hd K hK => go_run rfl (wo_mv (.tmp 3) (pt k2 0) (fun _ => rfl) e70_3 (hK _ (Mo.refl _))))
            · exact og_eq (pt k2 0) rfl (fun f wf hq hd K hK => go_run rfl (wo_nc (.tmp 88) k2 0 rfl (hd 0 rfl) (hK _ (Mo.refl _))))
            · exact og_eq (pt k2 5) rfl (fun f wf hq hd K hK => go_run rfl (wo_un (fun v => Instr.fieldAt 95 v 5) (.tmp 89) (pt k2 0) (pt k2 5) (fun _ => rfl) (hd 1 rfl) (by kernel_rfl) (hK _ (Mo.refl _))))
            · exact og_eq (.map (some mb2)) rfl (fun f wf hq hd K hK => have QO := QO.mo hq; go_run rfl (wo_load 91 (.tmp 90) (pt k2 5) (.map (some mb2)) rfl (hd 2 rfl) (run_one QO 91 5 rfl Try.underlying91 rfl) (hK _ (Mo.refl _))))
            · exact og_eq (.int .i64 ((i : Nat) : Int)) rfl (fun f wf hq hd K hK => go_run rfl (wo_mv (.tmp 4) (.int .i64 ((i : Nat) : Int)) (fun _ => rfl) e70_4 (hK _ (Mo.refl _))))
            · exact og_eq (.slice x.pi x.items.length x.ci) rfl (fun f wf hq hd K hK => go_run rfl (wo_mv (.tmp 6) (.slice x.pi x.items.length x.ci) (fun _ => rfl) e70_6 (hK _ (Mo.refl _))))
            · exact og_eq (.int .i64 ((j : Nat) : Int)) rfl (fun f wf hq hd K hK => go_run rfl (wo_mv (.tmp 7) (.int .i64 ((j : Nat) : Int)) (fun _ => rfl) rfl (hK _ (Mo.refl _))))
            · exact og_eq (pt bq (oq + j * 23)) rfl (fun f wf hq hd K hK => go_run rfl (wo_bin (fun x y => Instr.indexAt 39 x y) (.tmp 93) (.tmp 94) (.slice x.pi x.items.length x.ci) (.int .i64 ((j : Nat) : Int)) (pt bq (oq + j * 23)) (fun _ => rfl) (hd 5 rfl) (hd 6 rfl) (ix39 (i := j) hpq hjl _) (hK _ (Mo.refl _))))
            · exact og_eq (pt bq (oq + j * 23)) rfl (fun f wf hq hd K hK => go_run rfl (wo_un (fun v => Instr.fieldAt 69 v 0) (.tmp 95) (pt bq (oq + j * 23)) (pt bq (oq + j * 23)) (fun _ => rfl) (hd 7 rfl) (by kernel_rfl) (hK _ (Mo.refl _))))
            · exact og_eq (.string y.nm) rfl (fun f wf hq hd K hK => go_run rfl (wo_load 9 (.tmp 96) (pt bq (oq + j * 23)) (.string y.nm) rfl (hd 8 rfl) (D.run_oneR (hRq.mo (M.trans hq)).at' 9 0 rfl Try.underlying9 rfl) (hK _ (Mo.refl _))))
            · exact og_eq (.agg #[.int .i64 ((i : Nat) : Int), .string y.nm]) rfl (fun f wf hq hd K hK => go_run rfl (wo_build 98 [(0, (.tmp 92)), (1, (.tmp 97))] [(0, .int .i64 ((i : Nat) : Int)), (1, .string y.nm)] (.agg #[.int .i64 ((i : Nat) : Int), .string y.nm]) rfl (lp2 (hd 4 rfl) (hd 9 rfl)) (by kernel_rfl) (hK _ (Mo.refl _))))
            · exact og_eq (pt k2 0) rfl (fun f wf hq hd K hK => go_run rfl (wo_mv (.tmp 3) (pt k2 0) (fun _ => rfl) e70_3 (hK _ (Mo.refl _))))
            · exact og_eq (pt k2 0) rfl (fun f wf hq hd K hK => go_run rfl (wo_nc (.tmp 99) k2 0 rfl (hd 11 rfl) (hK _ (Mo.refl _))))
            · exact og_eq (pt k2 1) rfl (fun f wf hq hd K hK => go_run rfl (wo_un (fun v => Instr.fieldAt 95 v 1) (.tmp 100) (pt k2 0) (pt k2 1) (fun _ => rfl) (hd 12 rfl) (by kernel_rfl) (hK _ (Mo.refl _))))
            · exact og_eq (.int .i64 ((fsn l i : Nat) : Int)) rfl (fun f wf hq hd K hK => have QO := QO.mo hq; go_run rfl (wo_load 3 (.tmp 101) (pt k2 1) (.int .i64 ((fsn l i : Nat) : Int)) rfl (hd 13 rfl) (run_one QO 3 1 rfl Try.underlying3 rfl) (hK _ (Mo.refl _))))
            · exact og_eq (.int .i64 ((j : Nat) : Int)) rfl (fun f wf hq hd K hK => go_run rfl (wo_mv (.tmp 7) (.int .i64 ((j : Nat) : Int)) (fun _ => rfl) rfl (hK _ (Mo.refl _))))
            · exact og_eq (.int .i64 ((fsn l i + j : Nat) : Int)) rfl (fun f wf hq hd K hK => go_run rfl (wo_bin (fun x y => do eqGuard .add 3 (.tmp 102) (.tmp 103) x y; binOp .add 3 x y) (.tmp 102) (.tmp 103) (.int .i64 ((fsn l i : Nat) : Int)) (.int .i64 ((j : Nat) : Int)) (.int .i64 ((fsn l i + j : Nat) : Int)) (fun _ => rfl) (hd 14 rfl) (hd 15 rfl) (addN (a := fsn l i) (b := j) (by omega) _ _ _) (hK _ (Mo.refl _))))
          intro kf72 u72 hq hR hne
          replace QO := QO.mo hq
          replace hO := hO.mo hq
          replace hM1 := hM1.mo hq
          replace hM2 := hM2.mo hq
          replace hM3 := hM3.mo hq
          replace hV := hV.mo hq
          replace hF := own_mo hF hq
          replace M := M.trans hq
          clear hq hR hne
          refine wl_callx 53 [(.tmp 91), (.tmp 98), (.tmp 104)] _ [.map (some mb2), .agg #[.int .i64 ((i : Nat) : Int), .string y.nm], .int .i64 ((fsn l i + j : Nat) : Int)] rfl rfl (fun _ _ => by kernel_rfl) (keep_n hM2 ((i : Int), y.nm) ((fsn l i + j : Nat) : Int)) rfl ?_
          rintro e9 u73 ⟨rfl, hN9, hK9⟩
          refine ⟨_, rfl, ?_⟩
          have hM20 := hM2
          replace hO := hO.mk hK9 (hM20.nec hO)
          replace hF := own_mk hF hK9 (fun k e h => hM20.nty (own_ty hF e) h)
          replace hV := hV.kk hK9 (hM20.nec hV.ob) (fun x hx k e h => hM20.nty (hV.b3 hx e) h)
          replace hM1 := hM1.mk hK9 nm_mb1_mb2
          replace hM3 := hM3.mk hK9 nm_mb2_mb3.symm
          replace M := hK9.mo M (fun k e => e ▸ N_mb2)
          clear hM2 QO
          have hM2 := hN9
          clear hM20 hN9 hK9
          refine w_nil ?_
          refine xn_blk ?_
          refine xn_then ?_
          refine w_reg ?_
          refine wl_bin (fun x y => do eqGuard .add 3 (.tmp 79) (.const (.int .i64 (1))) x y; binOp .add 3 x y) (.tmp 79) (.const (.int .i64 (1))) (.int .i64 ((j : Nat) : Int)) (.int .i64 (1)) (.int .i64 ((j + 1 : Nat) : Int)) (fun _ => rfl) e70_79 rfl (add1r (k := j) (by omega) _ _ _) rfl ?_
          refine wl_mv (.tmp 106) (.int .i64 ((j + 1 : Nat) : Int)) (fun _ => rfl) rfl rfl ?_
          refine w_nil ?_
          exact xn_loop (x.items.length - (j + 1)) (by omega) ⟨j + 1, kfq ao2 ((i : Int), y.nm) ((fsn l i + j : Nat) : Int), rfl, e70_0, e70_3, e70_18, e70_19, e70_4, e70_6, e70_78, rfl, by omega, hO, hF, hV, hM1, hM2, hM3, hOK.more hyi hr, M⟩
        | false =>
          refine w_seq ?_
          refine w_reg ?_
          refine wl_bin (fun x y => do eqGuard .lss 3 (.tmp 79) (.tmp 78) x y; binOp .lss 3 x y) (.tmp 79) (.tmp 78) (.int .i64 ((j : Nat) : Int)) (.int .i64 ((x.items.length : Nat) : Int)) (.bool true) (fun _ => rfl) e70_79 e70_78 (ltN hd2 _ _ _) rfl ?_
          refine w_nil ?_
          refine xn_then ?_
          refine w_seq ?_
          refine w_condT rfl ?_
          refine w_skip ?_
          refine xn_then ?_
          refine w_seq ?_
          refine w_block ?_
          refine w_seq ?_
          refine w_reg ?_
          refine wl_mv (.tmp 79) (.int .i64 ((j : Nat) : Int)) (fun _ => rfl) e70_79 rfl ?_
          refine wl_mv (.tmp 81) (.int .i64 ((j : Nat) : Int)) (fun _ => rfl) rfl rfl ?_
          refine w_nil ?_
          refine xn_then ?_
          refine w_seq ?_
          have QO := hO.at
          refine w_reg ?_
          refine wl_mv (.tmp 6) (.slice x.pi x.items.length x.ci) (fun _ => rfl) e70_6 rfl ?_
          refine wl_mv (.tmp 7) (.int .i64 ((j : Nat) : Int)) (fun _ => rfl) rfl rfl ?_
          refine wl_bin (fun x y => Instr.indexAt 39 x y) (.tmp 82) (.tmp 83) (.slice x.pi x.items.length x.ci) (.int .i64 ((j : Nat) : Int)) (pt bq (oq + j * 23)) (fun _ => rfl) rfl rfl (ix39 (i := j) hpq hjl _) rfl ?_
          refine wl_un (fun v => Instr.fieldAt 69 v 1) (.tmp 84) (pt bq (oq + j * 23)) (pt bq (oq + j * 23 + 1)) (fun _ => rfl) rfl (by kernel_rfl) rfl ?_
          refine wl_load 3 (.tmp 85) (pt bq (oq + j * 23 + 1)) (.int .i64 (y.k)) rfl rfl (D.run_oneR (hRq.mo M).at' 3 1 rfl Try.underlying3 rfl) rfl ?_
          refine wl_call 54 [(.tmp 86)] _ [.int .i64 (y.k)] (.bool false) rfl rfl (fun _ _ => by kernel_rfl) (cB hr (can_n y.k _)) rfl ?_
          intro u71 hq
          replace QO := QO.mo hq
          replace hO := hO.mo hq
          replace hM1 := hM1.mo hq
          replace hM2 := hM2.mo hq
          replace hM3 := hM3.mo hq
          replace hV := hV.mo hq
          replace hF := own_mo hF hq
          replace M := M.trans hq
          clear hq
          refine w_nil ?_
          refine xn_then ?_
          refine w_condF rfl ?_
          refine w_skip ?_
          refine xn_blk ?_
          refine xn_then ?_
          refine w_reg ?_
          refine wl_bin (fun x y => do eqGuard .add 3 (.tmp 79) (.const (.int .i64 (1))) x y; binOp .add 3 x y) (.tmp 79) (.const (.int .i64 (1))) (.int .i64 ((j : Nat) : Int)) (.int .i64 (1)) (.int .i64 ((j + 1 : Nat) : Int)) (fun _ => rfl) e70_79 rfl (add1r (k := j) (by omega) _ _ _) rfl ?_
          refine wl_mv (.tmp 106) (.int .i64 ((j + 1 : Nat) : Int)) (fun _ => rfl) rfl rfl ?_
          refine w_nil ?_
          exact xn_loop (x.items.length - (j + 1)) (by omega) ⟨j + 1, ao2, rfl, e70_0, e70_3, e70_18, e70_19, e70_4, e70_6, e70_78, rfl, by omega, hO, hF, hV, hM1, hM2, hM3, hOK.same hyi hr, M⟩
      | false =>
        have hjn : j = x.items.length := by have := of_decide_eq_false hd2; omega
        rw [hjn, ← hit] at hOK
        replace hOK := hOK.next
        refine w_seq ?_
        refine w_reg ?_
        refine wl_bin (fun x y => do eqGuard .lss 3 (.tmp 79) (.tmp 78) x y; binOp .lss 3 x y) (.tmp 79) (.tmp 78) (.int .i64 ((j : Nat) : Int)) (.int .i64 ((x.items.length : Nat) : Int)) (.bool false) (fun _ => rfl) e70_79 e70_78 (ltN hd2 _ _ _) rfl ?_
        refine w_nil ?_
        refine xn_then ?_
        refine w_seq ?_
        refine w_condF rfl ?_
        refine w_exit ?_
        refine xx_then ?_
        refine xx_then ?_
        refine xx_blk ?_
        refine xn_then ?_
        have QO := hO.at
        refine w_reg ?_
        refine wl_mv (.tmp 3) (pt k2 0) (fun _ => rfl) e70_3 rfl ?_
        refine wl_nc (.tmp 107) k2 0 rfl rfl rfl ?_
        refine wl_un (fun v => Instr.fieldAt 95 v 1) (.tmp 108) (pt k2 0) (pt k2 1) (fun _ => rfl) rfl (by kernel_rfl) rfl ?_
        refine wl_load 3 (.tmp 109) (pt k2 1) (.int .i64 ((fsn l i : Nat) : Int)) rfl rfl (run_one QO 3 1 rfl Try.underlying3 rfl) rfl ?_
        refine wl_mv (.tmp 6) (.slice x.pi x.items.length x.ci) (fun _ => rfl) e70_6 rfl ?_
        refine wl_val (.int .i64 ((x.items.length : Nat) : Int)) (len39 _ _ _ _ _ (by exact rfl) _ _ _ _ _ _) rfl ?_
        refine wl_bin (fun x y => do eqGuard .add 3 (.tmp 110) (.tmp 112) x y; binOp .add 3 x y) (.tmp 110) (.tmp 112) (.int .i64 ((fsn l i : Nat) : Int)) (.int .i64 ((x.items.length : Nat) : Int)) (.int .i64 ((fsn l i + x.items.length : Nat) : Int)) (fun _ => rfl) rfl rfl (addN (a := fsn l i) (b := x.items.length) (by omega) _ _ _) rfl ?_
        refine wl_nc (.tmp 107) k2 0 rfl rfl rfl ?_
        refine wl_un (fun v => Instr.fieldAt 95 v 1) (.tmp 114) (pt k2 0) (pt k2 1) (fun _ => rfl) rfl (by kernel_rfl) rfl ?_
        refine wl_stO 3 (.tmp 115) (.tmp 113) k2 1 (.int .i64 ((fsn l i + x.items.length : Nat) : Int)) 95 _ [.slice pl l.length cl, .int .i64 ((fsn l i + x.items.length : Nat) : Int), .slice pf2 (fsI l i ++ [fsn l i]).length cf2, .slice (some ⟨k1, 0, none⟩) l.length l.length, .map (some mb1), .map (some mb2), .map (some mb3), .slice none 0 0] hO rfl rfl rfl rfl rfl sz3 rfl rfl rfl rfl ?_
        intro u71 hK9 hO2
        have hO0 := hO
        replace hF := own_mk hF hK9 (fun k e e2 => by subst e2; have := (own_ty hF e).two hO0.ty; cases this)
        replace hV := hV.kk hK9 (hV.ob.ne hO0 (by decide)) (fun x hx k e e2 => by subst e2; have := (hV.b3 hx e).two hO0.ty; cases this)
        replace hM1 := hM1.mk hK9 (fun e => hM1.nec hO0 e.symm)
        replace hM2 := hM2.mk hK9 (fun e => hM2.nec hO0 e.symm)
        replace hM3 := hM3.mk hK9 (fun e => hM3.nec hO0 e.symm)
        replace M := hK9.mo M (fun k e => e ▸ N_k2)
        clear hO hO0 hK9 QO
        have hO := hO2
        clear hO2
        rw [← hfl, ← fsI_s] at hO
        rw [← fsI_s] at hF hA
        refine w_nil ?_
        refine xn_blk ?_
        refine xn_then ?_
        refine w_reg ?_
        refine wl_bin (fun x y => do eqGuard .add 3 (.tmp 19) (.const (.int .i64 (1))) x y; binOp .add 3 x y) (.tmp 19) (.const (.int .i64 (1))) (.int .i64 ((i : Nat) : Int)) (.int .i64 (1)) (.int .i64 ((i + 1 : Nat) : Int)) (fun _ => rfl) e70_19 rfl (add1r (k := i) (by omega) _ _ _) rfl ?_
        refine wl_mv (.tmp 116) (.int .i64 ((i + 1 : Nat) : Int)) (fun _ => rfl) rfl rfl ?_
        refine w_nil ?_
        exact xn_loop (l.length - (i + 1)) (by omega) ⟨i + 1, kfq an (x.pr, x.nm) (i : Int), ao2, _, pf2, cf2, rfl, e70_0, e70_3, e70_18, rfl, by omega, hO, hF, hV, hA, hM1, hM2, hM3, hVK, hNK.more hx hp, hOK, M⟩
    | false =>
      refine w_seq ?_
      refine w_reg ?_
      refine wl_bin (fun x y => do eqGuard .lss 3 (.tmp 19) (.tmp 18) x y; binOp .lss 3 x y) (.tmp 19) (.tmp 18) (.int .i64 ((i : Nat) : Int)) (.int .i64 ((l.length : Nat) : Int)) (.bool true) (fun _ => rfl) e40_19 e40_18 (ltN hd _ _ _) rfl ?_
      refine w_nil ?_
      refine xn_then ?_
      refine w_seq ?_
      refine w_condT rfl ?_
      refine w_skip ?_
      refine xn_then ?_
      refine w_seq ?_
      refine w_block ?_
      refine w_seq ?_
      refine w_reg ?_
      refine wl_mv (.tmp 19) (.int .i64 ((i : Nat) : Int)) (fun _ => rfl) e40_19 rfl ?_
      refine wl_mv (.tmp 21) (.int .i64 ((i : Nat) : Int)) (fun _ => rfl) rfl rfl ?_
      refine w_nil ?_
      refine xn_then ?_
      refine w_seq ?_
      refine w_reg ?_
      refine wl_mv (.tmp 0) (.slice pl l.length cl) (fun _ => rfl) e40_0 rfl ?_
      refine wl_mv (.tmp 4) (.int .i64 ((i : Nat) : Int)) (fun _ => rfl) rfl rfl ?_
      refine wl_bin (fun x y => Instr.indexAt 22 x y) (.tmp 22) (.tmp 23) (.slice pl l.length cl) (.int .i64 ((i : Nat) : Int)) (pt bp (op + i * 5)) (fun _ => rfl) rfl rfl (ix22 (i := i) hpp hil _) rfl ?_
      refine wl_un (fun v => Instr.fieldAt 55 v 0) (.tmp 24) (pt bp (op + i * 5)) (pt bp (op + i * 5)) (fun _ => rfl) rfl (by kernel_rfl) rfl ?_
      refine wl_load 3 (.tmp 25) (pt bp (op + i * 5)) (.int .i64 (x.pr)) rfl rfl (D.run_oneR (hRp.mo M).at' 3 0 rfl Try.underlying3 rfl) rfl ?_
      refine wl_mv (.tmp 26) (.int .i64 (x.pr)) (fun _ => rfl) rfl rfl ?_
      refine w_nil ?_
      refine xn_then ?_
      refine w_seq ?_
      refine w_seq ?_
      refine w_reg ?_
      refine wl_mv (.tmp 0) (.slice pl l.length cl) (fun _ => rfl) e40_0 rfl ?_
      refine wl_mv (.tmp 5) (.int .i64 (x.pr)) (fun _ => rfl) rfl rfl ?_
      refine wl_call 33 [(.tmp 27), (.tmp 28)] _ [.slice pl l.length cl, .int .i64 (x.pr)] (.bool false) rfl rfl (fun _ _ => by kernel_rfl) (cB hp (has_n pl l.length cl _ _)) rfl ?_
      intro u41 hq
      replace hO := hO.mo hq
      replace hM1 := hM1.mo hq
      replace hM2 := hM2.mo hq
      replace hM3 := hM3.mo hq
      replace hV := hV.mo hq
      replace hF := own_mo hF hq
      replace M := M.trans hq
      clear hq
      refine w_nil ?_
      refine xn_then ?_
      refine w_condF rfl ?_
      refine w_skip ?_
      refine xn_then ?_
      refine w_seq ?_
      have QO := hO.at
      have QO := hO.at
      have hFz : (fsI l i).length < 4000000 := by rw [fsI_len]; omega
      have hsm9 : Smos [vq (pt k2 0), vq (pt k2 0), vq (pt k2 0), vq (pt k2 2), vq (.slice pf (fsI l i).length cf), vq (pt k2 0), vq (pt k2 0), vq (pt k2 1), vq (.int .i64 ((fsn l i : Nat) : Int)), bsq u41 [.int .i64 ((fsn l i : Nat) : Int)], apq u41 w.heap.size 3 1 ic pf cf (fsI l i) (fsn l i)] := smos_cons (smo_vq _) (smos_cons (smo_vq _) (smos_cons (smo_vq _) (smos_cons (smo_vq _) (smos_cons (smo_vq _) (smos_cons (smo_vq _) (smos_cons (smo_vq _) (smos_cons (smo_vq _) (smos_cons (smo_vq _) (smos_cons (smo_bsq _ _) (smos_cons (smo_apq _ _ _ _ _ _ _ _ _) (smos_nil)))))))))))
      refine w_ogl 11 (apG u41 10 pf (fsI l i).length cf) [vq (pt k2 0), vq (pt k2 0), vq (pt k2 0), vq (pt k2 2), vq (.slice pf (fsI l i).length cf), vq (pt k2 0), vq (pt k2 0), vq (pt k2 1), vq (.int .i64 ((fsn l i : Nat) : Int)), bsq u41 [.int .i64 ((fsn l i : Nat) : Int)], apq u41 w.heap.size 3 1 ic pf cf (fsI l i) (fsn l i)] (by kernel_rfl) (by kernel_rfl) (by kernel_rfl) (by kernel_rfl) rfl (fun f => ⟨fun _ => (Mo.refl _).drew, Mk.of _ ((Mo.refl _).drew)⟩) ?_ ?_
      · refine ea_cons ?_ (ea_cons ?_ (ea_cons ?_ (ea_cons ?_ (ea_cons ?_ (ea_cons ?_ (ea_cons ?_ (ea_cons ?_ (ea_cons ?_ (ea_cons ?_ (ea_cons ?_ (ea_nil)))))))))))
        · exact ol_eq (pt k2 0) rfl (apG_mo (by decide)) hsm9 (fun L9 f wf hG9 hd K hK => go_run rfl (wo_mv (.tmp 3) (pt k2 0) (fun _ => rfl) e40_3 (hK _ (Mo.refl _))))
        · exact ol_eq (pt k2 0) rfl (apG_mo (by decide)) hsm9 (fun L9 f wf hG9 hd K hK => go_run rfl (wo_mv (.tmp 3) (pt k2 0) (fun _ => rfl) e40_3 (hK _ (Mo.refl _))))
        · exact ol_eq (pt k2 0) rfl (apG_mo (by decide)) hsm9 (fun L9 f wf hG9 hd K hK => go_run rfl (wo_nc (.tmp 60) k2 0 rfl (hd 1 rfl) (hK _ (Mo.refl _))))
        · exact ol_eq (pt k2 2) rfl (apG_mo (by decide)) hsm9 (fun L9 f wf hG9 hd K hK => go_run rfl (wo_un (fun v => Instr.fieldAt 95 v 2) (.tmp 61) (pt k2 0) (pt k2 2) (fun _ => rfl) (hd 2 rfl) (by kernel_rfl) (hK _ (Mo.refl _))))
        · exact ol_eq (.slice pf (fsI l i).length cf) rfl (apG_mo (by decide)) hsm9 (fun L9 f wf hG9 hd K hK => have QO := hG9.2.at QO (fun e => by have := (own_ty hF e).two hO.ty; cases this); go_run rfl (wo_load 32 (.tmp 62) (pt k2 2) (.slice pf (fsI l i).length cf) rfl (hd 3 rfl) (run_one QO 32 2 rfl Try.underlying32 rfl) (hK _ (Mo.refl _))))
        · exact ol_eq (pt k2 0) rfl (apG_mo (by decide)) hsm9 (fun L9 f wf hG9 hd K hK => go_run rfl (wo_mv (.tmp 3) (pt k2 0) (fun _ => rfl) e40_3 (hK _ (Mo.refl _))))
        · exact ol_eq (pt k2 0) rfl (apG_mo (by decide)) hsm9 (fun L9 f wf hG9 hd K hK => go_run rfl (wo_nc (.tmp 64) k2 0 rfl (hd 5 rfl) (hK _ (Mo.refl _))))
        · exact ol_eq (pt k2 1) rfl (apG_mo (by decide)) hsm9 (fun L9 f wf hG9 hd K hK => go_run rfl (wo_un (fun v => Instr.fieldAt 95 v 1) (.tmp 65) (pt k2 0) (pt k2 1) (fun _ => rfl) (hd 6 rfl) (by kernel_rfl) (hK _ (Mo.refl _))))
        · exact ol_eq (.int .i64 ((fsn l i : Nat) : Int)) rfl (apG_mo (by decide)) hsm9 (fun L9 f wf hG9 hd K hK => have QO := hG9.2.at QO (fun e => by have := (own_ty hF e).two hO.ty; cases this); go_run rfl (wo_load 3 (.tmp 66) (pt k2 1) (.int .i64 ((fsn l i : Nat) : Int)) rfl (hd 7 rfl) (run_one QO 3 1 rfl Try.underlying3 rfl) (hK _ (Mo.refl _))))
        · exact ol_bs [.int .i64 ((fsn l i : Nat) : Int)] rfl (by decide) hsm9 (fun L9 f wf hG9 hd K hK => go_run rfl (wo_bs 32 1 [(0, (.tmp 67))] [(0, .int .i64 ((fsn l i : Nat) : Int))] #[.int .i64 ((fsn l i : Nat) : Int)] 3 rfl (lp1 (hd 8 rfl)) (fun _ => by kernel_rfl) (fun k9 w9 h1 _ h3 h4 => hK k9 w9 h1 h3 h4)))
        · refine ol_ap rfl hF (fun j hj => ?_) ?_
          · match j, hj with
            | 0, _ => exact Or.inl ⟨_, rfl⟩
            | 1, _ => exact Or.inl ⟨_, rfl⟩
            | 2, _ => exact Or.inl ⟨_, rfl⟩
            | 3, _ => exact Or.inl ⟨_, rfl⟩
            | 4, _ => exact Or.inl ⟨_, rfl⟩
            | 5, _ => exact Or.inl ⟨_, rfl⟩
            | 6, _ => exact Or.inl ⟨_, rfl⟩
            | 7, _ => exact Or.inl ⟨_, rfl⟩
            | 8, _ => exact Or.inl ⟨_, rfl⟩
            | 9, _ => exact Or.inr (Or.inl ⟨_, rfl⟩)
            | 10, hj => exact absurd rfl hj
            | j + 11, _ => exact Or.inr (Or.inr rfl)
          · intro f wf hmo hd K hK
            obtain ⟨kb9, hb1, hb2, hb3⟩ := hd 9 rfl
            exact go_run rfl (wo_apG Try.underlying32 inf3 rfl (by decide) (by decide) (.tmp 63) (.tmp 68) kb9 rfl (hd 4 rfl) hb1 (own_mo hF hmo) rfl (by simp [Value.oneCell']) hb3 hFz (Nat.le_trans M.size hmo.size) hK)
      intro L9 f u42 hall9 hG9 hR9
      obtain ⟨pf2, cf2, hap1, hW2, hap2⟩ := hR9 10 rfl
      have hK9 := hG9.2
      have er0 := hR9 0 rfl
      have er1 := hR9 1 rfl
      have er2 := hR9 2 rfl
      have er3 := hR9 3 rfl
      have er4 := hR9 4 rfl
      have er5 := hR9 5 rfl
      have er6 := hR9 6 rfl
      have er7 := hR9 7 rfl
      have er8 := hR9 8 rfl
      clear hall9 hG9 hR9 hsm9
      have hA2 := hA.app hV hap2
      clear QO
      replace hO := hO.mk hK9 (fun e => by have := (own_ty hF e).two hO.ty; cases this)
      replace hV := hV.kk hK9 (fun e => by have := (own_ty hF e).two hV.ob.ty; cases this) (fun x hx k e h => hA x hx k e h)
      replace hM1 := hM1.mk hK9 (fun e => hM1.nty (own_ty hF e) rfl)
      replace hM2 := hM2.mk hK9 (fun e => hM2.nty (own_ty hF e) rfl)
      replace hM3 := hM3.mk hK9 (fun e => hM3.nty (own_ty hF e) rfl)
      replace M := own_gap hF hK9 (Nat.le_refl _) M
      clear hA hF hK9 hap2
      have hA := hA2
      clear hA2
      have hF := hW2
      clear hW2
      have QO := hO.at
      refine wl_nc (.tmp 59) k2 0 rfl er0 rfl ?_
      refine wl_un (fun v => Instr.fieldAt 95 v 2) (.tmp 70) (pt k2 0) (pt k2 2) (fun _ => rfl) rfl (by kernel_rfl) rfl ?_
      refine wl_stO 32 (.tmp 71) (.tmp 69) k2 2 (.slice pf2 ((fsI l i) ++ [(fsn l i)]).length cf2) 95 _ [.slice pl l.length cl, .int .i64 ((fsn l i : Nat) : Int), .slice pf2 (fsI l i ++ [fsn l i]).length cf2, .slice (some ⟨k1, 0, none⟩) l.length l.length, .map (some mb1), .map (some mb2), .map (some mb3), .slice none 0 0] hO rfl rfl rfl hap1 rfl sz32 rfl rfl rfl rfl ?_
      intro u43 hK9 hO2
      have hO0 := hO
      replace hF := own_mk hF hK9 (fun k e e2 => by subst e2; have := (own_ty hF e).two hO0.ty; cases this)
      replace hV := hV.kk hK9 (hV.ob.ne hO0 (by decide)) (fun x hx k e e2 => by subst e2; have := (hV.b3 hx e).two hO0.ty; cases this)
      replace hM1 := hM1.mk hK9 (fun e => hM1.nec hO0 e.symm)
      replace hM2 := hM2.mk hK9 (fun e => hM2.nec hO0 e.symm)
      replace hM3 := hM3.mk hK9 (fun e => hM3.nec hO0 e.symm)
      replace M := hK9.mo M (fun k e => e ▸ N_k2)
      clear hO hO0 hK9 QO
      have hO := hO2
      clear hO2
      refine w_nil ?_
      refine xn_then ?_
      refine w_seq ?_
      refine w_reg ?_
      refine wl_mv (.tmp 0) (.slice pl l.length cl) (fun _ => rfl) e40_0 rfl ?_
      refine wl_mv (.tmp 4) (.int .i64 ((i : Nat) : Int)) (fun _ => rfl) rfl rfl ?_
      refine wl_bin (fun x y => Instr.indexAt 22 x y) (.tmp 72) (.tmp 73) (.slice pl l.length cl) (.int .i64 ((i : Nat) : Int)) (pt bp (op + i * 5)) (fun _ => rfl) rfl rfl (ix22 (i := i) hpp hil _) rfl ?_
      refine wl_un (fun v => Instr.fieldAt 55 v 4) (.tmp 74) (pt bp (op + i * 5)) (pt bp (op + i * 5 + 4)) (fun _ => rfl) rfl (by kernel_rfl) rfl ?_
      refine wl_load 39 (.tmp 75) (pt bp (op + i * 5 + 4)) (.slice x.pi x.items.length x.ci) rfl rfl (D.run_oneR (hRp.mo M).at' 39 4 rfl Try.underlying39 rfl) rfl ?_
      refine wl_mv (.tmp 76) (.slice x.pi x.items.length x.ci) (fun _ => rfl) rfl rfl ?_
      refine w_nil ?_
      refine xn_then ?_
      refine w_seq ?_
      refine w_seq ?_
      refine w_reg ?_
      refine wl_mv (.tmp 6) (.slice x.pi x.items.length x.ci) (fun _ => rfl) rfl rfl ?_
      refine wl_val (.int .i64 ((x.items.length : Nat) : Int)) (len39 _ _ _ _ _ (by exact rfl) _ _ _ _ _ _) rfl ?_
      refine wl_mv (.const (.int .i64 (0))) (.int .i64 (0)) (fun _ => rfl) rfl rfl ?_
      refine w_nil ?_
      refine xn_then ?_
      refine w_block ?_
      have hLi := (hLx x (List.mem_of_getElem? hx)).it
      refine w_loop (fun m lf w1 => ∃ j : Nat, ∃ ao2 : List (Spo × Int), m = x.items.length - j ∧ look lf 0 = .slice pl l.length cl ∧ look lf 3 = pt k2 0 ∧ look lf 18 = .int .i64 ((l.length : Nat) : Int) ∧ look lf 19 = .int .i64 ((i : Nat) : Int) ∧ look lf 4 = .int .i64 ((i : Nat) : Int) ∧ look lf 6 = .slice x.pi x.items.length x.ci ∧ look lf 78 = .int .i64 ((x.items.length : Nat) : Int) ∧ look lf 79 = .int .i64 ((j : Nat) : Int) ∧ (j ≤ x.items.length) ∧ (Ob w1 k2 95 [.slice pl l.length cl, .int .i64 ((fsn l i : Nat) : Int), .slice pf2 (fsI l i ++ [fsn l i]).length cf2, .slice (some ⟨k1, 0, none⟩) l.length l.length, .map (some mb1), .map (some mb2), .map (some mb3), .slice none 0 0]) ∧ (Ow w.heap.size 3 1 ic w1 pf2 cf2 (fsI l i ++ [fsn l i])) ∧ (Vs w.heap.size w1 k1 V) ∧ (Mp es w1 mb1 an) ∧ (Mp es w1 mb2 ao2) ∧ (Mp Value.string w1 mb3 []) ∧ (OK2 l i j ao2) ∧ (Mo w w1)) _ ⟨0, ao, rfl, e40_0, e40_3, e40_18, e40_19, rfl, rfl, rfl, rfl, Nat.zero_le _, hO, hF, hV, hM1, hM2, hM3, hOK, M⟩ ?_
      clear hO hF hV hM1 hM2 hM3 hOK M
      rintro m lf70 wl70 ⟨j, ao2, rfl, e70_0, e70_3, e70_18, e70_19, e70_4, e70_6, e70_78, e70_79, hj, hO, hF, hV, hM1, hM2, hM3, hOK, M⟩
      cases hd2 : decide (j < x.items.length) with
      | true =>
        have hjl := of_decide_eq_true hd2
        obtain ⟨y, hy⟩ := get_of_lt hjl
        have hyi : (itn l i)[j]? = some y := by rw [hit]; exact hy
        have hfj := fsn_lt hx hjl
        obtain ⟨bq, oq, hpq, hRq⟩ := D.SL.rw hLi hy
        cases hr : rdb y.k with
        | true =>
          refine w_seq ?_
          refine w_reg ?_
          refine wl_bin (fun x y => do eqGuard .lss 3 (.tmp 79) (.tmp 78) x y; binOp .lss 3 x y) (.tmp 79) (.tmp 78) (.int .i64 ((j : Nat) : Int)) (.int .i64 ((x.items.length : Nat) : Int)) (.bool true) (fun _ => rfl) e70_79 e70_78 (ltN hd2 _ _ _) rfl ?_
          refine w_nil ?_
          refine xn_then ?_
          refine w_seq ?_
          refine w_condT rfl ?_
          refine w_skip ?_
          refine xn_then ?_
          refine w_seq ?_
          refine w_block ?_
          refine w_seq ?_
          refine w_reg ?_
          refine wl_mv (.tmp 79) (.int .i64 ((j : Nat) : Int)) (fun _ => rfl) e70_79 rfl ?_
          refine wl_mv (.tmp 81) (.int .i64 ((j : Nat) : Int)) (fun _ => rfl) rfl rfl ?_
          refine w_nil ?_
          refine xn_then ?_
          refine w_seq ?_
          have QO := hO.at
          refine w_reg ?_
          refine wl_mv (.tmp 6) (.slice x.pi x.items.length x.ci) (fun _ => rfl) e70_6 rfl ?_
          refine wl_mv (.tmp 7) (.int .i64 ((j : Nat) : Int)) (fun _ => rfl) rfl rfl ?_
          refine wl_bin (fun x y => Instr.indexAt 39 x y) (.tmp 82) (.tmp 83) (.slice x.pi x.items.length x.ci) (.int .i64 ((j : Nat) : Int)) (pt bq (oq + j * 23)) (fun _ => rfl) rfl rfl (ix39 (i := j) hpq hjl _) rfl ?_
          refine wl_un (fun v => Instr.fieldAt 69 v 1) (.tmp 84) (pt bq (oq + j * 23)) (pt bq (oq + j * 23 + 1)) (fun _ => rfl) rfl (by kernel_rfl) rfl ?_
          refine wl_load 3 (.tmp 85) (pt bq (oq + j * 23 + 1)) (.int .i64 (y.k)) rfl rfl (D.run_oneR (hRq.mo M).at' 3 1 rfl Try.underlying3 rfl) rfl ?_
          refine wl_call 54 [(.tmp 86)] _ [.int .i64 (y.k)] (.bool true) rfl rfl (fun _ _ => by kernel_rfl) (cB hr (can_n y.k _)) rfl ?_
          intro u71 hq
          replace QO := QO.mo hq
          replace hO := hO.mo hq
          replace hM1 := hM1.mo hq
          replace hM2 := hM2.mo hq
          replace hM3 := hM3.mo hq
          replace hV := hV.mo hq
          replace hF := own_mo hF hq
          replace M := M.trans hq
          clear hq
          refine w_nil ?_
          refine xn_then ?_
          refine w_condT rfl ?_
          have QO := hO.at
          refine w_any 17 [.inl (pt k2 0), .inl (pt k2 0), .inl (pt k2 5), .inl (.map (some mb2)), .inl (.int .i64 ((i : Nat) : Int)), .inl (.slice x.pi x.items.length x.ci), .inl (.int .i64 ((j : Nat) : Int)), .inl (pt bq (oq + j * 23)), .inl (pt bq (oq + j * 23)), .inl (.string y.nm), .inl (.agg #[.int .i64 ((i : Nat) : Int), .string y.nm]), .inl (pt k2 0), .inl (pt k2 0), .inl (pt k2 1), .inl (.int .i64 ((fsn l i : Nat) : Int)), .inl (.int .i64 ((j : Nat) : Int)), .inl (.int .i64 ((fsn l i + j : Nat) : Int))] [] (by kernel_rfl) (by kernel_rfl) (by kernel_rfl) (by kernel_rfl) rfl (by kernel_rfl) (by kernel_rfl) late_nil ?_ ?_ ?_
          · exact Ds.none rfl
          · refine ea_cons ?_ (ea_cons ?_ (ea_cons ?_ (ea_cons ?_ (ea_cons ?_ (ea_cons ?_ (ea_cons ?_ (ea_cons ?_ (ea_cons ?_ (ea_cons ?_ (ea_cons ?_ (ea_cons ?_ (ea_cons ?_ (ea_cons ?_ (ea_cons ?_ (ea_cons ?_ (ea_cons ?_ (ea_nil)))))))))))))))))
            · exact og_eq (pt k2 0) rfl (fun f wf hq hd K hK => go_run rfl (wo_mv (.tmp 3) (pt k2 0) (fun _ => rfl) e70_3 (hK _ (Mo.refl _))))
            · exact og_eq (pt k2 0) rfl (fun f wf hq hd K hK => go_run rfl (wo_nc (.tmp 88) k2 0 rfl (hd 0 rfl) (hK _ (Mo.refl _))))
            · exact og_eq (pt k2 5) rfl (fun f wf hq hd K hK => go_run rfl (wo_un (fun v => Instr.fieldAt 95 v 5) (.tmp 89) (pt k2 0) (pt k2 5) (fun _ => rfl) (hd 1 rfl) (by kernel_rfl) (hK _ (Mo.refl _))))
            · exact og_eq (.map (some mb2)) rfl (fun f wf hq hd K hK => have QO := QO.mo hq; go_run rfl (wo_load 91 (.tmp 90) (pt k2 5) (.map (some mb2)) rfl (hd 2 rfl) (run_one QO 91 5 rfl Try.underlying91 rfl) (hK _ (Mo.refl _))))
            · exact og_eq (.int .i64 ((i : Nat) : Int)) rfl (fun f wf hq hd K hK => go_run rfl (wo_mv (.tmp 4) (.int .i64 ((i : Nat) : Int)) (fun _ => rfl) e70_4 (hK _ (Mo.refl _))))
            · exact og_eq (.slice x.pi x.items.length x.ci) rfl (fun f wf hq hd K hK => go_run rfl (wo_mv (.tmp 6) (.slice x.pi x.items.length x.ci) (fun _ => rfl) e70_6 (hK _ (Mo.refl _))))
            · exact og_eq (.int .i64 ((j : Nat) : Int)) rfl (fun f wf hq hd K hK => go_run rfl (wo_mv (.tmp 7) (.int .i64 ((j : Nat) : Int)) (fun _ => rfl) rfl (hK _ (Mo.refl _))))
            · exact og_eq (pt bq (oq + j * 23)) rfl (fun f wf hq hd K hK => go_run rfl (wo_bin (fun x y => Instr.indexAt 39 x y) (.tmp 93) (.tmp 94) (.slice x.pi x.items.length x.ci) (.int .i64 ((j : Nat) : Int)) (pt bq (oq + j * 23)) (fun _ => rfl) (hd 5 rfl) (hd 6 rfl) (ix39 (i := j) hpq hjl _) (hK _ (Mo.refl _))))
            · exact og_eq (pt bq (oq + j * 23)) rfl (fun f wf hq hd K hK => go_run rfl (wo_un (fun v => Instr.fieldAt 69 v 0) (.tmp 95) (pt bq (oq + j * 23)) (pt bq (oq + j * 23)) (fun _ => rfl) (hd 7 rfl) (by kernel_rfl) (hK _ (Mo.refl _))))
            · exact og_eq (.string y.nm) rfl (fun f wf hq hd K hK => go_run rfl (wo_load 9 (.tmp 96) (pt bq (oq + j * 23)) (.string y.nm) rfl (hd 8 rfl) (D.run_oneR (hRq.mo (M.trans hq)).at' 9 0 rfl Try.underlying9 rfl) (hK _ (Mo.refl _))))
            · exact og_eq (.agg #[.int .i64 ((i : Nat) : Int), .string y.nm]) rfl (fun f wf hq hd K hK => go_run rfl (wo_build 98 [(0, (.tmp 92)), (1, (.tmp 97))] [(0, .int .i64 ((i : Nat) : Int)), (1, .string y.nm)] (.agg #[.int .i64 ((i : Nat) : Int), .string y.nm]) rfl (lp2 (hd 4 rfl) (hd 9 rfl)) (by kernel_rfl) (hK _ (Mo.refl _))))
            · exact og_eq (pt k2 0) rfl (fun f wf hq hd K hK => go_run rfl (wo_mv (.tmp 3) (pt k2 0) (fun _ => rfl) e70_3 (hK _ (Mo.refl _))))
            · exact og_eq (pt k2 0) rfl (fun f wf hq hd K hK => go_run rfl (wo_nc (.tmp 99) k2 0 rfl (hd 11 rfl) (hK _ (Mo.refl _))))
            · exact og_eq (pt k2 1) rfl (fun f wf hq hd K hK => go_run rfl (wo_un (fun v => Instr.fieldAt 95 v 1) (.tmp 100) (pt k2 0) (pt k2 1) (fun _ => rfl) (hd 12 rfl) (by kernel_rfl) (hK _ (Mo.refl _))))
            · exact og_eq (.int .i64 ((fsn l i : Nat) : Int)) rfl (fun f wf hq hd K hK => have QO := QO.mo hq; go_run rfl (wo_load 3 (.tmp 101) (pt k2 1) (.int .i64 ((fsn l i : Nat) : Int)) rfl (hd 13 rfl) (run_one QO 3 1 rfl Try.underlying3 rfl) (hK _ (Mo.refl _))))
            · exact og_eq (.int .i64 ((j : Nat) : Int)) rfl (fun f wf hq hd K hK => go_run rfl (wo_mv (.tmp 7) (.int .i64 ((j : Nat) : Int)) (fun _ => rfl) rfl (hK _ (Mo.refl _))))
            · exact og_eq (.int .i64 ((fsn l i + j : Nat) : Int)) rfl (fun f wf hq hd K hK => go_run rfl (wo_bin (fun x y => do eqGuard .add 3 (.tmp 102) (.tmp 103) x y; binOp .add 3 x y) (.tmp 102) (.tmp 103) (.int .i64 ((fsn l i : Nat) : Int)) (.int .i64 ((j : Nat) : Int)) (.int .i64 ((fsn l i + j : Nat) : Int)) (fun _ => rfl) (hd 14 rfl) (hd 15 rfl) (addN (a := fsn l i) (b := j) (by omega) _ _ _) (hK _ (Mo.refl _))))
          intro kf72 u72 hq hR hne
          replace QO := QO.mo hq
          replace hO := hO.mo hq
          replace hM1 := hM1.mo hq
          replace hM2 := hM2.mo hq
          replace hM3 := hM3.mo hq
          replace hV := hV.mo hq
          replace hF := own_mo hF hq
          replace M := M.trans hq
          clear hq hR hne
          refine wl_callx 53 [(.tmp 91), (.tmp 98), (.tmp 104)] _ [.map (some mb2), .agg #[.int .i64 ((i : Nat) : Int), .string y.nm], .int .i64 ((fsn l i + j : Nat) : Int)] rfl rfl (fun _ _ => by kernel_rfl) (keep_n hM2 ((i : Int), y.nm) ((fsn l i + j : Nat) : Int)) rfl ?_
          rintro e9 u73 ⟨rfl, hN9, hK9⟩
          refine ⟨_, rfl, ?_⟩
          have hM20 := hM2
          replace hO := hO.mk hK9 (hM20.nec hO)
          replace hF := own_mk hF hK9 (fun k e h => hM20.nty (own_ty hF e) h)
          replace hV := hV.kk hK9 (hM20.nec hV.ob) (fun x hx k e h => hM20.nty (hV.b3 hx e) h)
          replace hM1 := hM1.mk hK9 nm_mb1_mb2
          replace hM3 := hM3.mk hK9 nm_mb2_mb3.symm
          replace M := hK9.mo M (fun k e => e ▸ N_mb2)
          clear hM2 QO
          have hM2 := hN9
          clear hM20 hN9 hK9
          refine w_nil ?_
          refine xn_blk ?_
          refine xn_then ?_
          refine w_reg ?_
          refine wl_bin (fun x y => do eqGuard .add 3 (.tmp 79) (.const (.int .i64 (1))) x y; binOp .add 3 x y) (.tmp 79) (.const (.int .i64 (1))) (.int .i64 ((j : Nat) : Int)) (.int .i64 (1)) (.int .i64 ((j + 1 : Nat) : Int)) (fun _ => rfl) e70_79 rfl (add1r (k := j) (by omega) _ _ _) rfl ?_
          refine wl_mv (.tmp 106) (.int .i64 ((j + 1 : Nat) : Int)) (fun _ => rfl) rfl rfl ?_
          refine w_nil ?_
          exact xn_loop (x.items.length - (j + 1)) (by omega) ⟨j + 1, kfq ao2 ((i : Int), y.nm) ((fsn l i + j : Nat) : Int), rfl, e70_0, e70_3, e70_18, e70_19, e70_4, e70_6, e70_78, rfl, by omega, hO, hF, hV, hM1, hM2, hM3, hOK.more hyi hr, M⟩
        | false =>
          refine w_seq ?_
          refine w_reg ?_
          refine wl_bin (fun x y => do eqGuard .lss 3 (.tmp 79) (.tmp 78) x y; binOp .lss 3 x y) (.tmp 79) (.tmp 78) (.int .i64 ((j : Nat) : Int)) (.int .i64 ((x.items.length : Nat) : Int)) (.bool true) (fun _ => rfl) e70_79 e70_78 (ltN hd2 _ _ _) rfl ?_
          refine w_nil ?_
          refine xn_then ?_
          refine w_seq ?_
          refine w_condT rfl ?_
          refine w_skip ?_
          refine xn_then ?_
          refine w_seq ?_
          refine w_block ?_
          refine w_seq ?_
          refine w_reg ?_
          refine wl_mv (.tmp 79) (.int .i64 ((j : Nat) : Int)) (fun _ => rfl) e70_79 rfl ?_
          refine wl_mv (.tmp 81) (.int .i64 ((j : Nat) : Int)) (fun _ => rfl) rfl rfl ?_
          refine w_nil ?_
          refine xn_then ?_
          refine w_seq ?_
          have QO := hO.at
          refine w_reg ?_
          refine wl_mv (.tmp 6) (.slice x.pi x.items.length x.ci) (fun _ => rfl) e70_6 rfl ?_
          refine wl_mv (.tmp 7) (.int .i64 ((j : Nat) : Int)) (fun _ => rfl) rfl rfl ?_
          refine wl_bin (fun x y => Instr.indexAt 39 x y) (.tmp 82) (.tmp 83) (.slice x.pi x.items.length x.ci) (.int .i64 ((j : Nat) : Int)) (pt bq (oq + j * 23)) (fun _ => rfl) rfl rfl (ix39 (i := j) hpq hjl _) rfl ?_
          refine wl_un (fun v => Instr.fieldAt 69 v 1) (.tmp 84) (pt bq (oq + j * 23)) (pt bq (oq + j * 23 + 1)) (fun _ => rfl) rfl (by kernel_rfl) rfl ?_
          refine wl_load 3 (.tmp 85) (pt bq (oq + j * 23 + 1)) (.int .i64 (y.k)) rfl rfl (D.run_oneR (hRq.mo M).at' 3 1 rfl Try.underlying3 rfl) rfl ?_
          refine wl_call 54 [(.tmp 86)] _ [.int .i64 (y.k)] (.bool false) rfl rfl (fun _ _ => by kernel_rfl) (cB hr (can_n y.k _)) rfl ?_
          intro u71 hq
          replace QO := QO.mo hq
          replace hO := hO.mo hq
          replace hM1 := hM1.mo hq
          replace hM2 := hM2.mo hq
          replace hM3 := hM3.mo hq
          replace hV := hV.mo hq
          replace hF := own_mo hF hq
          replace M := M.trans hq
          clear hq
          refine w_nil ?_
          refine xn_then ?_
          refine w_condF rfl ?_
          refine w_skip ?_
          refine xn_blk ?_
          refine xn_then ?_
          refine w_reg ?_
          refine wl_bin (fun x y => do eqGuard .add 3 (.tmp 79) (.const (.int .i64 (1))) x y; binOp .add 3 x y) (.tmp 79) (.const (.int .i64 (1))) (.int .i64 ((j : Nat) : Int)) (.int .i64 (1)) (.int .i64 ((j + 1 : Nat) : Int)) (fun _ => rfl) e70_79 rfl (add1r (k := j) (by omega) _ _ _) rfl ?_
          refine wl_mv (.tmp 106) (.int .i64 ((j + 1 : Nat) : Int)) (fun _ => rfl) rfl rfl ?_
          refine w_nil ?_
          exact xn_loop (x.items.length - (j + 1)) (by omega) ⟨j + 1, ao2, rfl, e70_0, e70_3, e70_18, e70_19, e70_4, e70_6, e70_78, rfl, by omega, hO, hF, hV, hM1, hM2, hM3, hOK.same hyi hr, M⟩
      | false =>
        have hjn : j = x.items.length := by have := of_decide_eq_false hd2; omega
        rw [hjn, ← hit] at hOK
        replace hOK := hOK.next
        refine w_seq ?_
        refine w_reg ?_
        refine wl_bin (fun x y => do eqGuard .lss 3 (.tmp 79) (.tmp 78) x y; binOp .lss 3 x y) (.tmp 79) (.tmp 78) (.int .i64 ((j : Nat) : Int)) (.int .i64 ((x.items.length : Nat) : Int)) (.bool false) (fun _ => rfl) e70_79 e70_78 (ltN hd2 _ _ _) rfl ?_
        refine w_nil ?_
        refine xn_then ?_
        refine w_seq ?_
        refine w_condF rfl ?_
        refine w_exit ?_
        refine xx_then ?_
        refine xx_then ?_
        refine xx_blk ?_
        refine xn_then ?_
        have QO := hO.at
        refine w_reg ?_
        refine wl_mv (.tmp 3) (pt k2 0) (fun _ => rfl) e70_3 rfl ?_
        refine wl_nc (.tmp 107) k2 0 rfl rfl rfl ?_
        refine wl_un (fun v => Instr.fieldAt 95 v 1) (.tmp 108) (pt k2 0) (pt k2 1) (fun _ => rfl) rfl (by kernel_rfl) rfl ?_
        refine wl_load 3 (.tmp 109) (pt k2 1) (.int .i64 ((fsn l i : Nat) : Int)) rfl rfl (run_one QO 3 1 rfl Try.underlying3 rfl) rfl ?_
        refine wl_mv (.tmp 6) (.slice x.pi x.items.length x.ci) (fun _ => rfl) e70_6 rfl ?_
        refine wl_val (.int .i64 ((x.items.length : Nat) : Int)) (len39 _ _ _ _ _ (by exact rfl) _ _ _ _ _ _) rfl ?_
        refine wl_bin (fun x y => do eqGuard .add 3 (.tmp 110) (.tmp 112) x y; binOp .add 3 x y) (.tmp 110) (.tmp 112) (.int .i64 ((fsn l i : Nat) : Int)) (.int .i64 ((x.items.length : Nat) : Int)) (.int .i64 ((fsn l i + x.items.length : Nat) : Int)) (fun _ => rfl) rfl rfl (addN (a := fsn l i) (b := x.items.length) (by omega) _ _ _) rfl ?_
        refine wl_nc (.tmp 107) k2 0 rfl rfl rfl ?_
        refine wl_un (fun v => Instr.fieldAt 95 v 1) (.tmp 114) (pt k2 0) (pt k2 1) (fun _ => rfl) rfl (by kernel_rfl) rfl ?_
        refine wl_stO 3 (.tmp 115) (.tmp 113) k2 1 (.int .i64 ((fsn l i + x.items.length : Nat) : Int)) 95 _ [.slice pl l.length cl, .int .i64 ((fsn l i + x.items.length : Nat) : Int), .slice pf2 (fsI l i ++ [fsn l i]).length cf2, .slice (some ⟨k1, 0, none⟩) l.length l.length, .map (some mb1), .map (some mb2), .map (some mb3), .slice none 0 0] hO rfl rfl rfl rfl rfl sz3 rfl rfl rfl rfl ?_
        intro u71 hK9 hO2
        have hO0 := hO
        replace hF := own_mk hF hK9 (fun k e e2 => by subst e2; have := (own_ty hF e).two hO0.ty; cases this)
        replace hV := hV.kk hK9 (hV.ob.ne hO0 (by decide)) (fun x hx k e e2 => by subst e2; have := (hV.b3 hx e).two hO0.ty; cases this)
        replace hM1 := hM1.mk hK9 (fun e => hM1.nec hO0 e.symm)
        replace hM2 := hM2.mk hK9 (fun e => hM2.nec hO0 e.symm)
        replace hM3 := hM3.mk hK9 (fun e => hM3.nec hO0 e.symm)
        replace M := hK9.mo M (fun k e => e ▸ N_k2)
        clear hO hO0 hK9 QO
        have hO := hO2
        clear hO2
        rw [← hfl, ← fsI_s] at hO
        rw [← fsI_s] at hF hA
        refine w_nil ?_
        refine xn_blk ?_
        refine xn_then ?_
        refine w_reg ?_
        refine wl_bin (fun x y => do eqGuard .add 3 (.tmp 19) (.const (.int .i64 (1))) x y; binOp .add 3 x y) (.tmp 19) (.const (.int .i64 (1))) (.int .i64 ((i : Nat) : Int)) (.int .i64 (1)) (.int .i64 ((i + 1 : Nat) : Int)) (fun _ => rfl) e70_19 rfl (add1r (k := i) (by omega) _ _ _) rfl ?_
        refine wl_mv (.tmp 116) (.int .i64 ((i + 1 : Nat) : Int)) (fun _ => rfl) rfl rfl ?_
        refine w_nil ?_
        exact xn_loop (l.length - (i + 1)) (by omega) ⟨i + 1, an, ao2, V, pf2, cf2, rfl, e70_0, e70_3, e70_18, rfl, by omega, hO, hF, hV, hA, hM1, hM2, hM3, hVK.same (by rw [par_eq hx]; exact hp), hNK.same hx hp, hOK, M⟩
  | false =>
    have hin : i = l.length := by have := of_decide_eq_false hd; omega
    rw [hin] at hO hF hVK hNK hOK
    refine w_seq ?_
    refine w_reg ?_
    refine wl_bin (fun x y => do eqGuard .lss 3 (.tmp 19) (.tmp 18) x y; binOp .lss 3 x y) (.tmp 19) (.tmp 18) (.int .i64 ((i : Nat) : Int)) (.int .i64 ((l.length : Nat) : Int)) (.bool false) (fun _ => rfl) e40_19 e40_18 (ltN hd _ _ _) rfl ?_
    refine w_nil ?_
    refine xn_then ?_
    refine w_seq ?_
    refine w_condF rfl ?_
    refine w_exit ?_
    refine xx_then ?_
    refine xx_then ?_
    refine xx_blk ?_
    refine xn_then ?_
    refine w_seq ?_
    refine w_reg ?_
    refine wl_mv (.tmp 3) (pt k2 0) (fun _ => rfl) e40_3 rfl ?_
    refine wl_mv (.tmp 117) (pt k2 0) (fun _ => rfl) rfl rfl ?_
    refine w_nil ?_
    refine xn_then ?_
    refine w_ret ?_
    exact w_ret1 _ (pt k2 0) rfl rfl ⟨⟨k2, pl, cl, pf, cf, some ⟨k1, 0, none⟩, l.length, V, mb1, mb2, mb3, w.heap.size⟩, rfl, ⟨⟨(fsI_all l ▸ Li.own hF (by simp [fsI, maxLen]; omega)), hV.sl (by have := hVK.len; unfold maxLen; omega), fun a e => by cases e; exact hV.ob.ty, fun x hx => Li.own (hV.ow x hx) (by have := VK.bd hVK hx; unfold maxLen; omega), hVK, ⟨an, hM1, hNK.all⟩, ⟨ao, hM2, hOK.all⟩⟩, ⟨.slice none 0 0, (by rw [fsI_len] at hO; exact hO), Ow.nil _ _ _ _ _⟩, ⟨[], hM3, fun _ => rfl⟩, nm_mb1_mb3, nm_mb2_mb3, N_k2, N_mb3⟩, rfl, rfl, rfl, M⟩
end Go.Proofs.Ythghblgbjgghcaa
