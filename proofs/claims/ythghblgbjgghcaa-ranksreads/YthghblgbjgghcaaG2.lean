/-
  What a name means, which column is read, what a node reads.
-/
import Derived.Test.YthghblgbjgghcaaPa
namespace Go.Proofs.Ythghblgbjgghcaa
open Go.RowKit D
section
variable {l : List S5} {A : Ra} {w : World} {F : Fn} {hid : List (ByteArray × Int)}
theorem find_w {hv : Value} {am : List (ByteArray × Int)} (hO : Ob w A.r 95 (A.cells l hv)) (hm1 : Mp Value.string w A.mb am) (hm2 : ∀ nm, (lkq am nm).getD (-1) = F nm) (nm : ByteArray) : Calls Try.prog 56 #[pt A.r 0, .string nm] w fun e w' => e = .returned (.int .i64 (F nm)) ∧ Mo w w' := by
  have QR := hO.at
  refine w_enter 18 Try.func56 Try.ntmps56 rfl rfl ?_
  have M : Mo w w := Mo.refl _
  refine w_seq ?_
  refine w_reg ?_
  refine wl_mv (.const (.int .i64 (0))) (.int .i64 (0)) (fun _ => rfl) rfl rfl ?_
  refine w_nil ?_
  refine xn_then ?_
  refine w_seq ?_
  refine w_seq ?_
  refine w_reg ?_
  refine wl_mv (.tmp 0) (pt A.r 0) (fun _ => rfl) rfl rfl ?_
  refine wl_nc (.tmp 8) A.r 0 rfl rfl rfl ?_
  refine wl_un (fun v => Instr.fieldAt 95 v 6) (.tmp 9) (pt A.r 0) (pt A.r 6) (fun _ => rfl) rfl (by kernel_rfl) rfl ?_
  refine wl_load 92 (.tmp 10) (pt A.r 6) (.map (some A.mb)) rfl rfl (run_one QR 92 6 rfl Try.underlying92 rfl) rfl ?_
  refine wl_mv (.tmp 1) (.string nm) (fun _ => rfl) rfl rfl ?_
  cases hf0 : (lkq am nm).isSome with
  | true =>
    refine wl_val (.tuple #[.int .i64 ((lkq am nm).getD 0), .bool true]) (lkp 92 (.tmp 11) (.tmp 12) true (.map (some A.mb)) (.string nm) (.tuple #[.int .i64 ((lkq am nm).getD 0), .bool true]) rfl rfl rfl ((hm1.mo M).looks kt9 Try.underlying92 nm hf0)) rfl ?_
    refine wl_mv (.tmp 13) (.tuple #[.int .i64 ((lkq am nm).getD 0), .bool true]) (fun _ => rfl) rfl rfl ?_
    refine wl_un (fun v => Instr.extract v 0) (.tmp 7) (.tuple #[.int .i64 ((lkq am nm).getD 0), .bool true]) (.int .i64 ((lkq am nm).getD 0)) (fun _ => rfl) rfl (by kernel_rfl) rfl ?_
    refine wl_un (fun v => Instr.extract v 1) (.tmp 7) (.tuple #[.int .i64 ((lkq am nm).getD 0), .bool true]) (.bool true) (fun _ => rfl) rfl (by kernel_rfl) rfl ?_
    refine wl_mv (.tmp 14) (.int .i64 ((lkq am nm).getD 0)) (fun _ => rfl) rfl rfl ?_
    refine wl_mv (.tmp 15) (.bool true) (fun _ => rfl) rfl rfl ?_
    refine w_nil ?_
    refine xn_then ?_
    refine w_seq ?_
    refine w_reg ?_
    refine wl_mv (.tmp 6) (.bool true) (fun _ => rfl) rfl rfl ?_
    refine w_nil ?_
    refine xn_then ?_
    refine w_condT rfl ?_
    refine w_seq ?_
    refine w_reg ?_
    refine wl_mv (.tmp 5) (.int .i64 ((lkq am nm).getD 0)) (fun _ => rfl) rfl rfl ?_
    refine wl_mv (.tmp 17) (.int .i64 ((lkq am nm).getD 0)) (fun _ => rfl) rfl rfl ?_
    refine w_nil ?_
    refine xn_then ?_
    refine w_ret ?_
    refine xr_then ?_
    exact w_ret1 _ (.int .i64 ((lkq am nm).getD 0)) rfl rfl ⟨by have h := hm2 nm; obtain ⟨z, hz⟩ := Option.isSome_iff_exists.1 hf0; rw [hz] at h ⊢; rw [← h]; rfl, M⟩
  | false =>
    refine wl_val (.tuple #[.int .i64 ((lkq am nm).getD 0), .bool false]) (lkp 92 (.tmp 11) (.tmp 12) true (.map (some A.mb)) (.string nm) (.tuple #[.int .i64 ((lkq am nm).getD 0), .bool false]) rfl rfl rfl ((hm1.mo M).looks kt9 Try.underlying92 nm hf0)) rfl ?_
    refine wl_mv (.tmp 13) (.tuple #[.int .i64 ((lkq am nm).getD 0), .bool false]) (fun _ => rfl) rfl rfl ?_
    refine wl_un (fun v => Instr.extract v 0) (.tmp 7) (.tuple #[.int .i64 ((lkq am nm).getD 0), .bool false]) (.int .i64 ((lkq am nm).getD 0)) (fun _ => rfl) rfl (by kernel_rfl) rfl ?_
    refine wl_un (fun v => Instr.extract v 1) (.tmp 7) (.tuple #[.int .i64 ((lkq am nm).getD 0), .bool false]) (.bool false) (fun _ => rfl) rfl (by kernel_rfl) rfl ?_
    refine wl_mv (.tmp 14) (.int .i64 ((lkq am nm).getD 0)) (fun _ => rfl) rfl rfl ?_
    refine wl_mv (.tmp 15) (.bool false) (fun _ => rfl) rfl rfl ?_
    refine w_nil ?_
    refine xn_then ?_
    refine w_seq ?_
    refine w_reg ?_
    refine wl_mv (.tmp 6) (.bool false) (fun _ => rfl) rfl rfl ?_
    refine w_nil ?_
    refine xn_then ?_
    refine w_condF rfl ?_
    refine w_skip ?_
    refine xn_then ?_
    refine w_seq ?_
    refine w_reg ?_
    refine wl_mv (.const (.int .i64 (-1))) (.int .i64 (-1)) (fun _ => rfl) rfl rfl ?_
    refine w_nil ?_
    refine xn_then ?_
    refine w_ret ?_
    exact w_ret1 _ (.int .i64 (-1)) rfl rfl ⟨by have h := hm2 nm; rw [Option.isSome_eq_false_iff, Option.isNone_iff_eq_none] at hf0; rw [hf0] at h; rw [← h]; rfl, M⟩
theorem find_n (hR : Rdr l A w F hid) (nm : ByteArray) : Calls Try.prog 56 #[pt A.r 0, .string nm] w fun e w' => e = .returned (.int .i64 (F nm)) ∧ Mo w w' := by
  obtain ⟨hv, hO, hown⟩ := hR.rc
  obtain ⟨am, hm1, hm2⟩ := hR.mt
  obtain ⟨an, hn1, hn2⟩ := hR.st.nm
  obtain ⟨ao, ho1, ho2⟩ := hR.st.ow
  have QR := hO.at
  refine w_enter 18 Try.func56 Try.ntmps56 rfl rfl ?_
  have M : Mo w w := Mo.refl _
  refine w_seq ?_
  refine w_reg ?_
  refine wl_mv (.const (.int .i64 (0))) (.int .i64 (0)) (fun _ => rfl) rfl rfl ?_
  refine w_nil ?_
  refine xn_then ?_
  refine w_seq ?_
  refine w_seq ?_
  refine w_reg ?_
  refine wl_mv (.tmp 0) (pt A.r 0) (fun _ => rfl) rfl rfl ?_
  refine wl_nc (.tmp 8) A.r 0 rfl rfl rfl ?_
  refine wl_un (fun v => Instr.fieldAt 95 v 6) (.tmp 9) (pt A.r 0) (pt A.r 6) (fun _ => rfl) rfl (by kernel_rfl) rfl ?_
  refine wl_load 92 (.tmp 10) (pt A.r 6) (.map (some A.mb)) rfl rfl (run_one QR 92 6 rfl Try.underlying92 rfl) rfl ?_
  refine wl_mv (.tmp 1) (.string nm) (fun _ => rfl) rfl rfl ?_
  cases hf0 : (lkq am nm).isSome with
  | true =>
    refine wl_val (.tuple #[.int .i64 ((lkq am nm).getD 0), .bool true]) (lkp 92 (.tmp 11) (.tmp 12) true (.map (some A.mb)) (.string nm) (.tuple #[.int .i64 ((lkq am nm).getD 0), .bool true]) rfl rfl rfl ((hm1.mo M).looks kt9 Try.underlying92 nm hf0)) rfl ?_
    refine wl_mv (.tmp 13) (.tuple #[.int .i64 ((lkq am nm).getD 0), .bool true]) (fun _ => rfl) rfl rfl ?_
    refine wl_un (fun v => Instr.extract v 0) (.tmp 7) (.tuple #[.int .i64 ((lkq am nm).getD 0), .bool true]) (.int .i64 ((lkq am nm).getD 0)) (fun _ => rfl) rfl (by kernel_rfl) rfl ?_
    refine wl_un (fun v => Instr.extract v 1) (.tmp 7) (.tuple #[.int .i64 ((lkq am nm).getD 0), .bool true]) (.bool true) (fun _ => rfl) rfl (by kernel_rfl) rfl ?_
    refine wl_mv (.tmp 14) (.int .i64 ((lkq am nm).getD 0)) (fun _ => rfl) rfl rfl ?_
    refine wl_mv (.tmp 15) (.bool true) (fun _ => rfl) rfl rfl ?_
    refine w_nil ?_
    refine xn_then ?_
    refine w_seq ?_
    refine w_reg ?_
    refine wl_mv (.tmp 6) (.bool true) (fun _ => rfl) rfl rfl ?_
    refine w_nil ?_
    refine xn_then ?_
    refine w_condT rfl ?_
    refine w_seq ?_
    refine w_reg ?_
    refine wl_mv (.tmp 5) (.int .i64 ((lkq am nm).getD 0)) (fun _ => rfl) rfl rfl ?_
    refine wl_mv (.tmp 17) (.int .i64 ((lkq am nm).getD 0)) (fun _ => rfl) rfl rfl ?_
    refine w_nil ?_
    refine xn_then ?_
    refine w_ret ?_
    refine xr_then ?_
    exact w_ret1 _ (.int .i64 ((lkq am nm).getD 0)) rfl rfl ⟨by have h := hm2 nm; obtain ⟨z, hz⟩ := Option.isSome_iff_exists.1 hf0; rw [hz] at h ⊢; rw [← h]; rfl, M⟩
  | false =>
    refine wl_val (.tuple #[.int .i64 ((lkq am nm).getD 0), .bool false]) (lkp 92 (.tmp 11) (.tmp 12) true (.map (some A.mb)) (.string nm) (.tuple #[.int .i64 ((lkq am nm).getD 0), .bool false]) rfl rfl rfl ((hm1.mo M).looks kt9 Try.underlying92 nm hf0)) rfl ?_
    refine wl_mv (.tmp 13) (.tuple #[.int .i64 ((lkq am nm).getD 0), .bool false]) (fun _ => rfl) rfl rfl ?_
    refine wl_un (fun v => Instr.extract v 0) (.tmp 7) (.tuple #[.int .i64 ((lkq am nm).getD 0), .bool false]) (.int .i64 ((lkq am nm).getD 0)) (fun _ => rfl) rfl (by kernel_rfl) rfl ?_
    refine wl_un (fun v => Instr.extract v 1) (.tmp 7) (.tuple #[.int .i64 ((lkq am nm).getD 0), .bool false]) (.bool false) (fun _ => rfl) rfl (by kernel_rfl) rfl ?_
    refine wl_mv (.tmp 14) (.int .i64 ((lkq am nm).getD 0)) (fun _ => rfl) rfl rfl ?_
    refine wl_mv (.tmp 15) (.bool false) (fun _ => rfl) rfl rfl ?_
    refine w_nil ?_
    refine xn_then ?_
    refine w_seq ?_
    refine w_reg ?_
    refine wl_mv (.tmp 6) (.bool false) (fun _ => rfl) rfl rfl ?_
    refine w_nil ?_
    refine xn_then ?_
    refine w_condF rfl ?_
    refine w_skip ?_
    refine xn_then ?_
    refine w_seq ?_
    refine w_reg ?_
    refine wl_mv (.const (.int .i64 (-1))) (.int .i64 (-1)) (fun _ => rfl) rfl rfl ?_
    refine w_nil ?_
    refine xn_then ?_
    refine w_ret ?_
    exact w_ret1 _ (.int .i64 (-1)) rfl rfl ⟨by have h := hm2 nm; rw [Option.isSome_eq_false_iff, Option.isNone_iff_eq_none] at hf0; rw [hf0] at h; rw [← h]; rfl, M⟩
theorem col_no {l : List S5} {an : List (Spo × Int)} {s : Int} {se nm : ByteArray} (h : lkq an (s, se) = (kidN l s se).map Int.ofNat) (hf : (lkq an (s, se)).isSome = false) : col l s se nm = -1 := by
  rw [h] at hf; unfold col
  cases e : kidN l s se with
  | none => rfl
  | some k => rw [e] at hf; cases hf
theorem col_y {l : List S5} {an ao : List (Spo × Int)} {s : Int} {se nm : ByteArray} (h : lkq an (s, se) = (kidN l s se).map Int.ofNat) (hf : (lkq an (s, se)).isSome = true) (h2 : ∀ (s : Nat) nm, lkq ao ((s : Int), nm) = (ownN l s nm).map Int.ofNat) :
    ((lkq ao ((lkq an (s, se)).getD 0, nm)).isSome = true → (lkq ao ((lkq an (s, se)).getD 0, nm)).getD 0 = col l s se nm) ∧ ((lkq ao ((lkq an (s, se)).getD 0, nm)).isSome = false → col l s se nm = -1) := by
  rw [h] at hf ⊢; unfold col
  cases e : kidN l s se with
  | none => rw [e] at hf; cases hf
  | some k =>
    have e2 : lkq ao (((Option.map Int.ofNat (some k)).getD 0), nm) = (ownN l k nm).map Int.ofNat := h2 k nm
    rw [e2]
    cases e3 : ownN l k nm with
    | none => exact ⟨fun q => (by cases q), fun _ => by simp [e3]⟩
    | some j => exact ⟨fun _ => by simp [e3], fun q => (by cases q)⟩
theorem column_n (hR : Rdr l A w F hid) {w0 : World} (hK : Kp w0 w) (s : Int) {b o : Nat} {x : Ex} (hX : Rw w0 b o x.cells) : Calls Try.prog 71 #[pt A.r 0, .int .i64 s, pt b o] w fun e w' => e = .returned (.int .i64 (col l s x.se x.nm)) ∧ Mo w w' := by
  replace hX := hX.kp hK
  obtain ⟨hv, hO, hown⟩ := hR.rc
  obtain ⟨am, hm1, hm2⟩ := hR.mt
  obtain ⟨an, hn1, hn2⟩ := hR.st.nm
  obtain ⟨ao, ho1, ho2⟩ := hR.st.ow
  have QR := hO.at
  refine w_enter 42 Try.func71 Try.ntmps71 rfl rfl ?_
  have M : Mo w w := Mo.refl _
  refine w_seq ?_
  refine w_reg ?_
  refine wl_mv (.const (.int .i64 (0))) (.int .i64 (0)) (fun _ => rfl) rfl rfl ?_
  refine w_nil ?_
  refine xn_then ?_
  refine w_seq ?_
  refine w_seq ?_
  cases hf0 : (lkq an ((s), x.se)).isSome with
  | true =>
    refine w_any 15 [.inl (pt A.r 0), .inl (pt A.r 0), .inl (pt A.r 4), .inl (.map (some A.nb)), .inl (.int .i64 (s)), .inl (pt b (o)), .inl (pt b (o)), .inl (pt b (o + 3)), .inl (.string x.se), .inl (.agg #[.int .i64 (s), .string x.se]), .inl (.tuple #[.int .i64 ((lkq an ((s), x.se)).getD 0), .bool true]), .inl (.tuple #[.int .i64 ((lkq an ((s), x.se)).getD 0), .bool true]), .inl (.int .i64 ((lkq an ((s), x.se)).getD 0)), .inl (.bool true), .inl (.int .i64 ((lkq an ((s), x.se)).getD 0))] [] (by kernel_rfl) (by kernel_rfl) (by kernel_rfl) (by kernel_rfl) rfl (by kernel_rfl) (by kernel_rfl) late_nil ?_ ?_ ?_
    · exact Ds.none rfl
    · refine ea_cons ?_ (ea_cons ?_ (ea_cons ?_ (ea_cons ?_ (ea_cons ?_ (ea_cons ?_ (ea_cons ?_ (ea_cons ?_ (ea_cons ?_ (ea_cons ?_ (ea_cons ?_ (ea_cons ?_ (ea_cons ?_ (ea_cons ?_ (ea_cons ?_ (ea_nil)))))))))))))))
      · exact og_eq (pt A.r 0) rfl (fun f wf hq hd K hK => go_run rfl (wo_mv (.tmp 0) (pt A.r 0) (fun _ => rfl) rfl (hK _ (Mo.refl _))))
      · exact og_eq (pt A.r 0) rfl (fun f wf hq hd K hK => go_run rfl (wo_nc (.tmp 12) A.r 0 rfl (hd 0 rfl) (hK _ (Mo.refl _))))
      · exact og_eq (pt A.r 4) rfl (fun f wf hq hd K hK => go_run rfl (wo_un (fun v => Instr.fieldAt 95 v 4) (.tmp 13) (pt A.r 0) (pt A.r 4) (fun _ => rfl) (hd 1 rfl) (by kernel_rfl) (hK _ (Mo.refl _))))
      · exact og_eq (.map (some A.nb)) rfl (fun f wf hq hd K hK => have QR := QR.mo hq; go_run rfl (wo_load 91 (.tmp 14) (pt A.r 4) (.map (some A.nb)) rfl (hd 2 rfl) (run_one QR 91 4 rfl Try.underlying91 rfl) (hK _ (Mo.refl _))))
      · exact og_eq (.int .i64 (s)) rfl (fun f wf hq hd K hK => go_run rfl (wo_mv (.tmp 1) (.int .i64 (s)) (fun _ => rfl) rfl (hK _ (Mo.refl _))))
      · exact og_eq (pt b (o)) rfl (fun f wf hq hd K hK => go_run rfl (wo_mv (.tmp 2) (pt b (o)) (fun _ => rfl) rfl (hK _ (Mo.refl _))))
      · exact og_eq (pt b (o)) rfl (fun f wf hq hd K hK => go_run rfl (wo_nc (.tmp 17) b (o) rfl (hd 5 rfl) (hK _ (Mo.refl _))))
      · exact og_eq (pt b (o + 3)) rfl (fun f wf hq hd K hK => go_run rfl (wo_un (fun v => Instr.fieldAt 67 v 3) (.tmp 18) (pt b (o)) (pt b (o + 3)) (fun _ => rfl) (hd 6 rfl) (by kernel_rfl) (hK _ (Mo.refl _))))
      · exact og_eq (.string x.se) rfl (fun f wf hq hd K hK => go_run rfl (wo_load 9 (.tmp 19) (pt b (o + 3)) (.string x.se) rfl (hd 7 rfl) (D.run_oneR (hX.mo (M.trans hq)).at' 9 3 rfl Try.underlying9 rfl) (hK _ (Mo.refl _))))
      · exact og_eq (.agg #[.int .i64 (s), .string x.se]) rfl (fun f wf hq hd K hK => go_run rfl (wo_build 98 [(0, (.tmp 16)), (1, (.tmp 20))] [(0, .int .i64 (s)), (1, .string x.se)] (.agg #[.int .i64 (s), .string x.se]) rfl (lp2 (hd 4 rfl) (hd 8 rfl)) (by kernel_rfl) (hK _ (Mo.refl _))))
      · exact og_eq (.tuple #[.int .i64 ((lkq an ((s), x.se)).getD 0), .bool true]) rfl (fun f wf hq hd K hK => go_run rfl (wo_val (.tuple #[.int .i64 ((lkq an ((s), x.se)).getD 0), .bool true]) (lkp 91 (.tmp 15) (.tmp 21) true (.map (some A.nb)) (.agg #[.int .i64 (s), .string x.se]) (.tuple #[.int .i64 ((lkq an ((s), x.se)).getD 0), .bool true]) rfl (hd 3 rfl) (hd 9 rfl) ((hn1.mo (M.trans hq)).looks kt98 Try.underlying91 ((s), x.se) hf0)) (hK _ (Mo.refl _))))
      · exact og_eq (.tuple #[.int .i64 ((lkq an ((s), x.se)).getD 0), .bool true]) rfl (fun f wf hq hd K hK => go_run rfl (wo_mv (.tmp 22) (.tuple #[.int .i64 ((lkq an ((s), x.se)).getD 0), .bool true]) (fun _ => rfl) (hd 10 rfl) (hK _ (Mo.refl _))))
      · exact og_eq (.int .i64 ((lkq an ((s), x.se)).getD 0)) rfl (fun f wf hq hd K hK => go_run rfl (wo_un (fun v => Instr.extract v 0) (.tmp 11) (.tuple #[.int .i64 ((lkq an ((s), x.se)).getD 0), .bool true]) (.int .i64 ((lkq an ((s), x.se)).getD 0)) (fun _ => rfl) (hd 11 rfl) (by kernel_rfl) (hK _ (Mo.refl _))))
      · exact og_eq (.bool true) rfl (fun f wf hq hd K hK => go_run rfl (wo_un (fun v => Instr.extract v 1) (.tmp 11) (.tuple #[.int .i64 ((lkq an ((s), x.se)).getD 0), .bool true]) (.bool true) (fun _ => rfl) (hd 11 rfl) (by kernel_rfl) (hK _ (Mo.refl _))))
      · exact og_eq (.int .i64 ((lkq an ((s), x.se)).getD 0)) rfl (fun f wf hq hd K hK => go_run rfl (wo_mv (.tmp 23) (.int .i64 ((lkq an ((s), x.se)).getD 0)) (fun _ => rfl) (hd 12 rfl) (hK _ (Mo.refl _))))
    intro kf1 u1 hq hR hne
    replace QR := QR.mo hq
    replace M := M.trans hq
    clear hq hR hne
    refine wl_mv (.tmp 24) (.bool true) (fun _ => rfl) rfl rfl ?_
    refine w_nil ?_
    refine xn_then ?_
    refine w_seq ?_
    refine w_reg ?_
    refine wl_mv (.tmp 8) (.bool true) (fun _ => rfl) rfl rfl ?_
    refine w_nil ?_
    refine xn_then ?_
    refine w_condT rfl ?_
    refine w_seq ?_
    cases hf1 : (lkq ao (((lkq an ((s), x.se)).getD 0), x.nm)).isSome with
    | true =>
      refine w_any 15 [.inl (pt A.r 0), .inl (pt A.r 0), .inl (pt A.r 5), .inl (.map (some A.ob)), .inl (.int .i64 ((lkq an ((s), x.se)).getD 0)), .inl (pt b (o)), .inl (pt b (o)), .inl (pt b (o + 2)), .inl (.string x.nm), .inl (.agg #[.int .i64 ((lkq an ((s), x.se)).getD 0), .string x.nm]), .inl (.tuple #[.int .i64 ((lkq ao (((lkq an ((s), x.se)).getD 0), x.nm)).getD 0), .bool true]), .inl (.tuple #[.int .i64 ((lkq ao (((lkq an ((s), x.se)).getD 0), x.nm)).getD 0), .bool true]), .inl (.int .i64 ((lkq ao (((lkq an ((s), x.se)).getD 0), x.nm)).getD 0)), .inl (.bool true), .inl (.int .i64 ((lkq ao (((lkq an ((s), x.se)).getD 0), x.nm)).getD 0))] [] (by kernel_rfl) (by kernel_rfl) (by kernel_rfl) (by kernel_rfl) rfl (by kernel_rfl) (by kernel_rfl) late_nil ?_ ?_ ?_
      · exact Ds.none rfl
      · refine ea_cons ?_ (ea_cons ?_ (ea_cons ?_ (ea_cons ?_ (ea_cons ?_ (ea_cons ?_ (ea_cons ?_ (ea_cons ?_ (ea_cons ?_ (ea_cons ?_ (ea_cons ?_ (ea_cons ?_ (ea_cons ?_ (ea_cons ?_ (ea_cons ?_ (ea_nil)))))))))))))))
        · exact og_eq (pt A.r 0) rfl (fun f wf hq hd K hK => go_run rfl (wo_mv (.tmp 0) (pt A.r 0) (fun _ => rfl) rfl (hK _ (Mo.refl _))))
        · exact og_eq (pt A.r 0) rfl (fun f wf hq hd K hK => go_run rfl (wo_nc (.tmp 27) A.r 0 rfl (hd 0 rfl) (hK _ (Mo.refl _))))
        · exact og_eq (pt A.r 5) rfl (fun f wf hq hd K hK => go_run rfl (wo_un (fun v => Instr.fieldAt 95 v 5) (.tmp 28) (pt A.r 0) (pt A.r 5) (fun _ => rfl) (hd 1 rfl) (by kernel_rfl) (hK _ (Mo.refl _))))
        · exact og_eq (.map (some A.ob)) rfl (fun f wf hq hd K hK => have QR := QR.mo hq; go_run rfl (wo_load 91 (.tmp 29) (pt A.r 5) (.map (some A.ob)) rfl (hd 2 rfl) (run_one QR 91 5 rfl Try.underlying91 rfl) (hK _ (Mo.refl _))))
        · exact og_eq (.int .i64 ((lkq an ((s), x.se)).getD 0)) rfl (fun f wf hq hd K hK => go_run rfl (wo_mv (.tmp 7) (.int .i64 ((lkq an ((s), x.se)).getD 0)) (fun _ => rfl) rfl (hK _ (Mo.refl _))))
        · exact og_eq (pt b (o)) rfl (fun f wf hq hd K hK => go_run rfl (wo_mv (.tmp 2) (pt b (o)) (fun _ => rfl) rfl (hK _ (Mo.refl _))))
        · exact og_eq (pt b (o)) rfl (fun f wf hq hd K hK => go_run rfl (wo_nc (.tmp 32) b (o) rfl (hd 5 rfl) (hK _ (Mo.refl _))))
        · exact og_eq (pt b (o + 2)) rfl (fun f wf hq hd K hK => go_run rfl (wo_un (fun v => Instr.fieldAt 67 v 2) (.tmp 33) (pt b (o)) (pt b (o + 2)) (fun _ => rfl) (hd 6 rfl) (by kernel_rfl) (hK _ (Mo.refl _))))
        · exact og_eq (.string x.nm) rfl (fun f wf hq hd K hK => go_run rfl (wo_load 9 (.tmp 34) (pt b (o + 2)) (.string x.nm) rfl (hd 7 rfl) (D.run_oneR (hX.mo (M.trans hq)).at' 9 2 rfl Try.underlying9 rfl) (hK _ (Mo.refl _))))
        · exact og_eq (.agg #[.int .i64 ((lkq an ((s), x.se)).getD 0), .string x.nm]) rfl (fun f wf hq hd K hK => go_run rfl (wo_build 98 [(0, (.tmp 31)), (1, (.tmp 35))] [(0, .int .i64 ((lkq an ((s), x.se)).getD 0)), (1, .string x.nm)] (.agg #[.int .i64 ((lkq an ((s), x.se)).getD 0), .string x.nm]) rfl (lp2 (hd 4 rfl) (hd 8 rfl)) (by kernel_rfl) (hK _ (Mo.refl _))))
        · exact og_eq (.tuple #[.int .i64 ((lkq ao (((lkq an ((s), x.se)).getD 0), x.nm)).getD 0), .bool true]) rfl (fun f wf hq hd K hK => go_run rfl (wo_val (.tuple #[.int .i64 ((lkq ao (((lkq an ((s), x.se)).getD 0), x.nm)).getD 0), .bool true]) (lkp 91 (.tmp 30) (.tmp 36) true (.map (some A.ob)) (.agg #[.int .i64 ((lkq an ((s), x.se)).getD 0), .string x.nm]) (.tuple #[.int .i64 ((lkq ao (((lkq an ((s), x.se)).getD 0), x.nm)).getD 0), .bool true]) rfl (hd 3 rfl) (hd 9 rfl) ((ho1.mo (M.trans hq)).looks kt98 Try.underlying91 (((lkq an ((s), x.se)).getD 0), x.nm) hf1)) (hK _ (Mo.refl _))))
        · exact og_eq (.tuple #[.int .i64 ((lkq ao (((lkq an ((s), x.se)).getD 0), x.nm)).getD 0), .bool true]) rfl (fun f wf hq hd K hK => go_run rfl (wo_mv (.tmp 37) (.tuple #[.int .i64 ((lkq ao (((lkq an ((s), x.se)).getD 0), x.nm)).getD 0), .bool true]) (fun _ => rfl) (hd 10 rfl) (hK _ (Mo.refl _))))
        · exact og_eq (.int .i64 ((lkq ao (((lkq an ((s), x.se)).getD 0), x.nm)).getD 0)) rfl (fun f wf hq hd K hK => go_run rfl (wo_un (fun v => Instr.extract v 0) (.tmp 26) (.tuple #[.int .i64 ((lkq ao (((lkq an ((s), x.se)).getD 0), x.nm)).getD 0), .bool true]) (.int .i64 ((lkq ao (((lkq an ((s), x.se)).getD 0), x.nm)).getD 0)) (fun _ => rfl) (hd 11 rfl) (by kernel_rfl) (hK _ (Mo.refl _))))
        · exact og_eq (.bool true) rfl (fun f wf hq hd K hK => go_run rfl (wo_un (fun v => Instr.extract v 1) (.tmp 26) (.tuple #[.int .i64 ((lkq ao (((lkq an ((s), x.se)).getD 0), x.nm)).getD 0), .bool true]) (.bool true) (fun _ => rfl) (hd 11 rfl) (by kernel_rfl) (hK _ (Mo.refl _))))
        · exact og_eq (.int .i64 ((lkq ao (((lkq an ((s), x.se)).getD 0), x.nm)).getD 0)) rfl (fun f wf hq hd K hK => go_run rfl (wo_mv (.tmp 38) (.int .i64 ((lkq ao (((lkq an ((s), x.se)).getD 0), x.nm)).getD 0)) (fun _ => rfl) (hd 12 rfl) (hK _ (Mo.refl _))))
      intro kf2 u2 hq hR hne
      replace QR := QR.mo hq
      replace M := M.trans hq
      clear hq hR hne
      refine wl_mv (.tmp 39) (.bool true) (fun _ => rfl) rfl rfl ?_
      refine w_nil ?_
      refine xn_then ?_
      refine w_seq ?_
      refine w_reg ?_
      refine wl_mv (.tmp 10) (.bool true) (fun _ => rfl) rfl rfl ?_
      refine w_nil ?_
      refine xn_then ?_
      refine w_condT rfl ?_
      refine w_seq ?_
      refine w_reg ?_
      refine wl_mv (.tmp 9) (.int .i64 ((lkq ao (((lkq an ((s), x.se)).getD 0), x.nm)).getD 0)) (fun _ => rfl) rfl rfl ?_
      refine wl_mv (.tmp 41) (.int .i64 ((lkq ao (((lkq an ((s), x.se)).getD 0), x.nm)).getD 0)) (fun _ => rfl) rfl rfl ?_
      refine w_nil ?_
      refine xn_then ?_
      refine w_ret ?_
      refine xr_then ?_
      exact w_ret1 _ (.int .i64 ((lkq ao (((lkq an ((s), x.se)).getD 0), x.nm)).getD 0)) rfl rfl ⟨by rw [(col_y (hn2 s x.se) hf0 ho2).1 hf1], M⟩
    | false =>
      refine w_any 15 [.inl (pt A.r 0), .inl (pt A.r 0), .inl (pt A.r 5), .inl (.map (some A.ob)), .inl (.int .i64 ((lkq an ((s), x.se)).getD 0)), .inl (pt b (o)), .inl (pt b (o)), .inl (pt b (o + 2)), .inl (.string x.nm), .inl (.agg #[.int .i64 ((lkq an ((s), x.se)).getD 0), .string x.nm]), .inl (.tuple #[.int .i64 ((lkq ao (((lkq an ((s), x.se)).getD 0), x.nm)).getD 0), .bool false]), .inl (.tuple #[.int .i64 ((lkq ao (((lkq an ((s), x.se)).getD 0), x.nm)).getD 0), .bool false]), .inl (.int .i64 ((lkq ao (((lkq an ((s), x.se)).getD 0), x.nm)).getD 0)), .inl (.bool false), .inl (.int .i64 ((lkq ao (((lkq an ((s), x.se)).getD 0), x.nm)).getD 0))] [] (by kernel_rfl) (by kernel_rfl) (by kernel_rfl) (by kernel_rfl) rfl (by kernel_rfl) (by kernel_rfl) late_nil ?_ ?_ ?_
      · exact Ds.none rfl
      · refine ea_cons ?_ (ea_cons ?_ (ea_cons ?_ (ea_cons ?_ (ea_cons ?_ (ea_cons ?_ (ea_cons ?_ (ea_cons ?_ (ea_cons ?_ (ea_cons ?_ (ea_cons ?_ (ea_cons ?_ (ea_cons ?_ (ea_cons ?_ (ea_cons ?_ (ea_nil)))))))))))))))
        · exact og_eq (pt A.r 0) rfl (fun f wf hq hd K hK => go_run rfl (wo_mv (.tmp 0) (pt A.r 0) (fun _ => rfl) rfl (hK _ (Mo.refl _))))
        · exact og_eq (pt A.r 0) rfl (fun f wf hq hd K hK => go_run rfl (wo_nc (.tmp 27) A.r 0 rfl (hd 0 rfl) (hK _ (Mo.refl _))))
        · exact og_eq (pt A.r 5) rfl (fun f wf hq hd K hK => go_run rfl (wo_un (fun v => Instr.fieldAt 95 v 5) (.tmp 28) (pt A.r 0) (pt A.r 5) (fun _ => rfl) (hd 1 rfl) (by kernel_rfl) (hK _ (Mo.refl _))))
        · exact og_eq (.map (some A.ob)) rfl (fun f wf hq hd K hK => have QR := QR.mo hq; go_run rfl (wo_load 91 (.tmp 29) (pt A.r 5) (.map (some A.ob)) rfl (hd 2 rfl) (run_one QR 91 5 rfl Try.underlying91 rfl) (hK _ (Mo.refl _))))
        · exact og_eq (.int .i64 ((lkq an ((s), x.se)).getD 0)) rfl (fun f wf hq hd K hK => go_run rfl (wo_mv (.tmp 7) (.int .i64 ((lkq an ((s), x.se)).getD 0)) (fun _ => rfl) rfl (hK _ (Mo.refl _))))
        · exact og_eq (pt b (o)) rfl (fun f wf hq hd K hK => go_run rfl (wo_mv (.tmp 2) (pt b (o)) (fun _ => rfl) rfl (hK _ (Mo.refl _))))
        · exact og_eq (pt b (o)) rfl (fun f wf hq hd K hK => go_run rfl (wo_nc (.tmp 32) b (o) rfl (hd 5 rfl) (hK _ (Mo.refl _))))
        · exact og_eq (pt b (o + 2)) rfl (fun f wf hq hd K hK => go_run rfl (wo_un (fun v => Instr.fieldAt 67 v 2) (.tmp 33) (pt b (o)) (pt b (o + 2)) (fun _ => rfl) (hd 6 rfl) (by kernel_rfl) (hK _ (Mo.refl _))))
        · exact og_eq (.string x.nm) rfl (fun f wf hq hd K hK => go_run rfl (wo_load 9 (.tmp 34) (pt b (o + 2)) (.string x.nm) rfl (hd 7 rfl) (D.run_oneR (hX.mo (M.trans hq)).at' 9 2 rfl Try.underlying9 rfl) (hK _ (Mo.refl _))))
        · exact og_eq (.agg #[.int .i64 ((lkq an ((s), x.se)).getD 0), .string x.nm]) rfl (fun f wf hq hd K hK => go_run rfl (wo_build 98 [(0, (.tmp 31)), (1, (.tmp 35))] [(0, .int .i64 ((lkq an ((s), x.se)).getD 0)), (1, .string x.nm)] (.agg #[.int .i64 ((lkq an ((s), x.se)).getD 0), .string x.nm]) rfl (lp2 (hd 4 rfl) (hd 8 rfl)) (by kernel_rfl) (hK _ (Mo.refl _))))
        · exact og_eq (.tuple #[.int .i64 ((lkq ao (((lkq an ((s), x.se)).getD 0), x.nm)).getD 0), .bool false]) rfl (fun f wf hq hd K hK => go_run rfl (wo_val (.tuple #[.int .i64 ((lkq ao (((lkq an ((s), x.se)).getD 0), x.nm)).getD 0), .bool false]) (lkp 91 (.tmp 30) (.tmp 36) true (.map (some A.ob)) (.agg #[.int .i64 ((lkq an ((s), x.se)).getD 0), .string x.nm]) (.tuple #[.int .i64 ((lkq ao (((lkq an ((s), x.se)).getD 0), x.nm)).getD 0), .bool false]) rfl (hd 3 rfl) (hd 9 rfl) ((ho1.mo (M.trans hq)).looks kt98 Try.underlying91 (((lkq an ((s), x.se)).getD 0), x.nm) hf1)) (hK _ (Mo.refl _))))
        · exact og_eq (.tuple #[.int .i64 ((lkq ao (((lkq an ((s), x.se)).getD 0), x.nm)).getD 0), .bool false]) rfl (fun f wf hq hd K hK => go_run rfl (wo_mv (.tmp 37) (.tuple #[.int .i64 ((lkq ao (((lkq an ((s), x.se)).getD 0), x.nm)).getD 0), .bool false]) (fun _ => rfl) (hd 10 rfl) (hK _ (Mo.refl _))))
        · exact og_eq (.int .i64 ((lkq ao (((lkq an ((s), x.se)).getD 0), x.nm)).getD 0)) rfl (fun f wf hq hd K hK => go_run rfl (wo_un (fun v => Instr.extract v 0) (.tmp 26) (.tuple #[.int .i64 ((lkq ao (((lkq an ((s), x.se)).getD 0), x.nm)).getD 0), .bool false]) (.int .i64 ((lkq ao (((lkq an ((s), x.se)).getD 0), x.nm)).getD 0)) (fun _ => rfl) (hd 11 rfl) (by kernel_rfl) (hK _ (Mo.refl _))))
        · exact og_eq (.bool false) rfl (fun f wf hq hd K hK => go_run rfl (wo_un (fun v => Instr.extract v 1) (.tmp 26) (.tuple #[.int .i64 ((lkq ao (((lkq an ((s), x.se)).getD 0), x.nm)).getD 0), .bool false]) (.bool false) (fun _ => rfl) (hd 11 rfl) (by kernel_rfl) (hK _ (Mo.refl _))))
        · exact og_eq (.int .i64 ((lkq ao (((lkq an ((s), x.se)).getD 0), x.nm)).getD 0)) rfl (fun f wf hq hd K hK => go_run rfl (wo_mv (.tmp 38) (.int .i64 ((lkq ao (((lkq an ((s), x.se)).getD 0), x.nm)).getD 0)) (fun _ => rfl) (hd 12 rfl) (hK _ (Mo.refl _))))
      intro kf2 u2 hq hR hne
      replace QR := QR.mo hq
      replace M := M.trans hq
      clear hq hR hne
      refine wl_mv (.tmp 39) (.bool false) (fun _ => rfl) rfl rfl ?_
      refine w_nil ?_
      refine xn_then ?_
      refine w_seq ?_
      refine w_reg ?_
      refine wl_mv (.tmp 10) (.bool false) (fun _ => rfl) rfl rfl ?_
      refine w_nil ?_
      refine xn_then ?_
      refine w_condF rfl ?_
      refine w_skip ?_
      refine xn_then ?_
      refine w_seq ?_
      refine w_reg ?_
      refine wl_mv (.const (.int .i64 (-1))) (.int .i64 (-1)) (fun _ => rfl) rfl rfl ?_
      refine w_nil ?_
      refine xn_then ?_
      refine w_ret ?_
      exact w_ret1 _ (.int .i64 (-1)) rfl rfl ⟨by rw [(col_y (hn2 s x.se) hf0 ho2).2 hf1], M⟩
  | false =>
    refine w_any 15 [.inl (pt A.r 0), .inl (pt A.r 0), .inl (pt A.r 4), .inl (.map (some A.nb)), .inl (.int .i64 (s)), .inl (pt b (o)), .inl (pt b (o)), .inl (pt b (o + 3)), .inl (.string x.se), .inl (.agg #[.int .i64 (s), .string x.se]), .inl (.tuple #[.int .i64 ((lkq an ((s), x.se)).getD 0), .bool false]), .inl (.tuple #[.int .i64 ((lkq an ((s), x.se)).getD 0), .bool false]), .inl (.int .i64 ((lkq an ((s), x.se)).getD 0)), .inl (.bool false), .inl (.int .i64 ((lkq an ((s), x.se)).getD 0))] [] (by kernel_rfl) (by kernel_rfl) (by kernel_rfl) (by kernel_rfl) rfl (by kernel_rfl) (by kernel_rfl) late_nil ?_ ?_ ?_
    · exact Ds.none rfl
    · refine ea_cons ?_ (ea_cons ?_ (ea_cons ?_ (ea_cons ?_ (ea_cons ?_ (ea_cons ?_ (ea_cons ?_ (ea_cons ?_ (ea_cons ?_ (ea_cons ?_ (ea_cons ?_ (ea_cons ?_ (ea_cons ?_ (ea_cons ?_ (ea_cons ?_ (ea_nil)))))))))))))))
      · exact og_eq (pt A.r 0) rfl (fun f wf hq hd K hK => go_run rfl (wo_mv (.tmp 0) (pt A.r 0) (fun _ => rfl) rfl (hK _ (Mo.refl _))))
      · exact og_eq (pt A.r 0) rfl (fun f wf hq hd K hK => go_run rfl (wo_nc (.tmp 12) A.r 0 rfl (hd 0 rfl) (hK _ (Mo.refl _))))
      · exact og_eq (pt A.r 4) rfl (fun f wf hq hd K hK => go_run rfl (wo_un (fun v => Instr.fieldAt 95 v 4) (.tmp 13) (pt A.r 0) (pt A.r 4) (fun _ => rfl) (hd 1 rfl) (by kernel_rfl) (hK _ (Mo.refl _))))
      · exact og_eq (.map (some A.nb)) rfl (fun f wf hq hd K hK => have QR := QR.mo hq; go_run rfl (wo_load 91 (.tmp 14) (pt A.r 4) (.map (some A.nb)) rfl (hd 2 rfl) (run_one QR 91 4 rfl Try.underlying91 rfl) (hK _ (Mo.refl _))))
      · exact og_eq (.int .i64 (s)) rfl (fun f wf hq hd K hK => go_run rfl (wo_mv (.tmp 1) (.int .i64 (s)) (fun _ => rfl) rfl (hK _ (Mo.refl _))))
      · exact og_eq (pt b (o)) rfl (fun f wf hq hd K hK => go_run rfl (wo_mv (.tmp 2) (pt b (o)) (fun _ => rfl) rfl (hK _ (Mo.refl _))))
      · exact og_eq (pt b (o)) rfl (fun f wf hq hd K hK => go_run rfl (wo_nc (.tmp 17) b (o) rfl (hd 5 rfl) (hK _ (Mo.refl _))))
      · exact og_eq (pt b (o + 3)) rfl (fun f wf hq hd K hK => go_run rfl (wo_un (fun v => Instr.fieldAt 67 v 3) (.tmp 18) (pt b (o)) (pt b (o + 3)) (fun _ => rfl) (hd 6 rfl) (by kernel_rfl) (hK _ (Mo.refl _))))
      · exact og_eq (.string x.se) rfl (fun f wf hq hd K hK => go_run rfl (wo_load 9 (.tmp 19) (pt b (o + 3)) (.string x.se) rfl (hd 7 rfl) (D.run_oneR (hX.mo (M.trans hq)).at' 9 3 rfl Try.underlying9 rfl) (hK _ (Mo.refl _))))
      · exact og_eq (.agg #[.int .i64 (s), .string x.se]) rfl (fun f wf hq hd K hK => go_run rfl (wo_build 98 [(0, (.tmp 16)), (1, (.tmp 20))] [(0, .int .i64 (s)), (1, .string x.se)] (.agg #[.int .i64 (s), .string x.se]) rfl (lp2 (hd 4 rfl) (hd 8 rfl)) (by kernel_rfl) (hK _ (Mo.refl _))))
      · exact og_eq (.tuple #[.int .i64 ((lkq an ((s), x.se)).getD 0), .bool false]) rfl (fun f wf hq hd K hK => go_run rfl (wo_val (.tuple #[.int .i64 ((lkq an ((s), x.se)).getD 0), .bool false]) (lkp 91 (.tmp 15) (.tmp 21) true (.map (some A.nb)) (.agg #[.int .i64 (s), .string x.se]) (.tuple #[.int .i64 ((lkq an ((s), x.se)).getD 0), .bool false]) rfl (hd 3 rfl) (hd 9 rfl) ((hn1.mo (M.trans hq)).looks kt98 Try.underlying91 ((s), x.se) hf0)) (hK _ (Mo.refl _))))
      · exact og_eq (.tuple #[.int .i64 ((lkq an ((s), x.se)).getD 0), .bool false]) rfl (fun f wf hq hd K hK => go_run rfl (wo_mv (.tmp 22) (.tuple #[.int .i64 ((lkq an ((s), x.se)).getD 0), .bool false]) (fun _ => rfl) (hd 10 rfl) (hK _ (Mo.refl _))))
      · exact og_eq (.int .i64 ((lkq an ((s), x.se)).getD 0)) rfl (fun f wf hq hd K hK => go_run rfl (wo_un (fun v => Instr.extract v 0) (.tmp 11) (.tuple #[.int .i64 ((lkq an ((s), x.se)).getD 0), .bool false]) (.int .i64 ((lkq an ((s), x.se)).getD 0)) (fun _ => rfl) (hd 11 rfl) (by kernel_rfl) (hK _ (Mo.refl _))))
      · exact og_eq (.bool false) rfl (fun f wf hq hd K hK => go_run rfl (wo_un (fun v => Instr.extract v 1) (.tmp 11) (.tuple #[.int .i64 ((lkq an ((s), x.se)).getD 0), .bool false]) (.bool false) (fun _ => rfl) (hd 11 rfl) (by kernel_rfl) (hK _ (Mo.refl _))))
      · exact og_eq (.int .i64 ((lkq an ((s), x.se)).getD 0)) rfl (fun f wf hq hd K hK => go_run rfl (wo_mv (.tmp 23) (.int .i64 ((lkq an ((s), x.se)).getD 0)) (fun _ => rfl) (hd 12 rfl) (hK _ (Mo.refl _))))
    intro kf1 u1 hq hR hne
    replace QR := QR.mo hq
    replace M := M.trans hq
    clear hq hR hne
    refine wl_mv (.tmp 24) (.bool false) (fun _ => rfl) rfl rfl ?_
    refine w_nil ?_
    refine xn_then ?_
    refine w_seq ?_
    refine w_reg ?_
    refine wl_mv (.tmp 8) (.bool false) (fun _ => rfl) rfl rfl ?_
    refine w_nil ?_
    refine xn_then ?_
    refine w_condF rfl ?_
    refine w_skip ?_
    refine xn_then ?_
    refine w_seq ?_
    refine w_reg ?_
    refine wl_mv (.const (.int .i64 (-1))) (.int .i64 (-1)) (fun _ => rfl) rfl rfl ?_
    refine w_nil ?_
    refine xn_then ?_
    refine w_ret ?_
    exact w_ret1 _ (.int .i64 (-1)) rfl rfl ⟨by rw [col_no (hn2 s x.se) hf0], M⟩
theorem readBy_n (hR : Rdr l A w F hid) {w0 : World} (hK : Kp w0 w) (s : Int) {b o : Nat} {x : Ex} (hX : Rw w0 b o x.cells) : Calls Try.prog 58 #[pt A.r 0, .int .i64 s, pt b o] w fun e w' => e = .returned (.int .i64 (rdO l s F x.k x.op x.nm x.se)) ∧ Mo w w' := by
  have hX0 := hX
  replace hX := hX.kp hK
  unfold rdO
  refine w_enter 30 Try.func58 Try.ntmps58 rfl rfl ?_
  have M : Mo w w := Mo.refl _
  refine w_seq ?_
  refine w_reg ?_
  refine wl_mv (.const (.int .i64 (0))) (.int .i64 (0)) (fun _ => rfl) rfl rfl ?_
  refine w_nil ?_
  refine xn_then ?_
  refine w_seq ?_
  refine w_seq ?_
  refine w_reg ?_
  refine wl_mv (.tmp 2) (pt b (o)) (fun _ => rfl) rfl rfl ?_
  refine wl_nc (.tmp 7) b (o) rfl rfl rfl ?_
  refine wl_un (fun v => Instr.fieldAt 67 v 0) (.tmp 8) (pt b (o)) (pt b (o)) (fun _ => rfl) rfl (by kernel_rfl) rfl ?_
  refine wl_load 3 (.tmp 9) (pt b (o)) (.int .i64 (x.k)) rfl rfl (D.run_oneR (hX.mo M).at' 3 0 rfl Try.underlying3 rfl) rfl ?_
  refine w_nil ?_
  refine xn_then ?_
  refine w_block ?_
  refine w_seq ?_
  refine w_reg ?_
  cases hf0 : decide (x.k = 2) with
  | true =>
    have hf0p := of_decide_eq_true hf0
    refine wl_bin (fun x y => do eqGuard .eql 3 (.tmp 10) (.const (.int .i64 (2))) x y; binOp .eql 3 x y) (.tmp 10) (.const (.int .i64 (2))) (.int .i64 (x.k)) (.int .i64 (2)) (.bool true) (fun _ => rfl) rfl rfl (eq3 hf0 _ _ _) rfl ?_
    refine wl_mv (.tmp 12) (.bool true) (fun _ => rfl) rfl rfl ?_
    refine w_nil ?_
    refine xn_then ?_
    refine w_condT rfl ?_
    refine w_seq ?_
    refine w_reg ?_
    refine wl_mv (.tmp 0) (pt A.r 0) (fun _ => rfl) rfl rfl ?_
    refine wl_mv (.tmp 2) (pt b (o)) (fun _ => rfl) rfl rfl ?_
    refine wl_nc (.tmp 14) b (o) rfl rfl rfl ?_
    refine wl_un (fun v => Instr.fieldAt 67 v 2) (.tmp 15) (pt b (o)) (pt b (o + 2)) (fun _ => rfl) rfl (by kernel_rfl) rfl ?_
    refine wl_load 9 (.tmp 16) (pt b (o + 2)) (.string x.nm) rfl rfl (D.run_oneR (hX.mo M).at' 9 2 rfl Try.underlying9 rfl) rfl ?_
    refine wl_call 56 [(.tmp 13), (.tmp 17)] _ [pt A.r 0, .string x.nm] (.int .i64 (F x.nm)) rfl rfl (fun _ _ => by kernel_rfl) (find_n (hR.mo M) x.nm) rfl ?_
    intro u1 hq
    replace M := M.trans hq
    clear hq
    refine wl_mv (.tmp 18) (.int .i64 (F x.nm)) (fun _ => rfl) rfl rfl ?_
    refine w_nil ?_
    refine xn_then ?_
    refine w_ret ?_
    refine xr_blk ?_
    refine xr_then ?_
    exact w_ret1 _ (.int .i64 (F x.nm)) rfl rfl ⟨by simp [hf0p], M⟩
  | false =>
    have hf0p := of_decide_eq_false hf0
    refine wl_bin (fun x y => do eqGuard .eql 3 (.tmp 10) (.const (.int .i64 (2))) x y; binOp .eql 3 x y) (.tmp 10) (.const (.int .i64 (2))) (.int .i64 (x.k)) (.int .i64 (2)) (.bool false) (fun _ => rfl) rfl rfl (eq3 hf0 _ _ _) rfl ?_
    refine wl_mv (.tmp 12) (.bool false) (fun _ => rfl) rfl rfl ?_
    refine w_nil ?_
    refine xn_then ?_
    refine w_condF rfl ?_
    refine w_seq ?_
    refine w_reg ?_
    cases hf1 : decide (x.k = 10) with
    | true =>
      have hf1p := of_decide_eq_true hf1
      refine wl_bin (fun x y => do eqGuard .eql 3 (.tmp 10) (.const (.int .i64 (10))) x y; binOp .eql 3 x y) (.tmp 10) (.const (.int .i64 (10))) (.int .i64 (x.k)) (.int .i64 (10)) (.bool true) (fun _ => rfl) rfl rfl (eq3 hf1 _ _ _) rfl ?_
      refine wl_mv (.tmp 20) (.bool true) (fun _ => rfl) rfl rfl ?_
      refine w_nil ?_
      refine xn_then ?_
      refine w_condT rfl ?_
      refine w_seq ?_
      refine w_reg ?_
      refine wl_mv (.tmp 2) (pt b (o)) (fun _ => rfl) rfl rfl ?_
      refine wl_nc (.tmp 21) b (o) rfl rfl rfl ?_
      refine wl_un (fun v => Instr.fieldAt 67 v 1) (.tmp 22) (pt b (o)) (pt b (o + 1)) (fun _ => rfl) rfl (by kernel_rfl) rfl ?_
      refine wl_load 3 (.tmp 23) (pt b (o + 1)) (.int .i64 (x.op)) rfl rfl (D.run_oneR (hX.mo M).at' 3 1 rfl Try.underlying3 rfl) rfl ?_
      cases hf2 : decide (x.op = 16) with
      | true =>
        have hf2p := of_decide_eq_true hf2
        refine wl_bin (fun x y => do eqGuard .neq 3 (.tmp 24) (.const (.int .i64 (16))) x y; binOp .neq 3 x y) (.tmp 24) (.const (.int .i64 (16))) (.int .i64 (x.op)) (.int .i64 (16)) (.bool false) (fun _ => rfl) rfl rfl (ne3 hf2 _ _ _) rfl ?_
        refine w_nil ?_
        refine xn_then ?_
        refine w_condF rfl ?_
        refine w_skip ?_
        refine xn_blk ?_
        refine xn_then ?_
        refine w_seq ?_
        refine w_reg ?_
        refine wl_mv (.const (.int .i64 (-1))) (.int .i64 (-1)) (fun _ => rfl) rfl rfl ?_
        refine w_nil ?_
        refine xn_then ?_
        refine w_ret ?_
        exact w_ret1 _ (.int .i64 (-1)) rfl rfl ⟨by simp [hf1p, hf2p], M⟩
      | false =>
        have hf2p := of_decide_eq_false hf2
        refine wl_bin (fun x y => do eqGuard .neq 3 (.tmp 24) (.const (.int .i64 (16))) x y; binOp .neq 3 x y) (.tmp 24) (.const (.int .i64 (16))) (.int .i64 (x.op)) (.int .i64 (16)) (.bool true) (fun _ => rfl) rfl rfl (ne3 hf2 _ _ _) rfl ?_
        refine w_nil ?_
        refine xn_then ?_
        refine w_condT rfl ?_
        refine w_seq ?_
        refine w_reg ?_
        refine wl_mv (.tmp 0) (pt A.r 0) (fun _ => rfl) rfl rfl ?_
        refine wl_mv (.tmp 1) (.int .i64 (s)) (fun _ => rfl) rfl rfl ?_
        refine wl_mv (.tmp 2) (pt b (o)) (fun _ => rfl) rfl rfl ?_
        refine wl_call 71 [(.tmp 26), (.tmp 27), (.tmp 28)] _ [pt A.r 0, .int .i64 (s), pt b (o)] (.int .i64 (col l s x.se x.nm)) rfl rfl (fun _ _ => by kernel_rfl) (column_n (hR.mo M) (hK.trans M.kp) s hX0) rfl ?_
        intro u1 hq
        replace M := M.trans hq
        clear hq
        refine wl_mv (.tmp 29) (.int .i64 (col l s x.se x.nm)) (fun _ => rfl) rfl rfl ?_
        refine w_nil ?_
        refine xn_then ?_
        refine w_ret ?_
        refine xr_blk ?_
        refine xr_then ?_
        exact w_ret1 _ (.int .i64 (col l s x.se x.nm)) rfl rfl ⟨by simp [hf1p, hf2p], M⟩
    | false =>
      have hf1p := of_decide_eq_false hf1
      refine wl_bin (fun x y => do eqGuard .eql 3 (.tmp 10) (.const (.int .i64 (10))) x y; binOp .eql 3 x y) (.tmp 10) (.const (.int .i64 (10))) (.int .i64 (x.k)) (.int .i64 (10)) (.bool false) (fun _ => rfl) rfl rfl (eq3 hf1 _ _ _) rfl ?_
      refine wl_mv (.tmp 20) (.bool false) (fun _ => rfl) rfl rfl ?_
      refine w_nil ?_
      refine xn_then ?_
      refine w_condF rfl ?_
      refine w_skip ?_
      refine xn_blk ?_
      refine xn_then ?_
      refine w_seq ?_
      refine w_reg ?_
      refine wl_mv (.const (.int .i64 (-1))) (.int .i64 (-1)) (fun _ => rfl) rfl rfl ?_
      refine w_nil ?_
      refine xn_then ?_
      refine w_ret ?_
      exact w_ret1 _ (.int .i64 (-1)) rfl rfl ⟨by simp [hf0p, hf1p], M⟩
end
end Go.Proofs.Ythghblgbjgghcaa
