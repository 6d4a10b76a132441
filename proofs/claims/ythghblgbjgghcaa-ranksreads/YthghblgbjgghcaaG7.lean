/-
  Sections are left.
-/
import Derived.Test.YthghblgbjgghcaaSl
namespace Go.Proofs.Ythghblgbjgghcaa
open Go.RowKit D
/-- What the rounds of leave say. -/
structure LI (l : List S5) (A : Ra) (w : World) (k1 : Nat) (F : Fn) (hid : List (ByteArray × Int)) (h : Nat) (pre : List (Nat × (ByteArray × Int))) (W : World) : Prop where
  rd : Rdr l A W (lev ((hid.drop h).drop ((hid.drop h).length - pre.length)) F) hid
  bx : Ob W k1 72 [pt A.r 0]
  mw : Mk (fun j => j = A.mb) w W
theorem LI.own {l : List S5} {A : Ra} {w : World} {k1 : Nat} {F : Fn} {hid : List (ByteArray × Int)} {h B : Nat} (h1 : A.mb < B) (h2 : A.nb < B) (h3 : A.ob < B) (hw : w.heap.size ≤ B) : R.OwnF B (LI l A w k1 F hid h) := fun s W W' row hs hg hf hr =>
  ⟨hs.rd.grown hg hf hr h1 h2 h3, hs.bx.mk (grown_mk hg hf) (fun e => by obtain ⟨_, o, ho, hc⟩ := hr _ e; have := hs.bx.ty.nrow ho; rw [hc] at this; cases this), hs.mw.tr (grown_mk hg hf) (fun j hj e => by have := (hr j e).1; omega)⟩
/-- A round's variable: a block of its own. -/
def AxL (k1 : Nat) (x : (Nat × (ByteArray × Int)) × List (Nat × Value)) (W : World) : Prop := ∃ k5, look x.2 5 = pt k5 0 ∧ look x.2 2 = pt k1 0 ∧ At W k5 [.string x.1.2.1, .int .i64 x.1.2.2]
theorem AxL.own {k1 : Nat} {B : Nat} : R.OwnF B (AxL k1) := fun x W W' row hs hg hf hr => by
  obtain ⟨k5, a1, a2, a4⟩ := hs
  exact ⟨k5, a1, a2, (grown_mk hg hf).at a4 (fun e => by obtain ⟨_, o, ho, hc⟩ := hr _ e; have := a4.nrow ho; rw [hc] at this; cases this)⟩
theorem Rdr.mbk {l : List S5} {A : Ra} {w u : World} {F : Fn} {hid : List (ByteArray × Int)} {kc : Nat} {v : Value} {pa : Option Addr} {L : List (ByteArray × Int)} (h : Rdr l A w F hid) (m : Mk (fun j => j = A.mb) w u) : Kb kc 93 v 105 2 hc pa L w u := by
  obtain ⟨am, m1, _⟩ := h.mt
  exact ⟨fun q => q.mk m (m1.nec q), fun q => q.kk m (fun a e e2 => m1.nty (q.ty a e) e2)⟩
/-- Cut off again. -/
theorem Rdr.cut {l : List S5} {A : Ra} {w u : World} {F : Fn} {hid : List (ByteArray × Int)} {h : Nat} {pv : Option Addr} {cv : Nat} (hR : Rdr l A w F hid) (hO : Ob w A.r 95 (A.cells l (.slice pv hid.length cv))) (hown : Ow A.N 105 2 hc w pv cv hid) (hh : h ≤ hid.length) (m : Mk (fun j => j = A.r) w u) (hO2 : Ob u A.r 95 (A.cells l (.slice pv h cv))) : Rdr l A u F (hid.take h) ∧ Mk (DE A w) w u := by
  have mm : Mk (DE A w) w u := m.mono (fun j e => Or.inl e)
  have hl : (hid.take h).length = h := by simp; omega
  obtain ⟨am, q1, q2⟩ := hR.mt
  have hc1 := (Ow.cut (cells := hc) (fun _ => rfl) hown hh).1
  refine ⟨⟨Rst.de hR mm hR.st rfl, ⟨.slice pv (hid.take h).length cv, by rw [hl]; exact hO2, own_mk hc1 m (fun k e e2 => by subst e2; have := (own_ty hc1 e).two hO.ty; cases this)⟩, ⟨am, q1.mk m (fun e => q1.nec hO e.symm), q2⟩, hR.nn, hR.no, hR.nr, hR.nb⟩, mm⟩
namespace R
theorem leave_n {l : List S5} {A : Ra} {w : World} {F : Fn} {hid : List (ByteArray × Int)} (hR : Rdr l A w F hid) {h : Nat} (hh : h ≤ hid.length) (hb : hid.length < 4000000) : Calls Try.prog 66 #[pt A.r 0, .int .i64 ((h : Nat) : Int)] w fun e w' => e = .returned (.tuple #[]) ∧ Rdr l A w' (lev (hid.drop h) F) (hid.take h) ∧ Mk (DE A w) w w' := by
  obtain ⟨hv, hO, hown⟩ := hR.rc
  obtain ⟨pv, cv, rfl, _⟩ := own_form hown
  obtain ⟨p2, c2, hT, hsl⟩ := piece93 hown hh (by unfold maxLen; omega)
  have QR := hO.at
  refine calls_of (m := 9) (w_enter 32 Try.func66 Try.ntmps66 rfl rfl ?_)
  have M : Mo w w := Mo.refl _
  refine w_seq ?_
  refine w_reg ?_
  refine wl_boxO 72 (.tmp 0) (pt A.r 0) [pt A.r 0] rfl rfl (fun _ => by kernel_rfl) rfl ?_
  intro k1 u1 hk hz9 hq O1
  have Q1 := O1.at
  have ne_kr_k1 : A.r ≠ k1 := by have := QR.lt; omega
  have N_k1 : w.heap.size ≤ k1 := by have := M.size; omega
  replace QR := QR.mo hq
  replace M := M.trans hq
  clear hk hz9 hq
  refine w_nil ?_
  refine xn_then ?_
  refine w_seq ?_
  refine w_seq ?_
  refine w_reg ?_
  refine wl_load 72 (.tmp 2) (pt k1 0) (pt A.r 0) rfl rfl (run_one Q1 72 0 rfl Try.underlying72 rfl) rfl ?_
  refine wl_nc (.tmp 6) A.r 0 rfl rfl rfl ?_
  refine wl_un (fun v => Instr.fieldAt 95 v 7) (.tmp 7) (pt A.r 0) (pt A.r 7) (fun _ => rfl) rfl (by kernel_rfl) rfl ?_
  refine wl_load 93 (.tmp 8) (pt A.r 7) (.slice pv hid.length cv) rfl rfl (run_one QR 93 7 rfl Try.underlying93 rfl) rfl ?_
  refine wl_mv (.tmp 1) (.int .i64 ((h : Nat) : Int)) (fun _ => rfl) rfl rfl ?_
  refine wl_val (.slice p2 (hid.drop h).length c2) (hsl _ _ _ (by exact rfl) (by exact rfl) _ _ _ _ _ _) rfl ?_
  refine wl_callx 75 [(.tmp 11)] _ [.slice p2 (hid.drop h).length c2] rfl rfl (fun _ _ => by kernel_rfl) (backw75 p2 (hid.drop h).length c2 _) rfl ?_
  rintro e9 u2 ⟨kc, rfl, hkc, hkcN, hq⟩
  refine ⟨_, rfl, ?_⟩
  replace QR := QR.mo hq
  replace Q1 := Q1.mo hq
  replace O1 := O1.mo hq
  replace M := M.trans hq
  clear hq
  refine w_nil ?_
  refine xn_then ?_
  refine w_block ?_
  have hNR : w.heap.size ≤ u2.heap.size := M.size
  have hRw := hR.mo M
  have hmb : A.mb < w.heap.size := by obtain ⟨_, h, _⟩ := hR.mt; exact h.lt
  have hnb : A.nb < w.heap.size := by obtain ⟨_, h, _⟩ := hR.st.nm; exact h.lt
  have hob : A.ob < w.heap.size := by obtain ⟨_, h, _⟩ := hR.st.ow; exact h.lt
  refine w_rj 94 #[] #[pt kc 0] rfl (fun _ _ => by kernel_rfl) (fun x : Nat × (ByteArray × Int) => #[.int .i64 ((x.1 : Nat) : Int), .agg #[.string x.2.1, .int .i64 x.2.2]]) (fun q _ => q.1 ++ [q.2] <+: bk (hid.drop h)) OwnF.pure (Kb kc 93 (.slice p2 (hid.drop h).length c2) 105 2 hc p2 (hid.drop h)) (fun xs => xs = bk (hid.drop h)) (fun pre => pre <+: bk (hid.drop h)) (hid.drop h).length (back94 hkc (hT.mo M) (by simp; omega)) (fun h k => h.tr k) (fun W l o o' _ hl ho ho' => Kb.put W l o o' hl ho ho') (fun _ => rfl) (LI l A w k1 F hid h) (fun _ _ _ => False) (LI.own (by omega) (by omega) (by omega) hNR) (fun _ _ _ _ _ h _ _ _ => h) ⟨by rw [show (hid.drop h).length - ([] : List (Nat × (ByteArray × Int))).length = (hid.drop h).length by simp, List.drop_length]; exact hRw, O1, Mk.of _ M⟩ _ (AxL k1) AxL.own (fun m => Kb.mo m) (fun x => frps2 13 14 _ _) ?assign ?body ?done (fun _ _ _ _ _ _ h _ => h.elim)
  case assign =>
    intro lp x W K hK
    clear M
    have M : Mo W W := Mo.refl _
    refine w_reg ?_
    refine wl_alloc 105 #[.string ⟨#[]⟩, .int .i64 0] rfl (fun _ => by kernel_rfl) rfl ?_
    intro k61 u61 hk hz hq Q61
    have N_k61 : W.heap.size ≤ k61 := by have := M.size; omega
    replace M := M.trans hq
    clear hk hz hq
    refine wl_st 105 (.tmp 5) (.tmp 14) k61 0 #[.string x.2.1, .int .i64 x.2.2] [.string ⟨#[]⟩, .int .i64 0] [.string x.2.1, .int .i64 x.2.2] Q61 rfl rfl rfl rfl rfl sz105 rfl rfl rfl ?_
    intro u62 hS Qn
    replace Q61 := Qn
    clear Qn
    replace M := hS.mo _ N_k61 M
    clear hS
    refine w_nil ?_
    exact hK _ _ M ⟨k61, rfl, rfl, Q61⟩
  case body =>
    rintro lp pre ⟨ix, nx⟩ lf W hI hT9 hlen ⟨k5, g5, g2, Q5⟩
    obtain ⟨hxs, hxl⟩ := bk_next hT9
    replace hxs : (hid.drop h)[ix]? = some nx := hxs
    replace hxl : ix + 1 + pre.length = (hid.drop h).length := hxl
    replace g2 : look lf 2 = pt k1 0 := g2
    replace Q5 : At W k5 [.string nx.1, .int .i64 nx.2] := Q5
    have hR := hI.rd
    rw [show (hid.drop h).length - pre.length = ix + 1 by omega] at hR
    obtain ⟨hv0, hO0, _⟩ := hR.rc
    obtain ⟨am, hm1, hm2⟩ := hR.mt
    clear QR Q1 O1
    have QR := hO0.at
    have Q1 := hI.bx.at
    clear M
    have M : Mo W W := Mo.refl _
    refine w_block ?_
    have hsm9 : Smos [vq (pt A.r 0), vq (pt A.r 0), vq (pt A.r 6), vq (.map (some A.mb)), vq (pt k5 0), vq (.string nx.1), vq (pt k5 1), vq (.int .i64 (nx.2))] := smos_cons (smo_vq _) (smos_cons (smo_vq _) (smos_cons (smo_vq _) (smos_cons (smo_vq _) (smos_cons (smo_vq _) (smos_cons (smo_vq _) (smos_cons (smo_vq _) (smos_cons (smo_vq _) (smos_nil))))))))
    refine R.w_ogc 8 (fun w9 => Mo W w9) [vq (pt A.r 0), vq (pt A.r 0), vq (pt A.r 6), vq (.map (some A.mb)), vq (pt k5 0), vq (.string nx.1), vq (pt k5 1), vq (.int .i64 (nx.2))] [] (by kernel_rfl) (by kernel_rfl) (by kernel_rfl) (by kernel_rfl) rfl (by kernel_rfl) (by kernel_rfl) (by kernel_rfl) latec_nil ((Mo.refl _).drew) ?_ ?_
    · refine ea_cons ?_ (ea_cons ?_ (ea_cons ?_ (ea_cons ?_ (ea_cons ?_ (ea_cons ?_ (ea_cons ?_ (ea_cons ?_ (ea_nil))))))))
      · exact oc_eq (pt A.r 0) rfl (fun _ _ h m => h.trans m) hsm9 (fun f wf hq hd K hK => have Q1 := Q1.mo hq; go_run rfl (wo_load 72 (.tmp 2) (pt k1 0) (pt A.r 0) rfl g2 (run_one Q1 72 0 rfl Try.underlying72 rfl) (hK _ (Mo.refl _))))
      · exact oc_eq (pt A.r 0) rfl (fun _ _ h m => h.trans m) hsm9 (fun f wf hq hd K hK => go_run rfl (wo_nc (.tmp 15) A.r 0 rfl (hd 0 rfl) (hK _ (Mo.refl _))))
      · exact oc_eq (pt A.r 6) rfl (fun _ _ h m => h.trans m) hsm9 (fun f wf hq hd K hK => go_run rfl (wo_un (fun v => Instr.fieldAt 95 v 6) (.tmp 16) (pt A.r 0) (pt A.r 6) (fun _ => rfl) (hd 1 rfl) (by kernel_rfl) (hK _ (Mo.refl _))))
      · exact oc_eq (.map (some A.mb)) rfl (fun _ _ h m => h.trans m) hsm9 (fun f wf hq hd K hK => have QR := QR.mo hq; go_run rfl (wo_load 92 (.tmp 17) (pt A.r 6) (.map (some A.mb)) rfl (hd 2 rfl) (run_one QR 92 6 rfl Try.underlying92 rfl) (hK _ (Mo.refl _))))
      · exact oc_eq (pt k5 0) rfl (fun _ _ h m => h.trans m) hsm9 (fun f wf hq hd K hK => go_run rfl (wo_un (fun v => Instr.fieldAt 105 v 0) (.tmp 5) (pt k5 0) (pt k5 0) (fun _ => rfl) g5 (by kernel_rfl) (hK _ (Mo.refl _))))
      · exact oc_eq (.string nx.1) rfl (fun _ _ h m => h.trans m) hsm9 (fun f wf hq hd K hK => have Q5 := Q5.mo hq; go_run rfl (wo_load 9 (.tmp 19) (pt k5 0) (.string nx.1) rfl (hd 4 rfl) (run_one Q5 9 0 rfl Try.underlying9 rfl) (hK _ (Mo.refl _))))
      · exact oc_eq (pt k5 1) rfl (fun _ _ h m => h.trans m) hsm9 (fun f wf hq hd K hK => go_run rfl (wo_un (fun v => Instr.fieldAt 105 v 1) (.tmp 5) (pt k5 0) (pt k5 1) (fun _ => rfl) g5 (by kernel_rfl) (hK _ (Mo.refl _))))
      · exact oc_eq (.int .i64 (nx.2)) rfl (fun _ _ h m => h.trans m) hsm9 (fun f wf hq hd K hK => have Q5 := Q5.mo hq; go_run rfl (wo_load 3 (.tmp 21) (pt k5 1) (.int .i64 (nx.2)) rfl (hd 6 rfl) (run_one Q5 3 1 rfl Try.underlying3 rfl) (hK _ (Mo.refl _))))
    intro f u21 hq hR9
    have er0 := hR9 0 rfl
    have er1 := hR9 1 rfl
    have er2 := hR9 2 rfl
    have er3 := hR9 3 rfl
    have er4 := hR9 4 rfl
    have er5 := hR9 5 rfl
    have er6 := hR9 6 rfl
    have er7 := hR9 7 rfl
    clear hR9 hsm9
    replace Q1 := Q1.mo hq
    replace QR := QR.mo hq
    replace Q5 := Q5.mo hq
    replace M := M.trans hq
    clear hq
    refine wl_mupq (al := am) (.tmp 18) (.tmp 20) (.tmp 22) nx.1 nx.2 (hm1.mo M) kt9 Try.underlying92 rfl rfl er3 er5 er7 rfl ?_
    intro u22 hm9 hK9
    obtain ⟨hR3, _⟩ := (hR.mo M).mput hm2 hm9 hK9
    have hMK := (Mk.of (fun j => j = A.mb) M).same hK9
    refine w_nil ?_
    refine xn_blk ?_
    have hRN : Rdr l A u22 (lev ((hid.drop h).drop ix) F) hid := by rw [drop_s hxs]; exact hR3
    exact WX.mk ⟨keeps_mk hMK (fun k o hk _ _ e => by omega), hR.mbk hMK, ⟨by rw [show (hid.drop h).length - (pre ++ [(ix, nx)]).length = ix by simp at hxl ⊢; omega]; exact hRN, hI.bx.mk hMK (hm1.nec hI.bx), hI.mw.same hMK⟩⟩
  case done =>
    rintro D xs W hD rfl hI hK9
    have hR2 := hI.rd
    rw [bk_len, Nat.sub_self, List.drop_zero] at hR2
    obtain ⟨hv0, hO0, hown0⟩ := hR2.rc
    have hO9 := hO.mk hI.mw (by obtain ⟨_, h, _⟩ := hR.mt; exact h.nec hO)
    have hve : hv0 = .slice pv hid.length cv := by unfold Ob at hO0 hO9; rw [hO9] at hO0; simpa using hO0.symm
    subst hve
    clear QR Q1 O1
    have QR := hO0.at
    have Q1 := hI.bx.at
    clear M
    have M : Mo W W := Mo.refl _
    refine xn_blk ?_
    refine xn_then ?_
    have hsm9 : Smos [vq (pt A.r 0), vq (pt A.r 0), vq (pt A.r 0), vq (pt A.r 7), vq (.slice pv hid.length cv), vq (.int .i64 ((h : Nat) : Int)), vq (.slice pv h cv), vq (pt A.r 0), vq (pt A.r 7)] := smos_cons (smo_vq _) (smos_cons (smo_vq _) (smos_cons (smo_vq _) (smos_cons (smo_vq _) (smos_cons (smo_vq _) (smos_cons (smo_vq _) (smos_cons (smo_vq _) (smos_cons (smo_vq _) (smos_cons (smo_vq _) (smos_nil)))))))))
    refine R.w_ogc 9 (fun w9 => Mo W w9) [vq (pt A.r 0), vq (pt A.r 0), vq (pt A.r 0), vq (pt A.r 7), vq (.slice pv hid.length cv), vq (.int .i64 ((h : Nat) : Int)), vq (.slice pv h cv), vq (pt A.r 0), vq (pt A.r 7)] [] (by kernel_rfl) (by kernel_rfl) (by kernel_rfl) (by kernel_rfl) rfl (by kernel_rfl) (by kernel_rfl) (by kernel_rfl) latec_nil ((Mo.refl _).drew) ?_ ?_
    · refine ea_cons ?_ (ea_cons ?_ (ea_cons ?_ (ea_cons ?_ (ea_cons ?_ (ea_cons ?_ (ea_cons ?_ (ea_cons ?_ (ea_cons ?_ (ea_nil)))))))))
      · exact oc_eq (pt A.r 0) rfl (fun _ _ h m => h.trans m) hsm9 (fun f wf hq hd K hK => have Q1 := Q1.mo hq; go_run rfl (wo_load 72 (.tmp 2) (pt k1 0) (pt A.r 0) rfl rfl (run_one Q1 72 0 rfl Try.underlying72 rfl) (hK _ (Mo.refl _))))
      · exact oc_eq (pt A.r 0) rfl (fun _ _ h m => h.trans m) hsm9 (fun f wf hq hd K hK => have Q1 := Q1.mo hq; go_run rfl (wo_load 72 (.tmp 2) (pt k1 0) (pt A.r 0) rfl rfl (run_one Q1 72 0 rfl Try.underlying72 rfl) (hK _ (Mo.refl _))))
      · exact oc_eq (pt A.r 0) rfl (fun _ _ h m => h.trans m) hsm9 (fun f wf hq hd K hK => go_run rfl (wo_nc (.tmp 24) A.r 0 rfl (hd 1 rfl) (hK _ (Mo.refl _))))
      · exact oc_eq (pt A.r 7) rfl (fun _ _ h m => h.trans m) hsm9 (fun f wf hq hd K hK => go_run rfl (wo_un (fun v => Instr.fieldAt 95 v 7) (.tmp 25) (pt A.r 0) (pt A.r 7) (fun _ => rfl) (hd 2 rfl) (by kernel_rfl) (hK _ (Mo.refl _))))
      · exact oc_eq (.slice pv hid.length cv) rfl (fun _ _ h m => h.trans m) hsm9 (fun f wf hq hd K hK => have QR := QR.mo hq; go_run rfl (wo_load 93 (.tmp 26) (pt A.r 7) (.slice pv hid.length cv) rfl (hd 3 rfl) (run_one QR 93 7 rfl Try.underlying93 rfl) (hK _ (Mo.refl _))))
      · exact oc_eq (.int .i64 ((h : Nat) : Int)) rfl (fun _ _ h m => h.trans m) hsm9 (fun f wf hq hd K hK => go_run rfl (wo_mv (.tmp 1) (.int .i64 ((h : Nat) : Int)) (fun _ => rfl) rfl (hK _ (Mo.refl _))))
      · exact oc_eq (.slice pv h cv) rfl (fun _ _ h m => h.trans m) hsm9 (fun f wf hq hd K hK => go_run rfl (wo_val (.slice pv h cv) (slh93 _ _ _ pv hid.length cv h (by exact (hd 4 rfl)) (by exact (hd 5 rfl)) (by have := (Ow.cut (cells := hc) (fun _ => rfl) hown0 hh).2; omega) _ _ _ _ _ _) (hK _ (Mo.refl _))))
      · exact oc_eq (pt A.r 0) rfl (fun _ _ h m => h.trans m) hsm9 (fun f wf hq hd K hK => go_run rfl (wo_nc (.tmp 23) A.r 0 rfl (hd 0 rfl) (hK _ (Mo.refl _))))
      · exact oc_eq (pt A.r 7) rfl (fun _ _ h m => h.trans m) hsm9 (fun f wf hq hd K hK => go_run rfl (wo_un (fun v => Instr.fieldAt 95 v 7) (.tmp 30) (pt A.r 0) (pt A.r 7) (fun _ => rfl) (hd 7 rfl) (by kernel_rfl) (hK _ (Mo.refl _))))
    intro f u81 hq hR9
    have er0 := hR9 0 rfl
    have er1 := hR9 1 rfl
    have er2 := hR9 2 rfl
    have er3 := hR9 3 rfl
    have er4 := hR9 4 rfl
    have er5 := hR9 5 rfl
    have er6 := hR9 6 rfl
    have er7 := hR9 7 rfl
    have er8 := hR9 8 rfl
    clear hR9 hsm9
    replace Q1 := Q1.mo hq
    replace QR := QR.mo hq
    replace M := M.trans hq
    clear hq
    refine wl_stO 93 (.tmp 31) (.tmp 29) A.r 7 (.slice pv h cv) 95 _ [.slice A.pl l.length A.cl, .int .i64 ((nI l : Nat) : Int), .slice A.pf l.length A.cf, .slice A.pk l.length A.ck, .map (some A.nb), .map (some A.ob), .map (some A.mb), .slice pv h cv] (hO0.mo M) rfl rfl er8 er6 rfl sz93 rfl rfl rfl rfl ?_
    intro u82 hK8 hO8
    obtain ⟨hR4, hM4⟩ := (hR2.mo M).cut (hO0.mo M) (own_mo hown0 M) hh hK8 hO8
    have hD9 : u82.heap[D]? = some (.deferred (some [])) := (hK8.block D (Nat.lt_of_lt_of_le (Array.getElem?_eq_some_iff.1 hK9).1 M.size) (fun e => by have := hO.lt; omega)).trans ((M.1.block D (Array.getElem?_eq_some_iff.1 hK9).1).trans hK9)
    refine w_nil ?_
    have mD := put_mk (o' := .deferred none) hD9 rfl rfl
    have hd0 : Mk (DE A w) w W := hI.mw.mono (fun j e => Or.inr (Or.inl e))
    exact w_end0m D rfl hD9 ⟨rfl, hR4.grown (B := u2.heap.size) (grownBy_putObj' _ _ _) mD.fz (fun r e => by cases e; exact ⟨hD, _, hD9, rfl⟩) (by omega) (by omega) (by omega), (DE.tr hd0 (DE.tr (Mk.of _ M) hM4)).tr mD (fun j hj e => by omega)⟩
end R
end Go.Proofs.Ythghblgbjgghcaa
