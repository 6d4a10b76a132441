/-
  Flat.
-/
import Derived.Test.YtepfokoepibkcaaGreatPSc
namespace Go.Proofs.YtepfokoepibkcaaGreat
open Go.RowKit D
theorem flat_set {v : Value} {x' : S5} (hv : v = .slice x'.pi x'.items.length x'.ci) : ∀ (R : List S5) (n : Nat) (x : S5), R[n]? = some x → x'.pr = x.pr → x'.dp = x.dp → x'.nm = x.nm → x'.mx = x.mx → (R.flatMap S5.cells).take (n * 5 + 4) ++ [v] ++ (R.flatMap S5.cells).drop (n * 5 + 4 + 1) = (R.set n x').flatMap S5.cells
  | [], n, x, h, _, _, _, _ => by simp at h
  | y :: R, 0, x, h, h1, h2, h3, h4 => by
    simp at h; subst h
    rw [List.set_cons_zero, List.flatMap_cons, List.flatMap_cons, hv]
    simp [S5.cells, h1, h2, h3, h4]
  | y :: R, n + 1, x, h, h1, h2, h3, h4 => by
    simp at h
    have ih := flat_set hv R n x h h1 h2 h3 h4
    have e : (n + 1) * 5 + 4 = y.cells.length + (n * 5 + 4) := by show _ = 5 + _; omega
    rw [List.set_cons_succ, List.flatMap_cons, List.flatMap_cons, ← ih, e, List.take_length_add_append, Nat.add_assoc, List.drop_length_add_append]
    simp
theorem own_at {w : World} {N e sz : Nat} {g cap : Nat} {n : Nat} {xs : List Value} (h : w.ownsRow N e sz (.slice (some ⟨g, 0, none⟩) n cap) n xs) : At w g xs ∧ N ≤ g := by
  rcases h.2 with ⟨q, _⟩ | ⟨g', c2, cur, q, hg, hb, hnc, hcm, hcs, htk⟩
  · cases q
  · cases q
    refine ⟨⟨fun j v hv => ?_, fun o => ?_, (Array.getElem?_eq_some_iff.1 hb).1⟩, hg⟩
    · rw [← htk, List.getElem?_take] at hv
      split at hv
      · rw [Nat.zero_add]
        simp only [World.cell?, hb]
        simpa using hv
      · cases hv
    · simp [World.frozen?, hb]
/-- What of a section by its number Flat tells, but for addresses. -/
def key5 (x : S5) : Int × Int × ByteArray × Int × List (ByteArray × Int × Int × Int) := (x.pr, x.dp, x.nm, x.mx, x.items.map (fun y => (y.nm, y.k, y.tk, y.ts)))
def key6 (x : S5) : Int × Int × ByteArray × Int × List (ByteArray × Int × Int × Int × Int × Ex) := (x.pr, x.dp, x.nm, x.mx, x.items.map kx)
theorem key56 {x y : S5} (h : key6 x = key6 y) : key5 x = key5 y := by
  simp only [key6, Prod.mk.injEq] at h
  obtain ⟨h1, h2, h3, h4, h5⟩ := h
  have h6 := congrArg (List.map (fun q : ByteArray × Int × Int × Int × Int × Ex => (q.1, q.2.1, q.2.2.1, q.2.2.2.1))) h5
  simp only [List.map_map] at h6
  simp only [key5, Prod.mk.injEq]
  exact ⟨h1, h2, h3, h4, h6⟩
theorem keys56 {R L : List S5} (h : R.map key6 = L.map key6) : R.map key5 = L.map key5 := by
  refine List.ext_getElem? (fun i => ?_)
  have h1 := congrArg (fun q => q[i]?) h
  simp only [List.getElem?_map] at h1 ⊢
  cases hr : R[i]? with
  | none => rw [hr] at h1; cases hl : L[i]? with
    | none => rfl
    | some y => rw [hl] at h1; cases h1
  | some x => rw [hr] at h1; cases hl : L[i]? with
    | none => rw [hl] at h1; cases h1
    | some y => rw [hl] at h1; simp only [Option.map_some, Option.some.injEq] at h1 ⊢; exact key56 h1
theorem set_key {R : List S5} {n : Nat} {x x' : S5} (h : R[n]? = some x) (hk : key6 x' = key6 x) : (R.set n x').map key6 = R.map key6 := by
  rw [List.map_set, hk]
  refine List.ext_getElem? (fun i => ?_)
  rw [List.getElem?_set]
  by_cases e : n = i
  · subst e
    have hl := lt_of_get h
    rw [if_pos rfl, List.length_map, if_pos hl, List.getElem?_map, h]; rfl
  · rw [if_neg e]
theorem pflat_n (d : Df) {w : World} (hD : LDf w d) (hB : ∀ x ∈ fla d, x.items.length ≤ 606627104962 ∧ ∀ y ∈ x.items, AB y.ex) : Calls Tryz.prog 11 #[.agg (d.cells).toArray] w fun e w' => ∃ (pa : Option Addr) (cap : Nat) (R : List S5), e = .returned (.slice pa R.length cap) ∧ R.map key6 = (fla d).map key6 ∧ SL w' 5 S5.cells pa R ∧ (∀ x ∈ R, LS5 w' x) ∧ Mo w w' := by
  refine w_enter 25 Tryz.func11 Tryz.ntmps11 rfl rfl ?_
  have M : Mo w w := Mo.refl _
  refine w_seq ?_
  refine w_reg ?_
  refine wl_box 29 (.tmp 0) (.agg (d.cells).toArray) (((d.cells).toArray)) rfl rfl (fun _ => by kernel_rfl) rfl ?_
  intro k1 u1 hk hz hq Q1
  have N_k1 : w.heap.size ≤ k1 := by have := M.size; omega
  replace M := M.trans hq
  clear hk hz hq
  refine wl_mv (.const (.slice none 0 0)) (.slice none 0 0) (fun _ => rfl) rfl rfl ?_
  refine w_nil ?_
  refine xn_then ?_
  refine w_seq ?_
  refine w_reg ?_
  refine wl_un (fun v => Instr.fieldAt 29 v 1) (.tmp 1) (pt k1 0) (pt k1 1) (fun _ => rfl) rfl (by kernel_rfl) rfl ?_
  refine wl_load 25 (.tmp 5) (pt k1 1) (.agg (d.rt.cells).toArray) rfl rfl (run_row Q1 25 1 4 (d.rt.cells) rfl Tryz.underlying25 rfl sz25) rfl ?_
  refine wl_callx 24 [(.tmp 6)] _ [.agg (d.rt.cells).toArray] rfl rfl (fun _ _ => by kernel_rfl) (flat_n d.rt (hD.rt.kp M.kp)) rfl ?_
  rintro e9 u2 ⟨pa, cap, rfl, hq, hown⟩
  refine ⟨_, rfl, ?_⟩
  obtain ⟨g, rfl⟩ : ∃ g, pa = some ⟨g, 0, none⟩ := by rcases hown.2 with ⟨_, q⟩ | ⟨g, _, _, q, _⟩; exact absurd q (by have := fla_pos d; unfold fla at this; omega); exact ⟨g, by cases q; rfl⟩
  have MK : Mk (fun _ => False) w u2 := Mk.of _ (M.trans hq)
  obtain ⟨QR, hgN⟩ := own_at hown
  replace hgN : w.heap.size ≤ g := by have := M.size; omega
  clear hown M hq
  obtain ⟨L, hL⟩ : ∃ L, L = fla d := ⟨_, rfl⟩
  rw [show flt d.rt [] (-1) 1 = L by rw [hL]; rfl] at QR ⊢
  have M : Mo u2 u2 := Mo.refl _
  refine wl_mv (.tmp 7) (.slice (some ⟨g, 0, none⟩) L.length cap) (fun _ => rfl) rfl rfl ?_
  refine w_nil ?_
  refine xn_then ?_
  refine w_seq ?_
  refine w_seq ?_
  refine w_reg ?_
  refine wl_mv (.tmp 3) (.slice (some ⟨g, 0, none⟩) L.length cap) (fun _ => rfl) rfl rfl ?_
  refine wl_val (.int .i64 ((L.length : Nat) : Int)) (len37 _ _ _ _ _ (by exact rfl) _ _ _ _ _ _) rfl ?_
  refine wl_mv (.const (.int .i64 (0))) (.int .i64 (0)) (fun _ => rfl) rfl rfl ?_
  refine w_nil ?_
  refine xn_then ?_
  refine w_block ?_
  have hz : L.length ≤ 64 := by rw [hL]; exact fla_len d
  have hLS : ∀ x ∈ L, LS5 w x := fun x hx => flt_ls d.rt hD.rt [] _ _ (fun _ h => by cases h) x (by rw [hL] at hx; exact hx)
  rw [← hL] at hB
  refine w_loop (fun m l w1 => ∃ i : Nat, m = L.length - i ∧ i ≤ L.length ∧ look l 3 = .slice (some ⟨g, 0, none⟩) L.length cap ∧ look l 8 = .slice (some ⟨g, 0, none⟩) L.length cap ∧ look l 9 = .int .i64 ((L.length : Nat) : Int) ∧ look l 10 = .int .i64 ((i : Nat) : Int) ∧ ∃ R : List S5, R.length = L.length ∧ R.map key6 = L.map key6 ∧ (∀ j, i ≤ j → R[j]? = L[j]?) ∧ (∀ j x, j < i → R[j]? = some x → w1.ownsRow (g + 1) 54 23 (.slice x.pi x.items.length x.ci) x.items.length (x.items.flatMap It.cells) ∧ x.items.length ≤ maxLen ∧ ∀ y ∈ x.items, LEx w1 y.ex ∧ In (fun b => g + 1 ≤ b ∧ b < w1.heap.size) y.ex) ∧ At w1 g (R.flatMap S5.cells) ∧ Mk (fun _ => False) w w1) _ ⟨0, rfl, Nat.zero_le _, rfl, rfl, rfl, rfl, ⟨L, rfl, rfl, fun _ _ => rfl, fun j x hj => by omega, QR, MK⟩⟩ ?_
  clear M
  rintro m l40 wl40 ⟨i, rfl, hi, e40_3, e40_8, e40_9, e40_i, hE⟩
  by_cases hil : i < L.length
  · skip
    have hid : decide (i < L.length) = true := decide_eq_true hil
    obtain ⟨R, hRl, hRk, hRr, hRc, QR, MK⟩ := hE
    have hlt := QR.lt
    have M : Mo wl40 wl40 := Mo.refl _
    obtain ⟨x, hxL⟩ := get_of_lt hil
    have hx : R[i]? = some x := by rw [hRr i (Nat.le_refl _)]; exact hxL
    have hmx := List.mem_of_getElem? hxL
    have hir : i < R.length := by omega
    have hSR : SL _ 5 S5.cells (some ⟨g, 0, none⟩) R := SL.of_at (n := 5) (cells := S5.cells) (L := R) (fun _ => rfl) (by unfold maxLen; omega) QR
    have hKw := MK.kp (fun _ h => h.elim)
    obtain ⟨b1, o1, hp1, hR1⟩ := D.SL.rw hSR hx
    obtain ⟨rfl, rfl⟩ : g = b1 ∧ 0 = o1 := by cases hp1; exact ⟨rfl, rfl⟩
    refine w_seq ?_
    refine w_reg ?_
    refine wl_bin (fun x y => do eqGuard .lss 3 (.tmp 10) (.tmp 9) x y; binOp .lss 3 x y) (.tmp 10) (.tmp 9) (.int .i64 ((i : Nat) : Int)) (.int .i64 ((L.length : Nat) : Int)) (.bool true) (fun _ => rfl) e40_i e40_9 (ltN hid _ _ _) rfl ?_
    refine w_nil ?_
    refine xn_then ?_
    refine w_seq ?_
    refine w_condT rfl ?_
    refine w_skip ?_
    refine xn_then ?_
    refine w_seq ?_
    refine w_block ?_
    refine w_seq ?_
    refine w_reg ?_
    refine wl_mv (.tmp 10) (.int .i64 ((i : Nat) : Int)) (fun _ => rfl) e40_i rfl ?_
    refine wl_mv (.tmp 12) (.int .i64 ((i : Nat) : Int)) (fun _ => rfl) rfl rfl ?_
    refine w_nil ?_
    refine xn_then ?_
    refine w_reg ?_
    refine wl_mv (.tmp 3) (.slice (some ⟨g, 0, none⟩) L.length cap) (fun _ => rfl) e40_3 rfl ?_
    refine wl_mv (.tmp 4) (.int .i64 ((i : Nat) : Int)) (fun _ => rfl) rfl rfl ?_
    refine wl_mv (.tmp 3) (.slice (some ⟨g, 0, none⟩) L.length cap) (fun _ => rfl) e40_3 rfl ?_
    refine wl_mv (.tmp 4) (.int .i64 ((i : Nat) : Int)) (fun _ => rfl) rfl rfl ?_
    refine wl_bin (fun x y => Instr.indexAt 37 x y) (.tmp 15) (.tmp 16) (.slice (some ⟨g, 0, none⟩) L.length cap) (.int .i64 ((i : Nat) : Int)) (pt g (0 + i * 5)) (fun _ => rfl) rfl rfl (ix37 (i := i) rfl hil _) rfl ?_
    refine wl_un (fun v => Instr.fieldAt 40 v 4) (.tmp 17) (pt g (0 + i * 5)) (pt g (0 + i * 5 + 4)) (fun _ => rfl) rfl (by kernel_rfl) rfl ?_
    refine wl_load 22 (.tmp 18) (pt g (0 + i * 5 + 4)) (.slice x.pi x.items.length x.ci) rfl rfl (D.run_oneR (hR1.mo M).at' 22 4 rfl Tryz.underlying22 rfl) rfl ?_
    refine wl_callx 25 [(.tmp 19)] _ [.slice x.pi x.items.length x.ci] rfl rfl (fun _ _ => by kernel_rfl) (citems_n ((hLS x hmx).it.kp (hKw.trans M.kp)) (fun y hy => ((hLS x hmx).ex y hy).kp (hKw.trans M.kp)) (hB x hmx).2 (hB x hmx).1) rfl ?_
    rintro e9 u41 ⟨pi1, ci1, I1, rfl, hI1, hown, hX1, hq⟩
    refine ⟨_, rfl, ?_⟩
    replace hown := own_base hown (N' := g + 1) (by have := M.size; omega)
    replace hX1 : ∀ y ∈ I1, LEx u41 y.ex ∧ In (fun b => g + 1 ≤ b ∧ b < u41.heap.size) y.ex := fun y hy => ⟨(hX1 y hy).1, (hX1 y hy).2.mono (fun b hb => ⟨by have := M.size; have := hb.1; omega, hb.2⟩)⟩
    replace M := M.trans hq
    clear hq
    refine wl_bin (fun x y => Instr.indexAt 37 x y) (.tmp 13) (.tmp 14) (.slice (some ⟨g, 0, none⟩) L.length cap) (.int .i64 ((i : Nat) : Int)) (pt g (0 + i * 5)) (fun _ => rfl) rfl rfl (ix37 (i := i) rfl hil _) rfl ?_
    refine wl_un (fun v => Instr.fieldAt 40 v 4) (.tmp 21) (pt g (0 + i * 5)) (pt g (0 + i * 5 + 4)) (fun _ => rfl) rfl (by kernel_rfl) rfl ?_
    obtain ⟨x1, hx1⟩ : ∃ x1 : S5, x1 = ⟨x.pr, x.dp, x.nm, x.mx, pi1, ci1, I1⟩ := ⟨_, rfl⟩
    have hlI : I1.length = x.items.length := by have := congrArg List.length hI1; simpa using this
    refine wl_stm1 22 (.tmp 22) (.tmp 20) g (0 + i * 5 + 4) (.slice pi1 I1.length ci1) (R.flatMap S5.cells) ((R.set i x1).flatMap S5.cells) (QR.mo M) rfl rfl rfl rfl (by rw [Nat.blt_eq, flat_len (cells := S5.cells) (n := 5) (fun _ => rfl) R]; omega) sz22 rfl rfl (by rw [Nat.zero_add]; exact (flat_set (by rw [hx1]) R i x hx (by rw [hx1]) (by rw [hx1]) (by rw [hx1]) (by rw [hx1])).symm) rfl ?_
    intro u42 hS hm9 QR1
    replace MK := (MK.trans M).tr hm9 (fun j hj e => by omega)
    have hRc1 : ∀ j x, j < i + 1 → (R.set i x1)[j]? = some x → u42.ownsRow (g + 1) 54 23 (.slice x.pi x.items.length x.ci) x.items.length (x.items.flatMap It.cells) ∧ x.items.length ≤ maxLen ∧ ∀ y ∈ x.items, LEx u42 y.ex ∧ In (fun b => g + 1 ≤ b ∧ b < u42.heap.size) y.ex := by
      have kE : ∀ e9 : Ex, ∀ W9 : World, Mo W9 u41 → LEx W9 e9 → In (fun b => g + 1 ≤ b ∧ b < W9.heap.size) e9 → LEx u42 e9 ∧ In (fun b => g + 1 ≤ b ∧ b < u42.heap.size) e9 := fun e9 W9 m9 h1 h2 => ⟨LEx.kd (D := fun b => g + 1 ≤ b) (hm9.kd (fun k hk e => by omega)) (h1.kp m9.kp) (h2.mono (fun b hb => hb.1)), h2.mono (fun b hb => ⟨hb.1, by have := hb.2; have := m9.size; have := hm9.size; omega⟩)⟩
      intro j y hj hy
      rw [List.getElem?_set] at hy
      by_cases hji : i = j
      · rw [if_pos hji, if_pos (by omega)] at hy; cases hy; rw [hx1]; exact ⟨own_mk hown hm9 (fun k e h => by have := (own_lt hown e).2; omega), by show I1.length ≤ _; rw [hlI]; exact (hLS x hmx).it.1, fun y hy => kE y.ex _ (Mo.refl _) (hX1 y hy).1 (hX1 y hy).2⟩
      · rw [if_neg hji] at hy; exact ⟨own_mk (own_mo (hRc j y (by omega) hy).1 M) hm9 (fun k e h => by have := (own_lt (hRc j y (by omega) hy).1 e).2; omega), (hRc j y (by omega) hy).2.1, fun y2 hy2 => kE y2.ex _ M ((hRc j y (by omega) hy).2.2 y2 hy2).1 ((hRc j y (by omega) hy).2.2 y2 hy2).2⟩
    clear M hS
    have M : Mo u42 u42 := Mo.refl _
    refine w_nil ?_
    refine xn_blk ?_
    refine xn_then ?_
    refine w_reg ?_
    refine wl_bin (fun x y => do eqGuard .add 3 (.tmp 10) (.const (.int .i64 (1))) x y; binOp .add 3 x y) (.tmp 10) (.const (.int .i64 (1))) (.int .i64 ((i : Nat) : Int)) (.int .i64 (1)) (.int .i64 ((i + 1 : Nat) : Int)) (fun _ => rfl) e40_i rfl (add1r (k := i) (by omega) _ _ _) rfl ?_
    refine wl_mv (.tmp 23) (.int .i64 ((i + 1 : Nat) : Int)) (fun _ => rfl) rfl rfl ?_
    refine w_nil ?_
    exact xn_loop (L.length - (i + 1)) (by omega) ⟨i + 1, rfl, by omega, e40_3, e40_8, e40_9, rfl, ⟨R.set i x1, by rw [List.length_set]; exact hRl, by rw [set_key hx (by rw [hx1]; unfold key6; simp only [hI1])]; exact hRk, fun j hj => by rw [List.getElem?_set, if_neg (by omega)]; exact hRr j (by omega), hRc1, QR1, MK.trans M⟩⟩
  · skip
    have hid : decide (i < L.length) = false := decide_eq_false hil
    have hie : i = L.length := by omega
    obtain ⟨R, hRl, hRk, hRr, hRc, QR, MK⟩ := hE
    have M : Mo wl40 wl40 := Mo.refl _
    refine w_seq ?_
    refine w_reg ?_
    refine wl_bin (fun x y => do eqGuard .lss 3 (.tmp 10) (.tmp 9) x y; binOp .lss 3 x y) (.tmp 10) (.tmp 9) (.int .i64 ((i : Nat) : Int)) (.int .i64 ((L.length : Nat) : Int)) (.bool false) (fun _ => rfl) e40_i e40_9 (ltN hid _ _ _) rfl ?_
    refine w_nil ?_
    refine xn_then ?_
    refine w_seq ?_
    refine w_condF rfl ?_
    refine w_exit ?_
    refine xx_then ?_
    refine xx_then ?_
    refine xx_blk ?_
    refine xn_then ?_
    refine w_seq ?_
    refine w_reg ?_
    refine wl_mv (.tmp 3) (.slice (some ⟨g, 0, none⟩) L.length cap) (fun _ => rfl) e40_3 rfl ?_
    refine wl_mv (.tmp 24) (.slice (some ⟨g, 0, none⟩) L.length cap) (fun _ => rfl) rfl rfl ?_
    refine w_nil ?_
    refine xn_then ?_
    refine w_ret ?_
    exact w_ret1 _ (.slice (some ⟨g, 0, none⟩) L.length cap) rfl rfl ⟨some ⟨g, 0, none⟩, cap, R, by rw [hRl], by rw [← hL]; exact hRk, SL.of_at (n := 5) (cells := S5.cells) (L := R) (fun _ => rfl) (by unfold maxLen; omega) QR, fun x hx => by obtain ⟨j, hj⟩ := List.getElem?_of_mem hx; have h9 := hRc j x (by have := lt_of_get hj; omega) hj; exact ⟨own_sl (cells := It.cells) It.len h9.2.1 h9.1, fun y hy => (h9.2.2 y hy).1⟩, (MK.trans M).mo (Mo.refl _) (fun _ h => h.elim)⟩
end Go.Proofs.YtepfokoepibkcaaGreat
