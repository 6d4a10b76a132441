/-
  Small laws for the law of orders. The law of orders.
-/
import Derived.Test.YthghblgbjgghcaaFz
import Derived.Test.YthghblgbjgghcaaG26
namespace Go.Proofs.Ythghblgbjgghcaa
open Go.RowKit D Go.Lib
theorem own_cap {w : World} {N e sz : Nat} {α : Type} {cells : α → List Value} {pv : Option Addr} {cv : Nat} {L : List α} (h : Ow N e sz cells w pv cv L) : L.length ≤ cv := by
  rcases h.2 with ⟨e1, h0⟩ | ⟨g, cap, cur, e1, _, _, hn, _⟩
  · omega
  · cases e1; exact hn
theorem Cl.miss {w : World} {mb : Nat} {K : List Nat} (h : Cl w mb K) {a : Nat} (ha : a ∉ K) : (Instr.lookup 49 (.map (some mb)) (.int .i64 ((a : Nat) : Int)) false).run Try.prog w = .ok (.bool false) w := by
  have h1 := h.look B.kt3 Try.underlying49 ((a : Nat) : Int) false
  rw [lkq_prs, if_neg ha] at h1
  exact h1
theorem ins_take {L : List Nat} {i x : Nat} (hn : L.Nodup) (hx : L[i]? = some x) : x ∉ L.take i ∧ ins (L.take i) x = L.take (i + 1) := by
  have h : x ∉ L.take i := fun q => by
    obtain ⟨k, hk, e⟩ := List.mem_iff_getElem.1 q
    have hk2 : k < i := by simp at hk; omega
    have hil := lt_of_get hx
    rw [List.getElem_take] at e
    have e2 : L[i] = x := by rw [List.getElem?_eq_getElem hil] at hx; exact Option.some.inj hx
    have := (List.pairwise_iff_getElem.1 hn) k i (by omega) hil hk2
    exact this (by rw [e, e2])
  refine ⟨h, ?_⟩
  unfold ins
  rw [if_neg h, List.take_add_one, hx]; rfl
theorem before_n {rs L : List Nat} (hw : L.Pairwise (fun a b => cfO rs a b < 0)) {i x y : Nat} (hx : L[i]? = some x) (hy : y ∈ L) (h : cfO rs y x < 0) : y ∈ L.take i := by
  obtain ⟨k, hk, rfl⟩ := List.mem_iff_getElem.1 hy
  have hil := lt_of_get hx
  have e2 : L[i] = x := by rw [List.getElem?_eq_getElem hil] at hx; exact Option.some.inj hx
  rcases Nat.lt_trichotomy k i with q | q | q
  · have h9 : (L.take i)[k]? = some L[k] := by rw [List.getElem?_take_of_lt q, List.getElem?_eq_getElem hk]
    exact List.mem_of_getElem? h9
  · subst q; rw [e2, cfO_lt] at h; omega
  · have := (List.pairwise_iff_getElem.1 hw) i k hil hk q
    rw [e2] at this
    rw [cfO_lt] at h this; omega
theorem read_lt {R : List (List Nat)} {rs : List Nat} (hrs : ∀ n r, rs[n]? = some r → RkS R n r) {x y : Nat} (hx : x < rs.length) (hy : y < rs.length) (h : y ∈ row R x) : cfO rs y x < 0 := by
  obtain ⟨r1, h1⟩ := get_of_lt hx
  obtain ⟨r2, h2⟩ := get_of_lt hy
  obtain ⟨r', q1, q2⟩ := (Rch.one h).rank (hrs x r1 h1)
  have e := (hrs y r2 h2).one q1
  rw [cfO_lt]
  left
  simp only [List.getD, h1, h2, Option.getD_some]
  omega
end Go.Proofs.Ythghblgbjgghcaa
namespace Go.Proofs.Ythghblgbjgghcaa
open Go.RowKit D
theorem sz46 : (Try.prog.info? 46).map (·.size) = some 7 := by kernel_rfl
theorem LSe.kp2 {w w' : World} (m : Kp w w') {s : Se} (h : LSe w s) : LSe w' s := h.kp m
theorem flatd_n {w : World} {d : Df} (hD : LSe w d.rt) (hS : SB d.rt) (hT : tI d.rt < 400000) : Calls Try.prog 27 #[.agg #[.string d.nm, .string d.rt.nm, .int .i64 d.rt.mx, .slice d.rt.pi d.rt.items.length d.rt.ci, .slice d.rt.pk d.rt.kids.length d.rt.ck, .slice d.pt d.tb.length d.ct, .slice d.pp d.pg.length d.cp]] w fun e w' => ∃ (l : List S5) (pl : Option Addr) (cl : Nat), e = .returned (.slice pl l.length cl) ∧ Ow w.heap.size 55 5 S5.cells w' pl cl l ∧ l.length ≤ 64 ∧ Gq w l ∧ nI l < 400000 ∧ Mo w w' := by
  refine w_enter 6 Try.func27 Try.ntmps27 rfl rfl ?_
  have M : Mo w w := Mo.refl _
  refine w_seq ?_
  refine w_reg ?_
  refine wl_box 46 (.tmp 0) (.agg #[.string d.nm, .string d.rt.nm, .int .i64 d.rt.mx, .slice d.rt.pi d.rt.items.length d.rt.ci, .slice d.rt.pk d.rt.kids.length d.rt.ck, .slice d.pt d.tb.length d.ct, .slice d.pp d.pg.length d.cp]) (#[.string d.nm, .string d.rt.nm, .int .i64 d.rt.mx, .slice d.rt.pi d.rt.items.length d.rt.ci, .slice d.rt.pk d.rt.kids.length d.rt.ck, .slice d.pt d.tb.length d.ct, .slice d.pp d.pg.length d.cp]) rfl rfl (fun _ => by kernel_rfl) rfl ?_
  intro k1 u1 hk hz hq Q1
  have N_k1 : w.heap.size ≤ k1 := by have := M.size; omega
  replace M := M.trans hq
  clear hk hz hq
  refine wl_mv (.const (.slice none 0 0)) (.slice none 0 0) (fun _ => rfl) rfl rfl ?_
  refine w_nil ?_
  refine xn_then ?_
  refine w_seq ?_
  refine w_reg ?_
  refine wl_un (fun v => Instr.fieldAt 46 v 1) (.tmp 1) (pt k1 0) (pt k1 1) (fun _ => rfl) rfl (by kernel_rfl) rfl ?_
  refine wl_load 42 (.tmp 3) (pt k1 1) (.agg #[.string d.rt.nm, .int .i64 d.rt.mx, .slice d.rt.pi d.rt.items.length d.rt.ci, .slice d.rt.pk d.rt.kids.length d.rt.ck]) rfl rfl (run_row Q1 42 1 4 [.string d.rt.nm, .int .i64 d.rt.mx, .slice d.rt.pi d.rt.items.length d.rt.ci, .slice d.rt.pk d.rt.kids.length d.rt.ck] rfl Try.underlying42 rfl sz42) rfl ?_
  refine wl_callx 50 [(.const (.slice none 0 0)), (.tmp 4), (.const (.int .i64 (-1))), (.const (.int .i64 (1)))] _ [.slice none 0 0, .agg #[.string d.rt.nm, .int .i64 d.rt.mx, .slice d.rt.pi d.rt.items.length d.rt.ci, .slice d.rt.pk d.rt.kids.length d.rt.ck], .int .i64 (-1), .int .i64 (1)] rfl rfl (fun _ _ => by kernel_rfl) ((flat_n (N := w.heap.size) (dp := 1) (acc := []) (pv := none) (cv := 0) d.rt hD hS M.kp (Nat.le_refl _) M.size (Ow.nil _ _ _ _ _) (Nat.zero_le _) ⟨fun x hx => (by cases hx), fun x hx => (by cases hx), fun x hx => (by cases hx)⟩)) rfl ?_
  rintro e9 u2 ⟨l, pl, cl, rfl, hO, hl, hG, hn, hm9, _⟩
  refine ⟨_, rfl, ?_⟩
  have M9 := hm9.mo M (fun k e => by cases e)
  clear M
  have M := M9
  refine wl_mv (.tmp 5) (.slice pl l.length cl) (fun _ => rfl) rfl rfl ?_
  refine w_nil ?_
  refine xn_then ?_
  refine w_ret ?_
  exact w_ret1 _ (.slice pl l.length cl) rfl rfl ⟨l, pl, cl, rfl, hO, hl, hG, (by have e0 : nI ([] : List S5) = 0 := rfl; omega), M⟩
theorem row_len (l : List S5) (x : Nat) : (row (RA l) x).length ≤ nI l := by
  rcases Nat.lt_or_ge x (RA l).length with h | h
  · obtain ⟨L, hL⟩ := get_of_lt h
    rw [row_eq hL]
    have h1 := List.mem_of_getElem? hL
    unfold RA at h1
    obtain ⟨s, _, h1⟩ := List.mem_flatMap.1 h1
    obtain ⟨z, _, e⟩ := List.mem_map.1 h1
    rw [← e]; exact rdI_len _ _ _ _
  · unfold row; rw [List.getElem?_eq_none h]; exact Nat.zero_le _
theorem ord_n {w : World} {d : Df} (hD : LSe w d.rt) (hS : SB d.rt) (hT : tI d.rt < 400000) : Calls Try.prog 5 #[.agg #[.string d.nm, .string d.rt.nm, .int .i64 d.rt.mx, .slice d.rt.pi d.rt.items.length d.rt.ci, .slice d.rt.pk d.rt.kids.length d.rt.ck, .slice d.pt d.tb.length d.ct, .slice d.pp d.pg.length d.cp]] w fun e w' => e = .returned (.bool true) ∧ Mo w w' := by
  refine w_enter 61 Try.func5 Try.ntmps5 rfl rfl ?_
  have M : Mo w w := Mo.refl _
  refine w_seq ?_
  refine w_reg ?_
  refine wl_boxO 46 (.tmp 0) (.agg #[.string d.nm, .string d.rt.nm, .int .i64 d.rt.mx, .slice d.rt.pi d.rt.items.length d.rt.ci, .slice d.rt.pk d.rt.kids.length d.rt.ck, .slice d.pt d.tb.length d.ct, .slice d.pp d.pg.length d.cp]) [.string d.nm, .string d.rt.nm, .int .i64 d.rt.mx, .slice d.rt.pi d.rt.items.length d.rt.ci, .slice d.rt.pk d.rt.kids.length d.rt.ck, .slice d.pt d.tb.length d.ct, .slice d.pp d.pg.length d.cp] rfl rfl (fun _ => by kernel_rfl) rfl ?_
  intro k1 u1 hk hz9 hq O1
  have Q1 := O1.at
  have N_k1 : w.heap.size ≤ k1 := by have := M.size; omega
  replace M := M.trans hq
  clear hk hz9 hq
  refine wl_mv (.const (.bool false)) (.bool false) (fun _ => rfl) rfl rfl ?_
  refine w_nil ?_
  refine xn_then ?_
  refine w_seq ?_
  refine w_reg ?_
  refine wl_load 46 (.tmp 1) (pt k1 0) (.agg #[.string d.nm, .string d.rt.nm, .int .i64 d.rt.mx, .slice d.rt.pi d.rt.items.length d.rt.ci, .slice d.rt.pk d.rt.kids.length d.rt.ck, .slice d.pt d.tb.length d.ct, .slice d.pp d.pg.length d.cp]) rfl rfl (run_row Q1 46 0 7 [.string d.nm, .string d.rt.nm, .int .i64 d.rt.mx, .slice d.rt.pi d.rt.items.length d.rt.ci, .slice d.rt.pk d.rt.kids.length d.rt.ck, .slice d.pt d.tb.length d.ct, .slice d.pp d.pg.length d.cp] rfl Try.underlying46 rfl sz46) rfl ?_
  have MS := M.size
  refine wl_callx 27 [(.tmp 11)] _ [.agg #[.string d.nm, .string d.rt.nm, .int .i64 d.rt.mx, .slice d.rt.pi d.rt.items.length d.rt.ci, .slice d.rt.pk d.rt.kids.length d.rt.ck, .slice d.pt d.tb.length d.ct, .slice d.pp d.pg.length d.cp]] rfl rfl (fun _ _ => by kernel_rfl) (flatd_n (LSe.kp2 M.kp hD) hS hT) rfl ?_
  rintro e9 u2 ⟨l, pl, cl, rfl, hO, hl, hG, hzI, hq⟩
  refine ⟨_, rfl, ?_⟩
  have M0 := M.trans hq
  have hL := own_sl (cells := S5.cells) (fun _ => rfl) (by unfold maxLen; omega) hO
  have hcl := own_cap hO
  have hLx : ∀ x ∈ l, LS5 u2 x := fun x hx => ((hG.lx x hx).kp hq.kp)
  have hnd := hG.nd
  have hci := hG.ci
  have hz : l.length < 400000 := by omega
  clear hq hO
  clear M
  have M : Mo u2 u2 := Mo.refl _
  refine wl_mv (.tmp 12) (.slice pl l.length cl) (fun _ => rfl) rfl rfl ?_
  refine w_nil ?_
  refine xn_then ?_
  refine w_seq ?_
  refine w_seq ?_
  refine w_reg ?_
  refine wl_mv (.tmp 3) (.slice pl l.length cl) (fun _ => rfl) rfl rfl ?_
  refine wl_callx 8 [(.tmp 13)] _ [.slice pl l.length cl] rfl rfl (fun _ _ => by kernel_rfl) (small_n (hL.kp M.kp) (fun x hx => (hLx x hx).kp M.kp) hcl hci) rfl ?_
  rintro e9 u3 ⟨bs, rfl, hq⟩
  refine ⟨_, rfl, ?_⟩
  replace M := M.trans hq
  clear hq
  cases bs with
  | true =>
    refine wl_un (fun v => Op.unary .not v) (.tmp 14) (.bool true) (.bool false) (fun _ => rfl) rfl (by kernel_rfl) rfl ?_
    refine wl_mv (.tmp 15) (.bool false) (fun _ => rfl) rfl rfl ?_
    refine wl_callx 9 [] _ [] rfl rfl (fun _ _ => by kernel_rfl) (live_n _) rfl ?_
    rintro e9 u4 ⟨rfl, hq⟩
    refine ⟨_, rfl, ?_⟩
    replace M := M.trans hq
    clear hq
    refine wl_un (fun v => Op.unary .not v) (.tmp 17) (.bool true) (.bool false) (fun _ => rfl) rfl (by kernel_rfl) rfl ?_
    refine wl_pick (.tmp 16) (.const (.bool true)) (.tmp 18) false (.bool false) (fun _ => rfl) rfl rfl rfl ?_
    refine w_nil ?_
    refine xn_then ?_
    refine w_condF rfl ?_
    refine w_skip ?_
    refine xn_then ?_
    refine w_seq ?_
    rcases Classical.em (∃ n, n < nI l ∧ RkN (RA l) n) with hN | hN
    · skip
      refine w_reg ?_
      refine wl_mv (.tmp 3) (.slice pl l.length cl) (fun _ => rfl) rfl rfl ?_
      refine wl_callx 23 [(.tmp 22)] _ [.slice pl l.length cl] rfl rfl (fun _ _ => by kernel_rfl) ((order_stuck (hL.kp M.kp) (fun x hx => (hLx x hx).kp M.kp) hz hzI hnd hN)) rfl ?_
      rintro e9 u5 ⟨rfl, hq⟩
      refine ⟨_, rfl, ?_⟩
      replace M := M.trans hq
      clear hq
      refine wl_mv (.tmp 23) (.tuple #[.slice none 0 0, .int .i64 (110)]) (fun _ => rfl) rfl rfl ?_
      refine wl_un (fun v => Instr.extract v 0) (.tmp 21) (.tuple #[.slice none 0 0, .int .i64 (110)]) (.slice none 0 0) (fun _ => rfl) rfl (by kernel_rfl) rfl ?_
      refine wl_un (fun v => Instr.extract v 1) (.tmp 21) (.tuple #[.slice none 0 0, .int .i64 (110)]) (.int .i64 (110)) (fun _ => rfl) rfl (by kernel_rfl) rfl ?_
      refine wl_mv (.tmp 24) (.slice none 0 0) (fun _ => rfl) rfl rfl ?_
      refine wl_mv (.tmp 25) (.int .i64 (110)) (fun _ => rfl) rfl rfl ?_
      refine w_nil ?_
      refine xn_then ?_
      refine w_seq ?_
      refine w_seq ?_
      refine w_reg ?_
      refine wl_mv (.tmp 5) (.int .i64 (110)) (fun _ => rfl) rfl rfl ?_
      refine wl_bin (fun x y => do eqGuard .neq 35 (.tmp 26) (.const (.int .i64 (0))) x y; binOp .neq 35 x y) (.tmp 26) (.const (.int .i64 (0))) (.int .i64 (110)) (.int .i64 (0)) (.bool true) (fun _ => rfl) rfl rfl (ne34 (r := false) rfl _ _ _) rfl ?_
      refine w_nil ?_
      refine xn_then ?_
      refine w_condT rfl ?_
      refine w_seq ?_
      refine w_reg ?_
      refine wl_mv (.tmp 5) (.int .i64 (110)) (fun _ => rfl) rfl rfl ?_
      refine wl_bin (fun x y => do eqGuard .eql 35 (.tmp 28) (.const (.int .i64 (110))) x y; binOp .eql 35 x y) (.tmp 28) (.const (.int .i64 (110))) (.int .i64 (110)) (.int .i64 (110)) (.bool true) (fun _ => rfl) rfl rfl (eq34 (r := true) rfl _ _ _) rfl ?_
      refine wl_mv (.tmp 29) (.bool true) (fun _ => rfl) rfl rfl ?_
      refine w_nil ?_
      refine xn_then ?_
      refine w_ret ?_
      refine xr_then ?_
      exact w_ret1 _ (.bool true) rfl rfl ⟨rfl, M0.trans M⟩
    · skip
      refine w_reg ?_
      refine wl_mv (.tmp 3) (.slice pl l.length cl) (fun _ => rfl) rfl rfl ?_
      refine wl_callx 23 [(.tmp 22)] _ [.slice pl l.length cl] rfl rfl (fun _ _ => by kernel_rfl) ((order_ok (hL.kp M.kp) (fun x hx => (hLx x hx).kp M.kp) hz hzI hnd hN)) rfl ?_
      rintro e9 u5 ⟨ko, rs, L, hrl, hrs, hp, hpw, rfl, hOo, hko, hq⟩
      refine ⟨_, rfl, ?_⟩
      have hLl : L.length = rs.length := by have := hp.length_eq; simpa using this
      rw [← hLl]
      replace M := M.trans hq
      clear hq
      have hLn : L.Nodup := hp.nodup_iff.2 List.nodup_range
      have hLb : ∀ x ∈ L, x < nI l := fun x hx => by have := List.mem_range.1 (hp.mem_iff.1 hx); omega
      have hLi := (Li.ob hOo (by unfold maxLen; omega)).sl
      have hle : decide (((L.length : Nat) : Int) = (((nI l) : Nat) : Int)) = true := decide_eq_true (by rw [hLl, hrl])
      refine wl_mv (.tmp 23) (.tuple #[.slice (some ⟨ko, 0, none⟩) L.length L.length, .int .i64 (0)]) (fun _ => rfl) rfl rfl ?_
      refine wl_un (fun v => Instr.extract v 0) (.tmp 21) (.tuple #[.slice (some ⟨ko, 0, none⟩) L.length L.length, .int .i64 (0)]) (.slice (some ⟨ko, 0, none⟩) L.length L.length) (fun _ => rfl) rfl (by kernel_rfl) rfl ?_
      refine wl_un (fun v => Instr.extract v 1) (.tmp 21) (.tuple #[.slice (some ⟨ko, 0, none⟩) L.length L.length, .int .i64 (0)]) (.int .i64 (0)) (fun _ => rfl) rfl (by kernel_rfl) rfl ?_
      refine wl_mv (.tmp 24) (.slice (some ⟨ko, 0, none⟩) L.length L.length) (fun _ => rfl) rfl rfl ?_
      refine wl_mv (.tmp 25) (.int .i64 (0)) (fun _ => rfl) rfl rfl ?_
      refine w_nil ?_
      refine xn_then ?_
      refine w_seq ?_
      refine w_seq ?_
      refine w_reg ?_
      refine wl_mv (.tmp 5) (.int .i64 (0)) (fun _ => rfl) rfl rfl ?_
      refine wl_bin (fun x y => do eqGuard .neq 35 (.tmp 26) (.const (.int .i64 (0))) x y; binOp .neq 35 x y) (.tmp 26) (.const (.int .i64 (0))) (.int .i64 (0)) (.int .i64 (0)) (.bool false) (fun _ => rfl) rfl rfl (ne34 (r := true) rfl _ _ _) rfl ?_
      refine w_nil ?_
      refine xn_then ?_
      refine w_condF rfl ?_
      refine w_skip ?_
      refine xn_then ?_
      refine w_seq ?_
      refine w_seq ?_
      refine w_reg ?_
      refine wl_mv (.tmp 4) (.slice (some ⟨ko, 0, none⟩) L.length L.length) (fun _ => rfl) rfl rfl ?_
      refine wl_val (.int .i64 ((L.length : Nat) : Int)) (len32 _ _ _ _ _ (by exact rfl) _ _ _ _ _ _) rfl ?_
      refine wl_mv (.tmp 3) (.slice pl l.length cl) (fun _ => rfl) rfl rfl ?_
      refine wl_callx 28 [(.tmp 32)] _ [.slice pl l.length cl] rfl rfl (fun _ _ => by kernel_rfl) (many_n (hL.kp M.kp) hz hzI) rfl ?_
      rintro e9 u6 ⟨rfl, hq⟩
      refine ⟨_, rfl, ?_⟩
      replace hLi := hLi.kp hq.kp
      replace hOo := hOo.mo hq
      replace M := M.trans hq
      clear hq
      refine wl_bin (fun x y => do eqGuard .neq 3 (.tmp 31) (.tmp 33) x y; binOp .neq 3 x y) (.tmp 31) (.tmp 33) (.int .i64 ((L.length : Nat) : Int)) (.int .i64 (((nI l) : Nat) : Int)) (.bool false) (fun _ => rfl) rfl rfl (ne3 hle _ _ _) rfl ?_
      refine w_nil ?_
      refine xn_then ?_
      refine w_condF rfl ?_
      refine w_skip ?_
      refine xn_then ?_
      refine w_seq ?_
      refine w_reg ?_
      refine B.wl_mmq ei 49 rfl rfl ?_
      intro mb u7 hk hz9 hq hC
      have N_mb : u2.heap.size ≤ mb := by have := M.size; omega
      replace hLi := hLi.kp hq.kp
      replace hOo := hOo.mo hq
      replace M := M.trans hq
      clear hk hz9 hq
      refine wl_mv (.tmp 35) (.map (some mb)) (fun _ => rfl) rfl rfl ?_
      refine w_nil ?_
      refine xn_then ?_
      refine w_seq ?_
      refine w_seq ?_
      refine w_reg ?_
      refine wl_mv (.tmp 4) (.slice (some ⟨ko, 0, none⟩) L.length L.length) (fun _ => rfl) rfl rfl ?_
      refine wl_val (.int .i64 ((L.length : Nat) : Int)) (len32 _ _ _ _ _ (by exact rfl) _ _ _ _ _ _) rfl ?_
      refine wl_mv (.const (.int .i64 (0))) (.int .i64 (0)) (fun _ => rfl) rfl rfl ?_
      refine w_nil ?_
      refine xn_then ?_
      refine w_block ?_
      refine w_loop (fun m lf w1 => ∃ i : Nat, m = L.length - i ∧ look lf 3 = .slice pl l.length cl ∧ look lf 6 = .map (some mb) ∧ look lf 36 = .slice (some ⟨ko, 0, none⟩) L.length L.length ∧ look lf 37 = .int .i64 ((L.length : Nat) : Int) ∧ look lf 38 = .int .i64 ((i : Nat) : Int) ∧ (i ≤ L.length) ∧ (Ob w1 ko 3 (L.map iv)) ∧ (Cl w1 mb (L.take i)) ∧ (Mo u2 w1)) _ ⟨0, rfl, rfl, rfl, rfl, rfl, rfl, Nat.zero_le _, hOo, hC, M⟩ ?_
      clear hOo hC hLi M
      rintro m lf40 wl40 ⟨i, rfl, e40_3, e40_6, e40_36, e40_37, e40_38, hi, hOo, hC, M⟩
      have MA := M
      clear M
      have M : Mo wl40 wl40 := Mo.refl _
      cases hd : decide (i < L.length) with
      | true =>
        have hil := of_decide_eq_true hd
        obtain ⟨x, hx⟩ := get_of_lt hil
        have hxm := List.mem_of_getElem? hx
        have hxb := hLb x hxm
        have hLi := (Li.ob hOo (by unfold maxLen; omega)).sl
        obtain ⟨bp, op, hpp, hRp⟩ := D.SL.rw hLi hx
        refine w_seq ?_
        refine w_reg ?_
        refine wl_bin (fun x y => do eqGuard .lss 3 (.tmp 38) (.tmp 37) x y; binOp .lss 3 x y) (.tmp 38) (.tmp 37) (.int .i64 ((i : Nat) : Int)) (.int .i64 ((L.length : Nat) : Int)) (.bool true) (fun _ => rfl) e40_38 e40_37 (ltN hd _ _ _) rfl ?_
        refine w_nil ?_
        refine xn_then ?_
        refine w_seq ?_
        refine w_condT rfl ?_
        refine w_skip ?_
        refine xn_then ?_
        refine w_seq ?_
        refine w_block ?_
        refine w_seq ?_
        refine w_reg ?_
        refine wl_bin (fun x y => Instr.indexAt 32 x y) (.tmp 36) (.tmp 38) (.slice (some ⟨ko, 0, none⟩) L.length L.length) (.int .i64 ((i : Nat) : Int)) (pt bp (op + i * 1)) (fun _ => rfl) e40_36 e40_38 (ix32 (i := i) hpp hil _) rfl ?_
        refine wl_load 3 (.tmp 40) (pt bp (op + i * 1)) (.int .i64 ((x : Nat) : Int)) rfl rfl (D.run_oneR (hRp.mo M).at' 3 0 rfl Try.underlying3 rfl) rfl ?_
        refine wl_mv (.tmp 41) (.int .i64 ((x : Nat) : Int)) (fun _ => rfl) rfl rfl ?_
        refine w_nil ?_
        refine xn_then ?_
        refine w_seq ?_
        refine w_seq ?_
        refine w_reg ?_
        refine wl_mv (.tmp 3) (.slice pl l.length cl) (fun _ => rfl) e40_3 rfl ?_
        refine wl_mv (.tmp 8) (.int .i64 ((x : Nat) : Int)) (fun _ => rfl) rfl rfl ?_
        have M0s := (MA.trans M).size
        refine wl_callx 15 [(.tmp 42), (.tmp 43)] _ [.slice pl l.length cl, .int .i64 ((x : Nat) : Int)] rfl rfl (fun _ _ => by kernel_rfl) ((reads15_n (hL.kp (MA.trans M).kp) (fun x hx => (hLx x hx).kp (MA.trans M).kp) hz hzI hnd hxb)) rfl ?_
        rintro e9 u41 ⟨pr, cr, rfl, hOr, hq⟩
        refine ⟨_, rfl, ?_⟩
        have hrl9 : (row (RA l) x).length ≤ nI l := row_len l x
        replace hC := hC.mo hq
        replace M := M.trans hq
        clear hq
        replace hOr := own_le hOr M0s
        refine wl_val (.int .i64 (((row (RA l) x).length : Nat) : Int)) (len32 _ _ _ _ _ (by exact rfl) _ _ _ _ _ _) rfl ?_
        refine wl_mv (.const (.int .i64 (0))) (.int .i64 (0)) (fun _ => rfl) rfl rfl ?_
        refine w_nil ?_
        refine xn_then ?_
        refine w_block ?_
        have M9 := MA.trans M
        have hOo8 := hOo.mo M
        have hOr8 := own_le (N' := w.heap.size) hOr (by have := M0.size; omega)
        refine w_loop (fun m lf w1 => ∃ j : Nat, m = (row (RA l) x).length - j ∧ look lf 3 = .slice pl l.length cl ∧ look lf 6 = .map (some mb) ∧ look lf 36 = .slice (some ⟨ko, 0, none⟩) L.length L.length ∧ look lf 37 = .int .i64 ((L.length : Nat) : Int) ∧ look lf 38 = .int .i64 ((i : Nat) : Int) ∧ look lf 8 = .int .i64 ((x : Nat) : Int) ∧ look lf 44 = .slice pr (row (RA l) x).length cr ∧ look lf 45 = .int .i64 (((row (RA l) x).length : Nat) : Int) ∧ look lf 46 = .int .i64 ((j : Nat) : Int) ∧ (j ≤ (row (RA l) x).length) ∧ (Ob w1 ko 3 (L.map iv)) ∧ (Ow w.heap.size 3 1 ic w1 pr cr (row (RA l) x)) ∧ (Cl w1 mb (L.take i)) ∧ (Mo u2 w1)) _ ⟨0, rfl, e40_3, e40_6, e40_36, e40_37, e40_38, rfl, rfl, rfl, rfl, Nat.zero_le _, hOo8, hOr8, hC, M9⟩ ?_
        clear hOo hOr hOo8 hOr8 hC M9 MA M
        rintro m lf70 wl70 ⟨j, rfl, e70_3, e70_6, e70_36, e70_37, e70_38, e70_8, e70_44, e70_45, e70_46, hj, hOo, hOr, hC, M⟩
        have MA := M
        clear M
        have M : Mo wl70 wl70 := Mo.refl _
        cases hd2 : decide (j < (row (RA l) x).length) with
        | true =>
          have hjl := of_decide_eq_true hd2
          obtain ⟨y, hy⟩ := get_of_lt hjl
          have hyr := List.mem_of_getElem? hy
          have hyb : y < nI l := by rw [← RA_len]; exact (RA_in l).row hyr
          have hyK : y ∈ L.take i := before_n hpw hx (hp.mem_iff.2 (List.mem_range.2 (by omega))) (read_lt hrs (by omega) (by omega) hyr)
          have hsb := (Li.own hOr (by unfold maxLen; omega)).sl
          obtain ⟨bq, oq, hpq, hRq⟩ := D.SL.rw hsb hy
          refine w_seq ?_
          refine w_reg ?_
          refine wl_bin (fun x y => do eqGuard .lss 3 (.tmp 46) (.tmp 45) x y; binOp .lss 3 x y) (.tmp 46) (.tmp 45) (.int .i64 ((j : Nat) : Int)) (.int .i64 (((row (RA l) x).length : Nat) : Int)) (.bool true) (fun _ => rfl) e70_46 e70_45 (ltN hd2 _ _ _) rfl ?_
          refine w_nil ?_
          refine xn_then ?_
          refine w_seq ?_
          refine w_condT rfl ?_
          refine w_skip ?_
          refine xn_then ?_
          refine w_seq ?_
          refine w_block ?_
          refine w_seq ?_
          refine w_reg ?_
          refine wl_bin (fun x y => Instr.indexAt 32 x y) (.tmp 44) (.tmp 46) (.slice pr (row (RA l) x).length cr) (.int .i64 ((j : Nat) : Int)) (pt bq (oq + j * 1)) (fun _ => rfl) e70_44 e70_46 (ix32 (i := j) hpq hjl _) rfl ?_
          refine wl_load 3 (.tmp 48) (pt bq (oq + j * 1)) (.int .i64 ((y : Nat) : Int)) rfl rfl (D.run_oneR (hRq.mo M).at' 3 0 rfl Try.underlying3 rfl) rfl ?_
          refine wl_mv (.tmp 49) (.int .i64 ((y : Nat) : Int)) (fun _ => rfl) rfl rfl ?_
          refine w_nil ?_
          refine xn_then ?_
          refine w_seq ?_
          refine w_reg ?_
          refine wl_mv (.tmp 6) (.map (some mb)) (fun _ => rfl) e70_6 rfl ?_
          refine wl_mv (.tmp 10) (.int .i64 ((y : Nat) : Int)) (fun _ => rfl) rfl rfl ?_
          refine wl_val (.bool true) (lkp 49 (.tmp 50) (.tmp 51) false (.map (some mb)) (.int .i64 ((y : Nat) : Int)) (.bool true) rfl rfl rfl (hC.hit hyK)) rfl ?_
          refine wl_un (fun v => Op.unary .not v) (.tmp 52) (.bool true) (.bool false) (fun _ => rfl) rfl (by kernel_rfl) rfl ?_
          refine w_nil ?_
          refine xn_then ?_
          refine w_condF rfl ?_
          refine w_skip ?_
          refine xn_blk ?_
          refine xn_then ?_
          refine w_reg ?_
          refine wl_bin (fun x y => do eqGuard .add 3 (.tmp 46) (.const (.int .i64 (1))) x y; binOp .add 3 x y) (.tmp 46) (.const (.int .i64 (1))) (.int .i64 ((j : Nat) : Int)) (.int .i64 (1)) (.int .i64 ((j + 1 : Nat) : Int)) (fun _ => rfl) e70_46 rfl (add1r (k := j) (by omega) _ _ _) rfl ?_
          refine wl_mv (.tmp 54) (.int .i64 ((j + 1 : Nat) : Int)) (fun _ => rfl) rfl rfl ?_
          refine w_nil ?_
          exact xn_loop ((row (RA l) x).length - (j + 1)) (by omega) ⟨j + 1, rfl, e70_3, e70_6, e70_36, e70_37, e70_38, e70_8, e70_44, e70_45, rfl, by omega, hOo.mo M, hOr, hC, MA.trans M⟩
        | false =>
          refine w_seq ?_
          refine w_reg ?_
          refine wl_bin (fun x y => do eqGuard .lss 3 (.tmp 46) (.tmp 45) x y; binOp .lss 3 x y) (.tmp 46) (.tmp 45) (.int .i64 ((j : Nat) : Int)) (.int .i64 (((row (RA l) x).length : Nat) : Int)) (.bool false) (fun _ => rfl) e70_46 e70_45 (ltN hd2 _ _ _) rfl ?_
          refine w_nil ?_
          refine xn_then ?_
          refine w_seq ?_
          refine w_condF rfl ?_
          refine w_exit ?_
          refine xx_then ?_
          refine xx_then ?_
          refine xx_blk ?_
          refine xn_then ?_
          refine w_seq ?_
          refine w_seq ?_
          refine w_reg ?_
          refine wl_mv (.tmp 6) (.map (some mb)) (fun _ => rfl) e70_6 rfl ?_
          refine wl_mv (.tmp 8) (.int .i64 ((x : Nat) : Int)) (fun _ => rfl) e70_8 rfl ?_
          refine wl_val (.bool false) (lkp 49 (.tmp 55) (.tmp 56) false (.map (some mb)) (.int .i64 ((x : Nat) : Int)) (.bool false) rfl rfl rfl (hC.miss (ins_take hLn hx).1)) rfl ?_
          refine w_nil ?_
          refine xn_then ?_
          refine w_condF rfl ?_
          refine w_skip ?_
          refine xn_then ?_
          refine w_reg ?_
          refine wl_mv (.tmp 6) (.map (some mb)) (fun _ => rfl) e70_6 rfl ?_
          refine wl_mv (.tmp 8) (.int .i64 ((x : Nat) : Int)) (fun _ => rfl) e70_8 rfl ?_
          refine B.wl_mupq (al := prs (L.take i)) (.tmp 58) (.tmp 59) (.const (.bool true)) ((x : Nat) : Int) true hC B.kt3 Try.underlying49 rfl rfl rfl rfl rfl rfl ?_
          intro u71 hC9 hK9
          rw [put_prs, (ins_take hLn hx).2] at hC9
          have hOo9 := (hOo.mo M).mk hK9 (fun e => (hC.nec (hOo.mo M)) e)
          replace MA := hK9.mo (MA.trans M) (fun k e => e ▸ N_mb)
          clear hC hK9
          have hC := hC9
          clear hC9
          clear M
          have M : Mo u71 u71 := Mo.refl _
          refine w_nil ?_
          refine xn_blk ?_
          refine xn_then ?_
          refine w_reg ?_
          refine wl_bin (fun x y => do eqGuard .add 3 (.tmp 38) (.const (.int .i64 (1))) x y; binOp .add 3 x y) (.tmp 38) (.const (.int .i64 (1))) (.int .i64 ((i : Nat) : Int)) (.int .i64 (1)) (.int .i64 ((i + 1 : Nat) : Int)) (fun _ => rfl) e70_38 rfl (add1r (k := i) (by omega) _ _ _) rfl ?_
          refine wl_mv (.tmp 60) (.int .i64 ((i + 1 : Nat) : Int)) (fun _ => rfl) rfl rfl ?_
          refine w_nil ?_
          exact xn_loop (L.length - (i + 1)) (by omega) ⟨i + 1, rfl, e70_3, e70_6, e70_36, e70_37, rfl, by omega, hOo9.mo M, hC, MA.trans M⟩
      | false =>
        refine w_seq ?_
        refine w_reg ?_
        refine wl_bin (fun x y => do eqGuard .lss 3 (.tmp 38) (.tmp 37) x y; binOp .lss 3 x y) (.tmp 38) (.tmp 37) (.int .i64 ((i : Nat) : Int)) (.int .i64 ((L.length : Nat) : Int)) (.bool false) (fun _ => rfl) e40_38 e40_37 (ltN hd _ _ _) rfl ?_
        refine w_nil ?_
        refine xn_then ?_
        refine w_seq ?_
        refine w_condF rfl ?_
        refine w_exit ?_
        refine xx_then ?_
        refine xx_then ?_
        refine xx_blk ?_
        refine xn_then ?_
        refine w_seq ?_
        refine w_reg ?_
        refine wl_mv (.const (.bool true)) (.bool true) (fun _ => rfl) rfl rfl ?_
        refine w_nil ?_
        refine xn_then ?_
        refine w_ret ?_
        exact w_ret1 _ (.bool true) rfl rfl ⟨rfl, M0.trans (MA.trans M)⟩
  | false =>
    refine wl_un (fun v => Op.unary .not v) (.tmp 14) (.bool false) (.bool true) (fun _ => rfl) rfl (by kernel_rfl) rfl ?_
    refine wl_mv (.tmp 15) (.bool true) (fun _ => rfl) rfl rfl ?_
    refine wl_skip rfl ?_
    refine wl_skip rfl ?_
    refine wl_pick (.tmp 16) (.const (.bool true)) (.tmp 18) true (.bool true) (fun _ => rfl) rfl rfl rfl ?_
    refine w_nil ?_
    refine xn_then ?_
    refine w_condT rfl ?_
    refine w_seq ?_
    refine w_reg ?_
    refine wl_callx 9 [] _ [] rfl rfl (fun _ _ => by kernel_rfl) (live_n _) rfl ?_
    rintro e9 u4 ⟨rfl, hq⟩
    refine ⟨_, rfl, ?_⟩
    replace M := M.trans hq
    clear hq
    refine wl_mv (.tmp 20) (.bool true) (fun _ => rfl) rfl rfl ?_
    refine w_nil ?_
    refine xn_then ?_
    refine w_ret ?_
    refine xr_then ?_
    exact w_ret1 _ (.bool true) rfl rfl ⟨rfl, M0.trans M⟩
end Go.Proofs.Ythghblgbjgghcaa
