/-
  Who reads.
-/
import Derived.Test.YthghblgbjgghcaaUs
namespace Go.Proofs.Ythghblgbjgghcaa
open Go.RowKit D
theorem own_le {w : World} {N N' e sz : Nat} {v : Value} {n : Nat} {xs : List Value} (h : w.ownsRow N e sz v n xs) (hN : N' ≤ N) : w.ownsRow N' e sz v n xs := by
  refine ⟨h.1, ?_⟩
  rcases h.2 with q | ⟨g, cap, cur, r, hg, hb⟩
  · exact Or.inl q
  · exact Or.inr ⟨g, cap, cur, r, Nat.le_trans hN hg, hb⟩
theorem users_n {w : World} {l : List S5} {pl : Option Addr} {cl : Nat} (hL : SL w 5 S5.cells pl l) (hLx : ∀ x ∈ l, LS5 w x) (hz : l.length < 400000) (hzI : nI l < 400000) (hnd : ∀ y ∈ l, ∀ z ∈ y.items, nd z.ex ≤ 3000000) : Calls Try.prog 39 #[.slice pl l.length cl] w fun e w' => ∃ (ku : Nat) (U : List Iz), e = .returned (.slice (some ⟨ku, 0, none⟩) (nI l) (nI l)) ∧ Vs w.heap.size w' ku U ∧ U.map Iz.L = UA (RA l) ∧ w.heap.size ≤ ku ∧ Mo w w' := by
  refine w_enter 40 Try.func39 Try.ntmps39 rfl rfl ?_
  have M : Mo w w := Mo.refl _
  refine w_seq ?_
  refine w_reg ?_
  refine wl_mv (.const (.slice none 0 0)) (.slice none 0 0) (fun _ => rfl) rfl rfl ?_
  refine w_nil ?_
  refine xn_then ?_
  refine w_seq ?_
  refine w_reg ?_
  refine wl_mv (.tmp 0) (.slice pl l.length cl) (fun _ => rfl) rfl rfl ?_
  refine wl_callx 44 [(.tmp 8)] _ [.slice pl l.length cl] rfl rfl (fun _ _ => by kernel_rfl) (readsAll_n (hL.kp M.kp) (fun x hx => (hLx x hx).kp M.kp) hz hzI hnd) rfl ?_
  rintro e9 u1 ⟨ka, V, rfl, hOa, hlia, hVR, hkaN, hq⟩
  refine ⟨_, rfl, ?_⟩
  have hRl := RA_len l
  have hVl : V.length = nI l := by have := congrArg List.length hVR; rw [RA_len] at this; simpa using this
  have M0 := M.trans hq
  clear hq
  have hNR := M0.size
  have hsl := sl_of_ob hOa (by unfold maxLen; omega)
  clear M
  have M : Mo u1 u1 := Mo.refl _
  refine wl_mv (.tmp 9) (.slice (some ⟨ka, 0, none⟩) (nI l) (nI l)) (fun _ => rfl) rfl rfl ?_
  refine w_nil ?_
  refine xn_then ?_
  refine w_seq ?_
  refine w_reg ?_
  refine wl_mv (.tmp 3) (.slice (some ⟨ka, 0, none⟩) (nI l) (nI l)) (fun _ => rfl) rfl rfl ?_
  refine wl_val (.int .i64 (((nI l) : Nat) : Int)) (len79 _ _ _ _ _ (by exact rfl) _ _ _ _ _ _) rfl ?_
  refine wl_makeS 79 32 (.tmp 11) (.tmp 11) ((nI l)) (.slice none 0 0) 24 Try.underlying79 inf32 rfl (by omega) (by omega) rfl rfl rfl rfl ?_
  intro k1 u2 hk hz hq O1
  have Q1 := O1.at
  have N_k1 : u1.heap.size ≤ k1 := by have := M.size; omega
  replace M := M.trans hq
  clear hk hz hq
  refine wl_mv (.tmp 12) (.slice (some ⟨k1, 0, none⟩) (nI l) (nI l)) (fun _ => rfl) rfl rfl ?_
  refine w_nil ?_
  refine xn_then ?_
  refine w_seq ?_
  refine w_seq ?_
  refine w_reg ?_
  refine wl_mv (.tmp 3) (.slice (some ⟨ka, 0, none⟩) (nI l) (nI l)) (fun _ => rfl) rfl rfl ?_
  refine wl_val (.int .i64 (((nI l) : Nat) : Int)) (len79 _ _ _ _ _ (by exact rfl) _ _ _ _ _ _) rfl ?_
  refine wl_mv (.const (.int .i64 (0))) (.int .i64 (0)) (fun _ => rfl) rfl rfl ?_
  refine w_nil ?_
  refine xn_then ?_
  refine w_block ?_
  have hV : Vs u1.heap.size u2 k1 (List.replicate (nI l) ⟨none, 0, []⟩) := Vs.nil (by rw [List.length_replicate]; exact O1) (by simp)
  have hU0 := VU.nil (RA l)
  rw [hRl] at hU0
  refine w_loop (fun m lf w1 => ∃ i : Nat, ∃ U : List Iz, m = nI l - i ∧ look lf 3 = .slice (some ⟨ka, 0, none⟩) (nI l) (nI l) ∧ look lf 4 = .slice (some ⟨k1, 0, none⟩) (nI l) (nI l) ∧ look lf 14 = .int .i64 ((nI l : Nat) : Int) ∧ look lf 15 = .int .i64 ((i : Nat) : Int) ∧ (i ≤ nI l) ∧ (Vs u1.heap.size w1 k1 U) ∧ (VU (RA l) i 0 U) ∧ (Mo u1 w1)) _ ⟨0, _, rfl, rfl, rfl, rfl, rfl, Nat.zero_le _, hV, hU0, M⟩ ?_
  clear hV O1 Q1 M
  rintro m lf40 wl40 ⟨i, U, rfl, e40_3, e40_4, e40_14, e40_15, hi, hV, hU, M⟩
  cases hd : decide (i < nI l) with
  | true =>
    have hil := of_decide_eq_true hd
    obtain ⟨x, hx⟩ := get_of_lt (show i < V.length by omega)
    have hxm := List.mem_of_getElem? hx
    have hxL : row (RA l) i = x.L := row_eq (by rw [← hVR, List.getElem?_map, hx]; rfl)
    have hxz := RA_rowlen hVR x hxm
    have hiV : i < V.length := by omega
    obtain ⟨bp, op, hpp, hRp⟩ := D.SL.rw hsl hx
    refine w_seq ?_
    refine w_reg ?_
    refine wl_bin (fun x y => do eqGuard .lss 3 (.tmp 15) (.tmp 14) x y; binOp .lss 3 x y) (.tmp 15) (.tmp 14) (.int .i64 ((i : Nat) : Int)) (.int .i64 ((nI l : Nat) : Int)) (.bool true) (fun _ => rfl) e40_15 e40_14 (ltN hd _ _ _) rfl ?_
    refine w_nil ?_
    refine xn_then ?_
    refine w_seq ?_
    refine w_condT rfl ?_
    refine w_skip ?_
    refine xn_then ?_
    refine w_seq ?_
    refine w_block ?_
    refine w_seq ?_
    refine w_reg ?_
    refine wl_mv (.tmp 15) (.int .i64 ((i : Nat) : Int)) (fun _ => rfl) e40_15 rfl ?_
    refine wl_mv (.tmp 17) (.int .i64 ((i : Nat) : Int)) (fun _ => rfl) rfl rfl ?_
    refine w_nil ?_
    refine xn_then ?_
    refine w_seq ?_
    refine w_reg ?_
    refine wl_mv (.tmp 3) (.slice (some ⟨ka, 0, none⟩) (nI l) (nI l)) (fun _ => rfl) e40_3 rfl ?_
    refine wl_mv (.tmp 5) (.int .i64 ((i : Nat) : Int)) (fun _ => rfl) rfl rfl ?_
    refine wl_bin (fun x y => Instr.indexAt 79 x y) (.tmp 18) (.tmp 19) (.slice (some ⟨ka, 0, none⟩) (nI l) (nI l)) (.int .i64 ((i : Nat) : Int)) (pt bp (op + i * 1)) (fun _ => rfl) rfl rfl (ix79 (i := i) hpp hil _) rfl ?_
    refine wl_load 32 (.tmp 20) (pt bp (op + i * 1)) (.slice x.pa x.L.length x.cap) rfl rfl (D.run_oneR (hRp.mo M).at' 32 0 rfl Try.underlying32 rfl) rfl ?_
    refine wl_val (.int .i64 ((x.L.length : Nat) : Int)) (len32 _ _ _ _ _ (by exact rfl) _ _ _ _ _ _) rfl ?_
    refine wl_mv (.const (.int .i64 (0))) (.int .i64 (0)) (fun _ => rfl) rfl rfl ?_
    refine w_nil ?_
    refine xn_then ?_
    refine w_block ?_
    have hlx := (hlia x hxm).sl
    refine w_loop (fun m lf w1 => ∃ j : Nat, ∃ U2 : List Iz, m = x.L.length - j ∧ look lf 3 = .slice (some ⟨ka, 0, none⟩) (nI l) (nI l) ∧ look lf 4 = .slice (some ⟨k1, 0, none⟩) (nI l) (nI l) ∧ look lf 14 = .int .i64 ((nI l : Nat) : Int) ∧ look lf 15 = .int .i64 ((i : Nat) : Int) ∧ look lf 5 = .int .i64 ((i : Nat) : Int) ∧ look lf 21 = .slice x.pa x.L.length x.cap ∧ look lf 22 = .int .i64 ((x.L.length : Nat) : Int) ∧ look lf 23 = .int .i64 ((j : Nat) : Int) ∧ (j ≤ x.L.length) ∧ (Vs u1.heap.size w1 k1 U2) ∧ (VU (RA l) i j U2) ∧ (Mo u1 w1)) _ ⟨0, U, rfl, e40_3, e40_4, e40_14, e40_15, rfl, rfl, rfl, rfl, Nat.zero_le _, hV, hU, M⟩ ?_
    clear hV hU M
    rintro m lf70 wl70 ⟨j, U2, rfl, e70_3, e70_4, e70_14, e70_15, e70_5, e70_21, e70_22, e70_23, hj, hV, hU, M⟩
    cases hd2 : decide (j < x.L.length) with
    | true =>
      have hjl := of_decide_eq_true hd2
      obtain ⟨y, hy⟩ := get_of_lt hjl
      have hyr : (row (RA l) i)[j]? = some y := by rw [hxL]; exact hy
      have hyl : y < (RA l).length := (RA_in l).row (List.mem_of_getElem? hyr)
      have hyn : y < nI l := by omega
      obtain ⟨bq, oq, hpq, hRq⟩ := D.SL.rw hlx hy
      refine w_seq ?_
      refine w_reg ?_
      refine wl_bin (fun x y => do eqGuard .lss 3 (.tmp 23) (.tmp 22) x y; binOp .lss 3 x y) (.tmp 23) (.tmp 22) (.int .i64 ((j : Nat) : Int)) (.int .i64 ((x.L.length : Nat) : Int)) (.bool true) (fun _ => rfl) e70_23 e70_22 (ltN hd2 _ _ _) rfl ?_
      refine w_nil ?_
      refine xn_then ?_
      refine w_seq ?_
      refine w_condT rfl ?_
      refine w_skip ?_
      refine xn_then ?_
      refine w_seq ?_
      refine w_block ?_
      refine w_seq ?_
      refine w_reg ?_
      refine wl_bin (fun x y => Instr.indexAt 32 x y) (.tmp 21) (.tmp 23) (.slice x.pa x.L.length x.cap) (.int .i64 ((j : Nat) : Int)) (pt bq (oq + j * 1)) (fun _ => rfl) e70_21 e70_23 (ix32 (i := j) hpq hjl _) rfl ?_
      refine wl_load 3 (.tmp 25) (pt bq (oq + j * 1)) (.int .i64 ((y : Nat) : Int)) rfl rfl (D.run_oneR (hRq.mo M).at' 3 0 rfl Try.underlying3 rfl) rfl ?_
      refine wl_mv (.tmp 26) (.int .i64 ((y : Nat) : Int)) (fun _ => rfl) rfl rfl ?_
      refine w_nil ?_
      refine xn_then ?_
      obtain ⟨vx, hVx, hvL⟩ := hU.get hyl
      have hvm := List.mem_of_getElem? hVx
      have hvx := hV.ow vx hvm
      have hvz : vx.L.length < 4000000 := by rw [hvL]; have := usr_len (RA l) i j y; omega
      have QV := hV.ob.at
      refine w_reg ?_
      refine wl_mv (.tmp 4) (.slice (some ⟨k1, 0, none⟩) (nI l) (nI l)) (fun _ => rfl) e70_4 rfl ?_
      refine wl_mv (.tmp 7) (.int .i64 ((y : Nat) : Int)) (fun _ => rfl) rfl rfl ?_
      refine wl_mv (.tmp 4) (.slice (some ⟨k1, 0, none⟩) (nI l) (nI l)) (fun _ => rfl) e70_4 rfl ?_
      refine wl_mv (.tmp 7) (.int .i64 ((y : Nat) : Int)) (fun _ => rfl) rfl rfl ?_
      refine wl_bin (fun x y => Instr.indexAt 79 x y) (.tmp 29) (.tmp 30) (.slice (some ⟨k1, 0, none⟩) (nI l) (nI l)) (.int .i64 ((y : Nat) : Int)) (pt k1 (0 + y * 1)) (fun _ => rfl) rfl rfl (ix79 (i := y) rfl (by have := hU.len; omega) _) rfl ?_
      refine wl_load 32 (.tmp 31) (pt k1 (0 + y * 1)) (.slice vx.pa vx.L.length vx.cap) rfl rfl (run_one QV 32 (0 + y * 1) (by simp [hVx]) Try.underlying32 rfl) rfl ?_
      refine wl_mv (.tmp 5) (.int .i64 ((i : Nat) : Int)) (fun _ => rfl) e70_5 rfl ?_
      refine wl_bs 32 1 [(0, (.tmp 33))] [(0, .int .i64 ((i : Nat) : Int))] #[.int .i64 ((i : Nat) : Int)] 3 rfl rfl (fun _ => by kernel_rfl) rfl ?_
      intro k2 u71 hk hz hq Q2
      have ne_k1_k2 : k1 ≠ k2 := by have := QV.lt; omega
      have N_k2 : u1.heap.size ≤ k2 := by have := M.size; omega
      replace QV := QV.mo hq
      replace hV := hV.mo hq
      replace hvx := own_mo hvx hq
      replace M := M.trans hq
      clear hk hz hq
      refine wl_apI (.tmp 32) (.tmp 34) k2 rfl rfl rfl hvx Q2 hvz M.size rfl ?_
      intro pv2 cv2 u72 hW2 hK9 hv9
      have hap2 : ∀ k, obk pv2 (vx.L ++ [i]).length cv2 = some k → vx.b = some k ∨ u71.heap.size ≤ k := fun k e => by rcases hv9 with q | q; (exact Or.inl (q.symm.trans e)); (rw [q] at e; cases e; exact Or.inr (Nat.le_refl _))
      have hV0 := hV
      have hOb := hV.ob.mk hK9 (fun e => by have := (hV.b3 hvm e).two hV.ob.ty; cases this)
      replace M := own_gap hvx hK9 (Nat.le_refl _) M
      clear QV hvx
      have QV := hOb.at
      clear hv9
      refine wl_bin (fun x y => Instr.indexAt 79 x y) (.tmp 27) (.tmp 28) (.slice (some ⟨k1, 0, none⟩) (nI l) (nI l)) (.int .i64 ((y : Nat) : Int)) (pt k1 (0 + y * 1)) (fun _ => rfl) rfl rfl (ix79 (i := y) rfl (by have := hU.len; omega) _) rfl ?_
      refine wl_sti 32 (.tmp 36) (.tmp 35) k1 (0 + y * 1) (.slice pv2 (vx.L ++ [i]).length cv2) 32 (U2.map Iz.v) hOb rfl rfl rfl rfl (by simp; have := hU.len; omega) sz32 rfl rfl rfl ?_
      intro u73 hK8 hOb2
      replace M := hK8.mo M (fun k e => e ▸ N_k1)
      have hV1 := hV0.app hVx hK9 hW2 hap2 hK8 (by simpa using hOb2)
      replace hU := hU.more (RA_nd l i) hyr hyl hVx pv2 cv2
      clear hV hV0 hOb hOb2 hK8 hK9 hW2 hap2 QV hVx hvL hvm hvz
      have hV := hV1
      clear hV1
      refine w_nil ?_
      refine xn_blk ?_
      refine xn_then ?_
      refine w_reg ?_
      refine wl_bin (fun x y => do eqGuard .add 3 (.tmp 23) (.const (.int .i64 (1))) x y; binOp .add 3 x y) (.tmp 23) (.const (.int .i64 (1))) (.int .i64 ((j : Nat) : Int)) (.int .i64 (1)) (.int .i64 ((j + 1 : Nat) : Int)) (fun _ => rfl) e70_23 rfl (add1r (k := j) (by omega) _ _ _) rfl ?_
      refine wl_mv (.tmp 37) (.int .i64 ((j + 1 : Nat) : Int)) (fun _ => rfl) rfl rfl ?_
      refine w_nil ?_
      exact xn_loop (x.L.length - (j + 1)) (by omega) ⟨j + 1, _, rfl, e70_3, e70_4, e70_14, e70_15, e70_5, e70_21, e70_22, rfl, by omega, hV, hU, M⟩
    | false =>
      have hje : j = (row (RA l) i).length := by have := of_decide_eq_false hd2; rw [hxL]; omega
      rw [hje] at hU
      replace hU := hU.next
      refine w_seq ?_
      refine w_reg ?_
      refine wl_bin (fun x y => do eqGuard .lss 3 (.tmp 23) (.tmp 22) x y; binOp .lss 3 x y) (.tmp 23) (.tmp 22) (.int .i64 ((j : Nat) : Int)) (.int .i64 ((x.L.length : Nat) : Int)) (.bool false) (fun _ => rfl) e70_23 e70_22 (ltN hd2 _ _ _) rfl ?_
      refine w_nil ?_
      refine xn_then ?_
      refine w_seq ?_
      refine w_condF rfl ?_
      refine w_exit ?_
      refine xx_then ?_
      refine xx_then ?_
      refine xx_blk ?_
      refine xn_blk ?_
      refine xn_then ?_
      refine w_reg ?_
      refine wl_bin (fun x y => do eqGuard .add 3 (.tmp 15) (.const (.int .i64 (1))) x y; binOp .add 3 x y) (.tmp 15) (.const (.int .i64 (1))) (.int .i64 ((i : Nat) : Int)) (.int .i64 (1)) (.int .i64 ((i + 1 : Nat) : Int)) (fun _ => rfl) e70_15 rfl (add1r (k := i) (by omega) _ _ _) rfl ?_
      refine wl_mv (.tmp 38) (.int .i64 ((i + 1 : Nat) : Int)) (fun _ => rfl) rfl rfl ?_
      refine w_nil ?_
      exact xn_loop (nI l - (i + 1)) (by omega) ⟨i + 1, U2, rfl, e70_3, e70_4, e70_14, rfl, by omega, hV, hU, M⟩
  | false =>
    have hie : i = (RA l).length := by have := of_decide_eq_false hd; omega
    rw [hie] at hU
    refine w_seq ?_
    refine w_reg ?_
    refine wl_bin (fun x y => do eqGuard .lss 3 (.tmp 15) (.tmp 14) x y; binOp .lss 3 x y) (.tmp 15) (.tmp 14) (.int .i64 ((i : Nat) : Int)) (.int .i64 ((nI l : Nat) : Int)) (.bool false) (fun _ => rfl) e40_15 e40_14 (ltN hd _ _ _) rfl ?_
    refine w_nil ?_
    refine xn_then ?_
    refine w_seq ?_
    refine w_condF rfl ?_
    refine w_exit ?_
    refine xx_then ?_
    refine xx_then ?_
    refine xx_blk ?_
    refine xn_then ?_
    refine w_seq ?_
    refine w_reg ?_
    refine wl_mv (.tmp 4) (.slice (some ⟨k1, 0, none⟩) (nI l) (nI l)) (fun _ => rfl) e40_4 rfl ?_
    refine wl_mv (.tmp 39) (.slice (some ⟨k1, 0, none⟩) (nI l) (nI l)) (fun _ => rfl) rfl rfl ?_
    refine w_nil ?_
    refine xn_then ?_
    refine w_ret ?_
    exact w_ret1 _ (.slice (some ⟨k1, 0, none⟩) (nI l) (nI l)) rfl rfl ⟨k1, U, rfl, ⟨hV.ob, fun x hx => own_le (hV.ow x hx) hNR, hV.ap⟩, hU.all, Nat.le_trans hNR N_k1, M0.trans M⟩
end Go.Proofs.Ythghblgbjgghcaa
