/-
  Who reads. Who reads by more steps. All that read an item by one step or more.
-/
import Derived.Test.YthghblgbjgghcaaUs
namespace Go.Proofs.Ythghblgbjgghcaa
open Go.RowKit D
theorem own_le {w : World} {N N' e sz : Nat} {v : Value} {n : Nat} {xs : List Value} (h : w.ownsRow N e sz v n xs) (hN : N' ≤ N) : w.ownsRow N' e sz v n xs := by
  refine ⟨h.1, ?_⟩
  rcases h.2 with q | ⟨g, cap, cur, r, hg, hb⟩
  · exact Or.inl q
  · exact Or.inr ⟨g, cap, cur, r, Nat.le_trans hN hg, hb⟩
theorem users_n {w : World} {l : List S5} {pl : Option Addr} {cl : Nat} (hL : SL w 5 S5.cells pl l) (hLx : ∀ x ∈ l, LS5 w x) (hz : l.length < 400000) (hzI : nI l < 400000) (hnd : ∀ y ∈ l, ∀ z ∈ y.items, nd z.ex ≤ 3000000) : Calls Try.prog 39 #[.slice pl l.length cl] w fun e w' => ∃ (ku : Nat) (U : List Iz), e = .returned (.slice (some ⟨ku, 0, none⟩) (nI l) (nI l)) ∧ Vs w.heap.size w' ku U ∧ U.map Iz.L = UA (RA l) ∧ w.heap.size ≤ ku ∧ Mo w w' := by
  refine w_enter 40 Try.func39 Try.ntmps39 rfl rfl ?_
  have M : Mo w w := Mo.refl _
  refine w_seq ?_
  refine w_reg ?_
  refine wl_mv (.const (.slice none 0 0)) (.slice none 0 0) (fun _ => rfl) rfl rfl ?_
  refine w_nil ?_
  refine xn_then ?_
  refine w_seq ?_
  refine w_reg ?_
  refine wl_mv (.tmp 0) (.slice pl l.length cl) (fun _ => rfl) rfl rfl ?_
  refine wl_callx 44 [(.tmp 8)] _ [.slice pl l.length cl] rfl rfl (fun _ _ => by kernel_rfl) (readsAll_n (hL.kp M.kp) (fun x hx => (hLx x hx).kp M.kp) hz hzI hnd) rfl ?_
  rintro e9 u1 ⟨ka, V, rfl, hOa, hlia, hVR, hkaN, hq⟩
  refine ⟨_, rfl, ?_⟩
  have hRl := RA_len l
  have hVl : V.length = nI l := by have := congrArg List.length hVR; rw [RA_len] at this; simpa using this
  have M0 := M.trans hq
  clear hq
  have hNR := M0.size
  have hsl := sl_of_ob hOa (by unfold maxLen; omega)
  clear M
  have M : Mo u1 u1 := Mo.refl _
  refine wl_mv (.tmp 9) (.slice (some ⟨ka, 0, none⟩) (nI l) (nI l)) (fun _ => rfl) rfl rfl ?_
  refine w_nil ?_
  refine xn_then ?_
  refine w_seq ?_
  refine w_reg ?_
  refine wl_mv (.tmp 3) (.slice (some ⟨ka, 0, none⟩) (nI l) (nI l)) (fun _ => rfl) rfl rfl ?_
  refine wl_val (.int .i64 (((nI l) : Nat) : Int)) (len79 _ _ _ _ _ (by exact rfl) _ _ _ _ _ _) rfl ?_
  refine wl_makeS 79 32 (.tmp 11) (.tmp 11) ((nI l)) (.slice none 0 0) 24 Try.underlying79 inf32 rfl (by omega) (by omega) rfl rfl rfl rfl ?_
  intro k1 u2 hk hz hq O1
  have Q1 := O1.at
  have N_k1 : u1.heap.size ≤ k1 := by have := M.size; omega
  replace M := M.trans hq
  clear hk hz hq
  refine wl_mv (.tmp 12) (.slice (some ⟨k1, 0, none⟩) (nI l) (nI l)) (fun _ => rfl) rfl rfl ?_
  refine w_nil ?_
  refine xn_then ?_
  refine w_seq ?_
  refine w_seq ?_
  refine w_reg ?_
  refine wl_mv (.tmp 3) (.slice (some ⟨ka, 0, none⟩) (nI l) (nI l)) (fun _ => rfl) rfl rfl ?_
  refine wl_val (.int .i64 (((nI l) : Nat) : Int)) (len79 _ _ _ _ _ (by exact rfl) _ _ _ _ _ _) rfl ?_
  refine wl_mv (.const (.int .i64 (0))) (.int .i64 (0)) (fun _ => rfl) rfl rfl ?_
  refine w_nil ?_
  refine xn_then ?_
  refine w_block ?_
  have hV : Vs u1.heap.size u2 k1 (List.replicate (nI l) ⟨none, 0, []⟩) := Vs.nil (by rw [List.length_replicate]; exact O1) (by simp)
  have hU0 := VU.nil (RA l)
  rw [hRl] at hU0
  refine w_loop (fun m lf w1 => ∃ i : Nat, ∃ U : List Iz, m = nI l - i ∧ look lf 3 = .slice (some ⟨ka, 0, none⟩) (nI l) (nI l) ∧ look lf 4 = .slice (some ⟨k1, 0, none⟩) (nI l) (nI l) ∧ look lf 14 = .int .i64 ((nI l : Nat) : Int) ∧ look lf 15 = .int .i64 ((i : Nat) : Int) ∧ (i ≤ nI l) ∧ (Vs u1.heap.size w1 k1 U) ∧ (VU (RA l) i 0 U) ∧ (Mo u1 w1)) _ ⟨0, _, rfl, rfl, rfl, rfl, rfl, Nat.zero_le _, hV, hU0, M⟩ ?_
  clear hV O1 Q1 M
  rintro m lf40 wl40 ⟨i, U, rfl, e40_3, e40_4, e40_14, e40_15, hi, hV, hU, M⟩
  cases hd : decide (i < nI l) with
  | true =>
    have hil := of_decide_eq_true hd
    obtain ⟨x, hx⟩ := get_of_lt (show i < V.length by omega)
    have hxm := List.mem_of_getElem? hx
    have hxL : row (RA l) i = x.L := row_eq (by rw [← hVR, List.getElem?_map, hx]; rfl)
    have hxz := RA_rowlen hVR x hxm
    have hiV : i < V.length := by omega
    obtain ⟨bp, op, hpp, hRp⟩ := D.SL.rw hsl hx
    refine w_seq ?_
    refine w_reg ?_
    refine wl_bin (fun x y => do eqGuard .lss 3 (.tmp 15) (.tmp 14) x y; binOp .lss 3 x y) (.tmp 15) (.tmp 14) (.int .i64 ((i : Nat) : Int)) (.int .i64 ((nI l : Nat) : Int)) (.bool true) (fun _ => rfl) e40_15 e40_14 (ltN hd _ _ _) rfl ?_
    refine w_nil ?_
    refine xn_then ?_
    refine w_seq ?_
    refine w_condT rfl ?_
    refine w_skip ?_
    refine xn_then ?_
    refine w_seq ?_
    refine w_block ?_
    refine w_seq ?_
    refine w_reg ?_
    refine wl_mv (.tmp 15) (.int .i64 ((i : Nat) : Int)) (fun _ => rfl) e40_15 rfl ?_
    refine wl_mv (.tmp 17) (.int .i64 ((i : Nat) : Int)) (fun _ => rfl) rfl rfl ?_
    refine w_nil ?_
    refine xn_then ?_
    refine w_seq ?_
    refine w_reg ?_
    refine wl_mv (.tmp 3) (.slice (some ⟨ka, 0, none⟩) (nI l) (nI l)) (fun _ => rfl) e40_3 rfl ?_
    refine wl_mv (.tmp 5) (.int .i64 ((i : Nat) : Int)) (fun _ => rfl) rfl rfl ?_
    refine wl_bin (fun x y => Instr.indexAt 79 x y) (.tmp 18) (.tmp 19) (.slice (some ⟨ka, 0, none⟩) (nI l) (nI l)) (.int .i64 ((i : Nat) : Int)) (pt bp (op + i * 1)) (fun _ => rfl) rfl rfl (ix79 (i := i) hpp hil _) rfl ?_
    refine wl_load 32 (.tmp 20) (pt bp (op + i * 1)) (.slice x.pa x.L.length x.cap) rfl rfl (D.run_oneR (hRp.mo M).at' 32 0 rfl Try.underlying32 rfl) rfl ?_
    refine wl_val (.int .i64 ((x.L.length : Nat) : Int)) (len32 _ _ _ _ _ (by exact rfl) _ _ _ _ _ _) rfl ?_
    refine wl_mv (.const (.int .i64 (0))) (.int .i64 (0)) (fun _ => rfl) rfl rfl ?_
    refine w_nil ?_
    refine xn_then ?_
    refine w_block ?_
    have hlx := (hlia x hxm).sl
    refine w_loop (fun m lf w1 => ∃ j : Nat, ∃ U2 : List Iz, m = x.L.length - j ∧ look lf 3 = .slice (some ⟨ka, 0, none⟩) (nI l) (nI l) ∧ look lf 4 = .slice (some ⟨k1, 0, none⟩) (nI l) (nI l) ∧ look lf 14 = .int .i64 ((nI l : Nat) : Int) ∧ look lf 15 = .int .i64 ((i : Nat) : Int) ∧ look lf 5 = .int .i64 ((i : Nat) : Int) ∧ look lf 21 = .slice x.pa x.L.length x.cap ∧ look lf 22 = .int .i64 ((x.L.length : Nat) : Int) ∧ look lf 23 = .int .i64 ((j : Nat) : Int) ∧ (j ≤ x.L.length) ∧ (Vs u1.heap.size w1 k1 U2) ∧ (VU (RA l) i j U2) ∧ (Mo u1 w1)) _ ⟨0, U, rfl, e40_3, e40_4, e40_14, e40_15, rfl, rfl, rfl, rfl, Nat.zero_le _, hV, hU, M⟩ ?_
    clear hV hU M
    rintro m lf70 wl70 ⟨j, U2, rfl, e70_3, e70_4, e70_14, e70_15, e70_5, e70_21, e70_22, e70_23, hj, hV, hU, M⟩
    cases hd2 : decide (j < x.L.length) with
    | true =>
      have hjl := of_decide_eq_true hd2
      obtain ⟨y, hy⟩ := get_of_lt hjl
      have hyr : (row (RA l) i)[j]? = some y := by rw [hxL]; exact hy
      have hyl : y < (RA l).length := (RA_in l).row (List.mem_of_getElem? hyr)
      have hyn : y < nI l := by omega
      obtain ⟨bq, oq, hpq, hRq⟩ := D.SL.rw hlx hy
      refine w_seq ?_
      refine w_reg ?_
      refine wl_bin (fun x y => do eqGuard .lss 3 (.tmp 23) (.tmp 22) x y; binOp .lss 3 x y) (.tmp 23) (.tmp 22) (.int .i64 ((j : Nat) : Int)) (.int .i64 ((x.L.length : Nat) : Int)) (.bool true) (fun _ => rfl) e70_23 e70_22 (ltN hd2 _ _ _) rfl ?_
      refine w_nil ?_
      refine xn_then ?_
      refine w_seq ?_
      refine w_condT rfl ?_
      refine w_skip ?_
      refine xn_then ?_
      refine w_seq ?_
      refine w_block ?_
      refine w_seq ?_
      refine w_reg ?_
      refine wl_bin (fun x y => Instr.indexAt 32 x y) (.tmp 21) (.tmp 23) (.slice x.pa x.L.length x.cap) (.int .i64 ((j : Nat) : Int)) (pt bq (oq + j * 1)) (fun _ => rfl) e70_21 e70_23 (ix32 (i := j) hpq hjl _) rfl ?_
      refine wl_load 3 (.tmp 25) (pt bq (oq + j * 1)) (.int .i64 ((y : Nat) : Int)) rfl rfl (D.run_oneR (hRq.mo M).at' 3 0 rfl Try.underlying3 rfl) rfl ?_
      refine wl_mv (.tmp 26) (.int .i64 ((y : Nat) : Int)) (fun _ => rfl) rfl rfl ?_
      refine w_nil ?_
      refine xn_then ?_
      obtain ⟨vx, hVx, hvL⟩ := hU.get hyl
      have hvm := List.mem_of_getElem? hVx
      have hvx := hV.ow vx hvm
      have hvz : vx.L.length < 4000000 := by rw [hvL]; have := usr_len (RA l) i j y; omega
      have QV := hV.ob.at
      refine w_reg ?_
      refine wl_mv (.tmp 4) (.slice (some ⟨k1, 0, none⟩) (nI l) (nI l)) (fun _ => rfl) e70_4 rfl ?_
      refine wl_mv (.tmp 7) (.int .i64 ((y : Nat) : Int)) (fun _ => rfl) rfl rfl ?_
      refine wl_mv (.tmp 4) (.slice (some ⟨k1, 0, none⟩) (nI l) (nI l)) (fun _ => rfl) e70_4 rfl ?_
      refine wl_mv (.tmp 7) (.int .i64 ((y : Nat) : Int)) (fun _ => rfl) rfl rfl ?_
      refine wl_bin (fun x y => Instr.indexAt 79 x y) (.tmp 29) (.tmp 30) (.slice (some ⟨k1, 0, none⟩) (nI l) (nI l)) (.int .i64 ((y : Nat) : Int)) (pt k1 (0 + y * 1)) (fun _ => rfl) rfl rfl (ix79 (i := y) rfl (by have := hU.len; omega) _) rfl ?_
      refine wl_load 32 (.tmp 31) (pt k1 (0 + y * 1)) (.slice vx.pa vx.L.length vx.cap) rfl rfl (run_one QV 32 (0 + y * 1) (by simp [hVx]) Try.underlying32 rfl) rfl ?_
      refine wl_mv (.tmp 5) (.int .i64 ((i : Nat) : Int)) (fun _ => rfl) e70_5 rfl ?_
      refine wl_bs 32 1 [(0, (.tmp 33))] [(0, .int .i64 ((i : Nat) : Int))] #[.int .i64 ((i : Nat) : Int)] 3 rfl rfl (fun _ => by kernel_rfl) rfl ?_
      intro k2 u71 hk hz hq Q2
      have ne_k1_k2 : k1 ≠ k2 := by have := QV.lt; omega
      have N_k2 : u1.heap.size ≤ k2 := by have := M.size; omega
      replace QV := QV.mo hq
      replace hV := hV.mo hq
      replace hvx := own_mo hvx hq
      replace M := M.trans hq
      clear hk hz hq
      refine wl_apI (.tmp 32) (.tmp 34) k2 rfl rfl rfl hvx Q2 hvz M.size rfl ?_
      intro pv2 cv2 u72 hW2 hK9 hv9
      have hap2 : ∀ k, obk pv2 (vx.L ++ [i]).length cv2 = some k → vx.b = some k ∨ u71.heap.size ≤ k := fun k e => by rcases hv9 with q | q; (exact Or.inl (q.symm.trans e)); (rw [q] at e; cases e; exact Or.inr (Nat.le_refl _))
      have hV0 := hV
      have hOb := hV.ob.mk hK9 (fun e => by have := (hV.b3 hvm e).two hV.ob.ty; cases this)
      replace M := own_gap hvx hK9 (Nat.le_refl _) M
      clear QV hvx
      have QV := hOb.at
      clear hv9
      refine wl_bin (fun x y => Instr.indexAt 79 x y) (.tmp 27) (.tmp 28) (.slice (some ⟨k1, 0, none⟩) (nI l) (nI l)) (.int .i64 ((y : Nat) : Int)) (pt k1 (0 + y * 1)) (fun _ => rfl) rfl rfl (ix79 (i := y) rfl (by have := hU.len; omega) _) rfl ?_
      refine wl_sti 32 (.tmp 36) (.tmp 35) k1 (0 + y * 1) (.slice pv2 (vx.L ++ [i]).length cv2) 32 (U2.map Iz.v) hOb rfl rfl rfl rfl (by simp; have := hU.len; omega) sz32 rfl rfl rfl ?_
      intro u73 hK8 hOb2
      replace M := hK8.mo M (fun k e => e ▸ N_k1)
      have hV1 := hV0.app hVx hK9 hW2 hap2 hK8 (by simpa using hOb2)
      replace hU := hU.more (RA_nd l i) hyr hyl hVx pv2 cv2
      clear hV hV0 hOb hOb2 hK8 hK9 hW2 hap2 QV hVx hvL hvm hvz
      have hV := hV1
      clear hV1
      refine w_nil ?_
      refine xn_blk ?_
      refine xn_then ?_
      refine w_reg ?_
      refine wl_bin (fun x y => do eqGuard .add 3 (.tmp 23) (.const (.int .i64 (1))) x y; binOp .add 3 x y) (.tmp 23) (.const (.int .i64 (1))) (.int .i64 ((j : Nat) : Int)) (.int .i64 (1)) (.int .i64 ((j + 1 : Nat) : Int)) (fun _ => rfl) e70_23 rfl (add1r (k := j) (by omega) _ _ _) rfl ?_
      refine wl_mv (.tmp 37) (.int .i64 ((j + 1 : Nat) : Int)) (fun _ => rfl) rfl rfl ?_
      refine w_nil ?_
      exact xn_loop (x.L.length - (j + 1)) (by omega) ⟨j + 1, _, rfl, e70_3, e70_4, e70_14, e70_15, e70_5, e70_21, e70_22, rfl, by omega, hV, hU, M⟩
    | false =>
      have hje : j = (row (RA l) i).length := by have := of_decide_eq_false hd2; rw [hxL]; omega
      rw [hje] at hU
      replace hU := hU.next
      refine w_seq ?_
      refine w_reg ?_
      refine wl_bin (fun x y => do eqGuard .lss 3 (.tmp 23) (.tmp 22) x y; binOp .lss 3 x y) (.tmp 23) (.tmp 22) (.int .i64 ((j : Nat) : Int)) (.int .i64 ((x.L.length : Nat) : Int)) (.bool false) (fun _ => rfl) e70_23 e70_22 (ltN hd2 _ _ _) rfl ?_
      refine w_nil ?_
      refine xn_then ?_
      refine w_seq ?_
      refine w_condF rfl ?_
      refine w_exit ?_
      refine xx_then ?_
      refine xx_then ?_
      refine xx_blk ?_
      refine xn_blk ?_
      refine xn_then ?_
      refine w_reg ?_
      refine wl_bin (fun x y => do eqGuard .add 3 (.tmp 15) (.const (.int .i64 (1))) x y; binOp .add 3 x y) (.tmp 15) (.const (.int .i64 (1))) (.int .i64 ((i : Nat) : Int)) (.int .i64 (1)) (.int .i64 ((i + 1 : Nat) : Int)) (fun _ => rfl) e70_15 rfl (add1r (k := i) (by omega) _ _ _) rfl ?_
      refine wl_mv (.tmp 38) (.int .i64 ((i + 1 : Nat) : Int)) (fun _ => rfl) rfl rfl ?_
      refine w_nil ?_
      exact xn_loop (nI l - (i + 1)) (by omega) ⟨i + 1, U2, rfl, e70_3, e70_4, e70_14, rfl, by omega, hV, hU, M⟩
  | false =>
    have hie : i = (RA l).length := by have := of_decide_eq_false hd; omega
    rw [hie] at hU
    refine w_seq ?_
    refine w_reg ?_
    refine wl_bin (fun x y => do eqGuard .lss 3 (.tmp 15) (.tmp 14) x y; binOp .lss 3 x y) (.tmp 15) (.tmp 14) (.int .i64 ((i : Nat) : Int)) (.int .i64 ((nI l : Nat) : Int)) (.bool false) (fun _ => rfl) e40_15 e40_14 (ltN hd _ _ _) rfl ?_
    refine w_nil ?_
    refine xn_then ?_
    refine w_seq ?_
    refine w_condF rfl ?_
    refine w_exit ?_
    refine xx_then ?_
    refine xx_then ?_
    refine xx_blk ?_
    refine xn_then ?_
    refine w_seq ?_
    refine w_reg ?_
    refine wl_mv (.tmp 4) (.slice (some ⟨k1, 0, none⟩) (nI l) (nI l)) (fun _ => rfl) e40_4 rfl ?_
    refine wl_mv (.tmp 39) (.slice (some ⟨k1, 0, none⟩) (nI l) (nI l)) (fun _ => rfl) rfl rfl ?_
    refine w_nil ?_
    refine xn_then ?_
    refine w_ret ?_
    exact w_ret1 _ (.slice (some ⟨k1, 0, none⟩) (nI l) (nI l)) rfl rfl ⟨k1, U, rfl, ⟨hV.ob, fun x hx => own_le (hV.ow x hx) hNR, hV.ap⟩, hU.all, Nat.le_trans hNR N_k1, M0.trans M⟩
end Go.Proofs.Ythghblgbjgghcaa
namespace Go.Proofs.Ythghblgbjgghcaa
open Go.RowKit D
theorem users_nat {w : World} {l : List S5} {pl : Option Addr} {cl : Nat} (hL : SL w 5 S5.cells pl l) (hLx : ∀ x ∈ l, LS5 w x) (hz : l.length < 400000) (hzI : nI l < 400000) (hnd : ∀ y ∈ l, ∀ z ∈ y.items, nd z.ex ≤ 3000000) (m : Nat) : Calls Try.prog 17 #[.slice pl l.length cl, .int .i64 ((m : Nat) : Int)] w fun e w' => ∃ (pa : Option Addr) (cap : Nat), e = .returned (.slice pa (ris (nI l) (fun u => decide (m ∈ row (RA l) u))).length cap) ∧ Ow w.heap.size 3 1 ic w' pa cap (ris (nI l) (fun u => decide (m ∈ row (RA l) u))) ∧ Mo w w' := by
  by_cases hm : m < nI l
  · have hge : decide ((((nI l) : Nat) : Int) ≤ ((m : Nat) : Int)) = false := decide_eq_false (by omega)
    have hlt : decide (m < 0) = false := decide_eq_false (by omega)
    refine w_enter 20 Try.func17 Try.ntmps17 rfl rfl ?_
    have M : Mo w w := Mo.refl _
    refine w_seq ?_
    refine w_reg ?_
    refine wl_mv (.const (.slice none 0 0)) (.slice none 0 0) (fun _ => rfl) rfl rfl ?_
    refine w_nil ?_
    refine xn_then ?_
    refine w_seq ?_
    refine w_reg ?_
    refine wl_mv (.tmp 0) (.slice pl l.length cl) (fun _ => rfl) rfl rfl ?_
    refine wl_callx 39 [(.tmp 6)] _ [.slice pl l.length cl] rfl rfl (fun _ _ => by kernel_rfl) (users_n (hL.kp M.kp) (fun x hx => (hLx x hx).kp M.kp) hz hzI hnd) rfl ?_
    rintro e9 u1 ⟨ku, U, rfl, hV, hUU, hkuN, hq⟩
    refine ⟨_, rfl, ?_⟩
    have hUl : U.length = nI l := by have := congrArg List.length hUU; rw [UA_len, RA_len] at this; simpa using this
    replace M := M.trans hq
    clear hq
    refine wl_mv (.tmp 7) (.slice (some ⟨ku, 0, none⟩) (nI l) (nI l)) (fun _ => rfl) rfl rfl ?_
    refine w_nil ?_
    refine xn_then ?_
    refine w_seq ?_
    refine w_seq ?_
    refine w_reg ?_
    refine wl_mv (.tmp 1) (.int .i64 ((m : Nat) : Int)) (fun _ => rfl) rfl rfl ?_
    refine wl_bin (fun x y => do eqGuard .lss 3 (.tmp 8) (.const (.int .i64 (0))) x y; binOp .lss 3 x y) (.tmp 8) (.const (.int .i64 (0))) (.int .i64 ((m : Nat) : Int)) (.int .i64 (0)) (.bool false) (fun _ => rfl) rfl rfl (ltN hlt _ _ _) rfl ?_
    refine wl_mv (.tmp 9) (.bool false) (fun _ => rfl) rfl rfl ?_
    refine wl_mv (.tmp 1) (.int .i64 ((m : Nat) : Int)) (fun _ => rfl) rfl rfl ?_
    refine wl_mv (.tmp 5) (.slice (some ⟨ku, 0, none⟩) (nI l) (nI l)) (fun _ => rfl) rfl rfl ?_
    refine wl_val (.int .i64 (((nI l) : Nat) : Int)) (len79 _ _ _ _ _ (by exact rfl) _ _ _ _ _ _) rfl ?_
    refine wl_bin (fun x y => do eqGuard .geq 3 (.tmp 11) (.tmp 13) x y; binOp .geq 3 x y) (.tmp 11) (.tmp 13) (.int .i64 ((m : Nat) : Int)) (.int .i64 (((nI l) : Nat) : Int)) (.bool false) (fun _ => rfl) rfl rfl (ge3 hge _ _ _) rfl ?_
    refine wl_pick (.tmp 10) (.const (.bool true)) (.tmp 14) false (.bool false) (fun _ => rfl) rfl rfl rfl ?_
    refine w_nil ?_
    refine xn_then ?_
    refine w_condF rfl ?_
    refine w_skip ?_
    refine xn_then ?_
    refine w_seq ?_
    have hmR : m < (RA l).length := by rw [RA_len]; exact hm
    obtain ⟨x, hx⟩ := get_of_lt (show m < U.length by omega)
    have hxL : x.L = (ris (nI l) (fun u => decide (m ∈ row (RA l) u))) := by rw [← RA_len l, ← UA_row hmR]; exact (row_eq (by rw [← hUU, List.getElem?_map, hx]; rfl)).symm
    have QV := hV.ob.at
    refine w_reg ?_
    refine wl_mv (.tmp 5) (.slice (some ⟨ku, 0, none⟩) (nI l) (nI l)) (fun _ => rfl) rfl rfl ?_
    refine wl_mv (.tmp 1) (.int .i64 ((m : Nat) : Int)) (fun _ => rfl) rfl rfl ?_
    refine wl_bin (fun x y => Instr.indexAt 79 x y) (.tmp 16) (.tmp 17) (.slice (some ⟨ku, 0, none⟩) (nI l) (nI l)) (.int .i64 ((m : Nat) : Int)) (pt ku (0 + m * 1)) (fun _ => rfl) rfl rfl (ix79 (i := m) rfl (by omega) _) rfl ?_
    refine wl_load 32 (.tmp 18) (pt ku (0 + m * 1)) (.slice x.pa x.L.length x.cap) rfl rfl (run_one QV 32 (0 + m * 1) (by simp [hx]) Try.underlying32 rfl) rfl ?_
    refine wl_mv (.tmp 19) (.slice x.pa x.L.length x.cap) (fun _ => rfl) rfl rfl ?_
    refine w_nil ?_
    refine xn_then ?_
    refine w_ret ?_
    exact w_ret1 _ (.slice x.pa x.L.length x.cap) rfl rfl ⟨x.pa, x.cap, by rw [hxL], (by have := hV.ow x (List.mem_of_getElem? hx); rw [hxL] at this; exact this), M⟩
  · have hge : decide ((((nI l) : Nat) : Int) ≤ ((m : Nat) : Int)) = true := decide_eq_true (by omega)
    have hlt : decide (m < 0) = false := decide_eq_false (by omega)
    have hnil : (ris (nI l) (fun u => decide (m ∈ row (RA l) u))) = [] := by unfold ris; rw [List.filter_eq_nil_iff]; intro u _ h; have := (RA_in l).row (of_decide_eq_true h); rw [RA_len] at this; omega
    refine w_enter 20 Try.func17 Try.ntmps17 rfl rfl ?_
    have M : Mo w w := Mo.refl _
    refine w_seq ?_
    refine w_reg ?_
    refine wl_mv (.const (.slice none 0 0)) (.slice none 0 0) (fun _ => rfl) rfl rfl ?_
    refine w_nil ?_
    refine xn_then ?_
    refine w_seq ?_
    refine w_reg ?_
    refine wl_mv (.tmp 0) (.slice pl l.length cl) (fun _ => rfl) rfl rfl ?_
    refine wl_callx 39 [(.tmp 6)] _ [.slice pl l.length cl] rfl rfl (fun _ _ => by kernel_rfl) (users_n (hL.kp M.kp) (fun x hx => (hLx x hx).kp M.kp) hz hzI hnd) rfl ?_
    rintro e9 u1 ⟨ku, U, rfl, hV, hUU, hkuN, hq⟩
    refine ⟨_, rfl, ?_⟩
    have hUl : U.length = nI l := by have := congrArg List.length hUU; rw [UA_len, RA_len] at this; simpa using this
    replace M := M.trans hq
    clear hq
    refine wl_mv (.tmp 7) (.slice (some ⟨ku, 0, none⟩) (nI l) (nI l)) (fun _ => rfl) rfl rfl ?_
    refine w_nil ?_
    refine xn_then ?_
    refine w_seq ?_
    refine w_seq ?_
    refine w_reg ?_
    refine wl_mv (.tmp 1) (.int .i64 ((m : Nat) : Int)) (fun _ => rfl) rfl rfl ?_
    refine wl_bin (fun x y => do eqGuard .lss 3 (.tmp 8) (.const (.int .i64 (0))) x y; binOp .lss 3 x y) (.tmp 8) (.const (.int .i64 (0))) (.int .i64 ((m : Nat) : Int)) (.int .i64 (0)) (.bool false) (fun _ => rfl) rfl rfl (ltN hlt _ _ _) rfl ?_
    refine wl_mv (.tmp 9) (.bool false) (fun _ => rfl) rfl rfl ?_
    refine wl_mv (.tmp 1) (.int .i64 ((m : Nat) : Int)) (fun _ => rfl) rfl rfl ?_
    refine wl_mv (.tmp 5) (.slice (some ⟨ku, 0, none⟩) (nI l) (nI l)) (fun _ => rfl) rfl rfl ?_
    refine wl_val (.int .i64 (((nI l) : Nat) : Int)) (len79 _ _ _ _ _ (by exact rfl) _ _ _ _ _ _) rfl ?_
    refine wl_bin (fun x y => do eqGuard .geq 3 (.tmp 11) (.tmp 13) x y; binOp .geq 3 x y) (.tmp 11) (.tmp 13) (.int .i64 ((m : Nat) : Int)) (.int .i64 (((nI l) : Nat) : Int)) (.bool true) (fun _ => rfl) rfl rfl (ge3 hge _ _ _) rfl ?_
    refine wl_pick (.tmp 10) (.const (.bool true)) (.tmp 14) false (.bool true) (fun _ => rfl) rfl rfl rfl ?_
    refine w_nil ?_
    refine xn_then ?_
    refine w_condT rfl ?_
    refine w_seq ?_
    refine w_reg ?_
    refine wl_mv (.const (.slice none 0 0)) (.slice none 0 0) (fun _ => rfl) rfl rfl ?_
    refine w_nil ?_
    refine xn_then ?_
    refine w_ret ?_
    refine xr_then ?_
    exact w_ret1 _ (.slice none 0 0) rfl rfl ⟨none, 0, by rw [hnil]; rfl, by rw [hnil]; exact Ow.nil _ _ _ _ _, M⟩
theorem users_neg {w : World} {l : List S5} {pl : Option Addr} {cl : Nat} (hL : SL w 5 S5.cells pl l) (hLx : ∀ x ∈ l, LS5 w x) (hz : l.length < 400000) (hzI : nI l < 400000) (hnd : ∀ y ∈ l, ∀ z ∈ y.items, nd z.ex ≤ 3000000) (n : Int) (hn : n < 0) : Calls Try.prog 17 #[.slice pl l.length cl, .int .i64 n] w fun e w' => e = .returned (.slice none 0 0) ∧ Mo w w' := by
  have hlt : decide (n < 0) = true := decide_eq_true hn
  refine w_enter 20 Try.func17 Try.ntmps17 rfl rfl ?_
  have M : Mo w w := Mo.refl _
  refine w_seq ?_
  refine w_reg ?_
  refine wl_mv (.const (.slice none 0 0)) (.slice none 0 0) (fun _ => rfl) rfl rfl ?_
  refine w_nil ?_
  refine xn_then ?_
  refine w_seq ?_
  refine w_reg ?_
  refine wl_mv (.tmp 0) (.slice pl l.length cl) (fun _ => rfl) rfl rfl ?_
  refine wl_callx 39 [(.tmp 6)] _ [.slice pl l.length cl] rfl rfl (fun _ _ => by kernel_rfl) (users_n (hL.kp M.kp) (fun x hx => (hLx x hx).kp M.kp) hz hzI hnd) rfl ?_
  rintro e9 u1 ⟨ku, U, rfl, hV, hUU, hkuN, hq⟩
  refine ⟨_, rfl, ?_⟩
  have hUl : U.length = nI l := by have := congrArg List.length hUU; rw [UA_len, RA_len] at this; simpa using this
  replace M := M.trans hq
  clear hq
  refine wl_mv (.tmp 7) (.slice (some ⟨ku, 0, none⟩) (nI l) (nI l)) (fun _ => rfl) rfl rfl ?_
  refine w_nil ?_
  refine xn_then ?_
  refine w_seq ?_
  refine w_seq ?_
  refine w_reg ?_
  refine wl_mv (.tmp 1) (.int .i64 (n)) (fun _ => rfl) rfl rfl ?_
  refine wl_bin (fun x y => do eqGuard .lss 3 (.tmp 8) (.const (.int .i64 (0))) x y; binOp .lss 3 x y) (.tmp 8) (.const (.int .i64 (0))) (.int .i64 (n)) (.int .i64 (0)) (.bool true) (fun _ => rfl) rfl rfl (lt3 hlt _ _ _) rfl ?_
  refine wl_mv (.tmp 9) (.bool true) (fun _ => rfl) rfl rfl ?_
  refine wl_skip rfl ?_
  refine wl_skip rfl ?_
  refine wl_skip rfl ?_
  refine wl_skip rfl ?_
  refine wl_pick (.tmp 10) (.const (.bool true)) (.tmp 14) true (.bool true) (fun _ => rfl) rfl rfl rfl ?_
  refine w_nil ?_
  refine xn_then ?_
  refine w_condT rfl ?_
  refine w_seq ?_
  refine w_reg ?_
  refine wl_mv (.const (.slice none 0 0)) (.slice none 0 0) (fun _ => rfl) rfl rfl ?_
  refine w_nil ?_
  refine xn_then ?_
  refine w_ret ?_
  refine xr_then ?_
  exact w_ret1 _ (.slice none 0 0) rfl rfl ⟨rfl, M⟩
theorem desc_n {U : List Iz} {R : List (List Nat)} {kU kT kG ku kt n0 : Nat} (hU : U.map Iz.L = UA R) (hz : R.length < 400000) : ∀ (k : Nat) {B : List Bool} {s : Nat} {w : World}, cfl B ≤ k → s < R.length → Bs U kU kT kG ku kt w B → Snd R n0 B → (s = n0 ∨ Rch R s n0) → Calls Try.prog 42 #[.int .i64 ((s : Nat) : Int), pt kU 0, pt kT 0, pt kG 0] w fun e w' => e = .returned (.tuple #[]) ∧ ∃ B', Bs U kU kT kG ku kt w' B' ∧ Dx (UA R) B B' ∧ (∀ u ∈ row (UA R) s, B'[u]? = some true) ∧ Snd R n0 B' ∧ Mk (fun j => j = kt) w w' := by
  intro k
  induction k using Nat.strongRecOn with
  | ind k ih0 =>
  intro B s w hk hs hB hS hr
  have hUl : U.length = R.length := by have := congrArg List.length hU; rw [UA_len] at this; simpa using this
  obtain ⟨x, hx⟩ := get_of_lt (show s < U.length by omega)
  have hxm := List.mem_of_getElem? hx
  have hxL : row (UA R) s = x.L := row_eq (by rw [← hU, List.getElem?_map, hx]; rfl)
  have hxz : x.L.length < 4000000 := by rw [← hxL, UA_row hs]; have := ris_len R.length (fun n => decide (s ∈ row R n)); omega
  have a_U := hB.aU
  have a_T := hB.aT
  have a_G := hB.aG
  refine w_enter 28 Try.func42 Try.ntmps42 rfl rfl ?_
  have M : Mo w w := Mo.refl _
  refine w_seq ?_
  have hsl := sl_of_ob hB.ob (by unfold maxLen; omega)
  have hsU : s < U.length := by omega
  obtain ⟨bp, op, hpp, hRp⟩ := D.SL.rw hsl hx
  refine w_reg ?_
  refine wl_load 79 (.tmp 1) (pt kU 0) (.slice (some ⟨ku, 0, none⟩) U.length U.length) rfl rfl (run_one a_U 79 0 rfl Try.underlying79 rfl) rfl ?_
  refine wl_mv (.tmp 0) (.int .i64 ((s : Nat) : Int)) (fun _ => rfl) rfl rfl ?_
  refine wl_bin (fun x y => Instr.indexAt 79 x y) (.tmp 7) (.tmp 8) (.slice (some ⟨ku, 0, none⟩) U.length U.length) (.int .i64 ((s : Nat) : Int)) (pt bp (op + s * 1)) (fun _ => rfl) rfl rfl (ix79 (i := s) hpp hsU _) rfl ?_
  refine wl_load 32 (.tmp 9) (pt bp (op + s * 1)) (.slice x.pa x.L.length x.cap) rfl rfl (D.run_oneR (hRp.mo M).at' 32 0 rfl Try.underlying32 rfl) rfl ?_
  refine wl_val (.int .i64 ((x.L.length : Nat) : Int)) (len32 _ _ _ _ _ (by exact rfl) _ _ _ _ _ _) rfl ?_
  refine wl_mv (.const (.int .i64 (0))) (.int .i64 (0)) (fun _ => rfl) rfl rfl ?_
  refine w_nil ?_
  refine xn_then ?_
  refine w_block ?_
  clear a_U
  clear a_T
  clear a_G
  refine w_loop (fun m lf w1 => ∃ i : Nat, ∃ B1 : List Bool, m = x.L.length - i ∧ look lf 2 = pt kT 0 ∧ look lf 3 = pt kG 0 ∧ look lf 10 = .slice x.pa x.L.length x.cap ∧ look lf 11 = .int .i64 ((x.L.length : Nat) : Int) ∧ look lf 12 = .int .i64 ((i : Nat) : Int) ∧ (i ≤ x.L.length) ∧ (Bs U kU kT kG ku kt w1 B1) ∧ (Dx (UA R) B B1) ∧ (∀ u ∈ x.L.take i, B1[u]? = some true) ∧ (Snd R n0 B1) ∧ (Mk (fun j => j = kt) w w1)) _ ⟨0, B, rfl, rfl, rfl, rfl, rfl, rfl, Nat.zero_le _, hB.mo M, Dx.refl _ _, (fun u hu => by simp at hu), hS, Mk.of _ M⟩ ?_
  clear M
  rintro m lf40 wl40 ⟨i, B1, rfl, e40_2, e40_3, e40_10, e40_11, e40_12, hi, hB1, hD, hT, hS1, hMK⟩
  have M : Mo wl40 wl40 := Mo.refl _
  have hbl1 := hB1.le
  cases hd2 : decide (i < x.L.length) with
  | true =>
    have hil := of_decide_eq_true hd2
    obtain ⟨mm, hmm⟩ := get_of_lt hil
    have hmr : mm ∈ row (UA R) s := by rw [hxL]; exact List.mem_of_getElem? hmm
    have hsm := (mem_UA hs).1 hmr
    have hml : mm < R.length := row_lt hsm
    have hmR : Rch R mm n0 := by rcases hr with rfl | q; exact Rch.one hsm; exact Rch.cons hsm q
    obtain ⟨bv, hbv⟩ := get_of_lt (show mm < B1.length by omega)
    have hli := (hB1.li x hxm).sl
    obtain ⟨bu, ou, hpu, hRu⟩ := D.SL.rw hli hmm
    have a_U := hB1.aU
    have a_T := hB1.aT
    have a_G := hB1.aG
    have a_B := hB1.bt.at
    cases bv with
    | true =>
      refine w_seq ?_
      refine w_reg ?_
      refine wl_bin (fun x y => do eqGuard .lss 3 (.tmp 12) (.tmp 11) x y; binOp .lss 3 x y) (.tmp 12) (.tmp 11) (.int .i64 ((i : Nat) : Int)) (.int .i64 ((x.L.length : Nat) : Int)) (.bool true) (fun _ => rfl) e40_12 e40_11 (ltN hd2 _ _ _) rfl ?_
      refine w_nil ?_
      refine xn_then ?_
      refine w_seq ?_
      refine w_condT rfl ?_
      refine w_skip ?_
      refine xn_then ?_
      refine w_seq ?_
      refine w_block ?_
      refine w_seq ?_
      refine w_reg ?_
      refine wl_bin (fun x y => Instr.indexAt 32 x y) (.tmp 10) (.tmp 12) (.slice x.pa x.L.length x.cap) (.int .i64 ((i : Nat) : Int)) (pt bu (ou + i * 1)) (fun _ => rfl) e40_10 e40_12 (ix32 (i := i) hpu hil _) rfl ?_
      refine wl_load 3 (.tmp 14) (pt bu (ou + i * 1)) (.int .i64 ((mm : Nat) : Int)) rfl rfl (D.run_oneR (hRu.mo M).at' 3 0 rfl Try.underlying3 rfl) rfl ?_
      refine wl_mv (.tmp 15) (.int .i64 ((mm : Nat) : Int)) (fun _ => rfl) rfl rfl ?_
      refine w_nil ?_
      refine xn_then ?_
      refine w_seq ?_
      refine w_reg ?_
      refine wl_load 81 (.tmp 2) (pt kT 0) (.slice (some ⟨kt, 0, none⟩) U.length U.length) rfl e40_2 (run_one a_T 81 0 rfl Try.underlying81 rfl) rfl ?_
      refine wl_mv (.tmp 6) (.int .i64 ((mm : Nat) : Int)) (fun _ => rfl) rfl rfl ?_
      refine wl_bin (fun x y => Instr.indexAt 81 x y) (.tmp 16) (.tmp 17) (.slice (some ⟨kt, 0, none⟩) U.length U.length) (.int .i64 ((mm : Nat) : Int)) (pt kt (0 + mm * 1)) (fun _ => rfl) rfl rfl (ix81 (i := mm) rfl (by omega) _) rfl ?_
      refine wl_load 4 (.tmp 18) (pt kt (0 + mm * 1)) (.bool true) rfl rfl (run_one a_B 4 (0 + mm * 1) (by simp [hbv]) Try.underlying4 rfl) rfl ?_
      refine wl_un (fun v => Op.unary .not v) (.tmp 19) (.bool true) (.bool false) (fun _ => rfl) rfl (by kernel_rfl) rfl ?_
      refine w_nil ?_
      refine xn_then ?_
      refine w_condF rfl ?_
      refine w_skip ?_
      refine xn_blk ?_
      refine xn_then ?_
      refine w_reg ?_
      refine wl_bin (fun x y => do eqGuard .add 3 (.tmp 12) (.const (.int .i64 (1))) x y; binOp .add 3 x y) (.tmp 12) (.const (.int .i64 (1))) (.int .i64 ((i : Nat) : Int)) (.int .i64 (1)) (.int .i64 ((i + 1 : Nat) : Int)) (fun _ => rfl) e40_12 rfl (add1r (k := i) (by omega) _ _ _) rfl ?_
      refine wl_mv (.tmp 27) (.int .i64 ((i + 1 : Nat) : Int)) (fun _ => rfl) rfl rfl ?_
      refine w_nil ?_
      exact xn_loop (x.L.length - (i + 1)) (by omega) ⟨i + 1, B1, rfl, e40_2, e40_3, e40_10, e40_11, rfl, by omega, hB1.mo M, hD, (fun u hu => by rw [List.take_add_one, hmm] at hu; rcases List.mem_append.1 hu with q | q; exact hT u q; (simp at q; subst q; exact hbv)), hS1, hMK.trans M⟩
    | false =>
      refine w_seq ?_
      refine w_reg ?_
      refine wl_bin (fun x y => do eqGuard .lss 3 (.tmp 12) (.tmp 11) x y; binOp .lss 3 x y) (.tmp 12) (.tmp 11) (.int .i64 ((i : Nat) : Int)) (.int .i64 ((x.L.length : Nat) : Int)) (.bool true) (fun _ => rfl) e40_12 e40_11 (ltN hd2 _ _ _) rfl ?_
      refine w_nil ?_
      refine xn_then ?_
      refine w_seq ?_
      refine w_condT rfl ?_
      refine w_skip ?_
      refine xn_then ?_
      refine w_seq ?_
      refine w_block ?_
      refine w_seq ?_
      refine w_reg ?_
      refine wl_bin (fun x y => Instr.indexAt 32 x y) (.tmp 10) (.tmp 12) (.slice x.pa x.L.length x.cap) (.int .i64 ((i : Nat) : Int)) (pt bu (ou + i * 1)) (fun _ => rfl) e40_10 e40_12 (ix32 (i := i) hpu hil _) rfl ?_
      refine wl_load 3 (.tmp 14) (pt bu (ou + i * 1)) (.int .i64 ((mm : Nat) : Int)) rfl rfl (D.run_oneR (hRu.mo M).at' 3 0 rfl Try.underlying3 rfl) rfl ?_
      refine wl_mv (.tmp 15) (.int .i64 ((mm : Nat) : Int)) (fun _ => rfl) rfl rfl ?_
      refine w_nil ?_
      refine xn_then ?_
      refine w_seq ?_
      refine w_reg ?_
      refine wl_load 81 (.tmp 2) (pt kT 0) (.slice (some ⟨kt, 0, none⟩) U.length U.length) rfl e40_2 (run_one a_T 81 0 rfl Try.underlying81 rfl) rfl ?_
      refine wl_mv (.tmp 6) (.int .i64 ((mm : Nat) : Int)) (fun _ => rfl) rfl rfl ?_
      refine wl_bin (fun x y => Instr.indexAt 81 x y) (.tmp 16) (.tmp 17) (.slice (some ⟨kt, 0, none⟩) U.length U.length) (.int .i64 ((mm : Nat) : Int)) (pt kt (0 + mm * 1)) (fun _ => rfl) rfl rfl (ix81 (i := mm) rfl (by omega) _) rfl ?_
      refine wl_load 4 (.tmp 18) (pt kt (0 + mm * 1)) (.bool false) rfl rfl (run_one a_B 4 (0 + mm * 1) (by simp [hbv]) Try.underlying4 rfl) rfl ?_
      refine wl_un (fun v => Op.unary .not v) (.tmp 19) (.bool false) (.bool true) (fun _ => rfl) rfl (by kernel_rfl) rfl ?_
      refine w_nil ?_
      refine xn_then ?_
      refine w_condT rfl ?_
      refine w_seq ?_
      refine w_reg ?_
      refine wl_load 81 (.tmp 2) (pt kT 0) (.slice (some ⟨kt, 0, none⟩) U.length U.length) rfl e40_2 (run_one a_T 81 0 rfl Try.underlying81 rfl) rfl ?_
      refine wl_mv (.tmp 6) (.int .i64 ((mm : Nat) : Int)) (fun _ => rfl) rfl rfl ?_
      refine wl_bin (fun x y => Instr.indexAt 81 x y) (.tmp 21) (.tmp 22) (.slice (some ⟨kt, 0, none⟩) U.length U.length) (.int .i64 ((mm : Nat) : Int)) (pt kt (0 + mm * 1)) (fun _ => rfl) rfl rfl (ix81 (i := mm) rfl (by omega) _) rfl ?_
      refine wl_sti 4 (.tmp 23) (.const (.bool true)) kt (0 + mm * 1) (.bool true) 4 (B1.map Value.bool) (hB1.mo M).bt rfl rfl rfl rfl (by simp; omega) sz4 rfl rfl rfl ?_
      intro u41 hK9 hO9
      have hB2 := (hB1.mo M).set (s := mm) hK9 (by simpa using hO9)
      have hMK2 := (hMK.trans M).same hK9
      clear hK9 hO9
      clear a_U
      clear a_T
      clear a_G
      clear a_B
      clear M
      have M : Mo u41 u41 := Mo.refl _
      have a_U := hB2.aU
      have a_T := hB2.aT
      have a_G := hB2.aG
      have hS2 := hS1.set hmR
      have hcf := cfl_set hbv
      have hcl := cfl_le hD.le hD.up
      refine w_nil ?_
      refine xn_then ?_
      refine w_reg ?_
      refine wl_load 82 (.tmp 3) (pt kG 0) (.func (.func 42) #[] #[pt kU 0, pt kT 0, pt kG 0]) rfl e40_3 (run_one a_G 82 0 rfl Try.underlying82 rfl) rfl ?_
      refine wl_mv (.tmp 6) (.int .i64 ((mm : Nat) : Int)) (fun _ => rfl) rfl rfl ?_
      refine wl_callv 42 (.tmp 24) #[] #[pt kU 0, pt kT 0, pt kG 0] [(.tmp 25)] _ [.int .i64 ((mm : Nat) : Int)] [.int .i64 ((mm : Nat) : Int), pt kU 0, pt kT 0, pt kG 0] rfl rfl rfl rfl (fun _ _ => by kernel_rfl) (ih0 (cfl (B1.set mm true)) (by omega) (Nat.le_refl _) hml (hB2.mo M) hS2 (Or.inr hmR)) rfl ?_
      rintro e9 u42 ⟨rfl, B3, hB3, hD4, hk3, hS3, hm4⟩
      refine ⟨_, rfl, ?_⟩
      have hMK3 := (hMK2.trans M).same hm4
      have hD3 := Dx.one hbv hD4 hk3
      have hm3 := hD4.up mm (List.getElem?_set_self (by omega))
      clear a_U
      clear a_T
      clear a_G
      clear M
      have M : Mo u42 u42 := Mo.refl _
      refine w_nil ?_
      refine xn_blk ?_
      refine xn_then ?_
      refine w_reg ?_
      refine wl_bin (fun x y => do eqGuard .add 3 (.tmp 12) (.const (.int .i64 (1))) x y; binOp .add 3 x y) (.tmp 12) (.const (.int .i64 (1))) (.int .i64 ((i : Nat) : Int)) (.int .i64 (1)) (.int .i64 ((i + 1 : Nat) : Int)) (fun _ => rfl) e40_12 rfl (add1r (k := i) (by omega) _ _ _) rfl ?_
      refine wl_mv (.tmp 27) (.int .i64 ((i + 1 : Nat) : Int)) (fun _ => rfl) rfl rfl ?_
      refine w_nil ?_
      exact xn_loop (x.L.length - (i + 1)) (by omega) ⟨i + 1, B3, rfl, e40_2, e40_3, e40_10, e40_11, rfl, by omega, hB3.mo M, hD.trans hD3, (fun u hu => by rw [List.take_add_one, hmm] at hu; rcases List.mem_append.1 hu with q | q; exact hD3.up u (hT u q); (simp at q; subst q; exact hm3)), hS3, hMK3.trans M⟩
  | false =>
    have hie : i = x.L.length := by have := of_decide_eq_false hd2; omega
    rw [hie, List.take_length, ← hxL] at hT
    refine w_seq ?_
    refine w_reg ?_
    refine wl_bin (fun x y => do eqGuard .lss 3 (.tmp 12) (.tmp 11) x y; binOp .lss 3 x y) (.tmp 12) (.tmp 11) (.int .i64 ((i : Nat) : Int)) (.int .i64 ((x.L.length : Nat) : Int)) (.bool false) (fun _ => rfl) e40_12 e40_11 (ltN hd2 _ _ _) rfl ?_
    refine w_nil ?_
    refine xn_then ?_
    refine w_seq ?_
    refine w_condF rfl ?_
    refine w_exit ?_
    refine xx_then ?_
    refine xx_then ?_
    refine xx_blk ?_
    exact w_end0 rfl ⟨rfl, B1, hB1.mo M, hD, hT, hS1, hMK.trans M⟩
end Go.Proofs.Ythghblgbjgghcaa
namespace Go.Proofs.Ythghblgbjgghcaa
open Go.RowKit D
theorem Rch.lt {R : List (List Nat)} {u n : Nat} (h : Rch R u n) (hR : Rin R) : n < R.length := by
  obtain ⟨k, hk⟩ := h
  induction k generalizing u with
  | zero => exact hR.row hk
  | succ k ih => obtain ⟨c, _, h2⟩ := hk; exact ih h2
theorem ris_no (n : Nat) : ris n (fun _ => false) = [] := by unfold ris; simp
theorem UA_rl {R : List (List Nat)} {U : List Iz} (h : U.map Iz.L = UA R) {x : Iz} (hx : x ∈ U) : x.L.length ≤ R.length := by
  have h1 : x.L ∈ UA R := by rw [← h]; exact List.mem_map.2 ⟨x, hx, rfl⟩
  unfold UA at h1
  obtain ⟨m, _, e⟩ := List.mem_map.1 h1
  rw [← e]; exact ris_len _ _
theorem below_nat {w : World} {l : List S5} {pl : Option Addr} {cl : Nat} (hL : SL w 5 S5.cells pl l) (hLx : ∀ x ∈ l, LS5 w x) (hz : l.length < 400000) (hzI : nI l < 400000) (hnd : ∀ y ∈ l, ∀ z ∈ y.items, nd z.ex ≤ 3000000) (m : Nat) : Calls Try.prog 19 #[.slice pl l.length cl, .int .i64 ((m : Nat) : Int)] w fun e w' => ∃ (p : Nat → Bool) (pa : Option Addr) (cap : Nat), (∀ u, p u = true ↔ Rch (RA l) u m) ∧ e = .returned (.slice pa (ris (nI l) p).length cap) ∧ Ow w.heap.size 3 1 ic w' pa cap (ris (nI l) p) ∧ Mo w w' := by
  by_cases hm : m < nI l
  · have hge : decide ((((nI l) : Nat) : Int) ≤ ((m : Nat) : Int)) = false := decide_eq_false (by omega)
    have hlt : decide (m < 0) = false := decide_eq_false (by omega)
    have hmR : m < (RA l).length := by rw [RA_len]; exact hm
    refine w_enter 42 Try.func19 Try.ntmps19 rfl rfl ?_
    have M : Mo w w := Mo.refl _
    refine w_seq ?_
    refine w_reg ?_
    refine wl_mv (.const (.slice none 0 0)) (.slice none 0 0) (fun _ => rfl) rfl rfl ?_
    refine w_nil ?_
    refine xn_then ?_
    refine w_seq ?_
    refine w_reg ?_
    refine wl_mv (.tmp 0) (.slice pl l.length cl) (fun _ => rfl) rfl rfl ?_
    refine wl_callx 39 [(.tmp 10)] _ [.slice pl l.length cl] rfl rfl (fun _ _ => by kernel_rfl) (users_n (hL.kp M.kp) (fun x hx => (hLx x hx).kp M.kp) hz hzI hnd) rfl ?_
    rintro e9 u1 ⟨ku, U, rfl, hV, hUU, hkuN, hq⟩
    refine ⟨_, rfl, ?_⟩
    have hUl : U.length = nI l := by have := congrArg List.length hUU; rw [UA_len, RA_len] at this; simpa using this
    have M00 := M.trans hq
    clear hq
    clear M
    have M : Mo u1 u1 := Mo.refl _
    refine wl_allocO 79 [.slice none 0 0] rfl (fun _ => by kernel_rfl) rfl ?_
    intro k1 u2 hk hz9 hq O1
    have Q1 := O1.at
    have N_k1 : u1.heap.size ≤ k1 := by have := M.size; omega
    replace M := M.trans hq
    clear hk hz9 hq
    refine wl_stO 79 (.tmp 5) (.tmp 11) k1 0 (.slice (some ⟨ku, 0, none⟩) (nI l) (nI l)) _ _ [.slice (some ⟨ku, 0, none⟩) (nI l) (nI l)] O1 rfl rfl rfl rfl rfl sz79 rfl rfl rfl rfl ?_
    intro u3 hK9 O9
    clear O1
    have O1 := O9
    clear O9
    replace Q1 := O1.at
    replace M := hK9.mo M (fun k e => e ▸ N_k1)
    clear hK9
    refine w_nil ?_
    refine xn_then ?_
    refine w_seq ?_
    refine w_seq ?_
    refine w_reg ?_
    refine wl_mv (.tmp 1) (.int .i64 ((m : Nat) : Int)) (fun _ => rfl) rfl rfl ?_
    refine wl_bin (fun x y => do eqGuard .lss 3 (.tmp 12) (.const (.int .i64 (0))) x y; binOp .lss 3 x y) (.tmp 12) (.const (.int .i64 (0))) (.int .i64 ((m : Nat) : Int)) (.int .i64 (0)) (.bool false) (fun _ => rfl) rfl rfl (ltN hlt _ _ _) rfl ?_
    refine wl_mv (.tmp 13) (.bool false) (fun _ => rfl) rfl rfl ?_
    refine wl_mv (.tmp 1) (.int .i64 ((m : Nat) : Int)) (fun _ => rfl) rfl rfl ?_
    refine wl_load 79 (.tmp 5) (pt k1 0) (.slice (some ⟨ku, 0, none⟩) (nI l) (nI l)) rfl rfl (run_one Q1 79 0 rfl Try.underlying79 rfl) rfl ?_
    refine wl_val (.int .i64 (((nI l) : Nat) : Int)) (len79 _ _ _ _ _ (by exact rfl) _ _ _ _ _ _) rfl ?_
    refine wl_bin (fun x y => do eqGuard .geq 3 (.tmp 15) (.tmp 17) x y; binOp .geq 3 x y) (.tmp 15) (.tmp 17) (.int .i64 ((m : Nat) : Int)) (.int .i64 (((nI l) : Nat) : Int)) (.bool false) (fun _ => rfl) rfl rfl (ge3 hge _ _ _) rfl ?_
    refine wl_pick (.tmp 14) (.const (.bool true)) (.tmp 18) false (.bool false) (fun _ => rfl) rfl rfl rfl ?_
    refine w_nil ?_
    refine xn_then ?_
    refine w_condF rfl ?_
    refine w_skip ?_
    refine xn_then ?_
    refine w_seq ?_
    refine w_reg ?_
    refine wl_load 79 (.tmp 5) (pt k1 0) (.slice (some ⟨ku, 0, none⟩) (nI l) (nI l)) rfl rfl (run_one Q1 79 0 rfl Try.underlying79 rfl) rfl ?_
    refine wl_val (.int .i64 (((nI l) : Nat) : Int)) (len79 _ _ _ _ _ (by exact rfl) _ _ _ _ _ _) rfl ?_
    refine wl_makeS 81 4 (.tmp 21) (.tmp 21) ((nI l)) (.bool false) 1 Try.underlying81 inf4 rfl (by omega) (by omega) rfl rfl rfl rfl ?_
    intro k2 u4 hk hz hq O2
    have Q2 := O2.at
    have ne_k1_k2 : k1 ≠ k2 := by have := Q1.lt; omega
    have N_k2 : u1.heap.size ≤ k2 := by have := M.size; omega
    replace Q1 := Q1.mo hq
    replace O1 := O1.mo hq
    replace M := M.trans hq
    clear hk hz hq
    refine wl_allocO 81 [.slice none 0 0] rfl (fun _ => by kernel_rfl) rfl ?_
    intro k3 u5 hk hz9 hq O3
    have Q3 := O3.at
    have ne_k1_k3 : k1 ≠ k3 := by have := Q1.lt; omega
    have ne_k2_k3 : k2 ≠ k3 := by have := Q2.lt; omega
    have N_k3 : u1.heap.size ≤ k3 := by have := M.size; omega
    replace Q1 := Q1.mo hq
    replace Q2 := Q2.mo hq
    replace O1 := O1.mo hq
    replace O2 := O2.mo hq
    replace M := M.trans hq
    clear hk hz9 hq
    refine wl_stO 81 (.tmp 6) (.tmp 22) k3 0 (.slice (some ⟨k2, 0, none⟩) (nI l) (nI l)) _ _ [.slice (some ⟨k2, 0, none⟩) (nI l) (nI l)] O3 rfl rfl rfl rfl rfl sz81 rfl rfl rfl rfl ?_
    intro u6 hK9 O9
    clear O3
    have O3 := O9
    clear O9
    replace Q3 := O3.at
    replace Q1 := hK9.at Q1 ne_k1_k3
    replace O1 := O1.mk hK9 ne_k1_k3
    replace Q2 := hK9.at Q2 ne_k2_k3
    replace O2 := O2.mk hK9 ne_k2_k3
    replace M := hK9.mo M (fun k e => e ▸ N_k3)
    clear hK9
    refine w_nil ?_
    refine xn_then ?_
    refine w_seq ?_
    refine w_reg ?_
    refine wl_allocO 82 [.nilFunc] rfl (fun _ => by kernel_rfl) rfl ?_
    intro k4 u7 hk hz9 hq O4
    have Q4 := O4.at
    have ne_k1_k4 : k1 ≠ k4 := by have := Q1.lt; omega
    have ne_k2_k4 : k2 ≠ k4 := by have := Q2.lt; omega
    have ne_k3_k4 : k3 ≠ k4 := by have := Q3.lt; omega
    have N_k4 : u1.heap.size ≤ k4 := by have := M.size; omega
    replace Q1 := Q1.mo hq
    replace Q2 := Q2.mo hq
    replace Q3 := Q3.mo hq
    replace O1 := O1.mo hq
    replace O2 := O2.mo hq
    replace O3 := O3.mo hq
    replace M := M.trans hq
    clear hk hz9 hq
    refine w_nil ?_
    refine xn_then ?_
    refine w_seq ?_
    refine w_reg ?_
    refine wl_mf (.func 42) [] [(.tmp 5), (.tmp 6), (.tmp 7)] [] [pt k1 0, pt k3 0, pt k4 0] rfl rfl rfl rfl ?_
    refine wl_stO 82 (.tmp 7) (.tmp 23) k4 0 (.func (.func 42) #[] #[pt k1 0, pt k3 0, pt k4 0]) _ _ [.func (.func 42) #[] #[pt k1 0, pt k3 0, pt k4 0]] O4 rfl rfl rfl rfl rfl sz82 rfl rfl rfl rfl ?_
    intro u8 hK9 O9
    clear O4
    have O4 := O9
    clear O9
    replace Q4 := O4.at
    replace Q1 := hK9.at Q1 ne_k1_k4
    replace O1 := O1.mk hK9 ne_k1_k4
    replace Q2 := hK9.at Q2 ne_k2_k4
    replace O2 := O2.mk hK9 ne_k2_k4
    replace Q3 := hK9.at Q3 ne_k3_k4
    replace O3 := O3.mk hK9 ne_k3_k4
    replace M := hK9.mo M (fun k e => e ▸ N_k4)
    clear hK9
    refine w_nil ?_
    refine xn_then ?_
    refine w_seq ?_
    refine w_reg ?_
    refine wl_load 82 (.tmp 7) (pt k4 0) (.func (.func 42) #[] #[pt k1 0, pt k3 0, pt k4 0]) rfl rfl (run_one Q4 82 0 rfl Try.underlying82 rfl) rfl ?_
    refine wl_mv (.tmp 1) (.int .i64 ((m : Nat) : Int)) (fun _ => rfl) rfl rfl ?_
    rw [← hUl] at Q1 Q3
    have hB0 : Bs U k1 k3 k4 ku k2 u8 (List.replicate (nI l) false) := ⟨Q1, Q3, Q4, (hV.mo M).ob, fun x hx => Li.own ((hV.mo M).ow x hx) (by have := UA_rl hUU hx; rw [RA_len] at this; unfold maxLen; omega), (by simpa using O2), by simp [hUl], ne_k1_k2, Ne.symm ne_k2_k3, Ne.symm ne_k2_k4⟩
    rw [hUl] at Q1 Q3
    refine wl_callv 42 (.tmp 24) #[] #[pt k1 0, pt k3 0, pt k4 0] [(.tmp 25)] _ [.int .i64 ((m : Nat) : Int)] [.int .i64 ((m : Nat) : Int), pt k1 0, pt k3 0, pt k4 0] rfl rfl rfl rfl (fun _ _ => by kernel_rfl) (desc_n (n0 := m) hUU (by rw [RA_len]; exact hzI) _ (Nat.le_refl _) hmR hB0 (fun u hu => by rw [List.getElem?_replicate] at hu; split at hu <;> simp at hu) (Or.inl rfl)) rfl ?_
    rintro e9 u9 ⟨rfl, B, hB, hD, hk3, hS, hm3⟩
    refine ⟨_, rfl, ?_⟩
    have M0 := M00.trans (hm3.mo M (fun k e => e ▸ N_k2))
    have hN0 := M0.size
    have hmet := met_all hmR (by rw [RA_len]; exact hD) hk3 hS
    have hbl : B.length = nI l := by rw [hB.le, hUl]
    clear hV hB0 hD hk3 hS hm3 Q1 Q2 Q3 Q4 O1 O2 O3 O4
    clear M
    have M : Mo u9 u9 := Mo.refl _
    refine w_nil ?_
    refine xn_then ?_
    refine w_seq ?_
    refine w_reg ?_
    refine wl_mv (.const (.slice none 0 0)) (.slice none 0 0) (fun _ => rfl) rfl rfl ?_
    refine w_nil ?_
    refine xn_then ?_
    refine w_seq ?_
    refine w_seq ?_
    have a_T := (hB.mo M).aT
    rw [hUl] at a_T
    refine w_reg ?_
    refine wl_load 81 (.tmp 6) (pt k3 0) (.slice (some ⟨k2, 0, none⟩) (nI l) (nI l)) rfl rfl (run_one a_T 81 0 rfl Try.underlying81 rfl) rfl ?_
    refine wl_val (.int .i64 (((nI l) : Nat) : Int)) (len81 _ _ _ _ _ (by exact rfl) _ _ _ _ _ _) rfl ?_
    refine wl_mv (.const (.int .i64 (0))) (.int .i64 (0)) (fun _ => rfl) rfl rfl ?_
    refine w_nil ?_
    refine xn_then ?_
    refine w_block ?_
    clear a_T
    refine w_loop (fun m lf w1 => ∃ i : Nat, ∃ pv : Option Addr, ∃ cv : Nat, m = nI l - i ∧ look lf 6 = pt k3 0 ∧ look lf 8 = .slice pv (ris i (fun n => decide (B[n]? = some true))).length cv ∧ look lf 28 = .int .i64 (((nI l) : Nat) : Int) ∧ look lf 29 = .int .i64 ((i : Nat) : Int) ∧ (i ≤ nI l) ∧ (Ow u9.heap.size 3 1 ic w1 pv cv (ris i (fun n => decide (B[n]? = some true)))) ∧ (Mo u9 w1)) _ ⟨0, none, 0, rfl, rfl, rfl, rfl, rfl, Nat.zero_le _, Ow.nil _ _ _ _ _, M⟩ ?_
    clear M
    rintro m lf40 wl40 ⟨i, pv, cv, rfl, e40_6, e40_8, e40_28, e40_29, hi, hW, M⟩
    cases hd2 : decide (i < (nI l)) with
    | true =>
      have hil := of_decide_eq_true hd2
      have hrb := ris_len i (fun n => decide (B[n]? = some true))
      obtain ⟨bv, hbv⟩ := get_of_lt (show i < B.length by omega)
      cases bv with
      | true =>
        have a_T := (hB.mo M).aT
        rw [hUl] at a_T
        have a_B := (hB.mo M).bt.at
        have hpp : (fun n => decide (B[n]? = some true)) i = true := by simp [hbv]
        refine w_seq ?_
        refine w_reg ?_
        refine wl_bin (fun x y => do eqGuard .lss 3 (.tmp 29) (.tmp 28) x y; binOp .lss 3 x y) (.tmp 29) (.tmp 28) (.int .i64 ((i : Nat) : Int)) (.int .i64 (((nI l) : Nat) : Int)) (.bool true) (fun _ => rfl) e40_29 e40_28 (ltN hd2 _ _ _) rfl ?_
        refine w_nil ?_
        refine xn_then ?_
        refine w_seq ?_
        refine w_condT rfl ?_
        refine w_skip ?_
        refine xn_then ?_
        refine w_seq ?_
        refine w_block ?_
        refine w_seq ?_
        refine w_reg ?_
        refine wl_mv (.tmp 29) (.int .i64 ((i : Nat) : Int)) (fun _ => rfl) e40_29 rfl ?_
        refine wl_mv (.tmp 31) (.int .i64 ((i : Nat) : Int)) (fun _ => rfl) rfl rfl ?_
        refine w_nil ?_
        refine xn_then ?_
        refine w_seq ?_
        refine w_reg ?_
        refine wl_load 81 (.tmp 6) (pt k3 0) (.slice (some ⟨k2, 0, none⟩) (nI l) (nI l)) rfl e40_6 (run_one a_T 81 0 rfl Try.underlying81 rfl) rfl ?_
        refine wl_mv (.tmp 9) (.int .i64 ((i : Nat) : Int)) (fun _ => rfl) rfl rfl ?_
        refine wl_bin (fun x y => Instr.indexAt 81 x y) (.tmp 32) (.tmp 33) (.slice (some ⟨k2, 0, none⟩) (nI l) (nI l)) (.int .i64 ((i : Nat) : Int)) (pt k2 (0 + i * 1)) (fun _ => rfl) rfl rfl (ix81 (i := i) rfl (by omega) _) rfl ?_
        refine wl_load 4 (.tmp 34) (pt k2 (0 + i * 1)) (.bool true) rfl rfl (run_one a_B 4 (0 + i * 1) (by simp [hbv]) Try.underlying4 rfl) rfl ?_
        refine w_nil ?_
        refine xn_then ?_
        refine w_condT rfl ?_
        refine w_reg ?_
        refine wl_mv (.tmp 8) (.slice pv (ris i (fun n => decide (B[n]? = some true))).length cv) (fun _ => rfl) e40_8 rfl ?_
        refine wl_mv (.tmp 9) (.int .i64 ((i : Nat) : Int)) (fun _ => rfl) rfl rfl ?_
        refine wl_bs 32 1 [(0, (.tmp 37))] [(0, .int .i64 ((i : Nat) : Int))] #[.int .i64 ((i : Nat) : Int)] 3 rfl rfl (fun _ => by kernel_rfl) rfl ?_
        intro k5 u41 hk hz hq Q5
        have ne_k3_k5 : k3 ≠ k5 := by have := a_T.lt; omega
        have ne_k2_k5 : k2 ≠ k5 := by have := a_B.lt; omega
        have N_k5 : u9.heap.size ≤ k5 := by have := M.size; omega
        replace a_T := a_T.mo hq
        replace a_B := a_B.mo hq
        replace hW := own_mo hW hq
        replace M := M.trans hq
        clear hk hz hq
        refine wl_apI (.tmp 36) (.tmp 38) k5 rfl rfl rfl hW Q5 (by omega) M.size rfl ?_
        intro pv2 cv2 u42 hW2 hK9 hv9
        replace M := own_gap hW hK9 (Nat.le_refl _) M
        clear hW hK9 hv9
        have hW := hW2
        clear hW2
        refine wl_mv (.tmp 39) (.slice pv2 ((ris i (fun n => decide (B[n]? = some true))) ++ [i]).length cv2) (fun _ => rfl) rfl rfl ?_
        refine w_nil ?_
        refine xn_blk ?_
        refine xn_then ?_
        refine w_reg ?_
        refine wl_bin (fun x y => do eqGuard .add 3 (.tmp 29) (.const (.int .i64 (1))) x y; binOp .add 3 x y) (.tmp 29) (.const (.int .i64 (1))) (.int .i64 ((i : Nat) : Int)) (.int .i64 (1)) (.int .i64 ((i + 1 : Nat) : Int)) (fun _ => rfl) e40_29 rfl (add1r (k := i) (by omega) _ _ _) rfl ?_
        refine wl_mv (.tmp 40) (.int .i64 ((i + 1 : Nat) : Int)) (fun _ => rfl) rfl rfl ?_
        refine w_nil ?_
        have hrs : ris (i + 1) (fun n => decide (B[n]? = some true)) = ris i (fun n => decide (B[n]? = some true)) ++ [i] := ris_t hpp
        rw [← hrs] at hW
        exact xn_loop (nI l - (i + 1)) (by omega) ⟨i + 1, pv2, cv2, rfl, e40_6, (by rw [hrs]; rfl), e40_28, rfl, by omega, hW, M⟩
      | false =>
        have a_T := (hB.mo M).aT
        rw [hUl] at a_T
        have a_B := (hB.mo M).bt.at
        have hpp : (fun n => decide (B[n]? = some true)) i = false := by simp [hbv]
        refine w_seq ?_
        refine w_reg ?_
        refine wl_bin (fun x y => do eqGuard .lss 3 (.tmp 29) (.tmp 28) x y; binOp .lss 3 x y) (.tmp 29) (.tmp 28) (.int .i64 ((i : Nat) : Int)) (.int .i64 (((nI l) : Nat) : Int)) (.bool true) (fun _ => rfl) e40_29 e40_28 (ltN hd2 _ _ _) rfl ?_
        refine w_nil ?_
        refine xn_then ?_
        refine w_seq ?_
        refine w_condT rfl ?_
        refine w_skip ?_
        refine xn_then ?_
        refine w_seq ?_
        refine w_block ?_
        refine w_seq ?_
        refine w_reg ?_
        refine wl_mv (.tmp 29) (.int .i64 ((i : Nat) : Int)) (fun _ => rfl) e40_29 rfl ?_
        refine wl_mv (.tmp 31) (.int .i64 ((i : Nat) : Int)) (fun _ => rfl) rfl rfl ?_
        refine w_nil ?_
        refine xn_then ?_
        refine w_seq ?_
        refine w_reg ?_
        refine wl_load 81 (.tmp 6) (pt k3 0) (.slice (some ⟨k2, 0, none⟩) (nI l) (nI l)) rfl e40_6 (run_one a_T 81 0 rfl Try.underlying81 rfl) rfl ?_
        refine wl_mv (.tmp 9) (.int .i64 ((i : Nat) : Int)) (fun _ => rfl) rfl rfl ?_
        refine wl_bin (fun x y => Instr.indexAt 81 x y) (.tmp 32) (.tmp 33) (.slice (some ⟨k2, 0, none⟩) (nI l) (nI l)) (.int .i64 ((i : Nat) : Int)) (pt k2 (0 + i * 1)) (fun _ => rfl) rfl rfl (ix81 (i := i) rfl (by omega) _) rfl ?_
        refine wl_load 4 (.tmp 34) (pt k2 (0 + i * 1)) (.bool false) rfl rfl (run_one a_B 4 (0 + i * 1) (by simp [hbv]) Try.underlying4 rfl) rfl ?_
        refine w_nil ?_
        refine xn_then ?_
        refine w_condF rfl ?_
        refine w_skip ?_
        refine xn_blk ?_
        refine xn_then ?_
        refine w_reg ?_
        refine wl_bin (fun x y => do eqGuard .add 3 (.tmp 29) (.const (.int .i64 (1))) x y; binOp .add 3 x y) (.tmp 29) (.const (.int .i64 (1))) (.int .i64 ((i : Nat) : Int)) (.int .i64 (1)) (.int .i64 ((i + 1 : Nat) : Int)) (fun _ => rfl) e40_29 rfl (add1r (k := i) (by omega) _ _ _) rfl ?_
        refine wl_mv (.tmp 40) (.int .i64 ((i + 1 : Nat) : Int)) (fun _ => rfl) rfl rfl ?_
        refine w_nil ?_
        have hrs : ris (i + 1) (fun n => decide (B[n]? = some true)) = ris i (fun n => decide (B[n]? = some true)) := ris_f hpp
        exact xn_loop (nI l - (i + 1)) (by omega) ⟨i + 1, pv, cv, rfl, e40_6, (by rw [hrs]; exact e40_8), e40_28, rfl, by omega, by rw [hrs]; exact hW, M⟩
    | false =>
      have hie : i = nI l := by have := of_decide_eq_false hd2; omega
      rw [hie] at hW
      refine w_seq ?_
      refine w_reg ?_
      refine wl_bin (fun x y => do eqGuard .lss 3 (.tmp 29) (.tmp 28) x y; binOp .lss 3 x y) (.tmp 29) (.tmp 28) (.int .i64 ((i : Nat) : Int)) (.int .i64 (((nI l) : Nat) : Int)) (.bool false) (fun _ => rfl) e40_29 e40_28 (ltN hd2 _ _ _) rfl ?_
      refine w_nil ?_
      refine xn_then ?_
      refine w_seq ?_
      refine w_condF rfl ?_
      refine w_exit ?_
      refine xx_then ?_
      refine xx_then ?_
      refine xx_blk ?_
      refine xn_then ?_
      refine w_seq ?_
      refine w_reg ?_
      refine wl_mv (.tmp 8) (.slice pv (ris i (fun n => decide (B[n]? = some true))).length cv) (fun _ => rfl) e40_8 rfl ?_
      refine wl_mv (.tmp 41) (.slice pv (ris i (fun n => decide (B[n]? = some true))).length cv) (fun _ => rfl) rfl rfl ?_
      refine w_nil ?_
      refine xn_then ?_
      refine w_ret ?_
      exact w_ret1 _ (.slice pv (ris i (fun n => decide (B[n]? = some true))).length cv) rfl rfl ⟨(fun n => decide (B[n]? = some true)), pv, cv, (fun u => by simp only [decide_eq_true_eq]; exact hmet u), by rw [hie], own_le hW hN0, M0.trans M⟩
  · have hge : decide ((((nI l) : Nat) : Int) ≤ ((m : Nat) : Int)) = true := decide_eq_true (by omega)
    have hlt : decide (m < 0) = false := decide_eq_false (by omega)
    have hno : ∀ u, ¬ Rch (RA l) u m := fun u h => by have := h.lt (RA_in l); rw [RA_len] at this; omega
    refine w_enter 42 Try.func19 Try.ntmps19 rfl rfl ?_
    have M : Mo w w := Mo.refl _
    refine w_seq ?_
    refine w_reg ?_
    refine wl_mv (.const (.slice none 0 0)) (.slice none 0 0) (fun _ => rfl) rfl rfl ?_
    refine w_nil ?_
    refine xn_then ?_
    refine w_seq ?_
    refine w_reg ?_
    refine wl_mv (.tmp 0) (.slice pl l.length cl) (fun _ => rfl) rfl rfl ?_
    refine wl_callx 39 [(.tmp 10)] _ [.slice pl l.length cl] rfl rfl (fun _ _ => by kernel_rfl) (users_n (hL.kp M.kp) (fun x hx => (hLx x hx).kp M.kp) hz hzI hnd) rfl ?_
    rintro e9 u1 ⟨ku, U, rfl, hV, hUU, hkuN, hq⟩
    refine ⟨_, rfl, ?_⟩
    have hUl : U.length = nI l := by have := congrArg List.length hUU; rw [UA_len, RA_len] at this; simpa using this
    have M00 := M.trans hq
    clear hq
    clear M
    have M : Mo u1 u1 := Mo.refl _
    refine wl_allocO 79 [.slice none 0 0] rfl (fun _ => by kernel_rfl) rfl ?_
    intro k1 u2 hk hz9 hq O1
    have Q1 := O1.at
    have N_k1 : u1.heap.size ≤ k1 := by have := M.size; omega
    replace M := M.trans hq
    clear hk hz9 hq
    refine wl_stO 79 (.tmp 5) (.tmp 11) k1 0 (.slice (some ⟨ku, 0, none⟩) (nI l) (nI l)) _ _ [.slice (some ⟨ku, 0, none⟩) (nI l) (nI l)] O1 rfl rfl rfl rfl rfl sz79 rfl rfl rfl rfl ?_
    intro u3 hK9 O9
    clear O1
    have O1 := O9
    clear O9
    replace Q1 := O1.at
    replace M := hK9.mo M (fun k e => e ▸ N_k1)
    clear hK9
    refine w_nil ?_
    refine xn_then ?_
    refine w_seq ?_
    refine w_seq ?_
    refine w_reg ?_
    refine wl_mv (.tmp 1) (.int .i64 ((m : Nat) : Int)) (fun _ => rfl) rfl rfl ?_
    refine wl_bin (fun x y => do eqGuard .lss 3 (.tmp 12) (.const (.int .i64 (0))) x y; binOp .lss 3 x y) (.tmp 12) (.const (.int .i64 (0))) (.int .i64 ((m : Nat) : Int)) (.int .i64 (0)) (.bool false) (fun _ => rfl) rfl rfl (ltN hlt _ _ _) rfl ?_
    refine wl_mv (.tmp 13) (.bool false) (fun _ => rfl) rfl rfl ?_
    refine wl_mv (.tmp 1) (.int .i64 ((m : Nat) : Int)) (fun _ => rfl) rfl rfl ?_
    refine wl_load 79 (.tmp 5) (pt k1 0) (.slice (some ⟨ku, 0, none⟩) (nI l) (nI l)) rfl rfl (run_one Q1 79 0 rfl Try.underlying79 rfl) rfl ?_
    refine wl_val (.int .i64 (((nI l) : Nat) : Int)) (len79 _ _ _ _ _ (by exact rfl) _ _ _ _ _ _) rfl ?_
    refine wl_bin (fun x y => do eqGuard .geq 3 (.tmp 15) (.tmp 17) x y; binOp .geq 3 x y) (.tmp 15) (.tmp 17) (.int .i64 ((m : Nat) : Int)) (.int .i64 (((nI l) : Nat) : Int)) (.bool true) (fun _ => rfl) rfl rfl (ge3 hge _ _ _) rfl ?_
    refine wl_pick (.tmp 14) (.const (.bool true)) (.tmp 18) false (.bool true) (fun _ => rfl) rfl rfl rfl ?_
    refine w_nil ?_
    refine xn_then ?_
    refine w_condT rfl ?_
    refine w_seq ?_
    refine w_reg ?_
    refine wl_mv (.const (.slice none 0 0)) (.slice none 0 0) (fun _ => rfl) rfl rfl ?_
    refine w_nil ?_
    refine xn_then ?_
    refine w_ret ?_
    refine xr_then ?_
    exact w_ret1 _ (.slice none 0 0) rfl rfl ⟨fun _ => false, none, 0, fun u => ⟨fun h => Bool.noConfusion h, fun h => (hno u h).elim⟩, by rw [ris_no]; rfl, by rw [ris_no]; exact Ow.nil _ _ _ _ _, M00.trans M⟩
theorem below_neg {w : World} {l : List S5} {pl : Option Addr} {cl : Nat} (hL : SL w 5 S5.cells pl l) (hLx : ∀ x ∈ l, LS5 w x) (hz : l.length < 400000) (hzI : nI l < 400000) (hnd : ∀ y ∈ l, ∀ z ∈ y.items, nd z.ex ≤ 3000000) (n : Int) (hn : n < 0) : Calls Try.prog 19 #[.slice pl l.length cl, .int .i64 n] w fun e w' => e = .returned (.slice none 0 0) ∧ Mo w w' := by
  have hlt : decide (n < 0) = true := decide_eq_true hn
  refine w_enter 42 Try.func19 Try.ntmps19 rfl rfl ?_
  have M : Mo w w := Mo.refl _
  refine w_seq ?_
  refine w_reg ?_
  refine wl_mv (.const (.slice none 0 0)) (.slice none 0 0) (fun _ => rfl) rfl rfl ?_
  refine w_nil ?_
  refine xn_then ?_
  refine w_seq ?_
  refine w_reg ?_
  refine wl_mv (.tmp 0) (.slice pl l.length cl) (fun _ => rfl) rfl rfl ?_
  refine wl_callx 39 [(.tmp 10)] _ [.slice pl l.length cl] rfl rfl (fun _ _ => by kernel_rfl) (users_n (hL.kp M.kp) (fun x hx => (hLx x hx).kp M.kp) hz hzI hnd) rfl ?_
  rintro e9 u1 ⟨ku, U, rfl, hV, hUU, hkuN, hq⟩
  refine ⟨_, rfl, ?_⟩
  have hUl : U.length = nI l := by have := congrArg List.length hUU; rw [UA_len, RA_len] at this; simpa using this
  have M00 := M.trans hq
  clear hq
  clear M
  have M : Mo u1 u1 := Mo.refl _
  refine wl_allocO 79 [.slice none 0 0] rfl (fun _ => by kernel_rfl) rfl ?_
  intro k1 u2 hk hz9 hq O1
  have Q1 := O1.at
  have N_k1 : u1.heap.size ≤ k1 := by have := M.size; omega
  replace M := M.trans hq
  clear hk hz9 hq
  refine wl_stO 79 (.tmp 5) (.tmp 11) k1 0 (.slice (some ⟨ku, 0, none⟩) (nI l) (nI l)) _ _ [.slice (some ⟨ku, 0, none⟩) (nI l) (nI l)] O1 rfl rfl rfl rfl rfl sz79 rfl rfl rfl rfl ?_
  intro u3 hK9 O9
  clear O1
  have O1 := O9
  clear O9
  replace Q1 := O1.at
  replace M := hK9.mo M (fun k e => e ▸ N_k1)
  clear hK9
  refine w_nil ?_
  refine xn_then ?_
  refine w_seq ?_
  refine w_seq ?_
  refine w_reg ?_
  refine wl_mv (.tmp 1) (.int .i64 (n)) (fun _ => rfl) rfl rfl ?_
  refine wl_bin (fun x y => do eqGuard .lss 3 (.tmp 12) (.const (.int .i64 (0))) x y; binOp .lss 3 x y) (.tmp 12) (.const (.int .i64 (0))) (.int .i64 (n)) (.int .i64 (0)) (.bool true) (fun _ => rfl) rfl rfl (lt3 hlt _ _ _) rfl ?_
  refine wl_mv (.tmp 13) (.bool true) (fun _ => rfl) rfl rfl ?_
  refine wl_skip rfl ?_
  refine wl_skip rfl ?_
  refine wl_skip rfl ?_
  refine wl_skip rfl ?_
  refine wl_pick (.tmp 14) (.const (.bool true)) (.tmp 18) true (.bool true) (fun _ => rfl) rfl rfl rfl ?_
  refine w_nil ?_
  refine xn_then ?_
  refine w_condT rfl ?_
  refine w_seq ?_
  refine w_reg ?_
  refine wl_mv (.const (.slice none 0 0)) (.slice none 0 0) (fun _ => rfl) rfl rfl ?_
  refine w_nil ?_
  refine xn_then ?_
  refine w_ret ?_
  refine xr_then ?_
  exact w_ret1 _ (.slice none 0 0) rfl rfl ⟨rfl, M00.trans M⟩
end Go.Proofs.Ythghblgbjgghcaa
