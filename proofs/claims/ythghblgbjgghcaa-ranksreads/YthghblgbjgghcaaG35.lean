/-
  The document's Order (by what one reads).
-/
import Derived.Test.YthghblgbjgghcaaLo
namespace Go.Proofs.Ythghblgbjgghcaa
open Go.RowKit D
theorem order24_stuck {w : World} {l : List S5} {pl : Option Addr} {cl : Nat} (hL : SL w 5 S5.cells pl l) (hz : l.length < 400000) (hzI : nI l < 400000) (h16 : ∀ {u : World} {m : Nat}, Mo w u → m < nI l → Calls Try.prog 16 #[.slice pl l.length cl, .int .i64 ((m : Nat) : Int)] u fun e w' => ∃ (pa : Option Addr) (cap : Nat), e = .returned (.slice pa (row (RA l) m).length cap) ∧ Li w' pa (row (RA l) m) ∧ Mo u w') (hN : ∃ n, n < nI l ∧ RkN (RA l) n) : Calls Try.prog 24 #[.slice pl l.length cl] w fun e w' => e = .returned (.tuple #[.slice none 0 0, .int .i64 110]) ∧ Mo w w' := by
  refine w_enter 41 Try.func24 Try.ntmps24 rfl rfl ?_
  have M : Mo w w := Mo.refl _
  refine w_seq ?_
  refine w_reg ?_
  refine wl_mv (.const (.slice none 0 0)) (.slice none 0 0) (fun _ => rfl) rfl rfl ?_
  refine wl_mv (.const (.int .i64 (0))) (.int .i64 (0)) (fun _ => rfl) rfl rfl ?_
  refine w_nil ?_
  refine xn_then ?_
  refine w_seq ?_
  refine w_reg ?_
  refine wl_mv (.tmp 0) (.slice pl l.length cl) (fun _ => rfl) rfl rfl ?_
  refine wl_callx 22 [(.tmp 10)] _ [.slice pl l.length cl] rfl rfl (fun _ _ => by kernel_rfl) ((ranks22_stuck (hL.kp M.kp) hz hzI (fun m q => h16 (M.trans m) q) hN)) rfl ?_
  rintro e9 u1 ⟨rfl, hq⟩
  refine ⟨_, rfl, ?_⟩
  replace M := M.trans hq
  clear hq
  refine wl_mv (.tmp 11) (.tuple #[.slice none 0 0, .int .i64 (110)]) (fun _ => rfl) rfl rfl ?_
  refine wl_un (fun v => Instr.extract v 0) (.tmp 9) (.tuple #[.slice none 0 0, .int .i64 (110)]) (.slice none 0 0) (fun _ => rfl) rfl (by kernel_rfl) rfl ?_
  refine wl_un (fun v => Instr.extract v 1) (.tmp 9) (.tuple #[.slice none 0 0, .int .i64 (110)]) (.int .i64 (110)) (fun _ => rfl) rfl (by kernel_rfl) rfl ?_
  refine wl_mv (.tmp 12) (.slice none 0 0) (fun _ => rfl) rfl rfl ?_
  refine wl_mv (.tmp 13) (.int .i64 (110)) (fun _ => rfl) rfl rfl ?_
  refine w_nil ?_
  refine xn_then ?_
  refine w_seq ?_
  refine w_seq ?_
  refine w_reg ?_
  refine wl_mv (.tmp 5) (.int .i64 (110)) (fun _ => rfl) rfl rfl ?_
  refine wl_bin (fun x y => do eqGuard .neq 35 (.tmp 14) (.const (.int .i64 (0))) x y; binOp .neq 35 x y) (.tmp 14) (.const (.int .i64 (0))) (.int .i64 (110)) (.int .i64 (0)) (.bool true) (fun _ => rfl) rfl rfl (ne34 (r := false) rfl _ _ _) rfl ?_
  refine w_nil ?_
  refine xn_then ?_
  refine w_condT rfl ?_
  refine w_seq ?_
  refine w_reg ?_
  refine wl_mv (.tmp 5) (.int .i64 (110)) (fun _ => rfl) rfl rfl ?_
  refine wl_mv (.const (.slice none 0 0)) (.slice none 0 0) (fun _ => rfl) rfl rfl ?_
  refine wl_mv (.tmp 16) (.int .i64 (110)) (fun _ => rfl) rfl rfl ?_
  refine w_nil ?_
  refine xn_then ?_
  refine w_ret ?_
  refine xr_then ?_
  exact w_ret2 _ _ (.slice none 0 0) (.int .i64 (110)) rfl rfl rfl ⟨rfl, M⟩
theorem order24_ok {w : World} {l : List S5} {pl : Option Addr} {cl : Nat} (hL : SL w 5 S5.cells pl l) (hz : l.length < 400000) (hzI : nI l < 400000) (h16 : ∀ {u : World} {m : Nat}, Mo w u → m < nI l → Calls Try.prog 16 #[.slice pl l.length cl, .int .i64 ((m : Nat) : Int)] u fun e w' => ∃ (pa : Option Addr) (cap : Nat), e = .returned (.slice pa (row (RA l) m).length cap) ∧ Li w' pa (row (RA l) m) ∧ Mo u w') (hN : ¬ ∃ n, n < nI l ∧ RkN (RA l) n) : Calls Try.prog 24 #[.slice pl l.length cl] w fun e w' => ∃ (rs L : List Nat) (pa : Option Addr) (cap : Nat), rs.length = nI l ∧ (∀ n r, rs[n]? = some r → RkS (RA l) n r) ∧ L.Perm (List.range rs.length) ∧ L.Pairwise (fun a b => cfO rs a b < 0) ∧ e = .returned (.tuple #[.slice pa L.length cap, .int .i64 0]) ∧ Ow w.heap.size 3 1 ic w' pa cap L ∧ Mo w w' := by
  refine w_enter 41 Try.func24 Try.ntmps24 rfl rfl ?_
  have M : Mo w w := Mo.refl _
  refine w_seq ?_
  refine w_reg ?_
  refine wl_mv (.const (.slice none 0 0)) (.slice none 0 0) (fun _ => rfl) rfl rfl ?_
  refine wl_mv (.const (.int .i64 (0))) (.int .i64 (0)) (fun _ => rfl) rfl rfl ?_
  refine w_nil ?_
  refine xn_then ?_
  refine w_seq ?_
  refine w_reg ?_
  refine wl_mv (.tmp 0) (.slice pl l.length cl) (fun _ => rfl) rfl rfl ?_
  refine wl_callx 22 [(.tmp 10)] _ [.slice pl l.length cl] rfl rfl (fun _ _ => by kernel_rfl) ((ranks22_ok (hL.kp M.kp) hz hzI (fun m q => h16 (M.trans m) q) hN)) rfl ?_
  rintro e9 u1 ⟨kz, rs, hrl, hrs, rfl, hOz, hkz, hq⟩
  refine ⟨_, rfl, ?_⟩
  have M0 := M.trans hq
  have hN0 := M0.size
  clear hq
  have hub : ∀ n v, rs[n]? = some v → v ≤ rs.length := fun n v hv => by have := (hrs n v hv).lt (RA_in l); rw [RA_len] at this; omega
  clear M
  have M : Mo u1 u1 := Mo.refl _
  refine wl_mv (.tmp 11) (.tuple #[.slice (some ⟨kz, 0, none⟩) rs.length rs.length, .int .i64 (0)]) (fun _ => rfl) rfl rfl ?_
  refine wl_un (fun v => Instr.extract v 0) (.tmp 9) (.tuple #[.slice (some ⟨kz, 0, none⟩) rs.length rs.length, .int .i64 (0)]) (.slice (some ⟨kz, 0, none⟩) rs.length rs.length) (fun _ => rfl) rfl (by kernel_rfl) rfl ?_
  refine wl_un (fun v => Instr.extract v 1) (.tmp 9) (.tuple #[.slice (some ⟨kz, 0, none⟩) rs.length rs.length, .int .i64 (0)]) (.int .i64 (0)) (fun _ => rfl) rfl (by kernel_rfl) rfl ?_
  refine wl_mv (.tmp 12) (.slice (some ⟨kz, 0, none⟩) rs.length rs.length) (fun _ => rfl) rfl rfl ?_
  refine wl_mv (.tmp 13) (.int .i64 (0)) (fun _ => rfl) rfl rfl ?_
  refine w_nil ?_
  refine xn_then ?_
  refine w_seq ?_
  refine w_seq ?_
  refine w_reg ?_
  refine wl_mv (.tmp 5) (.int .i64 (0)) (fun _ => rfl) rfl rfl ?_
  refine wl_bin (fun x y => do eqGuard .neq 35 (.tmp 14) (.const (.int .i64 (0))) x y; binOp .neq 35 x y) (.tmp 14) (.const (.int .i64 (0))) (.int .i64 (0)) (.int .i64 (0)) (.bool false) (fun _ => rfl) rfl rfl (ne34 (r := true) rfl _ _ _) rfl ?_
  refine w_nil ?_
  refine xn_then ?_
  refine w_condF rfl ?_
  refine w_skip ?_
  refine xn_then ?_
  refine w_seq ?_
  refine w_reg ?_
  refine wl_mv (.const (.slice none 0 0)) (.slice none 0 0) (fun _ => rfl) rfl rfl ?_
  refine w_nil ?_
  refine xn_then ?_
  refine w_seq ?_
  refine w_seq ?_
  refine w_reg ?_
  refine wl_mv (.const (.int .i64 (0))) (.int .i64 (0)) (fun _ => rfl) rfl rfl ?_
  refine w_nil ?_
  refine xn_then ?_
  refine w_block ?_
  refine w_loop (fun m lf w1 => ∃ r : Nat, ∃ pv : Option Addr, ∃ cv : Nat, m = rs.length + 1 - r ∧ look lf 4 = .slice (some ⟨kz, 0, none⟩) rs.length rs.length ∧ look lf 6 = .slice pv (lay rs r).length cv ∧ look lf 7 = .int .i64 ((r : Nat) : Int) ∧ (r ≤ rs.length + 1) ∧ (Ow u1.heap.size 3 1 ic w1 pv cv (lay rs r)) ∧ (Mo u1 w1)) _ ⟨0, none, 0, rfl, rfl, rfl, rfl, Nat.zero_le _, Ow.nil _ _ _ _ _, M⟩ ?_
  clear M
  rintro m lf40 wl40 ⟨r, pv, cv, rfl, e40_4, e40_6, e40_7, hr, hW, M⟩
  have hll := lay_len rs r
  cases hd : decide ((lay rs r).length < rs.length) with
  | true =>
    have hil := of_decide_eq_true hd
    have hrr : r ≤ rs.length := by rcases Nat.lt_or_ge rs.length r with q | q; (have := lay_end (rs := rs) (r := r) (fun n v hv => by have := hub n v hv; omega); omega); exact q
    refine w_seq ?_
    refine w_seq ?_
    refine w_reg ?_
    refine wl_mv (.tmp 6) (.slice pv (lay rs r).length cv) (fun _ => rfl) e40_6 rfl ?_
    refine wl_val (.int .i64 (((lay rs r).length : Nat) : Int)) (len32 _ _ _ _ _ (by exact rfl) _ _ _ _ _ _) rfl ?_
    refine wl_mv (.tmp 4) (.slice (some ⟨kz, 0, none⟩) rs.length rs.length) (fun _ => rfl) e40_4 rfl ?_
    refine wl_val (.int .i64 ((rs.length : Nat) : Int)) (len32 _ _ _ _ _ (by exact rfl) _ _ _ _ _ _) rfl ?_
    refine wl_bin (fun x y => do eqGuard .lss 3 (.tmp 18) (.tmp 20) x y; binOp .lss 3 x y) (.tmp 18) (.tmp 20) (.int .i64 (((lay rs r).length : Nat) : Int)) (.int .i64 ((rs.length : Nat) : Int)) (.bool true) (fun _ => rfl) rfl rfl (ltN hd _ _ _) rfl ?_
    refine w_nil ?_
    refine xn_then ?_
    refine w_condT rfl ?_
    refine w_skip ?_
    refine xn_then ?_
    refine w_seq ?_
    refine w_block ?_
    refine w_seq ?_
    refine w_reg ?_
    refine wl_mv (.const (.int .i64 (0))) (.int .i64 (0)) (fun _ => rfl) rfl rfl ?_
    refine w_nil ?_
    refine xn_then ?_
    refine w_block ?_
    have hW0 : Ow u1.heap.size 3 1 ic wl40 pv cv (lay rs r ++ ris 0 (rkq rs r)) := by rw [show ris 0 (rkq rs r) = [] from rfl, List.append_nil]; exact hW
    refine w_loop (fun m lf w1 => ∃ n : Nat, ∃ pv3 : Option Addr, ∃ cv3 : Nat, m = rs.length - n ∧ look lf 4 = .slice (some ⟨kz, 0, none⟩) rs.length rs.length ∧ look lf 6 = .slice pv3 (lay rs r ++ ris n (rkq rs r)).length cv3 ∧ look lf 7 = .int .i64 ((r : Nat) : Int) ∧ look lf 8 = .int .i64 ((n : Nat) : Int) ∧ (n ≤ rs.length) ∧ (Ow u1.heap.size 3 1 ic w1 pv3 cv3 (lay rs r ++ ris n (rkq rs r))) ∧ (Mo u1 w1)) _ ⟨0, pv, cv, rfl, e40_4, (by rw [show ris 0 (rkq rs r) = [] from rfl, List.append_nil]; exact e40_6), e40_7, rfl, Nat.zero_le _, hW0, M⟩ ?_
    clear hW hW0 M
    rintro m lf70 wl70 ⟨n, pv3, cv3, rfl, e70_4, e70_6, e70_7, e70_8, hn, hW, M⟩
    have hrb := ris_len n (rkq rs r)
    have hLL : (lay rs r ++ ris n (rkq rs r)).length ≤ 800000 := by rw [List.length_append]; omega
    cases hd2 : decide (n < rs.length) with
    | true =>
      have hnl := of_decide_eq_true hd2
      obtain ⟨v, hv⟩ := get_of_lt hnl
      have hgv : rs.getD n 0 = v := by simp [List.getD, hv]
      have QO := (hOz.mo M).at
      cases hd3 : decide (((v : Nat) : Int) = ((r : Nat) : Int)) with
      | true =>
        have hPi : rkq rs r n = true := by unfold rkq; rw [hgv]; exact decide_eq_true (by have := of_decide_eq_true hd3; omega)
        refine w_seq ?_
        refine w_seq ?_
        refine w_reg ?_
        refine wl_mv (.tmp 8) (.int .i64 ((n : Nat) : Int)) (fun _ => rfl) e70_8 rfl ?_
        refine wl_mv (.tmp 4) (.slice (some ⟨kz, 0, none⟩) rs.length rs.length) (fun _ => rfl) e70_4 rfl ?_
        refine wl_val (.int .i64 ((rs.length : Nat) : Int)) (len32 _ _ _ _ _ (by exact rfl) _ _ _ _ _ _) rfl ?_
        refine wl_bin (fun x y => do eqGuard .lss 3 (.tmp 24) (.tmp 26) x y; binOp .lss 3 x y) (.tmp 24) (.tmp 26) (.int .i64 ((n : Nat) : Int)) (.int .i64 ((rs.length : Nat) : Int)) (.bool true) (fun _ => rfl) rfl rfl (ltN hd2 _ _ _) rfl ?_
        refine w_nil ?_
        refine xn_then ?_
        refine w_condT rfl ?_
        refine w_skip ?_
        refine xn_then ?_
        refine w_seq ?_
        refine w_block ?_
        refine w_seq ?_
        refine w_reg ?_
        refine wl_mv (.tmp 4) (.slice (some ⟨kz, 0, none⟩) rs.length rs.length) (fun _ => rfl) e70_4 rfl ?_
        refine wl_mv (.tmp 8) (.int .i64 ((n : Nat) : Int)) (fun _ => rfl) e70_8 rfl ?_
        refine wl_bin (fun x y => Instr.indexAt 32 x y) (.tmp 30) (.tmp 31) (.slice (some ⟨kz, 0, none⟩) rs.length rs.length) (.int .i64 ((n : Nat) : Int)) (pt kz (0 + n * 1)) (fun _ => rfl) rfl rfl (ix32 (i := n) rfl hnl _) rfl ?_
        refine wl_load 3 (.tmp 32) (pt kz (0 + n * 1)) (.int .i64 ((v : Nat) : Int)) rfl rfl (run_one QO 3 (0 + n * 1) (by simp [hv]) Try.underlying3 rfl) rfl ?_
        refine wl_mv (.tmp 7) (.int .i64 ((r : Nat) : Int)) (fun _ => rfl) e70_7 rfl ?_
        refine wl_bin (fun x y => do eqGuard .eql 3 (.tmp 33) (.tmp 34) x y; binOp .eql 3 x y) (.tmp 33) (.tmp 34) (.int .i64 ((v : Nat) : Int)) (.int .i64 ((r : Nat) : Int)) (.bool true) (fun _ => rfl) rfl rfl (eq3 hd3 _ _ _) rfl ?_
        refine w_nil ?_
        refine xn_then ?_
        refine w_condT rfl ?_
        refine w_reg ?_
        refine wl_mv (.tmp 6) (.slice pv3 (lay rs r ++ ris n (rkq rs r)).length cv3) (fun _ => rfl) e70_6 rfl ?_
        refine wl_mv (.tmp 8) (.int .i64 ((n : Nat) : Int)) (fun _ => rfl) e70_8 rfl ?_
        refine wl_bs 32 1 [(0, (.tmp 37))] [(0, .int .i64 ((n : Nat) : Int))] #[.int .i64 ((n : Nat) : Int)] 3 rfl rfl (fun _ => by kernel_rfl) rfl ?_
        intro k1 u71 hk hz hq Q1
        have ne_kz_k1 : kz ≠ k1 := by have := QO.lt; omega
        have N_k1 : u1.heap.size ≤ k1 := by have := M.size; omega
        replace QO := QO.mo hq
        replace hW := own_mo hW hq
        replace M := M.trans hq
        clear hk hz hq
        refine wl_apI (.tmp 36) (.tmp 38) k1 rfl rfl rfl hW Q1 (by omega) M.size rfl ?_
        intro pv2 cv2 u72 hW2 hK9 hv9
        replace M := own_gap hW hK9 (Nat.le_refl _) M
        clear hW hK9 hv9
        have hW := hW2
        clear hW2
        refine wl_mv (.tmp 39) (.slice pv2 ((lay rs r ++ ris n (rkq rs r)) ++ [n]).length cv2) (fun _ => rfl) rfl rfl ?_
        refine w_nil ?_
        refine xn_blk ?_
        refine xn_then ?_
        refine w_reg ?_
        refine wl_mv (.tmp 8) (.int .i64 ((n : Nat) : Int)) (fun _ => rfl) e70_8 rfl ?_
        refine wl_bin (fun x y => do eqGuard .add 3 (.tmp 28) (.const (.int .i64 (1))) x y; binOp .add 3 x y) (.tmp 28) (.const (.int .i64 (1))) (.int .i64 ((n : Nat) : Int)) (.int .i64 (1)) (.int .i64 ((n + 1 : Nat) : Int)) (fun _ => rfl) rfl rfl (add1r (k := n) (by omega) _ _ _) rfl ?_
        refine wl_mv (.tmp 29) (.int .i64 ((n + 1 : Nat) : Int)) (fun _ => rfl) rfl rfl ?_
        refine w_nil ?_
        have hrs9 : lay rs r ++ ris (n + 1) (rkq rs r) = (lay rs r ++ ris n (rkq rs r)) ++ [n] := by rw [ris_t hPi, List.append_assoc]
        rw [← hrs9] at hW
        exact xn_loop (rs.length - (n + 1)) (by omega) ⟨n + 1, pv2, cv2, rfl, e70_4, (by rw [hrs9]; rfl), e70_7, rfl, by omega, hW, M⟩
      | false =>
        have hPi : rkq rs r n = false := by unfold rkq; rw [hgv]; exact decide_eq_false (by have := of_decide_eq_false hd3; omega)
        refine w_seq ?_
        refine w_seq ?_
        refine w_reg ?_
        refine wl_mv (.tmp 8) (.int .i64 ((n : Nat) : Int)) (fun _ => rfl) e70_8 rfl ?_
        refine wl_mv (.tmp 4) (.slice (some ⟨kz, 0, none⟩) rs.length rs.length) (fun _ => rfl) e70_4 rfl ?_
        refine wl_val (.int .i64 ((rs.length : Nat) : Int)) (len32 _ _ _ _ _ (by exact rfl) _ _ _ _ _ _) rfl ?_
        refine wl_bin (fun x y => do eqGuard .lss 3 (.tmp 24) (.tmp 26) x y; binOp .lss 3 x y) (.tmp 24) (.tmp 26) (.int .i64 ((n : Nat) : Int)) (.int .i64 ((rs.length : Nat) : Int)) (.bool true) (fun _ => rfl) rfl rfl (ltN hd2 _ _ _) rfl ?_
        refine w_nil ?_
        refine xn_then ?_
        refine w_condT rfl ?_
        refine w_skip ?_
        refine xn_then ?_
        refine w_seq ?_
        refine w_block ?_
        refine w_seq ?_
        refine w_reg ?_
        refine wl_mv (.tmp 4) (.slice (some ⟨kz, 0, none⟩) rs.length rs.length) (fun _ => rfl) e70_4 rfl ?_
        refine wl_mv (.tmp 8) (.int .i64 ((n : Nat) : Int)) (fun _ => rfl) e70_8 rfl ?_
        refine wl_bin (fun x y => Instr.indexAt 32 x y) (.tmp 30) (.tmp 31) (.slice (some ⟨kz, 0, none⟩) rs.length rs.length) (.int .i64 ((n : Nat) : Int)) (pt kz (0 + n * 1)) (fun _ => rfl) rfl rfl (ix32 (i := n) rfl hnl _) rfl ?_
        refine wl_load 3 (.tmp 32) (pt kz (0 + n * 1)) (.int .i64 ((v : Nat) : Int)) rfl rfl (run_one QO 3 (0 + n * 1) (by simp [hv]) Try.underlying3 rfl) rfl ?_
        refine wl_mv (.tmp 7) (.int .i64 ((r : Nat) : Int)) (fun _ => rfl) e70_7 rfl ?_
        refine wl_bin (fun x y => do eqGuard .eql 3 (.tmp 33) (.tmp 34) x y; binOp .eql 3 x y) (.tmp 33) (.tmp 34) (.int .i64 ((v : Nat) : Int)) (.int .i64 ((r : Nat) : Int)) (.bool false) (fun _ => rfl) rfl rfl (eq3 hd3 _ _ _) rfl ?_
        refine w_nil ?_
        refine xn_then ?_
        refine w_condF rfl ?_
        refine w_skip ?_
        refine xn_blk ?_
        refine xn_then ?_
        refine w_reg ?_
        refine wl_mv (.tmp 8) (.int .i64 ((n : Nat) : Int)) (fun _ => rfl) e70_8 rfl ?_
        refine wl_bin (fun x y => do eqGuard .add 3 (.tmp 28) (.const (.int .i64 (1))) x y; binOp .add 3 x y) (.tmp 28) (.const (.int .i64 (1))) (.int .i64 ((n : Nat) : Int)) (.int .i64 (1)) (.int .i64 ((n + 1 : Nat) : Int)) (fun _ => rfl) rfl rfl (add1r (k := n) (by omega) _ _ _) rfl ?_
        refine wl_mv (.tmp 29) (.int .i64 ((n + 1 : Nat) : Int)) (fun _ => rfl) rfl rfl ?_
        refine w_nil ?_
        have hrs9 : ris (n + 1) (rkq rs r) = ris n (rkq rs r) := ris_f hPi
        exact xn_loop (rs.length - (n + 1)) (by omega) ⟨n + 1, pv3, cv3, rfl, e70_4, (by rw [hrs9]; exact e70_6), e70_7, rfl, by omega, by rw [hrs9]; exact hW, M⟩
    | false =>
      have hne : n = rs.length := by have := of_decide_eq_false hd2; omega
      rw [hne] at hW
      refine w_seq ?_
      refine w_seq ?_
      refine w_reg ?_
      refine wl_mv (.tmp 8) (.int .i64 ((n : Nat) : Int)) (fun _ => rfl) e70_8 rfl ?_
      refine wl_mv (.tmp 4) (.slice (some ⟨kz, 0, none⟩) rs.length rs.length) (fun _ => rfl) e70_4 rfl ?_
      refine wl_val (.int .i64 ((rs.length : Nat) : Int)) (len32 _ _ _ _ _ (by exact rfl) _ _ _ _ _ _) rfl ?_
      refine wl_bin (fun x y => do eqGuard .lss 3 (.tmp 24) (.tmp 26) x y; binOp .lss 3 x y) (.tmp 24) (.tmp 26) (.int .i64 ((n : Nat) : Int)) (.int .i64 ((rs.length : Nat) : Int)) (.bool false) (fun _ => rfl) rfl rfl (ltN hd2 _ _ _) rfl ?_
      refine w_nil ?_
      refine xn_then ?_
      refine w_condF rfl ?_
      refine w_exit ?_
      refine xx_then ?_
      refine xx_then ?_
      refine xx_blk ?_
      refine xn_blk ?_
      refine xn_then ?_
      refine w_reg ?_
      refine wl_mv (.tmp 7) (.int .i64 ((r : Nat) : Int)) (fun _ => rfl) e70_7 rfl ?_
      refine wl_bin (fun x y => do eqGuard .add 3 (.tmp 22) (.const (.int .i64 (1))) x y; binOp .add 3 x y) (.tmp 22) (.const (.int .i64 (1))) (.int .i64 ((r : Nat) : Int)) (.int .i64 (1)) (.int .i64 ((r + 1 : Nat) : Int)) (fun _ => rfl) rfl rfl (add1r (k := r) (by omega) _ _ _) rfl ?_
      refine wl_mv (.tmp 23) (.int .i64 ((r + 1 : Nat) : Int)) (fun _ => rfl) rfl rfl ?_
      refine w_nil ?_
      exact xn_loop (rs.length + 1 - (r + 1)) (by omega) ⟨r + 1, pv3, cv3, rfl, e70_4, (by rw [lay_s, ← hne]; exact e70_6), rfl, by omega, (by rw [lay_s]; exact hW), M⟩
  | false =>
    have hie : (lay rs r).length = rs.length := by have := of_decide_eq_false hd; omega
    refine w_seq ?_
    refine w_seq ?_
    refine w_reg ?_
    refine wl_mv (.tmp 6) (.slice pv (lay rs r).length cv) (fun _ => rfl) e40_6 rfl ?_
    refine wl_val (.int .i64 (((lay rs r).length : Nat) : Int)) (len32 _ _ _ _ _ (by exact rfl) _ _ _ _ _ _) rfl ?_
    refine wl_mv (.tmp 4) (.slice (some ⟨kz, 0, none⟩) rs.length rs.length) (fun _ => rfl) e40_4 rfl ?_
    refine wl_val (.int .i64 ((rs.length : Nat) : Int)) (len32 _ _ _ _ _ (by exact rfl) _ _ _ _ _ _) rfl ?_
    refine wl_bin (fun x y => do eqGuard .lss 3 (.tmp 18) (.tmp 20) x y; binOp .lss 3 x y) (.tmp 18) (.tmp 20) (.int .i64 (((lay rs r).length : Nat) : Int)) (.int .i64 ((rs.length : Nat) : Int)) (.bool false) (fun _ => rfl) rfl rfl (ltN hd _ _ _) rfl ?_
    refine w_nil ?_
    refine xn_then ?_
    refine w_condF rfl ?_
    refine w_exit ?_
    refine xx_then ?_
    refine xx_then ?_
    refine xx_blk ?_
    refine xn_then ?_
    refine w_seq ?_
    refine w_reg ?_
    refine wl_mv (.tmp 6) (.slice pv (lay rs r).length cv) (fun _ => rfl) e40_6 rfl ?_
    refine wl_mv (.tmp 40) (.slice pv (lay rs r).length cv) (fun _ => rfl) rfl rfl ?_
    refine wl_mv (.const (.int .i64 (0))) (.int .i64 (0)) (fun _ => rfl) rfl rfl ?_
    refine w_nil ?_
    refine xn_then ?_
    refine w_ret ?_
    exact w_ret2 _ _ (.slice pv (lay rs r).length cv) (.int .i64 (0)) rfl rfl rfl ⟨rs, lay rs r, pv, cv, hrl, hrs, lay_all hie, lay_pw rs r, rfl, own_le hW hN0, M0.trans M⟩
end Go.Proofs.Ythghblgbjgghcaa
