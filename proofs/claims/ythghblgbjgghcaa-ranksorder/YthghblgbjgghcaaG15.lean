/-
  All that read an item by one step or more.
-/
import Derived.Test.YthghblgbjgghcaaG14
namespace Go.Proofs.Ythghblgbjgghcaa
open Go.RowKit D
theorem Rch.lt {R : List (List Nat)} {u n : Nat} (h : Rch R u n) (hR : Rin R) : n < R.length := by
  obtain ⟨k, hk⟩ := h
  induction k generalizing u with
  | zero => exact hR.row hk
  | succ k ih => obtain ⟨c, _, h2⟩ := hk; exact ih h2
theorem ris_no (n : Nat) : ris n (fun _ => false) = [] := by unfold ris; simp
theorem UA_rl {R : List (List Nat)} {U : List Iz} (h : U.map Iz.L = UA R) {x : Iz} (hx : x ∈ U) : x.L.length ≤ R.length := by
  have h1 : x.L ∈ UA R := by rw [← h]; exact List.mem_map.2 ⟨x, hx, rfl⟩
  unfold UA at h1
  obtain ⟨m, _, e⟩ := List.mem_map.1 h1
  rw [← e]; exact ris_len _ _
theorem below_nat {w : World} {l : List S5} {pl : Option Addr} {cl : Nat} (hL : SL w 5 S5.cells pl l) (hLx : ∀ x ∈ l, LS5 w x) (hz : l.length < 400000) (hzI : nI l < 400000) (hnd : ∀ y ∈ l, ∀ z ∈ y.items, nd z.ex ≤ 3000000) (m : Nat) : Calls Try.prog 19 #[.slice pl l.length cl, .int .i64 ((m : Nat) : Int)] w fun e w' => ∃ (p : Nat → Bool) (pa : Option Addr) (cap : Nat), (∀ u, p u = true ↔ Rch (RA l) u m) ∧ e = .returned (.slice pa (ris (nI l) p).length cap) ∧ Ow w.heap.size 3 1 ic w' pa cap (ris (nI l) p) ∧ Mo w w' := by
  by_cases hm : m < nI l
  · have hge : decide ((((nI l) : Nat) : Int) ≤ ((m : Nat) : Int)) = false := decide_eq_false (by omega)
    have hlt : decide (m < 0) = false := decide_eq_false (by omega)
    have hmR : m < (RA l).length := by rw [RA_len]; exact hm
    refine w_enter 42 Try.func19 Try.ntmps19 rfl rfl ?_
    have M : Mo w w := Mo.refl _
    refine w_seq ?_
    refine w_reg ?_
    refine wl_mv (.const (.slice none 0 0)) (.slice none 0 0) (fun _ => rfl) rfl rfl ?_
    refine w_nil ?_
    refine xn_then ?_
    refine w_seq ?_
    refine w_reg ?_
    refine wl_mv (.tmp 0) (.slice pl l.length cl) (fun _ => rfl) rfl rfl ?_
    refine wl_callx 39 [(.tmp 10)] _ [.slice pl l.length cl] rfl rfl (fun _ _ => by kernel_rfl) (users_n (hL.kp M.kp) (fun x hx => (hLx x hx).kp M.kp) hz hzI hnd) rfl ?_
    rintro e9 u1 ⟨ku, U, rfl, hV, hUU, hkuN, hq⟩
    refine ⟨_, rfl, ?_⟩
    have hUl : U.length = nI l := by have := congrArg List.length hUU; rw [UA_len, RA_len] at this; simpa using this
    have M00 := M.trans hq
    clear hq
    clear M
    have M : Mo u1 u1 := Mo.refl _
    refine wl_allocO 79 [.slice none 0 0] rfl (fun _ => by kernel_rfl) rfl ?_
    intro k1 u2 hk hz9 hq O1
    have Q1 := O1.at
    have N_k1 : u1.heap.size ≤ k1 := by have := M.size; omega
    replace M := M.trans hq
    clear hk hz9 hq
    refine wl_stO 79 (.tmp 5) (.tmp 11) k1 0 (.slice (some ⟨ku, 0, none⟩) (nI l) (nI l)) _ _ [.slice (some ⟨ku, 0, none⟩) (nI l) (nI l)] O1 rfl rfl rfl rfl rfl sz79 rfl rfl rfl rfl ?_
    intro u3 hK9 O9
    clear O1
    have O1 := O9
    clear O9
    replace Q1 := O1.at
    replace M := hK9.mo M (fun k e => e ▸ N_k1)
    clear hK9
    refine w_nil ?_
    refine xn_then ?_
    refine w_seq ?_
    refine w_seq ?_
    refine w_reg ?_
    refine wl_mv (.tmp 1) (.int .i64 ((m : Nat) : Int)) (fun _ => rfl) rfl rfl ?_
    refine wl_bin (fun x y => do eqGuard .lss 3 (.tmp 12) (.const (.int .i64 (0))) x y; binOp .lss 3 x y) (.tmp 12) (.const (.int .i64 (0))) (.int .i64 ((m : Nat) : Int)) (.int .i64 (0)) (.bool false) (fun _ => rfl) rfl rfl (ltN hlt _ _ _) rfl ?_
    refine wl_mv (.tmp 13) (.bool false) (fun _ => rfl) rfl rfl ?_
    refine wl_mv (.tmp 1) (.int .i64 ((m : Nat) : Int)) (fun _ => rfl) rfl rfl ?_
    refine wl_load 79 (.tmp 5) (pt k1 0) (.slice (some ⟨ku, 0, none⟩) (nI l) (nI l)) rfl rfl (run_one Q1 79 0 rfl Try.underlying79 rfl) rfl ?_
    refine wl_val (.int .i64 (((nI l) : Nat) : Int)) (len79 _ _ _ _ _ (by exact rfl) _ _ _ _ _ _) rfl ?_
    refine wl_bin (fun x y => do eqGuard .geq 3 (.tmp 15) (.tmp 17) x y; binOp .geq 3 x y) (.tmp 15) (.tmp 17) (.int .i64 ((m : Nat) : Int)) (.int .i64 (((nI l) : Nat) : Int)) (.bool false) (fun _ => rfl) rfl rfl (ge3 hge _ _ _) rfl ?_
    refine wl_pick (.tmp 14) (.const (.bool true)) (.tmp 18) false (.bool false) (fun _ => rfl) rfl rfl rfl ?_
    refine w_nil ?_
    refine xn_then ?_
    refine w_condF rfl ?_
    refine w_skip ?_
    refine xn_then ?_
    refine w_seq ?_
    refine w_reg ?_
    refine wl_load 79 (.tmp 5) (pt k1 0) (.slice (some ⟨ku, 0, none⟩) (nI l) (nI l)) rfl rfl (run_one Q1 79 0 rfl Try.underlying79 rfl) rfl ?_
    refine wl_val (.int .i64 (((nI l) : Nat) : Int)) (len79 _ _ _ _ _ (by exact rfl) _ _ _ _ _ _) rfl ?_
    refine wl_makeS 81 4 (.tmp 21) (.tmp 21) ((nI l)) (.bool false) 1 Try.underlying81 inf4 rfl (by omega) (by omega) rfl rfl rfl rfl ?_
    intro k2 u4 hk hz hq O2
    have Q2 := O2.at
    have ne_k1_k2 : k1 ≠ k2 := by have := Q1.lt; omega
    have N_k2 : u1.heap.size ≤ k2 := by have := M.size; omega
    replace Q1 := Q1.mo hq
    replace O1 := O1.mo hq
    replace M := M.trans hq
    clear hk hz hq
    refine wl_allocO 81 [.slice none 0 0] rfl (fun _ => by kernel_rfl) rfl ?_
    intro k3 u5 hk hz9 hq O3
    have Q3 := O3.at
    have ne_k1_k3 : k1 ≠ k3 := by have := Q1.lt; omega
    have ne_k2_k3 : k2 ≠ k3 := by have := Q2.lt; omega
    have N_k3 : u1.heap.size ≤ k3 := by have := M.size; omega
    replace Q1 := Q1.mo hq
    replace Q2 := Q2.mo hq
    replace O1 := O1.mo hq
    replace O2 := O2.mo hq
    replace M := M.trans hq
    clear hk hz9 hq
    refine wl_stO 81 (.tmp 6) (.tmp 22) k3 0 (.slice (some ⟨k2, 0, none⟩) (nI l) (nI l)) _ _ [.slice (some ⟨k2, 0, none⟩) (nI l) (nI l)] O3 rfl rfl rfl rfl rfl sz81 rfl rfl rfl rfl ?_
    intro u6 hK9 O9
    clear O3
    have O3 := O9
    clear O9
    replace Q3 := O3.at
    replace Q1 := hK9.at Q1 ne_k1_k3
    replace O1 := O1.mk hK9 ne_k1_k3
    replace Q2 := hK9.at Q2 ne_k2_k3
    replace O2 := O2.mk hK9 ne_k2_k3
    replace M := hK9.mo M (fun k e => e ▸ N_k3)
    clear hK9
    refine w_nil ?_
    refine xn_then ?_
    refine w_seq ?_
    refine w_reg ?_
    refine wl_allocO 82 [.nilFunc] rfl (fun _ => by kernel_rfl) rfl ?_
    intro k4 u7 hk hz9 hq O4
    have Q4 := O4.at
    have ne_k1_k4 : k1 ≠ k4 := by have := Q1.lt; omega
    have ne_k2_k4 : k2 ≠ k4 := by have := Q2.lt; omega
    have ne_k3_k4 : k3 ≠ k4 := by have := Q3.lt; omega
    have N_k4 : u1.heap.size ≤ k4 := by have := M.size; omega
    replace Q1 := Q1.mo hq
    replace Q2 := Q2.mo hq
    replace Q3 := Q3.mo hq
    replace O1 := O1.mo hq
    replace O2 := O2.mo hq
    replace O3 := O3.mo hq
    replace M := M.trans hq
    clear hk hz9 hq
    refine w_nil ?_
    refine xn_then ?_
    refine w_seq ?_
    refine w_reg ?_
    refine wl_mf (.func 42) [] [(.tmp 5), (.tmp 6), (.tmp 7)] [] [pt k1 0, pt k3 0, pt k4 0] rfl rfl rfl rfl ?_
    refine wl_stO 82 (.tmp 7) (.tmp 23) k4 0 (.func (.func 42) #[] #[pt k1 0, pt k3 0, pt k4 0]) _ _ [.func (.func 42) #[] #[pt k1 0, pt k3 0, pt k4 0]] O4 rfl rfl rfl rfl rfl sz82 rfl rfl rfl rfl ?_
    intro u8 hK9 O9
    clear O4
    have O4 := O9
    clear O9
    replace Q4 := O4.at
    replace Q1 := hK9.at Q1 ne_k1_k4
    replace O1 := O1.mk hK9 ne_k1_k4
    replace Q2 := hK9.at Q2 ne_k2_k4
    replace O2 := O2.mk hK9 ne_k2_k4
    replace Q3 := hK9.at Q3 ne_k3_k4
    replace O3 := O3.mk hK9 ne_k3_k4
    replace M := hK9.mo M (fun k e => e ▸ N_k4)
    clear hK9
    refine w_nil ?_
    refine xn_then ?_
    refine w_seq ?_
    refine w_reg ?_
    refine wl_load 82 (.tmp 7) (pt k4 0) (.func (.func 42) #[] #[pt k1 0, pt k3 0, pt k4 0]) rfl rfl (run_one Q4 82 0 rfl Try.underlying82 rfl) rfl ?_
    refine wl_mv (.tmp 1) (.int .i64 ((m : Nat) : Int)) (fun _ => rfl) rfl rfl ?_
    rw [← hUl] at Q1 Q3
    have hB0 : Bs U k1 k3 k4 ku k2 u8 (List.replicate (nI l) false) := ⟨Q1, Q3, Q4, (hV.mo M).ob, fun x hx => Li.own ((hV.mo M).ow x hx) (by have := UA_rl hUU hx; rw [RA_len] at this; unfold maxLen; omega), (by simpa using O2), by simp [hUl], ne_k1_k2, Ne.symm ne_k2_k3, Ne.symm ne_k2_k4⟩
    rw [hUl] at Q1 Q3
    refine wl_callv 42 (.tmp 24) #[] #[pt k1 0, pt k3 0, pt k4 0] [(.tmp 25)] _ [.int .i64 ((m : Nat) : Int)] [.int .i64 ((m : Nat) : Int), pt k1 0, pt k3 0, pt k4 0] rfl rfl rfl rfl (fun _ _ => by kernel_rfl) (desc_n (n0 := m) hUU (by rw [RA_len]; exact hzI) _ (Nat.le_refl _) hmR hB0 (fun u hu => by rw [List.getElem?_replicate] at hu; split at hu <;> simp at hu) (Or.inl rfl)) rfl ?_
    rintro e9 u9 ⟨rfl, B, hB, hD, hk3, hS, hm3⟩
    refine ⟨_, rfl, ?_⟩
    have M0 := M00.trans (hm3.mo M (fun k e => e ▸ N_k2))
    have hN0 := M0.size
    have hmet := met_all hmR (by rw [RA_len]; exact hD) hk3 hS
    have hbl : B.length = nI l := by rw [hB.le, hUl]
    clear hV hB0 hD hk3 hS hm3 Q1 Q2 Q3 Q4 O1 O2 O3 O4
    clear M
    have M : Mo u9 u9 := Mo.refl _
    refine w_nil ?_
    refine xn_then ?_
    refine w_seq ?_
    refine w_reg ?_
    refine wl_mv (.const (.slice none 0 0)) (.slice none 0 0) (fun _ => rfl) rfl rfl ?_
    refine w_nil ?_
    refine xn_then ?_
    refine w_seq ?_
    refine w_seq ?_
    have a_T := (hB.mo M).aT
    rw [hUl] at a_T
    refine w_reg ?_
    refine wl_load 81 (.tmp 6) (pt k3 0) (.slice (some ⟨k2, 0, none⟩) (nI l) (nI l)) rfl rfl (run_one a_T 81 0 rfl Try.underlying81 rfl) rfl ?_
    refine wl_val (.int .i64 (((nI l) : Nat) : Int)) (len81 _ _ _ _ _ (by exact rfl) _ _ _ _ _ _) rfl ?_
    refine wl_mv (.const (.int .i64 (0))) (.int .i64 (0)) (fun _ => rfl) rfl rfl ?_
    refine w_nil ?_
    refine xn_then ?_
    refine w_block ?_
    clear a_T
    refine w_loop (fun m lf w1 => ∃ i : Nat, ∃ pv : Option Addr, ∃ cv : Nat, m = nI l - i ∧ look lf 6 = pt k3 0 ∧ look lf 8 = .slice pv (ris i (fun n => decide (B[n]? = some true))).length cv ∧ look lf 28 = .int .i64 (((nI l) : Nat) : Int) ∧ look lf 29 = .int .i64 ((i : Nat) : Int) ∧ (i ≤ nI l) ∧ (Ow u9.heap.size 3 1 ic w1 pv cv (ris i (fun n => decide (B[n]? = some true)))) ∧ (Mo u9 w1)) _ ⟨0, none, 0, rfl, rfl, rfl, rfl, rfl, Nat.zero_le _, Ow.nil _ _ _ _ _, M⟩ ?_
    clear M
    rintro m lf40 wl40 ⟨i, pv, cv, rfl, e40_6, e40_8, e40_28, e40_29, hi, hW, M⟩
    cases hd2 : decide (i < (nI l)) with
    | true =>
      have hil := of_decide_eq_true hd2
      have hrb := ris_len i (fun n => decide (B[n]? = some true))
      obtain ⟨bv, hbv⟩ := get_of_lt (show i < B.length by omega)
      cases bv with
      | true =>
        have a_T := (hB.mo M).aT
        rw [hUl] at a_T
        have a_B := (hB.mo M).bt.at
        have hpp : (fun n => decide (B[n]? = some true)) i = true := by simp [hbv]
        refine w_seq ?_
        refine w_reg ?_
        refine wl_bin (fun x y => do eqGuard .lss 3 (.tmp 29) (.tmp 28) x y; binOp .lss 3 x y) (.tmp 29) (.tmp 28) (.int .i64 ((i : Nat) : Int)) (.int .i64 (((nI l) : Nat) : Int)) (.bool true) (fun _ => rfl) e40_29 e40_28 (ltN hd2 _ _ _) rfl ?_
        refine w_nil ?_
        refine xn_then ?_
        refine w_seq ?_
        refine w_condT rfl ?_
        refine w_skip ?_
        refine xn_then ?_
        refine w_seq ?_
        refine w_block ?_
        refine w_seq ?_
        refine w_reg ?_
        refine wl_mv (.tmp 29) (.int .i64 ((i : Nat) : Int)) (fun _ => rfl) e40_29 rfl ?_
        refine wl_mv (.tmp 31) (.int .i64 ((i : Nat) : Int)) (fun _ => rfl) rfl rfl ?_
        refine w_nil ?_
        refine xn_then ?_
        refine w_seq ?_
        refine w_reg ?_
        refine wl_load 81 (.tmp 6) (pt k3 0) (.slice (some ⟨k2, 0, none⟩) (nI l) (nI l)) rfl e40_6 (run_one a_T 81 0 rfl Try.underlying81 rfl) rfl ?_
        refine wl_mv (.tmp 9) (.int .i64 ((i : Nat) : Int)) (fun _ => rfl) rfl rfl ?_
        refine wl_bin (fun x y => Instr.indexAt 81 x y) (.tmp 32) (.tmp 33) (.slice (some ⟨k2, 0, none⟩) (nI l) (nI l)) (.int .i64 ((i : Nat) : Int)) (pt k2 (0 + i * 1)) (fun _ => rfl) rfl rfl (ix81 (i := i) rfl (by omega) _) rfl ?_
        refine wl_load 4 (.tmp 34) (pt k2 (0 + i * 1)) (.bool true) rfl rfl (run_one a_B 4 (0 + i * 1) (by simp [hbv]) Try.underlying4 rfl) rfl ?_
        refine w_nil ?_
        refine xn_then ?_
        refine w_condT rfl ?_
        refine w_reg ?_
        refine wl_mv (.tmp 8) (.slice pv (ris i (fun n => decide (B[n]? = some true))).length cv) (fun _ => rfl) e40_8 rfl ?_
        refine wl_mv (.tmp 9) (.int .i64 ((i : Nat) : Int)) (fun _ => rfl) rfl rfl ?_
        refine wl_bs 32 1 [(0, (.tmp 37))] [(0, .int .i64 ((i : Nat) : Int))] #[.int .i64 ((i : Nat) : Int)] 3 rfl rfl (fun _ => by kernel_rfl) rfl ?_
        intro k5 u41 hk hz hq Q5
        have ne_k3_k5 : k3 ≠ k5 := by have := a_T.lt; omega
        have ne_k2_k5 : k2 ≠ k5 := by have := a_B.lt; omega
        have N_k5 : u9.heap.size ≤ k5 := by have := M.size; omega
        replace a_T := a_T.mo hq
        replace a_B := a_B.mo hq
        replace hW := own_mo hW hq
        replace M := M.trans hq
        clear hk hz hq
        refine wl_apI (.tmp 36) (.tmp 38) k5 rfl rfl rfl hW Q5 (by omega) M.size rfl ?_
        intro pv2 cv2 u42 hW2 hK9 hv9
        replace M := own_gap hW hK9 (Nat.le_refl _) M
        clear hW hK9 hv9
        have hW := hW2
        clear hW2
        refine wl_mv (.tmp 39) (.slice pv2 ((ris i (fun n => decide (B[n]? = some true))) ++ [i]).length cv2) (fun _ => rfl) rfl rfl ?_
        refine w_nil ?_
        refine xn_blk ?_
        refine xn_then ?_
        refine w_reg ?_
        refine wl_bin (fun x y => do eqGuard .add 3 (.tmp 29) (.const (.int .i64 (1))) x y; binOp .add 3 x y) (.tmp 29) (.const (.int .i64 (1))) (.int .i64 ((i : Nat) : Int)) (.int .i64 (1)) (.int .i64 ((i + 1 : Nat) : Int)) (fun _ => rfl) e40_29 rfl (add1r (k := i) (by omega) _ _ _) rfl ?_
        refine wl_mv (.tmp 40) (.int .i64 ((i + 1 : Nat) : Int)) (fun _ => rfl) rfl rfl ?_
        refine w_nil ?_
        have hrs : ris (i + 1) (fun n => decide (B[n]? = some true)) = ris i (fun n => decide (B[n]? = some true)) ++ [i] := ris_t hpp
        rw [← hrs] at hW
        exact xn_loop (nI l - (i + 1)) (by omega) ⟨i + 1, pv2, cv2, rfl, e40_6, (by rw [hrs]; rfl), e40_28, rfl, by omega, hW, M⟩
      | false =>
        have a_T := (hB.mo M).aT
        rw [hUl] at a_T
        have a_B := (hB.mo M).bt.at
        have hpp : (fun n => decide (B[n]? = some true)) i = false := by simp [hbv]
        refine w_seq ?_
        refine w_reg ?_
        refine wl_bin (fun x y => do eqGuard .lss 3 (.tmp 29) (.tmp 28) x y; binOp .lss 3 x y) (.tmp 29) (.tmp 28) (.int .i64 ((i : Nat) : Int)) (.int .i64 (((nI l) : Nat) : Int)) (.bool true) (fun _ => rfl) e40_29 e40_28 (ltN hd2 _ _ _) rfl ?_
        refine w_nil ?_
        refine xn_then ?_
        refine w_seq ?_
        refine w_condT rfl ?_
        refine w_skip ?_
        refine xn_then ?_
        refine w_seq ?_
        refine w_block ?_
        refine w_seq ?_
        refine w_reg ?_
        refine wl_mv (.tmp 29) (.int .i64 ((i : Nat) : Int)) (fun _ => rfl) e40_29 rfl ?_
        refine wl_mv (.tmp 31) (.int .i64 ((i : Nat) : Int)) (fun _ => rfl) rfl rfl ?_
        refine w_nil ?_
        refine xn_then ?_
        refine w_seq ?_
        refine w_reg ?_
        refine wl_load 81 (.tmp 6) (pt k3 0) (.slice (some ⟨k2, 0, none⟩) (nI l) (nI l)) rfl e40_6 (run_one a_T 81 0 rfl Try.underlying81 rfl) rfl ?_
        refine wl_mv (.tmp 9) (.int .i64 ((i : Nat) : Int)) (fun _ => rfl) rfl rfl ?_
        refine wl_bin (fun x y => Instr.indexAt 81 x y) (.tmp 32) (.tmp 33) (.slice (some ⟨k2, 0, none⟩) (nI l) (nI l)) (.int .i64 ((i : Nat) : Int)) (pt k2 (0 + i * 1)) (fun _ => rfl) rfl rfl (ix81 (i := i) rfl (by omega) _) rfl ?_
        refine wl_load 4 (.tmp 34) (pt k2 (0 + i * 1)) (.bool false) rfl rfl (run_one a_B 4 (0 + i * 1) (by simp [hbv]) Try.underlying4 rfl) rfl ?_
        refine w_nil ?_
        refine xn_then ?_
        refine w_condF rfl ?_
        refine w_skip ?_
        refine xn_blk ?_
        refine xn_then ?_
        refine w_reg ?_
        refine wl_bin (fun x y => do eqGuard .add 3 (.tmp 29) (.const (.int .i64 (1))) x y; binOp .add 3 x y) (.tmp 29) (.const (.int .i64 (1))) (.int .i64 ((i : Nat) : Int)) (.int .i64 (1)) (.int .i64 ((i + 1 : Nat) : Int)) (fun _ => rfl) e40_29 rfl (add1r (k := i) (by omega) _ _ _) rfl ?_
        refine wl_mv (.tmp 40) (.int .i64 ((i + 1 : Nat) : Int)) (fun _ => rfl) rfl rfl ?_
        refine w_nil ?_
        have hrs : ris (i + 1) (fun n => decide (B[n]? = some true)) = ris i (fun n => decide (B[n]? = some true)) := ris_f hpp
        exact xn_loop (nI l - (i + 1)) (by omega) ⟨i + 1, pv, cv, rfl, e40_6, (by rw [hrs]; exact e40_8), e40_28, rfl, by omega, by rw [hrs]; exact hW, M⟩
    | false =>
      have hie : i = nI l := by have := of_decide_eq_false hd2; omega
      rw [hie] at hW
      refine w_seq ?_
      refine w_reg ?_
      refine wl_bin (fun x y => do eqGuard .lss 3 (.tmp 29) (.tmp 28) x y; binOp .lss 3 x y) (.tmp 29) (.tmp 28) (.int .i64 ((i : Nat) : Int)) (.int .i64 (((nI l) : Nat) : Int)) (.bool false) (fun _ => rfl) e40_29 e40_28 (ltN hd2 _ _ _) rfl ?_
      refine w_nil ?_
      refine xn_then ?_
      refine w_seq ?_
      refine w_condF rfl ?_
      refine w_exit ?_
      refine xx_then ?_
      refine xx_then ?_
      refine xx_blk ?_
      refine xn_then ?_
      refine w_seq ?_
      refine w_reg ?_
      refine wl_mv (.tmp 8) (.slice pv (ris i (fun n => decide (B[n]? = some true))).length cv) (fun _ => rfl) e40_8 rfl ?_
      refine wl_mv (.tmp 41) (.slice pv (ris i (fun n => decide (B[n]? = some true))).length cv) (fun _ => rfl) rfl rfl ?_
      refine w_nil ?_
      refine xn_then ?_
      refine w_ret ?_
      exact w_ret1 _ (.slice pv (ris i (fun n => decide (B[n]? = some true))).length cv) rfl rfl ⟨(fun n => decide (B[n]? = some true)), pv, cv, (fun u => by simp only [decide_eq_true_eq]; exact hmet u), by rw [hie], own_le hW hN0, M0.trans M⟩
  · have hge : decide ((((nI l) : Nat) : Int) ≤ ((m : Nat) : Int)) = true := decide_eq_true (by omega)
    have hlt : decide (m < 0) = false := decide_eq_false (by omega)
    have hno : ∀ u, ¬ Rch (RA l) u m := fun u h => by have := h.lt (RA_in l); rw [RA_len] at this; omega
    refine w_enter 42 Try.func19 Try.ntmps19 rfl rfl ?_
    have M : Mo w w := Mo.refl _
    refine w_seq ?_
    refine w_reg ?_
    refine wl_mv (.const (.slice none 0 0)) (.slice none 0 0) (fun _ => rfl) rfl rfl ?_
    refine w_nil ?_
    refine xn_then ?_
    refine w_seq ?_
    refine w_reg ?_
    refine wl_mv (.tmp 0) (.slice pl l.length cl) (fun _ => rfl) rfl rfl ?_
    refine wl_callx 39 [(.tmp 10)] _ [.slice pl l.length cl] rfl rfl (fun _ _ => by kernel_rfl) (users_n (hL.kp M.kp) (fun x hx => (hLx x hx).kp M.kp) hz hzI hnd) rfl ?_
    rintro e9 u1 ⟨ku, U, rfl, hV, hUU, hkuN, hq⟩
    refine ⟨_, rfl, ?_⟩
    have hUl : U.length = nI l := by have := congrArg List.length hUU; rw [UA_len, RA_len] at this; simpa using this
    have M00 := M.trans hq
    clear hq
    clear M
    have M : Mo u1 u1 := Mo.refl _
    refine wl_allocO 79 [.slice none 0 0] rfl (fun _ => by kernel_rfl) rfl ?_
    intro k1 u2 hk hz9 hq O1
    have Q1 := O1.at
    have N_k1 : u1.heap.size ≤ k1 := by have := M.size; omega
    replace M := M.trans hq
    clear hk hz9 hq
    refine wl_stO 79 (.tmp 5) (.tmp 11) k1 0 (.slice (some ⟨ku, 0, none⟩) (nI l) (nI l)) _ _ [.slice (some ⟨ku, 0, none⟩) (nI l) (nI l)] O1 rfl rfl rfl rfl rfl sz79 rfl rfl rfl rfl ?_
    intro u3 hK9 O9
    clear O1
    have O1 := O9
    clear O9
    replace Q1 := O1.at
    replace M := hK9.mo M (fun k e => e ▸ N_k1)
    clear hK9
    refine w_nil ?_
    refine xn_then ?_
    refine w_seq ?_
    refine w_seq ?_
    refine w_reg ?_
    refine wl_mv (.tmp 1) (.int .i64 ((m : Nat) : Int)) (fun _ => rfl) rfl rfl ?_
    refine wl_bin (fun x y => do eqGuard .lss 3 (.tmp 12) (.const (.int .i64 (0))) x y; binOp .lss 3 x y) (.tmp 12) (.const (.int .i64 (0))) (.int .i64 ((m : Nat) : Int)) (.int .i64 (0)) (.bool false) (fun _ => rfl) rfl rfl (ltN hlt _ _ _) rfl ?_
    refine wl_mv (.tmp 13) (.bool false) (fun _ => rfl) rfl rfl ?_
    refine wl_mv (.tmp 1) (.int .i64 ((m : Nat) : Int)) (fun _ => rfl) rfl rfl ?_
    refine wl_load 79 (.tmp 5) (pt k1 0) (.slice (some ⟨ku, 0, none⟩) (nI l) (nI l)) rfl rfl (run_one Q1 79 0 rfl Try.underlying79 rfl) rfl ?_
    refine wl_val (.int .i64 (((nI l) : Nat) : Int)) (len79 _ _ _ _ _ (by exact rfl) _ _ _ _ _ _) rfl ?_
    refine wl_bin (fun x y => do eqGuard .geq 3 (.tmp 15) (.tmp 17) x y; binOp .geq 3 x y) (.tmp 15) (.tmp 17) (.int .i64 ((m : Nat) : Int)) (.int .i64 (((nI l) : Nat) : Int)) (.bool true) (fun _ => rfl) rfl rfl (ge3 hge _ _ _) rfl ?_
    refine wl_pick (.tmp 14) (.const (.bool true)) (.tmp 18) false (.bool true) (fun _ => rfl) rfl rfl rfl ?_
    refine w_nil ?_
    refine xn_then ?_
    refine w_condT rfl ?_
    refine w_seq ?_
    refine w_reg ?_
    refine wl_mv (.const (.slice none 0 0)) (.slice none 0 0) (fun _ => rfl) rfl rfl ?_
    refine w_nil ?_
    refine xn_then ?_
    refine w_ret ?_
    refine xr_then ?_
    exact w_ret1 _ (.slice none 0 0) rfl rfl ⟨fun _ => false, none, 0, fun u => ⟨fun h => Bool.noConfusion h, fun h => (hno u h).elim⟩, by rw [ris_no]; rfl, by rw [ris_no]; exact Ow.nil _ _ _ _ _, M00.trans M⟩
theorem below_neg {w : World} {l : List S5} {pl : Option Addr} {cl : Nat} (hL : SL w 5 S5.cells pl l) (hLx : ∀ x ∈ l, LS5 w x) (hz : l.length < 400000) (hzI : nI l < 400000) (hnd : ∀ y ∈ l, ∀ z ∈ y.items, nd z.ex ≤ 3000000) (n : Int) (hn : n < 0) : Calls Try.prog 19 #[.slice pl l.length cl, .int .i64 n] w fun e w' => e = .returned (.slice none 0 0) ∧ Mo w w' := by
  have hlt : decide (n < 0) = true := decide_eq_true hn
  refine w_enter 42 Try.func19 Try.ntmps19 rfl rfl ?_
  have M : Mo w w := Mo.refl _
  refine w_seq ?_
  refine w_reg ?_
  refine wl_mv (.const (.slice none 0 0)) (.slice none 0 0) (fun _ => rfl) rfl rfl ?_
  refine w_nil ?_
  refine xn_then ?_
  refine w_seq ?_
  refine w_reg ?_
  refine wl_mv (.tmp 0) (.slice pl l.length cl) (fun _ => rfl) rfl rfl ?_
  refine wl_callx 39 [(.tmp 10)] _ [.slice pl l.length cl] rfl rfl (fun _ _ => by kernel_rfl) (users_n (hL.kp M.kp) (fun x hx => (hLx x hx).kp M.kp) hz hzI hnd) rfl ?_
  rintro e9 u1 ⟨ku, U, rfl, hV, hUU, hkuN, hq⟩
  refine ⟨_, rfl, ?_⟩
  have hUl : U.length = nI l := by have := congrArg List.length hUU; rw [UA_len, RA_len] at this; simpa using this
  have M00 := M.trans hq
  clear hq
  clear M
  have M : Mo u1 u1 := Mo.refl _
  refine wl_allocO 79 [.slice none 0 0] rfl (fun _ => by kernel_rfl) rfl ?_
  intro k1 u2 hk hz9 hq O1
  have Q1 := O1.at
  have N_k1 : u1.heap.size ≤ k1 := by have := M.size; omega
  replace M := M.trans hq
  clear hk hz9 hq
  refine wl_stO 79 (.tmp 5) (.tmp 11) k1 0 (.slice (some ⟨ku, 0, none⟩) (nI l) (nI l)) _ _ [.slice (some ⟨ku, 0, none⟩) (nI l) (nI l)] O1 rfl rfl rfl rfl rfl sz79 rfl rfl rfl rfl ?_
  intro u3 hK9 O9
  clear O1
  have O1 := O9
  clear O9
  replace Q1 := O1.at
  replace M := hK9.mo M (fun k e => e ▸ N_k1)
  clear hK9
  refine w_nil ?_
  refine xn_then ?_
  refine w_seq ?_
  refine w_seq ?_
  refine w_reg ?_
  refine wl_mv (.tmp 1) (.int .i64 (n)) (fun _ => rfl) rfl rfl ?_
  refine wl_bin (fun x y => do eqGuard .lss 3 (.tmp 12) (.const (.int .i64 (0))) x y; binOp .lss 3 x y) (.tmp 12) (.const (.int .i64 (0))) (.int .i64 (n)) (.int .i64 (0)) (.bool true) (fun _ => rfl) rfl rfl (lt3 hlt _ _ _) rfl ?_
  refine wl_mv (.tmp 13) (.bool true) (fun _ => rfl) rfl rfl ?_
  refine wl_skip rfl ?_
  refine wl_skip rfl ?_
  refine wl_skip rfl ?_
  refine wl_skip rfl ?_
  refine wl_pick (.tmp 14) (.const (.bool true)) (.tmp 18) true (.bool true) (fun _ => rfl) rfl rfl rfl ?_
  refine w_nil ?_
  refine xn_then ?_
  refine w_condT rfl ?_
  refine w_seq ?_
  refine w_reg ?_
  refine wl_mv (.const (.slice none 0 0)) (.slice none 0 0) (fun _ => rfl) rfl rfl ?_
  refine w_nil ?_
  refine xn_then ?_
  refine w_ret ?_
  refine xr_then ?_
  exact w_ret1 _ (.slice none 0 0) rfl rfl ⟨rfl, M00.trans M⟩
end Go.Proofs.Ythghblgbjgghcaa
