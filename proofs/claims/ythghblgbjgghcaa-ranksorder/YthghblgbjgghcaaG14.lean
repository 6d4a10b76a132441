/-
  Who reads by more steps.
-/
import Derived.Test.YthghblgbjgghcaaG13
namespace Go.Proofs.Ythghblgbjgghcaa
open Go.RowKit D
theorem users_nat {w : World} {l : List S5} {pl : Option Addr} {cl : Nat} (hL : SL w 5 S5.cells pl l) (hLx : ∀ x ∈ l, LS5 w x) (hz : l.length < 400000) (hzI : nI l < 400000) (hnd : ∀ y ∈ l, ∀ z ∈ y.items, nd z.ex ≤ 3000000) (m : Nat) : Calls Try.prog 17 #[.slice pl l.length cl, .int .i64 ((m : Nat) : Int)] w fun e w' => ∃ (pa : Option Addr) (cap : Nat), e = .returned (.slice pa (ris (nI l) (fun u => decide (m ∈ row (RA l) u))).length cap) ∧ Ow w.heap.size 3 1 ic w' pa cap (ris (nI l) (fun u => decide (m ∈ row (RA l) u))) ∧ Mo w w' := by
  by_cases hm : m < nI l
  · have hge : decide ((((nI l) : Nat) : Int) ≤ ((m : Nat) : Int)) = false := decide_eq_false (by omega)
    have hlt : decide (m < 0) = false := decide_eq_false (by omega)
    refine w_enter 20 Try.func17 Try.ntmps17 rfl rfl ?_
    have M : Mo w w := Mo.refl _
    refine w_seq ?_
    refine w_reg ?_
    refine wl_mv (.const (.slice none 0 0)) (.slice none 0 0) (fun _ => rfl) rfl rfl ?_
    refine w_nil ?_
    refine xn_then ?_
    refine w_seq ?_
    refine w_reg ?_
    refine wl_mv (.tmp 0) (.slice pl l.length cl) (fun _ => rfl) rfl rfl ?_
    refine wl_callx 39 [(.tmp 6)] _ [.slice pl l.length cl] rfl rfl (fun _ _ => by kernel_rfl) (users_n (hL.kp M.kp) (fun x hx => (hLx x hx).kp M.kp) hz hzI hnd) rfl ?_
    rintro e9 u1 ⟨ku, U, rfl, hV, hUU, hkuN, hq⟩
    refine ⟨_, rfl, ?_⟩
    have hUl : U.length = nI l := by have := congrArg List.length hUU; rw [UA_len, RA_len] at this; simpa using this
    replace M := M.trans hq
    clear hq
    refine wl_mv (.tmp 7) (.slice (some ⟨ku, 0, none⟩) (nI l) (nI l)) (fun _ => rfl) rfl rfl ?_
    refine w_nil ?_
    refine xn_then ?_
    refine w_seq ?_
    refine w_seq ?_
    refine w_reg ?_
    refine wl_mv (.tmp 1) (.int .i64 ((m : Nat) : Int)) (fun _ => rfl) rfl rfl ?_
    refine wl_bin (fun x y => do eqGuard .lss 3 (.tmp 8) (.const (.int .i64 (0))) x y; binOp .lss 3 x y) (.tmp 8) (.const (.int .i64 (0))) (.int .i64 ((m : Nat) : Int)) (.int .i64 (0)) (.bool false) (fun _ => rfl) rfl rfl (ltN hlt _ _ _) rfl ?_
    refine wl_mv (.tmp 9) (.bool false) (fun _ => rfl) rfl rfl ?_
    refine wl_mv (.tmp 1) (.int .i64 ((m : Nat) : Int)) (fun _ => rfl) rfl rfl ?_
    refine wl_mv (.tmp 5) (.slice (some ⟨ku, 0, none⟩) (nI l) (nI l)) (fun _ => rfl) rfl rfl ?_
    refine wl_val (.int .i64 (((nI l) : Nat) : Int)) (len79 _ _ _ _ _ (by exact rfl) _ _ _ _ _ _) rfl ?_
    refine wl_bin (fun x y => do eqGuard .geq 3 (.tmp 11) (.tmp 13) x y; binOp .geq 3 x y) (.tmp 11) (.tmp 13) (.int .i64 ((m : Nat) : Int)) (.int .i64 (((nI l) : Nat) : Int)) (.bool false) (fun _ => rfl) rfl rfl (ge3 hge _ _ _) rfl ?_
    refine wl_pick (.tmp 10) (.const (.bool true)) (.tmp 14) false (.bool false) (fun _ => rfl) rfl rfl rfl ?_
    refine w_nil ?_
    refine xn_then ?_
    refine w_condF rfl ?_
    refine w_skip ?_
    refine xn_then ?_
    refine w_seq ?_
    have hmR : m < (RA l).length := by rw [RA_len]; exact hm
    obtain ⟨x, hx⟩ := get_of_lt (show m < U.length by omega)
    have hxL : x.L = (ris (nI l) (fun u => decide (m ∈ row (RA l) u))) := by rw [← RA_len l, ← UA_row hmR]; exact (row_eq (by rw [← hUU, List.getElem?_map, hx]; rfl)).symm
    have QV := hV.ob.at
    refine w_reg ?_
    refine wl_mv (.tmp 5) (.slice (some ⟨ku, 0, none⟩) (nI l) (nI l)) (fun _ => rfl) rfl rfl ?_
    refine wl_mv (.tmp 1) (.int .i64 ((m : Nat) : Int)) (fun _ => rfl) rfl rfl ?_
    refine wl_bin (fun x y => Instr.indexAt 79 x y) (.tmp 16) (.tmp 17) (.slice (some ⟨ku, 0, none⟩) (nI l) (nI l)) (.int .i64 ((m : Nat) : Int)) (pt ku (0 + m * 1)) (fun _ => rfl) rfl rfl (ix79 (i := m) rfl (by omega) _) rfl ?_
    refine wl_load 32 (.tmp 18) (pt ku (0 + m * 1)) (.slice x.pa x.L.length x.cap) rfl rfl (run_one QV 32 (0 + m * 1) (by simp [hx]) Try.underlying32 rfl) rfl ?_
    refine wl_mv (.tmp 19) (.slice x.pa x.L.length x.cap) (fun _ => rfl) rfl rfl ?_
    refine w_nil ?_
    refine xn_then ?_
    refine w_ret ?_
    exact w_ret1 _ (.slice x.pa x.L.length x.cap) rfl rfl ⟨x.pa, x.cap, by rw [hxL], (by have := hV.ow x (List.mem_of_getElem? hx); rw [hxL] at this; exact this), M⟩
  · have hge : decide ((((nI l) : Nat) : Int) ≤ ((m : Nat) : Int)) = true := decide_eq_true (by omega)
    have hlt : decide (m < 0) = false := decide_eq_false (by omega)
    have hnil : (ris (nI l) (fun u => decide (m ∈ row (RA l) u))) = [] := by unfold ris; rw [List.filter_eq_nil_iff]; intro u _ h; have := (RA_in l).row (of_decide_eq_true h); rw [RA_len] at this; omega
    refine w_enter 20 Try.func17 Try.ntmps17 rfl rfl ?_
    have M : Mo w w := Mo.refl _
    refine w_seq ?_
    refine w_reg ?_
    refine wl_mv (.const (.slice none 0 0)) (.slice none 0 0) (fun _ => rfl) rfl rfl ?_
    refine w_nil ?_
    refine xn_then ?_
    refine w_seq ?_
    refine w_reg ?_
    refine wl_mv (.tmp 0) (.slice pl l.length cl) (fun _ => rfl) rfl rfl ?_
    refine wl_callx 39 [(.tmp 6)] _ [.slice pl l.length cl] rfl rfl (fun _ _ => by kernel_rfl) (users_n (hL.kp M.kp) (fun x hx => (hLx x hx).kp M.kp) hz hzI hnd) rfl ?_
    rintro e9 u1 ⟨ku, U, rfl, hV, hUU, hkuN, hq⟩
    refine ⟨_, rfl, ?_⟩
    have hUl : U.length = nI l := by have := congrArg List.length hUU; rw [UA_len, RA_len] at this; simpa using this
    replace M := M.trans hq
    clear hq
    refine wl_mv (.tmp 7) (.slice (some ⟨ku, 0, none⟩) (nI l) (nI l)) (fun _ => rfl) rfl rfl ?_
    refine w_nil ?_
    refine xn_then ?_
    refine w_seq ?_
    refine w_seq ?_
    refine w_reg ?_
    refine wl_mv (.tmp 1) (.int .i64 ((m : Nat) : Int)) (fun _ => rfl) rfl rfl ?_
    refine wl_bin (fun x y => do eqGuard .lss 3 (.tmp 8) (.const (.int .i64 (0))) x y; binOp .lss 3 x y) (.tmp 8) (.const (.int .i64 (0))) (.int .i64 ((m : Nat) : Int)) (.int .i64 (0)) (.bool false) (fun _ => rfl) rfl rfl (ltN hlt _ _ _) rfl ?_
    refine wl_mv (.tmp 9) (.bool false) (fun _ => rfl) rfl rfl ?_
    refine wl_mv (.tmp 1) (.int .i64 ((m : Nat) : Int)) (fun _ => rfl) rfl rfl ?_
    refine wl_mv (.tmp 5) (.slice (some ⟨ku, 0, none⟩) (nI l) (nI l)) (fun _ => rfl) rfl rfl ?_
    refine wl_val (.int .i64 (((nI l) : Nat) : Int)) (len79 _ _ _ _ _ (by exact rfl) _ _ _ _ _ _) rfl ?_
    refine wl_bin (fun x y => do eqGuard .geq 3 (.tmp 11) (.tmp 13) x y; binOp .geq 3 x y) (.tmp 11) (.tmp 13) (.int .i64 ((m : Nat) : Int)) (.int .i64 (((nI l) : Nat) : Int)) (.bool true) (fun _ => rfl) rfl rfl (ge3 hge _ _ _) rfl ?_
    refine wl_pick (.tmp 10) (.const (.bool true)) (.tmp 14) false (.bool true) (fun _ => rfl) rfl rfl rfl ?_
    refine w_nil ?_
    refine xn_then ?_
    refine w_condT rfl ?_
    refine w_seq ?_
    refine w_reg ?_
    refine wl_mv (.const (.slice none 0 0)) (.slice none 0 0) (fun _ => rfl) rfl rfl ?_
    refine w_nil ?_
    refine xn_then ?_
    refine w_ret ?_
    refine xr_then ?_
    exact w_ret1 _ (.slice none 0 0) rfl rfl ⟨none, 0, by rw [hnil]; rfl, by rw [hnil]; exact Ow.nil _ _ _ _ _, M⟩
theorem users_neg {w : World} {l : List S5} {pl : Option Addr} {cl : Nat} (hL : SL w 5 S5.cells pl l) (hLx : ∀ x ∈ l, LS5 w x) (hz : l.length < 400000) (hzI : nI l < 400000) (hnd : ∀ y ∈ l, ∀ z ∈ y.items, nd z.ex ≤ 3000000) (n : Int) (hn : n < 0) : Calls Try.prog 17 #[.slice pl l.length cl, .int .i64 n] w fun e w' => e = .returned (.slice none 0 0) ∧ Mo w w' := by
  have hlt : decide (n < 0) = true := decide_eq_true hn
  refine w_enter 20 Try.func17 Try.ntmps17 rfl rfl ?_
  have M : Mo w w := Mo.refl _
  refine w_seq ?_
  refine w_reg ?_
  refine wl_mv (.const (.slice none 0 0)) (.slice none 0 0) (fun _ => rfl) rfl rfl ?_
  refine w_nil ?_
  refine xn_then ?_
  refine w_seq ?_
  refine w_reg ?_
  refine wl_mv (.tmp 0) (.slice pl l.length cl) (fun _ => rfl) rfl rfl ?_
  refine wl_callx 39 [(.tmp 6)] _ [.slice pl l.length cl] rfl rfl (fun _ _ => by kernel_rfl) (users_n (hL.kp M.kp) (fun x hx => (hLx x hx).kp M.kp) hz hzI hnd) rfl ?_
  rintro e9 u1 ⟨ku, U, rfl, hV, hUU, hkuN, hq⟩
  refine ⟨_, rfl, ?_⟩
  have hUl : U.length = nI l := by have := congrArg List.length hUU; rw [UA_len, RA_len] at this; simpa using this
  replace M := M.trans hq
  clear hq
  refine wl_mv (.tmp 7) (.slice (some ⟨ku, 0, none⟩) (nI l) (nI l)) (fun _ => rfl) rfl rfl ?_
  refine w_nil ?_
  refine xn_then ?_
  refine w_seq ?_
  refine w_seq ?_
  refine w_reg ?_
  refine wl_mv (.tmp 1) (.int .i64 (n)) (fun _ => rfl) rfl rfl ?_
  refine wl_bin (fun x y => do eqGuard .lss 3 (.tmp 8) (.const (.int .i64 (0))) x y; binOp .lss 3 x y) (.tmp 8) (.const (.int .i64 (0))) (.int .i64 (n)) (.int .i64 (0)) (.bool true) (fun _ => rfl) rfl rfl (lt3 hlt _ _ _) rfl ?_
  refine wl_mv (.tmp 9) (.bool true) (fun _ => rfl) rfl rfl ?_
  refine wl_skip rfl ?_
  refine wl_skip rfl ?_
  refine wl_skip rfl ?_
  refine wl_skip rfl ?_
  refine wl_pick (.tmp 10) (.const (.bool true)) (.tmp 14) true (.bool true) (fun _ => rfl) rfl rfl rfl ?_
  refine w_nil ?_
  refine xn_then ?_
  refine w_condT rfl ?_
  refine w_seq ?_
  refine w_reg ?_
  refine wl_mv (.const (.slice none 0 0)) (.slice none 0 0) (fun _ => rfl) rfl rfl ?_
  refine w_nil ?_
  refine xn_then ?_
  refine w_ret ?_
  refine xr_then ?_
  exact w_ret1 _ (.slice none 0 0) rfl rfl ⟨rfl, M⟩
theorem desc_n {U : List Iz} {R : List (List Nat)} {kU kT kG ku kt n0 : Nat} (hU : U.map Iz.L = UA R) (hz : R.length < 400000) : ∀ (k : Nat) {B : List Bool} {s : Nat} {w : World}, cfl B ≤ k → s < R.length → Bs U kU kT kG ku kt w B → Snd R n0 B → (s = n0 ∨ Rch R s n0) → Calls Try.prog 42 #[.int .i64 ((s : Nat) : Int), pt kU 0, pt kT 0, pt kG 0] w fun e w' => e = .returned (.tuple #[]) ∧ ∃ B', Bs U kU kT kG ku kt w' B' ∧ Dx (UA R) B B' ∧ (∀ u ∈ row (UA R) s, B'[u]? = some true) ∧ Snd R n0 B' ∧ Mk (fun j => j = kt) w w' := by
  intro k
  induction k using Nat.strongRecOn with
  | ind k ih0 =>
  intro B s w hk hs hB hS hr
  have hUl : U.length = R.length := by have := congrArg List.length hU; rw [UA_len] at this; simpa using this
  obtain ⟨x, hx⟩ := get_of_lt (show s < U.length by omega)
  have hxm := List.mem_of_getElem? hx
  have hxL : row (UA R) s = x.L := row_eq (by rw [← hU, List.getElem?_map, hx]; rfl)
  have hxz : x.L.length < 4000000 := by rw [← hxL, UA_row hs]; have := ris_len R.length (fun n => decide (s ∈ row R n)); omega
  have a_U := hB.aU
  have a_T := hB.aT
  have a_G := hB.aG
  refine w_enter 28 Try.func42 Try.ntmps42 rfl rfl ?_
  have M : Mo w w := Mo.refl _
  refine w_seq ?_
  have hsl := sl_of_ob hB.ob (by unfold maxLen; omega)
  have hsU : s < U.length := by omega
  obtain ⟨bp, op, hpp, hRp⟩ := D.SL.rw hsl hx
  refine w_reg ?_
  refine wl_load 79 (.tmp 1) (pt kU 0) (.slice (some ⟨ku, 0, none⟩) U.length U.length) rfl rfl (run_one a_U 79 0 rfl Try.underlying79 rfl) rfl ?_
  refine wl_mv (.tmp 0) (.int .i64 ((s : Nat) : Int)) (fun _ => rfl) rfl rfl ?_
  refine wl_bin (fun x y => Instr.indexAt 79 x y) (.tmp 7) (.tmp 8) (.slice (some ⟨ku, 0, none⟩) U.length U.length) (.int .i64 ((s : Nat) : Int)) (pt bp (op + s * 1)) (fun _ => rfl) rfl rfl (ix79 (i := s) hpp hsU _) rfl ?_
  refine wl_load 32 (.tmp 9) (pt bp (op + s * 1)) (.slice x.pa x.L.length x.cap) rfl rfl (D.run_oneR (hRp.mo M).at' 32 0 rfl Try.underlying32 rfl) rfl ?_
  refine wl_val (.int .i64 ((x.L.length : Nat) : Int)) (len32 _ _ _ _ _ (by exact rfl) _ _ _ _ _ _) rfl ?_
  refine wl_mv (.const (.int .i64 (0))) (.int .i64 (0)) (fun _ => rfl) rfl rfl ?_
  refine w_nil ?_
  refine xn_then ?_
  refine w_block ?_
  clear a_U
  clear a_T
  clear a_G
  refine w_loop (fun m lf w1 => ∃ i : Nat, ∃ B1 : List Bool, m = x.L.length - i ∧ look lf 2 = pt kT 0 ∧ look lf 3 = pt kG 0 ∧ look lf 10 = .slice x.pa x.L.length x.cap ∧ look lf 11 = .int .i64 ((x.L.length : Nat) : Int) ∧ look lf 12 = .int .i64 ((i : Nat) : Int) ∧ (i ≤ x.L.length) ∧ (Bs U kU kT kG ku kt w1 B1) ∧ (Dx (UA R) B B1) ∧ (∀ u ∈ x.L.take i, B1[u]? = some true) ∧ (Snd R n0 B1) ∧ (Mk (fun j => j = kt) w w1)) _ ⟨0, B, rfl, rfl, rfl, rfl, rfl, rfl, Nat.zero_le _, hB.mo M, Dx.refl _ _, (fun u hu => by simp at hu), hS, Mk.of _ M⟩ ?_
  clear M
  rintro m lf40 wl40 ⟨i, B1, rfl, e40_2, e40_3, e40_10, e40_11, e40_12, hi, hB1, hD, hT, hS1, hMK⟩
  have M : Mo wl40 wl40 := Mo.refl _
  have hbl1 := hB1.le
  cases hd2 : decide (i < x.L.length) with
  | true =>
    have hil := of_decide_eq_true hd2
    obtain ⟨mm, hmm⟩ := get_of_lt hil
    have hmr : mm ∈ row (UA R) s := by rw [hxL]; exact List.mem_of_getElem? hmm
    have hsm := (mem_UA hs).1 hmr
    have hml : mm < R.length := row_lt hsm
    have hmR : Rch R mm n0 := by rcases hr with rfl | q; exact Rch.one hsm; exact Rch.cons hsm q
    obtain ⟨bv, hbv⟩ := get_of_lt (show mm < B1.length by omega)
    have hli := (hB1.li x hxm).sl
    obtain ⟨bu, ou, hpu, hRu⟩ := D.SL.rw hli hmm
    have a_U := hB1.aU
    have a_T := hB1.aT
    have a_G := hB1.aG
    have a_B := hB1.bt.at
    cases bv with
    | true =>
      refine w_seq ?_
      refine w_reg ?_
      refine wl_bin (fun x y => do eqGuard .lss 3 (.tmp 12) (.tmp 11) x y; binOp .lss 3 x y) (.tmp 12) (.tmp 11) (.int .i64 ((i : Nat) : Int)) (.int .i64 ((x.L.length : Nat) : Int)) (.bool true) (fun _ => rfl) e40_12 e40_11 (ltN hd2 _ _ _) rfl ?_
      refine w_nil ?_
      refine xn_then ?_
      refine w_seq ?_
      refine w_condT rfl ?_
      refine w_skip ?_
      refine xn_then ?_
      refine w_seq ?_
      refine w_block ?_
      refine w_seq ?_
      refine w_reg ?_
      refine wl_bin (fun x y => Instr.indexAt 32 x y) (.tmp 10) (.tmp 12) (.slice x.pa x.L.length x.cap) (.int .i64 ((i : Nat) : Int)) (pt bu (ou + i * 1)) (fun _ => rfl) e40_10 e40_12 (ix32 (i := i) hpu hil _) rfl ?_
      refine wl_load 3 (.tmp 14) (pt bu (ou + i * 1)) (.int .i64 ((mm : Nat) : Int)) rfl rfl (D.run_oneR (hRu.mo M).at' 3 0 rfl Try.underlying3 rfl) rfl ?_
      refine wl_mv (.tmp 15) (.int .i64 ((mm : Nat) : Int)) (fun _ => rfl) rfl rfl ?_
      refine w_nil ?_
      refine xn_then ?_
      refine w_seq ?_
      refine w_reg ?_
      refine wl_load 81 (.tmp 2) (pt kT 0) (.slice (some ⟨kt, 0, none⟩) U.length U.length) rfl e40_2 (run_one a_T 81 0 rfl Try.underlying81 rfl) rfl ?_
      refine wl_mv (.tmp 6) (.int .i64 ((mm : Nat) : Int)) (fun _ => rfl) rfl rfl ?_
      refine wl_bin (fun x y => Instr.indexAt 81 x y) (.tmp 16) (.tmp 17) (.slice (some ⟨kt, 0, none⟩) U.length U.length) (.int .i64 ((mm : Nat) : Int)) (pt kt (0 + mm * 1)) (fun _ => rfl) rfl rfl (ix81 (i := mm) rfl (by omega) _) rfl ?_
      refine wl_load 4 (.tmp 18) (pt kt (0 + mm * 1)) (.bool true) rfl rfl (run_one a_B 4 (0 + mm * 1) (by simp [hbv]) Try.underlying4 rfl) rfl ?_
      refine wl_un (fun v => Op.unary .not v) (.tmp 19) (.bool true) (.bool false) (fun _ => rfl) rfl (by kernel_rfl) rfl ?_
      refine w_nil ?_
      refine xn_then ?_
      refine w_condF rfl ?_
      refine w_skip ?_
      refine xn_blk ?_
      refine xn_then ?_
      refine w_reg ?_
      refine wl_bin (fun x y => do eqGuard .add 3 (.tmp 12) (.const (.int .i64 (1))) x y; binOp .add 3 x y) (.tmp 12) (.const (.int .i64 (1))) (.int .i64 ((i : Nat) : Int)) (.int .i64 (1)) (.int .i64 ((i + 1 : Nat) : Int)) (fun _ => rfl) e40_12 rfl (add1r (k := i) (by omega) _ _ _) rfl ?_
      refine wl_mv (.tmp 27) (.int .i64 ((i + 1 : Nat) : Int)) (fun _ => rfl) rfl rfl ?_
      refine w_nil ?_
      exact xn_loop (x.L.length - (i + 1)) (by omega) ⟨i + 1, B1, rfl, e40_2, e40_3, e40_10, e40_11, rfl, by omega, hB1.mo M, hD, (fun u hu => by rw [List.take_add_one, hmm] at hu; rcases List.mem_append.1 hu with q | q; exact hT u q; (simp at q; subst q; exact hbv)), hS1, hMK.trans M⟩
    | false =>
      refine w_seq ?_
      refine w_reg ?_
      refine wl_bin (fun x y => do eqGuard .lss 3 (.tmp 12) (.tmp 11) x y; binOp .lss 3 x y) (.tmp 12) (.tmp 11) (.int .i64 ((i : Nat) : Int)) (.int .i64 ((x.L.length : Nat) : Int)) (.bool true) (fun _ => rfl) e40_12 e40_11 (ltN hd2 _ _ _) rfl ?_
      refine w_nil ?_
      refine xn_then ?_
      refine w_seq ?_
      refine w_condT rfl ?_
      refine w_skip ?_
      refine xn_then ?_
      refine w_seq ?_
      refine w_block ?_
      refine w_seq ?_
      refine w_reg ?_
      refine wl_bin (fun x y => Instr.indexAt 32 x y) (.tmp 10) (.tmp 12) (.slice x.pa x.L.length x.cap) (.int .i64 ((i : Nat) : Int)) (pt bu (ou + i * 1)) (fun _ => rfl) e40_10 e40_12 (ix32 (i := i) hpu hil _) rfl ?_
      refine wl_load 3 (.tmp 14) (pt bu (ou + i * 1)) (.int .i64 ((mm : Nat) : Int)) rfl rfl (D.run_oneR (hRu.mo M).at' 3 0 rfl Try.underlying3 rfl) rfl ?_
      refine wl_mv (.tmp 15) (.int .i64 ((mm : Nat) : Int)) (fun _ => rfl) rfl rfl ?_
      refine w_nil ?_
      refine xn_then ?_
      refine w_seq ?_
      refine w_reg ?_
      refine wl_load 81 (.tmp 2) (pt kT 0) (.slice (some ⟨kt, 0, none⟩) U.length U.length) rfl e40_2 (run_one a_T 81 0 rfl Try.underlying81 rfl) rfl ?_
      refine wl_mv (.tmp 6) (.int .i64 ((mm : Nat) : Int)) (fun _ => rfl) rfl rfl ?_
      refine wl_bin (fun x y => Instr.indexAt 81 x y) (.tmp 16) (.tmp 17) (.slice (some ⟨kt, 0, none⟩) U.length U.length) (.int .i64 ((mm : Nat) : Int)) (pt kt (0 + mm * 1)) (fun _ => rfl) rfl rfl (ix81 (i := mm) rfl (by omega) _) rfl ?_
      refine wl_load 4 (.tmp 18) (pt kt (0 + mm * 1)) (.bool false) rfl rfl (run_one a_B 4 (0 + mm * 1) (by simp [hbv]) Try.underlying4 rfl) rfl ?_
      refine wl_un (fun v => Op.unary .not v) (.tmp 19) (.bool false) (.bool true) (fun _ => rfl) rfl (by kernel_rfl) rfl ?_
      refine w_nil ?_
      refine xn_then ?_
      refine w_condT rfl ?_
      refine w_seq ?_
      refine w_reg ?_
      refine wl_load 81 (.tmp 2) (pt kT 0) (.slice (some ⟨kt, 0, none⟩) U.length U.length) rfl e40_2 (run_one a_T 81 0 rfl Try.underlying81 rfl) rfl ?_
      refine wl_mv (.tmp 6) (.int .i64 ((mm : Nat) : Int)) (fun _ => rfl) rfl rfl ?_
      refine wl_bin (fun x y => Instr.indexAt 81 x y) (.tmp 21) (.tmp 22) (.slice (some ⟨kt, 0, none⟩) U.length U.length) (.int .i64 ((mm : Nat) : Int)) (pt kt (0 + mm * 1)) (fun _ => rfl) rfl rfl (ix81 (i := mm) rfl (by omega) _) rfl ?_
      refine wl_sti 4 (.tmp 23) (.const (.bool true)) kt (0 + mm * 1) (.bool true) 4 (B1.map Value.bool) (hB1.mo M).bt rfl rfl rfl rfl (by simp; omega) sz4 rfl rfl rfl ?_
      intro u41 hK9 hO9
      have hB2 := (hB1.mo M).set (s := mm) hK9 (by simpa using hO9)
      have hMK2 := (hMK.trans M).same hK9
      clear hK9 hO9
      clear a_U
      clear a_T
      clear a_G
      clear a_B
      clear M
      have M : Mo u41 u41 := Mo.refl _
      have a_U := hB2.aU
      have a_T := hB2.aT
      have a_G := hB2.aG
      have hS2 := hS1.set hmR
      have hcf := cfl_set hbv
      have hcl := cfl_le hD.le hD.up
      refine w_nil ?_
      refine xn_then ?_
      refine w_reg ?_
      refine wl_load 82 (.tmp 3) (pt kG 0) (.func (.func 42) #[] #[pt kU 0, pt kT 0, pt kG 0]) rfl e40_3 (run_one a_G 82 0 rfl Try.underlying82 rfl) rfl ?_
      refine wl_mv (.tmp 6) (.int .i64 ((mm : Nat) : Int)) (fun _ => rfl) rfl rfl ?_
      refine wl_callv 42 (.tmp 24) #[] #[pt kU 0, pt kT 0, pt kG 0] [(.tmp 25)] _ [.int .i64 ((mm : Nat) : Int)] [.int .i64 ((mm : Nat) : Int), pt kU 0, pt kT 0, pt kG 0] rfl rfl rfl rfl (fun _ _ => by kernel_rfl) (ih0 (cfl (B1.set mm true)) (by omega) (Nat.le_refl _) hml (hB2.mo M) hS2 (Or.inr hmR)) rfl ?_
      rintro e9 u42 ⟨rfl, B3, hB3, hD4, hk3, hS3, hm4⟩
      refine ⟨_, rfl, ?_⟩
      have hMK3 := (hMK2.trans M).same hm4
      have hD3 := Dx.one hbv hD4 hk3
      have hm3 := hD4.up mm (List.getElem?_set_self (by omega))
      clear a_U
      clear a_T
      clear a_G
      clear M
      have M : Mo u42 u42 := Mo.refl _
      refine w_nil ?_
      refine xn_blk ?_
      refine xn_then ?_
      refine w_reg ?_
      refine wl_bin (fun x y => do eqGuard .add 3 (.tmp 12) (.const (.int .i64 (1))) x y; binOp .add 3 x y) (.tmp 12) (.const (.int .i64 (1))) (.int .i64 ((i : Nat) : Int)) (.int .i64 (1)) (.int .i64 ((i + 1 : Nat) : Int)) (fun _ => rfl) e40_12 rfl (add1r (k := i) (by omega) _ _ _) rfl ?_
      refine wl_mv (.tmp 27) (.int .i64 ((i + 1 : Nat) : Int)) (fun _ => rfl) rfl rfl ?_
      refine w_nil ?_
      exact xn_loop (x.L.length - (i + 1)) (by omega) ⟨i + 1, B3, rfl, e40_2, e40_3, e40_10, e40_11, rfl, by omega, hB3.mo M, hD.trans hD3, (fun u hu => by rw [List.take_add_one, hmm] at hu; rcases List.mem_append.1 hu with q | q; exact hD3.up u (hT u q); (simp at q; subst q; exact hm3)), hS3, hMK3.trans M⟩
  | false =>
    have hie : i = x.L.length := by have := of_decide_eq_false hd2; omega
    rw [hie, List.take_length, ← hxL] at hT
    refine w_seq ?_
    refine w_reg ?_
    refine wl_bin (fun x y => do eqGuard .lss 3 (.tmp 12) (.tmp 11) x y; binOp .lss 3 x y) (.tmp 12) (.tmp 11) (.int .i64 ((i : Nat) : Int)) (.int .i64 ((x.L.length : Nat) : Int)) (.bool false) (fun _ => rfl) e40_12 e40_11 (ltN hd2 _ _ _) rfl ?_
    refine w_nil ?_
    refine xn_then ?_
    refine w_seq ?_
    refine w_condF rfl ?_
    refine w_exit ?_
    refine xx_then ?_
    refine xx_then ?_
    refine xx_blk ?_
    exact w_end0 rfl ⟨rfl, B1, hB1.mo M, hD, hT, hS1, hMK.trans M⟩
end Go.Proofs.Ythghblgbjgghcaa
