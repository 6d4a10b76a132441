/-
  The document's Stuck and Ranks (by what one reads).
-/
import Derived.Test.YthghblgbjgghcaaG33
namespace Go.Proofs.Ythghblgbjgghcaa
open Go.RowKit D
theorem stuck_iff {l : List S5} {zs : List Int} (hzl : zs.length = nI l) (hR : ∀ n v, zs[n]? = some v → Rkv (RA l) n v) {n : Nat} (hn : n < nI l) : decide (zs.getD n 0 < 0) = true ↔ RkN (RA l) n := by
  obtain ⟨v, hv⟩ := get_of_lt (show n < zs.length by omega)
  have hg : zs.getD n 0 = v := by simp [List.getD, hv]
  rw [hg, decide_eq_true_eq]
  rcases hR n v hv with ⟨r, h1, rfl⟩ | ⟨h1, rfl⟩
  · exact ⟨fun q => by omega, fun q => (h1.no q).elim⟩
  · exact ⟨fun _ => h1, fun _ => by decide⟩
theorem stuck26_n {w : World} {l : List S5} {pl : Option Addr} {cl : Nat} (hL : SL w 5 S5.cells pl l) (hz : l.length < 400000) (hzI : nI l < 400000) (h16 : ∀ {u : World} {m : Nat}, Mo w u → m < nI l → Calls Try.prog 16 #[.slice pl l.length cl, .int .i64 ((m : Nat) : Int)] u fun e w' => ∃ (pa : Option Addr) (cap : Nat), e = .returned (.slice pa (row (RA l) m).length cap) ∧ Li w' pa (row (RA l) m) ∧ Mo u w') : Calls Try.prog 26 #[.slice pl l.length cl] w fun e w' => ∃ (p : Nat → Bool) (pa : Option Addr) (cap : Nat), (∀ n, n < nI l → (p n = true ↔ RkN (RA l) n)) ∧ e = .returned (.slice pa (ris (nI l) p).length cap) ∧ Ow w.heap.size 3 1 ic w' pa cap (ris (nI l) p) ∧ Mo w w' := by
  refine w_enter 24 Try.func26 Try.ntmps26 rfl rfl ?_
  have M : Mo w w := Mo.refl _
  refine w_seq ?_
  refine w_reg ?_
  refine wl_mv (.const (.slice none 0 0)) (.slice none 0 0) (fun _ => rfl) rfl rfl ?_
  refine w_nil ?_
  refine xn_then ?_
  refine w_seq ?_
  refine w_reg ?_
  refine wl_mv (.tmp 0) (.slice pl l.length cl) (fun _ => rfl) rfl rfl ?_
  refine wl_callx 45 [(.tmp 6)] _ [.slice pl l.length cl] rfl rfl (fun _ _ => by kernel_rfl) ((ranked45_n (hL.kp M.kp) hz hzI (fun m q => h16 (M.trans m) q))) rfl ?_
  rintro e9 u1 ⟨kz, zs, rfl, hzl, hOz, hkz, hR, hq⟩
  refine ⟨_, rfl, ?_⟩
  have M0 := M.trans hq
  have hN0 := M0.size
  clear hq
  clear M
  have M : Mo u1 u1 := Mo.refl _
  refine wl_mv (.tmp 7) (.slice (some ⟨kz, 0, none⟩) zs.length zs.length) (fun _ => rfl) rfl rfl ?_
  refine w_nil ?_
  refine xn_then ?_
  refine w_seq ?_
  refine w_reg ?_
  refine wl_mv (.const (.slice none 0 0)) (.slice none 0 0) (fun _ => rfl) rfl rfl ?_
  refine w_nil ?_
  refine xn_then ?_
  refine w_seq ?_
  refine w_seq ?_
  refine w_reg ?_
  refine wl_mv (.const (.int .i64 (0))) (.int .i64 (0)) (fun _ => rfl) rfl rfl ?_
  refine w_nil ?_
  refine xn_then ?_
  refine w_block ?_
  refine w_loop (fun m lf w1 => ∃ i : Nat, ∃ pv : Option Addr, ∃ cv : Nat, m = zs.length - i ∧ look lf 3 = .slice (some ⟨kz, 0, none⟩) zs.length zs.length ∧ look lf 4 = .slice pv (ris i (fun n => decide (zs.getD n 0 < 0))).length cv ∧ look lf 5 = .int .i64 ((i : Nat) : Int) ∧ (i ≤ zs.length) ∧ (Ow u1.heap.size 3 1 ic w1 pv cv (ris i (fun n => decide (zs.getD n 0 < 0)))) ∧ (Mo u1 w1)) _ ⟨0, none, 0, rfl, rfl, rfl, rfl, Nat.zero_le _, Ow.nil _ _ _ _ _, M⟩ ?_
  clear M
  rintro m lf40 wl40 ⟨i, pv, cv, rfl, e40_3, e40_4, e40_5, hi, hW, M⟩
  cases hd : decide (i < zs.length) with
  | true =>
    have hil := of_decide_eq_true hd
    have hrb := ris_len i (fun n => decide (zs.getD n 0 < 0))
    obtain ⟨v, hv⟩ := get_of_lt hil
    have hgv : zs.getD i 0 = v := by simp [List.getD, hv]
    have QO := (hOz.mo M).at
    cases hd2 : decide (v < 0) with
    | true =>
      have hPi : (fun n => decide (zs.getD n 0 < 0)) i = true := by simp only [hgv]; exact hd2
      refine w_seq ?_
      refine w_seq ?_
      refine w_reg ?_
      refine wl_mv (.tmp 5) (.int .i64 ((i : Nat) : Int)) (fun _ => rfl) e40_5 rfl ?_
      refine wl_mv (.tmp 3) (.slice (some ⟨kz, 0, none⟩) zs.length zs.length) (fun _ => rfl) e40_3 rfl ?_
      refine wl_val (.int .i64 ((zs.length : Nat) : Int)) (len32 _ _ _ _ _ (by exact rfl) _ _ _ _ _ _) rfl ?_
      refine wl_bin (fun x y => do eqGuard .lss 3 (.tmp 8) (.tmp 10) x y; binOp .lss 3 x y) (.tmp 8) (.tmp 10) (.int .i64 ((i : Nat) : Int)) (.int .i64 ((zs.length : Nat) : Int)) (.bool true) (fun _ => rfl) rfl rfl (ltN hd _ _ _) rfl ?_
      refine w_nil ?_
      refine xn_then ?_
      refine w_condT rfl ?_
      refine w_skip ?_
      refine xn_then ?_
      refine w_seq ?_
      refine w_block ?_
      refine w_seq ?_
      refine w_reg ?_
      refine wl_mv (.tmp 3) (.slice (some ⟨kz, 0, none⟩) zs.length zs.length) (fun _ => rfl) e40_3 rfl ?_
      refine wl_mv (.tmp 5) (.int .i64 ((i : Nat) : Int)) (fun _ => rfl) e40_5 rfl ?_
      refine wl_bin (fun x y => Instr.indexAt 32 x y) (.tmp 14) (.tmp 15) (.slice (some ⟨kz, 0, none⟩) zs.length zs.length) (.int .i64 ((i : Nat) : Int)) (pt kz (0 + i * 1)) (fun _ => rfl) rfl rfl (ix32 (i := i) rfl hil _) rfl ?_
      refine wl_load 3 (.tmp 16) (pt kz (0 + i * 1)) (.int .i64 (v)) rfl rfl (run_one QO 3 (0 + i * 1) (by simp [hv]) Try.underlying3 rfl) rfl ?_
      refine wl_bin (fun x y => do eqGuard .lss 3 (.tmp 17) (.const (.int .i64 (0))) x y; binOp .lss 3 x y) (.tmp 17) (.const (.int .i64 (0))) (.int .i64 (v)) (.int .i64 (0)) (.bool true) (fun _ => rfl) rfl rfl (lt3 hd2 _ _ _) rfl ?_
      refine w_nil ?_
      refine xn_then ?_
      refine w_condT rfl ?_
      refine w_reg ?_
      refine wl_mv (.tmp 4) (.slice pv (ris i (fun n => decide (zs.getD n 0 < 0))).length cv) (fun _ => rfl) e40_4 rfl ?_
      refine wl_mv (.tmp 5) (.int .i64 ((i : Nat) : Int)) (fun _ => rfl) e40_5 rfl ?_
      refine wl_bs 32 1 [(0, (.tmp 20))] [(0, .int .i64 ((i : Nat) : Int))] #[.int .i64 ((i : Nat) : Int)] 3 rfl rfl (fun _ => by kernel_rfl) rfl ?_
      intro k1 u41 hk hz hq Q1
      have ne_kz_k1 : kz ≠ k1 := by have := QO.lt; omega
      have N_k1 : u1.heap.size ≤ k1 := by have := M.size; omega
      replace QO := QO.mo hq
      replace hW := own_mo hW hq
      replace M := M.trans hq
      clear hk hz hq
      refine wl_apI (.tmp 19) (.tmp 21) k1 rfl rfl rfl hW Q1 (by omega) M.size rfl ?_
      intro pv2 cv2 u42 hW2 hK9 hv9
      replace M := own_gap hW hK9 (Nat.le_refl _) M
      clear hW hK9 hv9
      have hW := hW2
      clear hW2
      refine wl_mv (.tmp 22) (.slice pv2 ((ris i (fun n => decide (zs.getD n 0 < 0))) ++ [i]).length cv2) (fun _ => rfl) rfl rfl ?_
      refine w_nil ?_
      refine xn_blk ?_
      refine xn_then ?_
      refine w_reg ?_
      refine wl_mv (.tmp 5) (.int .i64 ((i : Nat) : Int)) (fun _ => rfl) e40_5 rfl ?_
      refine wl_bin (fun x y => do eqGuard .add 3 (.tmp 12) (.const (.int .i64 (1))) x y; binOp .add 3 x y) (.tmp 12) (.const (.int .i64 (1))) (.int .i64 ((i : Nat) : Int)) (.int .i64 (1)) (.int .i64 ((i + 1 : Nat) : Int)) (fun _ => rfl) rfl rfl (add1r (k := i) (by omega) _ _ _) rfl ?_
      refine wl_mv (.tmp 13) (.int .i64 ((i + 1 : Nat) : Int)) (fun _ => rfl) rfl rfl ?_
      refine w_nil ?_
      have hrs : ris (i + 1) (fun n => decide (zs.getD n 0 < 0)) = ris i (fun n => decide (zs.getD n 0 < 0)) ++ [i] := ris_t hPi
      rw [← hrs] at hW
      exact xn_loop (zs.length - (i + 1)) (by omega) ⟨i + 1, pv2, cv2, rfl, e40_3, (by rw [hrs]; rfl), rfl, by omega, hW, M⟩
    | false =>
      have hPi : (fun n => decide (zs.getD n 0 < 0)) i = false := by simp only [hgv]; exact hd2
      refine w_seq ?_
      refine w_seq ?_
      refine w_reg ?_
      refine wl_mv (.tmp 5) (.int .i64 ((i : Nat) : Int)) (fun _ => rfl) e40_5 rfl ?_
      refine wl_mv (.tmp 3) (.slice (some ⟨kz, 0, none⟩) zs.length zs.length) (fun _ => rfl) e40_3 rfl ?_
      refine wl_val (.int .i64 ((zs.length : Nat) : Int)) (len32 _ _ _ _ _ (by exact rfl) _ _ _ _ _ _) rfl ?_
      refine wl_bin (fun x y => do eqGuard .lss 3 (.tmp 8) (.tmp 10) x y; binOp .lss 3 x y) (.tmp 8) (.tmp 10) (.int .i64 ((i : Nat) : Int)) (.int .i64 ((zs.length : Nat) : Int)) (.bool true) (fun _ => rfl) rfl rfl (ltN hd _ _ _) rfl ?_
      refine w_nil ?_
      refine xn_then ?_
      refine w_condT rfl ?_
      refine w_skip ?_
      refine xn_then ?_
      refine w_seq ?_
      refine w_block ?_
      refine w_seq ?_
      refine w_reg ?_
      refine wl_mv (.tmp 3) (.slice (some ⟨kz, 0, none⟩) zs.length zs.length) (fun _ => rfl) e40_3 rfl ?_
      refine wl_mv (.tmp 5) (.int .i64 ((i : Nat) : Int)) (fun _ => rfl) e40_5 rfl ?_
      refine wl_bin (fun x y => Instr.indexAt 32 x y) (.tmp 14) (.tmp 15) (.slice (some ⟨kz, 0, none⟩) zs.length zs.length) (.int .i64 ((i : Nat) : Int)) (pt kz (0 + i * 1)) (fun _ => rfl) rfl rfl (ix32 (i := i) rfl hil _) rfl ?_
      refine wl_load 3 (.tmp 16) (pt kz (0 + i * 1)) (.int .i64 (v)) rfl rfl (run_one QO 3 (0 + i * 1) (by simp [hv]) Try.underlying3 rfl) rfl ?_
      refine wl_bin (fun x y => do eqGuard .lss 3 (.tmp 17) (.const (.int .i64 (0))) x y; binOp .lss 3 x y) (.tmp 17) (.const (.int .i64 (0))) (.int .i64 (v)) (.int .i64 (0)) (.bool false) (fun _ => rfl) rfl rfl (lt3 hd2 _ _ _) rfl ?_
      refine w_nil ?_
      refine xn_then ?_
      refine w_condF rfl ?_
      refine w_skip ?_
      refine xn_blk ?_
      refine xn_then ?_
      refine w_reg ?_
      refine wl_mv (.tmp 5) (.int .i64 ((i : Nat) : Int)) (fun _ => rfl) e40_5 rfl ?_
      refine wl_bin (fun x y => do eqGuard .add 3 (.tmp 12) (.const (.int .i64 (1))) x y; binOp .add 3 x y) (.tmp 12) (.const (.int .i64 (1))) (.int .i64 ((i : Nat) : Int)) (.int .i64 (1)) (.int .i64 ((i + 1 : Nat) : Int)) (fun _ => rfl) rfl rfl (add1r (k := i) (by omega) _ _ _) rfl ?_
      refine wl_mv (.tmp 13) (.int .i64 ((i + 1 : Nat) : Int)) (fun _ => rfl) rfl rfl ?_
      refine w_nil ?_
      have hrs : ris (i + 1) (fun n => decide (zs.getD n 0 < 0)) = ris i (fun n => decide (zs.getD n 0 < 0)) := ris_f hPi
      exact xn_loop (zs.length - (i + 1)) (by omega) ⟨i + 1, pv, cv, rfl, e40_3, (by rw [hrs]; exact e40_4), rfl, by omega, by rw [hrs]; exact hW, M⟩
  | false =>
    have hie : i = nI l := by have := of_decide_eq_false hd; omega
    rw [hie] at hW
    refine w_seq ?_
    refine w_seq ?_
    refine w_reg ?_
    refine wl_mv (.tmp 5) (.int .i64 ((i : Nat) : Int)) (fun _ => rfl) e40_5 rfl ?_
    refine wl_mv (.tmp 3) (.slice (some ⟨kz, 0, none⟩) zs.length zs.length) (fun _ => rfl) e40_3 rfl ?_
    refine wl_val (.int .i64 ((zs.length : Nat) : Int)) (len32 _ _ _ _ _ (by exact rfl) _ _ _ _ _ _) rfl ?_
    refine wl_bin (fun x y => do eqGuard .lss 3 (.tmp 8) (.tmp 10) x y; binOp .lss 3 x y) (.tmp 8) (.tmp 10) (.int .i64 ((i : Nat) : Int)) (.int .i64 ((zs.length : Nat) : Int)) (.bool false) (fun _ => rfl) rfl rfl (ltN hd _ _ _) rfl ?_
    refine w_nil ?_
    refine xn_then ?_
    refine w_condF rfl ?_
    refine w_exit ?_
    refine xx_then ?_
    refine xx_then ?_
    refine xx_blk ?_
    refine xn_then ?_
    refine w_seq ?_
    refine w_reg ?_
    refine wl_mv (.tmp 4) (.slice pv (ris i (fun n => decide (zs.getD n 0 < 0))).length cv) (fun _ => rfl) e40_4 rfl ?_
    refine wl_mv (.tmp 23) (.slice pv (ris i (fun n => decide (zs.getD n 0 < 0))).length cv) (fun _ => rfl) rfl rfl ?_
    refine w_nil ?_
    refine xn_then ?_
    refine w_ret ?_
    exact w_ret1 _ (.slice pv (ris i (fun n => decide (zs.getD n 0 < 0))).length cv) rfl rfl ⟨(fun n => decide (zs.getD n 0 < 0)), pv, cv, (fun n hn => stuck_iff hzl hR hn), by rw [hie], own_le hW hN0, M0.trans M⟩
theorem ranks22_stuck {w : World} {l : List S5} {pl : Option Addr} {cl : Nat} (hL : SL w 5 S5.cells pl l) (hz : l.length < 400000) (hzI : nI l < 400000) (h16 : ∀ {u : World} {m : Nat}, Mo w u → m < nI l → Calls Try.prog 16 #[.slice pl l.length cl, .int .i64 ((m : Nat) : Int)] u fun e w' => ∃ (pa : Option Addr) (cap : Nat), e = .returned (.slice pa (row (RA l) m).length cap) ∧ Li w' pa (row (RA l) m) ∧ Mo u w') (hN : ∃ n, n < nI l ∧ RkN (RA l) n) : Calls Try.prog 22 #[.slice pl l.length cl] w fun e w' => e = .returned (.tuple #[.slice none 0 0, .int .i64 110]) ∧ Mo w w' := by
  refine w_enter 10 Try.func22 Try.ntmps22 rfl rfl ?_
  have M : Mo w w := Mo.refl _
  refine w_seq ?_
  refine w_reg ?_
  refine wl_mv (.const (.slice none 0 0)) (.slice none 0 0) (fun _ => rfl) rfl rfl ?_
  refine wl_mv (.const (.int .i64 (0))) (.int .i64 (0)) (fun _ => rfl) rfl rfl ?_
  refine w_nil ?_
  refine xn_then ?_
  refine w_seq ?_
  refine w_seq ?_
  refine w_reg ?_
  refine wl_mv (.tmp 0) (.slice pl l.length cl) (fun _ => rfl) rfl rfl ?_
  refine wl_callx 26 [(.tmp 4)] _ [.slice pl l.length cl] rfl rfl (fun _ _ => by kernel_rfl) ((stuck26_n (hL.kp M.kp) hz hzI (fun m q => h16 (M.trans m) q))) rfl ?_
  rintro e9 u1 ⟨p, pa, cap, hp, rfl, hOb, hq⟩
  refine ⟨_, rfl, ?_⟩
  replace M := M.trans hq
  clear hq
  have hlen : decide (0 < (ris (nI l) p).length) = true := decide_eq_true (by obtain ⟨n, hn, h⟩ := hN; exact List.length_pos_of_mem (mem_ris.2 ⟨hn, (hp n hn).2 h⟩))
  refine wl_val (.int .i64 (((ris (nI l) p).length : Nat) : Int)) (len32 _ _ _ _ _ (by exact rfl) _ _ _ _ _ _) rfl ?_
  refine wl_bin (fun x y => do eqGuard .gtr 3 (.tmp 6) (.const (.int .i64 (0))) x y; binOp .gtr 3 x y) (.tmp 6) (.const (.int .i64 (0))) (.int .i64 (((ris (nI l) p).length : Nat) : Int)) (.int .i64 (0)) (.bool true) (fun _ => rfl) rfl rfl (gtN hlen _ _ _) rfl ?_
  refine w_nil ?_
  refine xn_then ?_
  refine w_condT rfl ?_
  refine w_seq ?_
  refine w_reg ?_
  refine wl_mv (.const (.slice none 0 0)) (.slice none 0 0) (fun _ => rfl) rfl rfl ?_
  refine wl_mv (.const (.int .i64 (110))) (.int .i64 (110)) (fun _ => rfl) rfl rfl ?_
  refine w_nil ?_
  refine xn_then ?_
  refine w_ret ?_
  refine xr_then ?_
  exact w_ret2 _ _ (.slice none 0 0) (.int .i64 (110)) rfl rfl rfl ⟨rfl, M⟩
theorem nat_ranks {l : List S5} {zs : List Int} (hzl : zs.length = nI l) (hR : ∀ n v, zs[n]? = some v → Rkv (RA l) n v) (hN : ¬ ∃ n, n < nI l ∧ RkN (RA l) n) : ∃ rs : List Nat, zs = rs.map (fun n : Nat => (n : Int)) ∧ ∀ n r, rs[n]? = some r → RkS (RA l) n r := by
  have key : ∀ n v, zs[n]? = some v → ∃ r : Nat, RkS (RA l) n r ∧ v = (r : Int) := fun n v h => by
    rcases hR n v h with q | ⟨q, _⟩
    · exact q
    · exact (hN ⟨n, by have := lt_of_get h; omega, q⟩).elim
  have e : zs = (zs.map Int.toNat).map (fun n : Nat => (n : Int)) := by
    rw [List.map_map]
    apply List.ext_getElem?
    intro n
    rw [List.getElem?_map]
    cases h : zs[n]? with
    | none => rfl
    | some v => obtain ⟨r, _, rfl⟩ := key n v h; simp
  refine ⟨zs.map Int.toNat, e, fun n r h => ?_⟩
  rw [List.getElem?_map] at h
  cases hz : zs[n]? with
  | none => rw [hz] at h; cases h
  | some v =>
    rw [hz] at h
    obtain ⟨r', h1, rfl⟩ := key n v hz
    simp at h; subst h; exact h1
theorem ranks22_ok {w : World} {l : List S5} {pl : Option Addr} {cl : Nat} (hL : SL w 5 S5.cells pl l) (hz : l.length < 400000) (hzI : nI l < 400000) (h16 : ∀ {u : World} {m : Nat}, Mo w u → m < nI l → Calls Try.prog 16 #[.slice pl l.length cl, .int .i64 ((m : Nat) : Int)] u fun e w' => ∃ (pa : Option Addr) (cap : Nat), e = .returned (.slice pa (row (RA l) m).length cap) ∧ Li w' pa (row (RA l) m) ∧ Mo u w') (hN : ¬ ∃ n, n < nI l ∧ RkN (RA l) n) : Calls Try.prog 22 #[.slice pl l.length cl] w fun e w' => ∃ (k : Nat) (rs : List Nat), rs.length = nI l ∧ (∀ n r, rs[n]? = some r → RkS (RA l) n r) ∧ e = .returned (.tuple #[.slice (some ⟨k, 0, none⟩) rs.length rs.length, .int .i64 0]) ∧ Ob w' k 3 (rs.map iv) ∧ w.heap.size ≤ k ∧ Mo w w' := by
  refine w_enter 10 Try.func22 Try.ntmps22 rfl rfl ?_
  have M : Mo w w := Mo.refl _
  refine w_seq ?_
  refine w_reg ?_
  refine wl_mv (.const (.slice none 0 0)) (.slice none 0 0) (fun _ => rfl) rfl rfl ?_
  refine wl_mv (.const (.int .i64 (0))) (.int .i64 (0)) (fun _ => rfl) rfl rfl ?_
  refine w_nil ?_
  refine xn_then ?_
  refine w_seq ?_
  refine w_seq ?_
  refine w_reg ?_
  refine wl_mv (.tmp 0) (.slice pl l.length cl) (fun _ => rfl) rfl rfl ?_
  refine wl_callx 26 [(.tmp 4)] _ [.slice pl l.length cl] rfl rfl (fun _ _ => by kernel_rfl) ((stuck26_n (hL.kp M.kp) hz hzI (fun m q => h16 (M.trans m) q))) rfl ?_
  rintro e9 u1 ⟨p, pa, cap, hp, rfl, hOb, hq⟩
  refine ⟨_, rfl, ?_⟩
  replace M := M.trans hq
  clear hq
  have hlen : decide (0 < (ris (nI l) p).length) = false := decide_eq_false (fun h => by obtain ⟨n, hn⟩ := get_of_lt h; have h2 := mem_ris.1 (List.mem_of_getElem? hn); exact hN ⟨n, h2.1, (hp n h2.1).1 h2.2⟩)
  refine wl_val (.int .i64 (((ris (nI l) p).length : Nat) : Int)) (len32 _ _ _ _ _ (by exact rfl) _ _ _ _ _ _) rfl ?_
  refine wl_bin (fun x y => do eqGuard .gtr 3 (.tmp 6) (.const (.int .i64 (0))) x y; binOp .gtr 3 x y) (.tmp 6) (.const (.int .i64 (0))) (.int .i64 (((ris (nI l) p).length : Nat) : Int)) (.int .i64 (0)) (.bool false) (fun _ => rfl) rfl rfl (gtN hlen _ _ _) rfl ?_
  refine w_nil ?_
  refine xn_then ?_
  refine w_condF rfl ?_
  refine w_skip ?_
  refine xn_then ?_
  refine w_seq ?_
  refine w_reg ?_
  refine wl_mv (.tmp 0) (.slice pl l.length cl) (fun _ => rfl) rfl rfl ?_
  have hMs := M.size
  refine wl_callx 45 [(.tmp 8)] _ [.slice pl l.length cl] rfl rfl (fun _ _ => by kernel_rfl) ((ranked45_n (hL.kp M.kp) hz hzI (fun m q => h16 (M.trans m) q))) rfl ?_
  rintro e9 u2 ⟨kz, zs, rfl, hzl, hOz, hkz, hR, hq⟩
  refine ⟨_, rfl, ?_⟩
  replace M := M.trans hq
  clear hq
  obtain ⟨rs, hrz, hrs⟩ := nat_ranks hzl hR hN
  subst hrz
  rw [List.length_map] at hzl ⊢
  rw [List.map_map] at hOz
  refine wl_mv (.tmp 9) (.slice (some ⟨kz, 0, none⟩) rs.length rs.length) (fun _ => rfl) rfl rfl ?_
  refine wl_mv (.const (.int .i64 (0))) (.int .i64 (0)) (fun _ => rfl) rfl rfl ?_
  refine w_nil ?_
  refine xn_then ?_
  refine w_ret ?_
  exact w_ret2 _ _ (.slice (some ⟨kz, 0, none⟩) rs.length rs.length) (.int .i64 (0)) rfl rfl rfl ⟨kz, rs, hzl, hrs, rfl, hOz, Nat.le_trans hMs hkz, M⟩
end Go.Proofs.Ythghblgbjgghcaa
