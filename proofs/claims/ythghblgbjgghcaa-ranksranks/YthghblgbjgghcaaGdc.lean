/-
  The document's Stuck and Ranks (by what one reads). Items laid rank by rank; one sorted list. The document's Order (by what one reads). The law of ranks (by what one reads).
-/
import Derived.Test.YthghblgbjgghcaaGdb
namespace Go.Proofs.Ythghblgbjgghcaa
open Go.RowKit D
theorem stuck_iff {l : List S5} {zs : List Int} (hzl : zs.length = nI l) (hR : ∀ n v, zs[n]? = some v → Rkv (RA l) n v) {n : Nat} (hn : n < nI l) : decide (zs.getD n 0 < 0) = true ↔ RkN (RA l) n := by
  obtain ⟨v, hv⟩ := get_of_lt (show n < zs.length by omega)
  have hg : zs.getD n 0 = v := by simp [List.getD, hv]
  rw [hg, decide_eq_true_eq]
  rcases hR n v hv with ⟨r, h1, rfl⟩ | ⟨h1, rfl⟩
  · exact ⟨fun q => by omega, fun q => (h1.no q).elim⟩
  · exact ⟨fun _ => h1, fun _ => by decide⟩
theorem stuck26_n {w : World} {l : List S5} {pl : Option Addr} {cl : Nat} (hL : SL w 5 S5.cells pl l) (hz : l.length < 400000) (hzI : nI l < 400000) (h16 : ∀ {u : World} {m : Nat}, Mo w u → m < nI l → Calls Try.prog 16 #[.slice pl l.length cl, .int .i64 ((m : Nat) : Int)] u fun e w' => ∃ (pa : Option Addr) (cap : Nat), e = .returned (.slice pa (row (RA l) m).length cap) ∧ Li w' pa (row (RA l) m) ∧ Mo u w') : Calls Try.prog 26 #[.slice pl l.length cl] w fun e w' => ∃ (p : Nat → Bool) (pa : Option Addr) (cap : Nat), (∀ n, n < nI l → (p n = true ↔ RkN (RA l) n)) ∧ e = .returned (.slice pa (ris (nI l) p).length cap) ∧ Ow w.heap.size 3 1 ic w' pa cap (ris (nI l) p) ∧ Mo w w' := by
  refine w_enter 24 Try.func26 Try.ntmps26 rfl rfl ?_
  have M : Mo w w := Mo.refl _
  refine w_seq ?_
  refine w_reg ?_
  refine wl_mv (.const (.slice none 0 0)) (.slice none 0 0) (fun _ => rfl) rfl rfl ?_
  refine w_nil ?_
  refine xn_then ?_
  refine w_seq ?_
  refine w_reg ?_
  refine wl_mv (.tmp 0) (.slice pl l.length cl) (fun _ => rfl) rfl rfl ?_
  refine wl_callx 45 [(.tmp 6)] _ [.slice pl l.length cl] rfl rfl (fun _ _ => by kernel_rfl) ((ranked45_n (hL.kp M.kp) hz hzI (fun m q => h16 (M.trans m) q))) rfl ?_
  rintro e9 u1 ⟨kz, zs, rfl, hzl, hOz, hkz, hR, hq⟩
  refine ⟨_, rfl, ?_⟩
  have M0 := M.trans hq
  have hN0 := M0.size
  clear hq
  clear M
  have M : Mo u1 u1 := Mo.refl _
  refine wl_mv (.tmp 7) (.slice (some ⟨kz, 0, none⟩) zs.length zs.length) (fun _ => rfl) rfl rfl ?_
  refine w_nil ?_
  refine xn_then ?_
  refine w_seq ?_
  refine w_reg ?_
  refine wl_mv (.const (.slice none 0 0)) (.slice none 0 0) (fun _ => rfl) rfl rfl ?_
  refine w_nil ?_
  refine xn_then ?_
  refine w_seq ?_
  refine w_seq ?_
  refine w_reg ?_
  refine wl_mv (.const (.int .i64 (0))) (.int .i64 (0)) (fun _ => rfl) rfl rfl ?_
  refine w_nil ?_
  refine xn_then ?_
  refine w_block ?_
  refine w_loop (fun m lf w1 => ∃ i : Nat, ∃ pv : Option Addr, ∃ cv : Nat, m = zs.length - i ∧ look lf 3 = .slice (some ⟨kz, 0, none⟩) zs.length zs.length ∧ look lf 4 = .slice pv (ris i (fun n => decide (zs.getD n 0 < 0))).length cv ∧ look lf 5 = .int .i64 ((i : Nat) : Int) ∧ (i ≤ zs.length) ∧ (Ow u1.heap.size 3 1 ic w1 pv cv (ris i (fun n => decide (zs.getD n 0 < 0)))) ∧ (Mo u1 w1)) _ ⟨0, none, 0, rfl, rfl, rfl, rfl, Nat.zero_le _, Ow.nil _ _ _ _ _, M⟩ ?_
  clear M
  rintro m lf40 wl40 ⟨i, pv, cv, rfl, e40_3, e40_4, e40_5, hi, hW, M⟩
  cases hd : decide (i < zs.length) with
  | true =>
    have hil := of_decide_eq_true hd
    have hrb := ris_len i (fun n => decide (zs.getD n 0 < 0))
    obtain ⟨v, hv⟩ := get_of_lt hil
    have hgv : zs.getD i 0 = v := by simp [List.getD, hv]
    have QO := (hOz.mo M).at
    cases hd2 : decide (v < 0) with
    | true =>
      have hPi : (fun n => decide (zs.getD n 0 < 0)) i = true := by simp only [hgv]; exact hd2
      refine w_seq ?_
      refine w_seq ?_
      refine w_reg ?_
      refine wl_mv (.tmp 5) (.int .i64 ((i : Nat) : Int)) (fun _ => rfl) e40_5 rfl ?_
      refine wl_mv (.tmp 3) (.slice (some ⟨kz, 0, none⟩) zs.length zs.length) (fun _ => rfl) e40_3 rfl ?_
      refine wl_val (.int .i64 ((zs.length : Nat) : Int)) (len32 _ _ _ _ _ (by exact rfl) _ _ _ _ _ _) rfl ?_
      refine wl_bin (fun x y => do eqGuard .lss 3 (.tmp 8) (.tmp 10) x y; binOp .lss 3 x y) (.tmp 8) (.tmp 10) (.int .i64 ((i : Nat) : Int)) (.int .i64 ((zs.length : Nat) : Int)) (.bool true) (fun _ => rfl) rfl rfl (ltN hd _ _ _) rfl ?_
      refine w_nil ?_
      refine xn_then ?_
      refine w_condT rfl ?_
      refine w_skip ?_
      refine xn_then ?_
      refine w_seq ?_
      refine w_block ?_
      refine w_seq ?_
      refine w_reg ?_
      refine wl_mv (.tmp 3) (.slice (some ⟨kz, 0, none⟩) zs.length zs.length) (fun _ => rfl) e40_3 rfl ?_
      refine wl_mv (.tmp 5) (.int .i64 ((i : Nat) : Int)) (fun _ => rfl) e40_5 rfl ?_
      refine wl_bin (fun x y => Instr.indexAt 32 x y) (.tmp 14) (.tmp 15) (.slice (some ⟨kz, 0, none⟩) zs.length zs.length) (.int .i64 ((i : Nat) : Int)) (pt kz (0 + i * 1)) (fun _ => rfl) rfl rfl (ix32 (i := i) rfl hil _) rfl ?_
      refine wl_load 3 (.tmp 16) (pt kz (0 + i * 1)) (.int .i64 (v)) rfl rfl (run_one QO 3 (0 + i * 1) (by simp [hv]) Try.underlying3 rfl) rfl ?_
      refine wl_bin (fun x y => do eqGuard .lss 3 (.tmp 17) (.const (.int .i64 (0))) x y; binOp .lss 3 x y) (.tmp 17) (.const (.int .i64 (0))) (.int .i64 (v)) (.int .i64 (0)) (.bool true) (fun _ => rfl) rfl rfl (lt3 hd2 _ _ _) rfl ?_
      refine w_nil ?_
      refine xn_then ?_
      refine w_condT rfl ?_
      refine w_reg ?_
      refine wl_mv (.tmp 4) (.slice pv (ris i (fun n => decide (zs.getD n 0 < 0))).length cv) (fun _ => rfl) e40_4 rfl ?_
      refine wl_mv (.tmp 5) (.int .i64 ((i : Nat) : Int)) (fun _ => rfl) e40_5 rfl ?_
      refine wl_bs 32 1 [(0, (.tmp 20))] [(0, .int .i64 ((i : Nat) : Int))] #[.int .i64 ((i : Nat) : Int)] 3 rfl rfl (fun _ => by kernel_rfl) rfl ?_
      intro k1 u41 hk hz hq Q1
      have ne_kz_k1 : kz ≠ k1 := by have := QO.lt; omega
      have N_k1 : u1.heap.size ≤ k1 := by have := M.size; omega
      replace QO := QO.mo hq
      replace hW := own_mo hW hq
      replace M := M.trans hq
      clear hk hz hq
      refine wl_apI (.tmp 19) (.tmp 21) k1 rfl rfl rfl hW Q1 (by omega) M.size rfl ?_
      intro pv2 cv2 u42 hW2 hK9 hv9
      replace M := own_gap hW hK9 (Nat.le_refl _) M
      clear hW hK9 hv9
      have hW := hW2
      clear hW2
      refine wl_mv (.tmp 22) (.slice pv2 ((ris i (fun n => decide (zs.getD n 0 < 0))) ++ [i]).length cv2) (fun _ => rfl) rfl rfl ?_
      refine w_nil ?_
      refine xn_blk ?_
      refine xn_then ?_
      refine w_reg ?_
      refine wl_mv (.tmp 5) (.int .i64 ((i : Nat) : Int)) (fun _ => rfl) e40_5 rfl ?_
      refine wl_bin (fun x y => do eqGuard .add 3 (.tmp 12) (.const (.int .i64 (1))) x y; binOp .add 3 x y) (.tmp 12) (.const (.int .i64 (1))) (.int .i64 ((i : Nat) : Int)) (.int .i64 (1)) (.int .i64 ((i + 1 : Nat) : Int)) (fun _ => rfl) rfl rfl (add1r (k := i) (by omega) _ _ _) rfl ?_
      refine wl_mv (.tmp 13) (.int .i64 ((i + 1 : Nat) : Int)) (fun _ => rfl) rfl rfl ?_
      refine w_nil ?_
      have hrs : ris (i + 1) (fun n => decide (zs.getD n 0 < 0)) = ris i (fun n => decide (zs.getD n 0 < 0)) ++ [i] := ris_t hPi
      rw [← hrs] at hW
      exact xn_loop (zs.length - (i + 1)) (by omega) ⟨i + 1, pv2, cv2, rfl, e40_3, (by rw [hrs]; rfl), rfl, by omega, hW, M⟩
    | false =>
      have hPi : (fun n => decide (zs.getD n 0 < 0)) i = false := by simp only [hgv]; exact hd2
      refine w_seq ?_
      refine w_seq ?_
      refine w_reg ?_
      refine wl_mv (.tmp 5) (.int .i64 ((i : Nat) : Int)) (fun _ => rfl) e40_5 rfl ?_
      refine wl_mv (.tmp 3) (.slice (some ⟨kz, 0, none⟩) zs.length zs.length) (fun _ => rfl) e40_3 rfl ?_
      refine wl_val (.int .i64 ((zs.length : Nat) : Int)) (len32 _ _ _ _ _ (by exact rfl) _ _ _ _ _ _) rfl ?_
      refine wl_bin (fun x y => do eqGuard .lss 3 (.tmp 8) (.tmp 10) x y; binOp .lss 3 x y) (.tmp 8) (.tmp 10) (.int .i64 ((i : Nat) : Int)) (.int .i64 ((zs.length : Nat) : Int)) (.bool true) (fun _ => rfl) rfl rfl (ltN hd _ _ _) rfl ?_
      refine w_nil ?_
      refine xn_then ?_
      refine w_condT rfl ?_
      refine w_skip ?_
      refine xn_then ?_
      refine w_seq ?_
      refine w_block ?_
      refine w_seq ?_
      refine w_reg ?_
      refine wl_mv (.tmp 3) (.slice (some ⟨kz, 0, none⟩) zs.length zs.length) (fun _ => rfl) e40_3 rfl ?_
      refine wl_mv (.tmp 5) (.int .i64 ((i : Nat) : Int)) (fun _ => rfl) e40_5 rfl ?_
      refine wl_bin (fun x y => Instr.indexAt 32 x y) (.tmp 14) (.tmp 15) (.slice (some ⟨kz, 0, none⟩) zs.length zs.length) (.int .i64 ((i : Nat) : Int)) (pt kz (0 + i * 1)) (fun _ => rfl) rfl rfl (ix32 (i := i) rfl hil _) rfl ?_
      refine wl_load 3 (.tmp 16) (pt kz (0 + i * 1)) (.int .i64 (v)) rfl rfl (run_one QO 3 (0 + i * 1) (by simp [hv]) Try.underlying3 rfl) rfl ?_
      refine wl_bin (fun x y => do eqGuard .lss 3 (.tmp 17) (.const (.int .i64 (0))) x y; binOp .lss 3 x y) (.tmp 17) (.const (.int .i64 (0))) (.int .i64 (v)) (.int .i64 (0)) (.bool false) (fun _ => rfl) rfl rfl (lt3 hd2 _ _ _) rfl ?_
      refine w_nil ?_
      refine xn_then ?_
      refine w_condF rfl ?_
      refine w_skip ?_
      refine xn_blk ?_
      refine xn_then ?_
      refine w_reg ?_
      refine wl_mv (.tmp 5) (.int .i64 ((i : Nat) : Int)) (fun _ => rfl) e40_5 rfl ?_
      refine wl_bin (fun x y => do eqGuard .add 3 (.tmp 12) (.const (.int .i64 (1))) x y; binOp .add 3 x y) (.tmp 12) (.const (.int .i64 (1))) (.int .i64 ((i : Nat) : Int)) (.int .i64 (1)) (.int .i64 ((i + 1 : Nat) : Int)) (fun _ => rfl) rfl rfl (add1r (k := i) (by omega) _ _ _) rfl ?_
      refine wl_mv (.tmp 13) (.int .i64 ((i + 1 : Nat) : Int)) (fun _ => rfl) rfl rfl ?_
      refine w_nil ?_
      have hrs : ris (i + 1) (fun n => decide (zs.getD n 0 < 0)) = ris i (fun n => decide (zs.getD n 0 < 0)) := ris_f hPi
      exact xn_loop (zs.length - (i + 1)) (by omega) ⟨i + 1, pv, cv, rfl, e40_3, (by rw [hrs]; exact e40_4), rfl, by omega, by rw [hrs]; exact hW, M⟩
  | false =>
    have hie : i = nI l := by have := of_decide_eq_false hd; omega
    rw [hie] at hW
    refine w_seq ?_
    refine w_seq ?_
    refine w_reg ?_
    refine wl_mv (.tmp 5) (.int .i64 ((i : Nat) : Int)) (fun _ => rfl) e40_5 rfl ?_
    refine wl_mv (.tmp 3) (.slice (some ⟨kz, 0, none⟩) zs.length zs.length) (fun _ => rfl) e40_3 rfl ?_
    refine wl_val (.int .i64 ((zs.length : Nat) : Int)) (len32 _ _ _ _ _ (by exact rfl) _ _ _ _ _ _) rfl ?_
    refine wl_bin (fun x y => do eqGuard .lss 3 (.tmp 8) (.tmp 10) x y; binOp .lss 3 x y) (.tmp 8) (.tmp 10) (.int .i64 ((i : Nat) : Int)) (.int .i64 ((zs.length : Nat) : Int)) (.bool false) (fun _ => rfl) rfl rfl (ltN hd _ _ _) rfl ?_
    refine w_nil ?_
    refine xn_then ?_
    refine w_condF rfl ?_
    refine w_exit ?_
    refine xx_then ?_
    refine xx_then ?_
    refine xx_blk ?_
    refine xn_then ?_
    refine w_seq ?_
    refine w_reg ?_
    refine wl_mv (.tmp 4) (.slice pv (ris i (fun n => decide (zs.getD n 0 < 0))).length cv) (fun _ => rfl) e40_4 rfl ?_
    refine wl_mv (.tmp 23) (.slice pv (ris i (fun n => decide (zs.getD n 0 < 0))).length cv) (fun _ => rfl) rfl rfl ?_
    refine w_nil ?_
    refine xn_then ?_
    refine w_ret ?_
    exact w_ret1 _ (.slice pv (ris i (fun n => decide (zs.getD n 0 < 0))).length cv) rfl rfl ⟨(fun n => decide (zs.getD n 0 < 0)), pv, cv, (fun n hn => stuck_iff hzl hR hn), by rw [hie], own_le hW hN0, M0.trans M⟩
theorem ranks22_stuck {w : World} {l : List S5} {pl : Option Addr} {cl : Nat} (hL : SL w 5 S5.cells pl l) (hz : l.length < 400000) (hzI : nI l < 400000) (h16 : ∀ {u : World} {m : Nat}, Mo w u → m < nI l → Calls Try.prog 16 #[.slice pl l.length cl, .int .i64 ((m : Nat) : Int)] u fun e w' => ∃ (pa : Option Addr) (cap : Nat), e = .returned (.slice pa (row (RA l) m).length cap) ∧ Li w' pa (row (RA l) m) ∧ Mo u w') (hN : ∃ n, n < nI l ∧ RkN (RA l) n) : Calls Try.prog 22 #[.slice pl l.length cl] w fun e w' => e = .returned (.tuple #[.slice none 0 0, .int .i64 110]) ∧ Mo w w' := by
  refine w_enter 10 Try.func22 Try.ntmps22 rfl rfl ?_
  have M : Mo w w := Mo.refl _
  refine w_seq ?_
  refine w_reg ?_
  refine wl_mv (.const (.slice none 0 0)) (.slice none 0 0) (fun _ => rfl) rfl rfl ?_
  refine wl_mv (.const (.int .i64 (0))) (.int .i64 (0)) (fun _ => rfl) rfl rfl ?_
  refine w_nil ?_
  refine xn_then ?_
  refine w_seq ?_
  refine w_seq ?_
  refine w_reg ?_
  refine wl_mv (.tmp 0) (.slice pl l.length cl) (fun _ => rfl) rfl rfl ?_
  refine wl_callx 26 [(.tmp 4)] _ [.slice pl l.length cl] rfl rfl (fun _ _ => by kernel_rfl) ((stuck26_n (hL.kp M.kp) hz hzI (fun m q => h16 (M.trans m) q))) rfl ?_
  rintro e9 u1 ⟨p, pa, cap, hp, rfl, hOb, hq⟩
  refine ⟨_, rfl, ?_⟩
  replace M := M.trans hq
  clear hq
  have hlen : decide (0 < (ris (nI l) p).length) = true := decide_eq_true (by obtain ⟨n, hn, h⟩ := hN; exact List.length_pos_of_mem (mem_ris.2 ⟨hn, (hp n hn).2 h⟩))
  refine wl_val (.int .i64 (((ris (nI l) p).length : Nat) : Int)) (len32 _ _ _ _ _ (by exact rfl) _ _ _ _ _ _) rfl ?_
  refine wl_bin (fun x y => do eqGuard .gtr 3 (.tmp 6) (.const (.int .i64 (0))) x y; binOp .gtr 3 x y) (.tmp 6) (.const (.int .i64 (0))) (.int .i64 (((ris (nI l) p).length : Nat) : Int)) (.int .i64 (0)) (.bool true) (fun _ => rfl) rfl rfl (gtN hlen _ _ _) rfl ?_
  refine w_nil ?_
  refine xn_then ?_
  refine w_condT rfl ?_
  refine w_seq ?_
  refine w_reg ?_
  refine wl_mv (.const (.slice none 0 0)) (.slice none 0 0) (fun _ => rfl) rfl rfl ?_
  refine wl_mv (.const (.int .i64 (110))) (.int .i64 (110)) (fun _ => rfl) rfl rfl ?_
  refine w_nil ?_
  refine xn_then ?_
  refine w_ret ?_
  refine xr_then ?_
  exact w_ret2 _ _ (.slice none 0 0) (.int .i64 (110)) rfl rfl rfl ⟨rfl, M⟩
theorem nat_ranks {l : List S5} {zs : List Int} (hzl : zs.length = nI l) (hR : ∀ n v, zs[n]? = some v → Rkv (RA l) n v) (hN : ¬ ∃ n, n < nI l ∧ RkN (RA l) n) : ∃ rs : List Nat, zs = rs.map (fun n : Nat => (n : Int)) ∧ ∀ n r, rs[n]? = some r → RkS (RA l) n r := by
  have key : ∀ n v, zs[n]? = some v → ∃ r : Nat, RkS (RA l) n r ∧ v = (r : Int) := fun n v h => by
    rcases hR n v h with q | ⟨q, _⟩
    · exact q
    · exact (hN ⟨n, by have := lt_of_get h; omega, q⟩).elim
  have e : zs = (zs.map Int.toNat).map (fun n : Nat => (n : Int)) := by
    rw [List.map_map]
    apply List.ext_getElem?
    intro n
    rw [List.getElem?_map]
    cases h : zs[n]? with
    | none => rfl
    | some v => obtain ⟨r, _, rfl⟩ := key n v h; simp
  refine ⟨zs.map Int.toNat, e, fun n r h => ?_⟩
  rw [List.getElem?_map] at h
  cases hz : zs[n]? with
  | none => rw [hz] at h; cases h
  | some v =>
    rw [hz] at h
    obtain ⟨r', h1, rfl⟩ := key n v hz
    simp at h; subst h; exact h1
theorem ranks22_ok {w : World} {l : List S5} {pl : Option Addr} {cl : Nat} (hL : SL w 5 S5.cells pl l) (hz : l.length < 400000) (hzI : nI l < 400000) (h16 : ∀ {u : World} {m : Nat}, Mo w u → m < nI l → Calls Try.prog 16 #[.slice pl l.length cl, .int .i64 ((m : Nat) : Int)] u fun e w' => ∃ (pa : Option Addr) (cap : Nat), e = .returned (.slice pa (row (RA l) m).length cap) ∧ Li w' pa (row (RA l) m) ∧ Mo u w') (hN : ¬ ∃ n, n < nI l ∧ RkN (RA l) n) : Calls Try.prog 22 #[.slice pl l.length cl] w fun e w' => ∃ (k : Nat) (rs : List Nat), rs.length = nI l ∧ (∀ n r, rs[n]? = some r → RkS (RA l) n r) ∧ e = .returned (.tuple #[.slice (some ⟨k, 0, none⟩) rs.length rs.length, .int .i64 0]) ∧ Ob w' k 3 (rs.map iv) ∧ w.heap.size ≤ k ∧ Mo w w' := by
  refine w_enter 10 Try.func22 Try.ntmps22 rfl rfl ?_
  have M : Mo w w := Mo.refl _
  refine w_seq ?_
  refine w_reg ?_
  refine wl_mv (.const (.slice none 0 0)) (.slice none 0 0) (fun _ => rfl) rfl rfl ?_
  refine wl_mv (.const (.int .i64 (0))) (.int .i64 (0)) (fun _ => rfl) rfl rfl ?_
  refine w_nil ?_
  refine xn_then ?_
  refine w_seq ?_
  refine w_seq ?_
  refine w_reg ?_
  refine wl_mv (.tmp 0) (.slice pl l.length cl) (fun _ => rfl) rfl rfl ?_
  refine wl_callx 26 [(.tmp 4)] _ [.slice pl l.length cl] rfl rfl (fun _ _ => by kernel_rfl) ((stuck26_n (hL.kp M.kp) hz hzI (fun m q => h16 (M.trans m) q))) rfl ?_
  rintro e9 u1 ⟨p, pa, cap, hp, rfl, hOb, hq⟩
  refine ⟨_, rfl, ?_⟩
  replace M := M.trans hq
  clear hq
  have hlen : decide (0 < (ris (nI l) p).length) = false := decide_eq_false (fun h => by obtain ⟨n, hn⟩ := get_of_lt h; have h2 := mem_ris.1 (List.mem_of_getElem? hn); exact hN ⟨n, h2.1, (hp n h2.1).1 h2.2⟩)
  refine wl_val (.int .i64 (((ris (nI l) p).length : Nat) : Int)) (len32 _ _ _ _ _ (by exact rfl) _ _ _ _ _ _) rfl ?_
  refine wl_bin (fun x y => do eqGuard .gtr 3 (.tmp 6) (.const (.int .i64 (0))) x y; binOp .gtr 3 x y) (.tmp 6) (.const (.int .i64 (0))) (.int .i64 (((ris (nI l) p).length : Nat) : Int)) (.int .i64 (0)) (.bool false) (fun _ => rfl) rfl rfl (gtN hlen _ _ _) rfl ?_
  refine w_nil ?_
  refine xn_then ?_
  refine w_condF rfl ?_
  refine w_skip ?_
  refine xn_then ?_
  refine w_seq ?_
  refine w_reg ?_
  refine wl_mv (.tmp 0) (.slice pl l.length cl) (fun _ => rfl) rfl rfl ?_
  have hMs := M.size
  refine wl_callx 45 [(.tmp 8)] _ [.slice pl l.length cl] rfl rfl (fun _ _ => by kernel_rfl) ((ranked45_n (hL.kp M.kp) hz hzI (fun m q => h16 (M.trans m) q))) rfl ?_
  rintro e9 u2 ⟨kz, zs, rfl, hzl, hOz, hkz, hR, hq⟩
  refine ⟨_, rfl, ?_⟩
  replace M := M.trans hq
  clear hq
  obtain ⟨rs, hrz, hrs⟩ := nat_ranks hzl hR hN
  subst hrz
  rw [List.length_map] at hzl ⊢
  rw [List.map_map] at hOz
  refine wl_mv (.tmp 9) (.slice (some ⟨kz, 0, none⟩) rs.length rs.length) (fun _ => rfl) rfl rfl ?_
  refine wl_mv (.const (.int .i64 (0))) (.int .i64 (0)) (fun _ => rfl) rfl rfl ?_
  refine w_nil ?_
  refine xn_then ?_
  refine w_ret ?_
  exact w_ret2 _ _ (.slice (some ⟨kz, 0, none⟩) rs.length rs.length) (.int .i64 (0)) rfl rfl rfl ⟨kz, rs, hzl, hrs, rfl, hOz, Nat.le_trans hMs hkz, M⟩
end Go.Proofs.Ythghblgbjgghcaa
namespace Go.Proofs.Ythghblgbjgghcaa
open Go.RowKit D
def rkq (rs : List Nat) (q : Nat) : Nat → Bool := fun n => decide (rs.getD n 0 = q)
def lay (rs : List Nat) (r : Nat) : List Nat := (List.range r).flatMap (fun q => ris rs.length (rkq rs q))
theorem lay_s (rs : List Nat) (r : Nat) : lay rs (r + 1) = lay rs r ++ ris rs.length (rkq rs r) := by
  unfold lay; rw [List.range_succ, List.flatMap_append]; simp
theorem part_perm {p q : Nat → Bool} : ∀ L : List Nat, (∀ x ∈ L, ¬ (p x = true ∧ q x = true)) → (L.filter p ++ L.filter q).Perm (L.filter (fun x => p x || q x))
  | [], _ => List.Perm.refl _
  | x :: L, h => by
    have ih := part_perm L (fun y hy => h y (List.mem_cons_of_mem _ hy))
    have hx := h x (List.mem_cons_self ..)
    cases hp : p x <;> cases hq : q x <;> simp only [List.filter_cons, hp, hq, Bool.or_true, Bool.or_false, Bool.false_eq_true, if_true, if_false, Bool.or_self]
    · exact ih
    · exact List.perm_middle.trans (ih.cons x)
    · exact ih.cons x
    · exact (hx ⟨hp, hq⟩).elim
theorem lay_perm (rs : List Nat) : ∀ r, (lay rs r).Perm (ris rs.length (fun n => decide (rs.getD n 0 < r)))
  | 0 => by
    have e : ris rs.length (fun n => decide (rs.getD n 0 < 0)) = [] := by unfold ris; rw [List.filter_eq_nil_iff]; intro x _; simp
    rw [e]; exact List.Perm.refl _
  | r + 1 => by
    rw [lay_s]
    refine ((lay_perm rs r).append_right _).trans ?_
    unfold ris
    refine (part_perm (List.range rs.length) (fun x _ => by unfold rkq; simp only [decide_eq_true_eq]; omega)).trans ?_
    rw [List.filter_congr (q := fun n => decide (rs.getD n 0 < r + 1)) (fun x _ => by
      unfold rkq
      rw [Bool.eq_iff_iff]
      simp only [Bool.or_eq_true, decide_eq_true_eq]; omega)]
theorem lay_len (rs : List Nat) (r : Nat) : (lay rs r).length ≤ rs.length := by rw [(lay_perm rs r).length_eq]; exact ris_len _ _
theorem lay_pw (rs : List Nat) : ∀ r, (lay rs r).Pairwise (fun a b => cfO rs a b < 0)
  | 0 => List.Pairwise.nil
  | r + 1 => by
    rw [lay_s, List.pairwise_append]
    refine ⟨lay_pw rs r, ?_, fun a ha b hb => ?_⟩
    · have h := ris_up rs.length (rkq rs r)
      refine (List.Pairwise.and_mem.1 h).imp (fun {a b} ⟨ha, hb, hab⟩ => ?_)
      have h1 := of_decide_eq_true (mem_ris.1 ha).2
      have h2 := of_decide_eq_true (mem_ris.1 hb).2
      rw [cfO_lt]; omega
    · have h1 := of_decide_eq_true (mem_ris.1 ((lay_perm rs r).mem_iff.1 ha)).2
      have h2 := of_decide_eq_true (mem_ris.1 hb).2
      rw [cfO_lt]; omega
theorem lay_all {rs : List Nat} {r : Nat} (h : (lay rs r).length = rs.length) : (lay rs r).Perm (List.range rs.length) := by
  have h1 := lay_perm rs r
  have h2 : ris rs.length (fun n => decide (rs.getD n 0 < r)) = List.range rs.length := by
    unfold ris
    rw [List.filter_eq_self]
    have h3 := h1.length_eq
    rw [h] at h3
    unfold ris at h3
    have h4 : (List.filter (fun n => decide (rs.getD n 0 < r)) (List.range rs.length)).length = (List.range rs.length).length := by rw [← h3]; simp
    exact fun a ha => (List.length_filter_eq_length_iff.1 h4) a ha
  rw [h2] at h1; exact h1
theorem lay_end {rs : List Nat} {r : Nat} (h : ∀ (n v : Nat), rs[n]? = some v → v < r) : (lay rs r).length = rs.length := by
  rw [(lay_perm rs r).length_eq]
  unfold ris
  have : (List.range rs.length).filter (fun n => decide (rs.getD n 0 < r)) = List.range rs.length := by
    rw [List.filter_eq_self]
    intro a ha
    obtain ⟨v, hv⟩ := get_of_lt (List.mem_range.1 ha)
    have := h a v hv
    simp [List.getD, hv, this]
  rw [this]; simp
theorem pw_one {rs : List Nat} : ∀ (xs ys : List Nat), xs.Pairwise (fun a b => cfO rs a b < 0) → ys.Pairwise (fun a b => cfO rs a b < 0) → (∀ x, x ∈ xs ↔ x ∈ ys) → xs = ys
  | [], [], _, _, _ => rfl
  | [], b :: ys, _, _, h => by have := (h b).2 (List.mem_cons_self ..); simp at this
  | a :: xs, [], _, _, h => by have := (h a).1 (List.mem_cons_self ..); simp at this
  | a :: xs, b :: ys, ha, hb, h => by
    rw [List.pairwise_cons] at ha hb
    have irr : ∀ x, ¬ cfO rs x x < 0 := fun x q => by rw [cfO_lt] at q; omega
    have asy : ∀ x y, cfO rs x y < 0 → ¬ cfO rs y x < 0 := fun x y q1 q2 => by rw [cfO_lt] at q1 q2; omega
    have e : a = b := by
      rcases List.mem_cons.1 ((h a).1 (List.mem_cons_self ..)) with q | q
      · exact q
      · rcases List.mem_cons.1 ((h b).2 (List.mem_cons_self ..)) with q2 | q2
        · exact q2.symm
        · exact (asy _ _ (hb.1 a q) (ha.1 b q2)).elim
    subst e
    congr 1
    refine pw_one xs ys ha.2 hb.2 (fun x => ⟨fun hx => ?_, fun hx => ?_⟩)
    · rcases List.mem_cons.1 ((h x).1 (List.mem_cons_of_mem _ hx)) with q | q
      · subst q; exact (irr _ (ha.1 x hx)).elim
      · exact q
    · rcases List.mem_cons.1 ((h x).2 (List.mem_cons_of_mem _ hx)) with q | q
      · subst q; exact (irr _ (hb.1 x hx)).elim
      · exact q
end Go.Proofs.Ythghblgbjgghcaa
namespace Go.Proofs.Ythghblgbjgghcaa
open Go.RowKit D
theorem order24_stuck {w : World} {l : List S5} {pl : Option Addr} {cl : Nat} (hL : SL w 5 S5.cells pl l) (hz : l.length < 400000) (hzI : nI l < 400000) (h16 : ∀ {u : World} {m : Nat}, Mo w u → m < nI l → Calls Try.prog 16 #[.slice pl l.length cl, .int .i64 ((m : Nat) : Int)] u fun e w' => ∃ (pa : Option Addr) (cap : Nat), e = .returned (.slice pa (row (RA l) m).length cap) ∧ Li w' pa (row (RA l) m) ∧ Mo u w') (hN : ∃ n, n < nI l ∧ RkN (RA l) n) : Calls Try.prog 24 #[.slice pl l.length cl] w fun e w' => e = .returned (.tuple #[.slice none 0 0, .int .i64 110]) ∧ Mo w w' := by
  refine w_enter 41 Try.func24 Try.ntmps24 rfl rfl ?_
  have M : Mo w w := Mo.refl _
  refine w_seq ?_
  refine w_reg ?_
  refine wl_mv (.const (.slice none 0 0)) (.slice none 0 0) (fun _ => rfl) rfl rfl ?_
  refine wl_mv (.const (.int .i64 (0))) (.int .i64 (0)) (fun _ => rfl) rfl rfl ?_
  refine w_nil ?_
  refine xn_then ?_
  refine w_seq ?_
  refine w_reg ?_
  refine wl_mv (.tmp 0) (.slice pl l.length cl) (fun _ => rfl) rfl rfl ?_
  refine wl_callx 22 [(.tmp 10)] _ [.slice pl l.length cl] rfl rfl (fun _ _ => by kernel_rfl) ((ranks22_stuck (hL.kp M.kp) hz hzI (fun m q => h16 (M.trans m) q) hN)) rfl ?_
  rintro e9 u1 ⟨rfl, hq⟩
  refine ⟨_, rfl, ?_⟩
  replace M := M.trans hq
  clear hq
  refine wl_mv (.tmp 11) (.tuple #[.slice none 0 0, .int .i64 (110)]) (fun _ => rfl) rfl rfl ?_
  refine wl_un (fun v => Instr.extract v 0) (.tmp 9) (.tuple #[.slice none 0 0, .int .i64 (110)]) (.slice none 0 0) (fun _ => rfl) rfl (by kernel_rfl) rfl ?_
  refine wl_un (fun v => Instr.extract v 1) (.tmp 9) (.tuple #[.slice none 0 0, .int .i64 (110)]) (.int .i64 (110)) (fun _ => rfl) rfl (by kernel_rfl) rfl ?_
  refine wl_mv (.tmp 12) (.slice none 0 0) (fun _ => rfl) rfl rfl ?_
  refine wl_mv (.tmp 13) (.int .i64 (110)) (fun _ => rfl) rfl rfl ?_
  refine w_nil ?_
  refine xn_then ?_
  refine w_seq ?_
  refine w_seq ?_
  refine w_reg ?_
  refine wl_mv (.tmp 5) (.int .i64 (110)) (fun _ => rfl) rfl rfl ?_
  refine wl_bin (fun x y => do eqGuard .neq 35 (.tmp 14) (.const (.int .i64 (0))) x y; binOp .neq 35 x y) (.tmp 14) (.const (.int .i64 (0))) (.int .i64 (110)) (.int .i64 (0)) (.bool true) (fun _ => rfl) rfl rfl (ne34 (r := false) rfl _ _ _) rfl ?_
  refine w_nil ?_
  refine xn_then ?_
  refine w_condT rfl ?_
  refine w_seq ?_
  refine w_reg ?_
  refine wl_mv (.tmp 5) (.int .i64 (110)) (fun _ => rfl) rfl rfl ?_
  refine wl_mv (.const (.slice none 0 0)) (.slice none 0 0) (fun _ => rfl) rfl rfl ?_
  refine wl_mv (.tmp 16) (.int .i64 (110)) (fun _ => rfl) rfl rfl ?_
  refine w_nil ?_
  refine xn_then ?_
  refine w_ret ?_
  refine xr_then ?_
  exact w_ret2 _ _ (.slice none 0 0) (.int .i64 (110)) rfl rfl rfl ⟨rfl, M⟩
theorem order24_ok {w : World} {l : List S5} {pl : Option Addr} {cl : Nat} (hL : SL w 5 S5.cells pl l) (hz : l.length < 400000) (hzI : nI l < 400000) (h16 : ∀ {u : World} {m : Nat}, Mo w u → m < nI l → Calls Try.prog 16 #[.slice pl l.length cl, .int .i64 ((m : Nat) : Int)] u fun e w' => ∃ (pa : Option Addr) (cap : Nat), e = .returned (.slice pa (row (RA l) m).length cap) ∧ Li w' pa (row (RA l) m) ∧ Mo u w') (hN : ¬ ∃ n, n < nI l ∧ RkN (RA l) n) : Calls Try.prog 24 #[.slice pl l.length cl] w fun e w' => ∃ (rs L : List Nat) (pa : Option Addr) (cap : Nat), rs.length = nI l ∧ (∀ n r, rs[n]? = some r → RkS (RA l) n r) ∧ L.Perm (List.range rs.length) ∧ L.Pairwise (fun a b => cfO rs a b < 0) ∧ e = .returned (.tuple #[.slice pa L.length cap, .int .i64 0]) ∧ Ow w.heap.size 3 1 ic w' pa cap L ∧ Mo w w' := by
  refine w_enter 41 Try.func24 Try.ntmps24 rfl rfl ?_
  have M : Mo w w := Mo.refl _
  refine w_seq ?_
  refine w_reg ?_
  refine wl_mv (.const (.slice none 0 0)) (.slice none 0 0) (fun _ => rfl) rfl rfl ?_
  refine wl_mv (.const (.int .i64 (0))) (.int .i64 (0)) (fun _ => rfl) rfl rfl ?_
  refine w_nil ?_
  refine xn_then ?_
  refine w_seq ?_
  refine w_reg ?_
  refine wl_mv (.tmp 0) (.slice pl l.length cl) (fun _ => rfl) rfl rfl ?_
  refine wl_callx 22 [(.tmp 10)] _ [.slice pl l.length cl] rfl rfl (fun _ _ => by kernel_rfl) ((ranks22_ok (hL.kp M.kp) hz hzI (fun m q => h16 (M.trans m) q) hN)) rfl ?_
  rintro e9 u1 ⟨kz, rs, hrl, hrs, rfl, hOz, hkz, hq⟩
  refine ⟨_, rfl, ?_⟩
  have M0 := M.trans hq
  have hN0 := M0.size
  clear hq
  have hub : ∀ n v, rs[n]? = some v → v ≤ rs.length := fun n v hv => by have := (hrs n v hv).lt (RA_in l); rw [RA_len] at this; omega
  clear M
  have M : Mo u1 u1 := Mo.refl _
  refine wl_mv (.tmp 11) (.tuple #[.slice (some ⟨kz, 0, none⟩) rs.length rs.length, .int .i64 (0)]) (fun _ => rfl) rfl rfl ?_
  refine wl_un (fun v => Instr.extract v 0) (.tmp 9) (.tuple #[.slice (some ⟨kz, 0, none⟩) rs.length rs.length, .int .i64 (0)]) (.slice (some ⟨kz, 0, none⟩) rs.length rs.length) (fun _ => rfl) rfl (by kernel_rfl) rfl ?_
  refine wl_un (fun v => Instr.extract v 1) (.tmp 9) (.tuple #[.slice (some ⟨kz, 0, none⟩) rs.length rs.length, .int .i64 (0)]) (.int .i64 (0)) (fun _ => rfl) rfl (by kernel_rfl) rfl ?_
  refine wl_mv (.tmp 12) (.slice (some ⟨kz, 0, none⟩) rs.length rs.length) (fun _ => rfl) rfl rfl ?_
  refine wl_mv (.tmp 13) (.int .i64 (0)) (fun _ => rfl) rfl rfl ?_
  refine w_nil ?_
  refine xn_then ?_
  refine w_seq ?_
  refine w_seq ?_
  refine w_reg ?_
  refine wl_mv (.tmp 5) (.int .i64 (0)) (fun _ => rfl) rfl rfl ?_
  refine wl_bin (fun x y => do eqGuard .neq 35 (.tmp 14) (.const (.int .i64 (0))) x y; binOp .neq 35 x y) (.tmp 14) (.const (.int .i64 (0))) (.int .i64 (0)) (.int .i64 (0)) (.bool false) (fun _ => rfl) rfl rfl (ne34 (r := true) rfl _ _ _) rfl ?_
  refine w_nil ?_
  refine xn_then ?_
  refine w_condF rfl ?_
  refine w_skip ?_
  refine xn_then ?_
  refine w_seq ?_
  refine w_reg ?_
  refine wl_mv (.const (.slice none 0 0)) (.slice none 0 0) (fun _ => rfl) rfl rfl ?_
  refine w_nil ?_
  refine xn_then ?_
  refine w_seq ?_
  refine w_seq ?_
  refine w_reg ?_
  refine wl_mv (.const (.int .i64 (0))) (.int .i64 (0)) (fun _ => rfl) rfl rfl ?_
  refine w_nil ?_
  refine xn_then ?_
  refine w_block ?_
  refine w_loop (fun m lf w1 => ∃ r : Nat, ∃ pv : Option Addr, ∃ cv : Nat, m = rs.length + 1 - r ∧ look lf 4 = .slice (some ⟨kz, 0, none⟩) rs.length rs.length ∧ look lf 6 = .slice pv (lay rs r).length cv ∧ look lf 7 = .int .i64 ((r : Nat) : Int) ∧ (r ≤ rs.length + 1) ∧ (Ow u1.heap.size 3 1 ic w1 pv cv (lay rs r)) ∧ (Mo u1 w1)) _ ⟨0, none, 0, rfl, rfl, rfl, rfl, Nat.zero_le _, Ow.nil _ _ _ _ _, M⟩ ?_
  clear M
  rintro m lf40 wl40 ⟨r, pv, cv, rfl, e40_4, e40_6, e40_7, hr, hW, M⟩
  have hll := lay_len rs r
  cases hd : decide ((lay rs r).length < rs.length) with
  | true =>
    have hil := of_decide_eq_true hd
    have hrr : r ≤ rs.length := by rcases Nat.lt_or_ge rs.length r with q | q; (have := lay_end (rs := rs) (r := r) (fun n v hv => by have := hub n v hv; omega); omega); exact q
    refine w_seq ?_
    refine w_seq ?_
    refine w_reg ?_
    refine wl_mv (.tmp 6) (.slice pv (lay rs r).length cv) (fun _ => rfl) e40_6 rfl ?_
    refine wl_val (.int .i64 (((lay rs r).length : Nat) : Int)) (len32 _ _ _ _ _ (by exact rfl) _ _ _ _ _ _) rfl ?_
    refine wl_mv (.tmp 4) (.slice (some ⟨kz, 0, none⟩) rs.length rs.length) (fun _ => rfl) e40_4 rfl ?_
    refine wl_val (.int .i64 ((rs.length : Nat) : Int)) (len32 _ _ _ _ _ (by exact rfl) _ _ _ _ _ _) rfl ?_
    refine wl_bin (fun x y => do eqGuard .lss 3 (.tmp 18) (.tmp 20) x y; binOp .lss 3 x y) (.tmp 18) (.tmp 20) (.int .i64 (((lay rs r).length : Nat) : Int)) (.int .i64 ((rs.length : Nat) : Int)) (.bool true) (fun _ => rfl) rfl rfl (ltN hd _ _ _) rfl ?_
    refine w_nil ?_
    refine xn_then ?_
    refine w_condT rfl ?_
    refine w_skip ?_
    refine xn_then ?_
    refine w_seq ?_
    refine w_block ?_
    refine w_seq ?_
    refine w_reg ?_
    refine wl_mv (.const (.int .i64 (0))) (.int .i64 (0)) (fun _ => rfl) rfl rfl ?_
    refine w_nil ?_
    refine xn_then ?_
    refine w_block ?_
    have hW0 : Ow u1.heap.size 3 1 ic wl40 pv cv (lay rs r ++ ris 0 (rkq rs r)) := by rw [show ris 0 (rkq rs r) = [] from rfl, List.append_nil]; exact hW
    refine w_loop (fun m lf w1 => ∃ n : Nat, ∃ pv3 : Option Addr, ∃ cv3 : Nat, m = rs.length - n ∧ look lf 4 = .slice (some ⟨kz, 0, none⟩) rs.length rs.length ∧ look lf 6 = .slice pv3 (lay rs r ++ ris n (rkq rs r)).length cv3 ∧ look lf 7 = .int .i64 ((r : Nat) : Int) ∧ look lf 8 = .int .i64 ((n : Nat) : Int) ∧ (n ≤ rs.length) ∧ (Ow u1.heap.size 3 1 ic w1 pv3 cv3 (lay rs r ++ ris n (rkq rs r))) ∧ (Mo u1 w1)) _ ⟨0, pv, cv, rfl, e40_4, (by rw [show ris 0 (rkq rs r) = [] from rfl, List.append_nil]; exact e40_6), e40_7, rfl, Nat.zero_le _, hW0, M⟩ ?_
    clear hW hW0 M
    rintro m lf70 wl70 ⟨n, pv3, cv3, rfl, e70_4, e70_6, e70_7, e70_8, hn, hW, M⟩
    have hrb := ris_len n (rkq rs r)
    have hLL : (lay rs r ++ ris n (rkq rs r)).length ≤ 800000 := by rw [List.length_append]; omega
    cases hd2 : decide (n < rs.length) with
    | true =>
      have hnl := of_decide_eq_true hd2
      obtain ⟨v, hv⟩ := get_of_lt hnl
      have hgv : rs.getD n 0 = v := by simp [List.getD, hv]
      have QO := (hOz.mo M).at
      cases hd3 : decide (((v : Nat) : Int) = ((r : Nat) : Int)) with
      | true =>
        have hPi : rkq rs r n = true := by unfold rkq; rw [hgv]; exact decide_eq_true (by have := of_decide_eq_true hd3; omega)
        refine w_seq ?_
        refine w_seq ?_
        refine w_reg ?_
        refine wl_mv (.tmp 8) (.int .i64 ((n : Nat) : Int)) (fun _ => rfl) e70_8 rfl ?_
        refine wl_mv (.tmp 4) (.slice (some ⟨kz, 0, none⟩) rs.length rs.length) (fun _ => rfl) e70_4 rfl ?_
        refine wl_val (.int .i64 ((rs.length : Nat) : Int)) (len32 _ _ _ _ _ (by exact rfl) _ _ _ _ _ _) rfl ?_
        refine wl_bin (fun x y => do eqGuard .lss 3 (.tmp 24) (.tmp 26) x y; binOp .lss 3 x y) (.tmp 24) (.tmp 26) (.int .i64 ((n : Nat) : Int)) (.int .i64 ((rs.length : Nat) : Int)) (.bool true) (fun _ => rfl) rfl rfl (ltN hd2 _ _ _) rfl ?_
        refine w_nil ?_
        refine xn_then ?_
        refine w_condT rfl ?_
        refine w_skip ?_
        refine xn_then ?_
        refine w_seq ?_
        refine w_block ?_
        refine w_seq ?_
        refine w_reg ?_
        refine wl_mv (.tmp 4) (.slice (some ⟨kz, 0, none⟩) rs.length rs.length) (fun _ => rfl) e70_4 rfl ?_
        refine wl_mv (.tmp 8) (.int .i64 ((n : Nat) : Int)) (fun _ => rfl) e70_8 rfl ?_
        refine wl_bin (fun x y => Instr.indexAt 32 x y) (.tmp 30) (.tmp 31) (.slice (some ⟨kz, 0, none⟩) rs.length rs.length) (.int .i64 ((n : Nat) : Int)) (pt kz (0 + n * 1)) (fun _ => rfl) rfl rfl (ix32 (i := n) rfl hnl _) rfl ?_
        refine wl_load 3 (.tmp 32) (pt kz (0 + n * 1)) (.int .i64 ((v : Nat) : Int)) rfl rfl (run_one QO 3 (0 + n * 1) (by simp [hv]) Try.underlying3 rfl) rfl ?_
        refine wl_mv (.tmp 7) (.int .i64 ((r : Nat) : Int)) (fun _ => rfl) e70_7 rfl ?_
        refine wl_bin (fun x y => do eqGuard .eql 3 (.tmp 33) (.tmp 34) x y; binOp .eql 3 x y) (.tmp 33) (.tmp 34) (.int .i64 ((v : Nat) : Int)) (.int .i64 ((r : Nat) : Int)) (.bool true) (fun _ => rfl) rfl rfl (eq3 hd3 _ _ _) rfl ?_
        refine w_nil ?_
        refine xn_then ?_
        refine w_condT rfl ?_
        refine w_reg ?_
        refine wl_mv (.tmp 6) (.slice pv3 (lay rs r ++ ris n (rkq rs r)).length cv3) (fun _ => rfl) e70_6 rfl ?_
        refine wl_mv (.tmp 8) (.int .i64 ((n : Nat) : Int)) (fun _ => rfl) e70_8 rfl ?_
        refine wl_bs 32 1 [(0, (.tmp 37))] [(0, .int .i64 ((n : Nat) : Int))] #[.int .i64 ((n : Nat) : Int)] 3 rfl rfl (fun _ => by kernel_rfl) rfl ?_
        intro k1 u71 hk hz hq Q1
        have ne_kz_k1 : kz ≠ k1 := by have := QO.lt; omega
        have N_k1 : u1.heap.size ≤ k1 := by have := M.size; omega
        replace QO := QO.mo hq
        replace hW := own_mo hW hq
        replace M := M.trans hq
        clear hk hz hq
        refine wl_apI (.tmp 36) (.tmp 38) k1 rfl rfl rfl hW Q1 (by omega) M.size rfl ?_
        intro pv2 cv2 u72 hW2 hK9 hv9
        replace M := own_gap hW hK9 (Nat.le_refl _) M
        clear hW hK9 hv9
        have hW := hW2
        clear hW2
        refine wl_mv (.tmp 39) (.slice pv2 ((lay rs r ++ ris n (rkq rs r)) ++ [n]).length cv2) (fun _ => rfl) rfl rfl ?_
        refine w_nil ?_
        refine xn_blk ?_
        refine xn_then ?_
        refine w_reg ?_
        refine wl_mv (.tmp 8) (.int .i64 ((n : Nat) : Int)) (fun _ => rfl) e70_8 rfl ?_
        refine wl_bin (fun x y => do eqGuard .add 3 (.tmp 28) (.const (.int .i64 (1))) x y; binOp .add 3 x y) (.tmp 28) (.const (.int .i64 (1))) (.int .i64 ((n : Nat) : Int)) (.int .i64 (1)) (.int .i64 ((n + 1 : Nat) : Int)) (fun _ => rfl) rfl rfl (add1r (k := n) (by omega) _ _ _) rfl ?_
        refine wl_mv (.tmp 29) (.int .i64 ((n + 1 : Nat) : Int)) (fun _ => rfl) rfl rfl ?_
        refine w_nil ?_
        have hrs9 : lay rs r ++ ris (n + 1) (rkq rs r) = (lay rs r ++ ris n (rkq rs r)) ++ [n] := by rw [ris_t hPi, List.append_assoc]
        rw [← hrs9] at hW
        exact xn_loop (rs.length - (n + 1)) (by omega) ⟨n + 1, pv2, cv2, rfl, e70_4, (by rw [hrs9]; rfl), e70_7, rfl, by omega, hW, M⟩
      | false =>
        have hPi : rkq rs r n = false := by unfold rkq; rw [hgv]; exact decide_eq_false (by have := of_decide_eq_false hd3; omega)
        refine w_seq ?_
        refine w_seq ?_
        refine w_reg ?_
        refine wl_mv (.tmp 8) (.int .i64 ((n : Nat) : Int)) (fun _ => rfl) e70_8 rfl ?_
        refine wl_mv (.tmp 4) (.slice (some ⟨kz, 0, none⟩) rs.length rs.length) (fun _ => rfl) e70_4 rfl ?_
        refine wl_val (.int .i64 ((rs.length : Nat) : Int)) (len32 _ _ _ _ _ (by exact rfl) _ _ _ _ _ _) rfl ?_
        refine wl_bin (fun x y => do eqGuard .lss 3 (.tmp 24) (.tmp 26) x y; binOp .lss 3 x y) (.tmp 24) (.tmp 26) (.int .i64 ((n : Nat) : Int)) (.int .i64 ((rs.length : Nat) : Int)) (.bool true) (fun _ => rfl) rfl rfl (ltN hd2 _ _ _) rfl ?_
        refine w_nil ?_
        refine xn_then ?_
        refine w_condT rfl ?_
        refine w_skip ?_
        refine xn_then ?_
        refine w_seq ?_
        refine w_block ?_
        refine w_seq ?_
        refine w_reg ?_
        refine wl_mv (.tmp 4) (.slice (some ⟨kz, 0, none⟩) rs.length rs.length) (fun _ => rfl) e70_4 rfl ?_
        refine wl_mv (.tmp 8) (.int .i64 ((n : Nat) : Int)) (fun _ => rfl) e70_8 rfl ?_
        refine wl_bin (fun x y => Instr.indexAt 32 x y) (.tmp 30) (.tmp 31) (.slice (some ⟨kz, 0, none⟩) rs.length rs.length) (.int .i64 ((n : Nat) : Int)) (pt kz (0 + n * 1)) (fun _ => rfl) rfl rfl (ix32 (i := n) rfl hnl _) rfl ?_
        refine wl_load 3 (.tmp 32) (pt kz (0 + n * 1)) (.int .i64 ((v : Nat) : Int)) rfl rfl (run_one QO 3 (0 + n * 1) (by simp [hv]) Try.underlying3 rfl) rfl ?_
        refine wl_mv (.tmp 7) (.int .i64 ((r : Nat) : Int)) (fun _ => rfl) e70_7 rfl ?_
        refine wl_bin (fun x y => do eqGuard .eql 3 (.tmp 33) (.tmp 34) x y; binOp .eql 3 x y) (.tmp 33) (.tmp 34) (.int .i64 ((v : Nat) : Int)) (.int .i64 ((r : Nat) : Int)) (.bool false) (fun _ => rfl) rfl rfl (eq3 hd3 _ _ _) rfl ?_
        refine w_nil ?_
        refine xn_then ?_
        refine w_condF rfl ?_
        refine w_skip ?_
        refine xn_blk ?_
        refine xn_then ?_
        refine w_reg ?_
        refine wl_mv (.tmp 8) (.int .i64 ((n : Nat) : Int)) (fun _ => rfl) e70_8 rfl ?_
        refine wl_bin (fun x y => do eqGuard .add 3 (.tmp 28) (.const (.int .i64 (1))) x y; binOp .add 3 x y) (.tmp 28) (.const (.int .i64 (1))) (.int .i64 ((n : Nat) : Int)) (.int .i64 (1)) (.int .i64 ((n + 1 : Nat) : Int)) (fun _ => rfl) rfl rfl (add1r (k := n) (by omega) _ _ _) rfl ?_
        refine wl_mv (.tmp 29) (.int .i64 ((n + 1 : Nat) : Int)) (fun _ => rfl) rfl rfl ?_
        refine w_nil ?_
        have hrs9 : ris (n + 1) (rkq rs r) = ris n (rkq rs r) := ris_f hPi
        exact xn_loop (rs.length - (n + 1)) (by omega) ⟨n + 1, pv3, cv3, rfl, e70_4, (by rw [hrs9]; exact e70_6), e70_7, rfl, by omega, by rw [hrs9]; exact hW, M⟩
    | false =>
      have hne : n = rs.length := by have := of_decide_eq_false hd2; omega
      rw [hne] at hW
      refine w_seq ?_
      refine w_seq ?_
      refine w_reg ?_
      refine wl_mv (.tmp 8) (.int .i64 ((n : Nat) : Int)) (fun _ => rfl) e70_8 rfl ?_
      refine wl_mv (.tmp 4) (.slice (some ⟨kz, 0, none⟩) rs.length rs.length) (fun _ => rfl) e70_4 rfl ?_
      refine wl_val (.int .i64 ((rs.length : Nat) : Int)) (len32 _ _ _ _ _ (by exact rfl) _ _ _ _ _ _) rfl ?_
      refine wl_bin (fun x y => do eqGuard .lss 3 (.tmp 24) (.tmp 26) x y; binOp .lss 3 x y) (.tmp 24) (.tmp 26) (.int .i64 ((n : Nat) : Int)) (.int .i64 ((rs.length : Nat) : Int)) (.bool false) (fun _ => rfl) rfl rfl (ltN hd2 _ _ _) rfl ?_
      refine w_nil ?_
      refine xn_then ?_
      refine w_condF rfl ?_
      refine w_exit ?_
      refine xx_then ?_
      refine xx_then ?_
      refine xx_blk ?_
      refine xn_blk ?_
      refine xn_then ?_
      refine w_reg ?_
      refine wl_mv (.tmp 7) (.int .i64 ((r : Nat) : Int)) (fun _ => rfl) e70_7 rfl ?_
      refine wl_bin (fun x y => do eqGuard .add 3 (.tmp 22) (.const (.int .i64 (1))) x y; binOp .add 3 x y) (.tmp 22) (.const (.int .i64 (1))) (.int .i64 ((r : Nat) : Int)) (.int .i64 (1)) (.int .i64 ((r + 1 : Nat) : Int)) (fun _ => rfl) rfl rfl (add1r (k := r) (by omega) _ _ _) rfl ?_
      refine wl_mv (.tmp 23) (.int .i64 ((r + 1 : Nat) : Int)) (fun _ => rfl) rfl rfl ?_
      refine w_nil ?_
      exact xn_loop (rs.length + 1 - (r + 1)) (by omega) ⟨r + 1, pv3, cv3, rfl, e70_4, (by rw [lay_s, ← hne]; exact e70_6), rfl, by omega, (by rw [lay_s]; exact hW), M⟩
  | false =>
    have hie : (lay rs r).length = rs.length := by have := of_decide_eq_false hd; omega
    refine w_seq ?_
    refine w_seq ?_
    refine w_reg ?_
    refine wl_mv (.tmp 6) (.slice pv (lay rs r).length cv) (fun _ => rfl) e40_6 rfl ?_
    refine wl_val (.int .i64 (((lay rs r).length : Nat) : Int)) (len32 _ _ _ _ _ (by exact rfl) _ _ _ _ _ _) rfl ?_
    refine wl_mv (.tmp 4) (.slice (some ⟨kz, 0, none⟩) rs.length rs.length) (fun _ => rfl) e40_4 rfl ?_
    refine wl_val (.int .i64 ((rs.length : Nat) : Int)) (len32 _ _ _ _ _ (by exact rfl) _ _ _ _ _ _) rfl ?_
    refine wl_bin (fun x y => do eqGuard .lss 3 (.tmp 18) (.tmp 20) x y; binOp .lss 3 x y) (.tmp 18) (.tmp 20) (.int .i64 (((lay rs r).length : Nat) : Int)) (.int .i64 ((rs.length : Nat) : Int)) (.bool false) (fun _ => rfl) rfl rfl (ltN hd _ _ _) rfl ?_
    refine w_nil ?_
    refine xn_then ?_
    refine w_condF rfl ?_
    refine w_exit ?_
    refine xx_then ?_
    refine xx_then ?_
    refine xx_blk ?_
    refine xn_then ?_
    refine w_seq ?_
    refine w_reg ?_
    refine wl_mv (.tmp 6) (.slice pv (lay rs r).length cv) (fun _ => rfl) e40_6 rfl ?_
    refine wl_mv (.tmp 40) (.slice pv (lay rs r).length cv) (fun _ => rfl) rfl rfl ?_
    refine wl_mv (.const (.int .i64 (0))) (.int .i64 (0)) (fun _ => rfl) rfl rfl ?_
    refine w_nil ?_
    refine xn_then ?_
    refine w_ret ?_
    exact w_ret2 _ _ (.slice pv (lay rs r).length cv) (.int .i64 (0)) rfl rfl rfl ⟨rs, lay rs r, pv, cv, hrl, hrs, lay_all hie, lay_pw rs r, rfl, own_le hW hN0, M0.trans M⟩
end Go.Proofs.Ythghblgbjgghcaa
namespace Go.Proofs.Ythghblgbjgghcaa
open Go.RowKit D
theorem equal_t {w : World} {p1 p2 : Option Addr} {L1 L2 : List Nat} (h1 : SL w 1 ic p1 L1) (h2 : SL w 1 ic p2 L2) (c1 c2 : Nat) (e : L1 = L2) : Calls Try.prog 14 #[.slice p1 L1.length c1, .slice p2 L2.length c2] w fun e w' => e = .returned (.bool true) ∧ Mo w w' := by
  have h := equal_n h1 h2 c1 c2
  rw [decide_eq_true e] at h; exact h
theorem rs_one {R : List (List Nat)} {rs rs' : List Nat} (hl : rs.length = rs'.length) (h : ∀ n r, rs[n]? = some r → RkS R n r) (h' : ∀ n r, rs'[n]? = some r → RkS R n r) : rs = rs' := by
  apply List.ext_getElem?
  intro n
  rcases Nat.lt_or_ge n rs.length with q | q
  · obtain ⟨a, ha⟩ := get_of_lt q
    obtain ⟨b, hb⟩ := get_of_lt (show n < rs'.length by omega)
    rw [ha, hb, (h n a ha).one (h' n b hb)]
  · rw [List.getElem?_eq_none q, List.getElem?_eq_none (by omega)]
theorem rkl_n {w : World} {l : List S5} {pl : Option Addr} {cl : Nat} (hL : SL w 5 S5.cells pl l) (hLx : ∀ x ∈ l, LS5 w x) (hz : l.length < 400000) (hzI : nI l < 400000) (hnd : ∀ y ∈ l, ∀ z ∈ y.items, nd z.ex ≤ 3000000) (hcl : l.length ≤ cl) (hci : ∀ x ∈ l, x.items.length ≤ x.ci) (h16 : ∀ {u : World} {m : Nat}, Mo w u → m < nI l → Calls Try.prog 16 #[.slice pl l.length cl, .int .i64 ((m : Nat) : Int)] u fun e w' => ∃ (pa : Option Addr) (cap : Nat), e = .returned (.slice pa (row (RA l) m).length cap) ∧ Li w' pa (row (RA l) m) ∧ Mo u w') : Calls Try.prog 4 #[.slice pl l.length cl] w fun e w' => e = .returned (.bool true) ∧ Mo w w' := by
  by_cases hN : ∃ n, n < nI l ∧ RkN (RA l) n
  · skip
    refine w_enter 64 Try.func4 Try.ntmps4 rfl rfl ?_
    have M : Mo w w := Mo.refl _
    refine w_seq ?_
    refine w_reg ?_
    refine wl_mv (.const (.bool false)) (.bool false) (fun _ => rfl) rfl rfl ?_
    refine w_nil ?_
    refine xn_then ?_
    refine w_seq ?_
    refine w_seq ?_
    refine w_reg ?_
    refine wl_mv (.tmp 0) (.slice pl l.length cl) (fun _ => rfl) rfl rfl ?_
    refine wl_callx 8 [(.tmp 11)] _ [.slice pl l.length cl] rfl rfl (fun _ _ => by kernel_rfl) (small_n (hL.kp M.kp) (fun x hx => (hLx x hx).kp M.kp) hcl hci) rfl ?_
    rintro e9 u1 ⟨bs, rfl, hq⟩
    refine ⟨_, rfl, ?_⟩
    replace M := M.trans hq
    clear hq
    cases bs with
    | true =>
      refine wl_un (fun v => Op.unary .not v) (.tmp 12) (.bool true) (.bool false) (fun _ => rfl) rfl (by kernel_rfl) rfl ?_
      refine wl_mv (.tmp 13) (.bool false) (fun _ => rfl) rfl rfl ?_
      refine wl_callx 9 [] _ [] rfl rfl (fun _ _ => by kernel_rfl) (live_n _) rfl ?_
      rintro e9 u2 ⟨rfl, hq⟩
      refine ⟨_, rfl, ?_⟩
      replace M := M.trans hq
      clear hq
      refine wl_un (fun v => Op.unary .not v) (.tmp 15) (.bool true) (.bool false) (fun _ => rfl) rfl (by kernel_rfl) rfl ?_
      refine wl_pick (.tmp 14) (.const (.bool true)) (.tmp 16) false (.bool false) (fun _ => rfl) rfl rfl rfl ?_
      refine w_nil ?_
      refine xn_then ?_
      refine w_condF rfl ?_
      refine w_skip ?_
      refine xn_then ?_
      refine w_seq ?_
      refine w_reg ?_
      refine wl_mv (.tmp 0) (.slice pl l.length cl) (fun _ => rfl) rfl rfl ?_
      refine wl_callx 21 [(.tmp 20)] _ [.slice pl l.length cl] rfl rfl (fun _ _ => by kernel_rfl) ((ranks_stuck (hL.kp M.kp) (fun x hx => (hLx x hx).kp M.kp) hz hzI hnd hN)) rfl ?_
      rintro e9 u3 ⟨rfl, hq⟩
      refine ⟨_, rfl, ?_⟩
      replace M := M.trans hq
      clear hq
      refine wl_mv (.tmp 21) (.tuple #[.slice none 0 0, .int .i64 (110)]) (fun _ => rfl) rfl rfl ?_
      refine wl_un (fun v => Instr.extract v 0) (.tmp 19) (.tuple #[.slice none 0 0, .int .i64 (110)]) (.slice none 0 0) (fun _ => rfl) rfl (by kernel_rfl) rfl ?_
      refine wl_un (fun v => Instr.extract v 1) (.tmp 19) (.tuple #[.slice none 0 0, .int .i64 (110)]) (.int .i64 (110)) (fun _ => rfl) rfl (by kernel_rfl) rfl ?_
      refine wl_mv (.tmp 22) (.slice none 0 0) (fun _ => rfl) rfl rfl ?_
      refine wl_mv (.tmp 23) (.int .i64 (110)) (fun _ => rfl) rfl rfl ?_
      refine w_nil ?_
      refine xn_then ?_
      refine w_seq ?_
      refine w_reg ?_
      refine wl_mv (.tmp 0) (.slice pl l.length cl) (fun _ => rfl) rfl rfl ?_
      refine wl_callx 22 [(.tmp 25)] _ [.slice pl l.length cl] rfl rfl (fun _ _ => by kernel_rfl) ((ranks22_stuck (hL.kp M.kp) hz hzI (fun m q => h16 (M.trans m) q) hN)) rfl ?_
      rintro e9 u4 ⟨rfl, hq⟩
      refine ⟨_, rfl, ?_⟩
      replace M := M.trans hq
      clear hq
      refine wl_mv (.tmp 26) (.tuple #[.slice none 0 0, .int .i64 (110)]) (fun _ => rfl) rfl rfl ?_
      refine wl_un (fun v => Instr.extract v 0) (.tmp 24) (.tuple #[.slice none 0 0, .int .i64 (110)]) (.slice none 0 0) (fun _ => rfl) rfl (by kernel_rfl) rfl ?_
      refine wl_un (fun v => Instr.extract v 1) (.tmp 24) (.tuple #[.slice none 0 0, .int .i64 (110)]) (.int .i64 (110)) (fun _ => rfl) rfl (by kernel_rfl) rfl ?_
      refine wl_mv (.tmp 27) (.slice none 0 0) (fun _ => rfl) rfl rfl ?_
      refine wl_mv (.tmp 28) (.int .i64 (110)) (fun _ => rfl) rfl rfl ?_
      refine w_nil ?_
      refine xn_then ?_
      refine w_seq ?_
      refine w_reg ?_
      refine wl_mv (.tmp 0) (.slice pl l.length cl) (fun _ => rfl) rfl rfl ?_
      refine wl_callx 23 [(.tmp 30)] _ [.slice pl l.length cl] rfl rfl (fun _ _ => by kernel_rfl) ((order_stuck (hL.kp M.kp) (fun x hx => (hLx x hx).kp M.kp) hz hzI hnd hN)) rfl ?_
      rintro e9 u5 ⟨rfl, hq⟩
      refine ⟨_, rfl, ?_⟩
      replace M := M.trans hq
      clear hq
      refine wl_mv (.tmp 31) (.tuple #[.slice none 0 0, .int .i64 (110)]) (fun _ => rfl) rfl rfl ?_
      refine wl_un (fun v => Instr.extract v 0) (.tmp 29) (.tuple #[.slice none 0 0, .int .i64 (110)]) (.slice none 0 0) (fun _ => rfl) rfl (by kernel_rfl) rfl ?_
      refine wl_un (fun v => Instr.extract v 1) (.tmp 29) (.tuple #[.slice none 0 0, .int .i64 (110)]) (.int .i64 (110)) (fun _ => rfl) rfl (by kernel_rfl) rfl ?_
      refine wl_mv (.tmp 32) (.slice none 0 0) (fun _ => rfl) rfl rfl ?_
      refine wl_mv (.tmp 33) (.int .i64 (110)) (fun _ => rfl) rfl rfl ?_
      refine w_nil ?_
      refine xn_then ?_
      refine w_seq ?_
      refine w_reg ?_
      refine wl_mv (.tmp 0) (.slice pl l.length cl) (fun _ => rfl) rfl rfl ?_
      refine wl_callx 24 [(.tmp 35)] _ [.slice pl l.length cl] rfl rfl (fun _ _ => by kernel_rfl) ((order24_stuck (hL.kp M.kp) hz hzI (fun m q => h16 (M.trans m) q) hN)) rfl ?_
      rintro e9 u6 ⟨rfl, hq⟩
      refine ⟨_, rfl, ?_⟩
      replace M := M.trans hq
      clear hq
      refine wl_mv (.tmp 36) (.tuple #[.slice none 0 0, .int .i64 (110)]) (fun _ => rfl) rfl rfl ?_
      refine wl_un (fun v => Instr.extract v 0) (.tmp 34) (.tuple #[.slice none 0 0, .int .i64 (110)]) (.slice none 0 0) (fun _ => rfl) rfl (by kernel_rfl) rfl ?_
      refine wl_un (fun v => Instr.extract v 1) (.tmp 34) (.tuple #[.slice none 0 0, .int .i64 (110)]) (.int .i64 (110)) (fun _ => rfl) rfl (by kernel_rfl) rfl ?_
      refine wl_mv (.tmp 37) (.slice none 0 0) (fun _ => rfl) rfl rfl ?_
      refine wl_mv (.tmp 38) (.int .i64 (110)) (fun _ => rfl) rfl rfl ?_
      refine w_nil ?_
      refine xn_then ?_
      refine w_seq ?_
      refine w_reg ?_
      refine wl_mv (.tmp 4) (.int .i64 (110)) (fun _ => rfl) rfl rfl ?_
      refine wl_mv (.tmp 6) (.int .i64 (110)) (fun _ => rfl) rfl rfl ?_
      refine wl_bin (fun x y => do eqGuard .eql 35 (.tmp 39) (.tmp 40) x y; binOp .eql 35 x y) (.tmp 39) (.tmp 40) (.int .i64 (110)) (.int .i64 (110)) (.bool true) (fun _ => rfl) rfl rfl (eq34 (r := true) rfl _ _ _) rfl ?_
      refine wl_mv (.tmp 41) (.bool true) (fun _ => rfl) rfl rfl ?_
      refine wl_mv (.tmp 8) (.int .i64 (110)) (fun _ => rfl) rfl rfl ?_
      refine wl_mv (.tmp 10) (.int .i64 (110)) (fun _ => rfl) rfl rfl ?_
      refine wl_bin (fun x y => do eqGuard .eql 35 (.tmp 43) (.tmp 44) x y; binOp .eql 35 x y) (.tmp 43) (.tmp 44) (.int .i64 (110)) (.int .i64 (110)) (.bool true) (fun _ => rfl) rfl rfl (eq34 (r := true) rfl _ _ _) rfl ?_
      refine wl_pick (.tmp 42) (.tmp 45) (.const (.bool false)) true (.bool true) (fun _ => rfl) rfl rfl rfl ?_
      refine wl_mv (.tmp 46) (.bool true) (fun _ => rfl) rfl rfl ?_
      refine wl_mv (.tmp 3) (.slice none 0 0) (fun _ => rfl) rfl rfl ?_
      refine wl_mv (.tmp 5) (.slice none 0 0) (fun _ => rfl) rfl rfl ?_
      refine wl_callx 14 [(.tmp 48), (.tmp 49)] _ [.slice none 0 0, .slice none 0 0] rfl rfl (fun _ _ => by kernel_rfl) ((equal_t (L1 := []) (L2 := []) (⟨Nat.zero_le _, fun i o e => by simp at e⟩) (⟨Nat.zero_le _, fun i o e => by simp at e⟩) 0 0 rfl)) rfl ?_
      rintro e9 u7 ⟨rfl, hq⟩
      refine ⟨_, rfl, ?_⟩
      replace M := M.trans hq
      clear hq
      refine wl_pick (.tmp 47) (.tmp 50) (.const (.bool false)) true (.bool true) (fun _ => rfl) rfl rfl rfl ?_
      refine wl_mv (.tmp 51) (.bool true) (fun _ => rfl) rfl rfl ?_
      refine wl_mv (.tmp 7) (.slice none 0 0) (fun _ => rfl) rfl rfl ?_
      refine wl_mv (.tmp 9) (.slice none 0 0) (fun _ => rfl) rfl rfl ?_
      refine wl_callx 14 [(.tmp 53), (.tmp 54)] _ [.slice none 0 0, .slice none 0 0] rfl rfl (fun _ _ => by kernel_rfl) ((equal_t (L1 := []) (L2 := []) (⟨Nat.zero_le _, fun i o e => by simp at e⟩) (⟨Nat.zero_le _, fun i o e => by simp at e⟩) 0 0 rfl)) rfl ?_
      rintro e9 u8 ⟨rfl, hq⟩
      refine ⟨_, rfl, ?_⟩
      replace M := M.trans hq
      clear hq
      refine wl_pick (.tmp 52) (.tmp 55) (.const (.bool false)) true (.bool true) (fun _ => rfl) rfl rfl rfl ?_
      refine wl_mv (.tmp 56) (.bool true) (fun _ => rfl) rfl rfl ?_
      refine wl_mv (.tmp 0) (.slice pl l.length cl) (fun _ => rfl) rfl rfl ?_
      refine wl_callx 25 [(.tmp 58)] _ [.slice pl l.length cl] rfl rfl (fun _ _ => by kernel_rfl) ((stuck_n (hL.kp M.kp) (fun x hx => (hLx x hx).kp M.kp) hz hzI hnd)) rfl ?_
      rintro e9 u9 ⟨p, p1, c1, hp, rfl, hO1, hq⟩
      refine ⟨_, rfl, ?_⟩
      have hS1 := (Li.own hO1 (by have := ris_len (nI l) p; unfold maxLen; omega)).sl
      replace M := M.trans hq
      clear hq
      refine wl_mv (.tmp 0) (.slice pl l.length cl) (fun _ => rfl) rfl rfl ?_
      refine wl_callx 26 [(.tmp 60)] _ [.slice pl l.length cl] rfl rfl (fun _ _ => by kernel_rfl) ((stuck26_n (hL.kp M.kp) hz hzI (fun m q => h16 (M.trans m) q))) rfl ?_
      rintro e9 u10 ⟨p9, p2, c2, hp9, rfl, hO2, hq⟩
      refine ⟨_, rfl, ?_⟩
      have hpe : ris (nI l) p = ris (nI l) p9 := ris_congr (fun k hk => by rw [Bool.eq_iff_iff, hp k hk, hp9 k hk])
      have hS2 := (Li.own hO2 (by have := ris_len (nI l) p9; unfold maxLen; omega)).sl
      replace hS1 := hS1.kp hq.kp
      replace M := M.trans hq
      clear hq
      refine wl_callx 14 [(.tmp 59), (.tmp 61)] _ [.slice p1 (ris (nI l) p).length c1, .slice p2 (ris (nI l) p9).length c2] rfl rfl (fun _ _ => by kernel_rfl) ((equal_t hS1 hS2 _ _ hpe)) rfl ?_
      rintro e9 u11 ⟨rfl, hq⟩
      refine ⟨_, rfl, ?_⟩
      replace hS1 := hS1.kp hq.kp
      replace hS2 := hS2.kp hq.kp
      replace M := M.trans hq
      clear hq
      refine wl_pick (.tmp 57) (.tmp 62) (.const (.bool false)) true (.bool true) (fun _ => rfl) rfl rfl rfl ?_
      refine wl_mv (.tmp 63) (.bool true) (fun _ => rfl) rfl rfl ?_
      refine w_nil ?_
      refine xn_then ?_
      refine w_ret ?_
      exact w_ret1 _ (.bool true) rfl rfl ⟨rfl, M⟩
    | false =>
      refine wl_un (fun v => Op.unary .not v) (.tmp 12) (.bool false) (.bool true) (fun _ => rfl) rfl (by kernel_rfl) rfl ?_
      refine wl_mv (.tmp 13) (.bool true) (fun _ => rfl) rfl rfl ?_
      refine wl_skip rfl ?_
      refine wl_skip rfl ?_
      refine wl_pick (.tmp 14) (.const (.bool true)) (.tmp 16) true (.bool true) (fun _ => rfl) rfl rfl rfl ?_
      refine w_nil ?_
      refine xn_then ?_
      refine w_condT rfl ?_
      refine w_seq ?_
      refine w_reg ?_
      refine wl_callx 9 [] _ [] rfl rfl (fun _ _ => by kernel_rfl) (live_n _) rfl ?_
      rintro e9 u2 ⟨rfl, hq⟩
      refine ⟨_, rfl, ?_⟩
      replace M := M.trans hq
      clear hq
      refine wl_mv (.tmp 18) (.bool true) (fun _ => rfl) rfl rfl ?_
      refine w_nil ?_
      refine xn_then ?_
      refine w_ret ?_
      refine xr_then ?_
      exact w_ret1 _ (.bool true) rfl rfl ⟨rfl, M⟩
  · skip
    refine w_enter 64 Try.func4 Try.ntmps4 rfl rfl ?_
    have M : Mo w w := Mo.refl _
    refine w_seq ?_
    refine w_reg ?_
    refine wl_mv (.const (.bool false)) (.bool false) (fun _ => rfl) rfl rfl ?_
    refine w_nil ?_
    refine xn_then ?_
    refine w_seq ?_
    refine w_seq ?_
    refine w_reg ?_
    refine wl_mv (.tmp 0) (.slice pl l.length cl) (fun _ => rfl) rfl rfl ?_
    refine wl_callx 8 [(.tmp 11)] _ [.slice pl l.length cl] rfl rfl (fun _ _ => by kernel_rfl) (small_n (hL.kp M.kp) (fun x hx => (hLx x hx).kp M.kp) hcl hci) rfl ?_
    rintro e9 u1 ⟨bs, rfl, hq⟩
    refine ⟨_, rfl, ?_⟩
    replace M := M.trans hq
    clear hq
    cases bs with
    | true =>
      refine wl_un (fun v => Op.unary .not v) (.tmp 12) (.bool true) (.bool false) (fun _ => rfl) rfl (by kernel_rfl) rfl ?_
      refine wl_mv (.tmp 13) (.bool false) (fun _ => rfl) rfl rfl ?_
      refine wl_callx 9 [] _ [] rfl rfl (fun _ _ => by kernel_rfl) (live_n _) rfl ?_
      rintro e9 u2 ⟨rfl, hq⟩
      refine ⟨_, rfl, ?_⟩
      replace M := M.trans hq
      clear hq
      refine wl_un (fun v => Op.unary .not v) (.tmp 15) (.bool true) (.bool false) (fun _ => rfl) rfl (by kernel_rfl) rfl ?_
      refine wl_pick (.tmp 14) (.const (.bool true)) (.tmp 16) false (.bool false) (fun _ => rfl) rfl rfl rfl ?_
      refine w_nil ?_
      refine xn_then ?_
      refine w_condF rfl ?_
      refine w_skip ?_
      refine xn_then ?_
      refine w_seq ?_
      refine w_reg ?_
      refine wl_mv (.tmp 0) (.slice pl l.length cl) (fun _ => rfl) rfl rfl ?_
      refine wl_callx 21 [(.tmp 20)] _ [.slice pl l.length cl] rfl rfl (fun _ _ => by kernel_rfl) ((ranks_ok (hL.kp M.kp) (fun x hx => (hLx x hx).kp M.kp) hz hzI hnd hN)) rfl ?_
      rintro e9 u3 ⟨ka, rs, hrl, hrs, rfl, hOa, hka, hq⟩
      refine ⟨_, rfl, ?_⟩
      rw [← hrl]
      have hA := (Li.ob hOa (by unfold maxLen; omega)).sl
      replace M := M.trans hq
      clear hq
      refine wl_mv (.tmp 21) (.tuple #[.slice (some ⟨ka, 0, none⟩) rs.length rs.length, .int .i64 (0)]) (fun _ => rfl) rfl rfl ?_
      refine wl_un (fun v => Instr.extract v 0) (.tmp 19) (.tuple #[.slice (some ⟨ka, 0, none⟩) rs.length rs.length, .int .i64 (0)]) (.slice (some ⟨ka, 0, none⟩) rs.length rs.length) (fun _ => rfl) rfl (by kernel_rfl) rfl ?_
      refine wl_un (fun v => Instr.extract v 1) (.tmp 19) (.tuple #[.slice (some ⟨ka, 0, none⟩) rs.length rs.length, .int .i64 (0)]) (.int .i64 (0)) (fun _ => rfl) rfl (by kernel_rfl) rfl ?_
      refine wl_mv (.tmp 22) (.slice (some ⟨ka, 0, none⟩) rs.length rs.length) (fun _ => rfl) rfl rfl ?_
      refine wl_mv (.tmp 23) (.int .i64 (0)) (fun _ => rfl) rfl rfl ?_
      refine w_nil ?_
      refine xn_then ?_
      refine w_seq ?_
      refine w_reg ?_
      refine wl_mv (.tmp 0) (.slice pl l.length cl) (fun _ => rfl) rfl rfl ?_
      refine wl_callx 22 [(.tmp 25)] _ [.slice pl l.length cl] rfl rfl (fun _ _ => by kernel_rfl) ((ranks22_ok (hL.kp M.kp) hz hzI (fun m q => h16 (M.trans m) q) hN)) rfl ?_
      rintro e9 u4 ⟨kb, rs2, hrl2, hrs2, rfl, hOb, hkb, hq⟩
      refine ⟨_, rfl, ?_⟩
      have hrr := rs_one (hrl.trans hrl2.symm) hrs hrs2
      subst hrr
      have hB := (Li.ob hOb (by unfold maxLen; omega)).sl
      replace hA := hA.kp hq.kp
      replace M := M.trans hq
      clear hq
      refine wl_mv (.tmp 26) (.tuple #[.slice (some ⟨kb, 0, none⟩) rs.length rs.length, .int .i64 (0)]) (fun _ => rfl) rfl rfl ?_
      refine wl_un (fun v => Instr.extract v 0) (.tmp 24) (.tuple #[.slice (some ⟨kb, 0, none⟩) rs.length rs.length, .int .i64 (0)]) (.slice (some ⟨kb, 0, none⟩) rs.length rs.length) (fun _ => rfl) rfl (by kernel_rfl) rfl ?_
      refine wl_un (fun v => Instr.extract v 1) (.tmp 24) (.tuple #[.slice (some ⟨kb, 0, none⟩) rs.length rs.length, .int .i64 (0)]) (.int .i64 (0)) (fun _ => rfl) rfl (by kernel_rfl) rfl ?_
      refine wl_mv (.tmp 27) (.slice (some ⟨kb, 0, none⟩) rs.length rs.length) (fun _ => rfl) rfl rfl ?_
      refine wl_mv (.tmp 28) (.int .i64 (0)) (fun _ => rfl) rfl rfl ?_
      refine w_nil ?_
      refine xn_then ?_
      refine w_seq ?_
      refine w_reg ?_
      refine wl_mv (.tmp 0) (.slice pl l.length cl) (fun _ => rfl) rfl rfl ?_
      refine wl_callx 23 [(.tmp 30)] _ [.slice pl l.length cl] rfl rfl (fun _ _ => by kernel_rfl) ((order_ok (hL.kp M.kp) (fun x hx => (hLx x hx).kp M.kp) hz hzI hnd hN)) rfl ?_
      rintro e9 u5 ⟨kc, rs3, L, hrl3, hrs3, hp3, hw3, rfl, hOc, hkc, hq⟩
      refine ⟨_, rfl, ?_⟩
      have hrr := rs_one (hrl.trans hrl3.symm) hrs hrs3
      subst hrr
      have hLl : L.length = rs.length := by have := hp3.length_eq; simpa using this
      have hC := (Li.ob hOc (by unfold maxLen; omega)).sl
      replace hA := hA.kp hq.kp
      replace hB := hB.kp hq.kp
      replace M := M.trans hq
      clear hq
      refine wl_mv (.tmp 31) (.tuple #[.slice (some ⟨kc, 0, none⟩) rs.length rs.length, .int .i64 (0)]) (fun _ => rfl) rfl rfl ?_
      refine wl_un (fun v => Instr.extract v 0) (.tmp 29) (.tuple #[.slice (some ⟨kc, 0, none⟩) rs.length rs.length, .int .i64 (0)]) (.slice (some ⟨kc, 0, none⟩) rs.length rs.length) (fun _ => rfl) rfl (by kernel_rfl) rfl ?_
      refine wl_un (fun v => Instr.extract v 1) (.tmp 29) (.tuple #[.slice (some ⟨kc, 0, none⟩) rs.length rs.length, .int .i64 (0)]) (.int .i64 (0)) (fun _ => rfl) rfl (by kernel_rfl) rfl ?_
      refine wl_mv (.tmp 32) (.slice (some ⟨kc, 0, none⟩) rs.length rs.length) (fun _ => rfl) rfl rfl ?_
      refine wl_mv (.tmp 33) (.int .i64 (0)) (fun _ => rfl) rfl rfl ?_
      refine w_nil ?_
      refine xn_then ?_
      refine w_seq ?_
      refine w_reg ?_
      refine wl_mv (.tmp 0) (.slice pl l.length cl) (fun _ => rfl) rfl rfl ?_
      refine wl_callx 24 [(.tmp 35)] _ [.slice pl l.length cl] rfl rfl (fun _ _ => by kernel_rfl) ((order24_ok (hL.kp M.kp) hz hzI (fun m q => h16 (M.trans m) q) hN)) rfl ?_
      rintro e9 u6 ⟨rs4, L4, pd, cd, hrl4, hrs4, hp4, hw4, rfl, hOd, hq⟩
      refine ⟨_, rfl, ?_⟩
      have hrr := rs_one (hrl.trans hrl4.symm) hrs hrs4
      subst hrr
      have hLL := pw_one L L4 hw3 hw4 (fun x => hp3.mem_iff.trans hp4.mem_iff.symm)
      subst hLL
      rw [hLl]
      have hD := (Li.own hOd (by unfold maxLen; omega)).sl
      replace hA := hA.kp hq.kp
      replace hB := hB.kp hq.kp
      replace hC := hC.kp hq.kp
      replace M := M.trans hq
      clear hq
      refine wl_mv (.tmp 36) (.tuple #[.slice pd rs.length cd, .int .i64 (0)]) (fun _ => rfl) rfl rfl ?_
      refine wl_un (fun v => Instr.extract v 0) (.tmp 34) (.tuple #[.slice pd rs.length cd, .int .i64 (0)]) (.slice pd rs.length cd) (fun _ => rfl) rfl (by kernel_rfl) rfl ?_
      refine wl_un (fun v => Instr.extract v 1) (.tmp 34) (.tuple #[.slice pd rs.length cd, .int .i64 (0)]) (.int .i64 (0)) (fun _ => rfl) rfl (by kernel_rfl) rfl ?_
      refine wl_mv (.tmp 37) (.slice pd rs.length cd) (fun _ => rfl) rfl rfl ?_
      refine wl_mv (.tmp 38) (.int .i64 (0)) (fun _ => rfl) rfl rfl ?_
      refine w_nil ?_
      refine xn_then ?_
      refine w_seq ?_
      refine w_reg ?_
      refine wl_mv (.tmp 4) (.int .i64 (0)) (fun _ => rfl) rfl rfl ?_
      refine wl_mv (.tmp 6) (.int .i64 (0)) (fun _ => rfl) rfl rfl ?_
      refine wl_bin (fun x y => do eqGuard .eql 35 (.tmp 39) (.tmp 40) x y; binOp .eql 35 x y) (.tmp 39) (.tmp 40) (.int .i64 (0)) (.int .i64 (0)) (.bool true) (fun _ => rfl) rfl rfl (eq34 (r := true) rfl _ _ _) rfl ?_
      refine wl_mv (.tmp 41) (.bool true) (fun _ => rfl) rfl rfl ?_
      refine wl_mv (.tmp 8) (.int .i64 (0)) (fun _ => rfl) rfl rfl ?_
      refine wl_mv (.tmp 10) (.int .i64 (0)) (fun _ => rfl) rfl rfl ?_
      refine wl_bin (fun x y => do eqGuard .eql 35 (.tmp 43) (.tmp 44) x y; binOp .eql 35 x y) (.tmp 43) (.tmp 44) (.int .i64 (0)) (.int .i64 (0)) (.bool true) (fun _ => rfl) rfl rfl (eq34 (r := true) rfl _ _ _) rfl ?_
      refine wl_pick (.tmp 42) (.tmp 45) (.const (.bool false)) true (.bool true) (fun _ => rfl) rfl rfl rfl ?_
      refine wl_mv (.tmp 46) (.bool true) (fun _ => rfl) rfl rfl ?_
      refine wl_mv (.tmp 3) (.slice (some ⟨ka, 0, none⟩) rs.length rs.length) (fun _ => rfl) rfl rfl ?_
      refine wl_mv (.tmp 5) (.slice (some ⟨kb, 0, none⟩) rs.length rs.length) (fun _ => rfl) rfl rfl ?_
      refine wl_callx 14 [(.tmp 48), (.tmp 49)] _ [.slice (some ⟨ka, 0, none⟩) rs.length rs.length, .slice (some ⟨kb, 0, none⟩) rs.length rs.length] rfl rfl (fun _ _ => by kernel_rfl) ((equal_t hA hB _ _ rfl)) rfl ?_
      rintro e9 u7 ⟨rfl, hq⟩
      refine ⟨_, rfl, ?_⟩
      replace hA := hA.kp hq.kp
      replace hB := hB.kp hq.kp
      replace hC := hC.kp hq.kp
      replace hD := hD.kp hq.kp
      replace M := M.trans hq
      clear hq
      refine wl_pick (.tmp 47) (.tmp 50) (.const (.bool false)) true (.bool true) (fun _ => rfl) rfl rfl rfl ?_
      refine wl_mv (.tmp 51) (.bool true) (fun _ => rfl) rfl rfl ?_
      refine wl_mv (.tmp 7) (.slice (some ⟨kc, 0, none⟩) rs.length rs.length) (fun _ => rfl) rfl rfl ?_
      refine wl_mv (.tmp 9) (.slice pd rs.length cd) (fun _ => rfl) rfl rfl ?_
      refine wl_callx 14 [(.tmp 53), (.tmp 54)] _ [.slice (some ⟨kc, 0, none⟩) rs.length rs.length, .slice pd rs.length cd] rfl rfl (fun _ _ => by kernel_rfl) ((by have h9 := equal_t hC hD rs.length cd rfl; rw [hLl] at h9; exact h9)) rfl ?_
      rintro e9 u8 ⟨rfl, hq⟩
      refine ⟨_, rfl, ?_⟩
      replace hA := hA.kp hq.kp
      replace hB := hB.kp hq.kp
      replace hC := hC.kp hq.kp
      replace hD := hD.kp hq.kp
      replace M := M.trans hq
      clear hq
      refine wl_pick (.tmp 52) (.tmp 55) (.const (.bool false)) true (.bool true) (fun _ => rfl) rfl rfl rfl ?_
      refine wl_mv (.tmp 56) (.bool true) (fun _ => rfl) rfl rfl ?_
      refine wl_mv (.tmp 0) (.slice pl l.length cl) (fun _ => rfl) rfl rfl ?_
      refine wl_callx 25 [(.tmp 58)] _ [.slice pl l.length cl] rfl rfl (fun _ _ => by kernel_rfl) ((stuck_n (hL.kp M.kp) (fun x hx => (hLx x hx).kp M.kp) hz hzI hnd)) rfl ?_
      rintro e9 u9 ⟨p, p1, c1, hp, rfl, hO1, hq⟩
      refine ⟨_, rfl, ?_⟩
      have hS1 := (Li.own hO1 (by have := ris_len (nI l) p; unfold maxLen; omega)).sl
      replace hA := hA.kp hq.kp
      replace hB := hB.kp hq.kp
      replace hC := hC.kp hq.kp
      replace hD := hD.kp hq.kp
      replace M := M.trans hq
      clear hq
      refine wl_mv (.tmp 0) (.slice pl l.length cl) (fun _ => rfl) rfl rfl ?_
      refine wl_callx 26 [(.tmp 60)] _ [.slice pl l.length cl] rfl rfl (fun _ _ => by kernel_rfl) ((stuck26_n (hL.kp M.kp) hz hzI (fun m q => h16 (M.trans m) q))) rfl ?_
      rintro e9 u10 ⟨p9, p2, c2, hp9, rfl, hO2, hq⟩
      refine ⟨_, rfl, ?_⟩
      have hpe : ris (nI l) p = ris (nI l) p9 := ris_congr (fun k hk => by rw [Bool.eq_iff_iff, hp k hk, hp9 k hk])
      have hS2 := (Li.own hO2 (by have := ris_len (nI l) p9; unfold maxLen; omega)).sl
      replace hA := hA.kp hq.kp
      replace hB := hB.kp hq.kp
      replace hC := hC.kp hq.kp
      replace hD := hD.kp hq.kp
      replace hS1 := hS1.kp hq.kp
      replace M := M.trans hq
      clear hq
      refine wl_callx 14 [(.tmp 59), (.tmp 61)] _ [.slice p1 (ris (nI l) p).length c1, .slice p2 (ris (nI l) p9).length c2] rfl rfl (fun _ _ => by kernel_rfl) ((equal_t hS1 hS2 _ _ hpe)) rfl ?_
      rintro e9 u11 ⟨rfl, hq⟩
      refine ⟨_, rfl, ?_⟩
      replace hA := hA.kp hq.kp
      replace hB := hB.kp hq.kp
      replace hC := hC.kp hq.kp
      replace hD := hD.kp hq.kp
      replace hS1 := hS1.kp hq.kp
      replace hS2 := hS2.kp hq.kp
      replace M := M.trans hq
      clear hq
      refine wl_pick (.tmp 57) (.tmp 62) (.const (.bool false)) true (.bool true) (fun _ => rfl) rfl rfl rfl ?_
      refine wl_mv (.tmp 63) (.bool true) (fun _ => rfl) rfl rfl ?_
      refine w_nil ?_
      refine xn_then ?_
      refine w_ret ?_
      exact w_ret1 _ (.bool true) rfl rfl ⟨rfl, M⟩
    | false =>
      refine wl_un (fun v => Op.unary .not v) (.tmp 12) (.bool false) (.bool true) (fun _ => rfl) rfl (by kernel_rfl) rfl ?_
      refine wl_mv (.tmp 13) (.bool true) (fun _ => rfl) rfl rfl ?_
      refine wl_skip rfl ?_
      refine wl_skip rfl ?_
      refine wl_pick (.tmp 14) (.const (.bool true)) (.tmp 16) true (.bool true) (fun _ => rfl) rfl rfl rfl ?_
      refine w_nil ?_
      refine xn_then ?_
      refine w_condT rfl ?_
      refine w_seq ?_
      refine w_reg ?_
      refine wl_callx 9 [] _ [] rfl rfl (fun _ _ => by kernel_rfl) (live_n _) rfl ?_
      rintro e9 u2 ⟨rfl, hq⟩
      refine ⟨_, rfl, ?_⟩
      replace M := M.trans hq
      clear hq
      refine wl_mv (.tmp 18) (.bool true) (fun _ => rfl) rfl rfl ?_
      refine w_nil ?_
      refine xn_then ?_
      refine w_ret ?_
      refine xr_then ?_
      exact w_ret1 _ (.bool true) rfl rfl ⟨rfl, M⟩
end Go.Proofs.Ythghblgbjgghcaa
