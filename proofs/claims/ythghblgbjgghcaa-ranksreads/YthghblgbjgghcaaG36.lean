/-
  The law of ranks (by what one reads).
-/
import Derived.Test.YthghblgbjgghcaaG35
namespace Go.Proofs.Ythghblgbjgghcaa
open Go.RowKit D
theorem equal_t {w : World} {p1 p2 : Option Addr} {L1 L2 : List Nat} (h1 : SL w 1 ic p1 L1) (h2 : SL w 1 ic p2 L2) (c1 c2 : Nat) (e : L1 = L2) : Calls Try.prog 14 #[.slice p1 L1.length c1, .slice p2 L2.length c2] w fun e w' => e = .returned (.bool true) ∧ Mo w w' := by
  have h := equal_n h1 h2 c1 c2
  rw [decide_eq_true e] at h; exact h
theorem rs_one {R : List (List Nat)} {rs rs' : List Nat} (hl : rs.length = rs'.length) (h : ∀ n r, rs[n]? = some r → RkS R n r) (h' : ∀ n r, rs'[n]? = some r → RkS R n r) : rs = rs' := by
  apply List.ext_getElem?
  intro n
  rcases Nat.lt_or_ge n rs.length with q | q
  · obtain ⟨a, ha⟩ := get_of_lt q
    obtain ⟨b, hb⟩ := get_of_lt (show n < rs'.length by omega)
    rw [ha, hb, (h n a ha).one (h' n b hb)]
  · rw [List.getElem?_eq_none q, List.getElem?_eq_none (by omega)]
theorem rkl_n {w : World} {l : List S5} {pl : Option Addr} {cl : Nat} (hL : SL w 5 S5.cells pl l) (hLx : ∀ x ∈ l, LS5 w x) (hz : l.length < 400000) (hzI : nI l < 400000) (hnd : ∀ y ∈ l, ∀ z ∈ y.items, nd z.ex ≤ 3000000) (hcl : l.length ≤ cl) (hci : ∀ x ∈ l, x.items.length ≤ x.ci) (h16 : ∀ {u : World} {m : Nat}, Mo w u → m < nI l → Calls Try.prog 16 #[.slice pl l.length cl, .int .i64 ((m : Nat) : Int)] u fun e w' => ∃ (pa : Option Addr) (cap : Nat), e = .returned (.slice pa (row (RA l) m).length cap) ∧ Li w' pa (row (RA l) m) ∧ Mo u w') : Calls Try.prog 4 #[.slice pl l.length cl] w fun e w' => e = .returned (.bool true) ∧ Mo w w' := by
  by_cases hN : ∃ n, n < nI l ∧ RkN (RA l) n
  · skip
    refine w_enter 64 Try.func4 Try.ntmps4 rfl rfl ?_
    have M : Mo w w := Mo.refl _
    refine w_seq ?_
    refine w_reg ?_
    refine wl_mv (.const (.bool false)) (.bool false) (fun _ => rfl) rfl rfl ?_
    refine w_nil ?_
    refine xn_then ?_
    refine w_seq ?_
    refine w_seq ?_
    refine w_reg ?_
    refine wl_mv (.tmp 0) (.slice pl l.length cl) (fun _ => rfl) rfl rfl ?_
    refine wl_callx 8 [(.tmp 11)] _ [.slice pl l.length cl] rfl rfl (fun _ _ => by kernel_rfl) (small_n (hL.kp M.kp) (fun x hx => (hLx x hx).kp M.kp) hcl hci) rfl ?_
    rintro e9 u1 ⟨bs, rfl, hq⟩
    refine ⟨_, rfl, ?_⟩
    replace M := M.trans hq
    clear hq
    cases bs with
    | true =>
      refine wl_un (fun v => Op.unary .not v) (.tmp 12) (.bool true) (.bool false) (fun _ => rfl) rfl (by kernel_rfl) rfl ?_
      refine wl_mv (.tmp 13) (.bool false) (fun _ => rfl) rfl rfl ?_
      refine wl_callx 9 [] _ [] rfl rfl (fun _ _ => by kernel_rfl) (live_n _) rfl ?_
      rintro e9 u2 ⟨rfl, hq⟩
      refine ⟨_, rfl, ?_⟩
      replace M := M.trans hq
      clear hq
      refine wl_un (fun v => Op.unary .not v) (.tmp 15) (.bool true) (.bool false) (fun _ => rfl) rfl (by kernel_rfl) rfl ?_
      refine wl_pick (.tmp 14) (.const (.bool true)) (.tmp 16) false (.bool false) (fun _ => rfl) rfl rfl rfl ?_
      refine w_nil ?_
      refine xn_then ?_
      refine w_condF rfl ?_
      refine w_skip ?_
      refine xn_then ?_
      refine w_seq ?_
      refine w_reg ?_
      refine wl_mv (.tmp 0) (.slice pl l.length cl) (fun _ => rfl) rfl rfl ?_
      refine wl_callx 21 [(.tmp 20)] _ [.slice pl l.length cl] rfl rfl (fun _ _ => by kernel_rfl) ((ranks_stuck (hL.kp M.kp) (fun x hx => (hLx x hx).kp M.kp) hz hzI hnd hN)) rfl ?_
      rintro e9 u3 ⟨rfl, hq⟩
      refine ⟨_, rfl, ?_⟩
      replace M := M.trans hq
      clear hq
      refine wl_mv (.tmp 21) (.tuple #[.slice none 0 0, .int .i64 (110)]) (fun _ => rfl) rfl rfl ?_
      refine wl_un (fun v => Instr.extract v 0) (.tmp 19) (.tuple #[.slice none 0 0, .int .i64 (110)]) (.slice none 0 0) (fun _ => rfl) rfl (by kernel_rfl) rfl ?_
      refine wl_un (fun v => Instr.extract v 1) (.tmp 19) (.tuple #[.slice none 0 0, .int .i64 (110)]) (.int .i64 (110)) (fun _ => rfl) rfl (by kernel_rfl) rfl ?_
      refine wl_mv (.tmp 22) (.slice none 0 0) (fun _ => rfl) rfl rfl ?_
      refine wl_mv (.tmp 23) (.int .i64 (110)) (fun _ => rfl) rfl rfl ?_
      refine w_nil ?_
      refine xn_then ?_
      refine w_seq ?_
      refine w_reg ?_
      refine wl_mv (.tmp 0) (.slice pl l.length cl) (fun _ => rfl) rfl rfl ?_
      refine wl_callx 22 [(.tmp 25)] _ [.slice pl l.length cl] rfl rfl (fun _ _ => by kernel_rfl) ((ranks22_stuck (hL.kp M.kp) hz hzI (fun m q => h16 (M.trans m) q) hN)) rfl ?_
      rintro e9 u4 ⟨rfl, hq⟩
      refine ⟨_, rfl, ?_⟩
      replace M := M.trans hq
      clear hq
      refine wl_mv (.tmp 26) (.tuple #[.slice none 0 0, .int .i64 (110)]) (fun _ => rfl) rfl rfl ?_
      refine wl_un (fun v => Instr.extract v 0) (.tmp 24) (.tuple #[.slice none 0 0, .int .i64 (110)]) (.slice none 0 0) (fun _ => rfl) rfl (by kernel_rfl) rfl ?_
      refine wl_un (fun v => Instr.extract v 1) (.tmp 24) (.tuple #[.slice none 0 0, .int .i64 (110)]) (.int .i64 (110)) (fun _ => rfl) rfl (by kernel_rfl) rfl ?_
      refine wl_mv (.tmp 27) (.slice none 0 0) (fun _ => rfl) rfl rfl ?_
      refine wl_mv (.tmp 28) (.int .i64 (110)) (fun _ => rfl) rfl rfl ?_
      refine w_nil ?_
      refine xn_then ?_
      refine w_seq ?_
      refine w_reg ?_
      refine wl_mv (.tmp 0) (.slice pl l.length cl) (fun _ => rfl) rfl rfl ?_
      refine wl_callx 23 [(.tmp 30)] _ [.slice pl l.length cl] rfl rfl (fun _ _ => by kernel_rfl) ((order_stuck (hL.kp M.kp) (fun x hx => (hLx x hx).kp M.kp) hz hzI hnd hN)) rfl ?_
      rintro e9 u5 ⟨rfl, hq⟩
      refine ⟨_, rfl, ?_⟩
      replace M := M.trans hq
      clear hq
      refine wl_mv (.tmp 31) (.tuple #[.slice none 0 0, .int .i64 (110)]) (fun _ => rfl) rfl rfl ?_
      refine wl_un (fun v => Instr.extract v 0) (.tmp 29) (.tuple #[.slice none 0 0, .int .i64 (110)]) (.slice none 0 0) (fun _ => rfl) rfl (by kernel_rfl) rfl ?_
      refine wl_un (fun v => Instr.extract v 1) (.tmp 29) (.tuple #[.slice none 0 0, .int .i64 (110)]) (.int .i64 (110)) (fun _ => rfl) rfl (by kernel_rfl) rfl ?_
      refine wl_mv (.tmp 32) (.slice none 0 0) (fun _ => rfl) rfl rfl ?_
      refine wl_mv (.tmp 33) (.int .i64 (110)) (fun _ => rfl) rfl rfl ?_
      refine w_nil ?_
      refine xn_then ?_
      refine w_seq ?_
      refine w_reg ?_
      refine wl_mv (.tmp 0) (.slice pl l.length cl) (fun _ => rfl) rfl rfl ?_
      refine wl_callx 24 [(.tmp 35)] _ [.slice pl l.length cl] rfl rfl (fun _ _ => by kernel_rfl) ((order24_stuck (hL.kp M.kp) hz hzI (fun m q => h16 (M.trans m) q) hN)) rfl ?_
      rintro e9 u6 ⟨rfl, hq⟩
      refine ⟨_, rfl, ?_⟩
      replace M := M.trans hq
      clear hq
      refine wl_mv (.tmp 36) (.tuple #[.slice none 0 0, .int .i64 (110)]) (fun _ => rfl) rfl rfl ?_
      refine wl_un (fun v => Instr.extract v 0) (.tmp 34) (.tuple #[.slice none 0 0, .int .i64 (110)]) (.slice none 0 0) (fun _ => rfl) rfl (by kernel_rfl) rfl ?_
      refine wl_un (fun v => Instr.extract v 1) (.tmp 34) (.tuple #[.slice none 0 0, .int .i64 (110)]) (.int .i64 (110)) (fun _ => rfl) rfl (by kernel_rfl) rfl ?_
      refine wl_mv (.tmp 37) (.slice none 0 0) (fun _ => rfl) rfl rfl ?_
      refine wl_mv (.tmp 38) (.int .i64 (110)) (fun _ => rfl) rfl rfl ?_
      refine w_nil ?_
      refine xn_then ?_
      refine w_seq ?_
      refine w_reg ?_
      refine wl_mv (.tmp 4) (.int .i64 (110)) (fun _ => rfl) rfl rfl ?_
      refine wl_mv (.tmp 6) (.int .i64 (110)) (fun _ => rfl) rfl rfl ?_
      refine wl_bin (fun x y => do eqGuard .eql 35 (.tmp 39) (.tmp 40) x y; binOp .eql 35 x y) (.tmp 39) (.tmp 40) (.int .i64 (110)) (.int .i64 (110)) (.bool true) (fun _ => rfl) rfl rfl (eq34 (r := true) rfl _ _ _) rfl ?_
      refine wl_mv (.tmp 41) (.bool true) (fun _ => rfl) rfl rfl ?_
      refine wl_mv (.tmp 8) (.int .i64 (110)) (fun _ => rfl) rfl rfl ?_
      refine wl_mv (.tmp 10) (.int .i64 (110)) (fun _ => rfl) rfl rfl ?_
      refine wl_bin (fun x y => do eqGuard .eql 35 (.tmp 43) (.tmp 44) x y; binOp .eql 35 x y) (.tmp 43) (.tmp 44) (.int .i64 (110)) (.int .i64 (110)) (.bool true) (fun _ => rfl) rfl rfl (eq34 (r := true) rfl _ _ _) rfl ?_
      refine wl_pick (.tmp 42) (.tmp 45) (.const (.bool false)) true (.bool true) (fun _ => rfl) rfl rfl rfl ?_
      refine wl_mv (.tmp 46) (.bool true) (fun _ => rfl) rfl rfl ?_
      refine wl_mv (.tmp 3) (.slice none 0 0) (fun _ => rfl) rfl rfl ?_
      refine wl_mv (.tmp 5) (.slice none 0 0) (fun _ => rfl) rfl rfl ?_
      refine wl_callx 14 [(.tmp 48), (.tmp 49)] _ [.slice none 0 0, .slice none 0 0] rfl rfl (fun _ _ => by kernel_rfl) ((equal_t (L1 := []) (L2 := []) (⟨Nat.zero_le _, fun i o e => by simp at e⟩) (⟨Nat.zero_le _, fun i o e => by simp at e⟩) 0 0 rfl)) rfl ?_
      rintro e9 u7 ⟨rfl, hq⟩
      refine ⟨_, rfl, ?_⟩
      replace M := M.trans hq
      clear hq
      refine wl_pick (.tmp 47) (.tmp 50) (.const (.bool false)) true (.bool true) (fun _ => rfl) rfl rfl rfl ?_
      refine wl_mv (.tmp 51) (.bool true) (fun _ => rfl) rfl rfl ?_
      refine wl_mv (.tmp 7) (.slice none 0 0) (fun _ => rfl) rfl rfl ?_
      refine wl_mv (.tmp 9) (.slice none 0 0) (fun _ => rfl) rfl rfl ?_
      refine wl_callx 14 [(.tmp 53), (.tmp 54)] _ [.slice none 0 0, .slice none 0 0] rfl rfl (fun _ _ => by kernel_rfl) ((equal_t (L1 := []) (L2 := []) (⟨Nat.zero_le _, fun i o e => by simp at e⟩) (⟨Nat.zero_le _, fun i o e => by simp at e⟩) 0 0 rfl)) rfl ?_
      rintro e9 u8 ⟨rfl, hq⟩
      refine ⟨_, rfl, ?_⟩
      replace M := M.trans hq
      clear hq
      refine wl_pick (.tmp 52) (.tmp 55) (.const (.bool false)) true (.bool true) (fun _ => rfl) rfl rfl rfl ?_
      refine wl_mv (.tmp 56) (.bool true) (fun _ => rfl) rfl rfl ?_
      refine wl_mv (.tmp 0) (.slice pl l.length cl) (fun _ => rfl) rfl rfl ?_
      refine wl_callx 25 [(.tmp 58)] _ [.slice pl l.length cl] rfl rfl (fun _ _ => by kernel_rfl) ((stuck_n (hL.kp M.kp) (fun x hx => (hLx x hx).kp M.kp) hz hzI hnd)) rfl ?_
      rintro e9 u9 ⟨p, p1, c1, hp, rfl, hO1, hq⟩
      refine ⟨_, rfl, ?_⟩
      have hS1 := (Li.own hO1 (by have := ris_len (nI l) p; unfold maxLen; omega)).sl
      replace M := M.trans hq
      clear hq
      refine wl_mv (.tmp 0) (.slice pl l.length cl) (fun _ => rfl) rfl rfl ?_
      refine wl_callx 26 [(.tmp 60)] _ [.slice pl l.length cl] rfl rfl (fun _ _ => by kernel_rfl) ((stuck26_n (hL.kp M.kp) hz hzI (fun m q => h16 (M.trans m) q))) rfl ?_
      rintro e9 u10 ⟨p9, p2, c2, hp9, rfl, hO2, hq⟩
      refine ⟨_, rfl, ?_⟩
      have hpe : ris (nI l) p = ris (nI l) p9 := ris_congr (fun k hk => by rw [Bool.eq_iff_iff, hp k hk, hp9 k hk])
      have hS2 := (Li.own hO2 (by have := ris_len (nI l) p9; unfold maxLen; omega)).sl
      replace hS1 := hS1.kp hq.kp
      replace M := M.trans hq
      clear hq
      refine wl_callx 14 [(.tmp 59), (.tmp 61)] _ [.slice p1 (ris (nI l) p).length c1, .slice p2 (ris (nI l) p9).length c2] rfl rfl (fun _ _ => by kernel_rfl) ((equal_t hS1 hS2 _ _ hpe)) rfl ?_
      rintro e9 u11 ⟨rfl, hq⟩
      refine ⟨_, rfl, ?_⟩
      replace hS1 := hS1.kp hq.kp
      replace hS2 := hS2.kp hq.kp
      replace M := M.trans hq
      clear hq
      refine wl_pick (.tmp 57) (.tmp 62) (.const (.bool false)) true (.bool true) (fun _ => rfl) rfl rfl rfl ?_
      refine wl_mv (.tmp 63) (.bool true) (fun _ => rfl) rfl rfl ?_
      refine w_nil ?_
      refine xn_then ?_
      refine w_ret ?_
      exact w_ret1 _ (.bool true) rfl rfl ⟨rfl, M⟩
    | false =>
      refine wl_un (fun v => Op.unary .not v) (.tmp 12) (.bool false) (.bool true) (fun _ => rfl) rfl (by kernel_rfl) rfl ?_
      refine wl_mv (.tmp 13) (.bool true) (fun _ => rfl) rfl rfl ?_
      refine wl_skip rfl ?_
      refine wl_skip rfl ?_
      refine wl_pick (.tmp 14) (.const (.bool true)) (.tmp 16) true (.bool true) (fun _ => rfl) rfl rfl rfl ?_
      refine w_nil ?_
      refine xn_then ?_
      refine w_condT rfl ?_
      refine w_seq ?_
      refine w_reg ?_
      refine wl_callx 9 [] _ [] rfl rfl (fun _ _ => by kernel_rfl) (live_n _) rfl ?_
      rintro e9 u2 ⟨rfl, hq⟩
      refine ⟨_, rfl, ?_⟩
      replace M := M.trans hq
      clear hq
      refine wl_mv (.tmp 18) (.bool true) (fun _ => rfl) rfl rfl ?_
      refine w_nil ?_
      refine xn_then ?_
      refine w_ret ?_
      refine xr_then ?_
      exact w_ret1 _ (.bool true) rfl rfl ⟨rfl, M⟩
  · skip
    refine w_enter 64 Try.func4 Try.ntmps4 rfl rfl ?_
    have M : Mo w w := Mo.refl _
    refine w_seq ?_
    refine w_reg ?_
    refine wl_mv (.const (.bool false)) (.bool false) (fun _ => rfl) rfl rfl ?_
    refine w_nil ?_
    refine xn_then ?_
    refine w_seq ?_
    refine w_seq ?_
    refine w_reg ?_
    refine wl_mv (.tmp 0) (.slice pl l.length cl) (fun _ => rfl) rfl rfl ?_
    refine wl_callx 8 [(.tmp 11)] _ [.slice pl l.length cl] rfl rfl (fun _ _ => by kernel_rfl) (small_n (hL.kp M.kp) (fun x hx => (hLx x hx).kp M.kp) hcl hci) rfl ?_
    rintro e9 u1 ⟨bs, rfl, hq⟩
    refine ⟨_, rfl, ?_⟩
    replace M := M.trans hq
    clear hq
    cases bs with
    | true =>
      refine wl_un (fun v => Op.unary .not v) (.tmp 12) (.bool true) (.bool false) (fun _ => rfl) rfl (by kernel_rfl) rfl ?_
      refine wl_mv (.tmp 13) (.bool false) (fun _ => rfl) rfl rfl ?_
      refine wl_callx 9 [] _ [] rfl rfl (fun _ _ => by kernel_rfl) (live_n _) rfl ?_
      rintro e9 u2 ⟨rfl, hq⟩
      refine ⟨_, rfl, ?_⟩
      replace M := M.trans hq
      clear hq
      refine wl_un (fun v => Op.unary .not v) (.tmp 15) (.bool true) (.bool false) (fun _ => rfl) rfl (by kernel_rfl) rfl ?_
      refine wl_pick (.tmp 14) (.const (.bool true)) (.tmp 16) false (.bool false) (fun _ => rfl) rfl rfl rfl ?_
      refine w_nil ?_
      refine xn_then ?_
      refine w_condF rfl ?_
      refine w_skip ?_
      refine xn_then ?_
      refine w_seq ?_
      refine w_reg ?_
      refine wl_mv (.tmp 0) (.slice pl l.length cl) (fun _ => rfl) rfl rfl ?_
      refine wl_callx 21 [(.tmp 20)] _ [.slice pl l.length cl] rfl rfl (fun _ _ => by kernel_rfl) ((ranks_ok (hL.kp M.kp) (fun x hx => (hLx x hx).kp M.kp) hz hzI hnd hN)) rfl ?_
      rintro e9 u3 ⟨ka, rs, hrl, hrs, rfl, hOa, hka, hq⟩
      refine ⟨_, rfl, ?_⟩
      rw [← hrl]
      have hA := (Li.ob hOa (by unfold maxLen; omega)).sl
      replace M := M.trans hq
      clear hq
      refine wl_mv (.tmp 21) (.tuple #[.slice (some ⟨ka, 0, none⟩) rs.length rs.length, .int .i64 (0)]) (fun _ => rfl) rfl rfl ?_
      refine wl_un (fun v => Instr.extract v 0) (.tmp 19) (.tuple #[.slice (some ⟨ka, 0, none⟩) rs.length rs.length, .int .i64 (0)]) (.slice (some ⟨ka, 0, none⟩) rs.length rs.length) (fun _ => rfl) rfl (by kernel_rfl) rfl ?_
      refine wl_un (fun v => Instr.extract v 1) (.tmp 19) (.tuple #[.slice (some ⟨ka, 0, none⟩) rs.length rs.length, .int .i64 (0)]) (.int .i64 (0)) (fun _ => rfl) rfl (by kernel_rfl) rfl ?_
      refine wl_mv (.tmp 22) (.slice (some ⟨ka, 0, none⟩) rs.length rs.length) (fun _ => rfl) rfl rfl ?_
      refine wl_mv (.tmp 23) (.int .i64 (0)) (fun _ => rfl) rfl rfl ?_
      refine w_nil ?_
      refine xn_then ?_
      refine w_seq ?_
      refine w_reg ?_
      refine wl_mv (.tmp 0) (.slice pl l.length cl) (fun _ => rfl) rfl rfl ?_
      refine wl_callx 22 [(.tmp 25)] _ [.slice pl l.length cl] rfl rfl (fun _ _ => by kernel_rfl) ((ranks22_ok (hL.kp M.kp) hz hzI (fun m q => h16 (M.trans m) q) hN)) rfl ?_
      rintro e9 u4 ⟨kb, rs2, hrl2, hrs2, rfl, hOb, hkb, hq⟩
      refine ⟨_, rfl, ?_⟩
      have hrr := rs_one (hrl.trans hrl2.symm) hrs hrs2
      subst hrr
      have hB := (Li.ob hOb (by unfold maxLen; omega)).sl
      replace hA := hA.kp hq.kp
      replace M := M.trans hq
      clear hq
      refine wl_mv (.tmp 26) (.tuple #[.slice (some ⟨kb, 0, none⟩) rs.length rs.length, .int .i64 (0)]) (fun _ => rfl) rfl rfl ?_
      refine wl_un (fun v => Instr.extract v 0) (.tmp 24) (.tuple #[.slice (some ⟨kb, 0, none⟩) rs.length rs.length, .int .i64 (0)]) (.slice (some ⟨kb, 0, none⟩) rs.length rs.length) (fun _ => rfl) rfl (by kernel_rfl) rfl ?_
      refine wl_un (fun v => Instr.extract v 1) (.tmp 24) (.tuple #[.slice (some ⟨kb, 0, none⟩) rs.length rs.length, .int .i64 (0)]) (.int .i64 (0)) (fun _ => rfl) rfl (by kernel_rfl) rfl ?_
      refine wl_mv (.tmp 27) (.slice (some ⟨kb, 0, none⟩) rs.length rs.length) (fun _ => rfl) rfl rfl ?_
      refine wl_mv (.tmp 28) (.int .i64 (0)) (fun _ => rfl) rfl rfl ?_
      refine w_nil ?_
      refine xn_then ?_
      refine w_seq ?_
      refine w_reg ?_
      refine wl_mv (.tmp 0) (.slice pl l.length cl) (fun _ => rfl) rfl rfl ?_
      refine wl_callx 23 [(.tmp 30)] _ [.slice pl l.length cl] rfl rfl (fun _ _ => by kernel_rfl) ((order_ok (hL.kp M.kp) (fun x hx => (hLx x hx).kp M.kp) hz hzI hnd hN)) rfl ?_
      rintro e9 u5 ⟨kc, rs3, L, hrl3, hrs3, hp3, hw3, rfl, hOc, hkc, hq⟩
      refine ⟨_, rfl, ?_⟩
      have hrr := rs_one (hrl.trans hrl3.symm) hrs hrs3
      subst hrr
      have hLl : L.length = rs.length := by have := hp3.length_eq; simpa using this
      have hC := (Li.ob hOc (by unfold maxLen; omega)).sl
      replace hA := hA.kp hq.kp
      replace hB := hB.kp hq.kp
      replace M := M.trans hq
      clear hq
      refine wl_mv (.tmp 31) (.tuple #[.slice (some ⟨kc, 0, none⟩) rs.length rs.length, .int .i64 (0)]) (fun _ => rfl) rfl rfl ?_
      refine wl_un (fun v => Instr.extract v 0) (.tmp 29) (.tuple #[.slice (some ⟨kc, 0, none⟩) rs.length rs.length, .int .i64 (0)]) (.slice (some ⟨kc, 0, none⟩) rs.length rs.length) (fun _ => rfl) rfl (by kernel_rfl) rfl ?_
      refine wl_un (fun v => Instr.extract v 1) (.tmp 29) (.tuple #[.slice (some ⟨kc, 0, none⟩) rs.length rs.length, .int .i64 (0)]) (.int .i64 (0)) (fun _ => rfl) rfl (by kernel_rfl) rfl ?_
      refine wl_mv (.tmp 32) (.slice (some ⟨kc, 0, none⟩) rs.length rs.length) (fun _ => rfl) rfl rfl ?_
      refine wl_mv (.tmp 33) (.int .i64 (0)) (fun _ => rfl) rfl rfl ?_
      refine w_nil ?_
      refine xn_then ?_
      refine w_seq ?_
      refine w_reg ?_
      refine wl_mv (.tmp 0) (.slice pl l.length cl) (fun _ => rfl) rfl rfl ?_
      refine wl_callx 24 [(.tmp 35)] _ [.slice pl l.length cl] rfl rfl (fun _ _ => by kernel_rfl) ((order24_ok (hL.kp M.kp) hz hzI (fun m q => h16 (M.trans m) q) hN)) rfl ?_
      rintro e9 u6 ⟨rs4, L4, pd, cd, hrl4, hrs4, hp4, hw4, rfl, hOd, hq⟩
      refine ⟨_, rfl, ?_⟩
      have hrr := rs_one (hrl.trans hrl4.symm) hrs hrs4
      subst hrr
      have hLL := pw_one L L4 hw3 hw4 (fun x => hp3.mem_iff.trans hp4.mem_iff.symm)
      subst hLL
      rw [hLl]
      have hD := (Li.own hOd (by unfold maxLen; omega)).sl
      replace hA := hA.kp hq.kp
      replace hB := hB.kp hq.kp
      replace hC := hC.kp hq.kp
      replace M := M.trans hq
      clear hq
      refine wl_mv (.tmp 36) (.tuple #[.slice pd rs.length cd, .int .i64 (0)]) (fun _ => rfl) rfl rfl ?_
      refine wl_un (fun v => Instr.extract v 0) (.tmp 34) (.tuple #[.slice pd rs.length cd, .int .i64 (0)]) (.slice pd rs.length cd) (fun _ => rfl) rfl (by kernel_rfl) rfl ?_
      refine wl_un (fun v => Instr.extract v 1) (.tmp 34) (.tuple #[.slice pd rs.length cd, .int .i64 (0)]) (.int .i64 (0)) (fun _ => rfl) rfl (by kernel_rfl) rfl ?_
      refine wl_mv (.tmp 37) (.slice pd rs.length cd) (fun _ => rfl) rfl rfl ?_
      refine wl_mv (.tmp 38) (.int .i64 (0)) (fun _ => rfl) rfl rfl ?_
      refine w_nil ?_
      refine xn_then ?_
      refine w_seq ?_
      refine w_reg ?_
      refine wl_mv (.tmp 4) (.int .i64 (0)) (fun _ => rfl) rfl rfl ?_
      refine wl_mv (.tmp 6) (.int .i64 (0)) (fun _ => rfl) rfl rfl ?_
      refine wl_bin (fun x y => do eqGuard .eql 35 (.tmp 39) (.tmp 40) x y; binOp .eql 35 x y) (.tmp 39) (.tmp 40) (.int .i64 (0)) (.int .i64 (0)) (.bool true) (fun _ => rfl) rfl rfl (eq34 (r := true) rfl _ _ _) rfl ?_
      refine wl_mv (.tmp 41) (.bool true) (fun _ => rfl) rfl rfl ?_
      refine wl_mv (.tmp 8) (.int .i64 (0)) (fun _ => rfl) rfl rfl ?_
      refine wl_mv (.tmp 10) (.int .i64 (0)) (fun _ => rfl) rfl rfl ?_
      refine wl_bin (fun x y => do eqGuard .eql 35 (.tmp 43) (.tmp 44) x y; binOp .eql 35 x y) (.tmp 43) (.tmp 44) (.int .i64 (0)) (.int .i64 (0)) (.bool true) (fun _ => rfl) rfl rfl (eq34 (r := true) rfl _ _ _) rfl ?_
      refine wl_pick (.tmp 42) (.tmp 45) (.const (.bool false)) true (.bool true) (fun _ => rfl) rfl rfl rfl ?_
      refine wl_mv (.tmp 46) (.bool true) (fun _ => rfl) rfl rfl ?_
      refine wl_mv (.tmp 3) (.slice (some ⟨ka, 0, none⟩) rs.length rs.length) (fun _ => rfl) rfl rfl ?_
      refine wl_mv (.tmp 5) (.slice (some ⟨kb, 0, none⟩) rs.length rs.length) (fun _ => rfl) rfl rfl ?_
      refine wl_callx 14 [(.tmp 48), (.tmp 49)] _ [.slice (some ⟨ka, 0, none⟩) rs.length rs.length, .slice (some ⟨kb, 0, none⟩) rs.length rs.length] rfl rfl (fun _ _ => by kernel_rfl) ((equal_t hA hB _ _ rfl)) rfl ?_
      rintro e9 u7 ⟨rfl, hq⟩
      refine ⟨_, rfl, ?_⟩
      replace hA := hA.kp hq.kp
      replace hB := hB.kp hq.kp
      replace hC := hC.kp hq.kp
      replace hD := hD.kp hq.kp
      replace M := M.trans hq
      clear hq
      refine wl_pick (.tmp 47) (.tmp 50) (.const (.bool false)) true (.bool true) (fun _ => rfl) rfl rfl rfl ?_
      refine wl_mv (.tmp 51) (.bool true) (fun _ => rfl) rfl rfl ?_
      refine wl_mv (.tmp 7) (.slice (some ⟨kc, 0, none⟩) rs.length rs.length) (fun _ => rfl) rfl rfl ?_
      refine wl_mv (.tmp 9) (.slice pd rs.length cd) (fun _ => rfl) rfl rfl ?_
      refine wl_callx 14 [(.tmp 53), (.tmp 54)] _ [.slice (some ⟨kc, 0, none⟩) rs.length rs.length, .slice pd rs.length cd] rfl rfl (fun _ _ => by kernel_rfl) ((by have h9 := equal_t hC hD rs.length cd rfl; rw [hLl] at h9; exact h9)) rfl ?_
      rintro e9 u8 ⟨rfl, hq⟩
      refine ⟨_, rfl, ?_⟩
      replace hA := hA.kp hq.kp
      replace hB := hB.kp hq.kp
      replace hC := hC.kp hq.kp
      replace hD := hD.kp hq.kp
      replace M := M.trans hq
      clear hq
      refine wl_pick (.tmp 52) (.tmp 55) (.const (.bool false)) true (.bool true) (fun _ => rfl) rfl rfl rfl ?_
      refine wl_mv (.tmp 56) (.bool true) (fun _ => rfl) rfl rfl ?_
      refine wl_mv (.tmp 0) (.slice pl l.length cl) (fun _ => rfl) rfl rfl ?_
      refine wl_callx 25 [(.tmp 58)] _ [.slice pl l.length cl] rfl rfl (fun _ _ => by kernel_rfl) ((stuck_n (hL.kp M.kp) (fun x hx => (hLx x hx).kp M.kp) hz hzI hnd)) rfl ?_
      rintro e9 u9 ⟨p, p1, c1, hp, rfl, hO1, hq⟩
      refine ⟨_, rfl, ?_⟩
      have hS1 := (Li.own hO1 (by have := ris_len (nI l) p; unfold maxLen; omega)).sl
      replace hA := hA.kp hq.kp
      replace hB := hB.kp hq.kp
      replace hC := hC.kp hq.kp
      replace hD := hD.kp hq.kp
      replace M := M.trans hq
      clear hq
      refine wl_mv (.tmp 0) (.slice pl l.length cl) (fun _ => rfl) rfl rfl ?_
      refine wl_callx 26 [(.tmp 60)] _ [.slice pl l.length cl] rfl rfl (fun _ _ => by kernel_rfl) ((stuck26_n (hL.kp M.kp) hz hzI (fun m q => h16 (M.trans m) q))) rfl ?_
      rintro e9 u10 ⟨p9, p2, c2, hp9, rfl, hO2, hq⟩
      refine ⟨_, rfl, ?_⟩
      have hpe : ris (nI l) p = ris (nI l) p9 := ris_congr (fun k hk => by rw [Bool.eq_iff_iff, hp k hk, hp9 k hk])
      have hS2 := (Li.own hO2 (by have := ris_len (nI l) p9; unfold maxLen; omega)).sl
      replace hA := hA.kp hq.kp
      replace hB := hB.kp hq.kp
      replace hC := hC.kp hq.kp
      replace hD := hD.kp hq.kp
      replace hS1 := hS1.kp hq.kp
      replace M := M.trans hq
      clear hq
      refine wl_callx 14 [(.tmp 59), (.tmp 61)] _ [.slice p1 (ris (nI l) p).length c1, .slice p2 (ris (nI l) p9).length c2] rfl rfl (fun _ _ => by kernel_rfl) ((equal_t hS1 hS2 _ _ hpe)) rfl ?_
      rintro e9 u11 ⟨rfl, hq⟩
      refine ⟨_, rfl, ?_⟩
      replace hA := hA.kp hq.kp
      replace hB := hB.kp hq.kp
      replace hC := hC.kp hq.kp
      replace hD := hD.kp hq.kp
      replace hS1 := hS1.kp hq.kp
      replace hS2 := hS2.kp hq.kp
      replace M := M.trans hq
      clear hq
      refine wl_pick (.tmp 57) (.tmp 62) (.const (.bool false)) true (.bool true) (fun _ => rfl) rfl rfl rfl ?_
      refine wl_mv (.tmp 63) (.bool true) (fun _ => rfl) rfl rfl ?_
      refine w_nil ?_
      refine xn_then ?_
      refine w_ret ?_
      exact w_ret1 _ (.bool true) rfl rfl ⟨rfl, M⟩
    | false =>
      refine wl_un (fun v => Op.unary .not v) (.tmp 12) (.bool false) (.bool true) (fun _ => rfl) rfl (by kernel_rfl) rfl ?_
      refine wl_mv (.tmp 13) (.bool true) (fun _ => rfl) rfl rfl ?_
      refine wl_skip rfl ?_
      refine wl_skip rfl ?_
      refine wl_pick (.tmp 14) (.const (.bool true)) (.tmp 16) true (.bool true) (fun _ => rfl) rfl rfl rfl ?_
      refine w_nil ?_
      refine xn_then ?_
      refine w_condT rfl ?_
      refine w_seq ?_
      refine w_reg ?_
      refine wl_callx 9 [] _ [] rfl rfl (fun _ _ => by kernel_rfl) (live_n _) rfl ?_
      rintro e9 u2 ⟨rfl, hq⟩
      refine ⟨_, rfl, ?_⟩
      replace M := M.trans hq
      clear hq
      refine wl_mv (.tmp 18) (.bool true) (fun _ => rfl) rfl rfl ?_
      refine w_nil ?_
      refine xn_then ?_
      refine w_ret ?_
      refine xr_then ?_
      exact w_ret1 _ (.bool true) rfl rfl ⟨rfl, M⟩
end Go.Proofs.Ythghblgbjgghcaa
