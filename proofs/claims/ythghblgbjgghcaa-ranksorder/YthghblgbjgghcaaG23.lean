/-
  The law of circles.
-/
import Derived.Test.YthghblgbjgghcaaG22
namespace Go.Proofs.Ythghblgbjgghcaa
open Go.RowKit D
theorem cyc_n {w : World} {l : List S5} {pl : Option Addr} {cl : Nat} (hL : SL w 5 S5.cells pl l) (hLx : ∀ x ∈ l, LS5 w x) (hz : l.length < 400000) (hzI : nI l < 400000) (hnd : ∀ y ∈ l, ∀ z ∈ y.items, nd z.ex ≤ 3000000) (hcl : l.length ≤ cl) (hci : ∀ x ∈ l, x.items.length ≤ x.ci) : Calls Try.prog 6 #[.slice pl l.length cl] w fun e w' => e = .returned (.bool true) ∧ Mo w w' := by
  by_cases hN : ∃ n, n < nI l ∧ RkN (RA l) n
  · skip
    refine w_enter 55 Try.func6 Try.ntmps6 rfl rfl ?_
    have M : Mo w w := Mo.refl _
    refine w_seq ?_
    refine w_reg ?_
    refine wl_mv (.const (.bool false)) (.bool false) (fun _ => rfl) rfl rfl ?_
    refine w_nil ?_
    refine xn_then ?_
    refine w_seq ?_
    refine w_seq ?_
    refine w_reg ?_
    refine wl_mv (.tmp 0) (.slice pl l.length cl) (fun _ => rfl) rfl rfl ?_
    refine wl_callx 8 [(.tmp 7)] _ [.slice pl l.length cl] rfl rfl (fun _ _ => by kernel_rfl) (small_n (hL.kp M.kp) (fun x hx => (hLx x hx).kp M.kp) hcl hci) rfl ?_
    rintro e9 u1 ⟨bs, rfl, hq⟩
    refine ⟨_, rfl, ?_⟩
    replace M := M.trans hq
    clear hq
    cases bs with
    | true =>
      refine wl_un (fun v => Op.unary .not v) (.tmp 8) (.bool true) (.bool false) (fun _ => rfl) rfl (by kernel_rfl) rfl ?_
      refine wl_mv (.tmp 9) (.bool false) (fun _ => rfl) rfl rfl ?_
      refine wl_callx 9 [] _ [] rfl rfl (fun _ _ => by kernel_rfl) (live_n _) rfl ?_
      rintro e9 u2 ⟨rfl, hq⟩
      refine ⟨_, rfl, ?_⟩
      replace M := M.trans hq
      clear hq
      refine wl_un (fun v => Op.unary .not v) (.tmp 11) (.bool true) (.bool false) (fun _ => rfl) rfl (by kernel_rfl) rfl ?_
      refine wl_pick (.tmp 10) (.const (.bool true)) (.tmp 12) false (.bool false) (fun _ => rfl) rfl rfl rfl ?_
      refine w_nil ?_
      refine xn_then ?_
      refine w_condF rfl ?_
      refine w_skip ?_
      refine xn_then ?_
      refine w_seq ?_
      refine w_reg ?_
      refine wl_mv (.tmp 0) (.slice pl l.length cl) (fun _ => rfl) rfl rfl ?_
      refine wl_callx 21 [(.tmp 16)] _ [.slice pl l.length cl] rfl rfl (fun _ _ => by kernel_rfl) (ranks_stuck (hL.kp M.kp) (fun x hx => (hLx x hx).kp M.kp) hz hzI hnd hN) rfl ?_
      rintro e9 u3 ⟨rfl, hq⟩
      refine ⟨_, rfl, ?_⟩
      replace M := M.trans hq
      clear hq
      refine wl_mv (.tmp 17) (.tuple #[.slice none 0 0, .int .i64 (110)]) (fun _ => rfl) rfl rfl ?_
      refine wl_un (fun v => Instr.extract v 0) (.tmp 15) (.tuple #[.slice none 0 0, .int .i64 (110)]) (.slice none 0 0) (fun _ => rfl) rfl (by kernel_rfl) rfl ?_
      refine wl_un (fun v => Instr.extract v 1) (.tmp 15) (.tuple #[.slice none 0 0, .int .i64 (110)]) (.int .i64 (110)) (fun _ => rfl) rfl (by kernel_rfl) rfl ?_
      refine wl_mv (.tmp 18) (.slice none 0 0) (fun _ => rfl) rfl rfl ?_
      refine wl_mv (.tmp 19) (.int .i64 (110)) (fun _ => rfl) rfl rfl ?_
      refine w_nil ?_
      refine xn_then ?_
      refine w_seq ?_
      refine w_reg ?_
      refine wl_mv (.const (.bool false)) (.bool false) (fun _ => rfl) rfl rfl ?_
      refine w_nil ?_
      refine xn_then ?_
      refine w_seq ?_
      refine w_seq ?_
      refine w_reg ?_
      refine wl_mv (.tmp 0) (.slice pl l.length cl) (fun _ => rfl) rfl rfl ?_
      refine wl_callx 28 [(.tmp 20)] _ [.slice pl l.length cl] rfl rfl (fun _ _ => by kernel_rfl) (many_n (hL.kp M.kp) hz hzI) rfl ?_
      rintro e9 u4 ⟨rfl, hq⟩
      refine ⟨_, rfl, ?_⟩
      replace M := M.trans hq
      clear hq
      refine wl_mv (.const (.int .i64 (0))) (.int .i64 (0)) (fun _ => rfl) rfl rfl ?_
      refine w_nil ?_
      refine xn_then ?_
      refine w_block ?_
      refine w_loop (fun m lf w1 => ∃ i : Nat, ∃ b : Bool, m = nI l - i ∧ look lf 0 = .slice pl l.length cl ∧ look lf 4 = .int .i64 (110) ∧ look lf 5 = .bool b ∧ look lf 21 = .int .i64 (((nI l) : Nat) : Int) ∧ look lf 22 = .int .i64 ((i : Nat) : Int) ∧ (i ≤ nI l) ∧ (b = true ↔ ∃ m, m < i ∧ Rch (RA l) m m) ∧ (Mo w w1)) _ ⟨0, false, rfl, rfl, rfl, rfl, rfl, rfl, Nat.zero_le _, ⟨fun h => Bool.noConfusion h, fun ⟨m, h, _⟩ => by omega⟩, M⟩ ?_
      clear M
      rintro m lf40 wl40 ⟨i, b, rfl, e40_0, e40_4, e40_5, e40_21, e40_22, hi, hb, M⟩
      cases hd : decide (i < (nI l)) with
      | true =>
        have hil := of_decide_eq_true hd
        cases b with
        | true =>
          refine w_seq ?_
          refine w_reg ?_
          refine wl_bin (fun x y => do eqGuard .lss 3 (.tmp 22) (.tmp 21) x y; binOp .lss 3 x y) (.tmp 22) (.tmp 21) (.int .i64 ((i : Nat) : Int)) (.int .i64 (((nI l) : Nat) : Int)) (.bool true) (fun _ => rfl) e40_22 e40_21 (ltN hd _ _ _) rfl ?_
          refine w_nil ?_
          refine xn_then ?_
          refine w_seq ?_
          refine w_condT rfl ?_
          refine w_skip ?_
          refine xn_then ?_
          refine w_seq ?_
          refine w_block ?_
          refine w_seq ?_
          refine w_reg ?_
          refine wl_mv (.tmp 22) (.int .i64 ((i : Nat) : Int)) (fun _ => rfl) e40_22 rfl ?_
          refine wl_mv (.tmp 24) (.int .i64 ((i : Nat) : Int)) (fun _ => rfl) rfl rfl ?_
          refine w_nil ?_
          refine xn_then ?_
          refine w_reg ?_
          refine wl_mv (.tmp 5) (.bool true) (fun _ => rfl) e40_5 rfl ?_
          refine wl_mv (.tmp 25) (.bool true) (fun _ => rfl) rfl rfl ?_
          refine wl_skip rfl ?_
          refine wl_skip rfl ?_
          refine wl_skip rfl ?_
          refine wl_skip rfl ?_
          refine wl_skip rfl ?_
          refine wl_pick (.tmp 26) (.const (.bool true)) (.tmp 31) true (.bool true) (fun _ => rfl) rfl rfl rfl ?_
          refine wl_mv (.tmp 32) (.bool true) (fun _ => rfl) rfl rfl ?_
          refine w_nil ?_
          refine xn_blk ?_
          refine xn_then ?_
          refine w_reg ?_
          refine wl_bin (fun x y => do eqGuard .add 3 (.tmp 22) (.const (.int .i64 (1))) x y; binOp .add 3 x y) (.tmp 22) (.const (.int .i64 (1))) (.int .i64 ((i : Nat) : Int)) (.int .i64 (1)) (.int .i64 ((i + 1 : Nat) : Int)) (fun _ => rfl) e40_22 rfl (add1r (k := i) (by omega) _ _ _) rfl ?_
          refine wl_mv (.tmp 33) (.int .i64 ((i + 1 : Nat) : Int)) (fun _ => rfl) rfl rfl ?_
          refine w_nil ?_
          exact xn_loop (nI l - (i + 1)) (by omega) ⟨i + 1, true, rfl, e40_0, e40_4, rfl, e40_21, rfl, by omega, ⟨fun _ => by obtain ⟨m, h1, h2⟩ := hb.1 rfl; exact ⟨m, by omega, h2⟩, fun _ => rfl⟩, M⟩
        | false =>
          refine w_seq ?_
          refine w_reg ?_
          refine wl_bin (fun x y => do eqGuard .lss 3 (.tmp 22) (.tmp 21) x y; binOp .lss 3 x y) (.tmp 22) (.tmp 21) (.int .i64 ((i : Nat) : Int)) (.int .i64 (((nI l) : Nat) : Int)) (.bool true) (fun _ => rfl) e40_22 e40_21 (ltN hd _ _ _) rfl ?_
          refine w_nil ?_
          refine xn_then ?_
          refine w_seq ?_
          refine w_condT rfl ?_
          refine w_skip ?_
          refine xn_then ?_
          refine w_seq ?_
          refine w_block ?_
          refine w_seq ?_
          refine w_reg ?_
          refine wl_mv (.tmp 22) (.int .i64 ((i : Nat) : Int)) (fun _ => rfl) e40_22 rfl ?_
          refine wl_mv (.tmp 24) (.int .i64 ((i : Nat) : Int)) (fun _ => rfl) rfl rfl ?_
          refine w_nil ?_
          refine xn_then ?_
          refine w_reg ?_
          refine wl_mv (.tmp 5) (.bool false) (fun _ => rfl) e40_5 rfl ?_
          refine wl_mv (.tmp 25) (.bool false) (fun _ => rfl) rfl rfl ?_
          refine wl_mv (.tmp 0) (.slice pl l.length cl) (fun _ => rfl) e40_0 rfl ?_
          refine wl_mv (.tmp 6) (.int .i64 ((i : Nat) : Int)) (fun _ => rfl) rfl rfl ?_
          refine wl_callx 19 [(.tmp 27), (.tmp 28)] _ [.slice pl l.length cl, .int .i64 ((i : Nat) : Int)] rfl rfl (fun _ _ => by kernel_rfl) (below_nat (hL.kp M.kp) (fun x hx => (hLx x hx).kp M.kp) hz hzI hnd i) rfl ?_
          rintro e9 u41 ⟨p, pa, cap, hp, rfl, hOb, hq⟩
          refine ⟨_, rfl, ?_⟩
          replace M := M.trans hq
          clear hq
          refine wl_mv (.tmp 6) (.int .i64 ((i : Nat) : Int)) (fun _ => rfl) rfl rfl ?_
          refine wl_callx 29 [(.tmp 29), (.tmp 30)] _ [.slice pa (ris (nI l) p).length cap, .int .i64 ((i : Nat) : Int)] rfl rfl (fun _ _ => by kernel_rfl) ((cont_n (Li.own hOb (by have := ris_len (nI l) p; unfold maxLen; omega)).sl cap i)) rfl ?_
          rintro e9 u42 ⟨rfl, hq⟩
          refine ⟨_, rfl, ?_⟩
          replace hOb := own_mo hOb hq
          replace M := M.trans hq
          clear hq
          refine wl_pick (.tmp 26) (.const (.bool true)) (.tmp 31) false (.bool (decide (i ∈ ris (nI l) p))) (fun _ => rfl) rfl rfl rfl ?_
          refine wl_mv (.tmp 32) (.bool (decide (i ∈ ris (nI l) p))) (fun _ => rfl) rfl rfl ?_
          refine w_nil ?_
          refine xn_blk ?_
          refine xn_then ?_
          refine w_reg ?_
          refine wl_bin (fun x y => do eqGuard .add 3 (.tmp 22) (.const (.int .i64 (1))) x y; binOp .add 3 x y) (.tmp 22) (.const (.int .i64 (1))) (.int .i64 ((i : Nat) : Int)) (.int .i64 (1)) (.int .i64 ((i + 1 : Nat) : Int)) (fun _ => rfl) e40_22 rfl (add1r (k := i) (by omega) _ _ _) rfl ?_
          refine wl_mv (.tmp 33) (.int .i64 ((i + 1 : Nat) : Int)) (fun _ => rfl) rfl rfl ?_
          refine w_nil ?_
          exact xn_loop (nI l - (i + 1)) (by omega) ⟨i + 1, decide (i ∈ ris (nI l) p), rfl, e40_0, e40_4, rfl, e40_21, rfl, by omega, (by rw [decide_eq_true_eq, mem_ris, hp i]; exact ⟨fun h => ⟨i, by omega, h.2⟩, fun ⟨m, h1, h2⟩ => by rcases Nat.lt_or_ge m i with q | q; (exact absurd (hb.2 ⟨m, q, h2⟩) (by decide)); (have e : m = i := by omega); subst e; exact ⟨hil, h2⟩⟩), M⟩
      | false =>
        have hie : i = nI l := by have := of_decide_eq_false hd; omega
        have hbt : b = true := hb.2 (by obtain ⟨n, hn, h⟩ := hN; obtain ⟨a, h1, h2⟩ := h.cycle; rw [RA_len] at h1; exact ⟨a, by omega, h2⟩)
        subst hbt
        refine w_seq ?_
        refine w_reg ?_
        refine wl_bin (fun x y => do eqGuard .lss 3 (.tmp 22) (.tmp 21) x y; binOp .lss 3 x y) (.tmp 22) (.tmp 21) (.int .i64 ((i : Nat) : Int)) (.int .i64 (((nI l) : Nat) : Int)) (.bool false) (fun _ => rfl) e40_22 e40_21 (ltN hd _ _ _) rfl ?_
        refine w_nil ?_
        refine xn_then ?_
        refine w_seq ?_
        refine w_condF rfl ?_
        refine w_exit ?_
        refine xx_then ?_
        refine xx_then ?_
        refine xx_blk ?_
        refine xn_then ?_
        refine w_seq ?_
        refine w_reg ?_
        refine wl_mv (.tmp 4) (.int .i64 (110)) (fun _ => rfl) e40_4 rfl ?_
        refine wl_bin (fun x y => do eqGuard .eql 35 (.tmp 34) (.const (.int .i64 (110))) x y; binOp .eql 35 x y) (.tmp 34) (.const (.int .i64 (110))) (.int .i64 (110)) (.int .i64 (110)) (.bool true) (fun _ => rfl) rfl rfl (eq34 (r := true) rfl _ _ _) rfl ?_
        refine wl_mv (.tmp 5) (.bool true) (fun _ => rfl) e40_5 rfl ?_
        refine wl_bin (fun x y => do eqGuard .eql 4 (.tmp 35) (.tmp 36) x y; binOp .eql 4 x y) (.tmp 35) (.tmp 36) (.bool true) (.bool true) (.bool true) (fun _ => rfl) rfl rfl (eqBB true _ _ _) rfl ?_
        refine wl_mv (.tmp 37) (.bool true) (fun _ => rfl) rfl rfl ?_
        refine wl_mv (.tmp 4) (.int .i64 (110)) (fun _ => rfl) e40_4 rfl ?_
        refine wl_bin (fun x y => do eqGuard .eql 35 (.tmp 39) (.const (.int .i64 (110))) x y; binOp .eql 35 x y) (.tmp 39) (.const (.int .i64 (110))) (.int .i64 (110)) (.int .i64 (110)) (.bool true) (fun _ => rfl) rfl rfl (eq34 (r := true) rfl _ _ _) rfl ?_
        refine wl_mv (.tmp 0) (.slice pl l.length cl) (fun _ => rfl) e40_0 rfl ?_
        refine wl_callx 25 [(.tmp 41)] _ [.slice pl l.length cl] rfl rfl (fun _ _ => by kernel_rfl) (stuck_n (hL.kp M.kp) (fun x hx => (hLx x hx).kp M.kp) hz hzI hnd) rfl ?_
        rintro e9 u41 ⟨p, pa, cap, hp, rfl, hOb, hq⟩
        refine ⟨_, rfl, ?_⟩
        replace M := M.trans hq
        clear hq
        have hlen : decide (0 < (ris (nI l) p).length) = true := decide_eq_true (by obtain ⟨n, hn, h⟩ := hN; exact List.length_pos_of_mem (mem_ris.2 ⟨hn, (hp n hn).2 h⟩))
        refine wl_val (.int .i64 (((ris (nI l) p).length : Nat) : Int)) (len32 _ _ _ _ _ (by exact rfl) _ _ _ _ _ _) rfl ?_
        refine wl_bin (fun x y => do eqGuard .gtr 3 (.tmp 43) (.const (.int .i64 (0))) x y; binOp .gtr 3 x y) (.tmp 43) (.const (.int .i64 (0))) (.int .i64 (((ris (nI l) p).length : Nat) : Int)) (.int .i64 (0)) (.bool true) (fun _ => rfl) rfl rfl (gtN hlen _ _ _) rfl ?_
        refine wl_bin (fun x y => do eqGuard .eql 4 (.tmp 40) (.tmp 44) x y; binOp .eql 4 x y) (.tmp 40) (.tmp 44) (.bool true) (.bool true) (.bool true) (fun _ => rfl) rfl rfl (eqBB true _ _ _) rfl ?_
        refine wl_pick (.tmp 38) (.tmp 45) (.const (.bool false)) true (.bool true) (fun _ => rfl) rfl rfl rfl ?_
        refine wl_mv (.tmp 46) (.bool true) (fun _ => rfl) rfl rfl ?_
        refine wl_mv (.tmp 4) (.int .i64 (110)) (fun _ => rfl) e40_4 rfl ?_
        refine wl_bin (fun x y => do eqGuard .eql 35 (.tmp 48) (.const (.int .i64 (0))) x y; binOp .eql 35 x y) (.tmp 48) (.const (.int .i64 (0))) (.int .i64 (110)) (.int .i64 (0)) (.bool false) (fun _ => rfl) rfl rfl (eq34 (r := false) rfl _ _ _) rfl ?_
        refine wl_mv (.tmp 49) (.bool false) (fun _ => rfl) rfl rfl ?_
        refine wl_mv (.tmp 4) (.int .i64 (110)) (fun _ => rfl) e40_4 rfl ?_
        refine wl_bin (fun x y => do eqGuard .eql 35 (.tmp 51) (.const (.int .i64 (110))) x y; binOp .eql 35 x y) (.tmp 51) (.const (.int .i64 (110))) (.int .i64 (110)) (.int .i64 (110)) (.bool true) (fun _ => rfl) rfl rfl (eq34 (r := true) rfl _ _ _) rfl ?_
        refine wl_pick (.tmp 50) (.const (.bool true)) (.tmp 52) false (.bool true) (fun _ => rfl) rfl rfl rfl ?_
        refine wl_pick (.tmp 47) (.tmp 53) (.const (.bool false)) true (.bool true) (fun _ => rfl) rfl rfl rfl ?_
        refine wl_mv (.tmp 54) (.bool true) (fun _ => rfl) rfl rfl ?_
        refine w_nil ?_
        refine xn_then ?_
        refine w_ret ?_
        exact w_ret1 _ (.bool true) rfl rfl ⟨rfl, M⟩
    | false =>
      refine wl_un (fun v => Op.unary .not v) (.tmp 8) (.bool false) (.bool true) (fun _ => rfl) rfl (by kernel_rfl) rfl ?_
      refine wl_mv (.tmp 9) (.bool true) (fun _ => rfl) rfl rfl ?_
      refine wl_skip rfl ?_
      refine wl_skip rfl ?_
      refine wl_pick (.tmp 10) (.const (.bool true)) (.tmp 12) true (.bool true) (fun _ => rfl) rfl rfl rfl ?_
      refine w_nil ?_
      refine xn_then ?_
      refine w_condT rfl ?_
      refine w_seq ?_
      refine w_reg ?_
      refine wl_callx 9 [] _ [] rfl rfl (fun _ _ => by kernel_rfl) (live_n _) rfl ?_
      rintro e9 u2 ⟨rfl, hq⟩
      refine ⟨_, rfl, ?_⟩
      replace M := M.trans hq
      clear hq
      refine wl_mv (.tmp 14) (.bool true) (fun _ => rfl) rfl rfl ?_
      refine w_nil ?_
      refine xn_then ?_
      refine w_ret ?_
      refine xr_then ?_
      exact w_ret1 _ (.bool true) rfl rfl ⟨rfl, M⟩
  · skip
    refine w_enter 55 Try.func6 Try.ntmps6 rfl rfl ?_
    have M : Mo w w := Mo.refl _
    refine w_seq ?_
    refine w_reg ?_
    refine wl_mv (.const (.bool false)) (.bool false) (fun _ => rfl) rfl rfl ?_
    refine w_nil ?_
    refine xn_then ?_
    refine w_seq ?_
    refine w_seq ?_
    refine w_reg ?_
    refine wl_mv (.tmp 0) (.slice pl l.length cl) (fun _ => rfl) rfl rfl ?_
    refine wl_callx 8 [(.tmp 7)] _ [.slice pl l.length cl] rfl rfl (fun _ _ => by kernel_rfl) (small_n (hL.kp M.kp) (fun x hx => (hLx x hx).kp M.kp) hcl hci) rfl ?_
    rintro e9 u1 ⟨bs, rfl, hq⟩
    refine ⟨_, rfl, ?_⟩
    replace M := M.trans hq
    clear hq
    cases bs with
    | true =>
      refine wl_un (fun v => Op.unary .not v) (.tmp 8) (.bool true) (.bool false) (fun _ => rfl) rfl (by kernel_rfl) rfl ?_
      refine wl_mv (.tmp 9) (.bool false) (fun _ => rfl) rfl rfl ?_
      refine wl_callx 9 [] _ [] rfl rfl (fun _ _ => by kernel_rfl) (live_n _) rfl ?_
      rintro e9 u2 ⟨rfl, hq⟩
      refine ⟨_, rfl, ?_⟩
      replace M := M.trans hq
      clear hq
      refine wl_un (fun v => Op.unary .not v) (.tmp 11) (.bool true) (.bool false) (fun _ => rfl) rfl (by kernel_rfl) rfl ?_
      refine wl_pick (.tmp 10) (.const (.bool true)) (.tmp 12) false (.bool false) (fun _ => rfl) rfl rfl rfl ?_
      refine w_nil ?_
      refine xn_then ?_
      refine w_condF rfl ?_
      refine w_skip ?_
      refine xn_then ?_
      refine w_seq ?_
      refine w_reg ?_
      refine wl_mv (.tmp 0) (.slice pl l.length cl) (fun _ => rfl) rfl rfl ?_
      refine wl_callx 21 [(.tmp 16)] _ [.slice pl l.length cl] rfl rfl (fun _ _ => by kernel_rfl) (ranks_ok (hL.kp M.kp) (fun x hx => (hLx x hx).kp M.kp) hz hzI hnd hN) rfl ?_
      rintro e9 u3 ⟨kr, rs, hrl, hrs, rfl, hOr, hkr, hq⟩
      refine ⟨_, rfl, ?_⟩
      clear hrs hOr hkr
      replace M := M.trans hq
      clear hq
      refine wl_mv (.tmp 17) (.tuple #[.slice (some ⟨kr, 0, none⟩) (nI l) (nI l), .int .i64 (0)]) (fun _ => rfl) rfl rfl ?_
      refine wl_un (fun v => Instr.extract v 0) (.tmp 15) (.tuple #[.slice (some ⟨kr, 0, none⟩) (nI l) (nI l), .int .i64 (0)]) (.slice (some ⟨kr, 0, none⟩) (nI l) (nI l)) (fun _ => rfl) rfl (by kernel_rfl) rfl ?_
      refine wl_un (fun v => Instr.extract v 1) (.tmp 15) (.tuple #[.slice (some ⟨kr, 0, none⟩) (nI l) (nI l), .int .i64 (0)]) (.int .i64 (0)) (fun _ => rfl) rfl (by kernel_rfl) rfl ?_
      refine wl_mv (.tmp 18) (.slice (some ⟨kr, 0, none⟩) (nI l) (nI l)) (fun _ => rfl) rfl rfl ?_
      refine wl_mv (.tmp 19) (.int .i64 (0)) (fun _ => rfl) rfl rfl ?_
      refine w_nil ?_
      refine xn_then ?_
      refine w_seq ?_
      refine w_reg ?_
      refine wl_mv (.const (.bool false)) (.bool false) (fun _ => rfl) rfl rfl ?_
      refine w_nil ?_
      refine xn_then ?_
      refine w_seq ?_
      refine w_seq ?_
      refine w_reg ?_
      refine wl_mv (.tmp 0) (.slice pl l.length cl) (fun _ => rfl) rfl rfl ?_
      refine wl_callx 28 [(.tmp 20)] _ [.slice pl l.length cl] rfl rfl (fun _ _ => by kernel_rfl) (many_n (hL.kp M.kp) hz hzI) rfl ?_
      rintro e9 u4 ⟨rfl, hq⟩
      refine ⟨_, rfl, ?_⟩
      replace M := M.trans hq
      clear hq
      refine wl_mv (.const (.int .i64 (0))) (.int .i64 (0)) (fun _ => rfl) rfl rfl ?_
      refine w_nil ?_
      refine xn_then ?_
      refine w_block ?_
      refine w_loop (fun m lf w1 => ∃ i : Nat, ∃ b : Bool, m = nI l - i ∧ look lf 0 = .slice pl l.length cl ∧ look lf 4 = .int .i64 (0) ∧ look lf 5 = .bool b ∧ look lf 21 = .int .i64 (((nI l) : Nat) : Int) ∧ look lf 22 = .int .i64 ((i : Nat) : Int) ∧ (i ≤ nI l) ∧ (b = true ↔ ∃ m, m < i ∧ Rch (RA l) m m) ∧ (Mo w w1)) _ ⟨0, false, rfl, rfl, rfl, rfl, rfl, rfl, Nat.zero_le _, ⟨fun h => Bool.noConfusion h, fun ⟨m, h, _⟩ => by omega⟩, M⟩ ?_
      clear M
      rintro m lf40 wl40 ⟨i, b, rfl, e40_0, e40_4, e40_5, e40_21, e40_22, hi, hb, M⟩
      cases hd : decide (i < (nI l)) with
      | true =>
        have hil := of_decide_eq_true hd
        cases b with
        | true =>
          refine w_seq ?_
          refine w_reg ?_
          refine wl_bin (fun x y => do eqGuard .lss 3 (.tmp 22) (.tmp 21) x y; binOp .lss 3 x y) (.tmp 22) (.tmp 21) (.int .i64 ((i : Nat) : Int)) (.int .i64 (((nI l) : Nat) : Int)) (.bool true) (fun _ => rfl) e40_22 e40_21 (ltN hd _ _ _) rfl ?_
          refine w_nil ?_
          refine xn_then ?_
          refine w_seq ?_
          refine w_condT rfl ?_
          refine w_skip ?_
          refine xn_then ?_
          refine w_seq ?_
          refine w_block ?_
          refine w_seq ?_
          refine w_reg ?_
          refine wl_mv (.tmp 22) (.int .i64 ((i : Nat) : Int)) (fun _ => rfl) e40_22 rfl ?_
          refine wl_mv (.tmp 24) (.int .i64 ((i : Nat) : Int)) (fun _ => rfl) rfl rfl ?_
          refine w_nil ?_
          refine xn_then ?_
          refine w_reg ?_
          refine wl_mv (.tmp 5) (.bool true) (fun _ => rfl) e40_5 rfl ?_
          refine wl_mv (.tmp 25) (.bool true) (fun _ => rfl) rfl rfl ?_
          refine wl_skip rfl ?_
          refine wl_skip rfl ?_
          refine wl_skip rfl ?_
          refine wl_skip rfl ?_
          refine wl_skip rfl ?_
          refine wl_pick (.tmp 26) (.const (.bool true)) (.tmp 31) true (.bool true) (fun _ => rfl) rfl rfl rfl ?_
          refine wl_mv (.tmp 32) (.bool true) (fun _ => rfl) rfl rfl ?_
          refine w_nil ?_
          refine xn_blk ?_
          refine xn_then ?_
          refine w_reg ?_
          refine wl_bin (fun x y => do eqGuard .add 3 (.tmp 22) (.const (.int .i64 (1))) x y; binOp .add 3 x y) (.tmp 22) (.const (.int .i64 (1))) (.int .i64 ((i : Nat) : Int)) (.int .i64 (1)) (.int .i64 ((i + 1 : Nat) : Int)) (fun _ => rfl) e40_22 rfl (add1r (k := i) (by omega) _ _ _) rfl ?_
          refine wl_mv (.tmp 33) (.int .i64 ((i + 1 : Nat) : Int)) (fun _ => rfl) rfl rfl ?_
          refine w_nil ?_
          exact xn_loop (nI l - (i + 1)) (by omega) ⟨i + 1, true, rfl, e40_0, e40_4, rfl, e40_21, rfl, by omega, ⟨fun _ => by obtain ⟨m, h1, h2⟩ := hb.1 rfl; exact ⟨m, by omega, h2⟩, fun _ => rfl⟩, M⟩
        | false =>
          refine w_seq ?_
          refine w_reg ?_
          refine wl_bin (fun x y => do eqGuard .lss 3 (.tmp 22) (.tmp 21) x y; binOp .lss 3 x y) (.tmp 22) (.tmp 21) (.int .i64 ((i : Nat) : Int)) (.int .i64 (((nI l) : Nat) : Int)) (.bool true) (fun _ => rfl) e40_22 e40_21 (ltN hd _ _ _) rfl ?_
          refine w_nil ?_
          refine xn_then ?_
          refine w_seq ?_
          refine w_condT rfl ?_
          refine w_skip ?_
          refine xn_then ?_
          refine w_seq ?_
          refine w_block ?_
          refine w_seq ?_
          refine w_reg ?_
          refine wl_mv (.tmp 22) (.int .i64 ((i : Nat) : Int)) (fun _ => rfl) e40_22 rfl ?_
          refine wl_mv (.tmp 24) (.int .i64 ((i : Nat) : Int)) (fun _ => rfl) rfl rfl ?_
          refine w_nil ?_
          refine xn_then ?_
          refine w_reg ?_
          refine wl_mv (.tmp 5) (.bool false) (fun _ => rfl) e40_5 rfl ?_
          refine wl_mv (.tmp 25) (.bool false) (fun _ => rfl) rfl rfl ?_
          refine wl_mv (.tmp 0) (.slice pl l.length cl) (fun _ => rfl) e40_0 rfl ?_
          refine wl_mv (.tmp 6) (.int .i64 ((i : Nat) : Int)) (fun _ => rfl) rfl rfl ?_
          refine wl_callx 19 [(.tmp 27), (.tmp 28)] _ [.slice pl l.length cl, .int .i64 ((i : Nat) : Int)] rfl rfl (fun _ _ => by kernel_rfl) (below_nat (hL.kp M.kp) (fun x hx => (hLx x hx).kp M.kp) hz hzI hnd i) rfl ?_
          rintro e9 u41 ⟨p, pa, cap, hp, rfl, hOb, hq⟩
          refine ⟨_, rfl, ?_⟩
          replace M := M.trans hq
          clear hq
          refine wl_mv (.tmp 6) (.int .i64 ((i : Nat) : Int)) (fun _ => rfl) rfl rfl ?_
          refine wl_callx 29 [(.tmp 29), (.tmp 30)] _ [.slice pa (ris (nI l) p).length cap, .int .i64 ((i : Nat) : Int)] rfl rfl (fun _ _ => by kernel_rfl) ((cont_n (Li.own hOb (by have := ris_len (nI l) p; unfold maxLen; omega)).sl cap i)) rfl ?_
          rintro e9 u42 ⟨rfl, hq⟩
          refine ⟨_, rfl, ?_⟩
          replace hOb := own_mo hOb hq
          replace M := M.trans hq
          clear hq
          refine wl_pick (.tmp 26) (.const (.bool true)) (.tmp 31) false (.bool (decide (i ∈ ris (nI l) p))) (fun _ => rfl) rfl rfl rfl ?_
          refine wl_mv (.tmp 32) (.bool (decide (i ∈ ris (nI l) p))) (fun _ => rfl) rfl rfl ?_
          refine w_nil ?_
          refine xn_blk ?_
          refine xn_then ?_
          refine w_reg ?_
          refine wl_bin (fun x y => do eqGuard .add 3 (.tmp 22) (.const (.int .i64 (1))) x y; binOp .add 3 x y) (.tmp 22) (.const (.int .i64 (1))) (.int .i64 ((i : Nat) : Int)) (.int .i64 (1)) (.int .i64 ((i + 1 : Nat) : Int)) (fun _ => rfl) e40_22 rfl (add1r (k := i) (by omega) _ _ _) rfl ?_
          refine wl_mv (.tmp 33) (.int .i64 ((i + 1 : Nat) : Int)) (fun _ => rfl) rfl rfl ?_
          refine w_nil ?_
          exact xn_loop (nI l - (i + 1)) (by omega) ⟨i + 1, decide (i ∈ ris (nI l) p), rfl, e40_0, e40_4, rfl, e40_21, rfl, by omega, (by rw [decide_eq_true_eq, mem_ris, hp i]; exact ⟨fun h => ⟨i, by omega, h.2⟩, fun ⟨m, h1, h2⟩ => by rcases Nat.lt_or_ge m i with q | q; (exact absurd (hb.2 ⟨m, q, h2⟩) (by decide)); (have e : m = i := by omega); subst e; exact ⟨hil, h2⟩⟩), M⟩
      | false =>
        have hie : i = nI l := by have := of_decide_eq_false hd; omega
        have hbt : b = false := by cases b with | false => rfl | true => obtain ⟨m, h1, h2⟩ := hb.1 rfl; exact (hN ⟨m, by omega, h2.self⟩).elim
        subst hbt
        refine w_seq ?_
        refine w_reg ?_
        refine wl_bin (fun x y => do eqGuard .lss 3 (.tmp 22) (.tmp 21) x y; binOp .lss 3 x y) (.tmp 22) (.tmp 21) (.int .i64 ((i : Nat) : Int)) (.int .i64 (((nI l) : Nat) : Int)) (.bool false) (fun _ => rfl) e40_22 e40_21 (ltN hd _ _ _) rfl ?_
        refine w_nil ?_
        refine xn_then ?_
        refine w_seq ?_
        refine w_condF rfl ?_
        refine w_exit ?_
        refine xx_then ?_
        refine xx_then ?_
        refine xx_blk ?_
        refine xn_then ?_
        refine w_seq ?_
        refine w_reg ?_
        refine wl_mv (.tmp 4) (.int .i64 (0)) (fun _ => rfl) e40_4 rfl ?_
        refine wl_bin (fun x y => do eqGuard .eql 35 (.tmp 34) (.const (.int .i64 (110))) x y; binOp .eql 35 x y) (.tmp 34) (.const (.int .i64 (110))) (.int .i64 (0)) (.int .i64 (110)) (.bool false) (fun _ => rfl) rfl rfl (eq34 (r := false) rfl _ _ _) rfl ?_
        refine wl_mv (.tmp 5) (.bool false) (fun _ => rfl) e40_5 rfl ?_
        refine wl_bin (fun x y => do eqGuard .eql 4 (.tmp 35) (.tmp 36) x y; binOp .eql 4 x y) (.tmp 35) (.tmp 36) (.bool false) (.bool false) (.bool true) (fun _ => rfl) rfl rfl (eqBB false _ _ _) rfl ?_
        refine wl_mv (.tmp 37) (.bool true) (fun _ => rfl) rfl rfl ?_
        refine wl_mv (.tmp 4) (.int .i64 (0)) (fun _ => rfl) e40_4 rfl ?_
        refine wl_bin (fun x y => do eqGuard .eql 35 (.tmp 39) (.const (.int .i64 (110))) x y; binOp .eql 35 x y) (.tmp 39) (.const (.int .i64 (110))) (.int .i64 (0)) (.int .i64 (110)) (.bool false) (fun _ => rfl) rfl rfl (eq34 (r := false) rfl _ _ _) rfl ?_
        refine wl_mv (.tmp 0) (.slice pl l.length cl) (fun _ => rfl) e40_0 rfl ?_
        refine wl_callx 25 [(.tmp 41)] _ [.slice pl l.length cl] rfl rfl (fun _ _ => by kernel_rfl) (stuck_n (hL.kp M.kp) (fun x hx => (hLx x hx).kp M.kp) hz hzI hnd) rfl ?_
        rintro e9 u41 ⟨p, pa, cap, hp, rfl, hOb, hq⟩
        refine ⟨_, rfl, ?_⟩
        replace M := M.trans hq
        clear hq
        have hlen : decide (0 < (ris (nI l) p).length) = false := decide_eq_false (fun h => by obtain ⟨n, hn⟩ := get_of_lt h; have h2 := mem_ris.1 (List.mem_of_getElem? hn); exact hN ⟨n, h2.1, (hp n h2.1).1 h2.2⟩)
        refine wl_val (.int .i64 (((ris (nI l) p).length : Nat) : Int)) (len32 _ _ _ _ _ (by exact rfl) _ _ _ _ _ _) rfl ?_
        refine wl_bin (fun x y => do eqGuard .gtr 3 (.tmp 43) (.const (.int .i64 (0))) x y; binOp .gtr 3 x y) (.tmp 43) (.const (.int .i64 (0))) (.int .i64 (((ris (nI l) p).length : Nat) : Int)) (.int .i64 (0)) (.bool false) (fun _ => rfl) rfl rfl (gtN hlen _ _ _) rfl ?_
        refine wl_bin (fun x y => do eqGuard .eql 4 (.tmp 40) (.tmp 44) x y; binOp .eql 4 x y) (.tmp 40) (.tmp 44) (.bool false) (.bool false) (.bool true) (fun _ => rfl) rfl rfl (eqBB false _ _ _) rfl ?_
        refine wl_pick (.tmp 38) (.tmp 45) (.const (.bool false)) true (.bool true) (fun _ => rfl) rfl rfl rfl ?_
        refine wl_mv (.tmp 46) (.bool true) (fun _ => rfl) rfl rfl ?_
        refine wl_mv (.tmp 4) (.int .i64 (0)) (fun _ => rfl) e40_4 rfl ?_
        refine wl_bin (fun x y => do eqGuard .eql 35 (.tmp 48) (.const (.int .i64 (0))) x y; binOp .eql 35 x y) (.tmp 48) (.const (.int .i64 (0))) (.int .i64 (0)) (.int .i64 (0)) (.bool true) (fun _ => rfl) rfl rfl (eq34 (r := true) rfl _ _ _) rfl ?_
        refine wl_mv (.tmp 49) (.bool true) (fun _ => rfl) rfl rfl ?_
        refine wl_skip rfl ?_
        refine wl_skip rfl ?_
        refine wl_pick (.tmp 50) (.const (.bool true)) (.tmp 52) true (.bool true) (fun _ => rfl) rfl rfl rfl ?_
        refine wl_pick (.tmp 47) (.tmp 53) (.const (.bool false)) true (.bool true) (fun _ => rfl) rfl rfl rfl ?_
        refine wl_mv (.tmp 54) (.bool true) (fun _ => rfl) rfl rfl ?_
        refine w_nil ?_
        refine xn_then ?_
        refine w_ret ?_
        exact w_ret1 _ (.bool true) rfl rfl ⟨rfl, M⟩
    | false =>
      refine wl_un (fun v => Op.unary .not v) (.tmp 8) (.bool false) (.bool true) (fun _ => rfl) rfl (by kernel_rfl) rfl ?_
      refine wl_mv (.tmp 9) (.bool true) (fun _ => rfl) rfl rfl ?_
      refine wl_skip rfl ?_
      refine wl_skip rfl ?_
      refine wl_pick (.tmp 10) (.const (.bool true)) (.tmp 12) true (.bool true) (fun _ => rfl) rfl rfl rfl ?_
      refine w_nil ?_
      refine xn_then ?_
      refine w_condT rfl ?_
      refine w_seq ?_
      refine w_reg ?_
      refine wl_callx 9 [] _ [] rfl rfl (fun _ _ => by kernel_rfl) (live_n _) rfl ?_
      rintro e9 u2 ⟨rfl, hq⟩
      refine ⟨_, rfl, ?_⟩
      replace M := M.trans hq
      clear hq
      refine wl_mv (.tmp 14) (.bool true) (fun _ => rfl) rfl rfl ?_
      refine w_nil ?_
      refine xn_then ?_
      refine w_ret ?_
      refine xr_then ?_
      exact w_ret1 _ (.bool true) rfl rfl ⟨rfl, M⟩
end Go.Proofs.Ythghblgbjgghcaa
