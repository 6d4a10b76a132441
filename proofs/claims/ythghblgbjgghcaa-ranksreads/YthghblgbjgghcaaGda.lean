/-
  The document's small calls: Has, Of, Number. The document's Number; the first of a name that can be read. The document's Find, Kids, Kid. The document's Kids and Kid.
-/
import Derived.Test.YthghblgbjgghcaaG26
namespace Go.Proofs.Ythghblgbjgghcaa
open Go.RowKit D
theorem has41_n {w : World} {pa : Option Addr} {cap : Nat} {L : List Nat} (hL : SL w 1 ic pa L) (z : Int) : Calls Try.prog 41 #[.slice pa L.length cap, .int .i64 z] w fun e w' => ∃ b : Bool, (b = true ↔ ∃ y ∈ L, ((y : Nat) : Int) = z) ∧ e = .returned (.bool b) ∧ Mo w w' := by
  have hz9 := hL.1
  unfold maxLen at hz9
  refine w_enter 18 Try.func41 Try.ntmps41 rfl rfl ?_
  have M : Mo w w := Mo.refl _
  refine w_seq ?_
  refine w_reg ?_
  refine wl_mv (.const (.bool false)) (.bool false) (fun _ => rfl) rfl rfl ?_
  refine w_nil ?_
  refine xn_then ?_
  refine w_seq ?_
  refine w_seq ?_
  refine w_reg ?_
  refine wl_mv (.const (.int .i64 (0))) (.int .i64 (0)) (fun _ => rfl) rfl rfl ?_
  refine w_nil ?_
  refine xn_then ?_
  refine w_block ?_
  refine w_loop (fun m lf w1 => ∃ i : Nat, m = L.length - i ∧ look lf 0 = .slice pa L.length cap ∧ look lf 1 = .int .i64 (z) ∧ look lf 5 = .int .i64 ((i : Nat) : Int) ∧ (i ≤ L.length) ∧ (∀ y ∈ L.take i, ¬ ((y : Nat) : Int) = z) ∧ (Mo w w1)) _ ⟨0, rfl, rfl, rfl, rfl, Nat.zero_le _, (fun y hy => by simp at hy), M⟩ ?_
  clear M
  rintro m lf40 wl40 ⟨i, rfl, e40_0, e40_1, e40_5, hi, hno, M⟩
  cases hd : decide (i < L.length) with
  | true =>
    have hil := of_decide_eq_true hd
    obtain ⟨x, hx⟩ := get_of_lt hil
    obtain ⟨bp, op, hpp, hRp⟩ := D.SL.rw hL hx
    cases hd2 : decide (((x : Nat) : Int) = z) with
    | true =>
      refine w_seq ?_
      refine w_seq ?_
      refine w_reg ?_
      refine wl_mv (.tmp 5) (.int .i64 ((i : Nat) : Int)) (fun _ => rfl) e40_5 rfl ?_
      refine wl_mv (.tmp 0) (.slice pa L.length cap) (fun _ => rfl) e40_0 rfl ?_
      refine wl_val (.int .i64 ((L.length : Nat) : Int)) (len32 _ _ _ _ _ (by exact rfl) _ _ _ _ _ _) rfl ?_
      refine wl_bin (fun x y => do eqGuard .lss 3 (.tmp 6) (.tmp 8) x y; binOp .lss 3 x y) (.tmp 6) (.tmp 8) (.int .i64 ((i : Nat) : Int)) (.int .i64 ((L.length : Nat) : Int)) (.bool true) (fun _ => rfl) rfl rfl (ltN hd _ _ _) rfl ?_
      refine w_nil ?_
      refine xn_then ?_
      refine w_condT rfl ?_
      refine w_skip ?_
      refine xn_then ?_
      refine w_seq ?_
      refine w_block ?_
      refine w_seq ?_
      refine w_reg ?_
      refine wl_mv (.tmp 0) (.slice pa L.length cap) (fun _ => rfl) e40_0 rfl ?_
      refine wl_mv (.tmp 5) (.int .i64 ((i : Nat) : Int)) (fun _ => rfl) e40_5 rfl ?_
      refine wl_bin (fun x y => Instr.indexAt 32 x y) (.tmp 12) (.tmp 13) (.slice pa L.length cap) (.int .i64 ((i : Nat) : Int)) (pt bp (op + i * 1)) (fun _ => rfl) rfl rfl (ix32 (i := i) hpp hil _) rfl ?_
      refine wl_load 3 (.tmp 14) (pt bp (op + i * 1)) (.int .i64 ((x : Nat) : Int)) rfl rfl (D.run_oneR (hRp.mo M).at' 3 0 rfl Try.underlying3 rfl) rfl ?_
      refine wl_mv (.tmp 1) (.int .i64 (z)) (fun _ => rfl) e40_1 rfl ?_
      refine wl_bin (fun x y => do eqGuard .eql 3 (.tmp 15) (.tmp 16) x y; binOp .eql 3 x y) (.tmp 15) (.tmp 16) (.int .i64 ((x : Nat) : Int)) (.int .i64 (z)) (.bool true) (fun _ => rfl) rfl rfl (eq3 hd2 _ _ _) rfl ?_
      refine w_nil ?_
      refine xn_then ?_
      refine w_condT rfl ?_
      refine w_seq ?_
      refine w_reg ?_
      refine wl_mv (.const (.bool true)) (.bool true) (fun _ => rfl) rfl rfl ?_
      refine w_nil ?_
      refine xn_then ?_
      refine w_ret ?_
      refine xr_blk ?_
      refine xr_then ?_
      refine xr_then ?_
      refine xr_blk ?_
      refine xr_then ?_
      exact w_ret1 _ (.bool true) rfl rfl ⟨true, ⟨fun _ => ⟨x, List.mem_of_getElem? hx, of_decide_eq_true hd2⟩, fun _ => rfl⟩, rfl, M⟩
    | false =>
      refine w_seq ?_
      refine w_seq ?_
      refine w_reg ?_
      refine wl_mv (.tmp 5) (.int .i64 ((i : Nat) : Int)) (fun _ => rfl) e40_5 rfl ?_
      refine wl_mv (.tmp 0) (.slice pa L.length cap) (fun _ => rfl) e40_0 rfl ?_
      refine wl_val (.int .i64 ((L.length : Nat) : Int)) (len32 _ _ _ _ _ (by exact rfl) _ _ _ _ _ _) rfl ?_
      refine wl_bin (fun x y => do eqGuard .lss 3 (.tmp 6) (.tmp 8) x y; binOp .lss 3 x y) (.tmp 6) (.tmp 8) (.int .i64 ((i : Nat) : Int)) (.int .i64 ((L.length : Nat) : Int)) (.bool true) (fun _ => rfl) rfl rfl (ltN hd _ _ _) rfl ?_
      refine w_nil ?_
      refine xn_then ?_
      refine w_condT rfl ?_
      refine w_skip ?_
      refine xn_then ?_
      refine w_seq ?_
      refine w_block ?_
      refine w_seq ?_
      refine w_reg ?_
      refine wl_mv (.tmp 0) (.slice pa L.length cap) (fun _ => rfl) e40_0 rfl ?_
      refine wl_mv (.tmp 5) (.int .i64 ((i : Nat) : Int)) (fun _ => rfl) e40_5 rfl ?_
      refine wl_bin (fun x y => Instr.indexAt 32 x y) (.tmp 12) (.tmp 13) (.slice pa L.length cap) (.int .i64 ((i : Nat) : Int)) (pt bp (op + i * 1)) (fun _ => rfl) rfl rfl (ix32 (i := i) hpp hil _) rfl ?_
      refine wl_load 3 (.tmp 14) (pt bp (op + i * 1)) (.int .i64 ((x : Nat) : Int)) rfl rfl (D.run_oneR (hRp.mo M).at' 3 0 rfl Try.underlying3 rfl) rfl ?_
      refine wl_mv (.tmp 1) (.int .i64 (z)) (fun _ => rfl) e40_1 rfl ?_
      refine wl_bin (fun x y => do eqGuard .eql 3 (.tmp 15) (.tmp 16) x y; binOp .eql 3 x y) (.tmp 15) (.tmp 16) (.int .i64 ((x : Nat) : Int)) (.int .i64 (z)) (.bool false) (fun _ => rfl) rfl rfl (eq3 hd2 _ _ _) rfl ?_
      refine w_nil ?_
      refine xn_then ?_
      refine w_condF rfl ?_
      refine w_skip ?_
      refine xn_blk ?_
      refine xn_then ?_
      refine w_reg ?_
      refine wl_mv (.tmp 5) (.int .i64 ((i : Nat) : Int)) (fun _ => rfl) e40_5 rfl ?_
      refine wl_bin (fun x y => do eqGuard .add 3 (.tmp 10) (.const (.int .i64 (1))) x y; binOp .add 3 x y) (.tmp 10) (.const (.int .i64 (1))) (.int .i64 ((i : Nat) : Int)) (.int .i64 (1)) (.int .i64 ((i + 1 : Nat) : Int)) (fun _ => rfl) rfl rfl (add1r (k := i) (by omega) _ _ _) rfl ?_
      refine wl_mv (.tmp 11) (.int .i64 ((i + 1 : Nat) : Int)) (fun _ => rfl) rfl rfl ?_
      refine w_nil ?_
      exact xn_loop (L.length - (i + 1)) (by omega) ⟨i + 1, rfl, e40_0, e40_1, rfl, by omega, (fun y hy => by rw [List.take_add_one, hx] at hy; rcases List.mem_append.1 hy with q | q; exact hno y q; (simp at q; subst q; exact of_decide_eq_false hd2)), M⟩
  | false =>
    have hie : i = L.length := by have := of_decide_eq_false hd; omega
    rw [hie, List.take_length] at hno
    refine w_seq ?_
    refine w_seq ?_
    refine w_reg ?_
    refine wl_mv (.tmp 5) (.int .i64 ((i : Nat) : Int)) (fun _ => rfl) e40_5 rfl ?_
    refine wl_mv (.tmp 0) (.slice pa L.length cap) (fun _ => rfl) e40_0 rfl ?_
    refine wl_val (.int .i64 ((L.length : Nat) : Int)) (len32 _ _ _ _ _ (by exact rfl) _ _ _ _ _ _) rfl ?_
    refine wl_bin (fun x y => do eqGuard .lss 3 (.tmp 6) (.tmp 8) x y; binOp .lss 3 x y) (.tmp 6) (.tmp 8) (.int .i64 ((i : Nat) : Int)) (.int .i64 ((L.length : Nat) : Int)) (.bool false) (fun _ => rfl) rfl rfl (ltN hd _ _ _) rfl ?_
    refine w_nil ?_
    refine xn_then ?_
    refine w_condF rfl ?_
    refine w_exit ?_
    refine xx_then ?_
    refine xx_then ?_
    refine xx_blk ?_
    refine xn_then ?_
    refine w_seq ?_
    refine w_reg ?_
    refine wl_mv (.const (.bool false)) (.bool false) (fun _ => rfl) rfl rfl ?_
    refine w_nil ?_
    refine xn_then ?_
    refine w_ret ?_
    exact w_ret1 _ (.bool false) rfl rfl ⟨false, ⟨fun h => Bool.noConfusion h, fun ⟨y, h1, h2⟩ => (hno y h1 h2).elim⟩, rfl, M⟩
theorem of13_n {w : World} {l : List S5} {pl : Option Addr} {cl : Nat} (hL : SL w 5 S5.cells pl l) (hz : l.length < 400000) (hzI : nI l < 400000) {nn : Nat} (hm : nn < nI l) : Calls Try.prog 13 #[.slice pl l.length cl, .int .i64 ((nn : Nat) : Int)] w fun e w' => ∃ (s j : Nat) (y : S5) (z : It), e = .returned (.tuple #[.int .i64 ((s : Nat) : Int), .int .i64 ((j : Nat) : Int), .bool true]) ∧ l[s]? = some y ∧ y.items[j]? = some z ∧ fsn l s + j = nn ∧ Mo w w' := by
  refine w_enter 36 Try.func13 Try.ntmps13 rfl rfl ?_
  have M : Mo w w := Mo.refl _
  refine w_seq ?_
  refine w_reg ?_
  refine wl_mv (.const (.int .i64 (0))) (.int .i64 (0)) (fun _ => rfl) rfl rfl ?_
  refine wl_mv (.const (.int .i64 (0))) (.int .i64 (0)) (fun _ => rfl) rfl rfl ?_
  refine wl_mv (.const (.bool false)) (.bool false) (fun _ => rfl) rfl rfl ?_
  refine w_nil ?_
  refine xn_then ?_
  refine w_seq ?_
  refine w_seq ?_
  refine w_reg ?_
  refine wl_mv (.const (.int .i64 (0))) (.int .i64 (0)) (fun _ => rfl) rfl rfl ?_
  refine w_nil ?_
  refine xn_then ?_
  refine w_block ?_
  refine w_loop (fun m lf w1 => ∃ i : Nat, ∃ q : Nat, m = l.length - i ∧ look lf 0 = .slice pl l.length cl ∧ look lf 1 = .int .i64 ((q : Nat) : Int) ∧ look lf 7 = .int .i64 ((i : Nat) : Int) ∧ (i ≤ l.length) ∧ (q + fsn l i = nn) ∧ (Mo w w1)) _ ⟨0, nn, rfl, rfl, rfl, rfl, Nat.zero_le _, by simp [fsn], M⟩ ?_
  clear M
  rintro m lf40 wl40 ⟨i, q, rfl, e40_0, e40_1, e40_7, hi, hq0, M⟩
  cases hd : decide (i < l.length) with
  | true =>
    have hil := of_decide_eq_true hd
    obtain ⟨x, hx⟩ := get_of_lt hil
    have hfs := fsn_s hx
    have hfl := fsn_le l (i + 1)
    obtain ⟨bp, op, hpp, hRp⟩ := D.SL.rw hL hx
    cases hd2 : decide (q < x.items.length) with
    | true =>
      have hql := of_decide_eq_true hd2
      obtain ⟨z9, hz9⟩ := get_of_lt hql
      refine w_seq ?_
      refine w_seq ?_
      refine w_reg ?_
      refine wl_mv (.tmp 7) (.int .i64 ((i : Nat) : Int)) (fun _ => rfl) e40_7 rfl ?_
      refine wl_mv (.tmp 0) (.slice pl l.length cl) (fun _ => rfl) e40_0 rfl ?_
      refine wl_val (.int .i64 ((l.length : Nat) : Int)) (len22 _ _ _ _ _ (by exact rfl) _ _ _ _ _ _) rfl ?_
      refine wl_bin (fun x y => do eqGuard .lss 3 (.tmp 8) (.tmp 10) x y; binOp .lss 3 x y) (.tmp 8) (.tmp 10) (.int .i64 ((i : Nat) : Int)) (.int .i64 ((l.length : Nat) : Int)) (.bool true) (fun _ => rfl) rfl rfl (ltN hd _ _ _) rfl ?_
      refine wl_mv (.tmp 11) (.bool true) (fun _ => rfl) rfl rfl ?_
      refine wl_mv (.tmp 1) (.int .i64 ((q : Nat) : Int)) (fun _ => rfl) e40_1 rfl ?_
      refine wl_bin (fun x y => do eqGuard .geq 3 (.tmp 13) (.const (.int .i64 (0))) x y; binOp .geq 3 x y) (.tmp 13) (.const (.int .i64 (0))) (.int .i64 ((q : Nat) : Int)) (.int .i64 (0)) (.bool true) (fun _ => rfl) rfl rfl (ge3 (r := true) (decide_eq_true (by omega)) _ _ _) rfl ?_
      refine wl_pick (.tmp 12) (.tmp 14) (.const (.bool false)) true (.bool true) (fun _ => rfl) rfl rfl rfl ?_
      refine w_nil ?_
      refine xn_then ?_
      refine w_condT rfl ?_
      refine w_skip ?_
      refine xn_then ?_
      refine w_seq ?_
      refine w_block ?_
      refine w_seq ?_
      refine w_seq ?_
      refine w_reg ?_
      refine wl_mv (.tmp 1) (.int .i64 ((q : Nat) : Int)) (fun _ => rfl) e40_1 rfl ?_
      refine wl_mv (.tmp 0) (.slice pl l.length cl) (fun _ => rfl) e40_0 rfl ?_
      refine wl_mv (.tmp 7) (.int .i64 ((i : Nat) : Int)) (fun _ => rfl) e40_7 rfl ?_
      refine wl_bin (fun x y => Instr.indexAt 22 x y) (.tmp 19) (.tmp 20) (.slice pl l.length cl) (.int .i64 ((i : Nat) : Int)) (pt bp (op + i * 5)) (fun _ => rfl) rfl rfl (ix22 (i := i) hpp hil _) rfl ?_
      refine wl_un (fun v => Instr.fieldAt 55 v 4) (.tmp 21) (pt bp (op + i * 5)) (pt bp (op + i * 5 + 4)) (fun _ => rfl) rfl (by kernel_rfl) rfl ?_
      refine wl_load 39 (.tmp 22) (pt bp (op + i * 5 + 4)) (.slice x.pi x.items.length x.ci) rfl rfl (D.run_oneR (hRp.mo M).at' 39 4 rfl Try.underlying39 rfl) rfl ?_
      refine wl_val (.int .i64 ((x.items.length : Nat) : Int)) (len39 _ _ _ _ _ (by exact rfl) _ _ _ _ _ _) rfl ?_
      refine wl_bin (fun x y => do eqGuard .lss 3 (.tmp 18) (.tmp 24) x y; binOp .lss 3 x y) (.tmp 18) (.tmp 24) (.int .i64 ((q : Nat) : Int)) (.int .i64 ((x.items.length : Nat) : Int)) (.bool true) (fun _ => rfl) rfl rfl (ltN hd2 _ _ _) rfl ?_
      refine w_nil ?_
      refine xn_then ?_
      refine w_condT rfl ?_
      refine w_seq ?_
      refine w_reg ?_
      refine wl_mv (.tmp 7) (.int .i64 ((i : Nat) : Int)) (fun _ => rfl) e40_7 rfl ?_
      refine wl_mv (.tmp 1) (.int .i64 ((q : Nat) : Int)) (fun _ => rfl) e40_1 rfl ?_
      refine wl_mv (.tmp 26) (.int .i64 ((i : Nat) : Int)) (fun _ => rfl) rfl rfl ?_
      refine wl_mv (.tmp 27) (.int .i64 ((q : Nat) : Int)) (fun _ => rfl) rfl rfl ?_
      refine wl_mv (.const (.bool true)) (.bool true) (fun _ => rfl) rfl rfl ?_
      refine w_nil ?_
      refine xn_then ?_
      refine w_ret ?_
      refine xr_then ?_
      refine xr_blk ?_
      refine xr_then ?_
      refine xr_then ?_
      refine xr_blk ?_
      refine xr_then ?_
      exact w_ret3 _ _ _ (.int .i64 ((i : Nat) : Int)) (.int .i64 ((q : Nat) : Int)) (.bool true) rfl rfl rfl rfl ⟨i, q, x, z9, rfl, hx, hz9, by omega, M⟩
    | false =>
      have hql := of_decide_eq_false hd2
      refine w_seq ?_
      refine w_seq ?_
      refine w_reg ?_
      refine wl_mv (.tmp 7) (.int .i64 ((i : Nat) : Int)) (fun _ => rfl) e40_7 rfl ?_
      refine wl_mv (.tmp 0) (.slice pl l.length cl) (fun _ => rfl) e40_0 rfl ?_
      refine wl_val (.int .i64 ((l.length : Nat) : Int)) (len22 _ _ _ _ _ (by exact rfl) _ _ _ _ _ _) rfl ?_
      refine wl_bin (fun x y => do eqGuard .lss 3 (.tmp 8) (.tmp 10) x y; binOp .lss 3 x y) (.tmp 8) (.tmp 10) (.int .i64 ((i : Nat) : Int)) (.int .i64 ((l.length : Nat) : Int)) (.bool true) (fun _ => rfl) rfl rfl (ltN hd _ _ _) rfl ?_
      refine wl_mv (.tmp 11) (.bool true) (fun _ => rfl) rfl rfl ?_
      refine wl_mv (.tmp 1) (.int .i64 ((q : Nat) : Int)) (fun _ => rfl) e40_1 rfl ?_
      refine wl_bin (fun x y => do eqGuard .geq 3 (.tmp 13) (.const (.int .i64 (0))) x y; binOp .geq 3 x y) (.tmp 13) (.const (.int .i64 (0))) (.int .i64 ((q : Nat) : Int)) (.int .i64 (0)) (.bool true) (fun _ => rfl) rfl rfl (ge3 (r := true) (decide_eq_true (by omega)) _ _ _) rfl ?_
      refine wl_pick (.tmp 12) (.tmp 14) (.const (.bool false)) true (.bool true) (fun _ => rfl) rfl rfl rfl ?_
      refine w_nil ?_
      refine xn_then ?_
      refine w_condT rfl ?_
      refine w_skip ?_
      refine xn_then ?_
      refine w_seq ?_
      refine w_block ?_
      refine w_seq ?_
      refine w_seq ?_
      refine w_reg ?_
      refine wl_mv (.tmp 1) (.int .i64 ((q : Nat) : Int)) (fun _ => rfl) e40_1 rfl ?_
      refine wl_mv (.tmp 0) (.slice pl l.length cl) (fun _ => rfl) e40_0 rfl ?_
      refine wl_mv (.tmp 7) (.int .i64 ((i : Nat) : Int)) (fun _ => rfl) e40_7 rfl ?_
      refine wl_bin (fun x y => Instr.indexAt 22 x y) (.tmp 19) (.tmp 20) (.slice pl l.length cl) (.int .i64 ((i : Nat) : Int)) (pt bp (op + i * 5)) (fun _ => rfl) rfl rfl (ix22 (i := i) hpp hil _) rfl ?_
      refine wl_un (fun v => Instr.fieldAt 55 v 4) (.tmp 21) (pt bp (op + i * 5)) (pt bp (op + i * 5 + 4)) (fun _ => rfl) rfl (by kernel_rfl) rfl ?_
      refine wl_load 39 (.tmp 22) (pt bp (op + i * 5 + 4)) (.slice x.pi x.items.length x.ci) rfl rfl (D.run_oneR (hRp.mo M).at' 39 4 rfl Try.underlying39 rfl) rfl ?_
      refine wl_val (.int .i64 ((x.items.length : Nat) : Int)) (len39 _ _ _ _ _ (by exact rfl) _ _ _ _ _ _) rfl ?_
      refine wl_bin (fun x y => do eqGuard .lss 3 (.tmp 18) (.tmp 24) x y; binOp .lss 3 x y) (.tmp 18) (.tmp 24) (.int .i64 ((q : Nat) : Int)) (.int .i64 ((x.items.length : Nat) : Int)) (.bool false) (fun _ => rfl) rfl rfl (ltN hd2 _ _ _) rfl ?_
      refine w_nil ?_
      refine xn_then ?_
      refine w_condF rfl ?_
      refine w_skip ?_
      refine xn_then ?_
      refine w_reg ?_
      refine wl_mv (.tmp 1) (.int .i64 ((q : Nat) : Int)) (fun _ => rfl) e40_1 rfl ?_
      refine wl_mv (.tmp 0) (.slice pl l.length cl) (fun _ => rfl) e40_0 rfl ?_
      refine wl_mv (.tmp 7) (.int .i64 ((i : Nat) : Int)) (fun _ => rfl) e40_7 rfl ?_
      refine wl_bin (fun x y => Instr.indexAt 22 x y) (.tmp 29) (.tmp 30) (.slice pl l.length cl) (.int .i64 ((i : Nat) : Int)) (pt bp (op + i * 5)) (fun _ => rfl) rfl rfl (ix22 (i := i) hpp hil _) rfl ?_
      refine wl_un (fun v => Instr.fieldAt 55 v 4) (.tmp 31) (pt bp (op + i * 5)) (pt bp (op + i * 5 + 4)) (fun _ => rfl) rfl (by kernel_rfl) rfl ?_
      refine wl_load 39 (.tmp 32) (pt bp (op + i * 5 + 4)) (.slice x.pi x.items.length x.ci) rfl rfl (D.run_oneR (hRp.mo M).at' 39 4 rfl Try.underlying39 rfl) rfl ?_
      refine wl_val (.int .i64 ((x.items.length : Nat) : Int)) (len39 _ _ _ _ _ (by exact rfl) _ _ _ _ _ _) rfl ?_
      refine wl_bin (fun x y => do eqGuard .sub 3 (.tmp 28) (.tmp 34) x y; binOp .sub 3 x y) (.tmp 28) (.tmp 34) (.int .i64 ((q : Nat) : Int)) (.int .i64 ((x.items.length : Nat) : Int)) (.int .i64 ((q - x.items.length : Nat) : Int)) (fun _ => rfl) rfl rfl (subN (a := q) (b := x.items.length) (by omega) (by omega) _ _ _) rfl ?_
      refine wl_mv (.tmp 35) (.int .i64 ((q - x.items.length : Nat) : Int)) (fun _ => rfl) rfl rfl ?_
      refine w_nil ?_
      refine xn_blk ?_
      refine xn_then ?_
      refine w_reg ?_
      refine wl_mv (.tmp 7) (.int .i64 ((i : Nat) : Int)) (fun _ => rfl) e40_7 rfl ?_
      refine wl_bin (fun x y => do eqGuard .add 3 (.tmp 16) (.const (.int .i64 (1))) x y; binOp .add 3 x y) (.tmp 16) (.const (.int .i64 (1))) (.int .i64 ((i : Nat) : Int)) (.int .i64 (1)) (.int .i64 ((i + 1 : Nat) : Int)) (fun _ => rfl) rfl rfl (add1r (k := i) (by omega) _ _ _) rfl ?_
      refine wl_mv (.tmp 17) (.int .i64 ((i + 1 : Nat) : Int)) (fun _ => rfl) rfl rfl ?_
      refine w_nil ?_
      exact xn_loop (l.length - (i + 1)) (by omega) ⟨i + 1, q - x.items.length, rfl, e40_0, rfl, rfl, by omega, by omega, M⟩
  | false =>
    have hie : i = l.length := by have := of_decide_eq_false hd; omega
    refine w_seq ?_
    refine w_seq ?_
    refine w_reg ?_
    refine wl_mv (.tmp 7) (.int .i64 ((i : Nat) : Int)) (fun _ => rfl) e40_7 rfl ?_
    refine wl_mv (.tmp 0) (.slice pl l.length cl) (fun _ => rfl) e40_0 rfl ?_
    refine wl_val (.int .i64 ((l.length : Nat) : Int)) (len22 _ _ _ _ _ (by exact rfl) _ _ _ _ _ _) rfl ?_
    refine wl_bin (fun x y => do eqGuard .lss 3 (.tmp 8) (.tmp 10) x y; binOp .lss 3 x y) (.tmp 8) (.tmp 10) (.int .i64 ((i : Nat) : Int)) (.int .i64 ((l.length : Nat) : Int)) (.bool false) (fun _ => rfl) rfl rfl (ltN hd _ _ _) rfl ?_
    refine wl_mv (.tmp 11) (.bool false) (fun _ => rfl) rfl rfl ?_
    refine wl_skip rfl ?_
    refine wl_skip rfl ?_
    refine wl_pick (.tmp 12) (.tmp 14) (.const (.bool false)) false (.bool false) (fun _ => rfl) rfl rfl rfl ?_
    refine w_nil ?_
    refine xn_then ?_
    refine w_condF rfl ?_
    refine w_exit ?_
    refine xx_then ?_
    refine xx_then ?_
    refine xx_blk ?_
    refine xn_then ?_
    refine w_seq ?_
    refine w_reg ?_
    refine wl_mv (.const (.int .i64 (0))) (.int .i64 (0)) (fun _ => rfl) rfl rfl ?_
    refine wl_mv (.const (.int .i64 (0))) (.int .i64 (0)) (fun _ => rfl) rfl rfl ?_
    refine wl_mv (.const (.bool false)) (.bool false) (fun _ => rfl) rfl rfl ?_
    refine w_nil ?_
    refine xn_then ?_
    refine w_ret ?_
    exact w_ret3 _ _ _ (.int .i64 (0)) (.int .i64 (0)) (.bool false) rfl rfl rfl rfl (by exfalso; rw [hie] at hq0; unfold nI at hm; omega)
theorem of12_out {w : World} {l : List S5} {pl : Option Addr} {cl : Nat} (hL : SL w 5 S5.cells pl l) (hz : l.length < 400000) {nn : Nat} (hm : nI l ≤ nn) (hn : nn ≤ 9223372036854775807) : Calls Try.prog 12 #[.slice pl l.length cl, .int .i64 ((nn : Nat) : Int)] w fun e w' => e = .returned (.tuple #[.int .i64 0, .int .i64 0, .bool false]) ∧ Mo w w' := by
  have hlt : decide (nn < 0) = false := decide_eq_false (by omega)
  refine w_enter 31 Try.func12 Try.ntmps12 rfl rfl ?_
  have M : Mo w w := Mo.refl _
  refine w_seq ?_
  refine w_reg ?_
  refine wl_mv (.const (.int .i64 (0))) (.int .i64 (0)) (fun _ => rfl) rfl rfl ?_
  refine wl_mv (.const (.int .i64 (0))) (.int .i64 (0)) (fun _ => rfl) rfl rfl ?_
  refine wl_mv (.const (.bool false)) (.bool false) (fun _ => rfl) rfl rfl ?_
  refine w_nil ?_
  refine xn_then ?_
  refine w_seq ?_
  refine w_seq ?_
  refine w_reg ?_
  refine wl_mv (.tmp 1) (.int .i64 ((nn : Nat) : Int)) (fun _ => rfl) rfl rfl ?_
  refine wl_bin (fun x y => do eqGuard .lss 3 (.tmp 9) (.const (.int .i64 (0))) x y; binOp .lss 3 x y) (.tmp 9) (.const (.int .i64 (0))) (.int .i64 ((nn : Nat) : Int)) (.int .i64 (0)) (.bool false) (fun _ => rfl) rfl rfl (ltN hlt _ _ _) rfl ?_
  refine w_nil ?_
  refine xn_then ?_
  refine w_condF rfl ?_
  refine w_skip ?_
  refine xn_then ?_
  refine w_seq ?_
  refine w_seq ?_
  refine w_reg ?_
  refine wl_mv (.tmp 0) (.slice pl l.length cl) (fun _ => rfl) rfl rfl ?_
  refine wl_val (.int .i64 ((l.length : Nat) : Int)) (len22 _ _ _ _ _ (by exact rfl) _ _ _ _ _ _) rfl ?_
  refine wl_mv (.const (.int .i64 (0))) (.int .i64 (0)) (fun _ => rfl) rfl rfl ?_
  refine w_nil ?_
  refine xn_then ?_
  refine w_block ?_
  refine w_loop (fun m lf w1 => ∃ i : Nat, ∃ q : Nat, m = l.length - i ∧ look lf 0 = .slice pl l.length cl ∧ look lf 1 = .int .i64 ((q : Nat) : Int) ∧ look lf 12 = .int .i64 ((l.length : Nat) : Int) ∧ look lf 13 = .int .i64 ((i : Nat) : Int) ∧ (i ≤ l.length) ∧ (q + fsn l i = nn) ∧ (Mo w w1)) _ ⟨0, nn, rfl, rfl, rfl, rfl, rfl, Nat.zero_le _, by simp [fsn], M⟩ ?_
  clear M
  rintro m lf40 wl40 ⟨i, q, rfl, e40_0, e40_1, e40_12, e40_13, hi, hq0, M⟩
  cases hd : decide (i < l.length) with
  | true =>
    have hil := of_decide_eq_true hd
    obtain ⟨x, hx⟩ := get_of_lt hil
    have hfs := fsn_s hx
    have hfl := fsn_le l (i + 1)
    obtain ⟨bp, op, hpp, hRp⟩ := D.SL.rw hL hx
    cases hd2 : decide (q < x.items.length) with
    | true =>
      have hql := of_decide_eq_true hd2
      refine w_seq ?_
      refine w_reg ?_
      refine wl_bin (fun x y => do eqGuard .lss 3 (.tmp 13) (.tmp 12) x y; binOp .lss 3 x y) (.tmp 13) (.tmp 12) (.int .i64 ((i : Nat) : Int)) (.int .i64 ((l.length : Nat) : Int)) (.bool true) (fun _ => rfl) e40_13 e40_12 (ltN hd _ _ _) rfl ?_
      refine w_nil ?_
      refine xn_then ?_
      refine w_seq ?_
      refine w_condT rfl ?_
      refine w_skip ?_
      refine xn_then ?_
      refine w_seq ?_
      refine w_block ?_
      refine w_seq ?_
      refine w_reg ?_
      refine wl_mv (.tmp 13) (.int .i64 ((i : Nat) : Int)) (fun _ => rfl) e40_13 rfl ?_
      refine wl_mv (.tmp 15) (.int .i64 ((i : Nat) : Int)) (fun _ => rfl) rfl rfl ?_
      refine w_nil ?_
      refine xn_then ?_
      refine w_seq ?_
      refine w_reg ?_
      refine wl_mv (.tmp 0) (.slice pl l.length cl) (fun _ => rfl) e40_0 rfl ?_
      refine wl_mv (.tmp 7) (.int .i64 ((i : Nat) : Int)) (fun _ => rfl) rfl rfl ?_
      refine wl_bin (fun x y => Instr.indexAt 22 x y) (.tmp 16) (.tmp 17) (.slice pl l.length cl) (.int .i64 ((i : Nat) : Int)) (pt bp (op + i * 5)) (fun _ => rfl) rfl rfl (ix22 (i := i) hpp hil _) rfl ?_
      refine wl_un (fun v => Instr.fieldAt 55 v 4) (.tmp 18) (pt bp (op + i * 5)) (pt bp (op + i * 5 + 4)) (fun _ => rfl) rfl (by kernel_rfl) rfl ?_
      refine wl_load 39 (.tmp 19) (pt bp (op + i * 5 + 4)) (.slice x.pi x.items.length x.ci) rfl rfl (D.run_oneR (hRp.mo M).at' 39 4 rfl Try.underlying39 rfl) rfl ?_
      refine wl_val (.int .i64 ((x.items.length : Nat) : Int)) (len39 _ _ _ _ _ (by exact rfl) _ _ _ _ _ _) rfl ?_
      refine wl_mv (.tmp 21) (.int .i64 ((x.items.length : Nat) : Int)) (fun _ => rfl) rfl rfl ?_
      refine w_nil ?_
      refine xn_then ?_
      refine w_seq ?_
      refine w_seq ?_
      refine w_reg ?_
      refine wl_mv (.tmp 1) (.int .i64 ((q : Nat) : Int)) (fun _ => rfl) e40_1 rfl ?_
      refine wl_mv (.tmp 8) (.int .i64 ((x.items.length : Nat) : Int)) (fun _ => rfl) rfl rfl ?_
      refine wl_bin (fun x y => do eqGuard .lss 3 (.tmp 22) (.tmp 23) x y; binOp .lss 3 x y) (.tmp 22) (.tmp 23) (.int .i64 ((q : Nat) : Int)) (.int .i64 ((x.items.length : Nat) : Int)) (.bool true) (fun _ => rfl) rfl rfl (ltN hd2 _ _ _) rfl ?_
      refine w_nil ?_
      refine xn_then ?_
      refine w_condT rfl ?_
      refine w_seq ?_
      refine w_reg ?_
      refine wl_mv (.tmp 7) (.int .i64 ((i : Nat) : Int)) (fun _ => rfl) rfl rfl ?_
      refine wl_mv (.tmp 1) (.int .i64 ((q : Nat) : Int)) (fun _ => rfl) e40_1 rfl ?_
      refine wl_mv (.tmp 25) (.int .i64 ((i : Nat) : Int)) (fun _ => rfl) rfl rfl ?_
      refine wl_mv (.tmp 26) (.int .i64 ((q : Nat) : Int)) (fun _ => rfl) rfl rfl ?_
      refine wl_mv (.const (.bool true)) (.bool true) (fun _ => rfl) rfl rfl ?_
      refine w_nil ?_
      refine xn_then ?_
      refine w_ret ?_
      refine xr_then ?_
      refine xr_blk ?_
      refine xr_then ?_
      refine xr_then ?_
      refine xr_blk ?_
      refine xr_then ?_
      exact w_ret3 _ _ _ (.int .i64 ((i : Nat) : Int)) (.int .i64 ((q : Nat) : Int)) (.bool true) rfl rfl rfl rfl (by exfalso; omega)
    | false =>
      have hql := of_decide_eq_false hd2
      refine w_seq ?_
      refine w_reg ?_
      refine wl_bin (fun x y => do eqGuard .lss 3 (.tmp 13) (.tmp 12) x y; binOp .lss 3 x y) (.tmp 13) (.tmp 12) (.int .i64 ((i : Nat) : Int)) (.int .i64 ((l.length : Nat) : Int)) (.bool true) (fun _ => rfl) e40_13 e40_12 (ltN hd _ _ _) rfl ?_
      refine w_nil ?_
      refine xn_then ?_
      refine w_seq ?_
      refine w_condT rfl ?_
      refine w_skip ?_
      refine xn_then ?_
      refine w_seq ?_
      refine w_block ?_
      refine w_seq ?_
      refine w_reg ?_
      refine wl_mv (.tmp 13) (.int .i64 ((i : Nat) : Int)) (fun _ => rfl) e40_13 rfl ?_
      refine wl_mv (.tmp 15) (.int .i64 ((i : Nat) : Int)) (fun _ => rfl) rfl rfl ?_
      refine w_nil ?_
      refine xn_then ?_
      refine w_seq ?_
      refine w_reg ?_
      refine wl_mv (.tmp 0) (.slice pl l.length cl) (fun _ => rfl) e40_0 rfl ?_
      refine wl_mv (.tmp 7) (.int .i64 ((i : Nat) : Int)) (fun _ => rfl) rfl rfl ?_
      refine wl_bin (fun x y => Instr.indexAt 22 x y) (.tmp 16) (.tmp 17) (.slice pl l.length cl) (.int .i64 ((i : Nat) : Int)) (pt bp (op + i * 5)) (fun _ => rfl) rfl rfl (ix22 (i := i) hpp hil _) rfl ?_
      refine wl_un (fun v => Instr.fieldAt 55 v 4) (.tmp 18) (pt bp (op + i * 5)) (pt bp (op + i * 5 + 4)) (fun _ => rfl) rfl (by kernel_rfl) rfl ?_
      refine wl_load 39 (.tmp 19) (pt bp (op + i * 5 + 4)) (.slice x.pi x.items.length x.ci) rfl rfl (D.run_oneR (hRp.mo M).at' 39 4 rfl Try.underlying39 rfl) rfl ?_
      refine wl_val (.int .i64 ((x.items.length : Nat) : Int)) (len39 _ _ _ _ _ (by exact rfl) _ _ _ _ _ _) rfl ?_
      refine wl_mv (.tmp 21) (.int .i64 ((x.items.length : Nat) : Int)) (fun _ => rfl) rfl rfl ?_
      refine w_nil ?_
      refine xn_then ?_
      refine w_seq ?_
      refine w_seq ?_
      refine w_reg ?_
      refine wl_mv (.tmp 1) (.int .i64 ((q : Nat) : Int)) (fun _ => rfl) e40_1 rfl ?_
      refine wl_mv (.tmp 8) (.int .i64 ((x.items.length : Nat) : Int)) (fun _ => rfl) rfl rfl ?_
      refine wl_bin (fun x y => do eqGuard .lss 3 (.tmp 22) (.tmp 23) x y; binOp .lss 3 x y) (.tmp 22) (.tmp 23) (.int .i64 ((q : Nat) : Int)) (.int .i64 ((x.items.length : Nat) : Int)) (.bool false) (fun _ => rfl) rfl rfl (ltN hd2 _ _ _) rfl ?_
      refine w_nil ?_
      refine xn_then ?_
      refine w_condF rfl ?_
      refine w_skip ?_
      refine xn_then ?_
      refine w_reg ?_
      refine wl_mv (.tmp 1) (.int .i64 ((q : Nat) : Int)) (fun _ => rfl) e40_1 rfl ?_
      refine wl_mv (.tmp 8) (.int .i64 ((x.items.length : Nat) : Int)) (fun _ => rfl) rfl rfl ?_
      refine wl_bin (fun x y => do eqGuard .sub 3 (.tmp 27) (.tmp 28) x y; binOp .sub 3 x y) (.tmp 27) (.tmp 28) (.int .i64 ((q : Nat) : Int)) (.int .i64 ((x.items.length : Nat) : Int)) (.int .i64 ((q - x.items.length : Nat) : Int)) (fun _ => rfl) rfl rfl (subN (a := q) (b := x.items.length) (by omega) (by omega) _ _ _) rfl ?_
      refine wl_mv (.tmp 29) (.int .i64 ((q - x.items.length : Nat) : Int)) (fun _ => rfl) rfl rfl ?_
      refine w_nil ?_
      refine xn_blk ?_
      refine xn_then ?_
      refine w_reg ?_
      refine wl_bin (fun x y => do eqGuard .add 3 (.tmp 13) (.const (.int .i64 (1))) x y; binOp .add 3 x y) (.tmp 13) (.const (.int .i64 (1))) (.int .i64 ((i : Nat) : Int)) (.int .i64 (1)) (.int .i64 ((i + 1 : Nat) : Int)) (fun _ => rfl) e40_13 rfl (add1r (k := i) (by omega) _ _ _) rfl ?_
      refine wl_mv (.tmp 30) (.int .i64 ((i + 1 : Nat) : Int)) (fun _ => rfl) rfl rfl ?_
      refine w_nil ?_
      exact xn_loop (l.length - (i + 1)) (by omega) ⟨i + 1, q - x.items.length, rfl, e40_0, rfl, e40_12, rfl, by omega, by omega, M⟩
  | false =>
    have hie : i = l.length := by have := of_decide_eq_false hd; omega
    refine w_seq ?_
    refine w_reg ?_
    refine wl_bin (fun x y => do eqGuard .lss 3 (.tmp 13) (.tmp 12) x y; binOp .lss 3 x y) (.tmp 13) (.tmp 12) (.int .i64 ((i : Nat) : Int)) (.int .i64 ((l.length : Nat) : Int)) (.bool false) (fun _ => rfl) e40_13 e40_12 (ltN hd _ _ _) rfl ?_
    refine w_nil ?_
    refine xn_then ?_
    refine w_seq ?_
    refine w_condF rfl ?_
    refine w_exit ?_
    refine xx_then ?_
    refine xx_then ?_
    refine xx_blk ?_
    refine xn_then ?_
    refine w_seq ?_
    refine w_reg ?_
    refine wl_mv (.const (.int .i64 (0))) (.int .i64 (0)) (fun _ => rfl) rfl rfl ?_
    refine wl_mv (.const (.int .i64 (0))) (.int .i64 (0)) (fun _ => rfl) rfl rfl ?_
    refine wl_mv (.const (.bool false)) (.bool false) (fun _ => rfl) rfl rfl ?_
    refine w_nil ?_
    refine xn_then ?_
    refine w_ret ?_
    exact w_ret3 _ _ _ (.int .i64 (0)) (.int .i64 (0)) (.bool false) rfl rfl rfl rfl ⟨rfl, M⟩
theorem of12_neg {w : World} {l : List S5} {pl : Option Addr} {cl : Nat} {n : Int} (hn : n < 0) : Calls Try.prog 12 #[.slice pl l.length cl, .int .i64 n] w fun e w' => e = .returned (.tuple #[.int .i64 0, .int .i64 0, .bool false]) ∧ Mo w w' := by
  have hlt : decide (n < 0) = true := decide_eq_true hn
  refine w_enter 31 Try.func12 Try.ntmps12 rfl rfl ?_
  have M : Mo w w := Mo.refl _
  refine w_seq ?_
  refine w_reg ?_
  refine wl_mv (.const (.int .i64 (0))) (.int .i64 (0)) (fun _ => rfl) rfl rfl ?_
  refine wl_mv (.const (.int .i64 (0))) (.int .i64 (0)) (fun _ => rfl) rfl rfl ?_
  refine wl_mv (.const (.bool false)) (.bool false) (fun _ => rfl) rfl rfl ?_
  refine w_nil ?_
  refine xn_then ?_
  refine w_seq ?_
  refine w_seq ?_
  refine w_reg ?_
  refine wl_mv (.tmp 1) (.int .i64 (n)) (fun _ => rfl) rfl rfl ?_
  refine wl_bin (fun x y => do eqGuard .lss 3 (.tmp 9) (.const (.int .i64 (0))) x y; binOp .lss 3 x y) (.tmp 9) (.const (.int .i64 (0))) (.int .i64 (n)) (.int .i64 (0)) (.bool true) (fun _ => rfl) rfl rfl (lt3 hlt _ _ _) rfl ?_
  refine w_nil ?_
  refine xn_then ?_
  refine w_condT rfl ?_
  refine w_seq ?_
  refine w_reg ?_
  refine wl_mv (.const (.int .i64 (0))) (.int .i64 (0)) (fun _ => rfl) rfl rfl ?_
  refine wl_mv (.const (.int .i64 (0))) (.int .i64 (0)) (fun _ => rfl) rfl rfl ?_
  refine wl_mv (.const (.bool false)) (.bool false) (fun _ => rfl) rfl rfl ?_
  refine w_nil ?_
  refine xn_then ?_
  refine w_ret ?_
  refine xr_then ?_
  exact w_ret3 _ _ _ (.int .i64 (0)) (.int .i64 (0)) (.bool false) rfl rfl rfl rfl ⟨rfl, M⟩
theorem of13_out {w : World} {l : List S5} {pl : Option Addr} {cl : Nat} (hL : SL w 5 S5.cells pl l) (hz : l.length < 400000) {nn : Nat} (hm : nI l ≤ nn) (hn : nn ≤ 9223372036854775807) : Calls Try.prog 13 #[.slice pl l.length cl, .int .i64 ((nn : Nat) : Int)] w fun e w' => e = .returned (.tuple #[.int .i64 0, .int .i64 0, .bool false]) ∧ Mo w w' := by
  refine w_enter 36 Try.func13 Try.ntmps13 rfl rfl ?_
  have M : Mo w w := Mo.refl _
  refine w_seq ?_
  refine w_reg ?_
  refine wl_mv (.const (.int .i64 (0))) (.int .i64 (0)) (fun _ => rfl) rfl rfl ?_
  refine wl_mv (.const (.int .i64 (0))) (.int .i64 (0)) (fun _ => rfl) rfl rfl ?_
  refine wl_mv (.const (.bool false)) (.bool false) (fun _ => rfl) rfl rfl ?_
  refine w_nil ?_
  refine xn_then ?_
  refine w_seq ?_
  refine w_seq ?_
  refine w_reg ?_
  refine wl_mv (.const (.int .i64 (0))) (.int .i64 (0)) (fun _ => rfl) rfl rfl ?_
  refine w_nil ?_
  refine xn_then ?_
  refine w_block ?_
  refine w_loop (fun m lf w1 => ∃ i : Nat, ∃ q : Nat, m = l.length - i ∧ look lf 0 = .slice pl l.length cl ∧ look lf 1 = .int .i64 ((q : Nat) : Int) ∧ look lf 7 = .int .i64 ((i : Nat) : Int) ∧ (i ≤ l.length) ∧ (q + fsn l i = nn) ∧ (Mo w w1)) _ ⟨0, nn, rfl, rfl, rfl, rfl, Nat.zero_le _, by simp [fsn], M⟩ ?_
  clear M
  rintro m lf40 wl40 ⟨i, q, rfl, e40_0, e40_1, e40_7, hi, hq0, M⟩
  cases hd : decide (i < l.length) with
  | true =>
    have hil := of_decide_eq_true hd
    obtain ⟨x, hx⟩ := get_of_lt hil
    have hfs := fsn_s hx
    have hfl := fsn_le l (i + 1)
    obtain ⟨bp, op, hpp, hRp⟩ := D.SL.rw hL hx
    cases hd2 : decide (q < x.items.length) with
    | true =>
      have hql := of_decide_eq_true hd2
      refine w_seq ?_
      refine w_seq ?_
      refine w_reg ?_
      refine wl_mv (.tmp 7) (.int .i64 ((i : Nat) : Int)) (fun _ => rfl) e40_7 rfl ?_
      refine wl_mv (.tmp 0) (.slice pl l.length cl) (fun _ => rfl) e40_0 rfl ?_
      refine wl_val (.int .i64 ((l.length : Nat) : Int)) (len22 _ _ _ _ _ (by exact rfl) _ _ _ _ _ _) rfl ?_
      refine wl_bin (fun x y => do eqGuard .lss 3 (.tmp 8) (.tmp 10) x y; binOp .lss 3 x y) (.tmp 8) (.tmp 10) (.int .i64 ((i : Nat) : Int)) (.int .i64 ((l.length : Nat) : Int)) (.bool true) (fun _ => rfl) rfl rfl (ltN hd _ _ _) rfl ?_
      refine wl_mv (.tmp 11) (.bool true) (fun _ => rfl) rfl rfl ?_
      refine wl_mv (.tmp 1) (.int .i64 ((q : Nat) : Int)) (fun _ => rfl) e40_1 rfl ?_
      refine wl_bin (fun x y => do eqGuard .geq 3 (.tmp 13) (.const (.int .i64 (0))) x y; binOp .geq 3 x y) (.tmp 13) (.const (.int .i64 (0))) (.int .i64 ((q : Nat) : Int)) (.int .i64 (0)) (.bool true) (fun _ => rfl) rfl rfl (ge3 (r := true) (decide_eq_true (by omega)) _ _ _) rfl ?_
      refine wl_pick (.tmp 12) (.tmp 14) (.const (.bool false)) true (.bool true) (fun _ => rfl) rfl rfl rfl ?_
      refine w_nil ?_
      refine xn_then ?_
      refine w_condT rfl ?_
      refine w_skip ?_
      refine xn_then ?_
      refine w_seq ?_
      refine w_block ?_
      refine w_seq ?_
      refine w_seq ?_
      refine w_reg ?_
      refine wl_mv (.tmp 1) (.int .i64 ((q : Nat) : Int)) (fun _ => rfl) e40_1 rfl ?_
      refine wl_mv (.tmp 0) (.slice pl l.length cl) (fun _ => rfl) e40_0 rfl ?_
      refine wl_mv (.tmp 7) (.int .i64 ((i : Nat) : Int)) (fun _ => rfl) e40_7 rfl ?_
      refine wl_bin (fun x y => Instr.indexAt 22 x y) (.tmp 19) (.tmp 20) (.slice pl l.length cl) (.int .i64 ((i : Nat) : Int)) (pt bp (op + i * 5)) (fun _ => rfl) rfl rfl (ix22 (i := i) hpp hil _) rfl ?_
      refine wl_un (fun v => Instr.fieldAt 55 v 4) (.tmp 21) (pt bp (op + i * 5)) (pt bp (op + i * 5 + 4)) (fun _ => rfl) rfl (by kernel_rfl) rfl ?_
      refine wl_load 39 (.tmp 22) (pt bp (op + i * 5 + 4)) (.slice x.pi x.items.length x.ci) rfl rfl (D.run_oneR (hRp.mo M).at' 39 4 rfl Try.underlying39 rfl) rfl ?_
      refine wl_val (.int .i64 ((x.items.length : Nat) : Int)) (len39 _ _ _ _ _ (by exact rfl) _ _ _ _ _ _) rfl ?_
      refine wl_bin (fun x y => do eqGuard .lss 3 (.tmp 18) (.tmp 24) x y; binOp .lss 3 x y) (.tmp 18) (.tmp 24) (.int .i64 ((q : Nat) : Int)) (.int .i64 ((x.items.length : Nat) : Int)) (.bool true) (fun _ => rfl) rfl rfl (ltN hd2 _ _ _) rfl ?_
      refine w_nil ?_
      refine xn_then ?_
      refine w_condT rfl ?_
      refine w_seq ?_
      refine w_reg ?_
      refine wl_mv (.tmp 7) (.int .i64 ((i : Nat) : Int)) (fun _ => rfl) e40_7 rfl ?_
      refine wl_mv (.tmp 1) (.int .i64 ((q : Nat) : Int)) (fun _ => rfl) e40_1 rfl ?_
      refine wl_mv (.tmp 26) (.int .i64 ((i : Nat) : Int)) (fun _ => rfl) rfl rfl ?_
      refine wl_mv (.tmp 27) (.int .i64 ((q : Nat) : Int)) (fun _ => rfl) rfl rfl ?_
      refine wl_mv (.const (.bool true)) (.bool true) (fun _ => rfl) rfl rfl ?_
      refine w_nil ?_
      refine xn_then ?_
      refine w_ret ?_
      refine xr_then ?_
      refine xr_blk ?_
      refine xr_then ?_
      refine xr_then ?_
      refine xr_blk ?_
      refine xr_then ?_
      exact w_ret3 _ _ _ (.int .i64 ((i : Nat) : Int)) (.int .i64 ((q : Nat) : Int)) (.bool true) rfl rfl rfl rfl (by exfalso; omega)
    | false =>
      have hql := of_decide_eq_false hd2
      refine w_seq ?_
      refine w_seq ?_
      refine w_reg ?_
      refine wl_mv (.tmp 7) (.int .i64 ((i : Nat) : Int)) (fun _ => rfl) e40_7 rfl ?_
      refine wl_mv (.tmp 0) (.slice pl l.length cl) (fun _ => rfl) e40_0 rfl ?_
      refine wl_val (.int .i64 ((l.length : Nat) : Int)) (len22 _ _ _ _ _ (by exact rfl) _ _ _ _ _ _) rfl ?_
      refine wl_bin (fun x y => do eqGuard .lss 3 (.tmp 8) (.tmp 10) x y; binOp .lss 3 x y) (.tmp 8) (.tmp 10) (.int .i64 ((i : Nat) : Int)) (.int .i64 ((l.length : Nat) : Int)) (.bool true) (fun _ => rfl) rfl rfl (ltN hd _ _ _) rfl ?_
      refine wl_mv (.tmp 11) (.bool true) (fun _ => rfl) rfl rfl ?_
      refine wl_mv (.tmp 1) (.int .i64 ((q : Nat) : Int)) (fun _ => rfl) e40_1 rfl ?_
      refine wl_bin (fun x y => do eqGuard .geq 3 (.tmp 13) (.const (.int .i64 (0))) x y; binOp .geq 3 x y) (.tmp 13) (.const (.int .i64 (0))) (.int .i64 ((q : Nat) : Int)) (.int .i64 (0)) (.bool true) (fun _ => rfl) rfl rfl (ge3 (r := true) (decide_eq_true (by omega)) _ _ _) rfl ?_
      refine wl_pick (.tmp 12) (.tmp 14) (.const (.bool false)) true (.bool true) (fun _ => rfl) rfl rfl rfl ?_
      refine w_nil ?_
      refine xn_then ?_
      refine w_condT rfl ?_
      refine w_skip ?_
      refine xn_then ?_
      refine w_seq ?_
      refine w_block ?_
      refine w_seq ?_
      refine w_seq ?_
      refine w_reg ?_
      refine wl_mv (.tmp 1) (.int .i64 ((q : Nat) : Int)) (fun _ => rfl) e40_1 rfl ?_
      refine wl_mv (.tmp 0) (.slice pl l.length cl) (fun _ => rfl) e40_0 rfl ?_
      refine wl_mv (.tmp 7) (.int .i64 ((i : Nat) : Int)) (fun _ => rfl) e40_7 rfl ?_
      refine wl_bin (fun x y => Instr.indexAt 22 x y) (.tmp 19) (.tmp 20) (.slice pl l.length cl) (.int .i64 ((i : Nat) : Int)) (pt bp (op + i * 5)) (fun _ => rfl) rfl rfl (ix22 (i := i) hpp hil _) rfl ?_
      refine wl_un (fun v => Instr.fieldAt 55 v 4) (.tmp 21) (pt bp (op + i * 5)) (pt bp (op + i * 5 + 4)) (fun _ => rfl) rfl (by kernel_rfl) rfl ?_
      refine wl_load 39 (.tmp 22) (pt bp (op + i * 5 + 4)) (.slice x.pi x.items.length x.ci) rfl rfl (D.run_oneR (hRp.mo M).at' 39 4 rfl Try.underlying39 rfl) rfl ?_
      refine wl_val (.int .i64 ((x.items.length : Nat) : Int)) (len39 _ _ _ _ _ (by exact rfl) _ _ _ _ _ _) rfl ?_
      refine wl_bin (fun x y => do eqGuard .lss 3 (.tmp 18) (.tmp 24) x y; binOp .lss 3 x y) (.tmp 18) (.tmp 24) (.int .i64 ((q : Nat) : Int)) (.int .i64 ((x.items.length : Nat) : Int)) (.bool false) (fun _ => rfl) rfl rfl (ltN hd2 _ _ _) rfl ?_
      refine w_nil ?_
      refine xn_then ?_
      refine w_condF rfl ?_
      refine w_skip ?_
      refine xn_then ?_
      refine w_reg ?_
      refine wl_mv (.tmp 1) (.int .i64 ((q : Nat) : Int)) (fun _ => rfl) e40_1 rfl ?_
      refine wl_mv (.tmp 0) (.slice pl l.length cl) (fun _ => rfl) e40_0 rfl ?_
      refine wl_mv (.tmp 7) (.int .i64 ((i : Nat) : Int)) (fun _ => rfl) e40_7 rfl ?_
      refine wl_bin (fun x y => Instr.indexAt 22 x y) (.tmp 29) (.tmp 30) (.slice pl l.length cl) (.int .i64 ((i : Nat) : Int)) (pt bp (op + i * 5)) (fun _ => rfl) rfl rfl (ix22 (i := i) hpp hil _) rfl ?_
      refine wl_un (fun v => Instr.fieldAt 55 v 4) (.tmp 31) (pt bp (op + i * 5)) (pt bp (op + i * 5 + 4)) (fun _ => rfl) rfl (by kernel_rfl) rfl ?_
      refine wl_load 39 (.tmp 32) (pt bp (op + i * 5 + 4)) (.slice x.pi x.items.length x.ci) rfl rfl (D.run_oneR (hRp.mo M).at' 39 4 rfl Try.underlying39 rfl) rfl ?_
      refine wl_val (.int .i64 ((x.items.length : Nat) : Int)) (len39 _ _ _ _ _ (by exact rfl) _ _ _ _ _ _) rfl ?_
      refine wl_bin (fun x y => do eqGuard .sub 3 (.tmp 28) (.tmp 34) x y; binOp .sub 3 x y) (.tmp 28) (.tmp 34) (.int .i64 ((q : Nat) : Int)) (.int .i64 ((x.items.length : Nat) : Int)) (.int .i64 ((q - x.items.length : Nat) : Int)) (fun _ => rfl) rfl rfl (subN (a := q) (b := x.items.length) (by omega) (by omega) _ _ _) rfl ?_
      refine wl_mv (.tmp 35) (.int .i64 ((q - x.items.length : Nat) : Int)) (fun _ => rfl) rfl rfl ?_
      refine w_nil ?_
      refine xn_blk ?_
      refine xn_then ?_
      refine w_reg ?_
      refine wl_mv (.tmp 7) (.int .i64 ((i : Nat) : Int)) (fun _ => rfl) e40_7 rfl ?_
      refine wl_bin (fun x y => do eqGuard .add 3 (.tmp 16) (.const (.int .i64 (1))) x y; binOp .add 3 x y) (.tmp 16) (.const (.int .i64 (1))) (.int .i64 ((i : Nat) : Int)) (.int .i64 (1)) (.int .i64 ((i + 1 : Nat) : Int)) (fun _ => rfl) rfl rfl (add1r (k := i) (by omega) _ _ _) rfl ?_
      refine wl_mv (.tmp 17) (.int .i64 ((i + 1 : Nat) : Int)) (fun _ => rfl) rfl rfl ?_
      refine w_nil ?_
      exact xn_loop (l.length - (i + 1)) (by omega) ⟨i + 1, q - x.items.length, rfl, e40_0, rfl, rfl, by omega, by omega, M⟩
  | false =>
    have hie : i = l.length := by have := of_decide_eq_false hd; omega
    refine w_seq ?_
    refine w_seq ?_
    refine w_reg ?_
    refine wl_mv (.tmp 7) (.int .i64 ((i : Nat) : Int)) (fun _ => rfl) e40_7 rfl ?_
    refine wl_mv (.tmp 0) (.slice pl l.length cl) (fun _ => rfl) e40_0 rfl ?_
    refine wl_val (.int .i64 ((l.length : Nat) : Int)) (len22 _ _ _ _ _ (by exact rfl) _ _ _ _ _ _) rfl ?_
    refine wl_bin (fun x y => do eqGuard .lss 3 (.tmp 8) (.tmp 10) x y; binOp .lss 3 x y) (.tmp 8) (.tmp 10) (.int .i64 ((i : Nat) : Int)) (.int .i64 ((l.length : Nat) : Int)) (.bool false) (fun _ => rfl) rfl rfl (ltN hd _ _ _) rfl ?_
    refine wl_mv (.tmp 11) (.bool false) (fun _ => rfl) rfl rfl ?_
    refine wl_skip rfl ?_
    refine wl_skip rfl ?_
    refine wl_pick (.tmp 12) (.tmp 14) (.const (.bool false)) false (.bool false) (fun _ => rfl) rfl rfl rfl ?_
    refine w_nil ?_
    refine xn_then ?_
    refine w_condF rfl ?_
    refine w_exit ?_
    refine xx_then ?_
    refine xx_then ?_
    refine xx_blk ?_
    refine xn_then ?_
    refine w_seq ?_
    refine w_reg ?_
    refine wl_mv (.const (.int .i64 (0))) (.int .i64 (0)) (fun _ => rfl) rfl rfl ?_
    refine wl_mv (.const (.int .i64 (0))) (.int .i64 (0)) (fun _ => rfl) rfl rfl ?_
    refine wl_mv (.const (.bool false)) (.bool false) (fun _ => rfl) rfl rfl ?_
    refine w_nil ?_
    refine xn_then ?_
    refine w_ret ?_
    exact w_ret3 _ _ _ (.int .i64 (0)) (.int .i64 (0)) (.bool false) rfl rfl rfl rfl ⟨rfl, M⟩
theorem of13_neg {w : World} {l : List S5} {pl : Option Addr} {cl : Nat} {n : Int} (hn : n < 0) : Calls Try.prog 13 #[.slice pl l.length cl, .int .i64 n] w fun e w' => e = .returned (.tuple #[.int .i64 0, .int .i64 0, .bool false]) ∧ Mo w w' := by
  have hge : decide (0 ≤ n) = false := decide_eq_false (by omega)
  refine w_enter 36 Try.func13 Try.ntmps13 rfl rfl ?_
  have M : Mo w w := Mo.refl _
  refine w_seq ?_
  refine w_reg ?_
  refine wl_mv (.const (.int .i64 (0))) (.int .i64 (0)) (fun _ => rfl) rfl rfl ?_
  refine wl_mv (.const (.int .i64 (0))) (.int .i64 (0)) (fun _ => rfl) rfl rfl ?_
  refine wl_mv (.const (.bool false)) (.bool false) (fun _ => rfl) rfl rfl ?_
  refine w_nil ?_
  refine xn_then ?_
  refine w_seq ?_
  refine w_seq ?_
  refine w_reg ?_
  refine wl_mv (.const (.int .i64 (0))) (.int .i64 (0)) (fun _ => rfl) rfl rfl ?_
  refine w_nil ?_
  refine xn_then ?_
  refine w_block ?_
  refine w_loop (fun m lf w1 => ∃ i : Nat, m = i ∧ look lf 0 = .slice pl l.length cl ∧ look lf 1 = .int .i64 (n) ∧ look lf 7 = .int .i64 (0) ∧ (i = 0) ∧ (Mo w w1)) _ ⟨0, rfl, rfl, rfl, rfl, rfl, M⟩ ?_
  clear M
  rintro m lf40 wl40 ⟨i, rfl, e40_0, e40_1, e40_7, hi, M⟩
  refine w_seq ?_
  refine w_seq ?_
  refine w_reg ?_
  refine wl_mv (.tmp 7) (.int .i64 (0)) (fun _ => rfl) e40_7 rfl ?_
  refine wl_mv (.tmp 0) (.slice pl l.length cl) (fun _ => rfl) e40_0 rfl ?_
  refine wl_val (.int .i64 ((l.length : Nat) : Int)) (len22 _ _ _ _ _ (by exact rfl) _ _ _ _ _ _) rfl ?_
  cases hf30 : decide (0 < l.length) with
  | true =>
    have hf30p := of_decide_eq_true hf30
    refine wl_bin (fun x y => do eqGuard .lss 3 (.tmp 8) (.tmp 10) x y; binOp .lss 3 x y) (.tmp 8) (.tmp 10) (.int .i64 (0)) (.int .i64 ((l.length : Nat) : Int)) (.bool true) (fun _ => rfl) rfl rfl (ltN hf30 _ _ _) rfl ?_
    refine wl_mv (.tmp 11) (.bool true) (fun _ => rfl) rfl rfl ?_
    refine wl_mv (.tmp 1) (.int .i64 (n)) (fun _ => rfl) e40_1 rfl ?_
    refine wl_bin (fun x y => do eqGuard .geq 3 (.tmp 13) (.const (.int .i64 (0))) x y; binOp .geq 3 x y) (.tmp 13) (.const (.int .i64 (0))) (.int .i64 (n)) (.int .i64 (0)) (.bool false) (fun _ => rfl) rfl rfl (ge3 hge _ _ _) rfl ?_
    refine wl_pick (.tmp 12) (.tmp 14) (.const (.bool false)) true (.bool false) (fun _ => rfl) rfl rfl rfl ?_
    refine w_nil ?_
    refine xn_then ?_
    refine w_condF rfl ?_
    refine w_exit ?_
    refine xx_then ?_
    refine xx_then ?_
    refine xx_blk ?_
    refine xn_then ?_
    refine w_seq ?_
    refine w_reg ?_
    refine wl_mv (.const (.int .i64 (0))) (.int .i64 (0)) (fun _ => rfl) rfl rfl ?_
    refine wl_mv (.const (.int .i64 (0))) (.int .i64 (0)) (fun _ => rfl) rfl rfl ?_
    refine wl_mv (.const (.bool false)) (.bool false) (fun _ => rfl) rfl rfl ?_
    refine w_nil ?_
    refine xn_then ?_
    refine w_ret ?_
    exact w_ret3 _ _ _ (.int .i64 (0)) (.int .i64 (0)) (.bool false) rfl rfl rfl rfl ⟨rfl, M⟩
  | false =>
    have hf30p := of_decide_eq_false hf30
    refine wl_bin (fun x y => do eqGuard .lss 3 (.tmp 8) (.tmp 10) x y; binOp .lss 3 x y) (.tmp 8) (.tmp 10) (.int .i64 (0)) (.int .i64 ((l.length : Nat) : Int)) (.bool false) (fun _ => rfl) rfl rfl (ltN hf30 _ _ _) rfl ?_
    refine wl_mv (.tmp 11) (.bool false) (fun _ => rfl) rfl rfl ?_
    refine wl_skip rfl ?_
    refine wl_skip rfl ?_
    refine wl_pick (.tmp 12) (.tmp 14) (.const (.bool false)) false (.bool false) (fun _ => rfl) rfl rfl rfl ?_
    refine w_nil ?_
    refine xn_then ?_
    refine w_condF rfl ?_
    refine w_exit ?_
    refine xx_then ?_
    refine xx_then ?_
    refine xx_blk ?_
    refine xn_then ?_
    refine w_seq ?_
    refine w_reg ?_
    refine wl_mv (.const (.int .i64 (0))) (.int .i64 (0)) (fun _ => rfl) rfl rfl ?_
    refine wl_mv (.const (.int .i64 (0))) (.int .i64 (0)) (fun _ => rfl) rfl rfl ?_
    refine wl_mv (.const (.bool false)) (.bool false) (fun _ => rfl) rfl rfl ?_
    refine w_nil ?_
    refine xn_then ?_
    refine w_ret ?_
    exact w_ret3 _ _ _ (.int .i64 (0)) (.int .i64 (0)) (.bool false) rfl rfl rfl rfl ⟨rfl, M⟩
end Go.Proofs.Ythghblgbjgghcaa
namespace Go.Proofs.Ythghblgbjgghcaa
open Go.RowKit D
theorem num11_n {w : World} {l : List S5} {pl : Option Addr} {cl : Nat} (hL : SL w 5 S5.cells pl l) (hz : l.length < 400000) (hzI : nI l < 400000) {s j : Nat} {y : S5} (hy : l[s]? = some y) (hj : j < y.items.length) : Calls Try.prog 11 #[.slice pl l.length cl, .int .i64 ((s : Nat) : Int), .int .i64 ((j : Nat) : Int)] w fun e w' => e = .returned (.tuple #[.int .i64 ((fsn l s + j : Nat) : Int), .bool true]) ∧ Mo w w' := by
  have hsl := lt_of_get hy
  have hf0 : decide (s < 0) = false := decide_eq_false (by omega)
  have hf1 : decide (((l.length : Nat) : Int) ≤ ((s : Nat) : Int)) = false := decide_eq_false (by omega)
  have hf2 : decide (j < 0) = false := decide_eq_false (by omega)
  have hf3 : decide (((y.items.length : Nat) : Int) ≤ ((j : Nat) : Int)) = false := decide_eq_false (by omega)
  have hfY := fsn_s hy
  have hfZ := fsn_le l (s + 1)
  refine w_enter 47 Try.func11 Try.ntmps11 rfl rfl ?_
  have M : Mo w w := Mo.refl _
  refine w_seq ?_
  refine w_reg ?_
  refine wl_mv (.const (.int .i64 (0))) (.int .i64 (0)) (fun _ => rfl) rfl rfl ?_
  refine wl_mv (.const (.bool false)) (.bool false) (fun _ => rfl) rfl rfl ?_
  refine w_nil ?_
  refine xn_then ?_
  refine w_seq ?_
  refine w_seq ?_
  obtain ⟨bv, ov, hpv, hRv⟩ := D.SL.rw hL hy
  refine w_reg ?_
  refine wl_mv (.tmp 1) (.int .i64 ((s : Nat) : Int)) (fun _ => rfl) rfl rfl ?_
  refine wl_bin (fun x y => do eqGuard .lss 3 (.tmp 10) (.const (.int .i64 (0))) x y; binOp .lss 3 x y) (.tmp 10) (.const (.int .i64 (0))) (.int .i64 ((s : Nat) : Int)) (.int .i64 (0)) (.bool false) (fun _ => rfl) rfl rfl (ltN hf0 _ _ _) rfl ?_
  refine wl_mv (.tmp 11) (.bool false) (fun _ => rfl) rfl rfl ?_
  refine wl_mv (.tmp 1) (.int .i64 ((s : Nat) : Int)) (fun _ => rfl) rfl rfl ?_
  refine wl_mv (.tmp 0) (.slice pl l.length cl) (fun _ => rfl) rfl rfl ?_
  refine wl_val (.int .i64 ((l.length : Nat) : Int)) (len22 _ _ _ _ _ (by exact rfl) _ _ _ _ _ _) rfl ?_
  refine wl_bin (fun x y => do eqGuard .geq 3 (.tmp 13) (.tmp 15) x y; binOp .geq 3 x y) (.tmp 13) (.tmp 15) (.int .i64 ((s : Nat) : Int)) (.int .i64 ((l.length : Nat) : Int)) (.bool false) (fun _ => rfl) rfl rfl (ge3 hf1 _ _ _) rfl ?_
  refine wl_pick (.tmp 12) (.const (.bool true)) (.tmp 16) false (.bool false) (fun _ => rfl) rfl rfl rfl ?_
  refine wl_mv (.tmp 17) (.bool false) (fun _ => rfl) rfl rfl ?_
  refine wl_mv (.tmp 2) (.int .i64 ((j : Nat) : Int)) (fun _ => rfl) rfl rfl ?_
  refine wl_bin (fun x y => do eqGuard .lss 3 (.tmp 19) (.const (.int .i64 (0))) x y; binOp .lss 3 x y) (.tmp 19) (.const (.int .i64 (0))) (.int .i64 ((j : Nat) : Int)) (.int .i64 (0)) (.bool false) (fun _ => rfl) rfl rfl (ltN hf2 _ _ _) rfl ?_
  refine wl_pick (.tmp 18) (.const (.bool true)) (.tmp 20) false (.bool false) (fun _ => rfl) rfl rfl rfl ?_
  refine wl_mv (.tmp 21) (.bool false) (fun _ => rfl) rfl rfl ?_
  refine wl_mv (.tmp 2) (.int .i64 ((j : Nat) : Int)) (fun _ => rfl) rfl rfl ?_
  refine wl_mv (.tmp 0) (.slice pl l.length cl) (fun _ => rfl) rfl rfl ?_
  refine wl_mv (.tmp 1) (.int .i64 ((s : Nat) : Int)) (fun _ => rfl) rfl rfl ?_
  refine wl_bin (fun x y => Instr.indexAt 22 x y) (.tmp 24) (.tmp 25) (.slice pl l.length cl) (.int .i64 ((s : Nat) : Int)) (pt bv (ov + s * 5)) (fun _ => rfl) rfl rfl (ix22 (i := s) hpv hsl _) rfl ?_
  refine wl_un (fun v => Instr.fieldAt 55 v 4) (.tmp 26) (pt bv (ov + s * 5)) (pt bv (ov + s * 5 + 4)) (fun _ => rfl) rfl (by kernel_rfl) rfl ?_
  refine wl_load 39 (.tmp 27) (pt bv (ov + s * 5 + 4)) (.slice y.pi y.items.length y.ci) rfl rfl (D.run_oneR (hRv.mo M).at' 39 4 rfl Try.underlying39 rfl) rfl ?_
  refine wl_val (.int .i64 ((y.items.length : Nat) : Int)) (len39 _ _ _ _ _ (by exact rfl) _ _ _ _ _ _) rfl ?_
  refine wl_bin (fun x y => do eqGuard .geq 3 (.tmp 23) (.tmp 29) x y; binOp .geq 3 x y) (.tmp 23) (.tmp 29) (.int .i64 ((j : Nat) : Int)) (.int .i64 ((y.items.length : Nat) : Int)) (.bool false) (fun _ => rfl) rfl rfl (ge3 hf3 _ _ _) rfl ?_
  refine wl_pick (.tmp 22) (.const (.bool true)) (.tmp 30) false (.bool false) (fun _ => rfl) rfl rfl rfl ?_
  refine w_nil ?_
  refine xn_then ?_
  refine w_condF rfl ?_
  refine w_skip ?_
  refine xn_then ?_
  refine w_seq ?_
  refine w_reg ?_
  refine wl_mv (.tmp 2) (.int .i64 ((j : Nat) : Int)) (fun _ => rfl) rfl rfl ?_
  refine wl_mv (.tmp 32) (.int .i64 ((j : Nat) : Int)) (fun _ => rfl) rfl rfl ?_
  refine w_nil ?_
  refine xn_then ?_
  refine w_seq ?_
  refine w_seq ?_
  refine w_reg ?_
  refine wl_mv (.const (.int .i64 (0))) (.int .i64 (0)) (fun _ => rfl) rfl rfl ?_
  refine w_nil ?_
  refine xn_then ?_
  refine w_block ?_
  refine w_loop (fun m lf w1 => ∃ i : Nat, m = s - i ∧ look lf 0 = .slice pl l.length cl ∧ look lf 1 = .int .i64 ((s : Nat) : Int) ∧ look lf 8 = .int .i64 ((j + fsn l i : Nat) : Int) ∧ look lf 9 = .int .i64 ((i : Nat) : Int) ∧ (i ≤ s) ∧ (Mo w w1)) _ ⟨0, rfl, rfl, rfl, rfl, rfl, Nat.zero_le _, M⟩ ?_
  clear M
  rintro m lf40 wl40 ⟨i, rfl, e40_0, e40_1, e40_8, e40_9, hi, M⟩
  cases hd : decide (i < s) with
  | true =>
    have hil := of_decide_eq_true hd
    obtain ⟨x, hx⟩ := get_of_lt (show i < l.length by omega)
    have hfs := fsn_s hx
    have hfm := fsn_mono (l := l) (show i + 1 ≤ s by omega)
    have hil2 : i < l.length := by omega
    obtain ⟨bp, op, hpp, hRp⟩ := D.SL.rw hL hx
    refine w_seq ?_
    refine w_seq ?_
    refine w_reg ?_
    refine wl_mv (.tmp 9) (.int .i64 ((i : Nat) : Int)) (fun _ => rfl) e40_9 rfl ?_
    refine wl_mv (.tmp 1) (.int .i64 ((s : Nat) : Int)) (fun _ => rfl) e40_1 rfl ?_
    refine wl_bin (fun x y => do eqGuard .lss 3 (.tmp 33) (.tmp 34) x y; binOp .lss 3 x y) (.tmp 33) (.tmp 34) (.int .i64 ((i : Nat) : Int)) (.int .i64 ((s : Nat) : Int)) (.bool true) (fun _ => rfl) rfl rfl (ltN hd _ _ _) rfl ?_
    refine w_nil ?_
    refine xn_then ?_
    refine w_condT rfl ?_
    refine w_skip ?_
    refine xn_then ?_
    refine w_seq ?_
    refine w_block ?_
    refine w_reg ?_
    refine wl_mv (.tmp 8) (.int .i64 ((j + fsn l i : Nat) : Int)) (fun _ => rfl) e40_8 rfl ?_
    refine wl_mv (.tmp 0) (.slice pl l.length cl) (fun _ => rfl) e40_0 rfl ?_
    refine wl_mv (.tmp 9) (.int .i64 ((i : Nat) : Int)) (fun _ => rfl) e40_9 rfl ?_
    refine wl_bin (fun x y => Instr.indexAt 22 x y) (.tmp 39) (.tmp 40) (.slice pl l.length cl) (.int .i64 ((i : Nat) : Int)) (pt bp (op + i * 5)) (fun _ => rfl) rfl rfl (ix22 (i := i) hpp hil2 _) rfl ?_
    refine wl_un (fun v => Instr.fieldAt 55 v 4) (.tmp 41) (pt bp (op + i * 5)) (pt bp (op + i * 5 + 4)) (fun _ => rfl) rfl (by kernel_rfl) rfl ?_
    refine wl_load 39 (.tmp 42) (pt bp (op + i * 5 + 4)) (.slice x.pi x.items.length x.ci) rfl rfl (D.run_oneR (hRp.mo M).at' 39 4 rfl Try.underlying39 rfl) rfl ?_
    refine wl_val (.int .i64 ((x.items.length : Nat) : Int)) (len39 _ _ _ _ _ (by exact rfl) _ _ _ _ _ _) rfl ?_
    refine wl_bin (fun x y => do eqGuard .add 3 (.tmp 38) (.tmp 44) x y; binOp .add 3 x y) (.tmp 38) (.tmp 44) (.int .i64 ((j + fsn l i : Nat) : Int)) (.int .i64 ((x.items.length : Nat) : Int)) (.int .i64 ((j + fsn l i + x.items.length : Nat) : Int)) (fun _ => rfl) rfl rfl (addN (a := j + fsn l i) (b := x.items.length) (by omega) _ _ _) rfl ?_
    refine wl_mv (.tmp 45) (.int .i64 ((j + fsn l i + x.items.length : Nat) : Int)) (fun _ => rfl) rfl rfl ?_
    refine w_nil ?_
    refine xn_blk ?_
    refine xn_then ?_
    refine w_reg ?_
    refine wl_mv (.tmp 9) (.int .i64 ((i : Nat) : Int)) (fun _ => rfl) e40_9 rfl ?_
    refine wl_bin (fun x y => do eqGuard .add 3 (.tmp 36) (.const (.int .i64 (1))) x y; binOp .add 3 x y) (.tmp 36) (.const (.int .i64 (1))) (.int .i64 ((i : Nat) : Int)) (.int .i64 (1)) (.int .i64 ((i + 1 : Nat) : Int)) (fun _ => rfl) rfl rfl (add1r (k := i) (by omega) _ _ _) rfl ?_
    refine wl_mv (.tmp 37) (.int .i64 ((i + 1 : Nat) : Int)) (fun _ => rfl) rfl rfl ?_
    refine w_nil ?_
    exact xn_loop (s - (i + 1)) (by omega) ⟨i + 1, rfl, e40_0, e40_1, (by rw [hfs, ← Nat.add_assoc]; exact rfl), rfl, by omega, M⟩
  | false =>
    have hie : i = s := by have := of_decide_eq_false hd; omega
    refine w_seq ?_
    refine w_seq ?_
    refine w_reg ?_
    refine wl_mv (.tmp 9) (.int .i64 ((i : Nat) : Int)) (fun _ => rfl) e40_9 rfl ?_
    refine wl_mv (.tmp 1) (.int .i64 ((s : Nat) : Int)) (fun _ => rfl) e40_1 rfl ?_
    refine wl_bin (fun x y => do eqGuard .lss 3 (.tmp 33) (.tmp 34) x y; binOp .lss 3 x y) (.tmp 33) (.tmp 34) (.int .i64 ((i : Nat) : Int)) (.int .i64 ((s : Nat) : Int)) (.bool false) (fun _ => rfl) rfl rfl (ltN hd _ _ _) rfl ?_
    refine w_nil ?_
    refine xn_then ?_
    refine w_condF rfl ?_
    refine w_exit ?_
    refine xx_then ?_
    refine xx_then ?_
    refine xx_blk ?_
    refine xn_then ?_
    refine w_seq ?_
    refine w_reg ?_
    refine wl_mv (.tmp 8) (.int .i64 ((j + fsn l i : Nat) : Int)) (fun _ => rfl) e40_8 rfl ?_
    refine wl_mv (.tmp 46) (.int .i64 ((j + fsn l i : Nat) : Int)) (fun _ => rfl) rfl rfl ?_
    refine wl_mv (.const (.bool true)) (.bool true) (fun _ => rfl) rfl rfl ?_
    refine w_nil ?_
    refine xn_then ?_
    refine w_ret ?_
    exact w_ret2 _ _ (.int .i64 ((j + fsn l i : Nat) : Int)) (.bool true) rfl rfl rfl ⟨by rw [hie, Nat.add_comm], M⟩
theorem own_some {its : List It} {nm : ByteArray} {i : Nat} {y : It} (hy : its[i]? = some y) (h : (rdb y.k && decide (y.nm = nm)) = true) (hno : ∀ z ∈ its.take i, (rdb z.k && decide (z.nm = nm)) = false) : ownI its nm = some i := by
  unfold ownI
  rw [List.findIdx?_eq_some_iff_getElem]
  have hil := lt_of_get hy
  have e : its[i] = y := by rw [List.getElem?_eq_getElem hil] at hy; exact Option.some.inj hy
  refine ⟨hil, by rw [e]; exact h, fun j hj => ?_⟩
  have hm : its[j] ∈ its.take i := by
    have : (its.take i)[j]? = some its[j] := by rw [List.getElem?_take_of_lt hj, List.getElem?_eq_getElem (by omega)]
    exact List.mem_of_getElem? this
  rw [hno _ hm]; simp
theorem own_none {its : List It} {nm : ByteArray} (hno : ∀ z ∈ its, (rdb z.k && decide (z.nm = nm)) = false) : ownI its nm = none := by
  unfold ownI
  rw [List.findIdx?_eq_none_iff]
  exact fun x hx => hno x hx
/-- What readable answers. -/
def rdA (o : Option Nat) : Value := match o with | some i => .tuple #[.int .i64 ((i : Nat) : Int), .bool true] | none => .tuple #[.int .i64 0, .bool false]
theorem read73_n {w : World} {pa : Option Addr} {cap : Nat} {its : List It} (hL : SL w 23 It.cells pa its) (nm : ByteArray) : Calls Try.prog 73 #[.slice pa its.length cap, .string nm] w fun e w' => e = .returned (rdA (ownI its nm)) ∧ Mo w w' := by
  have hz9 := hL.1
  unfold maxLen at hz9
  refine w_enter 37 Try.func73 Try.ntmps73 rfl rfl ?_
  have M : Mo w w := Mo.refl _
  refine w_seq ?_
  refine w_reg ?_
  refine wl_mv (.const (.int .i64 (0))) (.int .i64 (0)) (fun _ => rfl) rfl rfl ?_
  refine wl_mv (.const (.bool false)) (.bool false) (fun _ => rfl) rfl rfl ?_
  refine w_nil ?_
  refine xn_then ?_
  refine w_seq ?_
  refine w_seq ?_
  refine w_reg ?_
  refine wl_mv (.const (.int .i64 (0))) (.int .i64 (0)) (fun _ => rfl) rfl rfl ?_
  refine w_nil ?_
  refine xn_then ?_
  refine w_block ?_
  refine w_loop (fun m lf w1 => ∃ i : Nat, m = its.length - i ∧ look lf 0 = .slice pa its.length cap ∧ look lf 1 = .string nm ∧ look lf 6 = .int .i64 ((i : Nat) : Int) ∧ (i ≤ its.length) ∧ (∀ z ∈ its.take i, (rdb z.k && decide (z.nm = nm)) = false) ∧ (Mo w w1)) _ ⟨0, rfl, rfl, rfl, rfl, Nat.zero_le _, (fun z hz => by simp at hz), M⟩ ?_
  clear M
  rintro m lf40 wl40 ⟨i, rfl, e40_0, e40_1, e40_6, hi, hno, M⟩
  cases hd : decide (i < its.length) with
  | true =>
    have hil := of_decide_eq_true hd
    obtain ⟨x, hx⟩ := get_of_lt hil
    obtain ⟨bp, op, hpp, hRp⟩ := D.SL.rw hL hx
    refine w_seq ?_
    refine w_seq ?_
    refine w_reg ?_
    refine wl_mv (.tmp 6) (.int .i64 ((i : Nat) : Int)) (fun _ => rfl) e40_6 rfl ?_
    refine wl_mv (.tmp 0) (.slice pa its.length cap) (fun _ => rfl) e40_0 rfl ?_
    refine wl_val (.int .i64 ((its.length : Nat) : Int)) (len39 _ _ _ _ _ (by exact rfl) _ _ _ _ _ _) rfl ?_
    refine wl_bin (fun x y => do eqGuard .lss 3 (.tmp 7) (.tmp 9) x y; binOp .lss 3 x y) (.tmp 7) (.tmp 9) (.int .i64 ((i : Nat) : Int)) (.int .i64 ((its.length : Nat) : Int)) (.bool true) (fun _ => rfl) rfl rfl (ltN hd _ _ _) rfl ?_
    refine w_nil ?_
    refine xn_then ?_
    refine w_condT rfl ?_
    refine w_skip ?_
    refine xn_then ?_
    refine w_seq ?_
    refine w_block ?_
    refine w_seq ?_
    refine w_reg ?_
    refine wl_mv (.tmp 0) (.slice pa its.length cap) (fun _ => rfl) e40_0 rfl ?_
    refine wl_mv (.tmp 6) (.int .i64 ((i : Nat) : Int)) (fun _ => rfl) e40_6 rfl ?_
    refine wl_bin (fun x y => Instr.indexAt 39 x y) (.tmp 13) (.tmp 14) (.slice pa its.length cap) (.int .i64 ((i : Nat) : Int)) (pt bp (op + i * 23)) (fun _ => rfl) rfl rfl (ix39 (i := i) hpp hil _) rfl ?_
    refine wl_un (fun v => Instr.fieldAt 69 v 0) (.tmp 15) (pt bp (op + i * 23)) (pt bp (op + i * 23)) (fun _ => rfl) rfl (by kernel_rfl) rfl ?_
    refine wl_load 9 (.tmp 16) (pt bp (op + i * 23)) (.string x.nm) rfl rfl (D.run_oneR (hRp.mo M).at' 9 0 rfl Try.underlying9 rfl) rfl ?_
    refine wl_mv (.tmp 1) (.string nm) (fun _ => rfl) e40_1 rfl ?_
    cases hf30 : decide (x.nm = nm) with
    | true =>
      have hf30p := of_decide_eq_true hf30
      refine wl_bin (fun x y => do eqGuard .eql 9 (.tmp 17) (.tmp 18) x y; binOp .eql 9 x y) (.tmp 17) (.tmp 18) (.string x.nm) (.string nm) (.bool true) (fun _ => rfl) rfl rfl (s9 hf30 _ _ _) rfl ?_
      refine wl_mv (.tmp 19) (.bool true) (fun _ => rfl) rfl rfl ?_
      refine wl_mv (.tmp 0) (.slice pa its.length cap) (fun _ => rfl) e40_0 rfl ?_
      refine wl_mv (.tmp 6) (.int .i64 ((i : Nat) : Int)) (fun _ => rfl) e40_6 rfl ?_
      refine wl_bin (fun x y => Instr.indexAt 39 x y) (.tmp 21) (.tmp 22) (.slice pa its.length cap) (.int .i64 ((i : Nat) : Int)) (pt bp (op + i * 23)) (fun _ => rfl) rfl rfl (ix39 (i := i) hpp hil _) rfl ?_
      refine wl_un (fun v => Instr.fieldAt 69 v 1) (.tmp 23) (pt bp (op + i * 23)) (pt bp (op + i * 23 + 1)) (fun _ => rfl) rfl (by kernel_rfl) rfl ?_
      refine wl_load 3 (.tmp 24) (pt bp (op + i * 23 + 1)) (.int .i64 (x.k)) rfl rfl (D.run_oneR (hRp.mo M).at' 3 1 rfl Try.underlying3 rfl) rfl ?_
      cases hf31 : decide (x.k = 1) with
      | true =>
        have hf31p := of_decide_eq_true hf31
        refine wl_bin (fun x y => do eqGuard .eql 3 (.tmp 25) (.const (.int .i64 (1))) x y; binOp .eql 3 x y) (.tmp 25) (.const (.int .i64 (1))) (.int .i64 (x.k)) (.int .i64 (1)) (.bool true) (fun _ => rfl) rfl rfl (eq3 hf31 _ _ _) rfl ?_
        refine wl_mv (.tmp 26) (.bool true) (fun _ => rfl) rfl rfl ?_
        refine wl_skip rfl ?_
        refine wl_skip rfl ?_
        refine wl_skip rfl ?_
        refine wl_skip rfl ?_
        refine wl_skip rfl ?_
        refine wl_skip rfl ?_
        refine wl_pick (.tmp 27) (.const (.bool true)) (.tmp 33) true (.bool true) (fun _ => rfl) rfl rfl rfl ?_
        refine wl_pick (.tmp 20) (.tmp 34) (.const (.bool false)) true (.bool true) (fun _ => rfl) rfl rfl rfl ?_
        refine w_nil ?_
        refine xn_then ?_
        refine w_condT rfl ?_
        refine w_seq ?_
        refine w_reg ?_
        refine wl_mv (.tmp 6) (.int .i64 ((i : Nat) : Int)) (fun _ => rfl) e40_6 rfl ?_
        refine wl_mv (.tmp 36) (.int .i64 ((i : Nat) : Int)) (fun _ => rfl) rfl rfl ?_
        refine wl_mv (.const (.bool true)) (.bool true) (fun _ => rfl) rfl rfl ?_
        refine w_nil ?_
        refine xn_then ?_
        refine w_ret ?_
        refine xr_blk ?_
        refine xr_then ?_
        refine xr_then ?_
        refine xr_blk ?_
        refine xr_then ?_
        exact w_ret2 _ _ (.int .i64 ((i : Nat) : Int)) (.bool true) rfl rfl rfl ⟨by rw [own_some hx (by simp [rdb, hf30, hf31]) hno]; rfl, M⟩
      | false =>
        have hf31p := of_decide_eq_false hf31
        refine wl_bin (fun x y => do eqGuard .eql 3 (.tmp 25) (.const (.int .i64 (1))) x y; binOp .eql 3 x y) (.tmp 25) (.const (.int .i64 (1))) (.int .i64 (x.k)) (.int .i64 (1)) (.bool false) (fun _ => rfl) rfl rfl (eq3 hf31 _ _ _) rfl ?_
        refine wl_mv (.tmp 26) (.bool false) (fun _ => rfl) rfl rfl ?_
        refine wl_mv (.tmp 0) (.slice pa its.length cap) (fun _ => rfl) e40_0 rfl ?_
        refine wl_mv (.tmp 6) (.int .i64 ((i : Nat) : Int)) (fun _ => rfl) e40_6 rfl ?_
        refine wl_bin (fun x y => Instr.indexAt 39 x y) (.tmp 28) (.tmp 29) (.slice pa its.length cap) (.int .i64 ((i : Nat) : Int)) (pt bp (op + i * 23)) (fun _ => rfl) rfl rfl (ix39 (i := i) hpp hil _) rfl ?_
        refine wl_un (fun v => Instr.fieldAt 69 v 1) (.tmp 30) (pt bp (op + i * 23)) (pt bp (op + i * 23 + 1)) (fun _ => rfl) rfl (by kernel_rfl) rfl ?_
        refine wl_load 3 (.tmp 31) (pt bp (op + i * 23 + 1)) (.int .i64 (x.k)) rfl rfl (D.run_oneR (hRp.mo M).at' 3 1 rfl Try.underlying3 rfl) rfl ?_
        cases hf32 : decide (x.k = 2) with
        | true =>
          have hf32p := of_decide_eq_true hf32
          refine wl_bin (fun x y => do eqGuard .eql 3 (.tmp 32) (.const (.int .i64 (2))) x y; binOp .eql 3 x y) (.tmp 32) (.const (.int .i64 (2))) (.int .i64 (x.k)) (.int .i64 (2)) (.bool true) (fun _ => rfl) rfl rfl (eq3 hf32 _ _ _) rfl ?_
          refine wl_pick (.tmp 27) (.const (.bool true)) (.tmp 33) false (.bool true) (fun _ => rfl) rfl rfl rfl ?_
          refine wl_pick (.tmp 20) (.tmp 34) (.const (.bool false)) true (.bool true) (fun _ => rfl) rfl rfl rfl ?_
          refine w_nil ?_
          refine xn_then ?_
          refine w_condT rfl ?_
          refine w_seq ?_
          refine w_reg ?_
          refine wl_mv (.tmp 6) (.int .i64 ((i : Nat) : Int)) (fun _ => rfl) e40_6 rfl ?_
          refine wl_mv (.tmp 36) (.int .i64 ((i : Nat) : Int)) (fun _ => rfl) rfl rfl ?_
          refine wl_mv (.const (.bool true)) (.bool true) (fun _ => rfl) rfl rfl ?_
          refine w_nil ?_
          refine xn_then ?_
          refine w_ret ?_
          refine xr_blk ?_
          refine xr_then ?_
          refine xr_then ?_
          refine xr_blk ?_
          refine xr_then ?_
          exact w_ret2 _ _ (.int .i64 ((i : Nat) : Int)) (.bool true) rfl rfl rfl ⟨by rw [own_some hx (by simp [rdb, hf30, hf31, hf32]) hno]; rfl, M⟩
        | false =>
          have hf32p := of_decide_eq_false hf32
          refine wl_bin (fun x y => do eqGuard .eql 3 (.tmp 32) (.const (.int .i64 (2))) x y; binOp .eql 3 x y) (.tmp 32) (.const (.int .i64 (2))) (.int .i64 (x.k)) (.int .i64 (2)) (.bool false) (fun _ => rfl) rfl rfl (eq3 hf32 _ _ _) rfl ?_
          refine wl_pick (.tmp 27) (.const (.bool true)) (.tmp 33) false (.bool false) (fun _ => rfl) rfl rfl rfl ?_
          refine wl_pick (.tmp 20) (.tmp 34) (.const (.bool false)) true (.bool false) (fun _ => rfl) rfl rfl rfl ?_
          refine w_nil ?_
          refine xn_then ?_
          refine w_condF rfl ?_
          refine w_skip ?_
          refine xn_blk ?_
          refine xn_then ?_
          refine w_reg ?_
          refine wl_mv (.tmp 6) (.int .i64 ((i : Nat) : Int)) (fun _ => rfl) e40_6 rfl ?_
          refine wl_bin (fun x y => do eqGuard .add 3 (.tmp 11) (.const (.int .i64 (1))) x y; binOp .add 3 x y) (.tmp 11) (.const (.int .i64 (1))) (.int .i64 ((i : Nat) : Int)) (.int .i64 (1)) (.int .i64 ((i + 1 : Nat) : Int)) (fun _ => rfl) rfl rfl (add1r (k := i) (by omega) _ _ _) rfl ?_
          refine wl_mv (.tmp 12) (.int .i64 ((i + 1 : Nat) : Int)) (fun _ => rfl) rfl rfl ?_
          refine w_nil ?_
          exact xn_loop (its.length - (i + 1)) (by omega) ⟨i + 1, rfl, e40_0, e40_1, rfl, by omega, (fun z hz => by rw [List.take_add_one, hx] at hz; rcases List.mem_append.1 hz with q | q; exact hno z q; (simp at q; subst q; simp [rdb, hf30, hf31, hf32])), M⟩
    | false =>
      have hf30p := of_decide_eq_false hf30
      refine wl_bin (fun x y => do eqGuard .eql 9 (.tmp 17) (.tmp 18) x y; binOp .eql 9 x y) (.tmp 17) (.tmp 18) (.string x.nm) (.string nm) (.bool false) (fun _ => rfl) rfl rfl (s9 hf30 _ _ _) rfl ?_
      refine wl_mv (.tmp 19) (.bool false) (fun _ => rfl) rfl rfl ?_
      refine wl_skip rfl ?_
      refine wl_skip rfl ?_
      refine wl_skip rfl ?_
      refine wl_skip rfl ?_
      refine wl_skip rfl ?_
      refine wl_skip rfl ?_
      refine wl_skip rfl ?_
      refine wl_skip rfl ?_
      refine wl_skip rfl ?_
      refine wl_skip rfl ?_
      refine wl_skip rfl ?_
      refine wl_skip rfl ?_
      refine wl_skip rfl ?_
      refine wl_skip rfl ?_
      refine wl_pick (.tmp 20) (.tmp 34) (.const (.bool false)) false (.bool false) (fun _ => rfl) rfl rfl rfl ?_
      refine w_nil ?_
      refine xn_then ?_
      refine w_condF rfl ?_
      refine w_skip ?_
      refine xn_blk ?_
      refine xn_then ?_
      refine w_reg ?_
      refine wl_mv (.tmp 6) (.int .i64 ((i : Nat) : Int)) (fun _ => rfl) e40_6 rfl ?_
      refine wl_bin (fun x y => do eqGuard .add 3 (.tmp 11) (.const (.int .i64 (1))) x y; binOp .add 3 x y) (.tmp 11) (.const (.int .i64 (1))) (.int .i64 ((i : Nat) : Int)) (.int .i64 (1)) (.int .i64 ((i + 1 : Nat) : Int)) (fun _ => rfl) rfl rfl (add1r (k := i) (by omega) _ _ _) rfl ?_
      refine wl_mv (.tmp 12) (.int .i64 ((i + 1 : Nat) : Int)) (fun _ => rfl) rfl rfl ?_
      refine w_nil ?_
      exact xn_loop (its.length - (i + 1)) (by omega) ⟨i + 1, rfl, e40_0, e40_1, rfl, by omega, (fun z hz => by rw [List.take_add_one, hx] at hz; rcases List.mem_append.1 hz with q | q; exact hno z q; (simp at q; subst q; simp [rdb, hf30])), M⟩
  | false =>
    have hie : i = its.length := by have := of_decide_eq_false hd; omega
    rw [hie, List.take_length] at hno
    refine w_seq ?_
    refine w_seq ?_
    refine w_reg ?_
    refine wl_mv (.tmp 6) (.int .i64 ((i : Nat) : Int)) (fun _ => rfl) e40_6 rfl ?_
    refine wl_mv (.tmp 0) (.slice pa its.length cap) (fun _ => rfl) e40_0 rfl ?_
    refine wl_val (.int .i64 ((its.length : Nat) : Int)) (len39 _ _ _ _ _ (by exact rfl) _ _ _ _ _ _) rfl ?_
    refine wl_bin (fun x y => do eqGuard .lss 3 (.tmp 7) (.tmp 9) x y; binOp .lss 3 x y) (.tmp 7) (.tmp 9) (.int .i64 ((i : Nat) : Int)) (.int .i64 ((its.length : Nat) : Int)) (.bool false) (fun _ => rfl) rfl rfl (ltN hd _ _ _) rfl ?_
    refine w_nil ?_
    refine xn_then ?_
    refine w_condF rfl ?_
    refine w_exit ?_
    refine xx_then ?_
    refine xx_then ?_
    refine xx_blk ?_
    refine xn_then ?_
    refine w_seq ?_
    refine w_reg ?_
    refine wl_mv (.const (.int .i64 (0))) (.int .i64 (0)) (fun _ => rfl) rfl rfl ?_
    refine wl_mv (.const (.bool false)) (.bool false) (fun _ => rfl) rfl rfl ?_
    refine w_nil ?_
    refine xn_then ?_
    refine w_ret ?_
    exact w_ret2 _ _ (.int .i64 (0)) (.bool false) rfl rfl rfl ⟨by rw [own_none hno]; rfl, M⟩
end Go.Proofs.Ythghblgbjgghcaa
namespace Go.Proofs.Ythghblgbjgghcaa
open Go.RowKit D
/-- Where a name is found, from a section up. -/
def fnd (l : List S5) : Nat → Int → ByteArray → Option (Nat × Nat)
  | 0, _, _ => none
  | f + 1, s, nm => if hasS l s then (match ownI (itn l s.toNat) nm with | some k => some (s.toNat, k) | none => fnd l f (par l s.toNat) nm) else none
theorem mean_fnd (l : List S5) : ∀ (f : Nat) (s : Int) (nm : ByteArray), mean l f s nm = (fnd l f s nm).map (fun p => fsn l p.1 + p.2)
  | 0, _, _ => rfl
  | f + 1, s, nm => by
    unfold mean fnd
    split
    · unfold ownN
      cases ownI (itn l s.toNat) nm with
      | none => simp only [Option.map_none]; exact mean_fnd l f _ nm
      | some k => simp
    · rfl
def fnA (o : Option (Nat × Nat)) : Value := match o with | some p => .tuple #[.int .i64 ((p.1 : Nat) : Int), .int .i64 ((p.2 : Nat) : Int), .bool true] | none => .tuple #[.int .i64 0, .int .i64 0, .bool false]
theorem find61_n {w : World} {l : List S5} {pl : Option Addr} {cl : Nat} (hL : SL w 5 S5.cells pl l) (hLx : ∀ x ∈ l, LS5 w x) (hz : l.length < 400000) (s0 : Int) (nm : ByteArray) : Calls Try.prog 61 #[.slice pl l.length cl, .int .i64 s0, .string nm] w fun e w' => e = .returned (fnA (fnd l (l.length + 1) s0 nm)) ∧ Mo w w' := by
  refine w_enter 46 Try.func61 Try.ntmps61 rfl rfl ?_
  have M : Mo w w := Mo.refl _
  refine w_seq ?_
  refine w_reg ?_
  refine wl_mv (.const (.int .i64 (0))) (.int .i64 (0)) (fun _ => rfl) rfl rfl ?_
  refine wl_mv (.const (.int .i64 (0))) (.int .i64 (0)) (fun _ => rfl) rfl rfl ?_
  refine wl_mv (.const (.bool false)) (.bool false) (fun _ => rfl) rfl rfl ?_
  refine w_nil ?_
  refine xn_then ?_
  refine w_seq ?_
  refine w_seq ?_
  refine w_reg ?_
  refine wl_mv (.const (.int .i64 (0))) (.int .i64 (0)) (fun _ => rfl) rfl rfl ?_
  refine w_nil ?_
  refine xn_then ?_
  refine w_block ?_
  refine w_loop (fun m lf w1 => ∃ i : Nat, ∃ z : Int, m = l.length + 1 - i ∧ look lf 0 = .slice pl l.length cl ∧ look lf 1 = .int .i64 (z) ∧ look lf 2 = .string nm ∧ look lf 9 = .int .i64 ((i : Nat) : Int) ∧ (i ≤ l.length + 1) ∧ (fnd l (l.length + 1 - i) z nm = fnd l (l.length + 1) s0 nm) ∧ (Mo w w1)) _ ⟨0, s0, rfl, rfl, rfl, rfl, rfl, Nat.zero_le _, rfl, M⟩ ?_
  clear M
  rintro m lf40 wl40 ⟨i, z, rfl, e40_0, e40_1, e40_2, e40_9, hi, hf, M⟩
  cases hd1 : decide (((i : Nat) : Int) ≤ ((l.length : Nat) : Int)) with
  | true =>
    have hil := of_decide_eq_true hd1
    have hfs : l.length + 1 - i = (l.length - i) + 1 := by omega
    cases hd2 : decide (0 ≤ z) with
    | true =>
      have hz0 := of_decide_eq_true hd2
      cases hd3 : decide (z < ((l.length : Nat) : Int)) with
      | true =>
        have hz1 := of_decide_eq_true hd3
        obtain ⟨k, rfl⟩ : ∃ k : Nat, z = ((k : Nat) : Int) := ⟨z.toNat, by omega⟩
        have hkl : k < l.length := by omega
        obtain ⟨y, hy⟩ := get_of_lt hkl
        have hym := List.mem_of_getElem? hy
        have hLi := (hLx y hym).it
        have hsk : hasS l ((k : Nat) : Int) = true := by simp [hasS, hkl]
        have hst : fnd l (l.length + 1 - i) ((k : Nat) : Int) nm = (match ownI y.items nm with | some j => some (k, j) | none => fnd l (l.length - i) y.pr nm) := by rw [hfs, fnd, if_pos hsk, Int.toNat_natCast, itn_eq hy, par_eq hy]
        have hdk : decide (k < l.length) = true := decide_eq_true hkl
        obtain ⟨bp, op, hpp, hRp⟩ := D.SL.rw hL hy
        cases ho : ownI y.items nm with
        | none =>
          rw [ho] at hst
          refine w_seq ?_
          refine w_seq ?_
          refine w_reg ?_
          refine wl_mv (.tmp 9) (.int .i64 ((i : Nat) : Int)) (fun _ => rfl) e40_9 rfl ?_
          refine wl_mv (.tmp 0) (.slice pl l.length cl) (fun _ => rfl) e40_0 rfl ?_
          refine wl_val (.int .i64 ((l.length : Nat) : Int)) (len22 _ _ _ _ _ (by exact rfl) _ _ _ _ _ _) rfl ?_
          refine wl_bin (fun x y => do eqGuard .leq 3 (.tmp 12) (.tmp 14) x y; binOp .leq 3 x y) (.tmp 12) (.tmp 14) (.int .i64 ((i : Nat) : Int)) (.int .i64 ((l.length : Nat) : Int)) (.bool true) (fun _ => rfl) rfl rfl (le3 hd1 _ _ _) rfl ?_
          refine wl_mv (.tmp 15) (.bool true) (fun _ => rfl) rfl rfl ?_
          refine wl_mv (.tmp 1) (.int .i64 ((k : Nat) : Int)) (fun _ => rfl) e40_1 rfl ?_
          refine wl_bin (fun x y => do eqGuard .geq 3 (.tmp 17) (.const (.int .i64 (0))) x y; binOp .geq 3 x y) (.tmp 17) (.const (.int .i64 (0))) (.int .i64 ((k : Nat) : Int)) (.int .i64 (0)) (.bool true) (fun _ => rfl) rfl rfl (ge3 hd2 _ _ _) rfl ?_
          refine wl_pick (.tmp 16) (.tmp 18) (.const (.bool false)) true (.bool true) (fun _ => rfl) rfl rfl rfl ?_
          refine wl_mv (.tmp 19) (.bool true) (fun _ => rfl) rfl rfl ?_
          refine wl_mv (.tmp 1) (.int .i64 ((k : Nat) : Int)) (fun _ => rfl) e40_1 rfl ?_
          refine wl_mv (.tmp 0) (.slice pl l.length cl) (fun _ => rfl) e40_0 rfl ?_
          refine wl_val (.int .i64 ((l.length : Nat) : Int)) (len22 _ _ _ _ _ (by exact rfl) _ _ _ _ _ _) rfl ?_
          refine wl_bin (fun x y => do eqGuard .lss 3 (.tmp 21) (.tmp 23) x y; binOp .lss 3 x y) (.tmp 21) (.tmp 23) (.int .i64 ((k : Nat) : Int)) (.int .i64 ((l.length : Nat) : Int)) (.bool true) (fun _ => rfl) rfl rfl (ltN hdk _ _ _) rfl ?_
          refine wl_pick (.tmp 20) (.tmp 24) (.const (.bool false)) true (.bool true) (fun _ => rfl) rfl rfl rfl ?_
          refine w_nil ?_
          refine xn_then ?_
          refine w_condT rfl ?_
          refine w_skip ?_
          refine xn_then ?_
          refine w_seq ?_
          refine w_block ?_
          refine w_seq ?_
          refine w_seq ?_
          refine w_reg ?_
          refine wl_mv (.tmp 0) (.slice pl l.length cl) (fun _ => rfl) e40_0 rfl ?_
          refine wl_mv (.tmp 1) (.int .i64 ((k : Nat) : Int)) (fun _ => rfl) e40_1 rfl ?_
          refine wl_bin (fun x y => Instr.indexAt 22 x y) (.tmp 29) (.tmp 30) (.slice pl l.length cl) (.int .i64 ((k : Nat) : Int)) (pt bp (op + k * 5)) (fun _ => rfl) rfl rfl (ix22 (i := k) hpp hkl _) rfl ?_
          refine wl_un (fun v => Instr.fieldAt 55 v 4) (.tmp 31) (pt bp (op + k * 5)) (pt bp (op + k * 5 + 4)) (fun _ => rfl) rfl (by kernel_rfl) rfl ?_
          refine wl_load 39 (.tmp 32) (pt bp (op + k * 5 + 4)) (.slice y.pi y.items.length y.ci) rfl rfl (D.run_oneR (hRp.mo M).at' 39 4 rfl Try.underlying39 rfl) rfl ?_
          refine wl_mv (.tmp 2) (.string nm) (fun _ => rfl) e40_2 rfl ?_
          refine wl_callx 73 [(.tmp 33), (.tmp 34)] _ [.slice y.pi y.items.length y.ci, .string nm] rfl rfl (fun _ _ => by kernel_rfl) ((read73_n (hLi.kp M.kp) nm)) rfl ?_
          rintro e9 u41 ⟨rfl, hq⟩
          refine ⟨_, rfl, ?_⟩
          rw [ho]
          replace M := M.trans hq
          clear hq
          refine wl_mv (.tmp 35) (.tuple #[.int .i64 (0), .bool false]) (fun _ => rfl) rfl rfl ?_
          refine wl_un (fun v => Instr.extract v 0) (.tmp 28) (.tuple #[.int .i64 (0), .bool false]) (.int .i64 (0)) (fun _ => rfl) rfl (by kernel_rfl) rfl ?_
          refine wl_un (fun v => Instr.extract v 1) (.tmp 28) (.tuple #[.int .i64 (0), .bool false]) (.bool false) (fun _ => rfl) rfl (by kernel_rfl) rfl ?_
          refine wl_mv (.tmp 36) (.int .i64 (0)) (fun _ => rfl) rfl rfl ?_
          refine wl_mv (.tmp 37) (.bool false) (fun _ => rfl) rfl rfl ?_
          refine w_nil ?_
          refine xn_then ?_
          refine w_seq ?_
          refine w_reg ?_
          refine wl_mv (.tmp 11) (.bool false) (fun _ => rfl) rfl rfl ?_
          refine w_nil ?_
          refine xn_then ?_
          refine w_condF rfl ?_
          refine w_skip ?_
          refine xn_then ?_
          refine w_reg ?_
          refine wl_mv (.tmp 0) (.slice pl l.length cl) (fun _ => rfl) e40_0 rfl ?_
          refine wl_mv (.tmp 1) (.int .i64 ((k : Nat) : Int)) (fun _ => rfl) e40_1 rfl ?_
          refine wl_bin (fun x y => Instr.indexAt 22 x y) (.tmp 41) (.tmp 42) (.slice pl l.length cl) (.int .i64 ((k : Nat) : Int)) (pt bp (op + k * 5)) (fun _ => rfl) rfl rfl (ix22 (i := k) hpp hkl _) rfl ?_
          refine wl_un (fun v => Instr.fieldAt 55 v 0) (.tmp 43) (pt bp (op + k * 5)) (pt bp (op + k * 5)) (fun _ => rfl) rfl (by kernel_rfl) rfl ?_
          refine wl_load 3 (.tmp 44) (pt bp (op + k * 5)) (.int .i64 (y.pr)) rfl rfl (D.run_oneR (hRp.mo M).at' 3 0 rfl Try.underlying3 rfl) rfl ?_
          refine wl_mv (.tmp 45) (.int .i64 (y.pr)) (fun _ => rfl) rfl rfl ?_
          refine w_nil ?_
          refine xn_blk ?_
          refine xn_then ?_
          refine w_reg ?_
          refine wl_mv (.tmp 9) (.int .i64 ((i : Nat) : Int)) (fun _ => rfl) e40_9 rfl ?_
          refine wl_bin (fun x y => do eqGuard .add 3 (.tmp 26) (.const (.int .i64 (1))) x y; binOp .add 3 x y) (.tmp 26) (.const (.int .i64 (1))) (.int .i64 ((i : Nat) : Int)) (.int .i64 (1)) (.int .i64 ((i + 1 : Nat) : Int)) (fun _ => rfl) rfl rfl (add1r (k := i) (by omega) _ _ _) rfl ?_
          refine wl_mv (.tmp 27) (.int .i64 ((i + 1 : Nat) : Int)) (fun _ => rfl) rfl rfl ?_
          refine w_nil ?_
          exact xn_loop (l.length + 1 - (i + 1)) (by omega) ⟨i + 1, y.pr, rfl, e40_0, rfl, e40_2, rfl, by omega, (by rw [← hf, hst, show l.length + 1 - (i + 1) = l.length - i by omega]), M⟩
        | some j =>
          rw [ho] at hst
          refine w_seq ?_
          refine w_seq ?_
          refine w_reg ?_
          refine wl_mv (.tmp 9) (.int .i64 ((i : Nat) : Int)) (fun _ => rfl) e40_9 rfl ?_
          refine wl_mv (.tmp 0) (.slice pl l.length cl) (fun _ => rfl) e40_0 rfl ?_
          refine wl_val (.int .i64 ((l.length : Nat) : Int)) (len22 _ _ _ _ _ (by exact rfl) _ _ _ _ _ _) rfl ?_
          refine wl_bin (fun x y => do eqGuard .leq 3 (.tmp 12) (.tmp 14) x y; binOp .leq 3 x y) (.tmp 12) (.tmp 14) (.int .i64 ((i : Nat) : Int)) (.int .i64 ((l.length : Nat) : Int)) (.bool true) (fun _ => rfl) rfl rfl (le3 hd1 _ _ _) rfl ?_
          refine wl_mv (.tmp 15) (.bool true) (fun _ => rfl) rfl rfl ?_
          refine wl_mv (.tmp 1) (.int .i64 ((k : Nat) : Int)) (fun _ => rfl) e40_1 rfl ?_
          refine wl_bin (fun x y => do eqGuard .geq 3 (.tmp 17) (.const (.int .i64 (0))) x y; binOp .geq 3 x y) (.tmp 17) (.const (.int .i64 (0))) (.int .i64 ((k : Nat) : Int)) (.int .i64 (0)) (.bool true) (fun _ => rfl) rfl rfl (ge3 hd2 _ _ _) rfl ?_
          refine wl_pick (.tmp 16) (.tmp 18) (.const (.bool false)) true (.bool true) (fun _ => rfl) rfl rfl rfl ?_
          refine wl_mv (.tmp 19) (.bool true) (fun _ => rfl) rfl rfl ?_
          refine wl_mv (.tmp 1) (.int .i64 ((k : Nat) : Int)) (fun _ => rfl) e40_1 rfl ?_
          refine wl_mv (.tmp 0) (.slice pl l.length cl) (fun _ => rfl) e40_0 rfl ?_
          refine wl_val (.int .i64 ((l.length : Nat) : Int)) (len22 _ _ _ _ _ (by exact rfl) _ _ _ _ _ _) rfl ?_
          refine wl_bin (fun x y => do eqGuard .lss 3 (.tmp 21) (.tmp 23) x y; binOp .lss 3 x y) (.tmp 21) (.tmp 23) (.int .i64 ((k : Nat) : Int)) (.int .i64 ((l.length : Nat) : Int)) (.bool true) (fun _ => rfl) rfl rfl (ltN hdk _ _ _) rfl ?_
          refine wl_pick (.tmp 20) (.tmp 24) (.const (.bool false)) true (.bool true) (fun _ => rfl) rfl rfl rfl ?_
          refine w_nil ?_
          refine xn_then ?_
          refine w_condT rfl ?_
          refine w_skip ?_
          refine xn_then ?_
          refine w_seq ?_
          refine w_block ?_
          refine w_seq ?_
          refine w_seq ?_
          refine w_reg ?_
          refine wl_mv (.tmp 0) (.slice pl l.length cl) (fun _ => rfl) e40_0 rfl ?_
          refine wl_mv (.tmp 1) (.int .i64 ((k : Nat) : Int)) (fun _ => rfl) e40_1 rfl ?_
          refine wl_bin (fun x y => Instr.indexAt 22 x y) (.tmp 29) (.tmp 30) (.slice pl l.length cl) (.int .i64 ((k : Nat) : Int)) (pt bp (op + k * 5)) (fun _ => rfl) rfl rfl (ix22 (i := k) hpp hkl _) rfl ?_
          refine wl_un (fun v => Instr.fieldAt 55 v 4) (.tmp 31) (pt bp (op + k * 5)) (pt bp (op + k * 5 + 4)) (fun _ => rfl) rfl (by kernel_rfl) rfl ?_
          refine wl_load 39 (.tmp 32) (pt bp (op + k * 5 + 4)) (.slice y.pi y.items.length y.ci) rfl rfl (D.run_oneR (hRp.mo M).at' 39 4 rfl Try.underlying39 rfl) rfl ?_
          refine wl_mv (.tmp 2) (.string nm) (fun _ => rfl) e40_2 rfl ?_
          refine wl_callx 73 [(.tmp 33), (.tmp 34)] _ [.slice y.pi y.items.length y.ci, .string nm] rfl rfl (fun _ _ => by kernel_rfl) ((read73_n (hLi.kp M.kp) nm)) rfl ?_
          rintro e9 u41 ⟨rfl, hq⟩
          refine ⟨_, rfl, ?_⟩
          rw [ho]
          replace M := M.trans hq
          clear hq
          refine wl_mv (.tmp 35) (.tuple #[.int .i64 ((j : Nat) : Int), .bool true]) (fun _ => rfl) rfl rfl ?_
          refine wl_un (fun v => Instr.extract v 0) (.tmp 28) (.tuple #[.int .i64 ((j : Nat) : Int), .bool true]) (.int .i64 ((j : Nat) : Int)) (fun _ => rfl) rfl (by kernel_rfl) rfl ?_
          refine wl_un (fun v => Instr.extract v 1) (.tmp 28) (.tuple #[.int .i64 ((j : Nat) : Int), .bool true]) (.bool true) (fun _ => rfl) rfl (by kernel_rfl) rfl ?_
          refine wl_mv (.tmp 36) (.int .i64 ((j : Nat) : Int)) (fun _ => rfl) rfl rfl ?_
          refine wl_mv (.tmp 37) (.bool true) (fun _ => rfl) rfl rfl ?_
          refine w_nil ?_
          refine xn_then ?_
          refine w_seq ?_
          refine w_reg ?_
          refine wl_mv (.tmp 11) (.bool true) (fun _ => rfl) rfl rfl ?_
          refine w_nil ?_
          refine xn_then ?_
          refine w_condT rfl ?_
          refine w_seq ?_
          refine w_reg ?_
          refine wl_mv (.tmp 1) (.int .i64 ((k : Nat) : Int)) (fun _ => rfl) e40_1 rfl ?_
          refine wl_mv (.tmp 10) (.int .i64 ((j : Nat) : Int)) (fun _ => rfl) rfl rfl ?_
          refine wl_mv (.tmp 39) (.int .i64 ((k : Nat) : Int)) (fun _ => rfl) rfl rfl ?_
          refine wl_mv (.tmp 40) (.int .i64 ((j : Nat) : Int)) (fun _ => rfl) rfl rfl ?_
          refine wl_mv (.const (.bool true)) (.bool true) (fun _ => rfl) rfl rfl ?_
          refine w_nil ?_
          refine xn_then ?_
          refine w_ret ?_
          refine xr_then ?_
          refine xr_blk ?_
          refine xr_then ?_
          refine xr_then ?_
          refine xr_blk ?_
          refine xr_then ?_
          exact w_ret3 _ _ _ (.int .i64 ((k : Nat) : Int)) (.int .i64 ((j : Nat) : Int)) (.bool true) rfl rfl rfl rfl ⟨by rw [← hf, hst]; rfl, M⟩
      | false =>
        have hz1 := of_decide_eq_false hd3
        refine w_seq ?_
        refine w_seq ?_
        refine w_reg ?_
        refine wl_mv (.tmp 9) (.int .i64 ((i : Nat) : Int)) (fun _ => rfl) e40_9 rfl ?_
        refine wl_mv (.tmp 0) (.slice pl l.length cl) (fun _ => rfl) e40_0 rfl ?_
        refine wl_val (.int .i64 ((l.length : Nat) : Int)) (len22 _ _ _ _ _ (by exact rfl) _ _ _ _ _ _) rfl ?_
        refine wl_bin (fun x y => do eqGuard .leq 3 (.tmp 12) (.tmp 14) x y; binOp .leq 3 x y) (.tmp 12) (.tmp 14) (.int .i64 ((i : Nat) : Int)) (.int .i64 ((l.length : Nat) : Int)) (.bool true) (fun _ => rfl) rfl rfl (le3 hd1 _ _ _) rfl ?_
        refine wl_mv (.tmp 15) (.bool true) (fun _ => rfl) rfl rfl ?_
        refine wl_mv (.tmp 1) (.int .i64 (z)) (fun _ => rfl) e40_1 rfl ?_
        refine wl_bin (fun x y => do eqGuard .geq 3 (.tmp 17) (.const (.int .i64 (0))) x y; binOp .geq 3 x y) (.tmp 17) (.const (.int .i64 (0))) (.int .i64 (z)) (.int .i64 (0)) (.bool true) (fun _ => rfl) rfl rfl (ge3 hd2 _ _ _) rfl ?_
        refine wl_pick (.tmp 16) (.tmp 18) (.const (.bool false)) true (.bool true) (fun _ => rfl) rfl rfl rfl ?_
        refine wl_mv (.tmp 19) (.bool true) (fun _ => rfl) rfl rfl ?_
        refine wl_mv (.tmp 1) (.int .i64 (z)) (fun _ => rfl) e40_1 rfl ?_
        refine wl_mv (.tmp 0) (.slice pl l.length cl) (fun _ => rfl) e40_0 rfl ?_
        refine wl_val (.int .i64 ((l.length : Nat) : Int)) (len22 _ _ _ _ _ (by exact rfl) _ _ _ _ _ _) rfl ?_
        refine wl_bin (fun x y => do eqGuard .lss 3 (.tmp 21) (.tmp 23) x y; binOp .lss 3 x y) (.tmp 21) (.tmp 23) (.int .i64 (z)) (.int .i64 ((l.length : Nat) : Int)) (.bool false) (fun _ => rfl) rfl rfl (lt3 hd3 _ _ _) rfl ?_
        refine wl_pick (.tmp 20) (.tmp 24) (.const (.bool false)) true (.bool false) (fun _ => rfl) rfl rfl rfl ?_
        refine w_nil ?_
        refine xn_then ?_
        refine w_condF rfl ?_
        refine w_exit ?_
        refine xx_then ?_
        refine xx_then ?_
        refine xx_blk ?_
        refine xn_then ?_
        refine w_seq ?_
        refine w_reg ?_
        refine wl_mv (.const (.int .i64 (0))) (.int .i64 (0)) (fun _ => rfl) rfl rfl ?_
        refine wl_mv (.const (.int .i64 (0))) (.int .i64 (0)) (fun _ => rfl) rfl rfl ?_
        refine wl_mv (.const (.bool false)) (.bool false) (fun _ => rfl) rfl rfl ?_
        refine w_nil ?_
        refine xn_then ?_
        refine w_ret ?_
        exact w_ret3 _ _ _ (.int .i64 (0)) (.int .i64 (0)) (.bool false) rfl rfl rfl rfl ⟨by rw [← hf, hfs, fnd, if_neg (by simp [hasS]; omega)]; rfl, M⟩
    | false =>
      have hz0 := of_decide_eq_false hd2
      refine w_seq ?_
      refine w_seq ?_
      refine w_reg ?_
      refine wl_mv (.tmp 9) (.int .i64 ((i : Nat) : Int)) (fun _ => rfl) e40_9 rfl ?_
      refine wl_mv (.tmp 0) (.slice pl l.length cl) (fun _ => rfl) e40_0 rfl ?_
      refine wl_val (.int .i64 ((l.length : Nat) : Int)) (len22 _ _ _ _ _ (by exact rfl) _ _ _ _ _ _) rfl ?_
      refine wl_bin (fun x y => do eqGuard .leq 3 (.tmp 12) (.tmp 14) x y; binOp .leq 3 x y) (.tmp 12) (.tmp 14) (.int .i64 ((i : Nat) : Int)) (.int .i64 ((l.length : Nat) : Int)) (.bool true) (fun _ => rfl) rfl rfl (le3 hd1 _ _ _) rfl ?_
      refine wl_mv (.tmp 15) (.bool true) (fun _ => rfl) rfl rfl ?_
      refine wl_mv (.tmp 1) (.int .i64 (z)) (fun _ => rfl) e40_1 rfl ?_
      refine wl_bin (fun x y => do eqGuard .geq 3 (.tmp 17) (.const (.int .i64 (0))) x y; binOp .geq 3 x y) (.tmp 17) (.const (.int .i64 (0))) (.int .i64 (z)) (.int .i64 (0)) (.bool false) (fun _ => rfl) rfl rfl (ge3 hd2 _ _ _) rfl ?_
      refine wl_pick (.tmp 16) (.tmp 18) (.const (.bool false)) true (.bool false) (fun _ => rfl) rfl rfl rfl ?_
      refine wl_mv (.tmp 19) (.bool false) (fun _ => rfl) rfl rfl ?_
      refine wl_skip rfl ?_
      refine wl_skip rfl ?_
      refine wl_skip rfl ?_
      refine wl_skip rfl ?_
      refine wl_pick (.tmp 20) (.tmp 24) (.const (.bool false)) false (.bool false) (fun _ => rfl) rfl rfl rfl ?_
      refine w_nil ?_
      refine xn_then ?_
      refine w_condF rfl ?_
      refine w_exit ?_
      refine xx_then ?_
      refine xx_then ?_
      refine xx_blk ?_
      refine xn_then ?_
      refine w_seq ?_
      refine w_reg ?_
      refine wl_mv (.const (.int .i64 (0))) (.int .i64 (0)) (fun _ => rfl) rfl rfl ?_
      refine wl_mv (.const (.int .i64 (0))) (.int .i64 (0)) (fun _ => rfl) rfl rfl ?_
      refine wl_mv (.const (.bool false)) (.bool false) (fun _ => rfl) rfl rfl ?_
      refine w_nil ?_
      refine xn_then ?_
      refine w_ret ?_
      exact w_ret3 _ _ _ (.int .i64 (0)) (.int .i64 (0)) (.bool false) rfl rfl rfl rfl ⟨by rw [← hf, hfs, fnd, if_neg (by simp [hasS]; omega)]; rfl, M⟩
  | false =>
    have hil := of_decide_eq_false hd1
    refine w_seq ?_
    refine w_seq ?_
    refine w_reg ?_
    refine wl_mv (.tmp 9) (.int .i64 ((i : Nat) : Int)) (fun _ => rfl) e40_9 rfl ?_
    refine wl_mv (.tmp 0) (.slice pl l.length cl) (fun _ => rfl) e40_0 rfl ?_
    refine wl_val (.int .i64 ((l.length : Nat) : Int)) (len22 _ _ _ _ _ (by exact rfl) _ _ _ _ _ _) rfl ?_
    refine wl_bin (fun x y => do eqGuard .leq 3 (.tmp 12) (.tmp 14) x y; binOp .leq 3 x y) (.tmp 12) (.tmp 14) (.int .i64 ((i : Nat) : Int)) (.int .i64 ((l.length : Nat) : Int)) (.bool false) (fun _ => rfl) rfl rfl (le3 hd1 _ _ _) rfl ?_
    refine wl_mv (.tmp 15) (.bool false) (fun _ => rfl) rfl rfl ?_
    refine wl_skip rfl ?_
    refine wl_skip rfl ?_
    refine wl_pick (.tmp 16) (.tmp 18) (.const (.bool false)) false (.bool false) (fun _ => rfl) rfl rfl rfl ?_
    refine wl_mv (.tmp 19) (.bool false) (fun _ => rfl) rfl rfl ?_
    refine wl_skip rfl ?_
    refine wl_skip rfl ?_
    refine wl_skip rfl ?_
    refine wl_skip rfl ?_
    refine wl_pick (.tmp 20) (.tmp 24) (.const (.bool false)) false (.bool false) (fun _ => rfl) rfl rfl rfl ?_
    refine w_nil ?_
    refine xn_then ?_
    refine w_condF rfl ?_
    refine w_exit ?_
    refine xx_then ?_
    refine xx_then ?_
    refine xx_blk ?_
    refine xn_then ?_
    refine w_seq ?_
    refine w_reg ?_
    refine wl_mv (.const (.int .i64 (0))) (.int .i64 (0)) (fun _ => rfl) rfl rfl ?_
    refine wl_mv (.const (.int .i64 (0))) (.int .i64 (0)) (fun _ => rfl) rfl rfl ?_
    refine wl_mv (.const (.bool false)) (.bool false) (fun _ => rfl) rfl rfl ?_
    refine w_nil ?_
    refine xn_then ?_
    refine w_ret ?_
    exact w_ret3 _ _ _ (.int .i64 (0)) (.int .i64 (0)) (.bool false) rfl rfl rfl rfl ⟨by rw [← hf, show l.length + 1 - i = 0 by omega, fnd]; rfl, M⟩
end Go.Proofs.Ythghblgbjgghcaa
namespace Go.Proofs.Ythghblgbjgghcaa
open Go.RowKit D
theorem kids74_n {w : World} {l : List S5} {pl : Option Addr} {cl : Nat} (hL : SL w 5 S5.cells pl l) (hz : l.length < 400000) (s : Nat) : Calls Try.prog 74 #[.slice pl l.length cl, .int .i64 ((s : Nat) : Int)] w fun e w' => ∃ (pa : Option Addr) (cap : Nat), e = .returned (.slice pa (ris l.length (fun t => decide (par l t = ((s : Nat) : Int)))).length cap) ∧ Ow w.heap.size 3 1 ic w' pa cap (ris l.length (fun t => decide (par l t = ((s : Nat) : Int)))) ∧ Mo w w' := by
  refine w_enter 29 Try.func74 Try.ntmps74 rfl rfl ?_
  have M : Mo w w := Mo.refl _
  refine w_seq ?_
  refine w_reg ?_
  refine wl_mv (.const (.slice none 0 0)) (.slice none 0 0) (fun _ => rfl) rfl rfl ?_
  refine w_nil ?_
  refine xn_then ?_
  refine w_seq ?_
  refine w_reg ?_
  refine wl_mv (.const (.slice none 0 0)) (.slice none 0 0) (fun _ => rfl) rfl rfl ?_
  refine w_nil ?_
  refine xn_then ?_
  refine w_seq ?_
  refine w_seq ?_
  refine w_reg ?_
  refine wl_mv (.const (.int .i64 (0))) (.int .i64 (0)) (fun _ => rfl) rfl rfl ?_
  refine w_nil ?_
  refine xn_then ?_
  refine w_block ?_
  refine w_loop (fun m lf w1 => ∃ i : Nat, ∃ pv : Option Addr, ∃ cv : Nat, m = l.length - i ∧ look lf 0 = .slice pl l.length cl ∧ look lf 1 = .int .i64 ((s : Nat) : Int) ∧ look lf 5 = .slice pv (ris i (fun t => decide (par l t = ((s : Nat) : Int)))).length cv ∧ look lf 6 = .int .i64 ((i : Nat) : Int) ∧ (i ≤ l.length) ∧ (Ow w.heap.size 3 1 ic w1 pv cv (ris i (fun t => decide (par l t = ((s : Nat) : Int))))) ∧ (Mo w w1)) _ ⟨0, none, 0, rfl, rfl, rfl, rfl, rfl, Nat.zero_le _, Ow.nil _ _ _ _ _, M⟩ ?_
  clear M
  rintro m lf40 wl40 ⟨i, pv, cv, rfl, e40_0, e40_1, e40_5, e40_6, hi, hW, M⟩
  cases hd : decide (i < l.length) with
  | true =>
    have hil := of_decide_eq_true hd
    have hrb := ris_len i (fun t => decide (par l t = ((s : Nat) : Int)))
    obtain ⟨x, hx⟩ := get_of_lt hil
    have hpx := par_eq hx
    obtain ⟨bp, op, hpp, hRp⟩ := D.SL.rw hL hx
    cases hd2 : decide (x.pr = ((s : Nat) : Int)) with
    | true =>
      have hPi : (fun t => decide (par l t = ((s : Nat) : Int))) i = true := by simp only [hpx]; exact hd2
      refine w_seq ?_
      refine w_seq ?_
      refine w_reg ?_
      refine wl_mv (.tmp 6) (.int .i64 ((i : Nat) : Int)) (fun _ => rfl) e40_6 rfl ?_
      refine wl_mv (.tmp 0) (.slice pl l.length cl) (fun _ => rfl) e40_0 rfl ?_
      refine wl_val (.int .i64 ((l.length : Nat) : Int)) (len22 _ _ _ _ _ (by exact rfl) _ _ _ _ _ _) rfl ?_
      refine wl_bin (fun x y => do eqGuard .lss 3 (.tmp 7) (.tmp 9) x y; binOp .lss 3 x y) (.tmp 7) (.tmp 9) (.int .i64 ((i : Nat) : Int)) (.int .i64 ((l.length : Nat) : Int)) (.bool true) (fun _ => rfl) rfl rfl (ltN hd _ _ _) rfl ?_
      refine wl_mv (.tmp 10) (.bool true) (fun _ => rfl) rfl rfl ?_
      refine wl_mv (.tmp 1) (.int .i64 ((s : Nat) : Int)) (fun _ => rfl) e40_1 rfl ?_
      refine wl_bin (fun x y => do eqGuard .geq 3 (.tmp 12) (.const (.int .i64 (0))) x y; binOp .geq 3 x y) (.tmp 12) (.const (.int .i64 (0))) (.int .i64 ((s : Nat) : Int)) (.int .i64 (0)) (.bool true) (fun _ => rfl) rfl rfl (ge3 (r := true) (decide_eq_true (by omega)) _ _ _) rfl ?_
      refine wl_pick (.tmp 11) (.tmp 13) (.const (.bool false)) true (.bool true) (fun _ => rfl) rfl rfl rfl ?_
      refine w_nil ?_
      refine xn_then ?_
      refine w_condT rfl ?_
      refine w_skip ?_
      refine xn_then ?_
      refine w_seq ?_
      refine w_block ?_
      refine w_seq ?_
      refine w_reg ?_
      refine wl_mv (.tmp 0) (.slice pl l.length cl) (fun _ => rfl) e40_0 rfl ?_
      refine wl_mv (.tmp 6) (.int .i64 ((i : Nat) : Int)) (fun _ => rfl) e40_6 rfl ?_
      refine wl_bin (fun x y => Instr.indexAt 22 x y) (.tmp 17) (.tmp 18) (.slice pl l.length cl) (.int .i64 ((i : Nat) : Int)) (pt bp (op + i * 5)) (fun _ => rfl) rfl rfl (ix22 (i := i) hpp hil _) rfl ?_
      refine wl_un (fun v => Instr.fieldAt 55 v 0) (.tmp 19) (pt bp (op + i * 5)) (pt bp (op + i * 5)) (fun _ => rfl) rfl (by kernel_rfl) rfl ?_
      refine wl_load 3 (.tmp 20) (pt bp (op + i * 5)) (.int .i64 (x.pr)) rfl rfl (D.run_oneR (hRp.mo M).at' 3 0 rfl Try.underlying3 rfl) rfl ?_
      refine wl_mv (.tmp 1) (.int .i64 ((s : Nat) : Int)) (fun _ => rfl) e40_1 rfl ?_
      refine wl_bin (fun x y => do eqGuard .eql 3 (.tmp 21) (.tmp 22) x y; binOp .eql 3 x y) (.tmp 21) (.tmp 22) (.int .i64 (x.pr)) (.int .i64 ((s : Nat) : Int)) (.bool true) (fun _ => rfl) rfl rfl (eq3 hd2 _ _ _) rfl ?_
      refine w_nil ?_
      refine xn_then ?_
      refine w_condT rfl ?_
      refine w_reg ?_
      refine wl_mv (.tmp 5) (.slice pv (ris i (fun t => decide (par l t = ((s : Nat) : Int)))).length cv) (fun _ => rfl) e40_5 rfl ?_
      refine wl_mv (.tmp 6) (.int .i64 ((i : Nat) : Int)) (fun _ => rfl) e40_6 rfl ?_
      refine wl_bs 32 1 [(0, (.tmp 25))] [(0, .int .i64 ((i : Nat) : Int))] #[.int .i64 ((i : Nat) : Int)] 3 rfl rfl (fun _ => by kernel_rfl) rfl ?_
      intro k1 u41 hk hz hq Q1
      have N_k1 : w.heap.size ≤ k1 := by have := M.size; omega
      replace hW := own_mo hW hq
      replace M := M.trans hq
      clear hk hz hq
      refine wl_apI (.tmp 24) (.tmp 26) k1 rfl rfl rfl hW Q1 (by omega) M.size rfl ?_
      intro pv2 cv2 u42 hW2 hK9 hv9
      replace M := own_gap hW hK9 (Nat.le_refl _) M
      clear hW hK9 hv9
      have hW := hW2
      clear hW2
      refine wl_mv (.tmp 27) (.slice pv2 ((ris i (fun t => decide (par l t = ((s : Nat) : Int)))) ++ [i]).length cv2) (fun _ => rfl) rfl rfl ?_
      refine w_nil ?_
      refine xn_blk ?_
      refine xn_then ?_
      refine w_reg ?_
      refine wl_mv (.tmp 6) (.int .i64 ((i : Nat) : Int)) (fun _ => rfl) e40_6 rfl ?_
      refine wl_bin (fun x y => do eqGuard .add 3 (.tmp 15) (.const (.int .i64 (1))) x y; binOp .add 3 x y) (.tmp 15) (.const (.int .i64 (1))) (.int .i64 ((i : Nat) : Int)) (.int .i64 (1)) (.int .i64 ((i + 1 : Nat) : Int)) (fun _ => rfl) rfl rfl (add1r (k := i) (by omega) _ _ _) rfl ?_
      refine wl_mv (.tmp 16) (.int .i64 ((i + 1 : Nat) : Int)) (fun _ => rfl) rfl rfl ?_
      refine w_nil ?_
      have hrs : ris (i + 1) (fun t => decide (par l t = ((s : Nat) : Int))) = ris i (fun t => decide (par l t = ((s : Nat) : Int))) ++ [i] := ris_t hPi
      rw [← hrs] at hW
      exact xn_loop (l.length - (i + 1)) (by omega) ⟨i + 1, pv2, cv2, rfl, e40_0, e40_1, (by rw [hrs]; rfl), rfl, by omega, hW, M⟩
    | false =>
      have hPi : (fun t => decide (par l t = ((s : Nat) : Int))) i = false := by simp only [hpx]; exact hd2
      refine w_seq ?_
      refine w_seq ?_
      refine w_reg ?_
      refine wl_mv (.tmp 6) (.int .i64 ((i : Nat) : Int)) (fun _ => rfl) e40_6 rfl ?_
      refine wl_mv (.tmp 0) (.slice pl l.length cl) (fun _ => rfl) e40_0 rfl ?_
      refine wl_val (.int .i64 ((l.length : Nat) : Int)) (len22 _ _ _ _ _ (by exact rfl) _ _ _ _ _ _) rfl ?_
      refine wl_bin (fun x y => do eqGuard .lss 3 (.tmp 7) (.tmp 9) x y; binOp .lss 3 x y) (.tmp 7) (.tmp 9) (.int .i64 ((i : Nat) : Int)) (.int .i64 ((l.length : Nat) : Int)) (.bool true) (fun _ => rfl) rfl rfl (ltN hd _ _ _) rfl ?_
      refine wl_mv (.tmp 10) (.bool true) (fun _ => rfl) rfl rfl ?_
      refine wl_mv (.tmp 1) (.int .i64 ((s : Nat) : Int)) (fun _ => rfl) e40_1 rfl ?_
      refine wl_bin (fun x y => do eqGuard .geq 3 (.tmp 12) (.const (.int .i64 (0))) x y; binOp .geq 3 x y) (.tmp 12) (.const (.int .i64 (0))) (.int .i64 ((s : Nat) : Int)) (.int .i64 (0)) (.bool true) (fun _ => rfl) rfl rfl (ge3 (r := true) (decide_eq_true (by omega)) _ _ _) rfl ?_
      refine wl_pick (.tmp 11) (.tmp 13) (.const (.bool false)) true (.bool true) (fun _ => rfl) rfl rfl rfl ?_
      refine w_nil ?_
      refine xn_then ?_
      refine w_condT rfl ?_
      refine w_skip ?_
      refine xn_then ?_
      refine w_seq ?_
      refine w_block ?_
      refine w_seq ?_
      refine w_reg ?_
      refine wl_mv (.tmp 0) (.slice pl l.length cl) (fun _ => rfl) e40_0 rfl ?_
      refine wl_mv (.tmp 6) (.int .i64 ((i : Nat) : Int)) (fun _ => rfl) e40_6 rfl ?_
      refine wl_bin (fun x y => Instr.indexAt 22 x y) (.tmp 17) (.tmp 18) (.slice pl l.length cl) (.int .i64 ((i : Nat) : Int)) (pt bp (op + i * 5)) (fun _ => rfl) rfl rfl (ix22 (i := i) hpp hil _) rfl ?_
      refine wl_un (fun v => Instr.fieldAt 55 v 0) (.tmp 19) (pt bp (op + i * 5)) (pt bp (op + i * 5)) (fun _ => rfl) rfl (by kernel_rfl) rfl ?_
      refine wl_load 3 (.tmp 20) (pt bp (op + i * 5)) (.int .i64 (x.pr)) rfl rfl (D.run_oneR (hRp.mo M).at' 3 0 rfl Try.underlying3 rfl) rfl ?_
      refine wl_mv (.tmp 1) (.int .i64 ((s : Nat) : Int)) (fun _ => rfl) e40_1 rfl ?_
      refine wl_bin (fun x y => do eqGuard .eql 3 (.tmp 21) (.tmp 22) x y; binOp .eql 3 x y) (.tmp 21) (.tmp 22) (.int .i64 (x.pr)) (.int .i64 ((s : Nat) : Int)) (.bool false) (fun _ => rfl) rfl rfl (eq3 hd2 _ _ _) rfl ?_
      refine w_nil ?_
      refine xn_then ?_
      refine w_condF rfl ?_
      refine w_skip ?_
      refine xn_blk ?_
      refine xn_then ?_
      refine w_reg ?_
      refine wl_mv (.tmp 6) (.int .i64 ((i : Nat) : Int)) (fun _ => rfl) e40_6 rfl ?_
      refine wl_bin (fun x y => do eqGuard .add 3 (.tmp 15) (.const (.int .i64 (1))) x y; binOp .add 3 x y) (.tmp 15) (.const (.int .i64 (1))) (.int .i64 ((i : Nat) : Int)) (.int .i64 (1)) (.int .i64 ((i + 1 : Nat) : Int)) (fun _ => rfl) rfl rfl (add1r (k := i) (by omega) _ _ _) rfl ?_
      refine wl_mv (.tmp 16) (.int .i64 ((i + 1 : Nat) : Int)) (fun _ => rfl) rfl rfl ?_
      refine w_nil ?_
      have hrs : ris (i + 1) (fun t => decide (par l t = ((s : Nat) : Int))) = ris i (fun t => decide (par l t = ((s : Nat) : Int))) := ris_f hPi
      exact xn_loop (l.length - (i + 1)) (by omega) ⟨i + 1, pv, cv, rfl, e40_0, e40_1, (by rw [hrs]; exact e40_5), rfl, by omega, by rw [hrs]; exact hW, M⟩
  | false =>
    have hie : i = l.length := by have := of_decide_eq_false hd; omega
    rw [hie] at hW
    refine w_seq ?_
    refine w_seq ?_
    refine w_reg ?_
    refine wl_mv (.tmp 6) (.int .i64 ((i : Nat) : Int)) (fun _ => rfl) e40_6 rfl ?_
    refine wl_mv (.tmp 0) (.slice pl l.length cl) (fun _ => rfl) e40_0 rfl ?_
    refine wl_val (.int .i64 ((l.length : Nat) : Int)) (len22 _ _ _ _ _ (by exact rfl) _ _ _ _ _ _) rfl ?_
    refine wl_bin (fun x y => do eqGuard .lss 3 (.tmp 7) (.tmp 9) x y; binOp .lss 3 x y) (.tmp 7) (.tmp 9) (.int .i64 ((i : Nat) : Int)) (.int .i64 ((l.length : Nat) : Int)) (.bool false) (fun _ => rfl) rfl rfl (ltN hd _ _ _) rfl ?_
    refine wl_mv (.tmp 10) (.bool false) (fun _ => rfl) rfl rfl ?_
    refine wl_skip rfl ?_
    refine wl_skip rfl ?_
    refine wl_pick (.tmp 11) (.tmp 13) (.const (.bool false)) false (.bool false) (fun _ => rfl) rfl rfl rfl ?_
    refine w_nil ?_
    refine xn_then ?_
    refine w_condF rfl ?_
    refine w_exit ?_
    refine xx_then ?_
    refine xx_then ?_
    refine xx_blk ?_
    refine xn_then ?_
    refine w_seq ?_
    refine w_reg ?_
    refine wl_mv (.tmp 5) (.slice pv (ris i (fun t => decide (par l t = ((s : Nat) : Int)))).length cv) (fun _ => rfl) e40_5 rfl ?_
    refine wl_mv (.tmp 28) (.slice pv (ris i (fun t => decide (par l t = ((s : Nat) : Int)))).length cv) (fun _ => rfl) rfl rfl ?_
    refine w_nil ?_
    refine xn_then ?_
    refine w_ret ?_
    exact w_ret1 _ (.slice pv (ris i (fun t => decide (par l t = ((s : Nat) : Int)))).length cv) rfl rfl ⟨pv, cv, by rw [hie], hW, M⟩
theorem kid_some {l : List S5} {s j tt : Nat} {nm : ByteArray} {x : S5} (hs : s < l.length) (hj : (ris l.length (fun t => decide (par l t = ((s : Nat) : Int))))[j]? = some tt) (hx : l[tt]? = some x) (hn : x.nm = nm) (hno : ∀ u ∈ (ris l.length (fun t => decide (par l t = ((s : Nat) : Int)))).take j, ∀ y, l[u]? = some y → ¬ y.nm = nm) : kidN l ((s : Nat) : Int) nm = some tt := by
  have htm := (mem_ris.1 (List.mem_of_getElem? hj)).2
  have hpr : x.pr = ((s : Nat) : Int) := by have := of_decide_eq_true htm; rw [par_eq hx] at this; exact this
  unfold kidN
  rw [if_pos (by simp [hasS, hs]), List.findIdx?_eq_some_iff_getElem]
  have htl := lt_of_get hx
  have e : l[tt] = x := by rw [List.getElem?_eq_getElem htl] at hx; exact Option.some.inj hx
  refine ⟨htl, by rw [e]; simp [hpr, hn], fun u hu => ?_⟩
  have hul : u < l.length := by omega
  have hug : l[u]? = some l[u] := List.getElem?_eq_getElem hul
  by_cases hp : l[u].pr = ((s : Nat) : Int)
  · have hm : u ∈ ris l.length (fun t => decide (par l t = ((s : Nat) : Int))) := mem_ris.2 ⟨hul, by simp [par_eq hug, hp]⟩
    obtain ⟨k, hk, ek⟩ := List.mem_iff_getElem.1 hm
    have hjl := lt_of_get hj
    have ej : (ris l.length (fun t => decide (par l t = ((s : Nat) : Int))))[j] = tt := by rw [List.getElem?_eq_getElem hjl] at hj; exact Option.some.inj hj
    have hkj : k < j := by
      rcases Nat.lt_trichotomy k j with q | q | q
      · exact q
      · subst q; rw [ek] at ej; omega
      · have := (List.pairwise_iff_getElem.1 (ris_up l.length (fun t => decide (par l t = ((s : Nat) : Int))))) j k hjl hk q; rw [ek, ej] at this; omega
    have hmt : u ∈ (ris l.length (fun t => decide (par l t = ((s : Nat) : Int)))).take j := List.mem_of_getElem? (show ((ris l.length (fun t => decide (par l t = ((s : Nat) : Int)))).take j)[k]? = some u by rw [List.getElem?_take_of_lt hkj, List.getElem?_eq_getElem hk, ek])
    simp [hp, hno u hmt _ hug]
  · simp [hp]
theorem kid_none {l : List S5} {s : Nat} {nm : ByteArray} (hno : ∀ u ∈ ris l.length (fun t => decide (par l t = ((s : Nat) : Int))), ∀ y, l[u]? = some y → ¬ y.nm = nm) : kidN l ((s : Nat) : Int) nm = none := by
  unfold kidN
  split
  · rw [List.findIdx?_eq_none_iff]
    intro x hx
    obtain ⟨u, hu⟩ := List.getElem?_of_mem hx
    by_cases hp : x.pr = ((s : Nat) : Int)
    · have hm : u ∈ ris l.length (fun t => decide (par l t = ((s : Nat) : Int))) := mem_ris.2 ⟨lt_of_get hu, by simp [par_eq hu, hp]⟩
      simp [hno u hm x hu]
    · simp [hp]
  · rfl
theorem kid63_n {w : World} {l : List S5} {pl : Option Addr} {cl : Nat} (hL : SL w 5 S5.cells pl l) (hz : l.length < 400000) {s : Nat} (hs : s < l.length) (nm : ByteArray) : Calls Try.prog 63 #[.slice pl l.length cl, .int .i64 ((s : Nat) : Int), .string nm] w fun e w' => e = .returned (rdA (kidN l ((s : Nat) : Int) nm)) ∧ Mo w w' := by
  have hrl := ris_len l.length (fun t => decide (par l t = ((s : Nat) : Int)))
  refine w_enter 33 Try.func63 Try.ntmps63 rfl rfl ?_
  have M : Mo w w := Mo.refl _
  refine w_seq ?_
  refine w_reg ?_
  refine wl_mv (.const (.int .i64 (0))) (.int .i64 (0)) (fun _ => rfl) rfl rfl ?_
  refine wl_mv (.const (.bool false)) (.bool false) (fun _ => rfl) rfl rfl ?_
  refine w_nil ?_
  refine xn_then ?_
  refine w_seq ?_
  refine w_reg ?_
  refine wl_mv (.tmp 0) (.slice pl l.length cl) (fun _ => rfl) rfl rfl ?_
  refine wl_mv (.tmp 1) (.int .i64 ((s : Nat) : Int)) (fun _ => rfl) rfl rfl ?_
  refine wl_callx 74 [(.tmp 10), (.tmp 11)] _ [.slice pl l.length cl, .int .i64 ((s : Nat) : Int)] rfl rfl (fun _ _ => by kernel_rfl) ((kids74_n (hL.kp M.kp) hz s)) rfl ?_
  rintro e9 u1 ⟨pk, ck, rfl, hO, hq⟩
  refine ⟨_, rfl, ?_⟩
  have M0 := M.trans hq
  have hK := (Li.own hO (by unfold maxLen; omega)).sl
  replace hL := hL.kp M0.kp
  clear M
  have M : Mo u1 u1 := Mo.refl _
  refine wl_mv (.tmp 12) (.slice pk (ris l.length (fun t => decide (par l t = ((s : Nat) : Int)))).length ck) (fun _ => rfl) rfl rfl ?_
  refine w_nil ?_
  refine xn_then ?_
  refine w_seq ?_
  refine w_seq ?_
  refine w_reg ?_
  refine wl_mv (.const (.int .i64 (0))) (.int .i64 (0)) (fun _ => rfl) rfl rfl ?_
  refine w_nil ?_
  refine xn_then ?_
  refine w_block ?_
  refine w_loop (fun m lf w1 => ∃ j : Nat, m = (ris l.length (fun t => decide (par l t = ((s : Nat) : Int)))).length - j ∧ look lf 0 = .slice pl l.length cl ∧ look lf 2 = .string nm ∧ look lf 8 = .slice pk (ris l.length (fun t => decide (par l t = ((s : Nat) : Int)))).length ck ∧ look lf 9 = .int .i64 ((j : Nat) : Int) ∧ (j ≤ (ris l.length (fun t => decide (par l t = ((s : Nat) : Int)))).length) ∧ (∀ u ∈ (ris l.length (fun t => decide (par l t = ((s : Nat) : Int)))).take j, ∀ y, l[u]? = some y → ¬ y.nm = nm) ∧ (Mo u1 w1)) _ ⟨0, rfl, rfl, rfl, rfl, rfl, Nat.zero_le _, (fun u hu => by simp at hu), M⟩ ?_
  clear M
  rintro m lf40 wl40 ⟨j, rfl, e40_0, e40_2, e40_8, e40_9, hj, hno, M⟩
  cases hd : decide (j < (ris l.length (fun t => decide (par l t = ((s : Nat) : Int)))).length) with
  | true =>
    have hjl := of_decide_eq_true hd
    obtain ⟨tt, ht⟩ := get_of_lt hjl
    have htl := (mem_ris.1 (List.mem_of_getElem? ht)).1
    obtain ⟨x, hx⟩ := get_of_lt htl
    obtain ⟨bk, ok, hpk, hRk⟩ := D.SL.rw hK ht
    obtain ⟨bp, op, hpp, hRp⟩ := D.SL.rw hL hx
    cases hd2 : decide (x.nm = nm) with
    | true =>
      refine w_seq ?_
      refine w_seq ?_
      refine w_reg ?_
      refine wl_mv (.tmp 9) (.int .i64 ((j : Nat) : Int)) (fun _ => rfl) e40_9 rfl ?_
      refine wl_mv (.tmp 8) (.slice pk (ris l.length (fun t => decide (par l t = ((s : Nat) : Int)))).length ck) (fun _ => rfl) e40_8 rfl ?_
      refine wl_val (.int .i64 (((ris l.length (fun t => decide (par l t = ((s : Nat) : Int)))).length : Nat) : Int)) (len32 _ _ _ _ _ (by exact rfl) _ _ _ _ _ _) rfl ?_
      refine wl_bin (fun x y => do eqGuard .lss 3 (.tmp 13) (.tmp 15) x y; binOp .lss 3 x y) (.tmp 13) (.tmp 15) (.int .i64 ((j : Nat) : Int)) (.int .i64 (((ris l.length (fun t => decide (par l t = ((s : Nat) : Int)))).length : Nat) : Int)) (.bool true) (fun _ => rfl) rfl rfl (ltN hd _ _ _) rfl ?_
      refine w_nil ?_
      refine xn_then ?_
      refine w_condT rfl ?_
      refine w_skip ?_
      refine xn_then ?_
      refine w_seq ?_
      refine w_block ?_
      refine w_seq ?_
      refine w_reg ?_
      refine wl_mv (.tmp 0) (.slice pl l.length cl) (fun _ => rfl) e40_0 rfl ?_
      refine wl_mv (.tmp 8) (.slice pk (ris l.length (fun t => decide (par l t = ((s : Nat) : Int)))).length ck) (fun _ => rfl) e40_8 rfl ?_
      refine wl_mv (.tmp 9) (.int .i64 ((j : Nat) : Int)) (fun _ => rfl) e40_9 rfl ?_
      refine wl_bin (fun x y => Instr.indexAt 32 x y) (.tmp 20) (.tmp 21) (.slice pk (ris l.length (fun t => decide (par l t = ((s : Nat) : Int)))).length ck) (.int .i64 ((j : Nat) : Int)) (pt bk (ok + j * 1)) (fun _ => rfl) rfl rfl (ix32 (i := j) hpk hjl _) rfl ?_
      refine wl_load 3 (.tmp 22) (pt bk (ok + j * 1)) (.int .i64 ((tt : Nat) : Int)) rfl rfl (D.run_oneR (hRk.mo M).at' 3 0 rfl Try.underlying3 rfl) rfl ?_
      refine wl_bin (fun x y => Instr.indexAt 22 x y) (.tmp 19) (.tmp 23) (.slice pl l.length cl) (.int .i64 ((tt : Nat) : Int)) (pt bp (op + tt * 5)) (fun _ => rfl) rfl rfl (ix22 (i := tt) hpp htl _) rfl ?_
      refine wl_un (fun v => Instr.fieldAt 55 v 2) (.tmp 24) (pt bp (op + tt * 5)) (pt bp (op + tt * 5 + 2)) (fun _ => rfl) rfl (by kernel_rfl) rfl ?_
      refine wl_load 9 (.tmp 25) (pt bp (op + tt * 5 + 2)) (.string x.nm) rfl rfl (D.run_oneR (hRp.mo M).at' 9 2 rfl Try.underlying9 rfl) rfl ?_
      refine wl_mv (.tmp 2) (.string nm) (fun _ => rfl) e40_2 rfl ?_
      refine wl_bin (fun x y => do eqGuard .eql 9 (.tmp 26) (.tmp 27) x y; binOp .eql 9 x y) (.tmp 26) (.tmp 27) (.string x.nm) (.string nm) (.bool true) (fun _ => rfl) rfl rfl (s9 hd2 _ _ _) rfl ?_
      refine w_nil ?_
      refine xn_then ?_
      refine w_condT rfl ?_
      refine w_seq ?_
      refine w_reg ?_
      refine wl_mv (.tmp 8) (.slice pk (ris l.length (fun t => decide (par l t = ((s : Nat) : Int)))).length ck) (fun _ => rfl) e40_8 rfl ?_
      refine wl_mv (.tmp 9) (.int .i64 ((j : Nat) : Int)) (fun _ => rfl) e40_9 rfl ?_
      refine wl_bin (fun x y => Instr.indexAt 32 x y) (.tmp 29) (.tmp 30) (.slice pk (ris l.length (fun t => decide (par l t = ((s : Nat) : Int)))).length ck) (.int .i64 ((j : Nat) : Int)) (pt bk (ok + j * 1)) (fun _ => rfl) rfl rfl (ix32 (i := j) hpk hjl _) rfl ?_
      refine wl_load 3 (.tmp 31) (pt bk (ok + j * 1)) (.int .i64 ((tt : Nat) : Int)) rfl rfl (D.run_oneR (hRk.mo M).at' 3 0 rfl Try.underlying3 rfl) rfl ?_
      refine wl_mv (.tmp 32) (.int .i64 ((tt : Nat) : Int)) (fun _ => rfl) rfl rfl ?_
      refine wl_mv (.const (.bool true)) (.bool true) (fun _ => rfl) rfl rfl ?_
      refine w_nil ?_
      refine xn_then ?_
      refine w_ret ?_
      refine xr_blk ?_
      refine xr_then ?_
      refine xr_then ?_
      refine xr_blk ?_
      refine xr_then ?_
      exact w_ret2 _ _ (.int .i64 ((tt : Nat) : Int)) (.bool true) rfl rfl rfl ⟨by rw [kid_some hs ht hx (of_decide_eq_true hd2) hno]; rfl, M0.trans M⟩
    | false =>
      refine w_seq ?_
      refine w_seq ?_
      refine w_reg ?_
      refine wl_mv (.tmp 9) (.int .i64 ((j : Nat) : Int)) (fun _ => rfl) e40_9 rfl ?_
      refine wl_mv (.tmp 8) (.slice pk (ris l.length (fun t => decide (par l t = ((s : Nat) : Int)))).length ck) (fun _ => rfl) e40_8 rfl ?_
      refine wl_val (.int .i64 (((ris l.length (fun t => decide (par l t = ((s : Nat) : Int)))).length : Nat) : Int)) (len32 _ _ _ _ _ (by exact rfl) _ _ _ _ _ _) rfl ?_
      refine wl_bin (fun x y => do eqGuard .lss 3 (.tmp 13) (.tmp 15) x y; binOp .lss 3 x y) (.tmp 13) (.tmp 15) (.int .i64 ((j : Nat) : Int)) (.int .i64 (((ris l.length (fun t => decide (par l t = ((s : Nat) : Int)))).length : Nat) : Int)) (.bool true) (fun _ => rfl) rfl rfl (ltN hd _ _ _) rfl ?_
      refine w_nil ?_
      refine xn_then ?_
      refine w_condT rfl ?_
      refine w_skip ?_
      refine xn_then ?_
      refine w_seq ?_
      refine w_block ?_
      refine w_seq ?_
      refine w_reg ?_
      refine wl_mv (.tmp 0) (.slice pl l.length cl) (fun _ => rfl) e40_0 rfl ?_
      refine wl_mv (.tmp 8) (.slice pk (ris l.length (fun t => decide (par l t = ((s : Nat) : Int)))).length ck) (fun _ => rfl) e40_8 rfl ?_
      refine wl_mv (.tmp 9) (.int .i64 ((j : Nat) : Int)) (fun _ => rfl) e40_9 rfl ?_
      refine wl_bin (fun x y => Instr.indexAt 32 x y) (.tmp 20) (.tmp 21) (.slice pk (ris l.length (fun t => decide (par l t = ((s : Nat) : Int)))).length ck) (.int .i64 ((j : Nat) : Int)) (pt bk (ok + j * 1)) (fun _ => rfl) rfl rfl (ix32 (i := j) hpk hjl _) rfl ?_
      refine wl_load 3 (.tmp 22) (pt bk (ok + j * 1)) (.int .i64 ((tt : Nat) : Int)) rfl rfl (D.run_oneR (hRk.mo M).at' 3 0 rfl Try.underlying3 rfl) rfl ?_
      refine wl_bin (fun x y => Instr.indexAt 22 x y) (.tmp 19) (.tmp 23) (.slice pl l.length cl) (.int .i64 ((tt : Nat) : Int)) (pt bp (op + tt * 5)) (fun _ => rfl) rfl rfl (ix22 (i := tt) hpp htl _) rfl ?_
      refine wl_un (fun v => Instr.fieldAt 55 v 2) (.tmp 24) (pt bp (op + tt * 5)) (pt bp (op + tt * 5 + 2)) (fun _ => rfl) rfl (by kernel_rfl) rfl ?_
      refine wl_load 9 (.tmp 25) (pt bp (op + tt * 5 + 2)) (.string x.nm) rfl rfl (D.run_oneR (hRp.mo M).at' 9 2 rfl Try.underlying9 rfl) rfl ?_
      refine wl_mv (.tmp 2) (.string nm) (fun _ => rfl) e40_2 rfl ?_
      refine wl_bin (fun x y => do eqGuard .eql 9 (.tmp 26) (.tmp 27) x y; binOp .eql 9 x y) (.tmp 26) (.tmp 27) (.string x.nm) (.string nm) (.bool false) (fun _ => rfl) rfl rfl (s9 hd2 _ _ _) rfl ?_
      refine w_nil ?_
      refine xn_then ?_
      refine w_condF rfl ?_
      refine w_skip ?_
      refine xn_blk ?_
      refine xn_then ?_
      refine w_reg ?_
      refine wl_mv (.tmp 9) (.int .i64 ((j : Nat) : Int)) (fun _ => rfl) e40_9 rfl ?_
      refine wl_bin (fun x y => do eqGuard .add 3 (.tmp 17) (.const (.int .i64 (1))) x y; binOp .add 3 x y) (.tmp 17) (.const (.int .i64 (1))) (.int .i64 ((j : Nat) : Int)) (.int .i64 (1)) (.int .i64 ((j + 1 : Nat) : Int)) (fun _ => rfl) rfl rfl (add1r (k := j) (by omega) _ _ _) rfl ?_
      refine wl_mv (.tmp 18) (.int .i64 ((j + 1 : Nat) : Int)) (fun _ => rfl) rfl rfl ?_
      refine w_nil ?_
      exact xn_loop ((ris l.length (fun t => decide (par l t = ((s : Nat) : Int)))).length - (j + 1)) (by omega) ⟨j + 1, rfl, e40_0, e40_2, e40_8, rfl, by omega, (fun u hu y hy => by rw [List.take_add_one, ht] at hu; rcases List.mem_append.1 hu with q | q; exact hno u q y hy; (simp at q; subst q; rw [hx] at hy; cases hy; exact of_decide_eq_false hd2)), M⟩
  | false =>
    have hje : j = (ris l.length (fun t => decide (par l t = ((s : Nat) : Int)))).length := by have := of_decide_eq_false hd; omega
    rw [hje, List.take_length] at hno
    refine w_seq ?_
    refine w_seq ?_
    refine w_reg ?_
    refine wl_mv (.tmp 9) (.int .i64 ((j : Nat) : Int)) (fun _ => rfl) e40_9 rfl ?_
    refine wl_mv (.tmp 8) (.slice pk (ris l.length (fun t => decide (par l t = ((s : Nat) : Int)))).length ck) (fun _ => rfl) e40_8 rfl ?_
    refine wl_val (.int .i64 (((ris l.length (fun t => decide (par l t = ((s : Nat) : Int)))).length : Nat) : Int)) (len32 _ _ _ _ _ (by exact rfl) _ _ _ _ _ _) rfl ?_
    refine wl_bin (fun x y => do eqGuard .lss 3 (.tmp 13) (.tmp 15) x y; binOp .lss 3 x y) (.tmp 13) (.tmp 15) (.int .i64 ((j : Nat) : Int)) (.int .i64 (((ris l.length (fun t => decide (par l t = ((s : Nat) : Int)))).length : Nat) : Int)) (.bool false) (fun _ => rfl) rfl rfl (ltN hd _ _ _) rfl ?_
    refine w_nil ?_
    refine xn_then ?_
    refine w_condF rfl ?_
    refine w_exit ?_
    refine xx_then ?_
    refine xx_then ?_
    refine xx_blk ?_
    refine xn_then ?_
    refine w_seq ?_
    refine w_reg ?_
    refine wl_mv (.const (.int .i64 (0))) (.int .i64 (0)) (fun _ => rfl) rfl rfl ?_
    refine wl_mv (.const (.bool false)) (.bool false) (fun _ => rfl) rfl rfl ?_
    refine w_nil ?_
    refine xn_then ?_
    refine w_ret ?_
    exact w_ret2 _ _ (.int .i64 (0)) (.bool false) rfl rfl rfl ⟨by rw [kid_none hno]; rfl, M0.trans M⟩
end Go.Proofs.Ythghblgbjgghcaa
