/-
  Where an item stands; what it reads.
-/
import Derived.Test.YthghblgbjgghcaaRwb
namespace Go.Proofs.Ythghblgbjgghcaa
open Go.RowKit D
theorem w_ret3 {P : Program} {n : Nat} {l : List (Nat × Value)} {w : World} {fn : Func} {R : Ending → World → Prop} (a b c : Tmp) (v u s : Value) (hf : fn.results = #[.tmp a, .tmp b, .tmp c]) (h : resv n l P w v (.tmp a)) (g : resv n l P w u (.tmp b)) (k : resv n l P w s (.tmp c)) (hR : R (.returned (.tuple #[v, u, s])) w) : WX (bodyPost P fn R) .ret n l w := by
  refine ⟨bodyPost_ret (v := .tuple #[v, u, s]) ?_ rfl hR⟩
  have h1 := resv_tmp h
  have g1 := resv_tmp g
  have k1 := resv_tmp k
  simp [results, hf, h1, g1, k1]
theorem subN {a b : Nat} (h : b ≤ a) (ha : a ≤ 9223372036854775807) (x y : Operand) (w : World) : (do eqGuard .sub 3 x y (.int .i64 (a : Int)) (.int .i64 (b : Int)); binOp .sub 3 (.int .i64 (a : Int)) (.int .i64 (b : Int))).run Try.prog w = .ok (.int .i64 ((a - b : Nat) : Int)) w := by
  have e : (do eqGuard .sub 3 x y (.int .i64 (a : Int)) (.int .i64 (b : Int)); binOp .sub 3 (.int .i64 (a : Int)) (.int .i64 (b : Int))).run Try.prog w = .ok (.int .i64 (IntKind.i64.wrap ((a : Int) - (b : Int)))) w := by kernel_rfl
  have h : IntKind.i64.wrap ((a : Int) - (b : Int)) = ((a - b : Nat) : Int) := by rw [IntKind.wrap_i64]; omega
  rw [e, h]
theorem of_n {w : World} {l : List S5} {pl : Option Addr} {cl : Nat} (hL : SL w 5 S5.cells pl l) (hz : l.length < 400000) (hzI : nI l < 400000) {nn : Nat} (hm : nn < nI l) : Calls Try.prog 12 #[.slice pl l.length cl, .int .i64 ((nn : Nat) : Int)] w fun e w' => ∃ (s j : Nat) (y : S5) (z : It), e = .returned (.tuple #[.int .i64 ((s : Nat) : Int), .int .i64 ((j : Nat) : Int), .bool true]) ∧ l[s]? = some y ∧ y.items[j]? = some z ∧ fsn l s + j = nn ∧ Mo w w' := by
  have hlt : decide (nn < 0) = false := decide_eq_false (by omega)
  refine w_enter 31 Try.func12 Try.ntmps12 rfl rfl ?_
  have M : Mo w w := Mo.refl _
  refine w_seq ?_
  refine w_reg ?_
  refine wl_mv (.const (.int .i64 (0))) (.int .i64 (0)) (fun _ => rfl) rfl rfl ?_
  refine wl_mv (.const (.int .i64 (0))) (.int .i64 (0)) (fun _ => rfl) rfl rfl ?_
  refine wl_mv (.const (.bool false)) (.bool false) (fun _ => rfl) rfl rfl ?_
  refine w_nil ?_
  refine xn_then ?_
  refine w_seq ?_
  refine w_seq ?_
  refine w_reg ?_
  refine wl_mv (.tmp 1) (.int .i64 ((nn : Nat) : Int)) (fun _ => rfl) rfl rfl ?_
  refine wl_bin (fun x y => do eqGuard .lss 3 (.tmp 9) (.const (.int .i64 (0))) x y; binOp .lss 3 x y) (.tmp 9) (.const (.int .i64 (0))) (.int .i64 ((nn : Nat) : Int)) (.int .i64 (0)) (.bool false) (fun _ => rfl) rfl rfl (ltN hlt _ _ _) rfl ?_
  refine w_nil ?_
  refine xn_then ?_
  refine w_condF rfl ?_
  refine w_skip ?_
  refine xn_then ?_
  refine w_seq ?_
  refine w_seq ?_
  refine w_reg ?_
  refine wl_mv (.tmp 0) (.slice pl l.length cl) (fun _ => rfl) rfl rfl ?_
  refine wl_val (.int .i64 ((l.length : Nat) : Int)) (len22 _ _ _ _ _ (by exact rfl) _ _ _ _ _ _) rfl ?_
  refine wl_mv (.const (.int .i64 (0))) (.int .i64 (0)) (fun _ => rfl) rfl rfl ?_
  refine w_nil ?_
  refine xn_then ?_
  refine w_block ?_
  refine w_loop (fun m lf w1 => ∃ i : Nat, ∃ q : Nat, m = l.length - i ∧ look lf 0 = .slice pl l.length cl ∧ look lf 1 = .int .i64 ((q : Nat) : Int) ∧ look lf 12 = .int .i64 ((l.length : Nat) : Int) ∧ look lf 13 = .int .i64 ((i : Nat) : Int) ∧ (i ≤ l.length) ∧ (q + fsn l i = nn) ∧ (Mo w w1)) _ ⟨0, nn, rfl, rfl, rfl, rfl, rfl, Nat.zero_le _, by simp [fsn], M⟩ ?_
  clear M
  rintro m lf40 wl40 ⟨i, q, rfl, e40_0, e40_1, e40_12, e40_13, hi, hq0, M⟩
  cases hd : decide (i < l.length) with
  | true =>
    have hil := of_decide_eq_true hd
    obtain ⟨x, hx⟩ := get_of_lt hil
    have hfs := fsn_s hx
    obtain ⟨bp, op, hpp, hRp⟩ := D.SL.rw hL hx
    cases hd2 : decide (q < x.items.length) with
    | true =>
      have hql := of_decide_eq_true hd2
      obtain ⟨z9, hz9⟩ := get_of_lt hql
      refine w_seq ?_
      refine w_reg ?_
      refine wl_bin (fun x y => do eqGuard .lss 3 (.tmp 13) (.tmp 12) x y; binOp .lss 3 x y) (.tmp 13) (.tmp 12) (.int .i64 ((i : Nat) : Int)) (.int .i64 ((l.length : Nat) : Int)) (.bool true) (fun _ => rfl) e40_13 e40_12 (ltN hd _ _ _) rfl ?_
      refine w_nil ?_
      refine xn_then ?_
      refine w_seq ?_
      refine w_condT rfl ?_
      refine w_skip ?_
      refine xn_then ?_
      refine w_seq ?_
      refine w_block ?_
      refine w_seq ?_
      refine w_reg ?_
      refine wl_mv (.tmp 13) (.int .i64 ((i : Nat) : Int)) (fun _ => rfl) e40_13 rfl ?_
      refine wl_mv (.tmp 15) (.int .i64 ((i : Nat) : Int)) (fun _ => rfl) rfl rfl ?_
      refine w_nil ?_
      refine xn_then ?_
      refine w_seq ?_
      refine w_reg ?_
      refine wl_mv (.tmp 0) (.slice pl l.length cl) (fun _ => rfl) e40_0 rfl ?_
      refine wl_mv (.tmp 7) (.int .i64 ((i : Nat) : Int)) (fun _ => rfl) rfl rfl ?_
      refine wl_bin (fun x y => Instr.indexAt 22 x y) (.tmp 16) (.tmp 17) (.slice pl l.length cl) (.int .i64 ((i : Nat) : Int)) (pt bp (op + i * 5)) (fun _ => rfl) rfl rfl (ix22 (i := i) hpp hil _) rfl ?_
      refine wl_un (fun v => Instr.fieldAt 55 v 4) (.tmp 18) (pt bp (op + i * 5)) (pt bp (op + i * 5 + 4)) (fun _ => rfl) rfl (by kernel_rfl) rfl ?_
      refine wl_load 39 (.tmp 19) (pt bp (op + i * 5 + 4)) (.slice x.pi x.items.length x.ci) rfl rfl (D.run_oneR (hRp.mo M).at' 39 4 rfl Try.underlying39 rfl) rfl ?_
      refine wl_val (.int .i64 ((x.items.length : Nat) : Int)) (len39 _ _ _ _ _ (by exact rfl) _ _ _ _ _ _) rfl ?_
      refine wl_mv (.tmp 21) (.int .i64 ((x.items.length : Nat) : Int)) (fun _ => rfl) rfl rfl ?_
      refine w_nil ?_
      refine xn_then ?_
      refine w_seq ?_
      refine w_seq ?_
      refine w_reg ?_
      refine wl_mv (.tmp 1) (.int .i64 ((q : Nat) : Int)) (fun _ => rfl) e40_1 rfl ?_
      refine wl_mv (.tmp 8) (.int .i64 ((x.items.length : Nat) : Int)) (fun _ => rfl) rfl rfl ?_
      refine wl_bin (fun x y => do eqGuard .lss 3 (.tmp 22) (.tmp 23) x y; binOp .lss 3 x y) (.tmp 22) (.tmp 23) (.int .i64 ((q : Nat) : Int)) (.int .i64 ((x.items.length : Nat) : Int)) (.bool true) (fun _ => rfl) rfl rfl (ltN hd2 _ _ _) rfl ?_
      refine w_nil ?_
      refine xn_then ?_
      refine w_condT rfl ?_
      refine w_seq ?_
      refine w_reg ?_
      refine wl_mv (.tmp 7) (.int .i64 ((i : Nat) : Int)) (fun _ => rfl) rfl rfl ?_
      refine wl_mv (.tmp 1) (.int .i64 ((q : Nat) : Int)) (fun _ => rfl) e40_1 rfl ?_
      refine wl_mv (.tmp 25) (.int .i64 ((i : Nat) : Int)) (fun _ => rfl) rfl rfl ?_
      refine wl_mv (.tmp 26) (.int .i64 ((q : Nat) : Int)) (fun _ => rfl) rfl rfl ?_
      refine wl_mv (.const (.bool true)) (.bool true) (fun _ => rfl) rfl rfl ?_
      refine w_nil ?_
      refine xn_then ?_
      refine w_ret ?_
      refine xr_then ?_
      refine xr_blk ?_
      refine xr_then ?_
      refine xr_then ?_
      refine xr_blk ?_
      refine xr_then ?_
      exact w_ret3 _ _ _ (.int .i64 ((i : Nat) : Int)) (.int .i64 ((q : Nat) : Int)) (.bool true) rfl rfl rfl rfl ⟨i, q, x, z9, rfl, hx, hz9, by omega, M⟩
    | false =>
      have hql := of_decide_eq_false hd2
      refine w_seq ?_
      refine w_reg ?_
      refine wl_bin (fun x y => do eqGuard .lss 3 (.tmp 13) (.tmp 12) x y; binOp .lss 3 x y) (.tmp 13) (.tmp 12) (.int .i64 ((i : Nat) : Int)) (.int .i64 ((l.length : Nat) : Int)) (.bool true) (fun _ => rfl) e40_13 e40_12 (ltN hd _ _ _) rfl ?_
      refine w_nil ?_
      refine xn_then ?_
      refine w_seq ?_
      refine w_condT rfl ?_
      refine w_skip ?_
      refine xn_then ?_
      refine w_seq ?_
      refine w_block ?_
      refine w_seq ?_
      refine w_reg ?_
      refine wl_mv (.tmp 13) (.int .i64 ((i : Nat) : Int)) (fun _ => rfl) e40_13 rfl ?_
      refine wl_mv (.tmp 15) (.int .i64 ((i : Nat) : Int)) (fun _ => rfl) rfl rfl ?_
      refine w_nil ?_
      refine xn_then ?_
      refine w_seq ?_
      refine w_reg ?_
      refine wl_mv (.tmp 0) (.slice pl l.length cl) (fun _ => rfl) e40_0 rfl ?_
      refine wl_mv (.tmp 7) (.int .i64 ((i : Nat) : Int)) (fun _ => rfl) rfl rfl ?_
      refine wl_bin (fun x y => Instr.indexAt 22 x y) (.tmp 16) (.tmp 17) (.slice pl l.length cl) (.int .i64 ((i : Nat) : Int)) (pt bp (op + i * 5)) (fun _ => rfl) rfl rfl (ix22 (i := i) hpp hil _) rfl ?_
      refine wl_un (fun v => Instr.fieldAt 55 v 4) (.tmp 18) (pt bp (op + i * 5)) (pt bp (op + i * 5 + 4)) (fun _ => rfl) rfl (by kernel_rfl) rfl ?_
      refine wl_load 39 (.tmp 19) (pt bp (op + i * 5 + 4)) (.slice x.pi x.items.length x.ci) rfl rfl (D.run_oneR (hRp.mo M).at' 39 4 rfl Try.underlying39 rfl) rfl ?_
      refine wl_val (.int .i64 ((x.items.length : Nat) : Int)) (len39 _ _ _ _ _ (by exact rfl) _ _ _ _ _ _) rfl ?_
      refine wl_mv (.tmp 21) (.int .i64 ((x.items.length : Nat) : Int)) (fun _ => rfl) rfl rfl ?_
      refine w_nil ?_
      refine xn_then ?_
      refine w_seq ?_
      refine w_seq ?_
      refine w_reg ?_
      refine wl_mv (.tmp 1) (.int .i64 ((q : Nat) : Int)) (fun _ => rfl) e40_1 rfl ?_
      refine wl_mv (.tmp 8) (.int .i64 ((x.items.length : Nat) : Int)) (fun _ => rfl) rfl rfl ?_
      refine wl_bin (fun x y => do eqGuard .lss 3 (.tmp 22) (.tmp 23) x y; binOp .lss 3 x y) (.tmp 22) (.tmp 23) (.int .i64 ((q : Nat) : Int)) (.int .i64 ((x.items.length : Nat) : Int)) (.bool false) (fun _ => rfl) rfl rfl (ltN hd2 _ _ _) rfl ?_
      refine w_nil ?_
      refine xn_then ?_
      refine w_condF rfl ?_
      refine w_skip ?_
      refine xn_then ?_
      refine w_reg ?_
      refine wl_mv (.tmp 1) (.int .i64 ((q : Nat) : Int)) (fun _ => rfl) e40_1 rfl ?_
      refine wl_mv (.tmp 8) (.int .i64 ((x.items.length : Nat) : Int)) (fun _ => rfl) rfl rfl ?_
      refine wl_bin (fun x y => do eqGuard .sub 3 (.tmp 27) (.tmp 28) x y; binOp .sub 3 x y) (.tmp 27) (.tmp 28) (.int .i64 ((q : Nat) : Int)) (.int .i64 ((x.items.length : Nat) : Int)) (.int .i64 ((q - x.items.length : Nat) : Int)) (fun _ => rfl) rfl rfl (subN (a := q) (b := x.items.length) (by omega) (by omega) _ _ _) rfl ?_
      refine wl_mv (.tmp 29) (.int .i64 ((q - x.items.length : Nat) : Int)) (fun _ => rfl) rfl rfl ?_
      refine w_nil ?_
      refine xn_blk ?_
      refine xn_then ?_
      refine w_reg ?_
      refine wl_bin (fun x y => do eqGuard .add 3 (.tmp 13) (.const (.int .i64 (1))) x y; binOp .add 3 x y) (.tmp 13) (.const (.int .i64 (1))) (.int .i64 ((i : Nat) : Int)) (.int .i64 (1)) (.int .i64 ((i + 1 : Nat) : Int)) (fun _ => rfl) e40_13 rfl (add1r (k := i) (by omega) _ _ _) rfl ?_
      refine wl_mv (.tmp 30) (.int .i64 ((i + 1 : Nat) : Int)) (fun _ => rfl) rfl rfl ?_
      refine w_nil ?_
      exact xn_loop (l.length - (i + 1)) (by omega) ⟨i + 1, q - x.items.length, rfl, e40_0, rfl, e40_12, rfl, by omega, by omega, M⟩
  | false =>
    have hie : i = l.length := by have := of_decide_eq_false hd; omega
    refine w_seq ?_
    refine w_reg ?_
    refine wl_bin (fun x y => do eqGuard .lss 3 (.tmp 13) (.tmp 12) x y; binOp .lss 3 x y) (.tmp 13) (.tmp 12) (.int .i64 ((i : Nat) : Int)) (.int .i64 ((l.length : Nat) : Int)) (.bool false) (fun _ => rfl) e40_13 e40_12 (ltN hd _ _ _) rfl ?_
    refine w_nil ?_
    refine xn_then ?_
    refine w_seq ?_
    refine w_condF rfl ?_
    refine w_exit ?_
    refine xx_then ?_
    refine xx_then ?_
    refine xx_blk ?_
    refine xn_then ?_
    refine w_seq ?_
    refine w_reg ?_
    refine wl_mv (.const (.int .i64 (0))) (.int .i64 (0)) (fun _ => rfl) rfl rfl ?_
    refine wl_mv (.const (.int .i64 (0))) (.int .i64 (0)) (fun _ => rfl) rfl rfl ?_
    refine wl_mv (.const (.bool false)) (.bool false) (fun _ => rfl) rfl rfl ?_
    refine w_nil ?_
    refine xn_then ?_
    refine w_ret ?_
    exact w_ret3 _ _ _ (.int .i64 (0)) (.int .i64 (0)) (.bool false) rfl rfl rfl rfl (by exfalso; rw [hie] at hq0; unfold nI at hm; omega)
theorem reads15_n {w : World} {l : List S5} {pl : Option Addr} {cl : Nat} (hL : SL w 5 S5.cells pl l) (hLx : ∀ x ∈ l, LS5 w x) (hz : l.length < 400000) (hzI : nI l < 400000) (hnd : ∀ y ∈ l, ∀ z ∈ y.items, nd z.ex ≤ 3000000) {m : Nat} (hm : m < nI l) : Calls Try.prog 15 #[.slice pl l.length cl, .int .i64 ((m : Nat) : Int)] w fun e w' => ∃ (pa : Option Addr) (cap : Nat), e = .returned (.slice pa (row (RA l) m).length cap) ∧ Ow w.heap.size 3 1 ic w' pa cap (row (RA l) m) ∧ Mo w w' := by
  refine w_enter 35 Try.func15 Try.ntmps15 rfl rfl ?_
  have M : Mo w w := Mo.refl _
  refine w_seq ?_
  refine w_reg ?_
  refine wl_mv (.const (.slice none 0 0)) (.slice none 0 0) (fun _ => rfl) rfl rfl ?_
  refine w_nil ?_
  refine xn_then ?_
  refine w_seq ?_
  refine w_reg ?_
  refine wl_mv (.tmp 0) (.slice pl l.length cl) (fun _ => rfl) rfl rfl ?_
  refine wl_mv (.tmp 1) (.int .i64 ((m : Nat) : Int)) (fun _ => rfl) rfl rfl ?_
  refine wl_callx 12 [(.tmp 12), (.tmp 13)] _ [.slice pl l.length cl, .int .i64 ((m : Nat) : Int)] rfl rfl (fun _ _ => by kernel_rfl) (of_n (hL.kp M.kp) hz hzI hm) rfl ?_
  rintro e9 u1 ⟨s, j, y, z, rfl, hy, hzz, hsj, hq⟩
  refine ⟨_, rfl, ?_⟩
  replace M := M.trans hq
  clear hq
  have hsl := lt_of_get hy
  have hrow : row (RA l) m = rdI l s (FM l s) z := row_eq (by rw [← hsj]; exact RA_get hsl (by rw [itn_eq hy]; exact hzz))
  refine wl_mv (.tmp 14) (.tuple #[.int .i64 ((s : Nat) : Int), .int .i64 ((j : Nat) : Int), .bool true]) (fun _ => rfl) rfl rfl ?_
  refine wl_un (fun v => Instr.extract v 0) (.tmp 11) (.tuple #[.int .i64 ((s : Nat) : Int), .int .i64 ((j : Nat) : Int), .bool true]) (.int .i64 ((s : Nat) : Int)) (fun _ => rfl) rfl (by kernel_rfl) rfl ?_
  refine wl_un (fun v => Instr.extract v 1) (.tmp 11) (.tuple #[.int .i64 ((s : Nat) : Int), .int .i64 ((j : Nat) : Int), .bool true]) (.int .i64 ((j : Nat) : Int)) (fun _ => rfl) rfl (by kernel_rfl) rfl ?_
  refine wl_un (fun v => Instr.extract v 2) (.tmp 11) (.tuple #[.int .i64 ((s : Nat) : Int), .int .i64 ((j : Nat) : Int), .bool true]) (.bool true) (fun _ => rfl) rfl (by kernel_rfl) rfl ?_
  refine wl_mv (.tmp 15) (.int .i64 ((s : Nat) : Int)) (fun _ => rfl) rfl rfl ?_
  refine wl_mv (.tmp 16) (.int .i64 ((j : Nat) : Int)) (fun _ => rfl) rfl rfl ?_
  refine wl_mv (.tmp 17) (.bool true) (fun _ => rfl) rfl rfl ?_
  refine w_nil ?_
  refine xn_then ?_
  refine w_seq ?_
  refine w_seq ?_
  refine w_reg ?_
  refine wl_mv (.tmp 7) (.bool true) (fun _ => rfl) rfl rfl ?_
  refine wl_un (fun v => Op.unary .not v) (.tmp 18) (.bool true) (.bool false) (fun _ => rfl) rfl (by kernel_rfl) rfl ?_
  refine w_nil ?_
  refine xn_then ?_
  refine w_condF rfl ?_
  refine w_skip ?_
  refine xn_then ?_
  refine w_seq ?_
  refine w_reg ?_
  refine wl_mv (.tmp 0) (.slice pl l.length cl) (fun _ => rfl) rfl rfl ?_
  refine wl_callx 34 [(.tmp 20)] _ [.slice pl l.length cl] rfl rfl (fun _ _ => by kernel_rfl) (newReader_n (hL.kp M.kp) (fun x hx => (hLx x hx).kp M.kp) (by omega) (by omega)) rfl ?_
  rintro e9 u2 ⟨A, rfl, hR, hA1, hA2, hA3, hq⟩
  refine ⟨_, rfl, ?_⟩
  have hM1 := M.size
  replace M := M.trans hq
  clear hq
  subst hA1
  subst hA2
  refine wl_mv (.tmp 21) (pt A.r 0) (fun _ => rfl) rfl rfl ?_
  refine w_nil ?_
  refine xn_then ?_
  refine w_seq ?_
  refine w_reg ?_
  refine wl_mv (.tmp 0) (.slice A.pl l.length A.cl) (fun _ => rfl) rfl rfl ?_
  refine wl_mv (.tmp 5) (.int .i64 ((s : Nat) : Int)) (fun _ => rfl) rfl rfl ?_
  refine wl_callx 35 [(.tmp 23), (.tmp 24)] _ [.slice A.pl l.length A.cl, .int .i64 ((s : Nat) : Int)] rfl rfl (fun _ _ => by kernel_rfl) (wayUp_n (hL.kp M.kp) (by omega) ((s : Nat) : Int)) rfl ?_
  rintro e9 u3 ⟨pw, cw, rfl, hOw, hq⟩
  refine ⟨_, rfl, ?_⟩
  replace hR := hR.mo hq
  replace M := M.trans hq
  clear hq
  refine wl_mv (.tmp 25) (.tuple #[.slice pw (wy l ((s : Nat) : Int)).1.length cw, .int .i64 (((wy l ((s : Nat) : Int)).2 : Nat) : Int)]) (fun _ => rfl) rfl rfl ?_
  refine wl_un (fun v => Instr.extract v 0) (.tmp 22) (.tuple #[.slice pw (wy l ((s : Nat) : Int)).1.length cw, .int .i64 (((wy l ((s : Nat) : Int)).2 : Nat) : Int)]) (.slice pw (wy l ((s : Nat) : Int)).1.length cw) (fun _ => rfl) rfl (by kernel_rfl) rfl ?_
  refine wl_un (fun v => Instr.extract v 1) (.tmp 22) (.tuple #[.slice pw (wy l ((s : Nat) : Int)).1.length cw, .int .i64 (((wy l ((s : Nat) : Int)).2 : Nat) : Int)]) (.int .i64 (((wy l ((s : Nat) : Int)).2 : Nat) : Int)) (fun _ => rfl) rfl (by kernel_rfl) rfl ?_
  refine wl_mv (.tmp 26) (.slice pw (wy l ((s : Nat) : Int)).1.length cw) (fun _ => rfl) rfl rfl ?_
  refine wl_mv (.tmp 27) (.int .i64 (((wy l ((s : Nat) : Int)).2 : Nat) : Int)) (fun _ => rfl) rfl rfl ?_
  refine w_nil ?_
  refine xn_then ?_
  refine w_seq ?_
  refine w_reg ?_
  refine wl_mv (.tmp 8) (pt A.r 0) (fun _ => rfl) rfl rfl ?_
  refine wl_mv (.tmp 9) (.slice pw (wy l ((s : Nat) : Int)).1.length cw) (fun _ => rfl) rfl rfl ?_
  have hhs : hasS l ((s : Nat) : Int) = true := by simp [hasS, hsl]
  have hWy := way_of l ((s : Nat) : Int)
  have hWl := hWy.len
  have hWs := sumI_le (l := l) hWy.nd hWy.rg
  refine wl_callx 36 [(.tmp 28), (.tmp 29)] _ [pt A.r 0, .slice pw (wy l ((s : Nat) : Int)).1.length cw] rfl rfl (fun _ _ => by kernel_rfl) ((R.enter_n (S := (wy l ((s : Nat) : Int)).1) hR M.kp (by omega) hL hLx (by omega) (Li.own hOw (by unfold maxLen; omega)) hWy.rg (by omega) (by simp only [List.length_nil]; omega))) rfl ?_
  rintro e9 u4 ⟨rfl, hR2, hm9⟩
  refine ⟨_, rfl, ?_⟩
  rw [FM_way hhs] at hR2
  have M9 : Mo w u4 := hm9.mo M (fun k hk => Nat.le_trans (by omega) (DE.N hR hk))
  clear hR M
  have M := M9
  clear M9
  refine w_nil ?_
  refine xn_then ?_
  refine w_seq ?_
  refine w_reg ?_
  refine wl_mv (.tmp 8) (pt A.r 0) (fun _ => rfl) rfl rfl ?_
  refine wl_mv (.tmp 5) (.int .i64 ((s : Nat) : Int)) (fun _ => rfl) rfl rfl ?_
  refine wl_mv (.tmp 6) (.int .i64 ((j : Nat) : Int)) (fun _ => rfl) rfl rfl ?_
  refine wl_callx 37 [(.tmp 31), (.tmp 32), (.tmp 33)] _ [pt A.r 0, .int .i64 ((s : Nat) : Int), .int .i64 ((j : Nat) : Int)] rfl rfl (fun _ _ => by kernel_rfl) ((reads_n hR2 M.kp (Fok.FM l s) hL hLx hy hzz (hnd y (List.mem_of_getElem? hy) z (List.mem_of_getElem? hzz)))) rfl ?_
  rintro e9 u5 ⟨pa, cap, rfl, hOr, hq⟩
  refine ⟨_, rfl, ?_⟩
  have hMs := M.size
  replace M := M.trans hq
  refine wl_mv (.tmp 34) (.slice pa (rdI l s (FM l s) z).length cap) (fun _ => rfl) rfl rfl ?_
  refine w_nil ?_
  refine xn_then ?_
  refine w_ret ?_
  exact w_ret1 _ (.slice pa (rdI l s (FM l s) z).length cap) rfl rfl ⟨pa, cap, by rw [hrow], (by rw [hrow]; exact own_le hOr hMs), M⟩
end Go.Proofs.Ythghblgbjgghcaa
