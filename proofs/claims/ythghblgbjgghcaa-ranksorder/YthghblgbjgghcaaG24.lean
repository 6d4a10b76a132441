/-
  The law of those below.
-/
import Derived.Test.YthghblgbjgghcaaHz
namespace Go.Proofs.Ythghblgbjgghcaa
open Go.RowKit D
theorem bel_n {w : World} {l : List S5} {pl : Option Addr} {cl : Nat} (hL : SL w 5 S5.cells pl l) (hLx : ∀ x ∈ l, LS5 w x) (hz : l.length < 400000) (hzI : nI l < 400000) (hnd : ∀ y ∈ l, ∀ z ∈ y.items, nd z.ex ≤ 3000000) (hcl : l.length ≤ cl) (hci : ∀ x ∈ l, x.items.length ≤ x.ci) (n : Int) : Calls Try.prog 7 #[.slice pl l.length cl, .int .i64 n] w fun e w' => e = .returned (.bool true) ∧ Mo w w' := by
  refine w_enter 67 Try.func7 Try.ntmps7 rfl rfl ?_
  have M : Mo w w := Mo.refl _
  refine w_seq ?_
  refine w_reg ?_
  refine wl_mv (.const (.bool false)) (.bool false) (fun _ => rfl) rfl rfl ?_
  refine w_nil ?_
  refine xn_then ?_
  refine w_seq ?_
  refine w_seq ?_
  refine w_reg ?_
  refine wl_mv (.tmp 0) (.slice pl l.length cl) (fun _ => rfl) rfl rfl ?_
  refine wl_callx 8 [(.tmp 13)] _ [.slice pl l.length cl] rfl rfl (fun _ _ => by kernel_rfl) (small_n (hL.kp M.kp) (fun x hx => (hLx x hx).kp M.kp) hcl hci) rfl ?_
  rintro e9 u1 ⟨bs, rfl, hq⟩
  refine ⟨_, rfl, ?_⟩
  replace M := M.trans hq
  clear hq
  cases bs with
  | true =>
    refine wl_un (fun v => Op.unary .not v) (.tmp 14) (.bool true) (.bool false) (fun _ => rfl) rfl (by kernel_rfl) rfl ?_
    refine wl_mv (.tmp 15) (.bool false) (fun _ => rfl) rfl rfl ?_
    refine wl_callx 9 [] _ [] rfl rfl (fun _ _ => by kernel_rfl) (live_n _) rfl ?_
    rintro e9 u2 ⟨rfl, hq⟩
    refine ⟨_, rfl, ?_⟩
    replace M := M.trans hq
    clear hq
    refine wl_un (fun v => Op.unary .not v) (.tmp 17) (.bool true) (.bool false) (fun _ => rfl) rfl (by kernel_rfl) rfl ?_
    refine wl_pick (.tmp 16) (.const (.bool true)) (.tmp 18) false (.bool false) (fun _ => rfl) rfl rfl rfl ?_
    refine w_nil ?_
    refine xn_then ?_
    refine w_condF rfl ?_
    refine w_skip ?_
    refine xn_then ?_
    refine w_seq ?_
    refine w_reg ?_
    refine B.wl_mmq ei 49 rfl rfl ?_
    intro mb u3 hk hz9 hq hC
    have N_mb : w.heap.size ≤ mb := by have := M.size; omega
    replace M := M.trans hq
    clear hk hz9 hq
    refine wl_mv (.tmp 21) (.map (some mb)) (fun _ => rfl) rfl rfl ?_
    refine w_nil ?_
    refine xn_then ?_
    refine w_seq ?_
    refine w_seq ?_
    refine w_reg ?_
    refine wl_mv (.tmp 0) (.slice pl l.length cl) (fun _ => rfl) rfl rfl ?_
    refine wl_mv (.tmp 1) (.int .i64 (n)) (fun _ => rfl) rfl rfl ?_
    have M0s := M.size
    refine wl_callx 17 [(.tmp 22), (.tmp 23)] _ [.slice pl l.length cl, .int .i64 (n)] rfl rfl (fun _ _ => by kernel_rfl) (users_any (hL.kp M.kp) (fun x hx => (hLx x hx).kp M.kp) hz hzI hnd n) rfl ?_
    rintro e9 u4 ⟨U, pu, cu, rfl, hOu, hUl, hU, hq⟩
    refine ⟨_, rfl, ?_⟩
    replace hC := hC.mo hq
    replace M := M.trans hq
    clear hq
    replace hOu := own_le hOu M0s
    refine wl_val (.int .i64 ((U.length : Nat) : Int)) (len32 _ _ _ _ _ (by exact rfl) _ _ _ _ _ _) rfl ?_
    refine wl_mv (.const (.int .i64 (0))) (.int .i64 (0)) (fun _ => rfl) rfl rfl ?_
    refine w_nil ?_
    refine xn_then ?_
    refine w_block ?_
    refine w_loop (fun m lf w1 => ∃ i : Nat, ∃ K : List Nat, m = U.length - i ∧ look lf 0 = .slice pl l.length cl ∧ look lf 1 = .int .i64 (n) ∧ look lf 5 = .map (some mb) ∧ look lf 24 = .slice pu U.length cu ∧ look lf 25 = .int .i64 ((U.length : Nat) : Int) ∧ look lf 26 = .int .i64 ((i : Nat) : Int) ∧ (i ≤ U.length) ∧ (Ow w.heap.size 3 1 ic w1 pu cu U) ∧ (Cl w1 mb K) ∧ (K.Nodup) ∧ (∀ k, k ∈ K ↔ (∃ u ∈ U.take i, k = u ∨ Rch (RA l) k u)) ∧ (Mo w w1)) _ ⟨0, [], rfl, rfl, rfl, rfl, rfl, rfl, rfl, Nat.zero_le _, hOu, hC, List.nodup_nil, (fun k => by simp), M⟩ ?_
    clear hOu hC M
    rintro m lf40 wl40 ⟨i, K, rfl, e40_0, e40_1, e40_5, e40_24, e40_25, e40_26, hi, hOu, hC, hKn, hK, M⟩
    have MA := M
    clear M
    have M : Mo wl40 wl40 := Mo.refl _
    cases hd : decide (i < U.length) with
    | true =>
      have hil := of_decide_eq_true hd
      obtain ⟨x, hx⟩ := get_of_lt hil
      have hsu := (Li.own hOu (by unfold maxLen; omega)).sl
      obtain ⟨bp, op, hpp, hRp⟩ := D.SL.rw hsu hx
      refine w_seq ?_
      refine w_reg ?_
      refine wl_bin (fun x y => do eqGuard .lss 3 (.tmp 26) (.tmp 25) x y; binOp .lss 3 x y) (.tmp 26) (.tmp 25) (.int .i64 ((i : Nat) : Int)) (.int .i64 ((U.length : Nat) : Int)) (.bool true) (fun _ => rfl) e40_26 e40_25 (ltN hd _ _ _) rfl ?_
      refine w_nil ?_
      refine xn_then ?_
      refine w_seq ?_
      refine w_condT rfl ?_
      refine w_skip ?_
      refine xn_then ?_
      refine w_seq ?_
      refine w_block ?_
      refine w_seq ?_
      refine w_reg ?_
      refine wl_bin (fun x y => Instr.indexAt 32 x y) (.tmp 24) (.tmp 26) (.slice pu U.length cu) (.int .i64 ((i : Nat) : Int)) (pt bp (op + i * 1)) (fun _ => rfl) e40_24 e40_26 (ix32 (i := i) hpp hil _) rfl ?_
      refine wl_load 3 (.tmp 28) (pt bp (op + i * 1)) (.int .i64 ((x : Nat) : Int)) rfl rfl (D.run_oneR (hRp.mo M).at' 3 0 rfl Try.underlying3 rfl) rfl ?_
      refine wl_mv (.tmp 29) (.int .i64 ((x : Nat) : Int)) (fun _ => rfl) rfl rfl ?_
      refine w_nil ?_
      refine xn_then ?_
      refine w_seq ?_
      refine w_reg ?_
      refine wl_mv (.tmp 5) (.map (some mb)) (fun _ => rfl) e40_5 rfl ?_
      refine wl_mv (.tmp 7) (.int .i64 ((x : Nat) : Int)) (fun _ => rfl) rfl rfl ?_
      refine B.wl_mupq (al := prs K) (.tmp 30) (.tmp 31) (.const (.bool true)) ((x : Nat) : Int) true hC B.kt3 Try.underlying49 rfl rfl rfl rfl rfl rfl ?_
      intro u41 hC9 hK9
      rw [put_prs] at hC9
      replace hOu := own_mk hOu hK9 (fun k e => hC.nty (own_ty hOu e))
      replace MA := hK9.mo (MA.trans M) (fun k e => e ▸ N_mb)
      clear hC hK9
      have hC := hC9
      clear hC9
      clear M
      have M : Mo u41 u41 := Mo.refl _
      refine w_nil ?_
      refine xn_then ?_
      refine w_seq ?_
      refine w_reg ?_
      refine wl_mv (.tmp 0) (.slice pl l.length cl) (fun _ => rfl) e40_0 rfl ?_
      refine wl_mv (.tmp 7) (.int .i64 ((x : Nat) : Int)) (fun _ => rfl) rfl rfl ?_
      have M0s := (MA.trans M).size
      refine wl_callx 19 [(.tmp 32), (.tmp 33)] _ [.slice pl l.length cl, .int .i64 ((x : Nat) : Int)] rfl rfl (fun _ _ => by kernel_rfl) (below_any (hL.kp (MA.trans M).kp) (fun x hx => (hLx x hx).kp (MA.trans M).kp) hz hzI hnd ((x : Nat) : Int)) rfl ?_
      rintro e9 u42 ⟨V, pb, cb, rfl, hOb, hVl, hVi, hV, hq⟩
      refine ⟨_, rfl, ?_⟩
      replace hOu := own_mo hOu hq
      replace hC := hC.mo hq
      replace M := M.trans hq
      clear hq
      replace hOb := own_le hOb M0s
      refine wl_val (.int .i64 ((V.length : Nat) : Int)) (len32 _ _ _ _ _ (by exact rfl) _ _ _ _ _ _) rfl ?_
      refine wl_mv (.const (.int .i64 (0))) (.int .i64 (0)) (fun _ => rfl) rfl rfl ?_
      refine w_nil ?_
      refine xn_then ?_
      refine w_block ?_
      have hK0 : ∀ k, k ∈ ins K x ↔ (∃ u ∈ U.take i, k = u ∨ Rch (RA l) k u) ∨ k = x ∨ k ∈ V.take 0 := fun k => by rw [mem_ins, hK]; simp
      have M9 := MA.trans M
      refine w_loop (fun m lf w1 => ∃ j : Nat, ∃ K2 : List Nat, m = V.length - j ∧ look lf 0 = .slice pl l.length cl ∧ look lf 1 = .int .i64 (n) ∧ look lf 5 = .map (some mb) ∧ look lf 24 = .slice pu U.length cu ∧ look lf 25 = .int .i64 ((U.length : Nat) : Int) ∧ look lf 26 = .int .i64 ((i : Nat) : Int) ∧ look lf 34 = .slice pb V.length cb ∧ look lf 35 = .int .i64 ((V.length : Nat) : Int) ∧ look lf 36 = .int .i64 ((j : Nat) : Int) ∧ (j ≤ V.length) ∧ (Ow w.heap.size 3 1 ic w1 pu cu U) ∧ (Ow w.heap.size 3 1 ic w1 pb cb V) ∧ (Cl w1 mb K2) ∧ (K2.Nodup) ∧ (∀ k, k ∈ K2 ↔ (∃ u ∈ U.take i, k = u ∨ Rch (RA l) k u) ∨ k = x ∨ k ∈ V.take j) ∧ (Mo w w1)) _ ⟨0, ins K x, rfl, e40_0, e40_1, e40_5, e40_24, e40_25, e40_26, rfl, rfl, rfl, Nat.zero_le _, hOu, hOb, hC, ins_nd hKn x, hK0, M9⟩ ?_
      clear hOu hOb hC hKn hK hK0 M9 MA M
      rintro m lf70 wl70 ⟨j, K2, rfl, e70_0, e70_1, e70_5, e70_24, e70_25, e70_26, e70_34, e70_35, e70_36, hj, hOu, hOb, hC, hKn, hK, M⟩
      have MA := M
      clear M
      have M : Mo wl70 wl70 := Mo.refl _
      cases hd2 : decide (j < V.length) with
      | true =>
        have hjl := of_decide_eq_true hd2
        obtain ⟨y, hy⟩ := get_of_lt hjl
        have hsb := (Li.own hOb (by unfold maxLen; omega)).sl
        obtain ⟨bq, oq, hpq, hRq⟩ := D.SL.rw hsb hy
        refine w_seq ?_
        refine w_reg ?_
        refine wl_bin (fun x y => do eqGuard .lss 3 (.tmp 36) (.tmp 35) x y; binOp .lss 3 x y) (.tmp 36) (.tmp 35) (.int .i64 ((j : Nat) : Int)) (.int .i64 ((V.length : Nat) : Int)) (.bool true) (fun _ => rfl) e70_36 e70_35 (ltN hd2 _ _ _) rfl ?_
        refine w_nil ?_
        refine xn_then ?_
        refine w_seq ?_
        refine w_condT rfl ?_
        refine w_skip ?_
        refine xn_then ?_
        refine w_seq ?_
        refine w_block ?_
        refine w_seq ?_
        refine w_reg ?_
        refine wl_bin (fun x y => Instr.indexAt 32 x y) (.tmp 34) (.tmp 36) (.slice pb V.length cb) (.int .i64 ((j : Nat) : Int)) (pt bq (oq + j * 1)) (fun _ => rfl) e70_34 e70_36 (ix32 (i := j) hpq hjl _) rfl ?_
        refine wl_load 3 (.tmp 38) (pt bq (oq + j * 1)) (.int .i64 ((y : Nat) : Int)) rfl rfl (D.run_oneR (hRq.mo M).at' 3 0 rfl Try.underlying3 rfl) rfl ?_
        refine wl_mv (.tmp 39) (.int .i64 ((y : Nat) : Int)) (fun _ => rfl) rfl rfl ?_
        refine w_nil ?_
        refine xn_then ?_
        refine w_reg ?_
        refine wl_mv (.tmp 5) (.map (some mb)) (fun _ => rfl) e70_5 rfl ?_
        refine wl_mv (.tmp 9) (.int .i64 ((y : Nat) : Int)) (fun _ => rfl) rfl rfl ?_
        refine B.wl_mupq (al := prs K2) (.tmp 40) (.tmp 41) (.const (.bool true)) ((y : Nat) : Int) true hC B.kt3 Try.underlying49 rfl rfl rfl rfl rfl rfl ?_
        intro u71 hC9 hK9
        rw [put_prs] at hC9
        replace hOu := own_mk hOu hK9 (fun k e => hC.nty (own_ty hOu e))
        replace hOb := own_mk hOb hK9 (fun k e => hC.nty (own_ty hOb e))
        replace MA := hK9.mo (MA.trans M) (fun k e => e ▸ N_mb)
        clear hC hK9
        have hC := hC9
        clear hC9
        clear M
        have M : Mo u71 u71 := Mo.refl _
        refine w_nil ?_
        refine xn_blk ?_
        refine xn_then ?_
        refine w_reg ?_
        refine wl_bin (fun x y => do eqGuard .add 3 (.tmp 36) (.const (.int .i64 (1))) x y; binOp .add 3 x y) (.tmp 36) (.const (.int .i64 (1))) (.int .i64 ((j : Nat) : Int)) (.int .i64 (1)) (.int .i64 ((j + 1 : Nat) : Int)) (fun _ => rfl) e70_36 rfl (add1r (k := j) (by omega) _ _ _) rfl ?_
        refine wl_mv (.tmp 42) (.int .i64 ((j + 1 : Nat) : Int)) (fun _ => rfl) rfl rfl ?_
        refine w_nil ?_
        exact xn_loop (V.length - (j + 1)) (by omega) ⟨j + 1, ins K2 y, rfl, e70_0, e70_1, e70_5, e70_24, e70_25, e70_26, e70_34, e70_35, rfl, by omega, hOu, hOb, hC, ins_nd hKn y, (fun k => by rw [mem_ins, hK, List.take_add_one, hy]; simp only [Option.toList_some, List.mem_append, List.mem_singleton]; exact ⟨fun h => by rcases h with (h | h | h) | h; exact Or.inl h; exact Or.inr (Or.inl h); exact Or.inr (Or.inr (Or.inl h)); exact Or.inr (Or.inr (Or.inr h)), fun h => by rcases h with h | h | h | h; exact Or.inl (Or.inl h); exact Or.inl (Or.inr (Or.inl h)); exact Or.inl (Or.inr (Or.inr h)); exact Or.inr h⟩), MA.trans M⟩
      | false =>
        have hje : j = V.length := by have := of_decide_eq_false hd2; omega
        rw [hje, List.take_length] at hK
        refine w_seq ?_
        refine w_reg ?_
        refine wl_bin (fun x y => do eqGuard .lss 3 (.tmp 36) (.tmp 35) x y; binOp .lss 3 x y) (.tmp 36) (.tmp 35) (.int .i64 ((j : Nat) : Int)) (.int .i64 ((V.length : Nat) : Int)) (.bool false) (fun _ => rfl) e70_36 e70_35 (ltN hd2 _ _ _) rfl ?_
        refine w_nil ?_
        refine xn_then ?_
        refine w_seq ?_
        refine w_condF rfl ?_
        refine w_exit ?_
        refine xx_then ?_
        refine xx_then ?_
        refine xx_blk ?_
        refine xn_blk ?_
        refine xn_then ?_
        refine w_reg ?_
        refine wl_bin (fun x y => do eqGuard .add 3 (.tmp 26) (.const (.int .i64 (1))) x y; binOp .add 3 x y) (.tmp 26) (.const (.int .i64 (1))) (.int .i64 ((i : Nat) : Int)) (.int .i64 (1)) (.int .i64 ((i + 1 : Nat) : Int)) (fun _ => rfl) e70_26 rfl (add1r (k := i) (by omega) _ _ _) rfl ?_
        refine wl_mv (.tmp 43) (.int .i64 ((i + 1 : Nat) : Int)) (fun _ => rfl) rfl rfl ?_
        refine w_nil ?_
        exact xn_loop (U.length - (i + 1)) (by omega) ⟨i + 1, K2, rfl, e70_0, e70_1, e70_5, e70_24, e70_25, rfl, by omega, hOu, hC, hKn, (fun k => by rw [hK, List.take_add_one, hx]; simp only [Option.toList_some, List.mem_append, List.mem_singleton]; exact ⟨fun h => by rcases h with ⟨u, h1, h2⟩ | h | h; exact ⟨u, Or.inl h1, h2⟩; exact ⟨x, Or.inr rfl, Or.inl h⟩; exact ⟨x, Or.inr rfl, Or.inr (by have := (hV k).1 h; rw [Int.toNat_natCast] at this; exact this.2)⟩, fun ⟨u, h1, h2⟩ => by rcases h1 with h1 | rfl; exact Or.inl ⟨u, h1, h2⟩; rcases h2 with h2 | h2; exact Or.inr (Or.inl h2); exact Or.inr (Or.inr ((hV k).2 ⟨by omega, by rw [Int.toNat_natCast]; exact h2⟩))⟩), MA.trans M⟩
    | false =>
      have hie : i = U.length := by have := of_decide_eq_false hd; omega
      rw [hie, List.take_length] at hK
      have hKR : ∀ k, k ∈ K ↔ 0 ≤ n ∧ Rch (RA l) k n.toNat := fun k => by rw [hK]; exact ⟨fun ⟨u, h1, h2⟩ => by obtain ⟨h3, h4⟩ := (hU u).1 h1; rcases h2 with rfl | h2; exact ⟨h3, Rch.one h4⟩; exact ⟨h3, h2.snoc h4⟩, fun ⟨h3, h⟩ => by rcases h.last with q | ⟨u, q1, q2⟩; exact ⟨k, (hU k).2 ⟨h3, q⟩, Or.inl rfl⟩; exact ⟨u, (hU u).2 ⟨h3, q2⟩, Or.inr q1⟩⟩
      refine w_seq ?_
      refine w_reg ?_
      refine wl_bin (fun x y => do eqGuard .lss 3 (.tmp 26) (.tmp 25) x y; binOp .lss 3 x y) (.tmp 26) (.tmp 25) (.int .i64 ((i : Nat) : Int)) (.int .i64 ((U.length : Nat) : Int)) (.bool false) (fun _ => rfl) e40_26 e40_25 (ltN hd _ _ _) rfl ?_
      refine w_nil ?_
      refine xn_then ?_
      refine w_seq ?_
      refine w_condF rfl ?_
      refine w_exit ?_
      refine xx_then ?_
      refine xx_then ?_
      refine xx_blk ?_
      refine xn_then ?_
      refine w_seq ?_
      refine w_reg ?_
      refine wl_mv (.tmp 0) (.slice pl l.length cl) (fun _ => rfl) e40_0 rfl ?_
      refine wl_mv (.tmp 1) (.int .i64 (n)) (fun _ => rfl) e40_1 rfl ?_
      have M0s := (MA.trans M).size
      refine wl_callx 19 [(.tmp 44), (.tmp 45)] _ [.slice pl l.length cl, .int .i64 (n)] rfl rfl (fun _ _ => by kernel_rfl) (below_any (hL.kp (MA.trans M).kp) (fun x hx => (hLx x hx).kp (MA.trans M).kp) hz hzI hnd n) rfl ?_
      rintro e9 u41 ⟨V, pb, cb, rfl, hOb, hVl, hVi, hV, hq⟩
      refine ⟨_, rfl, ?_⟩
      replace hC := hC.mo hq
      replace M := M.trans hq
      clear hq
      replace hOb := own_le hOb M0s
      refine wl_mv (.tmp 46) (.slice pb V.length cb) (fun _ => rfl) rfl rfl ?_
      refine w_nil ?_
      refine xn_then ?_
      refine w_seq ?_
      refine w_seq ?_
      refine w_reg ?_
      refine wl_mv (.tmp 10) (.slice pb V.length cb) (fun _ => rfl) rfl rfl ?_
      refine wl_val (.int .i64 ((V.length : Nat) : Int)) (len32 _ _ _ _ _ (by exact rfl) _ _ _ _ _ _) rfl ?_
      refine wl_mv (.const (.int .i64 (0))) (.int .i64 (0)) (fun _ => rfl) rfl rfl ?_
      refine w_nil ?_
      refine xn_then ?_
      refine w_block ?_
      have hKV : ∀ k, k ∈ K ↔ k ∈ V := fun k => (hKR k).trans (hV k).symm
      have hlen := same_len hKn hVi hKV
      have M9 := MA.trans M
      refine w_loop (fun m lf w1 => ∃ j : Nat, m = V.length - j ∧ look lf 5 = .map (some mb) ∧ look lf 10 = .slice pb V.length cb ∧ look lf 47 = .slice pb V.length cb ∧ look lf 48 = .int .i64 ((V.length : Nat) : Int) ∧ look lf 49 = .int .i64 ((j : Nat) : Int) ∧ (j ≤ V.length) ∧ (Ow w.heap.size 3 1 ic w1 pb cb V) ∧ (Cl w1 mb K) ∧ (Mo w w1)) _ ⟨0, rfl, e40_5, rfl, rfl, rfl, rfl, Nat.zero_le _, hOb, hC, M9⟩ ?_
      clear hOb hC M9 MA M
      rintro m lf110 wl110 ⟨j, rfl, e110_5, e110_10, e110_47, e110_48, e110_49, hj, hOb, hC, M⟩
      have MA := M
      clear M
      have M : Mo wl110 wl110 := Mo.refl _
      cases hd2 : decide (j < V.length) with
      | true =>
        have hjl := of_decide_eq_true hd2
        obtain ⟨y, hy⟩ := get_of_lt hjl
        have hyK : y ∈ K := (hKV y).2 (List.mem_of_getElem? hy)
        have hsb := (Li.own hOb (by unfold maxLen; omega)).sl
        obtain ⟨bq, oq, hpq, hRq⟩ := D.SL.rw hsb hy
        refine w_seq ?_
        refine w_reg ?_
        refine wl_bin (fun x y => do eqGuard .lss 3 (.tmp 49) (.tmp 48) x y; binOp .lss 3 x y) (.tmp 49) (.tmp 48) (.int .i64 ((j : Nat) : Int)) (.int .i64 ((V.length : Nat) : Int)) (.bool true) (fun _ => rfl) e110_49 e110_48 (ltN hd2 _ _ _) rfl ?_
        refine w_nil ?_
        refine xn_then ?_
        refine w_seq ?_
        refine w_condT rfl ?_
        refine w_skip ?_
        refine xn_then ?_
        refine w_seq ?_
        refine w_block ?_
        refine w_seq ?_
        refine w_reg ?_
        refine wl_bin (fun x y => Instr.indexAt 32 x y) (.tmp 47) (.tmp 49) (.slice pb V.length cb) (.int .i64 ((j : Nat) : Int)) (pt bq (oq + j * 1)) (fun _ => rfl) e110_47 e110_49 (ix32 (i := j) hpq hjl _) rfl ?_
        refine wl_load 3 (.tmp 51) (pt bq (oq + j * 1)) (.int .i64 ((y : Nat) : Int)) rfl rfl (D.run_oneR (hRq.mo M).at' 3 0 rfl Try.underlying3 rfl) rfl ?_
        refine wl_mv (.tmp 52) (.int .i64 ((y : Nat) : Int)) (fun _ => rfl) rfl rfl ?_
        refine w_nil ?_
        refine xn_then ?_
        refine w_seq ?_
        refine w_reg ?_
        refine wl_mv (.tmp 5) (.map (some mb)) (fun _ => rfl) e110_5 rfl ?_
        refine wl_mv (.tmp 12) (.int .i64 ((y : Nat) : Int)) (fun _ => rfl) rfl rfl ?_
        refine wl_val (.bool true) (lkp 49 (.tmp 53) (.tmp 54) false (.map (some mb)) (.int .i64 ((y : Nat) : Int)) (.bool true) rfl rfl rfl (hC.hit hyK)) rfl ?_
        refine wl_un (fun v => Op.unary .not v) (.tmp 55) (.bool true) (.bool false) (fun _ => rfl) rfl (by kernel_rfl) rfl ?_
        refine w_nil ?_
        refine xn_then ?_
        refine w_condF rfl ?_
        refine w_skip ?_
        refine xn_blk ?_
        refine xn_then ?_
        refine w_reg ?_
        refine wl_bin (fun x y => do eqGuard .add 3 (.tmp 49) (.const (.int .i64 (1))) x y; binOp .add 3 x y) (.tmp 49) (.const (.int .i64 (1))) (.int .i64 ((j : Nat) : Int)) (.int .i64 (1)) (.int .i64 ((j + 1 : Nat) : Int)) (fun _ => rfl) e110_49 rfl (add1r (k := j) (by omega) _ _ _) rfl ?_
        refine wl_mv (.tmp 57) (.int .i64 ((j + 1 : Nat) : Int)) (fun _ => rfl) rfl rfl ?_
        refine w_nil ?_
        exact xn_loop (V.length - (j + 1)) (by omega) ⟨j + 1, rfl, e110_5, e110_10, e110_47, e110_48, rfl, by omega, hOb, hC, MA.trans M⟩
      | false =>
        have hle : decide (((V.length : Nat) : Int) = (((prs K).length : Nat) : Int)) = true := decide_eq_true (by rw [prs_len, hlen])
        refine w_seq ?_
        refine w_reg ?_
        refine wl_bin (fun x y => do eqGuard .lss 3 (.tmp 49) (.tmp 48) x y; binOp .lss 3 x y) (.tmp 49) (.tmp 48) (.int .i64 ((j : Nat) : Int)) (.int .i64 ((V.length : Nat) : Int)) (.bool false) (fun _ => rfl) e110_49 e110_48 (ltN hd2 _ _ _) rfl ?_
        refine w_nil ?_
        refine xn_then ?_
        refine w_seq ?_
        refine w_condF rfl ?_
        refine w_exit ?_
        refine xx_then ?_
        refine xx_then ?_
        refine xx_blk ?_
        refine xn_then ?_
        refine w_seq ?_
        refine w_reg ?_
        refine wl_mv (.tmp 10) (.slice pb V.length cb) (fun _ => rfl) e110_10 rfl ?_
        refine wl_val (.int .i64 ((V.length : Nat) : Int)) (len32 _ _ _ _ _ (by exact rfl) _ _ _ _ _ _) rfl ?_
        refine wl_mv (.tmp 5) (.map (some mb)) (fun _ => rfl) e110_5 rfl ?_
        refine wl_val (.int .i64 (((prs K).length : Nat) : Int)) (lenB _ _ _ hC (by exact rfl) _ _ _ _ _) rfl ?_
        refine wl_bin (fun x y => do eqGuard .eql 3 (.tmp 59) (.tmp 61) x y; binOp .eql 3 x y) (.tmp 59) (.tmp 61) (.int .i64 ((V.length : Nat) : Int)) (.int .i64 (((prs K).length : Nat) : Int)) (.bool true) (fun _ => rfl) rfl rfl (eq3 hle _ _ _) rfl ?_
        refine wl_mv (.tmp 62) (.bool true) (fun _ => rfl) rfl rfl ?_
        refine wl_mv (.tmp 10) (.slice pb V.length cb) (fun _ => rfl) e110_10 rfl ?_
        refine wl_callx 30 [(.tmp 64)] _ [.slice pb V.length cb] rfl rfl (fun _ _ => by kernel_rfl) ((sorted_n (Li.own hOb (by unfold maxLen; omega)).sl hVi (by omega))) rfl ?_
        rintro e9 u111 ⟨rfl, hq⟩
        refine ⟨_, rfl, ?_⟩
        replace hOb := own_mo hOb hq
        replace hC := hC.mo hq
        replace M := M.trans hq
        clear hq
        refine wl_pick (.tmp 63) (.tmp 65) (.const (.bool false)) true (.bool true) (fun _ => rfl) rfl rfl rfl ?_
        refine wl_mv (.tmp 66) (.bool true) (fun _ => rfl) rfl rfl ?_
        refine w_nil ?_
        refine xn_then ?_
        refine w_ret ?_
        exact w_ret1 _ (.bool true) rfl rfl ⟨rfl, MA.trans M⟩
  | false =>
    refine wl_un (fun v => Op.unary .not v) (.tmp 14) (.bool false) (.bool true) (fun _ => rfl) rfl (by kernel_rfl) rfl ?_
    refine wl_mv (.tmp 15) (.bool true) (fun _ => rfl) rfl rfl ?_
    refine wl_skip rfl ?_
    refine wl_skip rfl ?_
    refine wl_pick (.tmp 16) (.const (.bool true)) (.tmp 18) true (.bool true) (fun _ => rfl) rfl rfl rfl ?_
    refine w_nil ?_
    refine xn_then ?_
    refine w_condT rfl ?_
    refine w_seq ?_
    refine w_reg ?_
    refine wl_callx 9 [] _ [] rfl rfl (fun _ _ => by kernel_rfl) (live_n _) rfl ?_
    rintro e9 u2 ⟨rfl, hq⟩
    refine ⟨_, rfl, ?_⟩
    replace M := M.trans hq
    clear hq
    refine wl_mv (.tmp 20) (.bool true) (fun _ => rfl) rfl rfl ?_
    refine w_nil ?_
    refine xn_then ?_
    refine w_ret ?_
    refine xr_then ?_
    exact w_ret1 _ (.bool true) rfl rfl ⟨rfl, M⟩
end Go.Proofs.Ythghblgbjgghcaa
