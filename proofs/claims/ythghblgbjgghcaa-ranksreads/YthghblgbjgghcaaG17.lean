/-
  Orders of items.
-/
import Derived.Test.YthghblgbjgghcaaOz
namespace Go.Proofs.Ythghblgbjgghcaa
open Go.RowKit D Go.Sort Go.Lib
theorem ranks_stuck {w : World} {l : List S5} {pl : Option Addr} {cl : Nat} (hL : SL w 5 S5.cells pl l) (hLx : ∀ x ∈ l, LS5 w x) (hz : l.length < 400000) (hzI : nI l < 400000) (hnd : ∀ y ∈ l, ∀ z ∈ y.items, nd z.ex ≤ 3000000) (hN : ∃ n, n < nI l ∧ RkN (RA l) n) : Calls Try.prog 21 #[.slice pl l.length cl] w fun e w' => e = .returned (.tuple #[.slice none 0 0, .int .i64 110]) ∧ Mo w w' := by
  refine (ranks_n (cl := cl) hL hLx hz hzI hnd).mono ?_
  rintro e w' (⟨_, rfl, hq⟩ | ⟨k, rs, hrl, hrs, _⟩)
  · exact ⟨rfl, hq⟩
  · obtain ⟨n, hn, h⟩ := hN
    obtain ⟨r, hr⟩ := get_of_lt (show n < rs.length by omega)
    exact ((hrs n r hr).no h).elim
theorem ranks_ok {w : World} {l : List S5} {pl : Option Addr} {cl : Nat} (hL : SL w 5 S5.cells pl l) (hLx : ∀ x ∈ l, LS5 w x) (hz : l.length < 400000) (hzI : nI l < 400000) (hnd : ∀ y ∈ l, ∀ z ∈ y.items, nd z.ex ≤ 3000000) (hN : ¬ ∃ n, n < nI l ∧ RkN (RA l) n) : Calls Try.prog 21 #[.slice pl l.length cl] w fun e w' => ∃ (k : Nat) (rs : List Nat), rs.length = nI l ∧ (∀ n r, rs[n]? = some r → RkS (RA l) n r) ∧ e = .returned (.tuple #[.slice (some ⟨k, 0, none⟩) (nI l) (nI l), .int .i64 0]) ∧ Ob w' k 3 (rs.map (fun n => .int .i64 ((n : Nat) : Int))) ∧ w.heap.size ≤ k ∧ Mo w w' := by
  refine (ranks_n (cl := cl) hL hLx hz hzI hnd).mono ?_
  rintro e w' (⟨h, _⟩ | h)
  · exact (hN h).elim
  · exact h
theorem order_stuck {w : World} {l : List S5} {pl : Option Addr} {cl : Nat} (hL : SL w 5 S5.cells pl l) (hLx : ∀ x ∈ l, LS5 w x) (hz : l.length < 400000) (hzI : nI l < 400000) (hnd : ∀ y ∈ l, ∀ z ∈ y.items, nd z.ex ≤ 3000000) (hN : ∃ n, n < nI l ∧ RkN (RA l) n) : Calls Try.prog 23 #[.slice pl l.length cl] w fun e w' => e = .returned (.tuple #[.slice none 0 0, .int .i64 110]) ∧ Mo w w' := by
  refine w_enter 33 Try.func23 Try.ntmps23 rfl rfl ?_
  have M : Mo w w := Mo.refl _
  refine w_seq ?_
  refine w_reg ?_
  refine wl_mv (.const (.slice none 0 0)) (.slice none 0 0) (fun _ => rfl) rfl rfl ?_
  refine wl_mv (.const (.int .i64 (0))) (.int .i64 (0)) (fun _ => rfl) rfl rfl ?_
  refine w_nil ?_
  refine xn_then ?_
  refine w_seq ?_
  refine w_reg ?_
  refine wl_mv (.tmp 0) (.slice pl l.length cl) (fun _ => rfl) rfl rfl ?_
  refine wl_callx 21 [(.tmp 9)] _ [.slice pl l.length cl] rfl rfl (fun _ _ => by kernel_rfl) (ranks_stuck (hL.kp M.kp) (fun x hx => (hLx x hx).kp M.kp) hz hzI hnd hN) rfl ?_
  rintro e9 u1 ⟨rfl, hq⟩
  refine ⟨_, rfl, ?_⟩
  replace M := M.trans hq
  clear hq
  refine wl_mv (.tmp 10) (.tuple #[.slice none 0 0, .int .i64 (110)]) (fun _ => rfl) rfl rfl ?_
  refine wl_un (fun v => Instr.extract v 0) (.tmp 8) (.tuple #[.slice none 0 0, .int .i64 (110)]) (.slice none 0 0) (fun _ => rfl) rfl (by kernel_rfl) rfl ?_
  refine wl_un (fun v => Instr.extract v 1) (.tmp 8) (.tuple #[.slice none 0 0, .int .i64 (110)]) (.int .i64 (110)) (fun _ => rfl) rfl (by kernel_rfl) rfl ?_
  refine wl_allocO 32 [.slice none 0 0] rfl (fun _ => by kernel_rfl) rfl ?_
  intro k1 u2 hk hz9 hq O1
  have Q1 := O1.at
  have N_k1 : w.heap.size ≤ k1 := by have := M.size; omega
  replace M := M.trans hq
  clear hk hz9 hq
  refine wl_stO 32 (.tmp 4) (.tmp 11) k1 0 (.slice none 0 0) _ _ [.slice none 0 0] O1 rfl rfl rfl rfl rfl sz32 rfl rfl rfl rfl ?_
  intro u3 hK9 O9
  clear O1
  have O1 := O9
  clear O9
  replace Q1 := O1.at
  replace M := hK9.mo M (fun k e => e ▸ N_k1)
  clear hK9
  refine wl_mv (.tmp 12) (.int .i64 (110)) (fun _ => rfl) rfl rfl ?_
  refine w_nil ?_
  refine xn_then ?_
  refine w_seq ?_
  refine w_seq ?_
  refine w_reg ?_
  refine wl_mv (.tmp 5) (.int .i64 (110)) (fun _ => rfl) rfl rfl ?_
  refine wl_bin (fun x y => do eqGuard .neq 35 (.tmp 13) (.const (.int .i64 (0))) x y; binOp .neq 35 x y) (.tmp 13) (.const (.int .i64 (0))) (.int .i64 (110)) (.int .i64 (0)) (.bool true) (fun _ => rfl) rfl rfl (ne34 (r := false) rfl _ _ _) rfl ?_
  refine w_nil ?_
  refine xn_then ?_
  refine w_condT rfl ?_
  refine w_seq ?_
  refine w_reg ?_
  refine wl_mv (.tmp 5) (.int .i64 (110)) (fun _ => rfl) rfl rfl ?_
  refine wl_mv (.const (.slice none 0 0)) (.slice none 0 0) (fun _ => rfl) rfl rfl ?_
  refine wl_mv (.tmp 15) (.int .i64 (110)) (fun _ => rfl) rfl rfl ?_
  refine w_nil ?_
  refine xn_then ?_
  refine w_ret ?_
  refine xr_then ?_
  exact w_ret2 _ _ (.slice none 0 0) (.int .i64 (110)) rfl rfl rfl ⟨rfl, M⟩
theorem order_ok {w : World} {l : List S5} {pl : Option Addr} {cl : Nat} (hL : SL w 5 S5.cells pl l) (hLx : ∀ x ∈ l, LS5 w x) (hz : l.length < 400000) (hzI : nI l < 400000) (hnd : ∀ y ∈ l, ∀ z ∈ y.items, nd z.ex ≤ 3000000) (hN : ¬ ∃ n, n < nI l ∧ RkN (RA l) n) : Calls Try.prog 23 #[.slice pl l.length cl] w fun e w' => ∃ (k : Nat) (rs L : List Nat), rs.length = nI l ∧ (∀ n r, rs[n]? = some r → RkS (RA l) n r) ∧ L.Perm (List.range rs.length) ∧ L.Pairwise (fun a b => cfO rs a b < 0) ∧ e = .returned (.tuple #[.slice (some ⟨k, 0, none⟩) rs.length rs.length, .int .i64 0]) ∧ Ob w' k 3 (L.map iv) ∧ w.heap.size ≤ k ∧ Mo w w' := by
  refine w_enter 33 Try.func23 Try.ntmps23 rfl rfl ?_
  have M : Mo w w := Mo.refl _
  refine w_seq ?_
  refine w_reg ?_
  refine wl_mv (.const (.slice none 0 0)) (.slice none 0 0) (fun _ => rfl) rfl rfl ?_
  refine wl_mv (.const (.int .i64 (0))) (.int .i64 (0)) (fun _ => rfl) rfl rfl ?_
  refine w_nil ?_
  refine xn_then ?_
  refine w_seq ?_
  refine w_reg ?_
  refine wl_mv (.tmp 0) (.slice pl l.length cl) (fun _ => rfl) rfl rfl ?_
  refine wl_callx 21 [(.tmp 9)] _ [.slice pl l.length cl] rfl rfl (fun _ _ => by kernel_rfl) (ranks_ok (hL.kp M.kp) (fun x hx => (hLx x hx).kp M.kp) hz hzI hnd hN) rfl ?_
  rintro e9 u1 ⟨kr, rs, hrl, hrs, rfl, hOr, hkr, hq⟩
  refine ⟨_, rfl, ?_⟩
  rw [← hrl]
  have M0 := M.trans hq
  have hN0 := M0.size
  clear hq
  clear M
  have M : Mo u1 u1 := Mo.refl _
  refine wl_mv (.tmp 10) (.tuple #[.slice (some ⟨kr, 0, none⟩) rs.length rs.length, .int .i64 (0)]) (fun _ => rfl) rfl rfl ?_
  refine wl_un (fun v => Instr.extract v 0) (.tmp 8) (.tuple #[.slice (some ⟨kr, 0, none⟩) rs.length rs.length, .int .i64 (0)]) (.slice (some ⟨kr, 0, none⟩) rs.length rs.length) (fun _ => rfl) rfl (by kernel_rfl) rfl ?_
  refine wl_un (fun v => Instr.extract v 1) (.tmp 8) (.tuple #[.slice (some ⟨kr, 0, none⟩) rs.length rs.length, .int .i64 (0)]) (.int .i64 (0)) (fun _ => rfl) rfl (by kernel_rfl) rfl ?_
  refine wl_allocO 32 [.slice none 0 0] rfl (fun _ => by kernel_rfl) rfl ?_
  intro k1 u2 hk hz9 hq O1
  have Q1 := O1.at
  have N_k1 : u1.heap.size ≤ k1 := by have := M.size; omega
  replace M := M.trans hq
  clear hk hz9 hq
  refine wl_stO 32 (.tmp 4) (.tmp 11) k1 0 (.slice (some ⟨kr, 0, none⟩) rs.length rs.length) _ _ [.slice (some ⟨kr, 0, none⟩) rs.length rs.length] O1 rfl rfl rfl rfl rfl sz32 rfl rfl rfl rfl ?_
  intro u3 hK9 O9
  clear O1
  have O1 := O9
  clear O9
  replace Q1 := O1.at
  replace M := hK9.mo M (fun k e => e ▸ N_k1)
  clear hK9
  refine wl_mv (.tmp 12) (.int .i64 (0)) (fun _ => rfl) rfl rfl ?_
  refine w_nil ?_
  refine xn_then ?_
  refine w_seq ?_
  refine w_seq ?_
  refine w_reg ?_
  refine wl_mv (.tmp 5) (.int .i64 (0)) (fun _ => rfl) rfl rfl ?_
  refine wl_bin (fun x y => do eqGuard .neq 35 (.tmp 13) (.const (.int .i64 (0))) x y; binOp .neq 35 x y) (.tmp 13) (.const (.int .i64 (0))) (.int .i64 (0)) (.int .i64 (0)) (.bool false) (fun _ => rfl) rfl rfl (ne34 (r := true) rfl _ _ _) rfl ?_
  refine w_nil ?_
  refine xn_then ?_
  refine w_condF rfl ?_
  refine w_skip ?_
  refine xn_then ?_
  refine w_seq ?_
  refine w_reg ?_
  refine wl_load 32 (.tmp 4) (pt k1 0) (.slice (some ⟨kr, 0, none⟩) rs.length rs.length) rfl rfl (run_one Q1 32 0 rfl Try.underlying32 rfl) rfl ?_
  refine wl_val (.int .i64 ((rs.length : Nat) : Int)) (len32 _ _ _ _ _ (by exact rfl) _ _ _ _ _ _) rfl ?_
  refine wl_makeS 32 3 (.tmp 17) (.tmp 17) (rs.length) (.int .i64 0) 8 Try.underlying32 inf3 rfl (by omega) (by omega) rfl rfl rfl rfl ?_
  intro k2 u4 hk hz hq O2
  have Q2 := O2.at
  have ne_k1_k2 : k1 ≠ k2 := by have := Q1.lt; omega
  have N_k2 : u1.heap.size ≤ k2 := by have := M.size; omega
  replace Q1 := Q1.mo hq
  replace O1 := O1.mo hq
  replace M := M.trans hq
  clear hk hz hq
  refine wl_mv (.tmp 18) (.slice (some ⟨k2, 0, none⟩) rs.length rs.length) (fun _ => rfl) rfl rfl ?_
  refine w_nil ?_
  refine xn_then ?_
  refine w_seq ?_
  refine w_seq ?_
  refine w_reg ?_
  refine wl_mv (.tmp 6) (.slice (some ⟨k2, 0, none⟩) rs.length rs.length) (fun _ => rfl) rfl rfl ?_
  refine wl_val (.int .i64 ((rs.length : Nat) : Int)) (len32 _ _ _ _ _ (by exact rfl) _ _ _ _ _ _) rfl ?_
  refine wl_mv (.const (.int .i64 (0))) (.int .i64 (0)) (fun _ => rfl) rfl rfl ?_
  refine w_nil ?_
  refine xn_then ?_
  refine w_block ?_
  have hA1 := Q1
  refine w_loop (fun m lf w1 => ∃ i : Nat, m = rs.length - i ∧ look lf 4 = pt k1 0 ∧ look lf 6 = .slice (some ⟨k2, 0, none⟩) rs.length rs.length ∧ look lf 20 = .int .i64 ((rs.length : Nat) : Int) ∧ look lf 21 = .int .i64 ((i : Nat) : Int) ∧ (i ≤ rs.length) ∧ (At w1 k1 [.slice (some ⟨kr, 0, none⟩) rs.length rs.length]) ∧ (Ob w1 k2 3 ((List.range i).map iv ++ List.replicate (rs.length - i) (.int .i64 0))) ∧ (Mo u1 w1)) _ ⟨0, rfl, rfl, rfl, rfl, rfl, Nat.zero_le _, hA1, (by simpa using O2), M⟩ ?_
  clear hA1 O2 Q1 Q2 O1 M
  rintro m lf40 wl40 ⟨i, rfl, e40_4, e40_6, e40_20, e40_21, hi, hA1, O2, M⟩
  cases hd2 : decide (i < rs.length) with
  | true =>
    have hil := of_decide_eq_true hd2
    have Q2 := O2.at
    refine w_seq ?_
    refine w_reg ?_
    refine wl_bin (fun x y => do eqGuard .lss 3 (.tmp 21) (.tmp 20) x y; binOp .lss 3 x y) (.tmp 21) (.tmp 20) (.int .i64 ((i : Nat) : Int)) (.int .i64 ((rs.length : Nat) : Int)) (.bool true) (fun _ => rfl) e40_21 e40_20 (ltN hd2 _ _ _) rfl ?_
    refine w_nil ?_
    refine xn_then ?_
    refine w_seq ?_
    refine w_condT rfl ?_
    refine w_skip ?_
    refine xn_then ?_
    refine w_seq ?_
    refine w_block ?_
    refine w_seq ?_
    refine w_reg ?_
    refine wl_mv (.tmp 21) (.int .i64 ((i : Nat) : Int)) (fun _ => rfl) e40_21 rfl ?_
    refine wl_mv (.tmp 23) (.int .i64 ((i : Nat) : Int)) (fun _ => rfl) rfl rfl ?_
    refine w_nil ?_
    refine xn_then ?_
    refine w_reg ?_
    refine wl_mv (.tmp 6) (.slice (some ⟨k2, 0, none⟩) rs.length rs.length) (fun _ => rfl) e40_6 rfl ?_
    refine wl_mv (.tmp 7) (.int .i64 ((i : Nat) : Int)) (fun _ => rfl) rfl rfl ?_
    refine wl_mv (.tmp 7) (.int .i64 ((i : Nat) : Int)) (fun _ => rfl) rfl rfl ?_
    refine wl_bin (fun x y => Instr.indexAt 32 x y) (.tmp 24) (.tmp 25) (.slice (some ⟨k2, 0, none⟩) rs.length rs.length) (.int .i64 ((i : Nat) : Int)) (pt k2 (0 + i * 1)) (fun _ => rfl) rfl rfl (ix32 (i := i) rfl hil _) rfl ?_
    refine wl_sti 3 (.tmp 27) (.tmp 26) k2 (0 + i * 1) (.int .i64 ((i : Nat) : Int)) 3 _ O2 rfl rfl rfl rfl (by simp; omega) sz3 rfl rfl rfl ?_
    intro u41 hK9 hO9
    replace hA1 := hK9.at hA1 ne_k1_k2
    replace M := hK9.mo M (fun k e => e ▸ N_k2)
    clear Q2 O2
    have O2 : Ob u41 k2 3 ((List.range (i + 1)).map iv ++ List.replicate (rs.length - (i + 1)) (.int .i64 0)) := by rw [set_rep (f := iv) (List.range i) i hil (by simp), ← List.range_succ] at hO9; exact hO9
    refine w_nil ?_
    refine xn_blk ?_
    refine xn_then ?_
    refine w_reg ?_
    refine wl_bin (fun x y => do eqGuard .add 3 (.tmp 21) (.const (.int .i64 (1))) x y; binOp .add 3 x y) (.tmp 21) (.const (.int .i64 (1))) (.int .i64 ((i : Nat) : Int)) (.int .i64 (1)) (.int .i64 ((i + 1 : Nat) : Int)) (fun _ => rfl) e40_21 rfl (add1r (k := i) (by omega) _ _ _) rfl ?_
    refine wl_mv (.tmp 28) (.int .i64 ((i + 1 : Nat) : Int)) (fun _ => rfl) rfl rfl ?_
    refine w_nil ?_
    exact xn_loop (rs.length - (i + 1)) (by omega) ⟨i + 1, rfl, e40_4, e40_6, e40_20, rfl, by omega, hA1, O2, M⟩
  | false =>
    have hie : i = rs.length := by have := of_decide_eq_false hd2; omega
    rw [hie, Nat.sub_self, List.replicate_zero, List.append_nil] at O2
    refine w_seq ?_
    refine w_reg ?_
    refine wl_bin (fun x y => do eqGuard .lss 3 (.tmp 21) (.tmp 20) x y; binOp .lss 3 x y) (.tmp 21) (.tmp 20) (.int .i64 ((i : Nat) : Int)) (.int .i64 ((rs.length : Nat) : Int)) (.bool false) (fun _ => rfl) e40_21 e40_20 (ltN hd2 _ _ _) rfl ?_
    refine w_nil ?_
    refine xn_then ?_
    refine w_seq ?_
    refine w_condF rfl ?_
    refine w_exit ?_
    refine xx_then ?_
    refine xx_then ?_
    refine xx_blk ?_
    refine xn_then ?_
    refine w_seq ?_
    refine w_reg ?_
    refine wl_mv (.tmp 6) (.slice (some ⟨k2, 0, none⟩) rs.length rs.length) (fun _ => rfl) e40_6 rfl ?_
    refine wl_mf (.func 47) [] [(.tmp 4)] [] [pt k1 0] rfl rfl (li1 e40_4) rfl ?_
    refine wl_callx 46 [(.tmp 29), (.tmp 30)] _ [.slice (some ⟨k2, 0, none⟩) rs.length rs.length, .func (.func 47) #[] #[pt k1 0]] rfl rfl (fun _ _ => by kernel_rfl) (sortf_n hA1 (hOr.mo M) O2 ne_k1_k2 (by have := hOr.lt; omega) (by omega)) rfl ?_
    rintro e9 u41 ⟨rfl, ⟨L, hp, hpw, hOL⟩, hm9⟩
    refine ⟨_, rfl, ?_⟩
    replace M := hm9.mo M (fun k e => e ▸ N_k2)
    clear hm9
    refine w_nil ?_
    refine xn_then ?_
    refine w_seq ?_
    refine w_reg ?_
    refine wl_mv (.tmp 6) (.slice (some ⟨k2, 0, none⟩) rs.length rs.length) (fun _ => rfl) e40_6 rfl ?_
    refine wl_mv (.tmp 32) (.slice (some ⟨k2, 0, none⟩) rs.length rs.length) (fun _ => rfl) rfl rfl ?_
    refine wl_mv (.const (.int .i64 (0))) (.int .i64 (0)) (fun _ => rfl) rfl rfl ?_
    refine w_nil ?_
    refine xn_then ?_
    refine w_ret ?_
    exact w_ret2 _ _ (.slice (some ⟨k2, 0, none⟩) rs.length rs.length) (.int .i64 (0)) rfl rfl rfl ⟨k2, rs, L, rfl, hrs, hp, hpw, rfl, hOL, Nat.le_trans hN0 N_k2, M0.trans M⟩
end Go.Proofs.Ythghblgbjgghcaa
