/-
  Numbers of items at any numbers; those that read an item, by rounds. What all items read, as the document tells it (by what one reads). Numbers at any numbers; users, as the document tells them.
-/
import Derived.Test.YthghblgbjgghcaaGqa
import Derived.Test.YthghblgbjgghcaaGda
namespace Go.Proofs.Ythghblgbjgghcaa
open Go.RowKit D Go.Proofs
/-- An item's number, or none. -/
def nuA (l : List S5) (s j : Int) : Value := if hasS l s && decide (0 ≤ j) && decide (j < ((itn l s.toNat).length : Int)) then .tuple #[.int .i64 ((fsn l s.toNat + j.toNat : Nat) : Int), .bool true] else .tuple #[.int .i64 0, .bool false]
theorem nuA_yes {l : List S5} {s j : Nat} {y : S5} (hy : l[s]? = some y) (hj : j < y.items.length) : nuA l ((s : Nat) : Int) ((j : Nat) : Int) = .tuple #[.int .i64 ((fsn l s + j : Nat) : Int), .bool true] := by
  have hs := lt_of_get hy
  unfold nuA; rw [if_pos (by simp [hasS, hs, itn_eq hy, hj])]; simp
theorem nuA_no {l : List S5} {s j : Int} (h : hasS l s = false ∨ j < 0 ∨ ((itn l s.toNat).length : Int) ≤ j) : nuA l s j = .tuple #[.int .i64 0, .bool false] := by
  unfold nuA; rw [if_neg]
  simp only [Bool.and_eq_true, decide_eq_true_eq, not_and]
  rintro ⟨h1, h2⟩ h3
  rcases h with q | q | q
  · rw [q] at h1; cases h1
  · omega
  · omega
/-! Rounds until nothing changes. -/
/-- Whoever reads one of those that are in, or the item itself, is in. -/
theorem Snd.all {R : List (List Nat)} {n : Nat} {B : List Bool} (hS : Snd R n B) (hl : B.length = R.length) (hc : ∀ k, B[k]? = some false → ∀ y ∈ row R k, y ≠ n ∧ B[y]? ≠ some true) (u : Nat) : B[u]? = some true ↔ Rch R u n := by
  have key : ∀ k u, rch R k u n → B[u]? = some true := by
    intro k
    induction k with
    | zero =>
      intro u h
      have hul := row_lt (show n ∈ row R u from h)
      obtain ⟨b, hb⟩ := get_of_lt (show u < B.length by omega)
      cases b with
      | true => exact hb
      | false => exact absurd rfl (hc u hb n h).1
    | succ k ih =>
      intro u ⟨c, h1, h2⟩
      have hc2 := ih c h2
      have hul := row_lt h1
      obtain ⟨b, hb⟩ := get_of_lt (show u < B.length by omega)
      cases b with
      | true => exact hb
      | false => exact absurd hc2 (hc u hb c h1).2
  exact ⟨hS u, fun ⟨k, h⟩ => key k u h⟩
theorem gd_iff : ∀ {o : Option Bool}, o.getD false = true ↔ o = some true
  | none => by simp
  | some b => by simp
/-- How many are not in yet. -/
theorem cfl_pos {E : List Bool} {s : Nat} (hs : E[s]? = some false) : 0 < cfl E := by have := cfl_set hs; omega
end Go.Proofs.Ythghblgbjgghcaa
namespace Go.Proofs.Ythghblgbjgghcaa
open Go.RowKit D
theorem all40_n {w : World} {l : List S5} {pl : Option Addr} {cl : Nat} (hL : SL w 5 S5.cells pl l) (hz : l.length < 400000) (hzI : nI l < 400000) (h16 : ∀ {u : World} {m : Nat}, Mo w u → m < nI l → Calls Try.prog 16 #[.slice pl l.length cl, .int .i64 ((m : Nat) : Int)] u fun e w' => ∃ (pa : Option Addr) (cap : Nat), e = .returned (.slice pa (row (RA l) m).length cap) ∧ Li w' pa (row (RA l) m) ∧ Mo u w') : Calls Try.prog 40 #[.slice pl l.length cl] w fun e w' => ∃ (V : List Iz) (pv : Option Addr) (cv : Nat), e = .returned (.slice pv V.length cv) ∧ Ow w.heap.size 32 1 zc w' pv cv V ∧ (∀ x ∈ V, Li w' x.pa x.L) ∧ V.map Iz.L = RA l ∧ Mo w w' := by
  refine w_enter 18 Try.func40 Try.ntmps40 rfl rfl ?_
  have M : Mo w w := Mo.refl _
  refine w_seq ?_
  refine w_reg ?_
  refine wl_mv (.const (.slice none 0 0)) (.slice none 0 0) (fun _ => rfl) rfl rfl ?_
  refine w_nil ?_
  refine xn_then ?_
  refine w_seq ?_
  refine w_reg ?_
  refine wl_mv (.const (.slice none 0 0)) (.slice none 0 0) (fun _ => rfl) rfl rfl ?_
  refine w_nil ?_
  refine xn_then ?_
  refine w_seq ?_
  refine w_seq ?_
  refine w_reg ?_
  refine wl_mv (.const (.int .i64 (0))) (.int .i64 (0)) (fun _ => rfl) rfl rfl ?_
  refine w_nil ?_
  refine xn_then ?_
  refine w_block ?_
  refine w_loop (fun m lf w1 => ∃ i : Nat, ∃ V : List Iz, ∃ pv : Option Addr, ∃ cv : Nat, m = nI l - i ∧ look lf 0 = .slice pl l.length cl ∧ look lf 3 = .slice pv V.length cv ∧ look lf 4 = .int .i64 ((i : Nat) : Int) ∧ (i ≤ nI l) ∧ (Ow w.heap.size 32 1 zc w1 pv cv V) ∧ (∀ x ∈ V, Li w1 x.pa x.L) ∧ (V.map Iz.L = (RA l).take i) ∧ (Mo w w1)) _ ⟨0, [], none, 0, rfl, rfl, rfl, rfl, Nat.zero_le _, Ow.nil _ _ _ _ _, (fun x hx => by cases hx), rfl, M⟩ ?_
  clear M
  rintro m lf40 wl40 ⟨i, V, pv, cv, rfl, e40_0, e40_3, e40_4, hi, hW, hli, hV, M⟩
  have hVl : V.length = i := by have := congrArg List.length hV; rw [List.length_map, List.length_take, RA_len] at this; omega
  cases hd : decide (i < (nI l)) with
  | true =>
    have hil := of_decide_eq_true hd
    refine w_seq ?_
    refine w_seq ?_
    refine w_reg ?_
    refine wl_mv (.tmp 4) (.int .i64 ((i : Nat) : Int)) (fun _ => rfl) e40_4 rfl ?_
    refine wl_mv (.tmp 0) (.slice pl l.length cl) (fun _ => rfl) e40_0 rfl ?_
    refine wl_callx 28 [(.tmp 6)] _ [.slice pl l.length cl] rfl rfl (fun _ _ => by kernel_rfl) (many_n (hL.kp M.kp) hz hzI) rfl ?_
    rintro e9 u41 ⟨rfl, hq⟩
    refine ⟨_, rfl, ?_⟩
    replace hW := own_mo hW hq
    replace hli : ∀ x ∈ V, Li _ x.pa x.L := fun x hx => (hli x hx).mo hq
    replace M := M.trans hq
    clear hq
    refine wl_bin (fun x y => do eqGuard .lss 3 (.tmp 5) (.tmp 7) x y; binOp .lss 3 x y) (.tmp 5) (.tmp 7) (.int .i64 ((i : Nat) : Int)) (.int .i64 (((nI l) : Nat) : Int)) (.bool true) (fun _ => rfl) rfl rfl (ltN hd _ _ _) rfl ?_
    refine w_nil ?_
    refine xn_then ?_
    refine w_condT rfl ?_
    refine w_skip ?_
    refine xn_then ?_
    refine w_seq ?_
    refine w_block ?_
    refine w_reg ?_
    refine wl_mv (.tmp 3) (.slice pv V.length cv) (fun _ => rfl) e40_3 rfl ?_
    refine wl_mv (.tmp 0) (.slice pl l.length cl) (fun _ => rfl) e40_0 rfl ?_
    refine wl_mv (.tmp 4) (.int .i64 ((i : Nat) : Int)) (fun _ => rfl) e40_4 rfl ?_
    refine wl_callx 16 [(.tmp 12), (.tmp 13)] _ [.slice pl l.length cl, .int .i64 ((i : Nat) : Int)] rfl rfl (fun _ _ => by kernel_rfl) ((h16 M hil)) rfl ?_
    rintro e9 u42 ⟨pr, cr, rfl, hLr, hq⟩
    refine ⟨_, rfl, ?_⟩
    replace hW := own_mo hW hq
    replace hli : ∀ x ∈ V, Li _ x.pa x.L := fun x hx => (hli x hx).mo hq
    replace M := M.trans hq
    clear hq
    refine wl_bs 79 1 [(0, (.tmp 14))] [(0, .slice pr (row (RA l) i).length cr)] #[.slice pr (row (RA l) i).length cr] 32 rfl rfl (fun _ => by kernel_rfl) rfl ?_
    intro k1 u43 hk hz hq Q1
    have N_k1 : w.heap.size ≤ k1 := by have := M.size; omega
    replace hW := own_mo hW hq
    replace hli : ∀ x ∈ V, Li _ x.pa x.L := fun x hx => (hli x hx).mo hq
    replace hLr := hLr.mo hq
    replace M := M.trans hq
    clear hk hz hq
    refine wl_apG Try.underlying79 inf32 rfl (by decide) (by decide) (.tmp 11) (.tmp 15) (cells := zc) (y := ⟨pr, cr, row (RA l) i⟩) k1 rfl rfl rfl hW rfl (by simp [Iz.v, Value.oneCell']) Q1 (by omega) M.size rfl ?_
    intro pv2 cv2 u44 hW2 hK9 hv9
    have hl2 : ∀ x ∈ V ++ [(⟨pr, cr, row (RA l) i⟩ : Iz)], Li u44 x.pa x.L := fun x hx => by rcases List.mem_append.1 hx with q | q; (exact (hli x q).kk hK9 (fun a e e2 => by have := ((hli x q).ty a e).two (own_ty hW e2); cases this)); (rcases List.mem_singleton.1 q with rfl; exact hLr.kk hK9 (fun a e e2 => by have := (hLr.ty a e).two (own_ty hW e2); cases this))
    replace M := own_gap hW hK9 (Nat.le_refl _) M
    clear hW hK9 hv9 hli
    refine wl_mv (.tmp 16) (.slice pv2 (V ++ [(⟨pr, cr, row (RA l) i⟩ : Iz)]).length cv2) (fun _ => rfl) rfl rfl ?_
    refine w_nil ?_
    refine xn_blk ?_
    refine xn_then ?_
    refine w_reg ?_
    refine wl_mv (.tmp 4) (.int .i64 ((i : Nat) : Int)) (fun _ => rfl) e40_4 rfl ?_
    refine wl_bin (fun x y => do eqGuard .add 3 (.tmp 9) (.const (.int .i64 (1))) x y; binOp .add 3 x y) (.tmp 9) (.const (.int .i64 (1))) (.int .i64 ((i : Nat) : Int)) (.int .i64 (1)) (.int .i64 ((i + 1 : Nat) : Int)) (fun _ => rfl) rfl rfl (add1r (k := i) (by omega) _ _ _) rfl ?_
    refine wl_mv (.tmp 10) (.int .i64 ((i + 1 : Nat) : Int)) (fun _ => rfl) rfl rfl ?_
    refine w_nil ?_
    exact xn_loop (nI l - (i + 1)) (by omega) ⟨i + 1, V ++ [(⟨pr, cr, row (RA l) i⟩ : Iz)], pv2, cv2, rfl, e40_0, rfl, rfl, by omega, hW2, hl2, (by rw [List.map_append, hV, List.take_add_one]; obtain ⟨r9, hr9⟩ := get_of_lt (show i < (RA l).length by rw [RA_len]; exact hil); rw [hr9, row_eq hr9]; rfl), M⟩
  | false =>
    have hie : i = nI l := by have := of_decide_eq_false hd; omega
    rw [hie, ← RA_len, List.take_length] at hV
    refine w_seq ?_
    refine w_seq ?_
    refine w_reg ?_
    refine wl_mv (.tmp 4) (.int .i64 ((i : Nat) : Int)) (fun _ => rfl) e40_4 rfl ?_
    refine wl_mv (.tmp 0) (.slice pl l.length cl) (fun _ => rfl) e40_0 rfl ?_
    refine wl_callx 28 [(.tmp 6)] _ [.slice pl l.length cl] rfl rfl (fun _ _ => by kernel_rfl) (many_n (hL.kp M.kp) hz hzI) rfl ?_
    rintro e9 u41 ⟨rfl, hq⟩
    refine ⟨_, rfl, ?_⟩
    replace hW := own_mo hW hq
    replace hli : ∀ x ∈ V, Li _ x.pa x.L := fun x hx => (hli x hx).mo hq
    replace M := M.trans hq
    clear hq
    refine wl_bin (fun x y => do eqGuard .lss 3 (.tmp 5) (.tmp 7) x y; binOp .lss 3 x y) (.tmp 5) (.tmp 7) (.int .i64 ((i : Nat) : Int)) (.int .i64 (((nI l) : Nat) : Int)) (.bool false) (fun _ => rfl) rfl rfl (ltN hd _ _ _) rfl ?_
    refine w_nil ?_
    refine xn_then ?_
    refine w_condF rfl ?_
    refine w_exit ?_
    refine xx_then ?_
    refine xx_then ?_
    refine xx_blk ?_
    refine xn_then ?_
    refine w_seq ?_
    refine w_reg ?_
    refine wl_mv (.tmp 3) (.slice pv V.length cv) (fun _ => rfl) e40_3 rfl ?_
    refine wl_mv (.tmp 17) (.slice pv V.length cv) (fun _ => rfl) rfl rfl ?_
    refine w_nil ?_
    refine xn_then ?_
    refine w_ret ?_
    exact w_ret1 _ (.slice pv V.length cv) rfl rfl ⟨V, pv, cv, rfl, hW, hli, hV, M⟩
end Go.Proofs.Ythghblgbjgghcaa
namespace Go.Proofs.Ythghblgbjgghcaa
open Go.RowKit D
theorem num10_n {w : World} {l : List S5} {pl : Option Addr} {cl : Nat} (hL : SL w 5 S5.cells pl l) (hz : l.length < 400000) (hzI : nI l < 400000) {s j : Nat} {y : S5} (hy : l[s]? = some y) (hj : j < y.items.length) : Calls Try.prog 10 #[.slice pl l.length cl, .int .i64 ((s : Nat) : Int), .int .i64 ((j : Nat) : Int)] w fun e w' => e = .returned (.tuple #[.int .i64 ((fsn l s + j : Nat) : Int), .bool true]) ∧ Mo w w' := by
  have hsl := lt_of_get hy
  have hf2 : decide (j < 0) = false := decide_eq_false (by omega)
  have hf3 : decide (((y.items.length : Nat) : Int) ≤ ((j : Nat) : Int)) = false := decide_eq_false (by omega)
  have hfY := fsn_s hy
  have hfZ := fsn_le l (s + 1)
  obtain ⟨bv, ov, hpv, hRv⟩ := D.SL.rw hL hy
  refine w_enter 41 Try.func10 Try.ntmps10 rfl rfl ?_
  have M : Mo w w := Mo.refl _
  refine w_seq ?_
  refine w_reg ?_
  refine wl_mv (.const (.int .i64 (0))) (.int .i64 (0)) (fun _ => rfl) rfl rfl ?_
  refine wl_mv (.const (.bool false)) (.bool false) (fun _ => rfl) rfl rfl ?_
  refine w_nil ?_
  refine xn_then ?_
  refine w_seq ?_
  refine w_seq ?_
  refine w_reg ?_
  refine wl_mv (.tmp 0) (.slice pl l.length cl) (fun _ => rfl) rfl rfl ?_
  refine wl_mv (.tmp 1) (.int .i64 ((s : Nat) : Int)) (fun _ => rfl) rfl rfl ?_
  refine wl_callx 33 [(.tmp 9), (.tmp 10)] _ [.slice pl l.length cl, .int .i64 ((s : Nat) : Int)] rfl rfl (fun _ _ => by kernel_rfl) ((has_n pl l.length cl ((s : Nat) : Int) _)) rfl ?_
  rintro e9 u1 ⟨rfl, hq⟩
  refine ⟨_, rfl, ?_⟩
  rw [show (decide (0 ≤ ((s : Nat) : Int)) && decide (((s : Nat) : Int) < ((l.length : Nat) : Int))) = true by simp [hsl]]
  replace M := M.trans hq
  clear hq
  refine wl_un (fun v => Op.unary .not v) (.tmp 11) (.bool true) (.bool false) (fun _ => rfl) rfl (by kernel_rfl) rfl ?_
  refine wl_mv (.tmp 12) (.bool false) (fun _ => rfl) rfl rfl ?_
  refine wl_mv (.tmp 2) (.int .i64 ((j : Nat) : Int)) (fun _ => rfl) rfl rfl ?_
  refine wl_bin (fun x y => do eqGuard .lss 3 (.tmp 14) (.const (.int .i64 (0))) x y; binOp .lss 3 x y) (.tmp 14) (.const (.int .i64 (0))) (.int .i64 ((j : Nat) : Int)) (.int .i64 (0)) (.bool false) (fun _ => rfl) rfl rfl (ltN hf2 _ _ _) rfl ?_
  refine wl_pick (.tmp 13) (.const (.bool true)) (.tmp 15) false (.bool false) (fun _ => rfl) rfl rfl rfl ?_
  refine wl_mv (.tmp 16) (.bool false) (fun _ => rfl) rfl rfl ?_
  refine wl_mv (.tmp 2) (.int .i64 ((j : Nat) : Int)) (fun _ => rfl) rfl rfl ?_
  refine wl_mv (.tmp 0) (.slice pl l.length cl) (fun _ => rfl) rfl rfl ?_
  refine wl_mv (.tmp 1) (.int .i64 ((s : Nat) : Int)) (fun _ => rfl) rfl rfl ?_
  refine wl_bin (fun x y => Instr.indexAt 22 x y) (.tmp 19) (.tmp 20) (.slice pl l.length cl) (.int .i64 ((s : Nat) : Int)) (pt bv (ov + s * 5)) (fun _ => rfl) rfl rfl (ix22 (i := s) hpv hsl _) rfl ?_
  refine wl_un (fun v => Instr.fieldAt 55 v 4) (.tmp 21) (pt bv (ov + s * 5)) (pt bv (ov + s * 5 + 4)) (fun _ => rfl) rfl (by kernel_rfl) rfl ?_
  refine wl_load 39 (.tmp 22) (pt bv (ov + s * 5 + 4)) (.slice y.pi y.items.length y.ci) rfl rfl (D.run_oneR (hRv.mo M).at' 39 4 rfl Try.underlying39 rfl) rfl ?_
  refine wl_val (.int .i64 ((y.items.length : Nat) : Int)) (len39 _ _ _ _ _ (by exact rfl) _ _ _ _ _ _) rfl ?_
  refine wl_bin (fun x y => do eqGuard .geq 3 (.tmp 18) (.tmp 24) x y; binOp .geq 3 x y) (.tmp 18) (.tmp 24) (.int .i64 ((j : Nat) : Int)) (.int .i64 ((y.items.length : Nat) : Int)) (.bool false) (fun _ => rfl) rfl rfl (ge3 hf3 _ _ _) rfl ?_
  refine wl_pick (.tmp 17) (.const (.bool true)) (.tmp 25) false (.bool false) (fun _ => rfl) rfl rfl rfl ?_
  refine w_nil ?_
  refine xn_then ?_
  refine w_condF rfl ?_
  refine w_skip ?_
  refine xn_then ?_
  refine w_seq ?_
  refine w_seq ?_
  refine w_reg ?_
  refine wl_mv (.tmp 1) (.int .i64 ((s : Nat) : Int)) (fun _ => rfl) rfl rfl ?_
  refine wl_mv (.const (.int .i64 (0))) (.int .i64 (0)) (fun _ => rfl) rfl rfl ?_
  refine w_nil ?_
  refine xn_then ?_
  refine w_block ?_
  refine w_loop (fun m lf w1 => ∃ i : Nat, m = s - i ∧ look lf 0 = .slice pl l.length cl ∧ look lf 2 = .int .i64 ((j + fsn l i : Nat) : Int) ∧ look lf 27 = .int .i64 ((s : Nat) : Int) ∧ look lf 28 = .int .i64 ((i : Nat) : Int) ∧ (i ≤ s) ∧ (Mo w w1)) _ ⟨0, rfl, rfl, rfl, rfl, rfl, Nat.zero_le _, M⟩ ?_
  clear M
  rintro m lf40 wl40 ⟨i, rfl, e40_0, e40_2, e40_27, e40_28, hi, M⟩
  cases hd : decide (i < s) with
  | true =>
    have hil := of_decide_eq_true hd
    obtain ⟨x, hx⟩ := get_of_lt (show i < l.length by omega)
    have hfs := fsn_s hx
    have hfm := fsn_mono (l := l) (show i + 1 ≤ s by omega)
    have hil2 : i < l.length := by omega
    obtain ⟨bp, op, hpp, hRp⟩ := D.SL.rw hL hx
    refine w_seq ?_
    refine w_reg ?_
    refine wl_bin (fun x y => do eqGuard .lss 3 (.tmp 28) (.tmp 27) x y; binOp .lss 3 x y) (.tmp 28) (.tmp 27) (.int .i64 ((i : Nat) : Int)) (.int .i64 ((s : Nat) : Int)) (.bool true) (fun _ => rfl) e40_28 e40_27 (ltN hd _ _ _) rfl ?_
    refine w_nil ?_
    refine xn_then ?_
    refine w_seq ?_
    refine w_condT rfl ?_
    refine w_skip ?_
    refine xn_then ?_
    refine w_seq ?_
    refine w_block ?_
    refine w_seq ?_
    refine w_reg ?_
    refine wl_mv (.tmp 28) (.int .i64 ((i : Nat) : Int)) (fun _ => rfl) e40_28 rfl ?_
    refine wl_mv (.tmp 30) (.int .i64 ((i : Nat) : Int)) (fun _ => rfl) rfl rfl ?_
    refine w_nil ?_
    refine xn_then ?_
    refine w_reg ?_
    refine wl_mv (.tmp 2) (.int .i64 ((j + fsn l i : Nat) : Int)) (fun _ => rfl) e40_2 rfl ?_
    refine wl_mv (.tmp 0) (.slice pl l.length cl) (fun _ => rfl) e40_0 rfl ?_
    refine wl_mv (.tmp 8) (.int .i64 ((i : Nat) : Int)) (fun _ => rfl) rfl rfl ?_
    refine wl_bin (fun x y => Instr.indexAt 22 x y) (.tmp 32) (.tmp 33) (.slice pl l.length cl) (.int .i64 ((i : Nat) : Int)) (pt bp (op + i * 5)) (fun _ => rfl) rfl rfl (ix22 (i := i) hpp hil2 _) rfl ?_
    refine wl_un (fun v => Instr.fieldAt 55 v 4) (.tmp 34) (pt bp (op + i * 5)) (pt bp (op + i * 5 + 4)) (fun _ => rfl) rfl (by kernel_rfl) rfl ?_
    refine wl_load 39 (.tmp 35) (pt bp (op + i * 5 + 4)) (.slice x.pi x.items.length x.ci) rfl rfl (D.run_oneR (hRp.mo M).at' 39 4 rfl Try.underlying39 rfl) rfl ?_
    refine wl_val (.int .i64 ((x.items.length : Nat) : Int)) (len39 _ _ _ _ _ (by exact rfl) _ _ _ _ _ _) rfl ?_
    refine wl_bin (fun x y => do eqGuard .add 3 (.tmp 31) (.tmp 37) x y; binOp .add 3 x y) (.tmp 31) (.tmp 37) (.int .i64 ((j + fsn l i : Nat) : Int)) (.int .i64 ((x.items.length : Nat) : Int)) (.int .i64 ((j + fsn l i + x.items.length : Nat) : Int)) (fun _ => rfl) rfl rfl (addN (a := j + fsn l i) (b := x.items.length) (by omega) _ _ _) rfl ?_
    refine wl_mv (.tmp 38) (.int .i64 ((j + fsn l i + x.items.length : Nat) : Int)) (fun _ => rfl) rfl rfl ?_
    refine w_nil ?_
    refine xn_blk ?_
    refine xn_then ?_
    refine w_reg ?_
    refine wl_bin (fun x y => do eqGuard .add 3 (.tmp 28) (.const (.int .i64 (1))) x y; binOp .add 3 x y) (.tmp 28) (.const (.int .i64 (1))) (.int .i64 ((i : Nat) : Int)) (.int .i64 (1)) (.int .i64 ((i + 1 : Nat) : Int)) (fun _ => rfl) e40_28 rfl (add1r (k := i) (by omega) _ _ _) rfl ?_
    refine wl_mv (.tmp 39) (.int .i64 ((i + 1 : Nat) : Int)) (fun _ => rfl) rfl rfl ?_
    refine w_nil ?_
    exact xn_loop (s - (i + 1)) (by omega) ⟨i + 1, rfl, e40_0, (by rw [hfs, ← Nat.add_assoc]; exact rfl), e40_27, rfl, by omega, M⟩
  | false =>
    have hie : i = s := by have := of_decide_eq_false hd; omega
    refine w_seq ?_
    refine w_reg ?_
    refine wl_bin (fun x y => do eqGuard .lss 3 (.tmp 28) (.tmp 27) x y; binOp .lss 3 x y) (.tmp 28) (.tmp 27) (.int .i64 ((i : Nat) : Int)) (.int .i64 ((s : Nat) : Int)) (.bool false) (fun _ => rfl) e40_28 e40_27 (ltN hd _ _ _) rfl ?_
    refine w_nil ?_
    refine xn_then ?_
    refine w_seq ?_
    refine w_condF rfl ?_
    refine w_exit ?_
    refine xx_then ?_
    refine xx_then ?_
    refine xx_blk ?_
    refine xn_then ?_
    refine w_seq ?_
    refine w_reg ?_
    refine wl_mv (.tmp 2) (.int .i64 ((j + fsn l i : Nat) : Int)) (fun _ => rfl) e40_2 rfl ?_
    refine wl_mv (.tmp 40) (.int .i64 ((j + fsn l i : Nat) : Int)) (fun _ => rfl) rfl rfl ?_
    refine wl_mv (.const (.bool true)) (.bool true) (fun _ => rfl) rfl rfl ?_
    refine w_nil ?_
    refine xn_then ?_
    refine w_ret ?_
    exact w_ret2 _ _ (.int .i64 ((j + fsn l i : Nat) : Int)) (.bool true) rfl rfl rfl ⟨by rw [hie, Nat.add_comm], M⟩
theorem num10_sec {w : World} {l : List S5} {pl : Option Addr} {cl : Nat} {s j : Int} (hs : hasS l s = false) : Calls Try.prog 10 #[.slice pl l.length cl, .int .i64 s, .int .i64 j] w fun e w' => e = .returned (.tuple #[.int .i64 0, .bool false]) ∧ Mo w w' := by
  refine w_enter 41 Try.func10 Try.ntmps10 rfl rfl ?_
  have M : Mo w w := Mo.refl _
  refine w_seq ?_
  refine w_reg ?_
  refine wl_mv (.const (.int .i64 (0))) (.int .i64 (0)) (fun _ => rfl) rfl rfl ?_
  refine wl_mv (.const (.bool false)) (.bool false) (fun _ => rfl) rfl rfl ?_
  refine w_nil ?_
  refine xn_then ?_
  refine w_seq ?_
  refine w_seq ?_
  refine w_reg ?_
  refine wl_mv (.tmp 0) (.slice pl l.length cl) (fun _ => rfl) rfl rfl ?_
  refine wl_mv (.tmp 1) (.int .i64 (s)) (fun _ => rfl) rfl rfl ?_
  refine wl_callx 33 [(.tmp 9), (.tmp 10)] _ [.slice pl l.length cl, .int .i64 (s)] rfl rfl (fun _ _ => by kernel_rfl) ((has_n pl l.length cl s _)) rfl ?_
  rintro e9 u1 ⟨rfl, hq⟩
  refine ⟨_, rfl, ?_⟩
  rw [show (decide (0 ≤ s) && decide (s < ((l.length : Nat) : Int))) = false from hs]
  replace M := M.trans hq
  clear hq
  refine wl_un (fun v => Op.unary .not v) (.tmp 11) (.bool false) (.bool true) (fun _ => rfl) rfl (by kernel_rfl) rfl ?_
  refine wl_mv (.tmp 12) (.bool true) (fun _ => rfl) rfl rfl ?_
  refine wl_skip rfl ?_
  refine wl_skip rfl ?_
  refine wl_pick (.tmp 13) (.const (.bool true)) (.tmp 15) true (.bool true) (fun _ => rfl) rfl rfl rfl ?_
  refine wl_mv (.tmp 16) (.bool true) (fun _ => rfl) rfl rfl ?_
  refine wl_skip rfl ?_
  refine wl_skip rfl ?_
  refine wl_skip rfl ?_
  refine wl_skip rfl ?_
  refine wl_skip rfl ?_
  refine wl_skip rfl ?_
  refine wl_skip rfl ?_
  refine wl_skip rfl ?_
  refine wl_pick (.tmp 17) (.const (.bool true)) (.tmp 25) true (.bool true) (fun _ => rfl) rfl rfl rfl ?_
  refine w_nil ?_
  refine xn_then ?_
  refine w_condT rfl ?_
  refine w_seq ?_
  refine w_reg ?_
  refine wl_mv (.const (.int .i64 (0))) (.int .i64 (0)) (fun _ => rfl) rfl rfl ?_
  refine wl_mv (.const (.bool false)) (.bool false) (fun _ => rfl) rfl rfl ?_
  refine w_nil ?_
  refine xn_then ?_
  refine w_ret ?_
  refine xr_then ?_
  exact w_ret2 _ _ (.int .i64 (0)) (.bool false) rfl rfl rfl ⟨rfl, M⟩
theorem num10_itm {w : World} {l : List S5} {pl : Option Addr} {cl : Nat} (hL : SL w 5 S5.cells pl l) {s : Nat} {j : Int} {y : S5} (hy : l[s]? = some y) (hj : j < 0 ∨ ((y.items.length : Nat) : Int) ≤ j) : Calls Try.prog 10 #[.slice pl l.length cl, .int .i64 ((s : Nat) : Int), .int .i64 j] w fun e w' => e = .returned (.tuple #[.int .i64 0, .bool false]) ∧ Mo w w' := by
  have hsl := lt_of_get hy
  have hz9 := hL.1
  by_cases hj0 : j < 0
  · have hf2 : decide (j < 0) = true := decide_eq_true hj0
    obtain ⟨bv, ov, hpv, hRv⟩ := D.SL.rw hL hy
    refine w_enter 41 Try.func10 Try.ntmps10 rfl rfl ?_
    have M : Mo w w := Mo.refl _
    refine w_seq ?_
    refine w_reg ?_
    refine wl_mv (.const (.int .i64 (0))) (.int .i64 (0)) (fun _ => rfl) rfl rfl ?_
    refine wl_mv (.const (.bool false)) (.bool false) (fun _ => rfl) rfl rfl ?_
    refine w_nil ?_
    refine xn_then ?_
    refine w_seq ?_
    refine w_seq ?_
    refine w_reg ?_
    refine wl_mv (.tmp 0) (.slice pl l.length cl) (fun _ => rfl) rfl rfl ?_
    refine wl_mv (.tmp 1) (.int .i64 ((s : Nat) : Int)) (fun _ => rfl) rfl rfl ?_
    refine wl_callx 33 [(.tmp 9), (.tmp 10)] _ [.slice pl l.length cl, .int .i64 ((s : Nat) : Int)] rfl rfl (fun _ _ => by kernel_rfl) ((has_n pl l.length cl ((s : Nat) : Int) _)) rfl ?_
    rintro e9 u1 ⟨rfl, hq⟩
    refine ⟨_, rfl, ?_⟩
    rw [show (decide (0 ≤ ((s : Nat) : Int)) && decide (((s : Nat) : Int) < ((l.length : Nat) : Int))) = true by simp [hsl]]
    replace M := M.trans hq
    clear hq
    refine wl_un (fun v => Op.unary .not v) (.tmp 11) (.bool true) (.bool false) (fun _ => rfl) rfl (by kernel_rfl) rfl ?_
    refine wl_mv (.tmp 12) (.bool false) (fun _ => rfl) rfl rfl ?_
    refine wl_mv (.tmp 2) (.int .i64 (j)) (fun _ => rfl) rfl rfl ?_
    refine wl_bin (fun x y => do eqGuard .lss 3 (.tmp 14) (.const (.int .i64 (0))) x y; binOp .lss 3 x y) (.tmp 14) (.const (.int .i64 (0))) (.int .i64 (j)) (.int .i64 (0)) (.bool true) (fun _ => rfl) rfl rfl (lt3 hf2 _ _ _) rfl ?_
    refine wl_pick (.tmp 13) (.const (.bool true)) (.tmp 15) false (.bool true) (fun _ => rfl) rfl rfl rfl ?_
    refine wl_mv (.tmp 16) (.bool true) (fun _ => rfl) rfl rfl ?_
    refine wl_skip rfl ?_
    refine wl_skip rfl ?_
    refine wl_skip rfl ?_
    refine wl_skip rfl ?_
    refine wl_skip rfl ?_
    refine wl_skip rfl ?_
    refine wl_skip rfl ?_
    refine wl_skip rfl ?_
    refine wl_pick (.tmp 17) (.const (.bool true)) (.tmp 25) true (.bool true) (fun _ => rfl) rfl rfl rfl ?_
    refine w_nil ?_
    refine xn_then ?_
    refine w_condT rfl ?_
    refine w_seq ?_
    refine w_reg ?_
    refine wl_mv (.const (.int .i64 (0))) (.int .i64 (0)) (fun _ => rfl) rfl rfl ?_
    refine wl_mv (.const (.bool false)) (.bool false) (fun _ => rfl) rfl rfl ?_
    refine w_nil ?_
    refine xn_then ?_
    refine w_ret ?_
    refine xr_then ?_
    exact w_ret2 _ _ (.int .i64 (0)) (.bool false) rfl rfl rfl ⟨rfl, M⟩
  · have hf2 : decide (j < 0) = false := decide_eq_false hj0
    have hf3 : decide (((y.items.length : Nat) : Int) ≤ j) = true := decide_eq_true (by omega)
    obtain ⟨bv, ov, hpv, hRv⟩ := D.SL.rw hL hy
    refine w_enter 41 Try.func10 Try.ntmps10 rfl rfl ?_
    have M : Mo w w := Mo.refl _
    refine w_seq ?_
    refine w_reg ?_
    refine wl_mv (.const (.int .i64 (0))) (.int .i64 (0)) (fun _ => rfl) rfl rfl ?_
    refine wl_mv (.const (.bool false)) (.bool false) (fun _ => rfl) rfl rfl ?_
    refine w_nil ?_
    refine xn_then ?_
    refine w_seq ?_
    refine w_seq ?_
    refine w_reg ?_
    refine wl_mv (.tmp 0) (.slice pl l.length cl) (fun _ => rfl) rfl rfl ?_
    refine wl_mv (.tmp 1) (.int .i64 ((s : Nat) : Int)) (fun _ => rfl) rfl rfl ?_
    refine wl_callx 33 [(.tmp 9), (.tmp 10)] _ [.slice pl l.length cl, .int .i64 ((s : Nat) : Int)] rfl rfl (fun _ _ => by kernel_rfl) ((has_n pl l.length cl ((s : Nat) : Int) _)) rfl ?_
    rintro e9 u1 ⟨rfl, hq⟩
    refine ⟨_, rfl, ?_⟩
    rw [show (decide (0 ≤ ((s : Nat) : Int)) && decide (((s : Nat) : Int) < ((l.length : Nat) : Int))) = true by simp [hsl]]
    replace M := M.trans hq
    clear hq
    refine wl_un (fun v => Op.unary .not v) (.tmp 11) (.bool true) (.bool false) (fun _ => rfl) rfl (by kernel_rfl) rfl ?_
    refine wl_mv (.tmp 12) (.bool false) (fun _ => rfl) rfl rfl ?_
    refine wl_mv (.tmp 2) (.int .i64 (j)) (fun _ => rfl) rfl rfl ?_
    refine wl_bin (fun x y => do eqGuard .lss 3 (.tmp 14) (.const (.int .i64 (0))) x y; binOp .lss 3 x y) (.tmp 14) (.const (.int .i64 (0))) (.int .i64 (j)) (.int .i64 (0)) (.bool false) (fun _ => rfl) rfl rfl (lt3 hf2 _ _ _) rfl ?_
    refine wl_pick (.tmp 13) (.const (.bool true)) (.tmp 15) false (.bool false) (fun _ => rfl) rfl rfl rfl ?_
    refine wl_mv (.tmp 16) (.bool false) (fun _ => rfl) rfl rfl ?_
    refine wl_mv (.tmp 2) (.int .i64 (j)) (fun _ => rfl) rfl rfl ?_
    refine wl_mv (.tmp 0) (.slice pl l.length cl) (fun _ => rfl) rfl rfl ?_
    refine wl_mv (.tmp 1) (.int .i64 ((s : Nat) : Int)) (fun _ => rfl) rfl rfl ?_
    refine wl_bin (fun x y => Instr.indexAt 22 x y) (.tmp 19) (.tmp 20) (.slice pl l.length cl) (.int .i64 ((s : Nat) : Int)) (pt bv (ov + s * 5)) (fun _ => rfl) rfl rfl (ix22 (i := s) hpv hsl _) rfl ?_
    refine wl_un (fun v => Instr.fieldAt 55 v 4) (.tmp 21) (pt bv (ov + s * 5)) (pt bv (ov + s * 5 + 4)) (fun _ => rfl) rfl (by kernel_rfl) rfl ?_
    refine wl_load 39 (.tmp 22) (pt bv (ov + s * 5 + 4)) (.slice y.pi y.items.length y.ci) rfl rfl (D.run_oneR (hRv.mo M).at' 39 4 rfl Try.underlying39 rfl) rfl ?_
    refine wl_val (.int .i64 ((y.items.length : Nat) : Int)) (len39 _ _ _ _ _ (by exact rfl) _ _ _ _ _ _) rfl ?_
    refine wl_bin (fun x y => do eqGuard .geq 3 (.tmp 18) (.tmp 24) x y; binOp .geq 3 x y) (.tmp 18) (.tmp 24) (.int .i64 (j)) (.int .i64 ((y.items.length : Nat) : Int)) (.bool true) (fun _ => rfl) rfl rfl (ge3 hf3 _ _ _) rfl ?_
    refine wl_pick (.tmp 17) (.const (.bool true)) (.tmp 25) false (.bool true) (fun _ => rfl) rfl rfl rfl ?_
    refine w_nil ?_
    refine xn_then ?_
    refine w_condT rfl ?_
    refine w_seq ?_
    refine w_reg ?_
    refine wl_mv (.const (.int .i64 (0))) (.int .i64 (0)) (fun _ => rfl) rfl rfl ?_
    refine wl_mv (.const (.bool false)) (.bool false) (fun _ => rfl) rfl rfl ?_
    refine w_nil ?_
    refine xn_then ?_
    refine w_ret ?_
    refine xr_then ?_
    exact w_ret2 _ _ (.int .i64 (0)) (.bool false) rfl rfl rfl ⟨rfl, M⟩
theorem num10_all {w : World} {l : List S5} {pl : Option Addr} {cl : Nat} (hL : SL w 5 S5.cells pl l) (hz : l.length < 400000) (hzI : nI l < 400000) (s j : Int) : Calls Try.prog 10 #[.slice pl l.length cl, .int .i64 s, .int .i64 j] w fun e w' => e = .returned (nuA l s j) ∧ Mo w w' := by
  cases hs : hasS l s with
  | false => rw [nuA_no (Or.inl hs)]; exact num10_sec hs
  | true =>
    obtain ⟨k, y, rfl, hy⟩ := hasS_get hs
    by_cases hj : j < 0 ∨ ((y.items.length : Nat) : Int) ≤ j
    · rw [nuA_no (by rcases hj with q | q; exact Or.inr (Or.inl q); exact Or.inr (Or.inr (by rw [Int.toNat_natCast, itn_eq hy]; exact q)))]
      exact num10_itm hL hy hj
    · obtain ⟨i, rfl⟩ : ∃ i : Nat, j = ((i : Nat) : Int) := ⟨j.toNat, by omega⟩
      rw [nuA_yes hy (by omega)]
      exact num10_n hL hz hzI hy (by omega)
theorem num11_sec {w : World} {l : List S5} {pl : Option Addr} {cl : Nat} {s j : Int} (hs : hasS l s = false) : Calls Try.prog 11 #[.slice pl l.length cl, .int .i64 s, .int .i64 j] w fun e w' => e = .returned (.tuple #[.int .i64 0, .bool false]) ∧ Mo w w' := by
  by_cases h0 : s < 0
  · have hf0 : decide (s < 0) = true := decide_eq_true h0
    refine w_enter 47 Try.func11 Try.ntmps11 rfl rfl ?_
    have M : Mo w w := Mo.refl _
    refine w_seq ?_
    refine w_reg ?_
    refine wl_mv (.const (.int .i64 (0))) (.int .i64 (0)) (fun _ => rfl) rfl rfl ?_
    refine wl_mv (.const (.bool false)) (.bool false) (fun _ => rfl) rfl rfl ?_
    refine w_nil ?_
    refine xn_then ?_
    refine w_seq ?_
    refine w_seq ?_
    refine w_reg ?_
    refine wl_mv (.tmp 1) (.int .i64 (s)) (fun _ => rfl) rfl rfl ?_
    refine wl_bin (fun x y => do eqGuard .lss 3 (.tmp 10) (.const (.int .i64 (0))) x y; binOp .lss 3 x y) (.tmp 10) (.const (.int .i64 (0))) (.int .i64 (s)) (.int .i64 (0)) (.bool true) (fun _ => rfl) rfl rfl (lt3 hf0 _ _ _) rfl ?_
    refine wl_mv (.tmp 11) (.bool true) (fun _ => rfl) rfl rfl ?_
    refine wl_skip rfl ?_
    refine wl_skip rfl ?_
    refine wl_skip rfl ?_
    refine wl_skip rfl ?_
    refine wl_pick (.tmp 12) (.const (.bool true)) (.tmp 16) true (.bool true) (fun _ => rfl) rfl rfl rfl ?_
    refine wl_mv (.tmp 17) (.bool true) (fun _ => rfl) rfl rfl ?_
    refine wl_skip rfl ?_
    refine wl_skip rfl ?_
    refine wl_pick (.tmp 18) (.const (.bool true)) (.tmp 20) true (.bool true) (fun _ => rfl) rfl rfl rfl ?_
    refine wl_mv (.tmp 21) (.bool true) (fun _ => rfl) rfl rfl ?_
    refine wl_skip rfl ?_
    refine wl_skip rfl ?_
    refine wl_skip rfl ?_
    refine wl_skip rfl ?_
    refine wl_skip rfl ?_
    refine wl_skip rfl ?_
    refine wl_skip rfl ?_
    refine wl_skip rfl ?_
    refine wl_pick (.tmp 22) (.const (.bool true)) (.tmp 30) true (.bool true) (fun _ => rfl) rfl rfl rfl ?_
    refine w_nil ?_
    refine xn_then ?_
    refine w_condT rfl ?_
    refine w_seq ?_
    refine w_reg ?_
    refine wl_mv (.const (.int .i64 (0))) (.int .i64 (0)) (fun _ => rfl) rfl rfl ?_
    refine wl_mv (.const (.bool false)) (.bool false) (fun _ => rfl) rfl rfl ?_
    refine w_nil ?_
    refine xn_then ?_
    refine w_ret ?_
    refine xr_then ?_
    exact w_ret2 _ _ (.int .i64 (0)) (.bool false) rfl rfl rfl ⟨rfl, M⟩
  · have hf0 : decide (s < 0) = false := decide_eq_false h0
    have hf1 : decide (((l.length : Nat) : Int) ≤ s) = true := decide_eq_true (by unfold hasS at hs; simp at hs; omega)
    refine w_enter 47 Try.func11 Try.ntmps11 rfl rfl ?_
    have M : Mo w w := Mo.refl _
    refine w_seq ?_
    refine w_reg ?_
    refine wl_mv (.const (.int .i64 (0))) (.int .i64 (0)) (fun _ => rfl) rfl rfl ?_
    refine wl_mv (.const (.bool false)) (.bool false) (fun _ => rfl) rfl rfl ?_
    refine w_nil ?_
    refine xn_then ?_
    refine w_seq ?_
    refine w_seq ?_
    refine w_reg ?_
    refine wl_mv (.tmp 1) (.int .i64 (s)) (fun _ => rfl) rfl rfl ?_
    refine wl_bin (fun x y => do eqGuard .lss 3 (.tmp 10) (.const (.int .i64 (0))) x y; binOp .lss 3 x y) (.tmp 10) (.const (.int .i64 (0))) (.int .i64 (s)) (.int .i64 (0)) (.bool false) (fun _ => rfl) rfl rfl (lt3 hf0 _ _ _) rfl ?_
    refine wl_mv (.tmp 11) (.bool false) (fun _ => rfl) rfl rfl ?_
    refine wl_mv (.tmp 1) (.int .i64 (s)) (fun _ => rfl) rfl rfl ?_
    refine wl_mv (.tmp 0) (.slice pl l.length cl) (fun _ => rfl) rfl rfl ?_
    refine wl_val (.int .i64 ((l.length : Nat) : Int)) (len22 _ _ _ _ _ (by exact rfl) _ _ _ _ _ _) rfl ?_
    refine wl_bin (fun x y => do eqGuard .geq 3 (.tmp 13) (.tmp 15) x y; binOp .geq 3 x y) (.tmp 13) (.tmp 15) (.int .i64 (s)) (.int .i64 ((l.length : Nat) : Int)) (.bool true) (fun _ => rfl) rfl rfl (ge3 hf1 _ _ _) rfl ?_
    refine wl_pick (.tmp 12) (.const (.bool true)) (.tmp 16) false (.bool true) (fun _ => rfl) rfl rfl rfl ?_
    refine wl_mv (.tmp 17) (.bool true) (fun _ => rfl) rfl rfl ?_
    refine wl_skip rfl ?_
    refine wl_skip rfl ?_
    refine wl_pick (.tmp 18) (.const (.bool true)) (.tmp 20) true (.bool true) (fun _ => rfl) rfl rfl rfl ?_
    refine wl_mv (.tmp 21) (.bool true) (fun _ => rfl) rfl rfl ?_
    refine wl_skip rfl ?_
    refine wl_skip rfl ?_
    refine wl_skip rfl ?_
    refine wl_skip rfl ?_
    refine wl_skip rfl ?_
    refine wl_skip rfl ?_
    refine wl_skip rfl ?_
    refine wl_skip rfl ?_
    refine wl_pick (.tmp 22) (.const (.bool true)) (.tmp 30) true (.bool true) (fun _ => rfl) rfl rfl rfl ?_
    refine w_nil ?_
    refine xn_then ?_
    refine w_condT rfl ?_
    refine w_seq ?_
    refine w_reg ?_
    refine wl_mv (.const (.int .i64 (0))) (.int .i64 (0)) (fun _ => rfl) rfl rfl ?_
    refine wl_mv (.const (.bool false)) (.bool false) (fun _ => rfl) rfl rfl ?_
    refine w_nil ?_
    refine xn_then ?_
    refine w_ret ?_
    refine xr_then ?_
    exact w_ret2 _ _ (.int .i64 (0)) (.bool false) rfl rfl rfl ⟨rfl, M⟩
theorem num11_itm {w : World} {l : List S5} {pl : Option Addr} {cl : Nat} (hL : SL w 5 S5.cells pl l) {s : Nat} {j : Int} {y : S5} (hy : l[s]? = some y) (hj : j < 0 ∨ ((y.items.length : Nat) : Int) ≤ j) : Calls Try.prog 11 #[.slice pl l.length cl, .int .i64 ((s : Nat) : Int), .int .i64 j] w fun e w' => e = .returned (.tuple #[.int .i64 0, .bool false]) ∧ Mo w w' := by
  have hsl := lt_of_get hy
  have hz9 := hL.1
  have hf0 : decide (s < 0) = false := decide_eq_false (by omega)
  have hf1 : decide (((l.length : Nat) : Int) ≤ ((s : Nat) : Int)) = false := decide_eq_false (by omega)
  by_cases hj0 : j < 0
  · have hf2 : decide (j < 0) = true := decide_eq_true hj0
    obtain ⟨bv, ov, hpv, hRv⟩ := D.SL.rw hL hy
    refine w_enter 47 Try.func11 Try.ntmps11 rfl rfl ?_
    have M : Mo w w := Mo.refl _
    refine w_seq ?_
    refine w_reg ?_
    refine wl_mv (.const (.int .i64 (0))) (.int .i64 (0)) (fun _ => rfl) rfl rfl ?_
    refine wl_mv (.const (.bool false)) (.bool false) (fun _ => rfl) rfl rfl ?_
    refine w_nil ?_
    refine xn_then ?_
    refine w_seq ?_
    refine w_seq ?_
    refine w_reg ?_
    refine wl_mv (.tmp 1) (.int .i64 ((s : Nat) : Int)) (fun _ => rfl) rfl rfl ?_
    refine wl_bin (fun x y => do eqGuard .lss 3 (.tmp 10) (.const (.int .i64 (0))) x y; binOp .lss 3 x y) (.tmp 10) (.const (.int .i64 (0))) (.int .i64 ((s : Nat) : Int)) (.int .i64 (0)) (.bool false) (fun _ => rfl) rfl rfl (ltN hf0 _ _ _) rfl ?_
    refine wl_mv (.tmp 11) (.bool false) (fun _ => rfl) rfl rfl ?_
    refine wl_mv (.tmp 1) (.int .i64 ((s : Nat) : Int)) (fun _ => rfl) rfl rfl ?_
    refine wl_mv (.tmp 0) (.slice pl l.length cl) (fun _ => rfl) rfl rfl ?_
    refine wl_val (.int .i64 ((l.length : Nat) : Int)) (len22 _ _ _ _ _ (by exact rfl) _ _ _ _ _ _) rfl ?_
    refine wl_bin (fun x y => do eqGuard .geq 3 (.tmp 13) (.tmp 15) x y; binOp .geq 3 x y) (.tmp 13) (.tmp 15) (.int .i64 ((s : Nat) : Int)) (.int .i64 ((l.length : Nat) : Int)) (.bool false) (fun _ => rfl) rfl rfl (ge3 hf1 _ _ _) rfl ?_
    refine wl_pick (.tmp 12) (.const (.bool true)) (.tmp 16) false (.bool false) (fun _ => rfl) rfl rfl rfl ?_
    refine wl_mv (.tmp 17) (.bool false) (fun _ => rfl) rfl rfl ?_
    refine wl_mv (.tmp 2) (.int .i64 (j)) (fun _ => rfl) rfl rfl ?_
    refine wl_bin (fun x y => do eqGuard .lss 3 (.tmp 19) (.const (.int .i64 (0))) x y; binOp .lss 3 x y) (.tmp 19) (.const (.int .i64 (0))) (.int .i64 (j)) (.int .i64 (0)) (.bool true) (fun _ => rfl) rfl rfl (lt3 hf2 _ _ _) rfl ?_
    refine wl_pick (.tmp 18) (.const (.bool true)) (.tmp 20) false (.bool true) (fun _ => rfl) rfl rfl rfl ?_
    refine wl_mv (.tmp 21) (.bool true) (fun _ => rfl) rfl rfl ?_
    refine wl_skip rfl ?_
    refine wl_skip rfl ?_
    refine wl_skip rfl ?_
    refine wl_skip rfl ?_
    refine wl_skip rfl ?_
    refine wl_skip rfl ?_
    refine wl_skip rfl ?_
    refine wl_skip rfl ?_
    refine wl_pick (.tmp 22) (.const (.bool true)) (.tmp 30) true (.bool true) (fun _ => rfl) rfl rfl rfl ?_
    refine w_nil ?_
    refine xn_then ?_
    refine w_condT rfl ?_
    refine w_seq ?_
    refine w_reg ?_
    refine wl_mv (.const (.int .i64 (0))) (.int .i64 (0)) (fun _ => rfl) rfl rfl ?_
    refine wl_mv (.const (.bool false)) (.bool false) (fun _ => rfl) rfl rfl ?_
    refine w_nil ?_
    refine xn_then ?_
    refine w_ret ?_
    refine xr_then ?_
    exact w_ret2 _ _ (.int .i64 (0)) (.bool false) rfl rfl rfl ⟨rfl, M⟩
  · have hf2 : decide (j < 0) = false := decide_eq_false hj0
    have hf3 : decide (((y.items.length : Nat) : Int) ≤ j) = true := decide_eq_true (by omega)
    obtain ⟨bv, ov, hpv, hRv⟩ := D.SL.rw hL hy
    refine w_enter 47 Try.func11 Try.ntmps11 rfl rfl ?_
    have M : Mo w w := Mo.refl _
    refine w_seq ?_
    refine w_reg ?_
    refine wl_mv (.const (.int .i64 (0))) (.int .i64 (0)) (fun _ => rfl) rfl rfl ?_
    refine wl_mv (.const (.bool false)) (.bool false) (fun _ => rfl) rfl rfl ?_
    refine w_nil ?_
    refine xn_then ?_
    refine w_seq ?_
    refine w_seq ?_
    refine w_reg ?_
    refine wl_mv (.tmp 1) (.int .i64 ((s : Nat) : Int)) (fun _ => rfl) rfl rfl ?_
    refine wl_bin (fun x y => do eqGuard .lss 3 (.tmp 10) (.const (.int .i64 (0))) x y; binOp .lss 3 x y) (.tmp 10) (.const (.int .i64 (0))) (.int .i64 ((s : Nat) : Int)) (.int .i64 (0)) (.bool false) (fun _ => rfl) rfl rfl (ltN hf0 _ _ _) rfl ?_
    refine wl_mv (.tmp 11) (.bool false) (fun _ => rfl) rfl rfl ?_
    refine wl_mv (.tmp 1) (.int .i64 ((s : Nat) : Int)) (fun _ => rfl) rfl rfl ?_
    refine wl_mv (.tmp 0) (.slice pl l.length cl) (fun _ => rfl) rfl rfl ?_
    refine wl_val (.int .i64 ((l.length : Nat) : Int)) (len22 _ _ _ _ _ (by exact rfl) _ _ _ _ _ _) rfl ?_
    refine wl_bin (fun x y => do eqGuard .geq 3 (.tmp 13) (.tmp 15) x y; binOp .geq 3 x y) (.tmp 13) (.tmp 15) (.int .i64 ((s : Nat) : Int)) (.int .i64 ((l.length : Nat) : Int)) (.bool false) (fun _ => rfl) rfl rfl (ge3 hf1 _ _ _) rfl ?_
    refine wl_pick (.tmp 12) (.const (.bool true)) (.tmp 16) false (.bool false) (fun _ => rfl) rfl rfl rfl ?_
    refine wl_mv (.tmp 17) (.bool false) (fun _ => rfl) rfl rfl ?_
    refine wl_mv (.tmp 2) (.int .i64 (j)) (fun _ => rfl) rfl rfl ?_
    refine wl_bin (fun x y => do eqGuard .lss 3 (.tmp 19) (.const (.int .i64 (0))) x y; binOp .lss 3 x y) (.tmp 19) (.const (.int .i64 (0))) (.int .i64 (j)) (.int .i64 (0)) (.bool false) (fun _ => rfl) rfl rfl (lt3 hf2 _ _ _) rfl ?_
    refine wl_pick (.tmp 18) (.const (.bool true)) (.tmp 20) false (.bool false) (fun _ => rfl) rfl rfl rfl ?_
    refine wl_mv (.tmp 21) (.bool false) (fun _ => rfl) rfl rfl ?_
    refine wl_mv (.tmp 2) (.int .i64 (j)) (fun _ => rfl) rfl rfl ?_
    refine wl_mv (.tmp 0) (.slice pl l.length cl) (fun _ => rfl) rfl rfl ?_
    refine wl_mv (.tmp 1) (.int .i64 ((s : Nat) : Int)) (fun _ => rfl) rfl rfl ?_
    refine wl_bin (fun x y => Instr.indexAt 22 x y) (.tmp 24) (.tmp 25) (.slice pl l.length cl) (.int .i64 ((s : Nat) : Int)) (pt bv (ov + s * 5)) (fun _ => rfl) rfl rfl (ix22 (i := s) hpv hsl _) rfl ?_
    refine wl_un (fun v => Instr.fieldAt 55 v 4) (.tmp 26) (pt bv (ov + s * 5)) (pt bv (ov + s * 5 + 4)) (fun _ => rfl) rfl (by kernel_rfl) rfl ?_
    refine wl_load 39 (.tmp 27) (pt bv (ov + s * 5 + 4)) (.slice y.pi y.items.length y.ci) rfl rfl (D.run_oneR (hRv.mo M).at' 39 4 rfl Try.underlying39 rfl) rfl ?_
    refine wl_val (.int .i64 ((y.items.length : Nat) : Int)) (len39 _ _ _ _ _ (by exact rfl) _ _ _ _ _ _) rfl ?_
    refine wl_bin (fun x y => do eqGuard .geq 3 (.tmp 23) (.tmp 29) x y; binOp .geq 3 x y) (.tmp 23) (.tmp 29) (.int .i64 (j)) (.int .i64 ((y.items.length : Nat) : Int)) (.bool true) (fun _ => rfl) rfl rfl (ge3 hf3 _ _ _) rfl ?_
    refine wl_pick (.tmp 22) (.const (.bool true)) (.tmp 30) false (.bool true) (fun _ => rfl) rfl rfl rfl ?_
    refine w_nil ?_
    refine xn_then ?_
    refine w_condT rfl ?_
    refine w_seq ?_
    refine w_reg ?_
    refine wl_mv (.const (.int .i64 (0))) (.int .i64 (0)) (fun _ => rfl) rfl rfl ?_
    refine wl_mv (.const (.bool false)) (.bool false) (fun _ => rfl) rfl rfl ?_
    refine w_nil ?_
    refine xn_then ?_
    refine w_ret ?_
    refine xr_then ?_
    exact w_ret2 _ _ (.int .i64 (0)) (.bool false) rfl rfl rfl ⟨rfl, M⟩
theorem num11_all {w : World} {l : List S5} {pl : Option Addr} {cl : Nat} (hL : SL w 5 S5.cells pl l) (hz : l.length < 400000) (hzI : nI l < 400000) (s j : Int) : Calls Try.prog 11 #[.slice pl l.length cl, .int .i64 s, .int .i64 j] w fun e w' => e = .returned (nuA l s j) ∧ Mo w w' := by
  cases hs : hasS l s with
  | false => rw [nuA_no (Or.inl hs)]; exact num11_sec hs
  | true =>
    obtain ⟨k, y, rfl, hy⟩ := hasS_get hs
    by_cases hj : j < 0 ∨ ((y.items.length : Nat) : Int) ≤ j
    · rw [nuA_no (by rcases hj with q | q; exact Or.inr (Or.inl q); exact Or.inr (Or.inr (by rw [Int.toNat_natCast, itn_eq hy]; exact q)))]
      exact num11_itm hL hy hj
    · obtain ⟨i, rfl⟩ : ∃ i : Nat, j = ((i : Nat) : Int) := ⟨j.toNat, by omega⟩
      rw [nuA_yes hy (by omega)]
      exact num11_n hL hz hzI hy (by omega)
theorem users18_n {w : World} {l : List S5} {pl : Option Addr} {cl : Nat} (hL : SL w 5 S5.cells pl l) (hz : l.length < 400000) (hzI : nI l < 400000) (h16 : ∀ {u : World} {m : Nat}, Mo w u → m < nI l → Calls Try.prog 16 #[.slice pl l.length cl, .int .i64 ((m : Nat) : Int)] u fun e w' => ∃ (pa : Option Addr) (cap : Nat), e = .returned (.slice pa (row (RA l) m).length cap) ∧ Li w' pa (row (RA l) m) ∧ Mo u w') (n : Int) : Calls Try.prog 18 #[.slice pl l.length cl, .int .i64 n] w fun e w' => ∃ (pa : Option Addr) (cap : Nat), e = .returned (.slice pa (ris (nI l) (fun u => decide (∃ y ∈ row (RA l) u, ((y : Nat) : Int) = n))).length cap) ∧ Ow w.heap.size 3 1 ic w' pa cap (ris (nI l) (fun u => decide (∃ y ∈ row (RA l) u, ((y : Nat) : Int) = n))) ∧ Mo w w' := by
  refine w_enter 27 Try.func18 Try.ntmps18 rfl rfl ?_
  have M : Mo w w := Mo.refl _
  refine w_seq ?_
  refine w_reg ?_
  refine wl_mv (.const (.slice none 0 0)) (.slice none 0 0) (fun _ => rfl) rfl rfl ?_
  refine w_nil ?_
  refine xn_then ?_
  refine w_seq ?_
  refine w_reg ?_
  refine wl_mv (.tmp 0) (.slice pl l.length cl) (fun _ => rfl) rfl rfl ?_
  refine wl_callx 40 [(.tmp 8)] _ [.slice pl l.length cl] rfl rfl (fun _ _ => by kernel_rfl) ((all40_n (hL.kp M.kp) hz hzI (fun m q => h16 (M.trans m) q))) rfl ?_
  rintro e9 u1 ⟨V, pv, cv, rfl, hOV, hli, hV, hq⟩
  refine ⟨_, rfl, ?_⟩
  have M0 := M.trans hq
  have hN0 := M0.size
  have hVl : V.length = nI l := by have := congrArg List.length hV; rw [RA_len] at this; simpa using this
  have hsl := own_sl (cells := zc) (fun _ => rfl) (by unfold maxLen; omega) hOV
  have hVr := RA_rowlen hV
  have hRl := RA_len l
  clear hq hOV
  clear M
  have M : Mo u1 u1 := Mo.refl _
  refine wl_mv (.tmp 9) (.slice pv V.length cv) (fun _ => rfl) rfl rfl ?_
  refine w_nil ?_
  refine xn_then ?_
  refine w_seq ?_
  refine w_reg ?_
  refine wl_mv (.const (.slice none 0 0)) (.slice none 0 0) (fun _ => rfl) rfl rfl ?_
  refine w_nil ?_
  refine xn_then ?_
  refine w_seq ?_
  refine w_seq ?_
  refine w_reg ?_
  refine wl_mv (.const (.int .i64 (0))) (.int .i64 (0)) (fun _ => rfl) rfl rfl ?_
  refine w_nil ?_
  refine xn_then ?_
  refine w_block ?_
  refine w_loop (fun m lf w1 => ∃ i : Nat, ∃ pw : Option Addr, ∃ cw : Nat, m = V.length - i ∧ look lf 1 = .int .i64 (n) ∧ look lf 5 = .slice pv V.length cv ∧ look lf 6 = .slice pw (ris i (fun u => decide (∃ y ∈ row (RA l) u, ((y : Nat) : Int) = n))).length cw ∧ look lf 7 = .int .i64 ((i : Nat) : Int) ∧ (i ≤ V.length) ∧ (Ow u1.heap.size 3 1 ic w1 pw cw (ris i (fun u => decide (∃ y ∈ row (RA l) u, ((y : Nat) : Int) = n)))) ∧ (Mo u1 w1)) _ ⟨0, none, 0, rfl, rfl, rfl, rfl, rfl, Nat.zero_le _, Ow.nil _ _ _ _ _, M⟩ ?_
  clear M
  rintro m lf40 wl40 ⟨i, pw, cw, rfl, e40_1, e40_5, e40_6, e40_7, hi, hW, M⟩
  cases hd : decide (i < V.length) with
  | true =>
    have hil := of_decide_eq_true hd
    have hrb := ris_len i (fun u => decide (∃ y ∈ row (RA l) u, ((y : Nat) : Int) = n))
    obtain ⟨x, hx⟩ := get_of_lt hil
    have hxm := List.mem_of_getElem? hx
    have hxL : row (RA l) i = x.L := row_eq (by rw [← hV, List.getElem?_map, hx]; rfl)
    have hLx := (hli x hxm).sl
    obtain ⟨bp, op, hpp, hRp⟩ := D.SL.rw hsl hx
    refine w_seq ?_
    refine w_seq ?_
    refine w_reg ?_
    refine wl_mv (.tmp 7) (.int .i64 ((i : Nat) : Int)) (fun _ => rfl) e40_7 rfl ?_
    refine wl_mv (.tmp 5) (.slice pv V.length cv) (fun _ => rfl) e40_5 rfl ?_
    refine wl_val (.int .i64 ((V.length : Nat) : Int)) (len79 _ _ _ _ _ (by exact rfl) _ _ _ _ _ _) rfl ?_
    refine wl_bin (fun x y => do eqGuard .lss 3 (.tmp 10) (.tmp 12) x y; binOp .lss 3 x y) (.tmp 10) (.tmp 12) (.int .i64 ((i : Nat) : Int)) (.int .i64 ((V.length : Nat) : Int)) (.bool true) (fun _ => rfl) rfl rfl (ltN hd _ _ _) rfl ?_
    refine w_nil ?_
    refine xn_then ?_
    refine w_condT rfl ?_
    refine w_skip ?_
    refine xn_then ?_
    refine w_seq ?_
    refine w_block ?_
    refine w_seq ?_
    refine w_reg ?_
    refine wl_mv (.tmp 5) (.slice pv V.length cv) (fun _ => rfl) e40_5 rfl ?_
    refine wl_mv (.tmp 7) (.int .i64 ((i : Nat) : Int)) (fun _ => rfl) e40_7 rfl ?_
    refine wl_bin (fun x y => Instr.indexAt 79 x y) (.tmp 16) (.tmp 17) (.slice pv V.length cv) (.int .i64 ((i : Nat) : Int)) (pt bp (op + i * 1)) (fun _ => rfl) rfl rfl (ix79 (i := i) hpp hil _) rfl ?_
    refine wl_load 32 (.tmp 18) (pt bp (op + i * 1)) (.slice x.pa x.L.length x.cap) rfl rfl (D.run_oneR (hRp.mo M).at' 32 0 rfl Try.underlying32 rfl) rfl ?_
    refine wl_mv (.tmp 1) (.int .i64 (n)) (fun _ => rfl) e40_1 rfl ?_
    refine wl_callx 41 [(.tmp 19), (.tmp 20)] _ [.slice x.pa x.L.length x.cap, .int .i64 (n)] rfl rfl (fun _ _ => by kernel_rfl) ((has41_n (hLx.kp M.kp) n)) rfl ?_
    rintro e9 u41 ⟨bh, hbh, rfl, hq⟩
    refine ⟨_, rfl, ?_⟩
    have hPi : (fun u => decide (∃ y ∈ row (RA l) u, ((y : Nat) : Int) = n)) i = bh := by rw [Bool.eq_iff_iff, decide_eq_true_eq, hxL]; exact hbh.symm
    replace hW := own_mo hW hq
    replace M := M.trans hq
    clear hq
    refine w_nil ?_
    refine xn_then ?_
    cases bh with
    | true =>
      refine w_condT rfl ?_
      refine w_reg ?_
      refine wl_mv (.tmp 6) (.slice pw (ris i (fun u => decide (∃ y ∈ row (RA l) u, ((y : Nat) : Int) = n))).length cw) (fun _ => rfl) e40_6 rfl ?_
      refine wl_mv (.tmp 7) (.int .i64 ((i : Nat) : Int)) (fun _ => rfl) e40_7 rfl ?_
      refine wl_bs 32 1 [(0, (.tmp 23))] [(0, .int .i64 ((i : Nat) : Int))] #[.int .i64 ((i : Nat) : Int)] 3 rfl rfl (fun _ => by kernel_rfl) rfl ?_
      intro k1 u42 hk hz hq Q1
      have N_k1 : u1.heap.size ≤ k1 := by have := M.size; omega
      replace hW := own_mo hW hq
      replace M := M.trans hq
      clear hk hz hq
      refine wl_apI (.tmp 22) (.tmp 24) k1 rfl rfl rfl hW Q1 (by omega) M.size rfl ?_
      intro pw2 cw2 u43 hW2 hK9 hv9
      replace M := own_gap hW hK9 (Nat.le_refl _) M
      clear hW hK9 hv9
      have hW := hW2
      clear hW2
      refine wl_mv (.tmp 25) (.slice pw2 ((ris i (fun u => decide (∃ y ∈ row (RA l) u, ((y : Nat) : Int) = n))) ++ [i]).length cw2) (fun _ => rfl) rfl rfl ?_
      refine w_nil ?_
      refine xn_blk ?_
      refine xn_then ?_
      refine w_reg ?_
      refine wl_mv (.tmp 7) (.int .i64 ((i : Nat) : Int)) (fun _ => rfl) e40_7 rfl ?_
      refine wl_bin (fun x y => do eqGuard .add 3 (.tmp 14) (.const (.int .i64 (1))) x y; binOp .add 3 x y) (.tmp 14) (.const (.int .i64 (1))) (.int .i64 ((i : Nat) : Int)) (.int .i64 (1)) (.int .i64 ((i + 1 : Nat) : Int)) (fun _ => rfl) rfl rfl (add1r (k := i) (by omega) _ _ _) rfl ?_
      refine wl_mv (.tmp 15) (.int .i64 ((i + 1 : Nat) : Int)) (fun _ => rfl) rfl rfl ?_
      refine w_nil ?_
      have hrs : ris (i + 1) (fun u => decide (∃ y ∈ row (RA l) u, ((y : Nat) : Int) = n)) = ris i (fun u => decide (∃ y ∈ row (RA l) u, ((y : Nat) : Int) = n)) ++ [i] := ris_t hPi
      rw [← hrs] at hW
      exact xn_loop (V.length - (i + 1)) (by omega) ⟨i + 1, pw2, cw2, rfl, e40_1, e40_5, (by rw [hrs]; rfl), rfl, by omega, hW, M⟩
    | false =>
      refine w_condF rfl ?_
      refine w_skip ?_
      refine xn_blk ?_
      refine xn_then ?_
      refine w_reg ?_
      refine wl_mv (.tmp 7) (.int .i64 ((i : Nat) : Int)) (fun _ => rfl) e40_7 rfl ?_
      refine wl_bin (fun x y => do eqGuard .add 3 (.tmp 14) (.const (.int .i64 (1))) x y; binOp .add 3 x y) (.tmp 14) (.const (.int .i64 (1))) (.int .i64 ((i : Nat) : Int)) (.int .i64 (1)) (.int .i64 ((i + 1 : Nat) : Int)) (fun _ => rfl) rfl rfl (add1r (k := i) (by omega) _ _ _) rfl ?_
      refine wl_mv (.tmp 15) (.int .i64 ((i + 1 : Nat) : Int)) (fun _ => rfl) rfl rfl ?_
      refine w_nil ?_
      have hrs : ris (i + 1) (fun u => decide (∃ y ∈ row (RA l) u, ((y : Nat) : Int) = n)) = ris i (fun u => decide (∃ y ∈ row (RA l) u, ((y : Nat) : Int) = n)) := ris_f hPi
      exact xn_loop (V.length - (i + 1)) (by omega) ⟨i + 1, pw, cw, rfl, e40_1, e40_5, (by rw [hrs]; exact e40_6), rfl, by omega, by rw [hrs]; exact hW, M⟩
  | false =>
    have hie : i = nI l := by have := of_decide_eq_false hd; omega
    rw [hie] at hW
    refine w_seq ?_
    refine w_seq ?_
    refine w_reg ?_
    refine wl_mv (.tmp 7) (.int .i64 ((i : Nat) : Int)) (fun _ => rfl) e40_7 rfl ?_
    refine wl_mv (.tmp 5) (.slice pv V.length cv) (fun _ => rfl) e40_5 rfl ?_
    refine wl_val (.int .i64 ((V.length : Nat) : Int)) (len79 _ _ _ _ _ (by exact rfl) _ _ _ _ _ _) rfl ?_
    refine wl_bin (fun x y => do eqGuard .lss 3 (.tmp 10) (.tmp 12) x y; binOp .lss 3 x y) (.tmp 10) (.tmp 12) (.int .i64 ((i : Nat) : Int)) (.int .i64 ((V.length : Nat) : Int)) (.bool false) (fun _ => rfl) rfl rfl (ltN hd _ _ _) rfl ?_
    refine w_nil ?_
    refine xn_then ?_
    refine w_condF rfl ?_
    refine w_exit ?_
    refine xx_then ?_
    refine xx_then ?_
    refine xx_blk ?_
    refine xn_then ?_
    refine w_seq ?_
    refine w_reg ?_
    refine wl_mv (.tmp 6) (.slice pw (ris i (fun u => decide (∃ y ∈ row (RA l) u, ((y : Nat) : Int) = n))).length cw) (fun _ => rfl) e40_6 rfl ?_
    refine wl_mv (.tmp 26) (.slice pw (ris i (fun u => decide (∃ y ∈ row (RA l) u, ((y : Nat) : Int) = n))).length cw) (fun _ => rfl) rfl rfl ?_
    refine w_nil ?_
    refine xn_then ?_
    refine w_ret ?_
    exact w_ret1 _ (.slice pw (ris i (fun u => decide (∃ y ∈ row (RA l) u, ((y : Nat) : Int) = n))).length cw) rfl rfl ⟨pw, cw, by rw [hie], own_base hW hN0, M0.trans M⟩
end Go.Proofs.Ythghblgbjgghcaa
