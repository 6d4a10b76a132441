/-
  Tables by name; both lists of words; ScopeWords.
-/
import Derived.Test.YtbanldffohopiaaSf
namespace Go.Proofs.Ytbanldffohopiaa
open Go.RowKit D
def tG (l : List Tb) (nm : ByteArray) (i : Nat) : Option Nat := (l[i]?).bind (fun x => if x.nm = nm then some i else none)
theorem tG_1 {l : List Tb} {nm : ByteArray} {i : Nat} {x : Tb} (h : l[i]? = some x) (e : x.nm = nm) : tG l nm i = some i := by unfold tG; rw [h]; exact if_pos e
theorem tG_0 {l : List Tb} {nm : ByteArray} {i : Nat} {x : Tb} (h : l[i]? = some x) (e : ¬ x.nm = nm) : tG l nm i = none := by unfold tG; rw [h]; exact if_neg e
/-- The number of the first table of a name. -/
def tF (l : List Tb) (nm : ByteArray) : Option Nat := (List.range l.length).findSome? (tG l nm)
theorem tab_n (d : Df) (nm : ByteArray) {w : World} (hD : LDf w d) : Calls Try.prog 16 #[.agg (d.cells).toArray, .string nm] w fun e w' => e = .returned (.tuple #[.int .i64 (((tF d.tb nm).getD 0 : Nat) : Int), .bool (tF d.tb nm).isSome]) ∧ Mo w w' := by
  refine w_enter 23 Try.func16 Try.ntmps16 rfl rfl ?_
  have M : Mo w w := Mo.refl _
  refine w_seq ?_
  refine w_reg ?_
  refine wl_box 29 (.tmp 0) (.agg (d.cells).toArray) (((d.cells).toArray)) rfl rfl (fun _ => by kernel_rfl) rfl ?_
  intro k1 u1 hk hz hq Q1
  have N_k1 : w.heap.size ≤ k1 := by have := M.size; omega
  replace M := M.trans hq
  clear hk hz hq
  refine wl_mv (.const (.int .i64 (0))) (.int .i64 (0)) (fun _ => rfl) rfl rfl ?_
  refine wl_mv (.const (.bool false)) (.bool false) (fun _ => rfl) rfl rfl ?_
  refine w_nil ?_
  refine xn_then ?_
  refine w_seq ?_
  refine w_seq ?_
  refine w_reg ?_
  refine wl_un (fun v => Instr.fieldAt 29 v 2) (.tmp 2) (pt k1 0) (pt k1 5) (fun _ => rfl) rfl (by kernel_rfl) rfl ?_
  refine wl_load 26 (.tmp 7) (pt k1 5) (.slice d.pt d.tb.length d.ct) rfl rfl (run_one Q1 26 5 rfl Try.underlying26 rfl) rfl ?_
  refine wl_val (.int .i64 ((d.tb.length : Nat) : Int)) (len26 _ _ _ _ _ (by exact rfl) _ _ _ _ _ _) rfl ?_
  refine wl_mv (.const (.int .i64 (0))) (.int .i64 (0)) (fun _ => rfl) rfl rfl ?_
  refine w_nil ?_
  refine xn_then ?_
  refine w_block ?_
  have hz := hD.tb.1
  unfold maxLen at hz
  refine w_loop (fun m l w1 => ∃ i : Nat, m = d.tb.length - i ∧ i ≤ d.tb.length ∧ look l 1 = .string nm ∧ look l 2 = pt k1 0 ∧ look l 8 = .slice d.pt d.tb.length d.ct ∧ look l 9 = .int .i64 ((d.tb.length : Nat) : Int) ∧ look l 10 = .int .i64 ((i : Nat) : Int) ∧ At w1 k1 (d.cells) ∧ (∀ j, j < i → tG d.tb nm j = none) ∧ Mo w w1) _ ⟨0, rfl, Nat.zero_le _, rfl, rfl, rfl, rfl, rfl, Q1, (fun j hj => by omega), M⟩ ?_
  clear Q1 M
  rintro m l40 wl40 ⟨i, rfl, hi, e40_1, e40_2, e40_8, e40_9, e40_i, Q1, hG, M⟩
  by_cases hil : i < d.tb.length
  · skip
    have hid : decide (i < d.tb.length) = true := decide_eq_true hil
    obtain ⟨x, hx⟩ := get_of_lt hil
    obtain ⟨b1, o1, hp1, hR1⟩ := D.SL.rw hD.tb hx
    refine w_seq ?_
    refine w_reg ?_
    refine wl_bin (fun x y => do eqGuard .lss 3 (.tmp 10) (.tmp 9) x y; binOp .lss 3 x y) (.tmp 10) (.tmp 9) (.int .i64 ((i : Nat) : Int)) (.int .i64 ((d.tb.length : Nat) : Int)) (.bool true) (fun _ => rfl) e40_i e40_9 (ltN hid _ _ _) rfl ?_
    refine w_nil ?_
    refine xn_then ?_
    refine w_seq ?_
    refine w_condT rfl ?_
    refine w_skip ?_
    refine xn_then ?_
    refine w_seq ?_
    refine w_block ?_
    refine w_seq ?_
    refine w_reg ?_
    refine wl_mv (.tmp 10) (.int .i64 ((i : Nat) : Int)) (fun _ => rfl) e40_i rfl ?_
    refine wl_mv (.tmp 12) (.int .i64 ((i : Nat) : Int)) (fun _ => rfl) rfl rfl ?_
    refine w_nil ?_
    refine xn_then ?_
    refine w_seq ?_
    refine w_reg ?_
    refine wl_un (fun v => Instr.fieldAt 29 v 2) (.tmp 2) (pt k1 0) (pt k1 5) (fun _ => rfl) e40_2 (by kernel_rfl) rfl ?_
    refine wl_load 26 (.tmp 13) (pt k1 5) (.slice d.pt d.tb.length d.ct) rfl rfl (run_one Q1 26 5 rfl Try.underlying26 rfl) rfl ?_
    refine wl_mv (.tmp 6) (.int .i64 ((i : Nat) : Int)) (fun _ => rfl) rfl rfl ?_
    refine wl_bin (fun x y => Instr.indexAt 26 x y) (.tmp 14) (.tmp 15) (.slice d.pt d.tb.length d.ct) (.int .i64 ((i : Nat) : Int)) (pt b1 (o1 + i * 2)) (fun _ => rfl) rfl rfl (ix26 (i := i) hp1 hil _) rfl ?_
    refine wl_un (fun v => Instr.fieldAt 85 v 0) (.tmp 16) (pt b1 (o1 + i * 2)) (pt b1 (o1 + i * 2)) (fun _ => rfl) rfl (by kernel_rfl) rfl ?_
    refine wl_load 9 (.tmp 17) (pt b1 (o1 + i * 2)) (.string x.nm) rfl rfl (D.run_oneR (hR1.mo M).at' 9 0 rfl Try.underlying9 rfl) rfl ?_
    refine wl_mv (.tmp 1) (.string nm) (fun _ => rfl) e40_1 rfl ?_
    cases hf30 : decide (x.nm = nm) with
    | true =>
      have hf30p := of_decide_eq_true hf30
      refine wl_bin (fun x y => do eqGuard .eql 9 (.tmp 18) (.tmp 19) x y; binOp .eql 9 x y) (.tmp 18) (.tmp 19) (.string x.nm) (.string nm) (.bool true) (fun _ => rfl) rfl rfl (s9 hf30 _ _ _) rfl ?_
      refine w_nil ?_
      refine xn_then ?_
      refine w_condT rfl ?_
      refine w_seq ?_
      refine w_reg ?_
      refine wl_mv (.tmp 6) (.int .i64 ((i : Nat) : Int)) (fun _ => rfl) rfl rfl ?_
      refine wl_mv (.tmp 21) (.int .i64 ((i : Nat) : Int)) (fun _ => rfl) rfl rfl ?_
      refine wl_mv (.const (.bool true)) (.bool true) (fun _ => rfl) rfl rfl ?_
      refine w_nil ?_
      refine xn_then ?_
      refine w_ret ?_
      refine xr_blk ?_
      refine xr_then ?_
      refine xr_then ?_
      refine xr_blk ?_
      refine xr_then ?_
      exact w_ret2 _ _ (.int .i64 ((i : Nat) : Int)) (.bool true) rfl rfl rfl ⟨by unfold tF; rw [fs_hit hG (tG_1 hx hf30p) hil]; rfl, M⟩
    | false =>
      have hf30p := of_decide_eq_false hf30
      refine wl_bin (fun x y => do eqGuard .eql 9 (.tmp 18) (.tmp 19) x y; binOp .eql 9 x y) (.tmp 18) (.tmp 19) (.string x.nm) (.string nm) (.bool false) (fun _ => rfl) rfl rfl (s9 hf30 _ _ _) rfl ?_
      refine w_nil ?_
      refine xn_then ?_
      refine w_condF rfl ?_
      refine w_skip ?_
      refine xn_blk ?_
      refine xn_then ?_
      refine w_reg ?_
      refine wl_bin (fun x y => do eqGuard .add 3 (.tmp 10) (.const (.int .i64 (1))) x y; binOp .add 3 x y) (.tmp 10) (.const (.int .i64 (1))) (.int .i64 ((i : Nat) : Int)) (.int .i64 (1)) (.int .i64 ((i + 1 : Nat) : Int)) (fun _ => rfl) e40_i rfl (add1r (k := i) (by omega) _ _ _) rfl ?_
      refine wl_mv (.tmp 22) (.int .i64 ((i + 1 : Nat) : Int)) (fun _ => rfl) rfl rfl ?_
      refine w_nil ?_
      exact xn_loop (d.tb.length - (i + 1)) (by omega) ⟨i + 1, rfl, by omega, e40_1, e40_2, e40_8, e40_9, rfl, Q1, fs_step hG (tG_0 hx hf30p), M⟩
  · skip
    have hid : decide (i < d.tb.length) = false := decide_eq_false hil
    have hie : i = d.tb.length := by omega
    refine w_seq ?_
    refine w_reg ?_
    refine wl_bin (fun x y => do eqGuard .lss 3 (.tmp 10) (.tmp 9) x y; binOp .lss 3 x y) (.tmp 10) (.tmp 9) (.int .i64 ((i : Nat) : Int)) (.int .i64 ((d.tb.length : Nat) : Int)) (.bool false) (fun _ => rfl) e40_i e40_9 (ltN hid _ _ _) rfl ?_
    refine w_nil ?_
    refine xn_then ?_
    refine w_seq ?_
    refine w_condF rfl ?_
    refine w_exit ?_
    refine xx_then ?_
    refine xx_then ?_
    refine xx_blk ?_
    refine xn_then ?_
    refine w_seq ?_
    refine w_reg ?_
    refine wl_mv (.const (.int .i64 (0))) (.int .i64 (0)) (fun _ => rfl) rfl rfl ?_
    refine wl_mv (.const (.bool false)) (.bool false) (fun _ => rfl) rfl rfl ?_
    refine w_nil ?_
    refine xn_then ?_
    refine w_ret ?_
    exact w_ret2 _ _ (.int .i64 (0)) (.bool false) rfl rfl rfl ⟨by unfold tF; rw [fs_none (by rw [← hie]; exact hG)]; rfl, M⟩
theorem rtab_n (d : Df) (nm : ByteArray) {w : World} (hD : LDf w d) : Calls Try.prog 17 #[.agg (d.cells).toArray, .string nm] w fun e w' => e = .returned (.tuple #[.int .i64 (((tF d.tb nm).getD 0 : Nat) : Int), .bool (tF d.tb nm).isSome]) ∧ Mo w w' := by
  refine w_enter 23 Try.func17 Try.ntmps17 rfl rfl ?_
  have M : Mo w w := Mo.refl _
  refine w_seq ?_
  refine w_reg ?_
  refine wl_box 29 (.tmp 0) (.agg (d.cells).toArray) (((d.cells).toArray)) rfl rfl (fun _ => by kernel_rfl) rfl ?_
  intro k1 u1 hk hz hq Q1
  have N_k1 : w.heap.size ≤ k1 := by have := M.size; omega
  replace M := M.trans hq
  clear hk hz hq
  refine wl_mv (.const (.int .i64 (0))) (.int .i64 (0)) (fun _ => rfl) rfl rfl ?_
  refine wl_mv (.const (.bool false)) (.bool false) (fun _ => rfl) rfl rfl ?_
  refine w_nil ?_
  refine xn_then ?_
  refine w_seq ?_
  refine w_seq ?_
  refine w_reg ?_
  refine wl_mv (.const (.int .i64 (0))) (.int .i64 (0)) (fun _ => rfl) rfl rfl ?_
  refine w_nil ?_
  refine xn_then ?_
  refine w_block ?_
  have hz := hD.tb.1
  unfold maxLen at hz
  refine w_loop (fun m l w1 => ∃ i : Nat, m = d.tb.length - i ∧ i ≤ d.tb.length ∧ look l 1 = .string nm ∧ look l 2 = pt k1 0 ∧ look l 6 = .int .i64 ((i : Nat) : Int) ∧ At w1 k1 (d.cells) ∧ (∀ j, j < i → tG d.tb nm j = none) ∧ Mo w w1) _ ⟨0, rfl, Nat.zero_le _, rfl, rfl, rfl, Q1, (fun j hj => by omega), M⟩ ?_
  clear Q1 M
  rintro m l40 wl40 ⟨i, rfl, hi, e40_1, e40_2, e40_i, Q1, hG, M⟩
  by_cases hil : i < d.tb.length
  · skip
    have hid : decide (i < d.tb.length) = true := decide_eq_true hil
    obtain ⟨x, hx⟩ := get_of_lt hil
    obtain ⟨b1, o1, hp1, hR1⟩ := D.SL.rw hD.tb hx
    refine w_seq ?_
    refine w_seq ?_
    refine w_reg ?_
    refine wl_mv (.tmp 6) (.int .i64 ((i : Nat) : Int)) (fun _ => rfl) e40_i rfl ?_
    refine wl_un (fun v => Instr.fieldAt 29 v 2) (.tmp 2) (pt k1 0) (pt k1 5) (fun _ => rfl) e40_2 (by kernel_rfl) rfl ?_
    refine wl_load 26 (.tmp 8) (pt k1 5) (.slice d.pt d.tb.length d.ct) rfl rfl (run_one Q1 26 5 rfl Try.underlying26 rfl) rfl ?_
    refine wl_val (.int .i64 ((d.tb.length : Nat) : Int)) (len26 _ _ _ _ _ (by exact rfl) _ _ _ _ _ _) rfl ?_
    refine wl_bin (fun x y => do eqGuard .lss 3 (.tmp 7) (.tmp 10) x y; binOp .lss 3 x y) (.tmp 7) (.tmp 10) (.int .i64 ((i : Nat) : Int)) (.int .i64 ((d.tb.length : Nat) : Int)) (.bool true) (fun _ => rfl) rfl rfl (ltN hid _ _ _) rfl ?_
    refine w_nil ?_
    refine xn_then ?_
    refine w_condT rfl ?_
    refine w_skip ?_
    refine xn_then ?_
    refine w_seq ?_
    refine w_block ?_
    refine w_seq ?_
    refine w_reg ?_
    refine wl_un (fun v => Instr.fieldAt 29 v 2) (.tmp 2) (pt k1 0) (pt k1 5) (fun _ => rfl) e40_2 (by kernel_rfl) rfl ?_
    refine wl_load 26 (.tmp 14) (pt k1 5) (.slice d.pt d.tb.length d.ct) rfl rfl (run_one Q1 26 5 rfl Try.underlying26 rfl) rfl ?_
    refine wl_mv (.tmp 6) (.int .i64 ((i : Nat) : Int)) (fun _ => rfl) e40_i rfl ?_
    refine wl_bin (fun x y => Instr.indexAt 26 x y) (.tmp 15) (.tmp 16) (.slice d.pt d.tb.length d.ct) (.int .i64 ((i : Nat) : Int)) (pt b1 (o1 + i * 2)) (fun _ => rfl) rfl rfl (ix26 (i := i) hp1 hil _) rfl ?_
    refine wl_un (fun v => Instr.fieldAt 85 v 0) (.tmp 17) (pt b1 (o1 + i * 2)) (pt b1 (o1 + i * 2)) (fun _ => rfl) rfl (by kernel_rfl) rfl ?_
    refine wl_load 9 (.tmp 18) (pt b1 (o1 + i * 2)) (.string x.nm) rfl rfl (D.run_oneR (hR1.mo M).at' 9 0 rfl Try.underlying9 rfl) rfl ?_
    refine wl_mv (.tmp 1) (.string nm) (fun _ => rfl) e40_1 rfl ?_
    cases hf30 : decide (x.nm = nm) with
    | true =>
      have hf30p := of_decide_eq_true hf30
      refine wl_bin (fun x y => do eqGuard .eql 9 (.tmp 19) (.tmp 20) x y; binOp .eql 9 x y) (.tmp 19) (.tmp 20) (.string x.nm) (.string nm) (.bool true) (fun _ => rfl) rfl rfl (s9 hf30 _ _ _) rfl ?_
      refine w_nil ?_
      refine xn_then ?_
      refine w_condT rfl ?_
      refine w_seq ?_
      refine w_reg ?_
      refine wl_mv (.tmp 6) (.int .i64 ((i : Nat) : Int)) (fun _ => rfl) e40_i rfl ?_
      refine wl_mv (.tmp 22) (.int .i64 ((i : Nat) : Int)) (fun _ => rfl) rfl rfl ?_
      refine wl_mv (.const (.bool true)) (.bool true) (fun _ => rfl) rfl rfl ?_
      refine w_nil ?_
      refine xn_then ?_
      refine w_ret ?_
      refine xr_blk ?_
      refine xr_then ?_
      refine xr_then ?_
      refine xr_blk ?_
      refine xr_then ?_
      exact w_ret2 _ _ (.int .i64 ((i : Nat) : Int)) (.bool true) rfl rfl rfl ⟨by unfold tF; rw [fs_hit hG (tG_1 hx hf30p) hil]; rfl, M⟩
    | false =>
      have hf30p := of_decide_eq_false hf30
      refine wl_bin (fun x y => do eqGuard .eql 9 (.tmp 19) (.tmp 20) x y; binOp .eql 9 x y) (.tmp 19) (.tmp 20) (.string x.nm) (.string nm) (.bool false) (fun _ => rfl) rfl rfl (s9 hf30 _ _ _) rfl ?_
      refine w_nil ?_
      refine xn_then ?_
      refine w_condF rfl ?_
      refine w_skip ?_
      refine xn_blk ?_
      refine xn_then ?_
      refine w_reg ?_
      refine wl_mv (.tmp 6) (.int .i64 ((i : Nat) : Int)) (fun _ => rfl) e40_i rfl ?_
      refine wl_bin (fun x y => do eqGuard .add 3 (.tmp 12) (.const (.int .i64 (1))) x y; binOp .add 3 x y) (.tmp 12) (.const (.int .i64 (1))) (.int .i64 ((i : Nat) : Int)) (.int .i64 (1)) (.int .i64 ((i + 1 : Nat) : Int)) (fun _ => rfl) rfl rfl (add1r (k := i) (by omega) _ _ _) rfl ?_
      refine wl_mv (.tmp 13) (.int .i64 ((i + 1 : Nat) : Int)) (fun _ => rfl) rfl rfl ?_
      refine w_nil ?_
      exact xn_loop (d.tb.length - (i + 1)) (by omega) ⟨i + 1, rfl, by omega, e40_1, e40_2, rfl, Q1, fs_step hG (tG_0 hx hf30p), M⟩
  · skip
    have hid : decide (i < d.tb.length) = false := decide_eq_false hil
    have hie : i = d.tb.length := by omega
    refine w_seq ?_
    refine w_seq ?_
    refine w_reg ?_
    refine wl_mv (.tmp 6) (.int .i64 ((i : Nat) : Int)) (fun _ => rfl) e40_i rfl ?_
    refine wl_un (fun v => Instr.fieldAt 29 v 2) (.tmp 2) (pt k1 0) (pt k1 5) (fun _ => rfl) e40_2 (by kernel_rfl) rfl ?_
    refine wl_load 26 (.tmp 8) (pt k1 5) (.slice d.pt d.tb.length d.ct) rfl rfl (run_one Q1 26 5 rfl Try.underlying26 rfl) rfl ?_
    refine wl_val (.int .i64 ((d.tb.length : Nat) : Int)) (len26 _ _ _ _ _ (by exact rfl) _ _ _ _ _ _) rfl ?_
    refine wl_bin (fun x y => do eqGuard .lss 3 (.tmp 7) (.tmp 10) x y; binOp .lss 3 x y) (.tmp 7) (.tmp 10) (.int .i64 ((i : Nat) : Int)) (.int .i64 ((d.tb.length : Nat) : Int)) (.bool false) (fun _ => rfl) rfl rfl (ltN hid _ _ _) rfl ?_
    refine w_nil ?_
    refine xn_then ?_
    refine w_condF rfl ?_
    refine w_exit ?_
    refine xx_then ?_
    refine xx_then ?_
    refine xx_blk ?_
    refine xn_then ?_
    refine w_seq ?_
    refine w_reg ?_
    refine wl_mv (.const (.int .i64 (0))) (.int .i64 (0)) (fun _ => rfl) rfl rfl ?_
    refine wl_mv (.const (.bool false)) (.bool false) (fun _ => rfl) rfl rfl ?_
    refine w_nil ?_
    refine xn_then ?_
    refine w_ret ?_
    exact w_ret2 _ _ (.int .i64 (0)) (.bool false) rfl rfl rfl ⟨by unfold tF; rw [fs_none (by rw [← hie]; exact hG)]; rfl, M⟩
theorem equal_n {w : World} {pa pb : Option Addr} {ca cb : Nat} {L : List ByteArray} (hA : SL w 1 stc pa L) (hB : SL w 1 stc pb L) : Calls Try.prog 18 #[.slice pa L.length ca, .slice pb L.length cb] w fun e w' => e = .returned (.bool true) ∧ Mo w w' := by
  refine w_enter 26 Try.func18 Try.ntmps18 rfl rfl ?_
  have M : Mo w w := Mo.refl _
  refine w_seq ?_
  refine w_reg ?_
  refine wl_mv (.const (.bool false)) (.bool false) (fun _ => rfl) rfl rfl ?_
  refine w_nil ?_
  refine xn_then ?_
  refine w_seq ?_
  refine w_seq ?_
  refine w_reg ?_
  refine wl_mv (.tmp 0) (.slice pa L.length ca) (fun _ => rfl) rfl rfl ?_
  refine wl_val (.int .i64 ((L.length : Nat) : Int)) (len45 _ _ _ _ _ (by exact rfl) _ _ _ _ _ _) rfl ?_
  refine wl_mv (.tmp 1) (.slice pb L.length cb) (fun _ => rfl) rfl rfl ?_
  refine wl_val (.int .i64 ((L.length : Nat) : Int)) (len45 _ _ _ _ _ (by exact rfl) _ _ _ _ _ _) rfl ?_
  refine wl_bin (fun x y => do eqGuard .neq 3 (.tmp 7) (.tmp 9) x y; binOp .neq 3 x y) (.tmp 7) (.tmp 9) (.int .i64 ((L.length : Nat) : Int)) (.int .i64 ((L.length : Nat) : Int)) (.bool false) (fun _ => rfl) rfl rfl (ne3 (decide_eq_true rfl) _ _ _) rfl ?_
  refine w_nil ?_
  refine xn_then ?_
  refine w_condF rfl ?_
  refine w_skip ?_
  refine xn_then ?_
  refine w_seq ?_
  refine w_seq ?_
  refine w_reg ?_
  refine wl_mv (.tmp 0) (.slice pa L.length ca) (fun _ => rfl) rfl rfl ?_
  refine wl_val (.int .i64 ((L.length : Nat) : Int)) (len45 _ _ _ _ _ (by exact rfl) _ _ _ _ _ _) rfl ?_
  refine wl_mv (.const (.int .i64 (0))) (.int .i64 (0)) (fun _ => rfl) rfl rfl ?_
  refine w_nil ?_
  refine xn_then ?_
  refine w_block ?_
  have hz := hA.1
  unfold maxLen at hz
  refine w_loop (fun m l w1 => ∃ i : Nat, m = L.length - i ∧ i ≤ L.length ∧ look l 0 = .slice pa L.length ca ∧ look l 1 = .slice pb L.length cb ∧ look l 12 = .int .i64 ((L.length : Nat) : Int) ∧ look l 13 = .int .i64 ((i : Nat) : Int) ∧ Mo w w1) _ ⟨0, rfl, Nat.zero_le _, rfl, rfl, rfl, rfl, M⟩ ?_
  clear M
  rintro m l40 wl40 ⟨i, rfl, hi, e40_0, e40_1, e40_12, e40_i, M⟩
  by_cases hil : i < L.length
  · skip
    have hid : decide (i < L.length) = true := decide_eq_true hil
    obtain ⟨x, hx⟩ := get_of_lt hil
    obtain ⟨b1, o1, hp1, hR1⟩ := D.SL.rw hA hx
    obtain ⟨b2, o2, hp2, hR2⟩ := D.SL.rw hB hx
    refine w_seq ?_
    refine w_reg ?_
    refine wl_bin (fun x y => do eqGuard .lss 3 (.tmp 13) (.tmp 12) x y; binOp .lss 3 x y) (.tmp 13) (.tmp 12) (.int .i64 ((i : Nat) : Int)) (.int .i64 ((L.length : Nat) : Int)) (.bool true) (fun _ => rfl) e40_i e40_12 (ltN hid _ _ _) rfl ?_
    refine w_nil ?_
    refine xn_then ?_
    refine w_seq ?_
    refine w_condT rfl ?_
    refine w_skip ?_
    refine xn_then ?_
    refine w_seq ?_
    refine w_block ?_
    refine w_seq ?_
    refine w_reg ?_
    refine wl_mv (.tmp 13) (.int .i64 ((i : Nat) : Int)) (fun _ => rfl) e40_i rfl ?_
    refine wl_mv (.tmp 15) (.int .i64 ((i : Nat) : Int)) (fun _ => rfl) rfl rfl ?_
    refine w_nil ?_
    refine xn_then ?_
    refine w_seq ?_
    refine w_any 8 [.inl (.slice pa L.length ca), .inl (.int .i64 ((i : Nat) : Int)), .inl (pt b1 (o1 + i * 1)), .inl (.string x), .inl (.slice pb L.length cb), .inl (.int .i64 ((i : Nat) : Int)), .inl (pt b2 (o2 + i * 1)), .inl (.string x)] [] (by kernel_rfl) (by kernel_rfl) (by kernel_rfl) (by kernel_rfl) rfl (by kernel_rfl) (by kernel_rfl) late_nil ?_ ?_ ?_
    · exact Ds.none rfl
    · refine ea_cons ?_ (ea_cons ?_ (ea_cons ?_ (ea_cons ?_ (ea_cons ?_ (ea_cons ?_ (ea_cons ?_ (ea_cons ?_ (ea_nil))))))))
      · exact og_eq (.slice pa L.length ca) rfl (fun f wf hq hd K hK => go_run rfl (wo_mv (.tmp 0) (.slice pa L.length ca) (fun _ => rfl) e40_0 (hK _ (Mo.refl _))))
      · exact og_eq (.int .i64 ((i : Nat) : Int)) rfl (fun f wf hq hd K hK => go_run rfl (wo_mv (.tmp 5) (.int .i64 ((i : Nat) : Int)) (fun _ => rfl) rfl (hK _ (Mo.refl _))))
      · exact og_eq (pt b1 (o1 + i * 1)) rfl (fun f wf hq hd K hK => go_run rfl (wo_bin (fun x y => Instr.indexAt 45 x y) (.tmp 16) (.tmp 17) (.slice pa L.length ca) (.int .i64 ((i : Nat) : Int)) (pt b1 (o1 + i * 1)) (fun _ => rfl) (hd 0 rfl) (hd 1 rfl) (ix45 (i := i) hp1 hil _) (hK _ (Mo.refl _))))
      · exact og_eq (.string x) rfl (fun f wf hq hd K hK => go_run rfl (wo_load 9 (.tmp 18) (pt b1 (o1 + i * 1)) (.string x) rfl (hd 2 rfl) (D.run_oneR (hR1.mo (M.trans hq)).at' 9 0 rfl Try.underlying9 rfl) (hK _ (Mo.refl _))))
      · exact og_eq (.slice pb L.length cb) rfl (fun f wf hq hd K hK => go_run rfl (wo_mv (.tmp 1) (.slice pb L.length cb) (fun _ => rfl) e40_1 (hK _ (Mo.refl _))))
      · exact og_eq (.int .i64 ((i : Nat) : Int)) rfl (fun f wf hq hd K hK => go_run rfl (wo_mv (.tmp 5) (.int .i64 ((i : Nat) : Int)) (fun _ => rfl) rfl (hK _ (Mo.refl _))))
      · exact og_eq (pt b2 (o2 + i * 1)) rfl (fun f wf hq hd K hK => go_run rfl (wo_bin (fun x y => Instr.indexAt 45 x y) (.tmp 20) (.tmp 21) (.slice pb L.length cb) (.int .i64 ((i : Nat) : Int)) (pt b2 (o2 + i * 1)) (fun _ => rfl) (hd 4 rfl) (hd 5 rfl) (ix45 (i := i) hp2 hil _) (hK _ (Mo.refl _))))
      · exact og_eq (.string x) rfl (fun f wf hq hd K hK => go_run rfl (wo_load 9 (.tmp 22) (pt b2 (o2 + i * 1)) (.string x) rfl (hd 6 rfl) (D.run_oneR (hR2.mo (M.trans hq)).at' 9 0 rfl Try.underlying9 rfl) (hK _ (Mo.refl _))))
    intro kf41 u41 hq hR hne
    replace M := M.trans hq
    clear hq hR hne
    refine wl_bin (fun x y => do eqGuard .neq 9 (.tmp 19) (.tmp 23) x y; binOp .neq 9 x y) (.tmp 19) (.tmp 23) (.string x) (.string x) (.bool false) (fun _ => rfl) rfl rfl (sn9 (decide_eq_true rfl) _ _ _) rfl ?_
    refine w_nil ?_
    refine xn_then ?_
    refine w_condF rfl ?_
    refine w_skip ?_
    refine xn_blk ?_
    refine xn_then ?_
    refine w_reg ?_
    refine wl_bin (fun x y => do eqGuard .add 3 (.tmp 13) (.const (.int .i64 (1))) x y; binOp .add 3 x y) (.tmp 13) (.const (.int .i64 (1))) (.int .i64 ((i : Nat) : Int)) (.int .i64 (1)) (.int .i64 ((i + 1 : Nat) : Int)) (fun _ => rfl) e40_i rfl (add1r (k := i) (by omega) _ _ _) rfl ?_
    refine wl_mv (.tmp 25) (.int .i64 ((i + 1 : Nat) : Int)) (fun _ => rfl) rfl rfl ?_
    refine w_nil ?_
    exact xn_loop (L.length - (i + 1)) (by omega) ⟨i + 1, rfl, by omega, e40_0, e40_1, e40_12, rfl, M⟩
  · skip
    have hid : decide (i < L.length) = false := decide_eq_false hil
    have hie : i = L.length := by omega
    refine w_seq ?_
    refine w_reg ?_
    refine wl_bin (fun x y => do eqGuard .lss 3 (.tmp 13) (.tmp 12) x y; binOp .lss 3 x y) (.tmp 13) (.tmp 12) (.int .i64 ((i : Nat) : Int)) (.int .i64 ((L.length : Nat) : Int)) (.bool false) (fun _ => rfl) e40_i e40_12 (ltN hid _ _ _) rfl ?_
    refine w_nil ?_
    refine xn_then ?_
    refine w_seq ?_
    refine w_condF rfl ?_
    refine w_exit ?_
    refine xx_then ?_
    refine xx_then ?_
    refine xx_blk ?_
    refine xn_then ?_
    refine w_seq ?_
    refine w_reg ?_
    refine wl_mv (.const (.bool true)) (.bool true) (fun _ => rfl) rfl rfl ?_
    refine w_nil ?_
    refine xn_then ?_
    refine w_ret ?_
    exact w_ret1 _ (.bool true) rfl rfl ⟨rfl, M⟩
theorem rreserved_n (s : ByteArray) (w : World) : Calls Try.prog 22 #[.string s] w fun e w' => e = .returned (.bool (rsv s)) ∧ Mo w w' := by
  refine w_enter 18 Try.func22 Try.ntmps22 rfl rfl ?_
  have M : Mo w w := Mo.refl _
  refine w_seq ?_
  refine w_reg ?_
  refine wl_mv (.const (.bool false)) (.bool false) (fun _ => rfl) rfl rfl ?_
  refine w_nil ?_
  refine xn_then ?_
  refine w_seq ?_
  refine w_reg ?_
  refine wl_callx 20 [] _ [] rfl rfl (fun _ _ => by kernel_rfl) (rwords_n _) rfl ?_
  rintro e9 u1 ⟨kw, rfl, hq, hSw⟩
  refine ⟨_, rfl, ?_⟩
  have hSw0 := hSw
  have hMw := M.trans hq
  clear M hq
  have M : Mo u1 u1 := Mo.refl _
  refine wl_mv (.tmp 5) (.slice (some ⟨kw, 0, none⟩) 33 33) (fun _ => rfl) rfl rfl ?_
  refine w_nil ?_
  refine xn_then ?_
  refine w_seq ?_
  refine w_seq ?_
  refine w_reg ?_
  refine wl_mv (.const (.int .i64 (0))) (.int .i64 (0)) (fun _ => rfl) rfl rfl ?_
  refine w_nil ?_
  refine xn_then ?_
  refine w_block ?_
  have hwl : wds.length = 33 := rfl
  refine w_loop (fun m l w1 => ∃ i : Nat, m = wds.length - i ∧ i ≤ wds.length ∧ look l 0 = .string s ∧ look l 3 = .slice (some ⟨kw, 0, none⟩) 33 33 ∧ look l 4 = .int .i64 ((i : Nat) : Int) ∧ ((wds.take i).any (fun x => decide (s = x)) = false) ∧ Mo u1 w1) _ ⟨0, rfl, Nat.zero_le _, rfl, rfl, rfl, rfl, M⟩ ?_
  clear M
  rintro m l40 wl40 ⟨i, rfl, hi, e40_0, e40_3, e40_i, hT, M⟩
  by_cases hil : i < wds.length
  · skip
    have hid : decide (i < wds.length) = true := decide_eq_true hil
    obtain ⟨x, hx⟩ := get_of_lt (L := wds) hil
    obtain ⟨b1, o1, hp1, hR1⟩ := D.SL.rw hSw hx
    refine w_seq ?_
    refine w_seq ?_
    refine w_reg ?_
    refine wl_mv (.tmp 4) (.int .i64 ((i : Nat) : Int)) (fun _ => rfl) e40_i rfl ?_
    refine wl_mv (.tmp 3) (.slice (some ⟨kw, 0, none⟩) 33 33) (fun _ => rfl) e40_3 rfl ?_
    refine wl_val (.int .i64 (33)) (len45 _ _ _ 33 _ (by exact rfl) _ _ _ _ _ _) rfl ?_
    refine wl_bin (fun x y => do eqGuard .lss 3 (.tmp 6) (.tmp 8) x y; binOp .lss 3 x y) (.tmp 6) (.tmp 8) (.int .i64 ((i : Nat) : Int)) (.int .i64 (33)) (.bool true) (fun _ => rfl) rfl rfl (ltN (a := i) (b := 33) hid _ _ _) rfl ?_
    refine w_nil ?_
    refine xn_then ?_
    refine w_condT rfl ?_
    refine w_skip ?_
    refine xn_then ?_
    refine w_seq ?_
    refine w_block ?_
    refine w_seq ?_
    refine w_reg ?_
    refine wl_mv (.tmp 3) (.slice (some ⟨kw, 0, none⟩) 33 33) (fun _ => rfl) e40_3 rfl ?_
    refine wl_mv (.tmp 4) (.int .i64 ((i : Nat) : Int)) (fun _ => rfl) e40_i rfl ?_
    refine wl_bin (fun x y => Instr.indexAt 45 x y) (.tmp 12) (.tmp 13) (.slice (some ⟨kw, 0, none⟩) 33 33) (.int .i64 ((i : Nat) : Int)) (pt b1 (o1 + i * 1)) (fun _ => rfl) rfl rfl (ix45 (i := i) hp1 hil _) rfl ?_
    refine wl_load 9 (.tmp 14) (pt b1 (o1 + i * 1)) (.string x) rfl rfl (D.run_oneR (hR1.mo M).at' 9 0 rfl Try.underlying9 rfl) rfl ?_
    refine wl_mv (.tmp 0) (.string s) (fun _ => rfl) e40_0 rfl ?_
    cases hf30 : decide (x = s) with
    | true =>
      have hf30p := of_decide_eq_true hf30
      refine wl_bin (fun x y => do eqGuard .eql 9 (.tmp 15) (.tmp 16) x y; binOp .eql 9 x y) (.tmp 15) (.tmp 16) (.string x) (.string s) (.bool true) (fun _ => rfl) rfl rfl (s9 hf30 _ _ _) rfl ?_
      refine w_nil ?_
      refine xn_then ?_
      refine w_condT rfl ?_
      refine w_seq ?_
      refine w_reg ?_
      refine wl_mv (.const (.bool true)) (.bool true) (fun _ => rfl) rfl rfl ?_
      refine w_nil ?_
      refine xn_then ?_
      refine w_ret ?_
      refine xr_blk ?_
      refine xr_then ?_
      refine xr_then ?_
      refine xr_blk ?_
      refine xr_then ?_
      exact w_ret1 _ (.bool true) rfl rfl ⟨by unfold rsv; rw [any_hit (f := fun x => decide (s = x)) hx (decide_eq_true hf30p.symm)], hMw.trans M⟩
    | false =>
      have hf30p := of_decide_eq_false hf30
      refine wl_bin (fun x y => do eqGuard .eql 9 (.tmp 15) (.tmp 16) x y; binOp .eql 9 x y) (.tmp 15) (.tmp 16) (.string x) (.string s) (.bool false) (fun _ => rfl) rfl rfl (s9 hf30 _ _ _) rfl ?_
      refine w_nil ?_
      refine xn_then ?_
      refine w_condF rfl ?_
      refine w_skip ?_
      refine xn_blk ?_
      refine xn_then ?_
      refine w_reg ?_
      refine wl_mv (.tmp 4) (.int .i64 ((i : Nat) : Int)) (fun _ => rfl) e40_i rfl ?_
      refine wl_bin (fun x y => do eqGuard .add 3 (.tmp 10) (.const (.int .i64 (1))) x y; binOp .add 3 x y) (.tmp 10) (.const (.int .i64 (1))) (.int .i64 ((i : Nat) : Int)) (.int .i64 (1)) (.int .i64 ((i + 1 : Nat) : Int)) (fun _ => rfl) rfl rfl (add1r (k := i) (by omega) _ _ _) rfl ?_
      refine wl_mv (.tmp 11) (.int .i64 ((i + 1 : Nat) : Int)) (fun _ => rfl) rfl rfl ?_
      refine w_nil ?_
      exact xn_loop (wds.length - (i + 1)) (by omega) ⟨i + 1, rfl, by omega, e40_0, e40_3, rfl, any_take hT hx (decide_eq_false (fun h => hf30p h.symm)), M⟩
  · skip
    have hid : decide (i < wds.length) = false := decide_eq_false hil
    have hie : i = wds.length := by omega
    refine w_seq ?_
    refine w_seq ?_
    refine w_reg ?_
    refine wl_mv (.tmp 4) (.int .i64 ((i : Nat) : Int)) (fun _ => rfl) e40_i rfl ?_
    refine wl_mv (.tmp 3) (.slice (some ⟨kw, 0, none⟩) 33 33) (fun _ => rfl) e40_3 rfl ?_
    refine wl_val (.int .i64 (33)) (len45 _ _ _ 33 _ (by exact rfl) _ _ _ _ _ _) rfl ?_
    refine wl_bin (fun x y => do eqGuard .lss 3 (.tmp 6) (.tmp 8) x y; binOp .lss 3 x y) (.tmp 6) (.tmp 8) (.int .i64 ((i : Nat) : Int)) (.int .i64 (33)) (.bool false) (fun _ => rfl) rfl rfl (ltN (a := i) (b := 33) hid _ _ _) rfl ?_
    refine w_nil ?_
    refine xn_then ?_
    refine w_condF rfl ?_
    refine w_exit ?_
    refine xx_then ?_
    refine xx_then ?_
    refine xx_blk ?_
    refine xn_then ?_
    refine w_seq ?_
    refine w_reg ?_
    refine wl_mv (.const (.bool false)) (.bool false) (fun _ => rfl) rfl rfl ?_
    refine w_nil ?_
    refine xn_then ?_
    refine w_ret ?_
    exact w_ret1 _ (.bool false) rfl rfl ⟨by unfold rsv; rw [any_all hT hie], hMw.trans M⟩
theorem eq4r (r : Bool) (x y : Operand) (w : World) : (do eqGuard .eql 4 x y (.bool r) (.bool r); binOp .eql 4 (.bool r) (.bool r)).run Try.prog w = .ok (.bool true) w := by cases r <;> kernel_rfl
theorem swords_n (d : Df) (nm : ByteArray) {w : World} (hD : LDf w d) : Calls Try.prog 5 #[.agg (d.cells).toArray, .string nm] w fun e w' => e = .returned (.bool true) ∧ Mo w w' := by
  refine w_enter 44 Try.func5 Try.ntmps5 rfl rfl ?_
  have M : Mo w w := Mo.refl _
  refine w_seq ?_
  refine w_reg ?_
  refine wl_box 29 (.tmp 0) (.agg (d.cells).toArray) (((d.cells).toArray)) rfl rfl (fun _ => by kernel_rfl) rfl ?_
  intro k1 u1 hk hz hq Q1
  have N_k1 : w.heap.size ≤ k1 := by have := M.size; omega
  replace M := M.trans hq
  clear hk hz hq
  refine wl_mv (.const (.bool false)) (.bool false) (fun _ => rfl) rfl rfl ?_
  refine w_nil ?_
  refine xn_then ?_
  refine w_seq ?_
  refine w_reg ?_
  refine wl_load 29 (.tmp 2) (pt k1 0) (.agg (d.cells).toArray) rfl rfl (run_row Q1 29 0 7 (d.cells) rfl Try.underlying29 rfl sz29) rfl ?_
  refine wl_mv (.tmp 1) (.string nm) (fun _ => rfl) rfl rfl ?_
  refine wl_call 16 [(.tmp 10), (.tmp 11)] _ [.agg (d.cells).toArray, .string nm] (.tuple #[.int .i64 (((tF d.tb nm).getD 0 : Nat) : Int), .bool ((tF d.tb nm).isSome)]) rfl rfl (fun _ _ => by kernel_rfl) (tab_n d nm (hD.kp M.kp)) rfl ?_
  intro u2 hq
  replace Q1 := Q1.mo hq
  replace M := M.trans hq
  clear hq
  refine wl_mv (.tmp 12) (.tuple #[.int .i64 (((tF d.tb nm).getD 0 : Nat) : Int), .bool ((tF d.tb nm).isSome)]) (fun _ => rfl) rfl rfl ?_
  refine wl_un (fun v => Instr.extract v 0) (.tmp 9) (.tuple #[.int .i64 (((tF d.tb nm).getD 0 : Nat) : Int), .bool ((tF d.tb nm).isSome)]) (.int .i64 (((tF d.tb nm).getD 0 : Nat) : Int)) (fun _ => rfl) rfl (by kernel_rfl) rfl ?_
  refine wl_un (fun v => Instr.extract v 1) (.tmp 9) (.tuple #[.int .i64 (((tF d.tb nm).getD 0 : Nat) : Int), .bool ((tF d.tb nm).isSome)]) (.bool ((tF d.tb nm).isSome)) (fun _ => rfl) rfl (by kernel_rfl) rfl ?_
  refine wl_mv (.tmp 13) (.int .i64 (((tF d.tb nm).getD 0 : Nat) : Int)) (fun _ => rfl) rfl rfl ?_
  refine wl_mv (.tmp 14) (.bool ((tF d.tb nm).isSome)) (fun _ => rfl) rfl rfl ?_
  refine w_nil ?_
  refine xn_then ?_
  refine w_seq ?_
  refine w_reg ?_
  refine wl_load 29 (.tmp 2) (pt k1 0) (.agg (d.cells).toArray) rfl rfl (run_row Q1 29 0 7 (d.cells) rfl Try.underlying29 rfl sz29) rfl ?_
  refine wl_mv (.tmp 1) (.string nm) (fun _ => rfl) rfl rfl ?_
  refine wl_call 17 [(.tmp 16), (.tmp 17)] _ [.agg (d.cells).toArray, .string nm] (.tuple #[.int .i64 (((tF d.tb nm).getD 0 : Nat) : Int), .bool ((tF d.tb nm).isSome)]) rfl rfl (fun _ _ => by kernel_rfl) (rtab_n d nm (hD.kp M.kp)) rfl ?_
  intro u3 hq
  replace Q1 := Q1.mo hq
  replace M := M.trans hq
  clear hq
  refine wl_mv (.tmp 18) (.tuple #[.int .i64 (((tF d.tb nm).getD 0 : Nat) : Int), .bool ((tF d.tb nm).isSome)]) (fun _ => rfl) rfl rfl ?_
  refine wl_un (fun v => Instr.extract v 0) (.tmp 15) (.tuple #[.int .i64 (((tF d.tb nm).getD 0 : Nat) : Int), .bool ((tF d.tb nm).isSome)]) (.int .i64 (((tF d.tb nm).getD 0 : Nat) : Int)) (fun _ => rfl) rfl (by kernel_rfl) rfl ?_
  refine wl_un (fun v => Instr.extract v 1) (.tmp 15) (.tuple #[.int .i64 (((tF d.tb nm).getD 0 : Nat) : Int), .bool ((tF d.tb nm).isSome)]) (.bool ((tF d.tb nm).isSome)) (fun _ => rfl) rfl (by kernel_rfl) rfl ?_
  refine wl_mv (.tmp 19) (.int .i64 (((tF d.tb nm).getD 0 : Nat) : Int)) (fun _ => rfl) rfl rfl ?_
  refine wl_mv (.tmp 20) (.bool ((tF d.tb nm).isSome)) (fun _ => rfl) rfl rfl ?_
  refine w_nil ?_
  refine xn_then ?_
  refine w_seq ?_
  refine w_reg ?_
  refine wl_call 9 [] _ [] (.bool true) rfl rfl (fun _ _ => by kernel_rfl) (live_n _) rfl ?_
  intro u4 hq
  replace Q1 := Q1.mo hq
  replace M := M.trans hq
  clear hq
  refine wl_mv (.tmp 21) (.bool true) (fun _ => rfl) rfl rfl ?_
  refine wl_callx 19 [] _ [] rfl rfl (fun _ _ => by kernel_rfl) (words_n _) rfl ?_
  rintro e9 u5 ⟨kaw, rfl, hq, hSa⟩
  refine ⟨_, rfl, ?_⟩
  replace Q1 := Q1.mo hq
  replace M := M.trans hq
  clear hq
  refine wl_callx 20 [] _ [] rfl rfl (fun _ _ => by kernel_rfl) (rwords_n _) rfl ?_
  rintro e9 u6 ⟨kbw, rfl, hq, hSb⟩
  refine ⟨_, rfl, ?_⟩
  replace Q1 := Q1.mo hq
  replace M := M.trans hq
  replace hSa := hSa.kp hq.kp
  clear hq
  refine wl_call 18 [(.tmp 23), (.tmp 24)] _ [.slice (some ⟨kaw, 0, none⟩) 33 33, .slice (some ⟨kbw, 0, none⟩) 33 33] (.bool true) rfl rfl (fun _ _ => by kernel_rfl) (equal_n (L := wds) (by exact hSa) (by exact hSb)) rfl ?_
  intro u7 hq
  replace Q1 := Q1.mo hq
  replace M := M.trans hq
  clear hq
  refine wl_pick (.tmp 22) (.tmp 25) (.const (.bool false)) true (.bool true) (fun _ => rfl) rfl rfl rfl ?_
  refine wl_mv (.tmp 26) (.bool true) (fun _ => rfl) rfl rfl ?_
  refine wl_mv (.tmp 1) (.string nm) (fun _ => rfl) rfl rfl ?_
  refine wl_call 21 [(.tmp 28)] _ [.string nm] (.bool (rsv nm)) rfl rfl (fun _ _ => by kernel_rfl) (reserved_n nm _) rfl ?_
  intro u8 hq
  replace Q1 := Q1.mo hq
  replace M := M.trans hq
  clear hq
  refine wl_mv (.tmp 1) (.string nm) (fun _ => rfl) rfl rfl ?_
  refine wl_call 22 [(.tmp 30)] _ [.string nm] (.bool (rsv nm)) rfl rfl (fun _ _ => by kernel_rfl) (rreserved_n nm _) rfl ?_
  intro u9 hq
  replace Q1 := Q1.mo hq
  replace M := M.trans hq
  clear hq
  refine wl_bin (fun x y => do eqGuard .eql 4 (.tmp 29) (.tmp 31) x y; binOp .eql 4 x y) (.tmp 29) (.tmp 31) (.bool (rsv nm)) (.bool (rsv nm)) (.bool true) (fun _ => rfl) rfl rfl (eq4r _ _ _ _) rfl ?_
  refine wl_pick (.tmp 27) (.tmp 32) (.const (.bool false)) true (.bool true) (fun _ => rfl) rfl rfl rfl ?_
  refine wl_mv (.tmp 33) (.bool true) (fun _ => rfl) rfl rfl ?_
  refine wl_mv (.tmp 5) (.int .i64 (((tF d.tb nm).getD 0 : Nat) : Int)) (fun _ => rfl) rfl rfl ?_
  refine wl_mv (.tmp 7) (.int .i64 (((tF d.tb nm).getD 0 : Nat) : Int)) (fun _ => rfl) rfl rfl ?_
  refine wl_bin (fun x y => do eqGuard .eql 3 (.tmp 35) (.tmp 36) x y; binOp .eql 3 x y) (.tmp 35) (.tmp 36) (.int .i64 (((tF d.tb nm).getD 0 : Nat) : Int)) (.int .i64 (((tF d.tb nm).getD 0 : Nat) : Int)) (.bool true) (fun _ => rfl) rfl rfl (eq3 (r := true) (decide_eq_true rfl) _ _ _) rfl ?_
  refine wl_pick (.tmp 34) (.tmp 37) (.const (.bool false)) true (.bool true) (fun _ => rfl) rfl rfl rfl ?_
  refine wl_mv (.tmp 38) (.bool true) (fun _ => rfl) rfl rfl ?_
  refine wl_mv (.tmp 6) (.bool ((tF d.tb nm).isSome)) (fun _ => rfl) rfl rfl ?_
  refine wl_mv (.tmp 8) (.bool ((tF d.tb nm).isSome)) (fun _ => rfl) rfl rfl ?_
  refine wl_bin (fun x y => do eqGuard .eql 4 (.tmp 40) (.tmp 41) x y; binOp .eql 4 x y) (.tmp 40) (.tmp 41) (.bool ((tF d.tb nm).isSome)) (.bool ((tF d.tb nm).isSome)) (.bool true) (fun _ => rfl) rfl rfl (eq4r _ _ _ _) rfl ?_
  refine wl_pick (.tmp 39) (.tmp 42) (.const (.bool false)) true (.bool true) (fun _ => rfl) rfl rfl rfl ?_
  refine wl_mv (.tmp 43) (.bool true) (fun _ => rfl) rfl rfl ?_
  refine w_nil ?_
  refine xn_then ?_
  refine w_ret ?_
  exact w_ret1 _ (.bool true) rfl rfl ⟨rfl, M⟩
end Go.Proofs.Ytbanldffohopiaa
