/-
  Nodes; a table and a kid by name; a node over its parts' kinds.
-/
import Derived.Test.YtepfokoepibkcaaGreatK1
import Derived.Test.YtepfokoepibkcaaGreatRm
namespace Go.Proofs.YtepfokoepibkcaaGreat
open Go.RowKit D
/-- The first place at which something holds. -/
theorem fi_step {α : Type} {p : α → Bool} {L : List α} {i : Nat} {x : α} (h : (L.take i).findIdx? p = none) (hx : L[i]? = some x) (hp : p x = false) : (L.take (i + 1)).findIdx? p = none := by
  rw [List.take_add_one, hx, List.findIdx?_append, h]
  simp [hp]
theorem fi_hit {α : Type} {p : α → Bool} {L : List α} {i : Nat} {x : α} (h : (L.take i).findIdx? p = none) (hx : L[i]? = some x) (hp : p x = true) : L.findIdx? p = some i := by
  have hl : i < L.length := lt_of_get hx
  have e : L = L.take i ++ x :: L.drop (i + 1) := by
    conv => lhs; rw [← List.take_append_drop i L]
    rw [List.drop_eq_getElem_cons hl]
    congr 2
    exact (List.getElem?_eq_some_iff.1 hx).2
  rw [e, List.findIdx?_append, h, List.findIdx?_cons, hp]
  simp; omega
theorem fi_end {α : Type} {p : α → Bool} {L : List α} {i : Nat} (h : (L.take i).findIdx? p = none) (hi : i = L.length) : L.findIdx? p = none := by rw [hi, List.take_length] at h; exact h
/-- What comes of a search. -/
abbrev fiv (r : Option Nat) : Value := .tuple #[.int .i64 (((r.getD 0 : Nat)) : Int), .bool r.isSome]
theorem sz29 : (Tryz.prog.info? 29).map (·.size) = some 7 := by kernel_rfl
theorem ix26 {pa : Option Addr} {b off i n c : Nat} (hp : pa = some ⟨b, off, none⟩) (h : i < n) (w : World) : (Instr.indexAt 26 (.slice pa n c) (.int .i64 (i : Int))).run Tryz.prog w = .ok (pt b (off + i * 2)) w := by
  subst hp
  have e : (Instr.indexAt 26 (.slice (some ⟨b, off, none⟩) n c) (.int .i64 (i : Int))).run Tryz.prog w = .ok (.pointer (some ((⟨b, off, none⟩ : Addr).add (i * 2)))) w := by simp [go_sem, h]
  rw [e, Addr.add_mid]
theorem len26 (ρ : Operand → Value) (x : Operand) (p : Option Addr) (m c : Nat) (hx : ρ x = .slice p m c) (dst : Option Tmp) (type : TypeId) (pos : String) (after : Array Edge) (guard : Option (Nat × Bool)) (w : World) : (execOp ρ { dst, op := .call { callee := .builtin .len, args := #[x], argTypes := #[26] }, type, pos, after, guard }).run Tryz.prog w = .ok (.value (.int .i64 (m : Int))) w := by
  simp [go_sem, hx]
theorem ix37 {pa : Option Addr} {b off i n c : Nat} (hp : pa = some ⟨b, off, none⟩) (h : i < n) (w : World) : (Instr.indexAt 37 (.slice pa n c) (.int .i64 (i : Int))).run Tryz.prog w = .ok (pt b (off + i * 5)) w := by
  subst hp
  have e : (Instr.indexAt 37 (.slice (some ⟨b, off, none⟩) n c) (.int .i64 (i : Int))).run Tryz.prog w = .ok (.pointer (some ((⟨b, off, none⟩ : Addr).add (i * 5)))) w := by simp [go_sem, h]
  rw [e, Addr.add_mid]
theorem len37 (ρ : Operand → Value) (x : Operand) (p : Option Addr) (m c : Nat) (hx : ρ x = .slice p m c) (dst : Option Tmp) (type : TypeId) (pos : String) (after : Array Edge) (guard : Option (Nat × Bool)) (w : World) : (execOp ρ { dst, op := .call { callee := .builtin .len, args := #[x], argTypes := #[37] }, type, pos, after, guard }).run Tryz.prog w = .ok (.value (.int .i64 (m : Int))) w := by
  simp [go_sem, hx]
theorem ix22 {pa : Option Addr} {b off i n c : Nat} (hp : pa = some ⟨b, off, none⟩) (h : i < n) (w : World) : (Instr.indexAt 22 (.slice pa n c) (.int .i64 (i : Int))).run Tryz.prog w = .ok (pt b (off + i * 23)) w := by
  subst hp
  have e : (Instr.indexAt 22 (.slice (some ⟨b, off, none⟩) n c) (.int .i64 (i : Int))).run Tryz.prog w = .ok (.pointer (some ((⟨b, off, none⟩ : Addr).add (i * 23)))) w := by simp [go_sem, h]
  rw [e, Addr.add_mid]
theorem len22 (ρ : Operand → Value) (x : Operand) (p : Option Addr) (m c : Nat) (hx : ρ x = .slice p m c) (dst : Option Tmp) (type : TypeId) (pos : String) (after : Array Edge) (guard : Option (Nat × Bool)) (w : World) : (execOp ρ { dst, op := .call { callee := .builtin .len, args := #[x], argTypes := #[22] }, type, pos, after, guard }).run Tryz.prog w = .ok (.value (.int .i64 (m : Int))) w := by
  simp [go_sem, hx]
theorem table_n {d : Df} {w : World} (hD : LDf w d) (nm : ByteArray) : Calls Tryz.prog 106 #[.agg (d.cells).toArray, .string nm] w fun e w' => e = .returned (fiv (d.tb.findIdx? (fun t : Tb => decide (t.nm = nm)))) ∧ Mo w w' := by
  refine w_enter 23 Tryz.func106 Tryz.ntmps106 rfl rfl ?_
  have M : Mo w w := Mo.refl _
  refine w_seq ?_
  refine w_reg ?_
  refine wl_box 29 (.tmp 0) (.agg (d.cells).toArray) (((d.cells).toArray)) rfl rfl (fun _ => by kernel_rfl) rfl ?_
  intro k1 u1 hk hz hq Q1
  have N_k1 : w.heap.size ≤ k1 := by have := M.size; omega
  replace M := M.trans hq
  clear hk hz hq
  refine wl_mv (.const (.int .i64 (0))) (.int .i64 (0)) (fun _ => rfl) rfl rfl ?_
  refine wl_mv (.const (.bool false)) (.bool false) (fun _ => rfl) rfl rfl ?_
  refine w_nil ?_
  refine xn_then ?_
  refine w_seq ?_
  refine w_seq ?_
  refine w_reg ?_
  refine wl_un (fun v => Instr.fieldAt 29 v 2) (.tmp 2) (pt k1 0) (pt k1 5) (fun _ => rfl) rfl (by kernel_rfl) rfl ?_
  refine wl_load 26 (.tmp 7) (pt k1 5) (.slice d.pt d.tb.length d.ct) rfl rfl (run_one Q1 26 5 rfl Tryz.underlying26 rfl) rfl ?_
  refine wl_val (.int .i64 ((d.tb.length : Nat) : Int)) (len26 _ _ _ _ _ (by exact rfl) _ _ _ _ _ _) rfl ?_
  refine wl_mv (.const (.int .i64 (0))) (.int .i64 (0)) (fun _ => rfl) rfl rfl ?_
  refine w_nil ?_
  refine xn_then ?_
  refine w_block ?_
  have hz9 := hD.tb.1
  unfold maxLen at hz9
  refine w_loop (fun m l w1 => ∃ i : Nat, m = d.tb.length - i ∧ i ≤ d.tb.length ∧ look l 1 = .string nm ∧ look l 2 = pt k1 0 ∧ look l 8 = .slice d.pt d.tb.length d.ct ∧ look l 9 = .int .i64 ((d.tb.length : Nat) : Int) ∧ look l 10 = .int .i64 ((i : Nat) : Int) ∧ At w1 k1 (d.cells) ∧ ((d.tb.take i).findIdx? (fun t : Tb => decide (t.nm = nm)) = none) ∧ Mo w w1) _ ⟨0, rfl, Nat.zero_le _, rfl, rfl, rfl, rfl, rfl, Q1, rfl, M⟩ ?_
  clear Q1 M
  rintro m l40 wl40 ⟨i, rfl, hi, e40_1, e40_2, e40_8, e40_9, e40_i, Q1, hT, M⟩
  by_cases hil : i < d.tb.length
  · skip
    have hid : decide (i < d.tb.length) = true := decide_eq_true hil
    obtain ⟨y, hy⟩ := get_of_lt hil
    obtain ⟨bp, op, hpp, hRp⟩ := D.SL.rw hD.tb hy
    refine w_seq ?_
    refine w_reg ?_
    refine wl_bin (fun x y => do eqGuard .lss 3 (.tmp 10) (.tmp 9) x y; binOp .lss 3 x y) (.tmp 10) (.tmp 9) (.int .i64 ((i : Nat) : Int)) (.int .i64 ((d.tb.length : Nat) : Int)) (.bool true) (fun _ => rfl) e40_i e40_9 (ltN hid _ _ _) rfl ?_
    refine w_nil ?_
    refine xn_then ?_
    refine w_seq ?_
    refine w_condT rfl ?_
    refine w_skip ?_
    refine xn_then ?_
    refine w_seq ?_
    refine w_block ?_
    refine w_seq ?_
    refine w_reg ?_
    refine wl_mv (.tmp 10) (.int .i64 ((i : Nat) : Int)) (fun _ => rfl) e40_i rfl ?_
    refine wl_mv (.tmp 12) (.int .i64 ((i : Nat) : Int)) (fun _ => rfl) rfl rfl ?_
    refine w_nil ?_
    refine xn_then ?_
    refine w_seq ?_
    refine w_reg ?_
    refine wl_un (fun v => Instr.fieldAt 29 v 2) (.tmp 2) (pt k1 0) (pt k1 5) (fun _ => rfl) e40_2 (by kernel_rfl) rfl ?_
    refine wl_load 26 (.tmp 13) (pt k1 5) (.slice d.pt d.tb.length d.ct) rfl rfl (run_one Q1 26 5 rfl Tryz.underlying26 rfl) rfl ?_
    refine wl_mv (.tmp 6) (.int .i64 ((i : Nat) : Int)) (fun _ => rfl) rfl rfl ?_
    refine wl_bin (fun x y => Instr.indexAt 26 x y) (.tmp 14) (.tmp 15) (.slice d.pt d.tb.length d.ct) (.int .i64 ((i : Nat) : Int)) (pt bp (op + i * 2)) (fun _ => rfl) rfl rfl (ix26 (i := i) hpp hil _) rfl ?_
    refine wl_un (fun v => Instr.fieldAt 62 v 0) (.tmp 16) (pt bp (op + i * 2)) (pt bp (op + i * 2)) (fun _ => rfl) rfl (by kernel_rfl) rfl ?_
    refine wl_load 9 (.tmp 17) (pt bp (op + i * 2)) (.string y.nm) rfl rfl (D.run_oneR (hRp.mo M).at' 9 0 rfl Tryz.underlying9 rfl) rfl ?_
    refine wl_mv (.tmp 1) (.string nm) (fun _ => rfl) e40_1 rfl ?_
    cases hf30 : decide (y.nm = nm) with
    | true =>
      have hf30p := of_decide_eq_true hf30
      refine wl_bin (fun x y => do eqGuard .eql 9 (.tmp 18) (.tmp 19) x y; binOp .eql 9 x y) (.tmp 18) (.tmp 19) (.string y.nm) (.string nm) (.bool true) (fun _ => rfl) rfl rfl (s9 hf30 _ _ _) rfl ?_
      refine w_nil ?_
      refine xn_then ?_
      refine w_condT rfl ?_
      refine w_seq ?_
      refine w_reg ?_
      refine wl_mv (.tmp 6) (.int .i64 ((i : Nat) : Int)) (fun _ => rfl) rfl rfl ?_
      refine wl_mv (.tmp 21) (.int .i64 ((i : Nat) : Int)) (fun _ => rfl) rfl rfl ?_
      refine wl_mv (.const (.bool true)) (.bool true) (fun _ => rfl) rfl rfl ?_
      refine w_nil ?_
      refine xn_then ?_
      refine w_ret ?_
      refine xr_blk ?_
      refine xr_then ?_
      refine xr_then ?_
      refine xr_blk ?_
      refine xr_then ?_
      exact w_ret2 _ _ (.int .i64 ((i : Nat) : Int)) (.bool true) rfl rfl rfl ⟨by rw [fi_hit (p := (fun t : Tb => decide (t.nm = nm))) hT hy hf30]; rfl, M⟩
    | false =>
      have hf30p := of_decide_eq_false hf30
      refine wl_bin (fun x y => do eqGuard .eql 9 (.tmp 18) (.tmp 19) x y; binOp .eql 9 x y) (.tmp 18) (.tmp 19) (.string y.nm) (.string nm) (.bool false) (fun _ => rfl) rfl rfl (s9 hf30 _ _ _) rfl ?_
      refine w_nil ?_
      refine xn_then ?_
      refine w_condF rfl ?_
      refine w_skip ?_
      refine xn_blk ?_
      refine xn_then ?_
      refine w_reg ?_
      refine wl_bin (fun x y => do eqGuard .add 3 (.tmp 10) (.const (.int .i64 (1))) x y; binOp .add 3 x y) (.tmp 10) (.const (.int .i64 (1))) (.int .i64 ((i : Nat) : Int)) (.int .i64 (1)) (.int .i64 ((i + 1 : Nat) : Int)) (fun _ => rfl) e40_i rfl (add1r (k := i) (by omega) _ _ _) rfl ?_
      refine wl_mv (.tmp 22) (.int .i64 ((i + 1 : Nat) : Int)) (fun _ => rfl) rfl rfl ?_
      refine w_nil ?_
      exact xn_loop (d.tb.length - (i + 1)) (by omega) ⟨i + 1, rfl, by omega, e40_1, e40_2, e40_8, e40_9, rfl, Q1, fi_step (p := (fun t : Tb => decide (t.nm = nm))) hT hy hf30, M⟩
  · skip
    have hid : decide (i < d.tb.length) = false := decide_eq_false hil
    have hie : i = d.tb.length := by omega
    refine w_seq ?_
    refine w_reg ?_
    refine wl_bin (fun x y => do eqGuard .lss 3 (.tmp 10) (.tmp 9) x y; binOp .lss 3 x y) (.tmp 10) (.tmp 9) (.int .i64 ((i : Nat) : Int)) (.int .i64 ((d.tb.length : Nat) : Int)) (.bool false) (fun _ => rfl) e40_i e40_9 (ltN hid _ _ _) rfl ?_
    refine w_nil ?_
    refine xn_then ?_
    refine w_seq ?_
    refine w_condF rfl ?_
    refine w_exit ?_
    refine xx_then ?_
    refine xx_then ?_
    refine xx_blk ?_
    refine xn_then ?_
    refine w_seq ?_
    refine w_reg ?_
    refine wl_mv (.const (.int .i64 (0))) (.int .i64 (0)) (fun _ => rfl) rfl rfl ?_
    refine wl_mv (.const (.bool false)) (.bool false) (fun _ => rfl) rfl rfl ?_
    refine w_nil ?_
    refine xn_then ?_
    refine w_ret ?_
    exact w_ret2 _ _ (.int .i64 (0)) (.bool false) rfl rfl rfl ⟨by rw [fi_end hT hie]; rfl, M⟩
theorem kid_n {pa : Option Addr} {c : Nat} {L : List S5} {w : World} (hS : SL w 5 S5.cells pa L) (s : Int) (nm : ByteArray) : Calls Tryz.prog 123 #[.slice pa L.length c, .int .i64 s, .string nm] w fun e w' => e = .returned (fiv (L.findIdx? (fun y : S5 => decide (y.pr = s) && decide (y.nm = nm)))) ∧ Mo w w' := by
  refine w_enter 32 Tryz.func123 Tryz.ntmps123 rfl rfl ?_
  have M : Mo w w := Mo.refl _
  refine w_seq ?_
  refine w_reg ?_
  refine wl_mv (.const (.int .i64 (0))) (.int .i64 (0)) (fun _ => rfl) rfl rfl ?_
  refine wl_mv (.const (.bool false)) (.bool false) (fun _ => rfl) rfl rfl ?_
  refine w_nil ?_
  refine xn_then ?_
  refine w_seq ?_
  refine w_seq ?_
  refine w_reg ?_
  refine wl_mv (.tmp 0) (.slice pa L.length c) (fun _ => rfl) rfl rfl ?_
  refine wl_val (.int .i64 ((L.length : Nat) : Int)) (len37 _ _ _ _ _ (by exact rfl) _ _ _ _ _ _) rfl ?_
  refine wl_mv (.const (.int .i64 (0))) (.int .i64 (0)) (fun _ => rfl) rfl rfl ?_
  refine w_nil ?_
  refine xn_then ?_
  refine w_block ?_
  have hz9 := hS.1
  unfold maxLen at hz9
  refine w_loop (fun m l w1 => ∃ i : Nat, m = L.length - i ∧ i ≤ L.length ∧ look l 0 = .slice pa L.length c ∧ look l 1 = .int .i64 (s) ∧ look l 2 = .string nm ∧ look l 10 = .int .i64 ((L.length : Nat) : Int) ∧ look l 11 = .int .i64 ((i : Nat) : Int) ∧ ((L.take i).findIdx? (fun y : S5 => decide (y.pr = s) && decide (y.nm = nm)) = none) ∧ Mo w w1) _ ⟨0, rfl, Nat.zero_le _, rfl, rfl, rfl, rfl, rfl, rfl, M⟩ ?_
  clear M
  rintro m l40 wl40 ⟨i, rfl, hi, e40_0, e40_1, e40_2, e40_10, e40_i, hT, M⟩
  by_cases hil : i < L.length
  · skip
    have hid : decide (i < L.length) = true := decide_eq_true hil
    obtain ⟨y, hy⟩ := get_of_lt hil
    obtain ⟨bp, op, hpp, hRp⟩ := D.SL.rw hS hy
    refine w_seq ?_
    refine w_reg ?_
    refine wl_bin (fun x y => do eqGuard .lss 3 (.tmp 11) (.tmp 10) x y; binOp .lss 3 x y) (.tmp 11) (.tmp 10) (.int .i64 ((i : Nat) : Int)) (.int .i64 ((L.length : Nat) : Int)) (.bool true) (fun _ => rfl) e40_i e40_10 (ltN hid _ _ _) rfl ?_
    refine w_nil ?_
    refine xn_then ?_
    refine w_seq ?_
    refine w_condT rfl ?_
    refine w_skip ?_
    refine xn_then ?_
    refine w_seq ?_
    refine w_block ?_
    refine w_seq ?_
    refine w_reg ?_
    refine wl_mv (.tmp 11) (.int .i64 ((i : Nat) : Int)) (fun _ => rfl) e40_i rfl ?_
    refine wl_mv (.tmp 13) (.int .i64 ((i : Nat) : Int)) (fun _ => rfl) rfl rfl ?_
    refine w_nil ?_
    refine xn_then ?_
    refine w_seq ?_
    refine w_reg ?_
    refine wl_mv (.tmp 0) (.slice pa L.length c) (fun _ => rfl) e40_0 rfl ?_
    refine wl_mv (.tmp 8) (.int .i64 ((i : Nat) : Int)) (fun _ => rfl) rfl rfl ?_
    refine wl_bin (fun x y => Instr.indexAt 37 x y) (.tmp 14) (.tmp 15) (.slice pa L.length c) (.int .i64 ((i : Nat) : Int)) (pt bp (op + i * 5)) (fun _ => rfl) rfl rfl (ix37 (i := i) hpp hil _) rfl ?_
    refine wl_un (fun v => Instr.fieldAt 40 v 0) (.tmp 16) (pt bp (op + i * 5)) (pt bp (op + i * 5)) (fun _ => rfl) rfl (by kernel_rfl) rfl ?_
    refine wl_load 3 (.tmp 17) (pt bp (op + i * 5)) (.int .i64 (y.pr)) rfl rfl (D.run_oneR (hRp.mo M).at' 3 0 rfl Tryz.underlying3 rfl) rfl ?_
    refine wl_mv (.tmp 1) (.int .i64 (s)) (fun _ => rfl) e40_1 rfl ?_
    cases hf30 : decide (y.pr = s) with
    | true =>
      have hf30p := of_decide_eq_true hf30
      refine wl_bin (fun x y => do eqGuard .eql 3 (.tmp 18) (.tmp 19) x y; binOp .eql 3 x y) (.tmp 18) (.tmp 19) (.int .i64 (y.pr)) (.int .i64 (s)) (.bool true) (fun _ => rfl) rfl rfl (eq3 hf30 _ _ _) rfl ?_
      refine wl_mv (.tmp 20) (.bool true) (fun _ => rfl) rfl rfl ?_
      refine wl_mv (.tmp 0) (.slice pa L.length c) (fun _ => rfl) e40_0 rfl ?_
      refine wl_mv (.tmp 8) (.int .i64 ((i : Nat) : Int)) (fun _ => rfl) rfl rfl ?_
      refine wl_bin (fun x y => Instr.indexAt 37 x y) (.tmp 22) (.tmp 23) (.slice pa L.length c) (.int .i64 ((i : Nat) : Int)) (pt bp (op + i * 5)) (fun _ => rfl) rfl rfl (ix37 (i := i) hpp hil _) rfl ?_
      refine wl_un (fun v => Instr.fieldAt 40 v 2) (.tmp 24) (pt bp (op + i * 5)) (pt bp (op + i * 5 + 2)) (fun _ => rfl) rfl (by kernel_rfl) rfl ?_
      refine wl_load 9 (.tmp 25) (pt bp (op + i * 5 + 2)) (.string y.nm) rfl rfl (D.run_oneR (hRp.mo M).at' 9 2 rfl Tryz.underlying9 rfl) rfl ?_
      refine wl_mv (.tmp 2) (.string nm) (fun _ => rfl) e40_2 rfl ?_
      cases hf31 : decide (y.nm = nm) with
      | true =>
        have hf31p := of_decide_eq_true hf31
        refine wl_bin (fun x y => do eqGuard .eql 9 (.tmp 26) (.tmp 27) x y; binOp .eql 9 x y) (.tmp 26) (.tmp 27) (.string y.nm) (.string nm) (.bool true) (fun _ => rfl) rfl rfl (s9 hf31 _ _ _) rfl ?_
        refine wl_pick (.tmp 21) (.tmp 28) (.const (.bool false)) true (.bool true) (fun _ => rfl) rfl rfl rfl ?_
        refine w_nil ?_
        refine xn_then ?_
        refine w_condT rfl ?_
        refine w_seq ?_
        refine w_reg ?_
        refine wl_mv (.tmp 8) (.int .i64 ((i : Nat) : Int)) (fun _ => rfl) rfl rfl ?_
        refine wl_mv (.tmp 30) (.int .i64 ((i : Nat) : Int)) (fun _ => rfl) rfl rfl ?_
        refine wl_mv (.const (.bool true)) (.bool true) (fun _ => rfl) rfl rfl ?_
        refine w_nil ?_
        refine xn_then ?_
        refine w_ret ?_
        refine xr_blk ?_
        refine xr_then ?_
        refine xr_then ?_
        refine xr_blk ?_
        refine xr_then ?_
        exact w_ret2 _ _ (.int .i64 ((i : Nat) : Int)) (.bool true) rfl rfl rfl ⟨by rw [fi_hit (p := (fun y : S5 => decide (y.pr = s) && decide (y.nm = nm))) hT hy (by show (decide (y.pr = s) && decide (y.nm = nm)) = true; rw [hf30, hf31]; rfl)]; rfl, M⟩
      | false =>
        have hf31p := of_decide_eq_false hf31
        refine wl_bin (fun x y => do eqGuard .eql 9 (.tmp 26) (.tmp 27) x y; binOp .eql 9 x y) (.tmp 26) (.tmp 27) (.string y.nm) (.string nm) (.bool false) (fun _ => rfl) rfl rfl (s9 hf31 _ _ _) rfl ?_
        refine wl_pick (.tmp 21) (.tmp 28) (.const (.bool false)) true (.bool false) (fun _ => rfl) rfl rfl rfl ?_
        refine w_nil ?_
        refine xn_then ?_
        refine w_condF rfl ?_
        refine w_skip ?_
        refine xn_blk ?_
        refine xn_then ?_
        refine w_reg ?_
        refine wl_bin (fun x y => do eqGuard .add 3 (.tmp 11) (.const (.int .i64 (1))) x y; binOp .add 3 x y) (.tmp 11) (.const (.int .i64 (1))) (.int .i64 ((i : Nat) : Int)) (.int .i64 (1)) (.int .i64 ((i + 1 : Nat) : Int)) (fun _ => rfl) e40_i rfl (add1r (k := i) (by omega) _ _ _) rfl ?_
        refine wl_mv (.tmp 31) (.int .i64 ((i + 1 : Nat) : Int)) (fun _ => rfl) rfl rfl ?_
        refine w_nil ?_
        exact xn_loop (L.length - (i + 1)) (by omega) ⟨i + 1, rfl, by omega, e40_0, e40_1, e40_2, e40_10, rfl, fi_step (p := (fun y : S5 => decide (y.pr = s) && decide (y.nm = nm))) hT hy (by show (decide (y.pr = s) && decide (y.nm = nm)) = false; rw [hf30, hf31]; rfl), M⟩
    | false =>
      have hf30p := of_decide_eq_false hf30
      refine wl_bin (fun x y => do eqGuard .eql 3 (.tmp 18) (.tmp 19) x y; binOp .eql 3 x y) (.tmp 18) (.tmp 19) (.int .i64 (y.pr)) (.int .i64 (s)) (.bool false) (fun _ => rfl) rfl rfl (eq3 hf30 _ _ _) rfl ?_
      refine wl_mv (.tmp 20) (.bool false) (fun _ => rfl) rfl rfl ?_
      refine wl_skip rfl ?_
      refine wl_skip rfl ?_
      refine wl_skip rfl ?_
      refine wl_skip rfl ?_
      refine wl_skip rfl ?_
      refine wl_skip rfl ?_
      refine wl_skip rfl ?_
      refine wl_pick (.tmp 21) (.tmp 28) (.const (.bool false)) false (.bool false) (fun _ => rfl) rfl rfl rfl ?_
      refine w_nil ?_
      refine xn_then ?_
      refine w_condF rfl ?_
      refine w_skip ?_
      refine xn_blk ?_
      refine xn_then ?_
      refine w_reg ?_
      refine wl_bin (fun x y => do eqGuard .add 3 (.tmp 11) (.const (.int .i64 (1))) x y; binOp .add 3 x y) (.tmp 11) (.const (.int .i64 (1))) (.int .i64 ((i : Nat) : Int)) (.int .i64 (1)) (.int .i64 ((i + 1 : Nat) : Int)) (fun _ => rfl) e40_i rfl (add1r (k := i) (by omega) _ _ _) rfl ?_
      refine wl_mv (.tmp 31) (.int .i64 ((i + 1 : Nat) : Int)) (fun _ => rfl) rfl rfl ?_
      refine w_nil ?_
      exact xn_loop (L.length - (i + 1)) (by omega) ⟨i + 1, rfl, by omega, e40_0, e40_1, e40_2, e40_10, rfl, fi_step (p := (fun y : S5 => decide (y.pr = s) && decide (y.nm = nm))) hT hy (by show (decide (y.pr = s) && decide (y.nm = nm)) = false; rw [hf30]; rfl), M⟩
  · skip
    have hid : decide (i < L.length) = false := decide_eq_false hil
    have hie : i = L.length := by omega
    refine w_seq ?_
    refine w_reg ?_
    refine wl_bin (fun x y => do eqGuard .lss 3 (.tmp 11) (.tmp 10) x y; binOp .lss 3 x y) (.tmp 11) (.tmp 10) (.int .i64 ((i : Nat) : Int)) (.int .i64 ((L.length : Nat) : Int)) (.bool false) (fun _ => rfl) e40_i e40_10 (ltN hid _ _ _) rfl ?_
    refine w_nil ?_
    refine xn_then ?_
    refine w_seq ?_
    refine w_condF rfl ?_
    refine w_exit ?_
    refine xx_then ?_
    refine xx_then ?_
    refine xx_blk ?_
    refine xn_then ?_
    refine w_seq ?_
    refine w_reg ?_
    refine wl_mv (.const (.int .i64 (0))) (.int .i64 (0)) (fun _ => rfl) rfl rfl ?_
    refine wl_mv (.const (.bool false)) (.bool false) (fun _ => rfl) rfl rfl ?_
    refine w_nil ?_
    refine xn_then ?_
    refine w_ret ?_
    exact w_ret2 _ _ (.int .i64 (0)) (.bool false) rfl rfl rfl ⟨by rw [fi_end hT hie]; rfl, M⟩
end Go.Proofs.YtepfokoepibkcaaGreat

