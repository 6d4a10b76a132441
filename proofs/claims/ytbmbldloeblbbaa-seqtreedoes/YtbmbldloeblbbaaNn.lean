/-
  SeqtreeNone: the law's walk.
-/
import Derived.Test.YtbmbldloeblbbaaUn
import Derived.Test.YtbmbldloeblbbaaBg
namespace Go.Proofs.Ytbmbldloeblbbaa
open Go.RowKit
theorem eqL {a b : Int} {r : Bool} (h : decide (a = b) = r) (x y : Operand) (w : World) : (do eqGuard .eql 2 x y (.int .i64 a) (.int .i64 b); binOp .eql 2 (.int .i64 a) (.int .i64 b)).run Try.prog w = .ok (.bool r) w := by
  have e : (do eqGuard .eql 2 x y (.int .i64 a) (.int .i64 b); binOp .eql 2 (.int .i64 a) (.int .i64 b)).run Try.prog w = .ok (.bool (a == b)) w := by kernel_rfl
  rw [e, ← h]; rfl
theorem sz31' : (Try.prog.info? 31).map (·.size) = some 3 := by kernel_rfl
theorem bs60 (k : Nat) (w : World) : (Instr.buildSlice 60 2 #[(0, .pointer none), (1, pt k 0)]).run Try.prog w = .ok (.slice (some ⟨w.heap.size, 0, none⟩) 2 2) (w.alloc (.cells #[.pointer none, pt k 0] 23)) := by kernel_rfl
theorem len60 (ρ : Operand → Value) (x : Operand) (p : Option Addr) (m c : Nat) (hx : ρ x = .slice p m c) (dst : Option Tmp) (type : TypeId) (pos : String) (after : Array Edge) (guard : Option (Nat × Bool)) (w : World) : (execOp ρ { dst, op := .call { callee := .builtin .len, args := #[x], argTypes := #[60] }, type, pos, after, guard }).run Try.prog w = .ok (.value (.int .i64 (m : Int))) w := by
  simp [go_sem, hx]
theorem ix60 (g j n c : Nat) (h : j < n) (w : World) : (Instr.indexAt 60 (.slice (some ⟨g, 0, none⟩) n c) (.int .i64 (j : Int))).run Try.prog w = .ok (pt g j) w := by
  have e : (Instr.indexAt 60 (.slice (some ⟨g, 0, none⟩) n c) (.int .i64 (j : Int))).run Try.prog w = .ok (.pointer (some ((⟨g, 0, none⟩ : Addr).add (j * 1)))) w := by simp [go_sem, h]
  rw [e, Addr.add_mid, Nat.mul_one, Nat.zero_add]
theorem nilp (x y : Operand) (w : World) : (do eqGuard .neq 23 x y (.pointer none) (.pointer none); binOp .neq 23 (.pointer none) (.pointer none)).run Try.prog w = .ok (.bool false) w := by kernel_rfl
section
variable {o : Oper} {n : Nat} {l : List (Nat × Value)} {w : World} {ops : Array Oper} {rest : List Oper} {Q : Exit → Act → World → Prop}
theorem wl_bs60 (x y : Operand) (k : Nat) (ho : o.op = .buildSlice 60 2 #[(0, x), (1, y)]) (hx : evl n l x = .pointer none) (hy : evl n l y = pt k 0) (hg : wnt n l ops o = true)
    (hk : ∀ g w', w.heap.size = g → w'.heap.size = g + 1 → Mo w w' → At w' g [.pointer none, pt k 0] → WL Try.prog ops Q rest n (ext l o.dst (.slice (some ⟨g, 0, none⟩) 2 2)) w') : WL Try.prog ops Q (o :: rest) n l w :=
  ⟨l_step hg (o_val (.slice (some ⟨w.heap.size, 0, none⟩) 2 2) (w' := w.alloc (.cells #[.pointer none, pt k 0] 23)) (by
    have h := bs60 k w
    simp [execOp, ho, hx, hy, h]) (hk _ _ rfl (by simp) ((Mo.refl _).alloc _ _) (At.new w #[.pointer none, pt k 0] 23)).out)⟩
end
theorem all_g {n0 : Nat} {ks : List Nat} {w : World} {t mb : Nat} {tr : T} {lk : Int} (h : GT n0 ks w t mb tr lk) : Calls Try.prog 17 #[pt t 0] w fun e w' => ∃ kb p cap, e = .returned (.func (.func 32) #[] #[pt kb 0]) ∧ At w' kb [.slice p tr.ids.length cap] ∧ SI w' p tr.ids ∧ (∀ k, pb p k → w.heap.size ≤ k ∧ k < w'.heap.size) ∧ w.heap.size ≤ kb ∧ Mo w w' := by
  obtain ⟨_, _, D, hF, _⟩ := h
  exact all_n hF
namespace R
theorem told_0 {w : World} {kb : Nat} (hA : At w kb [.slice none 0 0]) : Calls Try.prog 16 #[.func (.func 32) #[] #[pt kb 0], .slice none 0 0] w fun e w' => e = .returned (.bool true) ∧ Mo w w' :=
  told_n (p := none) (pw := none) (cap := 0) (capw := 0) (L := []) (Lw := []) hA (fun _ _ e => by cases e) (fun k ⟨_, e⟩ => by cases e) (fun _ _ e => by cases e) (fun k ⟨_, e⟩ => by cases e) (by decide)
section
variable {w : World}
theorem none_n (o : Op3) : Calls Try.prog 7 #[.agg #[.int .i64 o.d, .int .i64 o.a, .int .i64 o.i]] w fun e w' => e = .returned (.bool true) ∧ Mo w w' := by
  refine calls_of (m := 9) (w_enter 135 Try.func7 Try.ntmps7 rfl rfl ?_)
  have M : Mo w w := Mo.refl _
  refine w_seq ?_
  refine w_reg ?_
  refine wl_box 31 (.tmp 0) (.agg #[.int .i64 (o.d), .int .i64 (o.a), .int .i64 (o.i)]) (#[.int .i64 (o.d), .int .i64 (o.a), .int .i64 (o.i)]) rfl rfl (fun _ => by kernel_rfl) rfl ?_
  intro k1 w1 hk hz hq Q1
  have N_k1 : w.heap.size ≤ k1 := by have := M.size; omega
  replace M := M.trans hq
  clear hk hz hq
  refine wl_alloc 4 #[.bool false] rfl (fun _ => by kernel_rfl) rfl ?_
  intro k2 w2 hk hz hq Q2
  have ne_k1_k2 : k1 ≠ k2 := by have := Q1.lt; omega
  have N_k2 : w.heap.size ≤ k2 := by have := M.size; omega
  replace Q1 := Q1.mo hq
  replace M := M.trans hq
  clear hk hz hq
  refine w_nil ?_
  refine xn_then ?_
  refine w_seq ?_
  refine w_seq ?_
  refine w_reg ?_
  refine wl_call 9 [] _ [] (.bool true) rfl rfl (fun _ _ => by kernel_rfl) (begun_n _) rfl ?_
  intro w3 hq
  replace Q1 := Q1.mo hq
  replace Q2 := Q2.mo hq
  replace M := M.trans hq
  clear hq
  refine wl_un (fun v => Op.unary .not v) (.tmp 16) (.bool true) (.bool false) (fun _ => rfl) rfl (by kernel_rfl) rfl ?_
  refine w_nil ?_
  refine xn_then ?_
  refine w_condF rfl ?_
  refine w_skip ?_
  refine xn_then ?_
  refine w_seq ?_
  refine w_seq ?_
  refine w_reg ?_
  refine wl_build 59 [] [] (.agg #[pp none, .map none, .int .i64 0]) rfl rfl (by kernel_rfl) rfl ?_
  refine wl_box 59 (.tmp 18) (.agg #[pp none, .map none, .int .i64 0]) (#[pp none, .map none, .int .i64 0]) rfl rfl (fun _ => by kernel_rfl) rfl ?_
  intro k3 w4 hk hz hq Q3
  have ne_k1_k3 : k1 ≠ k3 := by have := Q1.lt; omega
  have ne_k2_k3 : k2 ≠ k3 := by have := Q2.lt; omega
  have N_k3 : w.heap.size ≤ k3 := by have := M.size; omega
  replace Q1 := Q1.mo hq
  replace Q2 := Q2.mo hq
  replace M := M.trans hq
  clear hk hz hq
  refine wl_bs60 (.const (.pointer none)) (.tmp 19) k3 rfl rfl rfl rfl ?_
  intro ks w5 hk hz hq Q4
  replace Q1 := Q1.mo hq
  replace Q2 := Q2.mo hq
  replace Q3 := Q3.mo hq
  replace M := M.trans hq
  clear hk hz hq
  refine wl_val (.int .i64 (((2 : Nat) : Int))) (len60 _ _ _ _ _ (by exact rfl) _ _ _ _ _ _) rfl ?_
  refine wl_mv (.const (.int .i64 (0))) (.int .i64 (0)) (fun _ => rfl) rfl rfl ?_
  refine w_nil ?_
  refine xn_then ?_
  refine w_block ?_
  refine w_loop (fun m l wc => ∃ i : Nat, m + i = 2 ∧ look l 1 = pt k1 0 ∧ look l 2 = pt k2 0 ∧ look l 20 = .slice (some ⟨ks, 0, none⟩) 2 2 ∧ look l 21 = .int .i64 ((2 : Nat) : Int) ∧ look l 22 = .int .i64 (i : Int) ∧ At wc k1 [.int .i64 (o.d), .int .i64 (o.a), .int .i64 (o.i)] ∧ At wc k2 [.bool false] ∧ At wc k3 [pp none, .map none, .int .i64 0] ∧ At wc ks [.pointer none, pt k3 0] ∧ Mo w wc) 2 ⟨0, rfl, rfl, rfl, rfl, rfl, rfl, Q1, Q2, Q3, Q4, M⟩ ?_
  clear M Q1 Q2 Q3 Q4
  rintro m l wc ⟨i, hm, g1, g2, g20, g21, g22, Q1, Q2, Q3, Q4, M⟩
  obtain ⟨v9, hv9, hU⟩ : ∃ v9, (i < 2 → ([.pointer none, pt k3 0] : List Value)[i]? = some v9) ∧ UT wc v9 := by
    match i with
    | 0 => exact ⟨_, fun _ => rfl, Or.inl rfl⟩
    | 1 => exact ⟨_, fun _ => rfl, Or.inr ⟨k3, rfl, Q3⟩⟩
    | j + 2 => exact ⟨.pointer none, fun h => absurd h (by omega), Or.inl rfl⟩
  refine w_seq ?_
  cases hf0 : decide (i < 2) with
  | true =>
    have hf0p := of_decide_eq_true hf0
    refine w_reg ?_
    refine wl_bin (fun x y => do eqGuard .lss 3 (.tmp 22) (.tmp 21) x y; binOp .lss 3 x y) (.tmp 22) (.tmp 21) (.int .i64 ((i : Nat) : Int)) (.int .i64 (((2 : Nat) : Int))) (.bool true) (fun _ => rfl) g22 g21 (ltN hf0 _ _ _) rfl ?_
    refine w_nil ?_
    refine xn_then ?_
    refine w_seq ?_
    refine w_condT rfl ?_
    refine w_skip ?_
    refine xn_then ?_
    refine w_seq ?_
    refine w_block ?_
    refine w_seq ?_
    refine w_reg ?_
    refine wl_bin (fun x y => Instr.indexAt 60 x y) (.tmp 20) (.tmp 22) (.slice (some ⟨ks, 0, none⟩) 2 2) (.int .i64 ((i : Nat) : Int)) (pt ks i) (fun _ => rfl) g20 g22 (ix60 ks i 2 2 (by omega) _) rfl ?_
    refine wl_load 23 (.tmp 24) (pt ks i) (v9) rfl rfl (run_one Q4 23 i (hv9 (by omega)) Try.underlying23 rfl) rfl ?_
    refine wl_mv (.tmp 25) (v9) (fun _ => rfl) rfl rfl ?_
    refine w_nil ?_
    refine xn_then ?_
    refine w_seq ?_
    refine w_reg ?_
    refine wl_mv (.tmp 4) (v9) (fun _ => rfl) rfl rfl ?_
    refine wl_un (fun v => Instr.fieldAt 31 v 2) (.tmp 1) (pt k1 0) (pt k1 2) (fun _ => rfl) g1 (by kernel_rfl) rfl ?_
    refine wl_load 2 (.tmp 28) (pt k1 2) (.int .i64 (o.i)) rfl rfl (run_one Q1 2 2 rfl Try.underlying2 rfl) rfl ?_
    refine wl_call 20 [(.tmp 27), (.tmp 29)] _ [v9, .int .i64 (o.i)] (.tuple #[.int .i64 (0), .int .i64 (2)]) rfl rfl (fun _ _ => by kernel_rfl) (delete_u hU (o.i)) rfl ?_
    intro w11 hq
    replace Q1 := Q1.mo hq
    replace Q2 := Q2.mo hq
    replace Q3 := Q3.mo hq
    replace Q4 := Q4.mo hq
    replace hU := hU.mo hq
    replace M := M.trans hq
    clear hq
    refine wl_mv (.tmp 30) (.tuple #[.int .i64 (0), .int .i64 (2)]) (fun _ => rfl) rfl rfl ?_
    refine wl_un (fun v => Instr.extract v 0) (.tmp 26) (.tuple #[.int .i64 (0), .int .i64 (2)]) (.int .i64 (0)) (fun _ => rfl) rfl (by kernel_rfl) rfl ?_
    refine wl_un (fun v => Instr.extract v 1) (.tmp 26) (.tuple #[.int .i64 (0), .int .i64 (2)]) (.int .i64 (2)) (fun _ => rfl) rfl (by kernel_rfl) rfl ?_
    refine wl_mv (.tmp 31) (.int .i64 (0)) (fun _ => rfl) rfl rfl ?_
    refine wl_mv (.tmp 32) (.int .i64 (2)) (fun _ => rfl) rfl rfl ?_
    refine w_nil ?_
    refine xn_then ?_
    refine w_seq ?_
    refine w_reg ?_
    refine wl_mv (.tmp 4) (v9) (fun _ => rfl) rfl rfl ?_
    refine wl_un (fun v => Instr.fieldAt 31 v 2) (.tmp 1) (pt k1 0) (pt k1 2) (fun _ => rfl) g1 (by kernel_rfl) rfl ?_
    refine wl_load 2 (.tmp 35) (pt k1 2) (.int .i64 (o.i)) rfl rfl (run_one Q1 2 2 rfl Try.underlying2 rfl) rfl ?_
    refine wl_un (fun v => Instr.fieldAt 31 v 1) (.tmp 1) (pt k1 0) (pt k1 1) (fun _ => rfl) g1 (by kernel_rfl) rfl ?_
    refine wl_load 3 (.tmp 37) (pt k1 1) (.int .i64 (o.a)) rfl rfl (run_one Q1 3 1 rfl Try.underlying3 rfl) rfl ?_
    refine wl_call 21 [(.tmp 34), (.tmp 36), (.tmp 38)] _ [v9, .int .i64 (o.i), .int .i64 (o.a)] (.tuple #[.int .i64 (0), .int .i64 (2)]) rfl rfl (fun _ _ => by kernel_rfl) (move_u hU (o.i) (o.a)) rfl ?_
    intro w12 hq
    replace Q1 := Q1.mo hq
    replace Q2 := Q2.mo hq
    replace Q3 := Q3.mo hq
    replace Q4 := Q4.mo hq
    replace hU := hU.mo hq
    replace M := M.trans hq
    clear hq
    refine wl_mv (.tmp 39) (.tuple #[.int .i64 (0), .int .i64 (2)]) (fun _ => rfl) rfl rfl ?_
    refine wl_un (fun v => Instr.extract v 0) (.tmp 33) (.tuple #[.int .i64 (0), .int .i64 (2)]) (.int .i64 (0)) (fun _ => rfl) rfl (by kernel_rfl) rfl ?_
    refine wl_un (fun v => Instr.extract v 1) (.tmp 33) (.tuple #[.int .i64 (0), .int .i64 (2)]) (.int .i64 (2)) (fun _ => rfl) rfl (by kernel_rfl) rfl ?_
    refine wl_mv (.tmp 40) (.int .i64 (0)) (fun _ => rfl) rfl rfl ?_
    refine wl_mv (.tmp 41) (.int .i64 (2)) (fun _ => rfl) rfl rfl ?_
    refine w_nil ?_
    refine xn_then ?_
    refine w_seq ?_
    refine w_reg ?_
    refine wl_mv (.tmp 4) (v9) (fun _ => rfl) rfl rfl ?_
    refine wl_un (fun v => Instr.fieldAt 31 v 1) (.tmp 1) (pt k1 0) (pt k1 1) (fun _ => rfl) g1 (by kernel_rfl) rfl ?_
    refine wl_load 3 (.tmp 44) (pt k1 1) (.int .i64 (o.a)) rfl rfl (run_one Q1 3 1 rfl Try.underlying3 rfl) rfl ?_
    refine wl_call 11 [(.tmp 43), (.tmp 45)] _ [v9, .int .i64 (o.a)] (.tuple #[.int .i64 (0), .bool false]) rfl rfl (fun _ _ => by kernel_rfl) (at_u hU (o.a)) rfl ?_
    intro w13 hq
    replace Q1 := Q1.mo hq
    replace Q2 := Q2.mo hq
    replace Q3 := Q3.mo hq
    replace Q4 := Q4.mo hq
    replace hU := hU.mo hq
    replace M := M.trans hq
    clear hq
    refine wl_mv (.tmp 46) (.tuple #[.int .i64 (0), .bool false]) (fun _ => rfl) rfl rfl ?_
    refine wl_un (fun v => Instr.extract v 0) (.tmp 42) (.tuple #[.int .i64 (0), .bool false]) (.int .i64 (0)) (fun _ => rfl) rfl (by kernel_rfl) rfl ?_
    refine wl_un (fun v => Instr.extract v 1) (.tmp 42) (.tuple #[.int .i64 (0), .bool false]) (.bool false) (fun _ => rfl) rfl (by kernel_rfl) rfl ?_
    refine wl_mv (.tmp 47) (.int .i64 (0)) (fun _ => rfl) rfl rfl ?_
    refine wl_mv (.tmp 48) (.bool false) (fun _ => rfl) rfl rfl ?_
    refine w_nil ?_
    refine xn_then ?_
    refine w_seq ?_
    refine w_reg ?_
    refine wl_mv (.tmp 4) (v9) (fun _ => rfl) rfl rfl ?_
    refine wl_un (fun v => Instr.fieldAt 31 v 2) (.tmp 1) (pt k1 0) (pt k1 2) (fun _ => rfl) g1 (by kernel_rfl) rfl ?_
    refine wl_load 2 (.tmp 51) (pt k1 2) (.int .i64 (o.i)) rfl rfl (run_one Q1 2 2 rfl Try.underlying2 rfl) rfl ?_
    refine wl_call 13 [(.tmp 50), (.tmp 52)] _ [v9, .int .i64 (o.i)] (.tuple #[.int .i64 (0), .bool false]) rfl rfl (fun _ _ => by kernel_rfl) (index_u hU (o.i)) rfl ?_
    intro w14 hq
    replace Q1 := Q1.mo hq
    replace Q2 := Q2.mo hq
    replace Q3 := Q3.mo hq
    replace Q4 := Q4.mo hq
    replace hU := hU.mo hq
    replace M := M.trans hq
    clear hq
    refine wl_mv (.tmp 53) (.tuple #[.int .i64 (0), .bool false]) (fun _ => rfl) rfl rfl ?_
    refine wl_un (fun v => Instr.extract v 0) (.tmp 49) (.tuple #[.int .i64 (0), .bool false]) (.int .i64 (0)) (fun _ => rfl) rfl (by kernel_rfl) rfl ?_
    refine wl_un (fun v => Instr.extract v 1) (.tmp 49) (.tuple #[.int .i64 (0), .bool false]) (.bool false) (fun _ => rfl) rfl (by kernel_rfl) rfl ?_
    refine wl_mv (.tmp 54) (.int .i64 (0)) (fun _ => rfl) rfl rfl ?_
    refine wl_mv (.tmp 55) (.bool false) (fun _ => rfl) rfl rfl ?_
    refine w_nil ?_
    refine xn_then ?_
    refine w_seq ?_
    refine w_reg ?_
    refine wl_mv (.tmp 4) (v9) (fun _ => rfl) rfl rfl ?_
    refine wl_un (fun v => Instr.fieldAt 31 v 1) (.tmp 1) (pt k1 0) (pt k1 1) (fun _ => rfl) g1 (by kernel_rfl) rfl ?_
    refine wl_load 3 (.tmp 57) (pt k1 1) (.int .i64 (o.a)) rfl rfl (run_one Q1 3 1 rfl Try.underlying3 rfl) rfl ?_
    refine wl_un (fun v => Instr.fieldAt 31 v 2) (.tmp 1) (pt k1 0) (pt k1 2) (fun _ => rfl) g1 (by kernel_rfl) rfl ?_
    refine wl_load 2 (.tmp 59) (pt k1 2) (.int .i64 (o.i)) rfl rfl (run_one Q1 2 2 rfl Try.underlying2 rfl) rfl ?_
    refine wl_call 19 [(.tmp 56), (.tmp 58), (.tmp 60)] _ [v9, .int .i64 (o.a), .int .i64 (o.i)] (.int .i64 (2)) rfl rfl (fun _ _ => by kernel_rfl) (insert_u hU (o.a) (o.i)) rfl ?_
    intro w15 hq
    replace Q1 := Q1.mo hq
    replace Q2 := Q2.mo hq
    replace Q3 := Q3.mo hq
    replace Q4 := Q4.mo hq
    replace hU := hU.mo hq
    replace M := M.trans hq
    clear hq
    refine wl_bin (fun x y => do eqGuard .neq 46 (.tmp 61) (.const (.int .i64 (2))) x y; binOp .neq 46 x y) (.tmp 61) (.const (.int .i64 (2))) (.int .i64 (2)) (.int .i64 (2)) (.bool false) (fun _ => rfl) rfl rfl (by kernel_rfl) rfl ?_
    refine wl_mv (.tmp 62) (.bool false) (fun _ => rfl) rfl rfl ?_
    refine wl_mv (.tmp 5) (.int .i64 (0)) (fun _ => rfl) rfl rfl ?_
    refine wl_mv (.tmp 7) (.int .i64 (0)) (fun _ => rfl) rfl rfl ?_
    refine wl_bin (fun x y => do eqGuard .add 3 (.tmp 64) (.tmp 65) x y; binOp .add 3 x y) (.tmp 64) (.tmp 65) (.int .i64 (0)) (.int .i64 (0)) (.int .i64 (0)) (fun _ => rfl) rfl rfl (by kernel_rfl) rfl ?_
    refine wl_bin (fun x y => do eqGuard .neq 3 (.tmp 66) (.const (.int .i64 (0))) x y; binOp .neq 3 x y) (.tmp 66) (.const (.int .i64 (0))) (.int .i64 (0)) (.int .i64 (0)) (.bool false) (fun _ => rfl) rfl rfl (by kernel_rfl) rfl ?_
    refine wl_pick (.tmp 63) (.const (.bool true)) (.tmp 67) false (.bool false) (fun _ => rfl) rfl rfl rfl ?_
    refine wl_mv (.tmp 68) (.bool false) (fun _ => rfl) rfl rfl ?_
    refine wl_mv (.tmp 6) (.int .i64 (2)) (fun _ => rfl) rfl rfl ?_
    refine wl_bin (fun x y => do eqGuard .neq 46 (.tmp 70) (.const (.int .i64 (2))) x y; binOp .neq 46 x y) (.tmp 70) (.const (.int .i64 (2))) (.int .i64 (2)) (.int .i64 (2)) (.bool false) (fun _ => rfl) rfl rfl (by kernel_rfl) rfl ?_
    refine wl_pick (.tmp 69) (.const (.bool true)) (.tmp 71) false (.bool false) (fun _ => rfl) rfl rfl rfl ?_
    refine wl_mv (.tmp 72) (.bool false) (fun _ => rfl) rfl rfl ?_
    refine wl_mv (.tmp 8) (.int .i64 (2)) (fun _ => rfl) rfl rfl ?_
    refine wl_bin (fun x y => do eqGuard .neq 46 (.tmp 74) (.const (.int .i64 (2))) x y; binOp .neq 46 x y) (.tmp 74) (.const (.int .i64 (2))) (.int .i64 (2)) (.int .i64 (2)) (.bool false) (fun _ => rfl) rfl rfl (by kernel_rfl) rfl ?_
    refine wl_pick (.tmp 73) (.const (.bool true)) (.tmp 75) false (.bool false) (fun _ => rfl) rfl rfl rfl ?_
    refine wl_mv (.tmp 76) (.bool false) (fun _ => rfl) rfl rfl ?_
    refine wl_mv (.tmp 9) (.int .i64 (0)) (fun _ => rfl) rfl rfl ?_
    refine wl_bin (fun x y => do eqGuard .neq 2 (.tmp 78) (.const (.int .i64 (0))) x y; binOp .neq 2 x y) (.tmp 78) (.const (.int .i64 (0))) (.int .i64 (0)) (.int .i64 (0)) (.bool false) (fun _ => rfl) rfl rfl (by kernel_rfl) rfl ?_
    refine wl_pick (.tmp 77) (.const (.bool true)) (.tmp 79) false (.bool false) (fun _ => rfl) rfl rfl rfl ?_
    refine wl_mv (.tmp 80) (.bool false) (fun _ => rfl) rfl rfl ?_
    refine wl_mv (.tmp 10) (.bool false) (fun _ => rfl) rfl rfl ?_
    refine wl_pick (.tmp 81) (.const (.bool true)) (.tmp 82) false (.bool false) (fun _ => rfl) rfl rfl rfl ?_
    refine wl_mv (.tmp 83) (.bool false) (fun _ => rfl) rfl rfl ?_
    refine wl_mv (.tmp 11) (.int .i64 (0)) (fun _ => rfl) rfl rfl ?_
    refine wl_bin (fun x y => do eqGuard .neq 3 (.tmp 85) (.const (.int .i64 (0))) x y; binOp .neq 3 x y) (.tmp 85) (.const (.int .i64 (0))) (.int .i64 (0)) (.int .i64 (0)) (.bool false) (fun _ => rfl) rfl rfl (by kernel_rfl) rfl ?_
    refine wl_pick (.tmp 84) (.const (.bool true)) (.tmp 86) false (.bool false) (fun _ => rfl) rfl rfl rfl ?_
    refine wl_mv (.tmp 87) (.bool false) (fun _ => rfl) rfl rfl ?_
    refine wl_mv (.tmp 12) (.bool false) (fun _ => rfl) rfl rfl ?_
    refine wl_pick (.tmp 88) (.const (.bool true)) (.tmp 89) false (.bool false) (fun _ => rfl) rfl rfl rfl ?_
    refine wl_mv (.tmp 90) (.bool false) (fun _ => rfl) rfl rfl ?_
    refine wl_mv (.tmp 4) (v9) (fun _ => rfl) rfl rfl ?_
    refine wl_callx 17 [(.tmp 92)] _ [v9] rfl rfl (fun _ _ => by kernel_rfl) (all_u hU) rfl ?_
    rintro _ w16 ⟨kb, rfl, QB, hq⟩
    refine ⟨_, rfl, ?_⟩
    replace Q1 := Q1.mo hq
    replace Q2 := Q2.mo hq
    replace Q3 := Q3.mo hq
    replace Q4 := Q4.mo hq
    replace hU := hU.mo hq
    replace M := M.trans hq
    clear hq
    refine wl_call 16 [(.tmp 93), (.const (.slice none 0 0))] _ [.func (.func 32) #[] #[pt kb 0], .slice none 0 0] (.bool true) rfl rfl (fun _ _ => by kernel_rfl) (told_0 QB) rfl ?_
    intro w17 hq
    replace Q1 := Q1.mo hq
    replace Q2 := Q2.mo hq
    replace Q3 := Q3.mo hq
    replace Q4 := Q4.mo hq
    replace hU := hU.mo hq
    replace M := M.trans hq
    clear hq
    refine wl_un (fun v => Op.unary .not v) (.tmp 94) (.bool true) (.bool false) (fun _ => rfl) rfl (by kernel_rfl) rfl ?_
    refine wl_pick (.tmp 91) (.const (.bool true)) (.tmp 95) false (.bool false) (fun _ => rfl) rfl rfl rfl ?_
    refine wl_mv (.tmp 96) (.bool false) (fun _ => rfl) rfl rfl ?_
    refine wl_mv (.tmp 4) (v9) (fun _ => rfl) rfl rfl ?_
    refine wl_call 15 [(.tmp 98)] _ [v9] (.int .i64 (0)) rfl rfl (fun _ _ => by kernel_rfl) (len_u hU) rfl ?_
    intro w18 hq
    replace Q1 := Q1.mo hq
    replace Q2 := Q2.mo hq
    replace Q3 := Q3.mo hq
    replace Q4 := Q4.mo hq
    replace hU := hU.mo hq
    replace M := M.trans hq
    clear hq
    refine wl_mv (.tmp 4) (v9) (fun _ => rfl) rfl rfl ?_
    refine wl_call 22 [(.tmp 100)] _ [v9] (.int .i64 (0)) rfl rfl (fun _ _ => by kernel_rfl) (depth_u hU) rfl ?_
    intro w19 hq
    replace Q1 := Q1.mo hq
    replace Q2 := Q2.mo hq
    replace Q3 := Q3.mo hq
    replace Q4 := Q4.mo hq
    replace hU := hU.mo hq
    replace M := M.trans hq
    clear hq
    refine wl_bin (fun x y => do eqGuard .add 3 (.tmp 99) (.tmp 101) x y; binOp .add 3 x y) (.tmp 99) (.tmp 101) (.int .i64 (0)) (.int .i64 (0)) (.int .i64 (0)) (fun _ => rfl) rfl rfl (by kernel_rfl) rfl ?_
    refine wl_bin (fun x y => do eqGuard .neq 3 (.tmp 102) (.const (.int .i64 (0))) x y; binOp .neq 3 x y) (.tmp 102) (.const (.int .i64 (0))) (.int .i64 (0)) (.int .i64 (0)) (.bool false) (fun _ => rfl) rfl rfl (by kernel_rfl) rfl ?_
    refine wl_pick (.tmp 97) (.const (.bool true)) (.tmp 103) false (.bool false) (fun _ => rfl) rfl rfl rfl ?_
    refine wl_mv (.tmp 104) (.bool false) (fun _ => rfl) rfl rfl ?_
    refine wl_mv (.tmp 4) (v9) (fun _ => rfl) rfl rfl ?_
    refine wl_call 18 [(.tmp 106)] _ [v9] (.int .i64 (0)) rfl rfl (fun _ _ => by kernel_rfl) (looked_u hU) rfl ?_
    intro w20 hq
    replace Q1 := Q1.mo hq
    replace Q2 := Q2.mo hq
    replace Q3 := Q3.mo hq
    replace Q4 := Q4.mo hq
    replace hU := hU.mo hq
    replace M := M.trans hq
    clear hq
    refine wl_bin (fun x y => do eqGuard .neq 2 (.tmp 107) (.const (.int .i64 (0))) x y; binOp .neq 2 x y) (.tmp 107) (.const (.int .i64 (0))) (.int .i64 (0)) (.int .i64 (0)) (.bool false) (fun _ => rfl) rfl rfl (by kernel_rfl) rfl ?_
    refine wl_pick (.tmp 105) (.const (.bool true)) (.tmp 108) false (.bool false) (fun _ => rfl) rfl rfl rfl ?_
    refine wl_mv (.tmp 109) (.bool false) (fun _ => rfl) rfl rfl ?_
    refine wl_mv (.tmp 4) (v9) (fun _ => rfl) rfl rfl ?_
    refine wl_call 24 [(.tmp 111)] _ [v9] (pp none) rfl rfl (fun _ _ => by kernel_rfl) (clone_u hU) rfl ?_
    intro w21 hq
    replace Q1 := Q1.mo hq
    replace Q2 := Q2.mo hq
    replace Q3 := Q3.mo hq
    replace Q4 := Q4.mo hq
    replace hU := hU.mo hq
    replace M := M.trans hq
    clear hq
    refine wl_bin (fun x y => do eqGuard .neq 23 (.tmp 112) (.const (.pointer none)) x y; binOp .neq 23 x y) (.tmp 112) (.const (.pointer none)) (pp none) (pp none) (.bool false) (fun _ => rfl) rfl rfl (nilp _ _ _) rfl ?_
    refine wl_pick (.tmp 110) (.const (.bool true)) (.tmp 113) false (.bool false) (fun _ => rfl) rfl rfl rfl ?_
    refine w_nil ?_
    refine xn_then ?_
    refine w_condF rfl ?_
    refine w_skip ?_
    refine xn_blk ?_
    refine xn_then ?_
    refine w_reg ?_
    refine wl_bin (fun x y => do eqGuard .add 3 (.tmp 22) (.const (.int .i64 (1))) x y; binOp .add 3 x y) (.tmp 22) (.const (.int .i64 (1))) (.int .i64 ((i : Nat) : Int)) (.int .i64 (1)) (.int .i64 ((i + 1 : Nat) : Int)) (fun _ => rfl) g22 rfl (add1r (by omega) _ _ _) rfl ?_
    refine wl_mv (.tmp 115) (.int .i64 ((i + 1 : Nat) : Int)) (fun _ => rfl) rfl rfl ?_
    refine w_nil ?_
    exact xn_loop (m - 1) (by omega) ⟨i + 1, by omega, g1, g2, g20, g21, rfl, Q1, Q2, Q3, Q4, M⟩
  | false =>
    have hf0p := of_decide_eq_false hf0
    refine w_reg ?_
    refine wl_bin (fun x y => do eqGuard .lss 3 (.tmp 22) (.tmp 21) x y; binOp .lss 3 x y) (.tmp 22) (.tmp 21) (.int .i64 ((i : Nat) : Int)) (.int .i64 (((2 : Nat) : Int))) (.bool false) (fun _ => rfl) g22 g21 (ltN hf0 _ _ _) rfl ?_
    refine w_nil ?_
    refine xn_then ?_
    refine w_seq ?_
    refine w_condF rfl ?_
    refine w_exit ?_
    refine xx_then ?_
    refine xx_then ?_
    clear hU Q3 Q4 Q1
    refine xx_blk ?_
    refine xn_then ?_
    refine w_seq ?_
    refine w_reg ?_
    refine wl_callx 8 [] _ [] rfl rfl (fun _ _ => by kernel_rfl) (new_g (n0 := w.heap.size) (ks := [k2]) _ M.size (fun k e => by rw [List.mem_singleton.1 e]; exact Q2.lt)) rfl ?_
    rintro _ w11 ⟨t, mb, rfl, hG, hq⟩
    refine ⟨_, rfl, ?_⟩
    replace Q2 := Q2.mo hq
    replace M := M.trans hq
    clear hq
    refine wl_mv (.tmp 116) (pt t 0) (fun _ => rfl) rfl rfl ?_
    refine w_nil ?_
    refine xn_then ?_
    refine w_seq ?_
    refine w_seq ?_
    refine w_reg ?_
    refine wl_mv (.tmp 13) (pt t 0) (fun _ => rfl) rfl rfl ?_
    refine wl_bin (fun x y => do eqGuard .eql 23 (.tmp 117) (.const (.pointer none)) x y; binOp .eql 23 x y) (.tmp 117) (.const (.pointer none)) (pt t 0) (pp none) (.bool false) (fun _ => rfl) rfl rfl (by kernel_rfl) rfl ?_
    refine wl_mv (.tmp 118) (.bool false) (fun _ => rfl) rfl rfl ?_
    refine wl_mv (.tmp 13) (pt t 0) (fun _ => rfl) rfl rfl ?_
    refine wl_callx 19 [(.tmp 120), (.const (.int .i64 (0))), (.const (.int .i64 (5)))] _ [pt t 0, .int .i64 (0), .int .i64 (5)] rfl rfl (fun _ _ => by kernel_rfl) (insert_g hG (by show _ ∉ ([] : List Int); decide) (by decide) (by decide) (by show (0 : Int) < 1024; decide) (by decide) (by show (0 : Int) ≤ 0; decide) (by omega)) rfl ?_
    rintro _ w12 ⟨rfl, kn1, tr1, lk1, hI1, hG, hn1, hl1, hu1, hM2⟩
    refine ⟨_, rfl, ?_⟩
    have e1 := hI1.fn
    replace e1 : tr1 = .n kn1 5 1 .e .e := e1.trans (by kernel_rfl)
    subst e1
    clear hI1 hn1
    replace hu1 : lk1 ≤ 0 + 10 * ((0 : Nat) : Int) + 1 := hu1
    replace M := Wr.mo hM2 M (Nat.le_refl _)
    replace Q2 := Wr.at hM2 Q2 (by simp)
    clear hM2
    refine wl_bin (fun x y => do eqGuard .neq 46 (.tmp 121) (.const (.int .i64 (0))) x y; binOp .neq 46 x y) (.tmp 121) (.const (.int .i64 (0))) (.int .i64 (0)) (.int .i64 (0)) (.bool false) (fun _ => rfl) rfl rfl (by kernel_rfl) rfl ?_
    refine wl_pick (.tmp 119) (.const (.bool true)) (.tmp 122) false (.bool false) (fun _ => rfl) rfl rfl rfl ?_
    refine wl_mv (.tmp 123) (.bool false) (fun _ => rfl) rfl rfl ?_
    refine wl_mv (.tmp 13) (pt t 0) (fun _ => rfl) rfl rfl ?_
    refine wl_callx 19 [(.tmp 125), (.const (.int .i64 (1))), (.const (.int .i64 (6)))] _ [pt t 0, .int .i64 (1), .int .i64 (6)] rfl rfl (fun _ _ => by kernel_rfl) (insert_g hG (by show _ ∉ ([5] : List Int); decide) (by decide) (by decide) (by show (1 : Int) < 1024; decide) (by decide) (by show (1 : Int) ≤ 1; decide) (by omega)) rfl ?_
    rintro _ w13 ⟨rfl, kn2, tr2, lk2, hI2, hG, hn2, hl2, hu2, hM2⟩
    refine ⟨_, rfl, ?_⟩
    have e2 := hI2.fn
    replace e2 : tr2 = .n kn1 5 2 .e (.n kn2 6 1 .e .e) := e2.trans (by kernel_rfl)
    subst e2
    clear hI2 hn2
    replace hu2 : lk2 ≤ lk1 + 10 * ((1 : Nat) : Int) + 1 := hu2
    replace M := Wr.mo hM2 M (Nat.le_refl _)
    replace Q2 := Wr.at hM2 Q2 (by simp)
    clear hM2
    refine wl_bin (fun x y => do eqGuard .neq 46 (.tmp 126) (.const (.int .i64 (0))) x y; binOp .neq 46 x y) (.tmp 126) (.const (.int .i64 (0))) (.int .i64 (0)) (.int .i64 (0)) (.bool false) (fun _ => rfl) rfl rfl (by kernel_rfl) rfl ?_
    refine wl_pick (.tmp 124) (.const (.bool true)) (.tmp 127) false (.bool false) (fun _ => rfl) rfl rfl rfl ?_
    refine w_nil ?_
    refine xn_then ?_
    refine w_condF rfl ?_
    refine w_skip ?_
    refine xn_then ?_
    refine w_seq ?_
    refine w_seq ?_
    refine w_reg ?_
    refine wl_mv (.tmp 13) (pt t 0) (fun _ => rfl) rfl rfl ?_
    have hk2s := Q2.lt
    refine wl_callx 17 [(.tmp 129)] _ [pt t 0] rfl rfl (fun _ _ => by kernel_rfl) (all_g hG) rfl ?_
    rintro _ w14 ⟨kb, p, cap, rfl, QB, hSI, hpb, _, hq⟩
    refine ⟨_, rfl, ?_⟩
    replace Q2 := Q2.mo hq
    have hk2p : ∀ k, pb p k → k2 < k := fun k hk => by have := (hpb k hk).1; have := hk2s; omega
    replace M := M.trans hq
    clear hq hG
    refine w_nil ?_
    refine xn_then ?_
    refine w_block ?_
    have hNR : w.heap.size ≤ w14.heap.size := M.size
    refine w_rf 32 #[] #[pt kb 0] rfl (fun _ _ => by kernel_rfl) (fun x : Int × Nat => #[.int .i64 (x.2 : Int), .int .i64 x.1]) (Kd (pb p)) (fun xs => xs = ([5, 6] : List Int).zipIdx) (fun pre => ∃ i : Nat, 0 < i ∧ i ≤ 2 ∧ pre = (([5, 6] : List Int).take i).zipIdx) 2 (all1_seq (L := [5, 6]) QB hSI (by decide)) Kd.tr (fun W l o o' hl _ _ _ k hk => World.putObj_heap_other (by have := (hpb k hk).2; omega)) (fun _ => rfl) (fun pre W => pre = [] ∧ At W k2 [.bool false] ∧ Mo w W) (fun c pre W => c = .ret ∧ ∃ x : Int × Nat, pre = [x] ∧ At W k2 [.bool (decide (x.1 = 5))] ∧ Mo w W) ?hI ?hIx ⟨rfl, Q2, M⟩ _ ?lx (fun x => frps2 131 132 _ _) ?assign ?body ?done ?stop
    case hI => exact OwnF.pure.and ((OwnF.at (f := fun _ => _) (g := fun _ => [])).and (own_moF hNR))
    case hIx => exact fun c s9 W W' row ⟨h1, x, h2, h3, h4⟩ hg hf hr => ⟨h1, x, h2, h3.grown hg (fun r e => (hr r e).2), own_moF hNR s9 W W' row h4 hg hf hr⟩
    case assign =>
      intro lp x W K hK
      refine w_reg ?_
      refine wl_mv (.tmp 132) (.int .i64 (x.1)) (fun _ => rfl) rfl rfl ?_
      refine w_nil ?_
      exact hK
    case body =>
      rintro lp pre x W ⟨hpre, Q2, M⟩ hlen
      subst hpre
      have Q20 := Q2
      refine w_block ?_
      refine w_seq ?_
      refine w_reg ?_
      refine wl_mv (.tmp 15) (.int .i64 (x.1)) (fun _ => rfl) rfl rfl ?_
      refine wl_bin (fun x y => do eqGuard .eql 2 (.tmp 133) (.const (.int .i64 (5))) x y; binOp .eql 2 x y) (.tmp 133) (.const (.int .i64 (5))) (.int .i64 (x.1)) (.int .i64 (5)) (.bool (decide (x.1 = 5))) (fun _ => rfl) rfl rfl (eqL rfl _ _ _) rfl ?_
      refine wl_st1x 4 (.tmp 2) (.tmp 134) k2 0 (.bool (decide (x.1 = 5))) [.bool false] [.bool (decide (x.1 = 5))] Q2 rfl rfl g2 rfl rfl sz4 rfl rfl rfl rfl ?_
      intro w31 hT Qn
      replace Q2 := Qn
      clear Qn
      replace M := (Mk.refl (fun j => j = k2) _ |>.st hT rfl).mo M (fun _ e => e ▸ N_k2)
      have X : Mk (fun j => j = k2) W _ := (Mk.refl _ _).st hT rfl; clear hT
      refine w_nil ?_
      refine xn_then ?_
      refine w_ret ?_
      refine xr_blk ?_
      exact WX.mk ⟨keeps_mk X (fun k hk => by subst hk; exact ⟨_, Q20.cell (j := 0) rfl⟩), rfl, x, rfl, Q2, M⟩
    case done =>
      rintro D xs W _ rfl ⟨h9, _⟩ _
      cases h9
    case stop =>
      rintro D c pre W hD ⟨i, hi0, hi1, rfl⟩ ⟨rfl, x, hx, Q2, M⟩ hK
      replace hD := Nat.le_trans hNR hD
      have hi2 : i = 1 := by
        have h9 := congrArg List.length hx
        simp at h9
        omega
      subst hi2
      replace hx : [((5 : Int), 0)] = [x] := hx
      cases hx
      refine w_ret ?_
      refine xr_blk ?_
      refine xr_then ?_
      have QZ := Q2.grown (grownBy_putObj' _ D (.deferred none)) (fun r e => by cases e; exact ⟨_, hK, rfl⟩)
      exact w_ret1m D _ (.bool true) rfl hK ⟨k2, g2, run_one QZ 4 0 rfl Try.underlying4 rfl⟩ ⟨rfl, Mo.putO M hD hK rfl rfl⟩
end
end R
end Go.Proofs.Ytbmbldloeblbbaa
