/-
  Small laws of steps.
-/
import Derived.Test.YtepfokoepibkcaaGreatWp
import Derived.ChangeKeysEq
import Derived.Lib.CutLaws
namespace Go.Proofs.YtepfokoepibkcaaGreat
open Go.RowKit Go.Lib
theorem Mo.there {w w' : World} {k n : Nat} (m : Mo w w') (h : w.there k 0 n) (hk : k < w.heap.size) : w'.there k 0 n := fun j hj => by
  rw [m.cell k _ hk, m.2]; exact h j hj
theorem Mo.setCells {a : World} {k : Nat} (hk : a.heap.size ≤ k) : ∀ (l : List Value) (o : Nat) (b : World), Mo a b → Mo a (b.setCells k o l)
  | [], _, _, h => h
  | v :: r, o, b, h => by rw [World.setCells]; exact Mo.setCells hk r (o + 1) _ (h.setCell hk v)
/-- Two new blocks in slots that hold older ones, or nothing. -/
theorem Ds.two {sp : List Sp} {f : Nat → Value} {w : World} (i j : Nat) (h : ∀ q, spNew (spAt sp q) = true → q = i ∨ q = j) (h1 : ∀ k, f i = pt k 0 → k < w.heap.size) (h2 : ∀ k, f j = pt k 0 → k < w.heap.size) (h3 : ∀ k, f i = pt k 0 → f j ≠ pt k 0) : Ds sp f w := by
  refine ⟨fun q hq k hk => ?_, fun q r hq hr hne k hk hk2 => ?_⟩
  · rcases h q hq with rfl | rfl
    · exact h1 k hk
    · exact h2 k hk
  · rcases h q hq with rfl | rfl <;> rcases h r hr with rfl | rfl
    · exact hne rfl
    · exact h3 k hk hk2
    · exact h3 k hk2 hk
    · exact hne rfl
theorem Ds.one {sp : List Sp} {f : Nat → Value} {w : World} (i : Nat) (h : ∀ q, spNew (spAt sp q) = true → q = i) (h1 : ∀ k, f i = pt k 0 → k < w.heap.size) : Ds sp f w := by
  refine ⟨fun q hq k hk => ?_, fun q r hq hr hne k hk hk2 => ?_⟩
  · rw [h q hq] at hk; exact h1 k hk
  · exact hne ((h q hq).trans (h r hr).symm)
theorem lt3_run {a b : Int} {r : Bool} (h : decide (a < b) = r) (x y : Operand) (w : World) : (do eqGuard .lss 3 x y (.int .i64 a) (.int .i64 b); binOp .lss 3 (.int .i64 a) (.int .i64 b)).run Tryz.prog w = .ok (.bool r) w := by
  subst h; kernel_rfl
theorem gt3_run {a b : Int} {r : Bool} (h : decide (a > b) = r) (x y : Operand) (w : World) : (do eqGuard .gtr 3 x y (.int .i64 a) (.int .i64 b); binOp .gtr 3 (.int .i64 a) (.int .i64 b)).run Tryz.prog w = .ok (.bool r) w := by
  subst h; kernel_rfl
theorem add1r {k : Nat} (hk : k ≤ 9223372036854775806) (x y : Operand) (w : World) : (do eqGuard .add 3 x y (.int .i64 (k : Int)) (.int .i64 1); binOp .add 3 (.int .i64 (k : Int)) (.int .i64 1)).run Tryz.prog w = .ok (.int .i64 ((k + 1 : Nat) : Int)) w := by
  have e : (do eqGuard .add 3 x y (.int .i64 (k : Int)) (.int .i64 1); binOp .add 3 (.int .i64 (k : Int)) (.int .i64 1)).run Tryz.prog w = .ok (.int .i64 (IntKind.i64.wrap ((k : Int) + 1))) w := by kernel_rfl
  have h : IntKind.i64.wrap ((k : Int) + 1) = ((k + 1 : Nat) : Int) := by rw [IntKind.wrap_i64]; omega
  rw [e, h]
/-- A text's bytes. -/
abbrev by8 (s : ByteArray) : List UInt8 := s.data.toList
theorem by8_len (a : ByteArray) : (by8 a).length = a.size := (Lib.size_eq a).symm
theorem w_cut {P : Program} {n : Nat} {l : List (Nat × Value)} {w : World} {Q : Exit → Act → World → Prop} {x y : Code} (I : List (Nat × Value) → World → Prop) (h2 : ∀ l w, I l w → WC P y Q n l w) (h : WC P x (Exit.then (fun a w' => ∃ l', a = fr n l' ∧ I l' w') Q) n l w) : WC P (Code.seq x y) Q n l w :=
  w_seq ⟨wp_mono h.out fun e a w' hq => by
    cases e with
    | normal => obtain ⟨l', rfl, hI⟩ := hq; exact (h2 l' w' hI).out
    | _ => exact hq⟩
theorem xn_cut {n : Nat} {l : List (Nat × Value)} {w : World} {Q : Exit → Act → World → Prop} {I : List (Nat × Value) → World → Prop} (h : I l w) : WX (Exit.then (fun a w' => ∃ l', a = fr n l' ∧ I l' w') Q) .normal n l w := ⟨⟨l, rfl, h⟩⟩
theorem len_s (ρ : Operand → Value) (x : Operand) (s : ByteArray) (hx : ρ x = .string s) (dst : Option Tmp) (type : TypeId) (pos : String) (after : Array Edge) (guard : Option (Nat × Bool)) (w : World) : (execOp ρ { dst, op := .call { callee := .builtin .len, args := #[x], argTypes := #[9] }, type, pos, after, guard }).run Tryz.prog w = .ok (.value (.int .i64 (s.size : Int))) w := by
  simp [go_sem, hx]
theorem ltN {a b : Nat} {r : Bool} (h : decide (a < b) = r) (x y : Operand) (w : World) : (do eqGuard .lss 3 x y (.int .i64 (a : Int)) (.int .i64 (b : Int)); binOp .lss 3 (.int .i64 (a : Int)) (.int .i64 (b : Int))).run Tryz.prog w = .ok (.bool r) w :=
  lt3_run (by rw [← h]; exact decide_eq_decide.2 Int.ofNat_lt) _ _ _
theorem gtN {a b : Nat} {r : Bool} (h : decide (b < a) = r) (x y : Operand) (w : World) : (do eqGuard .gtr 3 x y (.int .i64 (a : Int)) (.int .i64 (b : Int)); binOp .gtr 3 (.int .i64 (a : Int)) (.int .i64 (b : Int))).run Tryz.prog w = .ok (.bool r) w :=
  gt3_run (by rw [← h]; exact decide_eq_decide.2 Int.ofNat_lt) _ _ _
theorem idx_b {s : ByteArray} {k : Nat} (h : k < s.size) (w : World) : (Instr.index 9 (.string s) (.int .i64 (k : Int))).run Tryz.prog w = .ok (.int .u8 (bt s k)) w := by
  rw [bt_in h]
  simp [go_sem, h]
end Go.Proofs.YtepfokoepibkcaaGreat

