/-
  A part of the proof.
-/
import Derived.Test.YthfemlhmnjfjiaaC2
import Derived.Test.YthfemlhmnjfjiaaC1
/-
  Trim, the program's and the document's.
-/
namespace Go.Proofs.Ythfemlhmnjfjiaa
open Go.RowKit
/-- Two new blocks in slots that hold older ones, or nothing. -/
theorem Ds.two {sp : List Sp} {f : Nat → Value} {w : World} (i j : Nat) (h : ∀ q, spNew (spAt sp q) = true → q = i ∨ q = j) (h1 : ∀ k, f i = pt k 0 → k < w.heap.size) (h2 : ∀ k, f j = pt k 0 → k < w.heap.size) (h3 : ∀ k, f i = pt k 0 → f j ≠ pt k 0) : Ds sp f w := by
  refine ⟨fun q hq k hk => ?_, fun q r hq hr hne k hk hk2 => ?_⟩
  · rcases h q hq with rfl | rfl
    · exact h1 k hk
    · exact h2 k hk
  · rcases h q hq with rfl | rfl <;> rcases h r hr with rfl | rfl
    · exact hne rfl
    · exact h3 k hk hk2
    · exact h3 k hk2 hk
    · exact hne rfl
end Go.Proofs.Ythfemlhmnjfjiaa

/-
  Summaries and values as they lie there.
-/
namespace Go.Proofs.Ythfemlhmnjfjiaa
open Go.RowKit
/-- A decimal as it lies there; a summary. -/
structure D3 where
  b : Bool
  n : Int
  s : Int
def D3.ok (d : D3) : Prop := 0 ≤ d.n ∧ d.n < MM
structure Sm where
  r : Int
  f : Int
  k : Int
  d : Int
  e : Int
  tt : Int
  so : Bool
  mn : D3
  mx : D3
abbrev sm (r f k d e tt : Int) (so : Bool) (mb : Bool) (mn ms : Int) (xb : Bool) (xn xs : Int) : Value := .agg #[.int .i64 r, .int .i64 f, .int .i64 k, .int .i64 d, .int .i64 e, .int .u64 (l0 tt), .int .u64 (l1 tt), .int .u64 (l2 tt), .int .u64 (l3 tt), .int .u64 (l4 tt), .bool so, .bool mb, .int .u64 (l0 mn), .int .u64 (l1 mn), .int .u64 (l2 mn), .int .u64 (l3 mn), .int .i64 ms, .bool xb, .int .u64 (l0 xn), .int .u64 (l1 xn), .int .u64 (l2 xn), .int .u64 (l3 xn), .int .i64 xs]
abbrev smv (S : Sm) : Value := sm S.r S.f S.k S.d S.e S.tt S.so S.mn.b S.mn.n S.mn.s S.mx.b S.mx.n S.mx.s
def d0 : D3 := ⟨false, 0, 0⟩
def sm0 : Sm := ⟨0, 0, 0, 0, 0, 0, false, d0, d0⟩
/-- A value as it lies there. -/
abbrev vl10 (K : Int) (b : Bool) (n s : Int) (fl : Bool) (tx : ByteArray) (er : Int) : Value := .agg #[.int .i64 K, .bool b, .int .u64 (l0 n), .int .u64 (l1 n), .int .u64 (l2 n), .int .u64 (l3 n), .int .i64 s, .bool fl, .string tx, .int .i64 er]
theorem eqI {a b : Int} {r : Bool} (h : decide (a = b) = r) (x y : Operand) (w : World) : (do eqGuard .eql 3 x y (.int .i64 a) (.int .i64 b); binOp .eql 3 (.int .i64 a) (.int .i64 b)).run Try.prog w = .ok (.bool r) w := by
  have e : (do eqGuard .eql 3 x y (.int .i64 a) (.int .i64 b); binOp .eql 3 (.int .i64 a) (.int .i64 b)).run Try.prog w = .ok (.bool (a == b)) w := by kernel_rfl
  rw [e, ← h]; rfl
theorem neI {a b : Int} {r : Bool} (h : decide (a = b) = r) (x y : Operand) (w : World) : (do eqGuard .neq 3 x y (.int .i64 a) (.int .i64 b); binOp .neq 3 (.int .i64 a) (.int .i64 b)).run Try.prog w = .ok (.bool !r) w := by
  have e : (do eqGuard .neq 3 x y (.int .i64 a) (.int .i64 b); binOp .neq 3 (.int .i64 a) (.int .i64 b)).run Try.prog w = .ok (.bool (a != b)) w := by kernel_rfl
  rw [e, ← h]; rfl
theorem eqE {a b : Int} {r : Bool} (h : decide (a = b) = r) (x y : Operand) (w : World) : (do eqGuard .eql 25 x y (.int .i64 a) (.int .i64 b); binOp .eql 25 (.int .i64 a) (.int .i64 b)).run Try.prog w = .ok (.bool r) w := by
  have e : (do eqGuard .eql 25 x y (.int .i64 a) (.int .i64 b); binOp .eql 25 (.int .i64 a) (.int .i64 b)).run Try.prog w = .ok (.bool (a == b)) w := by kernel_rfl
  rw [e, ← h]; rfl
theorem geI {a b : Int} {r : Bool} (h : decide (b ≤ a) = r) (x y : Operand) (w : World) : (do eqGuard .geq 3 x y (.int .i64 a) (.int .i64 b); binOp .geq 3 (.int .i64 a) (.int .i64 b)).run Try.prog w = .ok (.bool r) w := by
  subst h; kernel_rfl
def w64 (x : Int) : Int := IntKind.i64.wrap x
theorem addW (a b : Int) (x y : Operand) (w : World) : (do eqGuard .add 3 x y (.int .i64 a) (.int .i64 b); binOp .add 3 (.int .i64 a) (.int .i64 b)).run Try.prog w = .ok (.int .i64 (w64 (a + b))) w := by unfold w64; kernel_rfl
theorem minI (a b : Int) (ρ : Operand → Value) (x y : Operand) (hx : ρ x = .int .i64 a) (hy : ρ y = .int .i64 b) (dst : Option Tmp) (type : TypeId) (pos : String) (after : Array Edge) (guard : Option (Nat × Bool)) (w : World) : (execOp ρ { dst, op := .call { callee := .builtin .min, args := #[x, y], argTypes := #[3, 3] }, type, pos, after, guard }).run Try.prog w = .ok (.value (.int .i64 (min a b))) w := by
  simp [go_sem, hx, hy]
section
variable {w : World}
theorem widen_n (b : Bool) (n s : Int) (hn0 : 0 ≤ n) (hn : n < MM) : Calls Try.prog 78 #[dc b n s] w fun e w' => e = .returned (wv (sv b n)) ∧ Mo w w' := by
  cases b with
  | true => exact widen_t n s hn0 hn
  | false => exact widen_f n s hn0 hn
end
/-- What Cmp answers, of decimals that may be and of others. -/
def cmpv (a b : D3) : Int := if ck a.b a.n a.s = 0 ∧ ck b.b b.n b.s = 0 then cm (sv a.b a.n * pw (max a.s b.s - a.s)) (sv b.b b.n * pw (max a.s b.s - b.s)) else 0
theorem dz_sv {b : Bool} {n s : Int} (hn : 0 ≤ n) (h : ck b n s = 0) : sc s = true ∧ dz (sv b n) s = dc b n s ∧ ab (sv b n) = n := by
  obtain ⟨h1, v, h2, h3⟩ := dz_of hn h
  have e := ab_sv (b := b) hn
  have e2 := neg_sv (b := b) hn
  refine ⟨h1, ?_, e⟩
  have hz : (b && !decide (n = 0)) = b := by
    unfold ck at h
    rw [h1] at h
    cases b with
    | false => rfl
    | true =>
      by_cases c : n = 0
      · rw [decide_eq_true c] at h; simp at h
      · rw [decide_eq_false c]; rfl
  unfold dz
  rw [e, e2, hz]
theorem cmp_d (a b : D3) (ha : a.ok) (hb : b.ok) (w : World) : Calls Try.prog 75 #[dc a.b a.n a.s, dc b.b b.n b.s] w fun e w' => e = .returned (.int .i64 (cmpv a b)) ∧ Mo w w' := by
  unfold cmpv
  by_cases h : ck a.b a.n a.s = 0 ∧ ck b.b b.n b.s = 0
  · rw [if_pos h]
    obtain ⟨h1, h2, h3⟩ := dz_sv ha.1 h.1
    obtain ⟨g1, g2, g3⟩ := dz_sv hb.1 h.2
    rw [← h2, ← g2]
    exact cmp_z _ _ _ _ w (by rw [h3]; exact ha.2) (by rw [g3]; exact hb.2) h1 g1
  · rw [if_neg h]; exact dcmp_no _ _ _ _ _ _ w ha.1 ha.2 hb.1 hb.2 h
end Go.Proofs.Ythfemlhmnjfjiaa

/-
  Of, the program's and the document's, in each case.
-/
namespace Go.Proofs.Ythfemlhmnjfjiaa
open Go.RowKit
theorem lp6 {i1 i2 i3 i4 i5 i6 : Nat} {a1 a2 a3 a4 a5 a6 b1 b2 b3 b4 b5 b6 : Value} (h1 : a1 = b1) (h2 : a2 = b2) (h3 : a3 = b3) (h4 : a4 = b4) (h5 : a5 = b5) (h6 : a6 = b6) : [(i1, a1), (i2, a2), (i3, a3), (i4, a4), (i5, a5), (i6, a6)] = [(i1, b1), (i2, b2), (i3, b3), (i4, b4), (i5, b5), (i6, b6)] := by rw [h1, h2, h3, h4, h5, h6]
section
variable {w : World}
theorem ofError_n (x : Int) : Calls Try.prog 76 #[.int .i64 x] w fun e w' => e = .returned (sm 1 (0) (0) (1) (x) (0) false false (0) (0) false (0) (0)) ∧ Mo w w' := by
  refine w_enter 5 Try.func76 Try.ntmps76 rfl rfl ?_
  have M : Mo w w := Mo.refl _
  refine w_seq ?_
  refine w_reg ?_
  refine wl_alloc 42 #[.int .i64 0, .int .i64 0, .int .i64 0, .int .i64 0, .int .i64 0, .int .u64 0, .int .u64 0, .int .u64 0, .int .u64 0, .int .u64 0, .bool false, .bool false, .int .u64 0, .int .u64 0, .int .u64 0, .int .u64 0, .int .i64 0, .bool false, .int .u64 0, .int .u64 0, .int .u64 0, .int .u64 0, .int .i64 0] rfl (fun _ => by kernel_rfl) rfl ?_
  intro k1 w1 hk hz hq Q1
  have N_k1 : w.heap.size ≤ k1 := by have := M.size; omega
  replace M := M.trans hq
  clear hk hz hq
  refine w_nil ?_
  refine xn_then ?_
  refine w_seq ?_
  refine w_reg ?_
  refine wl_mv (.tmp 0) (.int .i64 (x)) (fun _ => rfl) rfl rfl ?_
  refine wl_build 42 [(0, (.const (.int .i64 (1)))), (3, (.const (.int .i64 (1)))), (4, (.tmp 3))] [(0, .int .i64 (1)), (3, .int .i64 (1)), (4, .int .i64 (x))] (.agg #[.int .i64 (1), .int .i64 0, .int .i64 0, .int .i64 (1), .int .i64 (x), .int .u64 0, .int .u64 0, .int .u64 0, .int .u64 0, .int .u64 0, .bool false, .bool false, .int .u64 0, .int .u64 0, .int .u64 0, .int .u64 0, .int .i64 0, .bool false, .int .u64 0, .int .u64 0, .int .u64 0, .int .u64 0, .int .i64 0]) rfl rfl (by kernel_rfl) rfl ?_
  refine wl_st 42 (.tmp 2) (.tmp 4) k1 0 #[.int .i64 (1), .int .i64 0, .int .i64 0, .int .i64 (1), .int .i64 (x), .int .u64 0, .int .u64 0, .int .u64 0, .int .u64 0, .int .u64 0, .bool false, .bool false, .int .u64 0, .int .u64 0, .int .u64 0, .int .u64 0, .int .i64 0, .bool false, .int .u64 0, .int .u64 0, .int .u64 0, .int .u64 0, .int .i64 0] [.int .i64 0, .int .i64 0, .int .i64 0, .int .i64 0, .int .i64 0, .int .u64 0, .int .u64 0, .int .u64 0, .int .u64 0, .int .u64 0, .bool false, .bool false, .int .u64 0, .int .u64 0, .int .u64 0, .int .u64 0, .int .i64 0, .bool false, .int .u64 0, .int .u64 0, .int .u64 0, .int .u64 0, .int .i64 0] [.int .i64 (1), .int .i64 0, .int .i64 0, .int .i64 (1), .int .i64 (x), .int .u64 0, .int .u64 0, .int .u64 0, .int .u64 0, .int .u64 0, .bool false, .bool false, .int .u64 0, .int .u64 0, .int .u64 0, .int .u64 0, .int .i64 0, .bool false, .int .u64 0, .int .u64 0, .int .u64 0, .int .u64 0, .int .i64 0] Q1 rfl rfl rfl rfl rfl sz33 rfl rfl rfl ?_
  intro w2 hS Qn
  replace Q1 := Qn
  clear Qn
  replace M := hS.mo _ N_k1 M
  clear hS
  refine w_nil ?_
  refine xn_then ?_
  refine w_ret ?_
  exact w_ret1 _ (.agg #[.int .i64 (1), .int .i64 0, .int .i64 0, .int .i64 (1), .int .i64 (x), .int .u64 0, .int .u64 0, .int .u64 0, .int .u64 0, .int .u64 0, .bool false, .bool false, .int .u64 0, .int .u64 0, .int .u64 0, .int .u64 0, .int .i64 0, .bool false, .int .u64 0, .int .u64 0, .int .u64 0, .int .u64 0, .int .i64 0]) rfl ⟨k1, rfl, (run_row Q1 42 0 23 [.int .i64 (1), .int .i64 0, .int .i64 0, .int .i64 (1), .int .i64 (x), .int .u64 0, .int .u64 0, .int .u64 0, .int .u64 0, .int .u64 0, .bool false, .bool false, .int .u64 0, .int .u64 0, .int .u64 0, .int .u64 0, .int .i64 0, .bool false, .int .u64 0, .int .u64 0, .int .u64 0, .int .u64 0, .int .i64 0] rfl Try.underlying42 rfl sz33)⟩ ⟨rfl, M⟩
theorem of_a (K : Int) (vb : Bool) (vn vs : Int) (fl : Bool) (tx : ByteArray) (er sc9 : Int) (q0 : decide (K = 0) = true) : Calls Try.prog 65 #[vl10 K vb vn vs fl tx er, .int .i64 sc9] w fun e w' => e = .returned (sm 1 (0) (1) (0) (0) (0) false false (0) (0) false (0) (0)) ∧ Mo w w' := by
  refine w_enter 56 Try.func65 Try.ntmps65 rfl rfl ?_
  have M : Mo w w := Mo.refl _
  refine w_seq ?_
  refine w_reg ?_
  refine wl_box 55 (.tmp 0) (.agg #[.int .i64 (K), .bool vb, .int .u64 (l0 (vn)), .int .u64 (l1 (vn)), .int .u64 (l2 (vn)), .int .u64 (l3 (vn)), .int .i64 (vs), .bool fl, .string tx, .int .i64 (er)]) (#[.int .i64 (K), .bool vb, .int .u64 (l0 (vn)), .int .u64 (l1 (vn)), .int .u64 (l2 (vn)), .int .u64 (l3 (vn)), .int .i64 (vs), .bool fl, .string tx, .int .i64 (er)]) rfl rfl (fun _ => by kernel_rfl) rfl ?_
  intro k1 w1 hk hz hq Q1
  have N_k1 : w.heap.size ≤ k1 := by have := M.size; omega
  replace M := M.trans hq
  clear hk hz hq
  refine wl_alloc 42 #[.int .i64 0, .int .i64 0, .int .i64 0, .int .i64 0, .int .i64 0, .int .u64 0, .int .u64 0, .int .u64 0, .int .u64 0, .int .u64 0, .bool false, .bool false, .int .u64 0, .int .u64 0, .int .u64 0, .int .u64 0, .int .i64 0, .bool false, .int .u64 0, .int .u64 0, .int .u64 0, .int .u64 0, .int .i64 0] rfl (fun _ => by kernel_rfl) rfl ?_
  intro k2 w2 hk hz hq Q2
  have ne_k1_k2 : k1 ≠ k2 := by have := Q1.lt; omega
  have N_k2 : w.heap.size ≤ k2 := by have := M.size; omega
  replace Q1 := Q1.mo hq
  replace M := M.trans hq
  clear hk hz hq
  refine w_nil ?_
  refine xn_then ?_
  refine w_seq ?_
  refine w_block ?_
  refine w_seq ?_
  refine w_reg ?_
  refine wl_un (fun v => Instr.fieldAt 55 v 0) (.tmp 2) (pt k1 0) (pt k1 0) (fun _ => rfl) rfl (by kernel_rfl) rfl ?_
  refine wl_load 3 (.tmp 6) (pt k1 0) (.int .i64 (K)) rfl rfl (run_one Q1 3 0 rfl Try.underlying3 rfl) rfl ?_
  refine wl_bin (fun x y => do eqGuard .eql 3 (.tmp 7) (.const (.int .i64 (0))) x y; binOp .eql 3 x y) (.tmp 7) (.const (.int .i64 (0))) (.int .i64 (K)) (.int .i64 (0)) (.bool true) (fun _ => rfl) rfl rfl (eqI q0 _ _ _) rfl ?_
  refine wl_mv (.tmp 8) (.bool true) (fun _ => rfl) rfl rfl ?_
  refine w_nil ?_
  refine xn_then ?_
  refine w_condT rfl ?_
  refine w_seq ?_
  refine w_reg ?_
  refine wl_build 42 [(0, (.const (.int .i64 (1)))), (2, (.const (.int .i64 (1))))] [(0, .int .i64 (1)), (2, .int .i64 (1))] (.agg #[.int .i64 (1), .int .i64 0, .int .i64 (1), .int .i64 0, .int .i64 0, .int .u64 0, .int .u64 0, .int .u64 0, .int .u64 0, .int .u64 0, .bool false, .bool false, .int .u64 0, .int .u64 0, .int .u64 0, .int .u64 0, .int .i64 0, .bool false, .int .u64 0, .int .u64 0, .int .u64 0, .int .u64 0, .int .i64 0]) rfl rfl (by kernel_rfl) rfl ?_
  refine wl_st 42 (.tmp 4) (.tmp 9) k2 0 #[.int .i64 (1), .int .i64 0, .int .i64 (1), .int .i64 0, .int .i64 0, .int .u64 0, .int .u64 0, .int .u64 0, .int .u64 0, .int .u64 0, .bool false, .bool false, .int .u64 0, .int .u64 0, .int .u64 0, .int .u64 0, .int .i64 0, .bool false, .int .u64 0, .int .u64 0, .int .u64 0, .int .u64 0, .int .i64 0] [.int .i64 0, .int .i64 0, .int .i64 0, .int .i64 0, .int .i64 0, .int .u64 0, .int .u64 0, .int .u64 0, .int .u64 0, .int .u64 0, .bool false, .bool false, .int .u64 0, .int .u64 0, .int .u64 0, .int .u64 0, .int .i64 0, .bool false, .int .u64 0, .int .u64 0, .int .u64 0, .int .u64 0, .int .i64 0] [.int .i64 (1), .int .i64 0, .int .i64 (1), .int .i64 0, .int .i64 0, .int .u64 0, .int .u64 0, .int .u64 0, .int .u64 0, .int .u64 0, .bool false, .bool false, .int .u64 0, .int .u64 0, .int .u64 0, .int .u64 0, .int .i64 0, .bool false, .int .u64 0, .int .u64 0, .int .u64 0, .int .u64 0, .int .i64 0] Q2 rfl rfl rfl rfl rfl sz33 rfl rfl rfl ?_
  intro w3 hS Qn
  replace Q2 := Qn
  clear Qn
  replace Q1 := hS.other _ _ ne_k1_k2 Q1
  replace M := hS.mo _ N_k2 M
  clear hS
  refine w_nil ?_
  refine xn_then ?_
  refine w_ret ?_
  refine xr_blk ?_
  refine xr_then ?_
  exact w_ret1 _ (.agg #[.int .i64 (1), .int .i64 0, .int .i64 (1), .int .i64 0, .int .i64 0, .int .u64 0, .int .u64 0, .int .u64 0, .int .u64 0, .int .u64 0, .bool false, .bool false, .int .u64 0, .int .u64 0, .int .u64 0, .int .u64 0, .int .i64 0, .bool false, .int .u64 0, .int .u64 0, .int .u64 0, .int .u64 0, .int .i64 0]) rfl ⟨k2, rfl, (run_row Q2 42 0 23 [.int .i64 (1), .int .i64 0, .int .i64 (1), .int .i64 0, .int .i64 0, .int .u64 0, .int .u64 0, .int .u64 0, .int .u64 0, .int .u64 0, .bool false, .bool false, .int .u64 0, .int .u64 0, .int .u64 0, .int .u64 0, .int .i64 0, .bool false, .int .u64 0, .int .u64 0, .int .u64 0, .int .u64 0, .int .i64 0] rfl Try.underlying42 rfl sz33)⟩ ⟨rfl, M⟩
theorem of_b (K : Int) (vb : Bool) (vn vs : Int) (fl : Bool) (tx : ByteArray) (er sc9 : Int) (q0 : decide (K = 0) = false) (q4 : decide (K = 4) = true) (qe : decide (1 ≤ er) = true) : Calls Try.prog 65 #[vl10 K vb vn vs fl tx er, .int .i64 sc9] w fun e w' => e = .returned (sm 1 (0) (0) (1) (er) (0) false false (0) (0) false (0) (0)) ∧ Mo w w' := by
  refine w_enter 56 Try.func65 Try.ntmps65 rfl rfl ?_
  have M : Mo w w := Mo.refl _
  refine w_seq ?_
  refine w_reg ?_
  refine wl_box 55 (.tmp 0) (.agg #[.int .i64 (K), .bool vb, .int .u64 (l0 (vn)), .int .u64 (l1 (vn)), .int .u64 (l2 (vn)), .int .u64 (l3 (vn)), .int .i64 (vs), .bool fl, .string tx, .int .i64 (er)]) (#[.int .i64 (K), .bool vb, .int .u64 (l0 (vn)), .int .u64 (l1 (vn)), .int .u64 (l2 (vn)), .int .u64 (l3 (vn)), .int .i64 (vs), .bool fl, .string tx, .int .i64 (er)]) rfl rfl (fun _ => by kernel_rfl) rfl ?_
  intro k1 w1 hk hz hq Q1
  have N_k1 : w.heap.size ≤ k1 := by have := M.size; omega
  replace M := M.trans hq
  clear hk hz hq
  refine wl_alloc 42 #[.int .i64 0, .int .i64 0, .int .i64 0, .int .i64 0, .int .i64 0, .int .u64 0, .int .u64 0, .int .u64 0, .int .u64 0, .int .u64 0, .bool false, .bool false, .int .u64 0, .int .u64 0, .int .u64 0, .int .u64 0, .int .i64 0, .bool false, .int .u64 0, .int .u64 0, .int .u64 0, .int .u64 0, .int .i64 0] rfl (fun _ => by kernel_rfl) rfl ?_
  intro k2 w2 hk hz hq Q2
  have ne_k1_k2 : k1 ≠ k2 := by have := Q1.lt; omega
  have N_k2 : w.heap.size ≤ k2 := by have := M.size; omega
  replace Q1 := Q1.mo hq
  replace M := M.trans hq
  clear hk hz hq
  refine w_nil ?_
  refine xn_then ?_
  refine w_seq ?_
  refine w_block ?_
  refine w_seq ?_
  refine w_reg ?_
  refine wl_un (fun v => Instr.fieldAt 55 v 0) (.tmp 2) (pt k1 0) (pt k1 0) (fun _ => rfl) rfl (by kernel_rfl) rfl ?_
  refine wl_load 3 (.tmp 6) (pt k1 0) (.int .i64 (K)) rfl rfl (run_one Q1 3 0 rfl Try.underlying3 rfl) rfl ?_
  refine wl_bin (fun x y => do eqGuard .eql 3 (.tmp 7) (.const (.int .i64 (0))) x y; binOp .eql 3 x y) (.tmp 7) (.const (.int .i64 (0))) (.int .i64 (K)) (.int .i64 (0)) (.bool false) (fun _ => rfl) rfl rfl (eqI q0 _ _ _) rfl ?_
  refine wl_mv (.tmp 8) (.bool false) (fun _ => rfl) rfl rfl ?_
  refine w_nil ?_
  refine xn_then ?_
  refine w_condF rfl ?_
  refine w_seq ?_
  refine w_reg ?_
  refine wl_un (fun v => Instr.fieldAt 55 v 0) (.tmp 2) (pt k1 0) (pt k1 0) (fun _ => rfl) rfl (by kernel_rfl) rfl ?_
  refine wl_load 3 (.tmp 11) (pt k1 0) (.int .i64 (K)) rfl rfl (run_one Q1 3 0 rfl Try.underlying3 rfl) rfl ?_
  refine wl_bin (fun x y => do eqGuard .eql 3 (.tmp 12) (.const (.int .i64 (4))) x y; binOp .eql 3 x y) (.tmp 12) (.const (.int .i64 (4))) (.int .i64 (K)) (.int .i64 (4)) (.bool true) (fun _ => rfl) rfl rfl (eqI q4 _ _ _) rfl ?_
  refine wl_mv (.tmp 13) (.bool true) (fun _ => rfl) rfl rfl ?_
  refine wl_un (fun v => Instr.fieldAt 55 v 4) (.tmp 2) (pt k1 0) (pt k1 9) (fun _ => rfl) rfl (by kernel_rfl) rfl ?_
  refine wl_load 3 (.tmp 15) (pt k1 9) (.int .i64 (er)) rfl rfl (run_one Q1 3 9 rfl Try.underlying3 rfl) rfl ?_
  refine wl_bin (fun x y => do eqGuard .geq 3 (.tmp 16) (.const (.int .i64 (1))) x y; binOp .geq 3 x y) (.tmp 16) (.const (.int .i64 (1))) (.int .i64 (er)) (.int .i64 (1)) (.bool true) (fun _ => rfl) rfl rfl (geI qe _ _ _) rfl ?_
  refine wl_pick (.tmp 14) (.tmp 17) (.const (.bool false)) true (.bool true) (fun _ => rfl) rfl rfl rfl ?_
  refine wl_mv (.tmp 18) (.bool true) (fun _ => rfl) rfl rfl ?_
  refine w_nil ?_
  refine xn_then ?_
  refine w_condT rfl ?_
  refine w_seq ?_
  refine w_reg ?_
  refine wl_un (fun v => Instr.fieldAt 55 v 4) (.tmp 2) (pt k1 0) (pt k1 9) (fun _ => rfl) rfl (by kernel_rfl) rfl ?_
  refine wl_load 3 (.tmp 19) (pt k1 9) (.int .i64 (er)) rfl rfl (run_one Q1 3 9 rfl Try.underlying3 rfl) rfl ?_
  refine wl_call 76 [(.tmp 20)] _ [.int .i64 (er)] (.agg #[.int .i64 (1), .int .i64 (0), .int .i64 (0), .int .i64 (1), .int .i64 (er), .int .u64 (l0 (0)), .int .u64 (l1 (0)), .int .u64 (l2 (0)), .int .u64 (l3 (0)), .int .u64 (l4 (0)), .bool false, .bool false, .int .u64 (l0 (0)), .int .u64 (l1 (0)), .int .u64 (l2 (0)), .int .u64 (l3 (0)), .int .i64 (0), .bool false, .int .u64 (l0 (0)), .int .u64 (l1 (0)), .int .u64 (l2 (0)), .int .u64 (l3 (0)), .int .i64 (0)]) rfl rfl (fun _ _ => by kernel_rfl) (ofError_n (er)) rfl ?_
  intro w3 hq
  replace Q1 := Q1.mo hq
  replace Q2 := Q2.mo hq
  replace M := M.trans hq
  clear hq
  refine wl_st 42 (.tmp 4) (.tmp 21) k2 0 #[.int .i64 (1), .int .i64 (0), .int .i64 (0), .int .i64 (1), .int .i64 (er), .int .u64 (l0 (0)), .int .u64 (l1 (0)), .int .u64 (l2 (0)), .int .u64 (l3 (0)), .int .u64 (l4 (0)), .bool false, .bool false, .int .u64 (l0 (0)), .int .u64 (l1 (0)), .int .u64 (l2 (0)), .int .u64 (l3 (0)), .int .i64 (0), .bool false, .int .u64 (l0 (0)), .int .u64 (l1 (0)), .int .u64 (l2 (0)), .int .u64 (l3 (0)), .int .i64 (0)] [.int .i64 0, .int .i64 0, .int .i64 0, .int .i64 0, .int .i64 0, .int .u64 0, .int .u64 0, .int .u64 0, .int .u64 0, .int .u64 0, .bool false, .bool false, .int .u64 0, .int .u64 0, .int .u64 0, .int .u64 0, .int .i64 0, .bool false, .int .u64 0, .int .u64 0, .int .u64 0, .int .u64 0, .int .i64 0] [.int .i64 (1), .int .i64 (0), .int .i64 (0), .int .i64 (1), .int .i64 (er), .int .u64 (l0 (0)), .int .u64 (l1 (0)), .int .u64 (l2 (0)), .int .u64 (l3 (0)), .int .u64 (l4 (0)), .bool false, .bool false, .int .u64 (l0 (0)), .int .u64 (l1 (0)), .int .u64 (l2 (0)), .int .u64 (l3 (0)), .int .i64 (0), .bool false, .int .u64 (l0 (0)), .int .u64 (l1 (0)), .int .u64 (l2 (0)), .int .u64 (l3 (0)), .int .i64 (0)] Q2 rfl rfl rfl rfl rfl sz33 rfl rfl rfl ?_
  intro w4 hS Qn
  replace Q2 := Qn
  clear Qn
  replace Q1 := hS.other _ _ ne_k1_k2 Q1
  replace M := hS.mo _ N_k2 M
  clear hS
  refine w_nil ?_
  refine xn_then ?_
  refine w_ret ?_
  refine xr_blk ?_
  refine xr_then ?_
  exact w_ret1 _ (.agg #[.int .i64 (1), .int .i64 (0), .int .i64 (0), .int .i64 (1), .int .i64 (er), .int .u64 (l0 (0)), .int .u64 (l1 (0)), .int .u64 (l2 (0)), .int .u64 (l3 (0)), .int .u64 (l4 (0)), .bool false, .bool false, .int .u64 (l0 (0)), .int .u64 (l1 (0)), .int .u64 (l2 (0)), .int .u64 (l3 (0)), .int .i64 (0), .bool false, .int .u64 (l0 (0)), .int .u64 (l1 (0)), .int .u64 (l2 (0)), .int .u64 (l3 (0)), .int .i64 (0)]) rfl ⟨k2, rfl, (run_row Q2 42 0 23 [.int .i64 (1), .int .i64 (0), .int .i64 (0), .int .i64 (1), .int .i64 (er), .int .u64 (l0 (0)), .int .u64 (l1 (0)), .int .u64 (l2 (0)), .int .u64 (l3 (0)), .int .u64 (l4 (0)), .bool false, .bool false, .int .u64 (l0 (0)), .int .u64 (l1 (0)), .int .u64 (l2 (0)), .int .u64 (l3 (0)), .int .i64 (0), .bool false, .int .u64 (l0 (0)), .int .u64 (l1 (0)), .int .u64 (l2 (0)), .int .u64 (l3 (0)), .int .i64 (0)] rfl Try.underlying42 rfl sz33)⟩ ⟨rfl, M⟩
theorem of_c (K : Int) (vb : Bool) (vn vs : Int) (fl : Bool) (tx : ByteArray) (er sc9 : Int) (q0 : decide (K = 0) = false) (q4 : decide (K = 4) = true) (qe : decide (1 ≤ er) = false) (q1 : decide (K = 1) = false) (q2 : decide (K = 2) = false) (q3 : decide (K = 3) = false) : Calls Try.prog 65 #[vl10 K vb vn vs fl tx er, .int .i64 sc9] w fun e w' => e = .returned (sm 1 (0) (0) (1) (2) (0) false false (0) (0) false (0) (0)) ∧ Mo w w' := by
  refine w_enter 56 Try.func65 Try.ntmps65 rfl rfl ?_
  have M : Mo w w := Mo.refl _
  refine w_seq ?_
  refine w_reg ?_
  refine wl_box 55 (.tmp 0) (.agg #[.int .i64 (K), .bool vb, .int .u64 (l0 (vn)), .int .u64 (l1 (vn)), .int .u64 (l2 (vn)), .int .u64 (l3 (vn)), .int .i64 (vs), .bool fl, .string tx, .int .i64 (er)]) (#[.int .i64 (K), .bool vb, .int .u64 (l0 (vn)), .int .u64 (l1 (vn)), .int .u64 (l2 (vn)), .int .u64 (l3 (vn)), .int .i64 (vs), .bool fl, .string tx, .int .i64 (er)]) rfl rfl (fun _ => by kernel_rfl) rfl ?_
  intro k1 w1 hk hz hq Q1
  have N_k1 : w.heap.size ≤ k1 := by have := M.size; omega
  replace M := M.trans hq
  clear hk hz hq
  refine wl_alloc 42 #[.int .i64 0, .int .i64 0, .int .i64 0, .int .i64 0, .int .i64 0, .int .u64 0, .int .u64 0, .int .u64 0, .int .u64 0, .int .u64 0, .bool false, .bool false, .int .u64 0, .int .u64 0, .int .u64 0, .int .u64 0, .int .i64 0, .bool false, .int .u64 0, .int .u64 0, .int .u64 0, .int .u64 0, .int .i64 0] rfl (fun _ => by kernel_rfl) rfl ?_
  intro k2 w2 hk hz hq Q2
  have ne_k1_k2 : k1 ≠ k2 := by have := Q1.lt; omega
  have N_k2 : w.heap.size ≤ k2 := by have := M.size; omega
  replace Q1 := Q1.mo hq
  replace M := M.trans hq
  clear hk hz hq
  refine w_nil ?_
  refine xn_then ?_
  refine w_seq ?_
  refine w_block ?_
  refine w_seq ?_
  refine w_reg ?_
  refine wl_un (fun v => Instr.fieldAt 55 v 0) (.tmp 2) (pt k1 0) (pt k1 0) (fun _ => rfl) rfl (by kernel_rfl) rfl ?_
  refine wl_load 3 (.tmp 6) (pt k1 0) (.int .i64 (K)) rfl rfl (run_one Q1 3 0 rfl Try.underlying3 rfl) rfl ?_
  refine wl_bin (fun x y => do eqGuard .eql 3 (.tmp 7) (.const (.int .i64 (0))) x y; binOp .eql 3 x y) (.tmp 7) (.const (.int .i64 (0))) (.int .i64 (K)) (.int .i64 (0)) (.bool false) (fun _ => rfl) rfl rfl (eqI q0 _ _ _) rfl ?_
  refine wl_mv (.tmp 8) (.bool false) (fun _ => rfl) rfl rfl ?_
  refine w_nil ?_
  refine xn_then ?_
  refine w_condF rfl ?_
  refine w_seq ?_
  refine w_reg ?_
  refine wl_un (fun v => Instr.fieldAt 55 v 0) (.tmp 2) (pt k1 0) (pt k1 0) (fun _ => rfl) rfl (by kernel_rfl) rfl ?_
  refine wl_load 3 (.tmp 11) (pt k1 0) (.int .i64 (K)) rfl rfl (run_one Q1 3 0 rfl Try.underlying3 rfl) rfl ?_
  refine wl_bin (fun x y => do eqGuard .eql 3 (.tmp 12) (.const (.int .i64 (4))) x y; binOp .eql 3 x y) (.tmp 12) (.const (.int .i64 (4))) (.int .i64 (K)) (.int .i64 (4)) (.bool true) (fun _ => rfl) rfl rfl (eqI q4 _ _ _) rfl ?_
  refine wl_mv (.tmp 13) (.bool true) (fun _ => rfl) rfl rfl ?_
  refine wl_un (fun v => Instr.fieldAt 55 v 4) (.tmp 2) (pt k1 0) (pt k1 9) (fun _ => rfl) rfl (by kernel_rfl) rfl ?_
  refine wl_load 3 (.tmp 15) (pt k1 9) (.int .i64 (er)) rfl rfl (run_one Q1 3 9 rfl Try.underlying3 rfl) rfl ?_
  refine wl_bin (fun x y => do eqGuard .geq 3 (.tmp 16) (.const (.int .i64 (1))) x y; binOp .geq 3 x y) (.tmp 16) (.const (.int .i64 (1))) (.int .i64 (er)) (.int .i64 (1)) (.bool false) (fun _ => rfl) rfl rfl (geI qe _ _ _) rfl ?_
  refine wl_pick (.tmp 14) (.tmp 17) (.const (.bool false)) true (.bool false) (fun _ => rfl) rfl rfl rfl ?_
  refine wl_mv (.tmp 18) (.bool false) (fun _ => rfl) rfl rfl ?_
  refine w_nil ?_
  refine xn_then ?_
  refine w_condF rfl ?_
  refine w_seq ?_
  refine w_reg ?_
  refine wl_un (fun v => Instr.fieldAt 55 v 0) (.tmp 2) (pt k1 0) (pt k1 0) (fun _ => rfl) rfl (by kernel_rfl) rfl ?_
  refine wl_load 3 (.tmp 23) (pt k1 0) (.int .i64 (K)) rfl rfl (run_one Q1 3 0 rfl Try.underlying3 rfl) rfl ?_
  refine wl_bin (fun x y => do eqGuard .eql 3 (.tmp 24) (.const (.int .i64 (1))) x y; binOp .eql 3 x y) (.tmp 24) (.const (.int .i64 (1))) (.int .i64 (K)) (.int .i64 (1)) (.bool false) (fun _ => rfl) rfl rfl (eqI q1 _ _ _) rfl ?_
  refine wl_mv (.tmp 25) (.bool false) (fun _ => rfl) rfl rfl ?_
  refine wl_skip rfl ?_
  refine wl_skip rfl ?_
  refine wl_skip rfl ?_
  refine wl_skip rfl ?_
  refine wl_skip rfl ?_
  refine wl_pick (.tmp 26) (.tmp 31) (.const (.bool false)) false (.bool false) (fun _ => rfl) rfl rfl rfl ?_
  refine wl_mv (.tmp 32) (.bool false) (fun _ => rfl) rfl rfl ?_
  refine wl_skip rfl ?_
  refine wl_skip rfl ?_
  refine wl_skip rfl ?_
  refine wl_skip rfl ?_
  refine wl_pick (.tmp 33) (.tmp 37) (.const (.bool false)) false (.bool false) (fun _ => rfl) rfl rfl rfl ?_
  refine wl_mv (.tmp 38) (.bool false) (fun _ => rfl) rfl rfl ?_
  refine w_nil ?_
  refine xn_then ?_
  refine w_condF rfl ?_
  refine w_seq ?_
  refine w_seq ?_
  refine w_reg ?_
  refine wl_un (fun v => Instr.fieldAt 55 v 0) (.tmp 2) (pt k1 0) (pt k1 0) (fun _ => rfl) rfl (by kernel_rfl) rfl ?_
  refine wl_load 3 (.tmp 48) (pt k1 0) (.int .i64 (K)) rfl rfl (run_one Q1 3 0 rfl Try.underlying3 rfl) rfl ?_
  refine wl_bin (fun x y => do eqGuard .eql 3 (.tmp 49) (.const (.int .i64 (2))) x y; binOp .eql 3 x y) (.tmp 49) (.const (.int .i64 (2))) (.int .i64 (K)) (.int .i64 (2)) (.bool false) (fun _ => rfl) rfl rfl (eqI q2 _ _ _) rfl ?_
  refine wl_mv (.tmp 50) (.bool false) (fun _ => rfl) rfl rfl ?_
  refine w_nil ?_
  refine xn_then ?_
  refine w_condF rfl ?_
  refine w_reg ?_
  refine wl_un (fun v => Instr.fieldAt 55 v 0) (.tmp 2) (pt k1 0) (pt k1 0) (fun _ => rfl) rfl (by kernel_rfl) rfl ?_
  refine wl_load 3 (.tmp 51) (pt k1 0) (.int .i64 (K)) rfl rfl (run_one Q1 3 0 rfl Try.underlying3 rfl) rfl ?_
  refine wl_bin (fun x y => do eqGuard .eql 3 (.tmp 52) (.const (.int .i64 (3))) x y; binOp .eql 3 x y) (.tmp 52) (.const (.int .i64 (3))) (.int .i64 (K)) (.int .i64 (3)) (.bool false) (fun _ => rfl) rfl rfl (eqI q3 _ _ _) rfl ?_
  refine wl_mv (.tmp 53) (.bool false) (fun _ => rfl) rfl rfl ?_
  refine w_nil ?_
  refine xn_then ?_
  refine w_condF rfl ?_
  refine w_skip ?_
  refine xn_blk ?_
  refine xn_then ?_
  refine w_seq ?_
  refine w_reg ?_
  refine wl_call 76 [(.const (.int .i64 (2)))] _ [.int .i64 (2)] (.agg #[.int .i64 (1), .int .i64 (0), .int .i64 (0), .int .i64 (1), .int .i64 (2), .int .u64 (l0 (0)), .int .u64 (l1 (0)), .int .u64 (l2 (0)), .int .u64 (l3 (0)), .int .u64 (l4 (0)), .bool false, .bool false, .int .u64 (l0 (0)), .int .u64 (l1 (0)), .int .u64 (l2 (0)), .int .u64 (l3 (0)), .int .i64 (0), .bool false, .int .u64 (l0 (0)), .int .u64 (l1 (0)), .int .u64 (l2 (0)), .int .u64 (l3 (0)), .int .i64 (0)]) rfl rfl (fun _ _ => by kernel_rfl) (ofError_n (2)) rfl ?_
  intro w3 hq
  replace Q1 := Q1.mo hq
  replace Q2 := Q2.mo hq
  replace M := M.trans hq
  clear hq
  refine wl_st 42 (.tmp 4) (.tmp 55) k2 0 #[.int .i64 (1), .int .i64 (0), .int .i64 (0), .int .i64 (1), .int .i64 (2), .int .u64 (l0 (0)), .int .u64 (l1 (0)), .int .u64 (l2 (0)), .int .u64 (l3 (0)), .int .u64 (l4 (0)), .bool false, .bool false, .int .u64 (l0 (0)), .int .u64 (l1 (0)), .int .u64 (l2 (0)), .int .u64 (l3 (0)), .int .i64 (0), .bool false, .int .u64 (l0 (0)), .int .u64 (l1 (0)), .int .u64 (l2 (0)), .int .u64 (l3 (0)), .int .i64 (0)] [.int .i64 0, .int .i64 0, .int .i64 0, .int .i64 0, .int .i64 0, .int .u64 0, .int .u64 0, .int .u64 0, .int .u64 0, .int .u64 0, .bool false, .bool false, .int .u64 0, .int .u64 0, .int .u64 0, .int .u64 0, .int .i64 0, .bool false, .int .u64 0, .int .u64 0, .int .u64 0, .int .u64 0, .int .i64 0] [.int .i64 (1), .int .i64 (0), .int .i64 (0), .int .i64 (1), .int .i64 (2), .int .u64 (l0 (0)), .int .u64 (l1 (0)), .int .u64 (l2 (0)), .int .u64 (l3 (0)), .int .u64 (l4 (0)), .bool false, .bool false, .int .u64 (l0 (0)), .int .u64 (l1 (0)), .int .u64 (l2 (0)), .int .u64 (l3 (0)), .int .i64 (0), .bool false, .int .u64 (l0 (0)), .int .u64 (l1 (0)), .int .u64 (l2 (0)), .int .u64 (l3 (0)), .int .i64 (0)] Q2 rfl rfl rfl rfl rfl sz33 rfl rfl rfl ?_
  intro w4 hS Qn
  replace Q2 := Qn
  clear Qn
  replace Q1 := hS.other _ _ ne_k1_k2 Q1
  replace M := hS.mo _ N_k2 M
  clear hS
  refine w_nil ?_
  refine xn_then ?_
  refine w_ret ?_
  exact w_ret1 _ (.agg #[.int .i64 (1), .int .i64 (0), .int .i64 (0), .int .i64 (1), .int .i64 (2), .int .u64 (l0 (0)), .int .u64 (l1 (0)), .int .u64 (l2 (0)), .int .u64 (l3 (0)), .int .u64 (l4 (0)), .bool false, .bool false, .int .u64 (l0 (0)), .int .u64 (l1 (0)), .int .u64 (l2 (0)), .int .u64 (l3 (0)), .int .i64 (0), .bool false, .int .u64 (l0 (0)), .int .u64 (l1 (0)), .int .u64 (l2 (0)), .int .u64 (l3 (0)), .int .i64 (0)]) rfl ⟨k2, rfl, (run_row Q2 42 0 23 [.int .i64 (1), .int .i64 (0), .int .i64 (0), .int .i64 (1), .int .i64 (2), .int .u64 (l0 (0)), .int .u64 (l1 (0)), .int .u64 (l2 (0)), .int .u64 (l3 (0)), .int .u64 (l4 (0)), .bool false, .bool false, .int .u64 (l0 (0)), .int .u64 (l1 (0)), .int .u64 (l2 (0)), .int .u64 (l3 (0)), .int .i64 (0), .bool false, .int .u64 (l0 (0)), .int .u64 (l1 (0)), .int .u64 (l2 (0)), .int .u64 (l3 (0)), .int .i64 (0)] rfl Try.underlying42 rfl sz33)⟩ ⟨rfl, M⟩
theorem of_d (K : Int) (vb : Bool) (vn vs : Int) (fl : Bool) (tx : ByteArray) (er sc9 : Int) (hn0 : 0 ≤ vn) (hn : vn < MM) (q0 : decide (K = 0) = false) (q4 : decide (K = 4) = false) (q1 : decide (K = 1) = true) (qs : decide (vs = sc9) = true) (qc : decide (ck vb vn vs = 0) = true) : Calls Try.prog 65 #[vl10 K vb vn vs fl tx er, .int .i64 sc9] w fun e w' => e = .returned (sm 1 (1) (0) (0) (0) (sv vb vn) true vb (vn) (vs) vb (vn) (vs)) ∧ Mo w w' := by
  refine w_enter 56 Try.func65 Try.ntmps65 rfl rfl ?_
  have M : Mo w w := Mo.refl _
  refine w_seq ?_
  refine w_reg ?_
  refine wl_box 55 (.tmp 0) (.agg #[.int .i64 (K), .bool vb, .int .u64 (l0 (vn)), .int .u64 (l1 (vn)), .int .u64 (l2 (vn)), .int .u64 (l3 (vn)), .int .i64 (vs), .bool fl, .string tx, .int .i64 (er)]) (#[.int .i64 (K), .bool vb, .int .u64 (l0 (vn)), .int .u64 (l1 (vn)), .int .u64 (l2 (vn)), .int .u64 (l3 (vn)), .int .i64 (vs), .bool fl, .string tx, .int .i64 (er)]) rfl rfl (fun _ => by kernel_rfl) rfl ?_
  intro k1 w1 hk hz hq Q1
  have N_k1 : w.heap.size ≤ k1 := by have := M.size; omega
  replace M := M.trans hq
  clear hk hz hq
  refine wl_alloc 42 #[.int .i64 0, .int .i64 0, .int .i64 0, .int .i64 0, .int .i64 0, .int .u64 0, .int .u64 0, .int .u64 0, .int .u64 0, .int .u64 0, .bool false, .bool false, .int .u64 0, .int .u64 0, .int .u64 0, .int .u64 0, .int .i64 0, .bool false, .int .u64 0, .int .u64 0, .int .u64 0, .int .u64 0, .int .i64 0] rfl (fun _ => by kernel_rfl) rfl ?_
  intro k2 w2 hk hz hq Q2
  have ne_k1_k2 : k1 ≠ k2 := by have := Q1.lt; omega
  have N_k2 : w.heap.size ≤ k2 := by have := M.size; omega
  replace Q1 := Q1.mo hq
  replace M := M.trans hq
  clear hk hz hq
  refine w_nil ?_
  refine xn_then ?_
  refine w_seq ?_
  refine w_block ?_
  refine w_seq ?_
  refine w_reg ?_
  refine wl_un (fun v => Instr.fieldAt 55 v 0) (.tmp 2) (pt k1 0) (pt k1 0) (fun _ => rfl) rfl (by kernel_rfl) rfl ?_
  refine wl_load 3 (.tmp 6) (pt k1 0) (.int .i64 (K)) rfl rfl (run_one Q1 3 0 rfl Try.underlying3 rfl) rfl ?_
  refine wl_bin (fun x y => do eqGuard .eql 3 (.tmp 7) (.const (.int .i64 (0))) x y; binOp .eql 3 x y) (.tmp 7) (.const (.int .i64 (0))) (.int .i64 (K)) (.int .i64 (0)) (.bool false) (fun _ => rfl) rfl rfl (eqI q0 _ _ _) rfl ?_
  refine wl_mv (.tmp 8) (.bool false) (fun _ => rfl) rfl rfl ?_
  refine w_nil ?_
  refine xn_then ?_
  refine w_condF rfl ?_
  refine w_seq ?_
  refine w_reg ?_
  refine wl_un (fun v => Instr.fieldAt 55 v 0) (.tmp 2) (pt k1 0) (pt k1 0) (fun _ => rfl) rfl (by kernel_rfl) rfl ?_
  refine wl_load 3 (.tmp 11) (pt k1 0) (.int .i64 (K)) rfl rfl (run_one Q1 3 0 rfl Try.underlying3 rfl) rfl ?_
  refine wl_bin (fun x y => do eqGuard .eql 3 (.tmp 12) (.const (.int .i64 (4))) x y; binOp .eql 3 x y) (.tmp 12) (.const (.int .i64 (4))) (.int .i64 (K)) (.int .i64 (4)) (.bool false) (fun _ => rfl) rfl rfl (eqI q4 _ _ _) rfl ?_
  refine wl_mv (.tmp 13) (.bool false) (fun _ => rfl) rfl rfl ?_
  refine wl_skip rfl ?_
  refine wl_skip rfl ?_
  refine wl_skip rfl ?_
  refine wl_pick (.tmp 14) (.tmp 17) (.const (.bool false)) false (.bool false) (fun _ => rfl) rfl rfl rfl ?_
  refine wl_mv (.tmp 18) (.bool false) (fun _ => rfl) rfl rfl ?_
  refine w_nil ?_
  refine xn_then ?_
  refine w_condF rfl ?_
  refine w_seq ?_
  refine w_reg ?_
  refine wl_un (fun v => Instr.fieldAt 55 v 0) (.tmp 2) (pt k1 0) (pt k1 0) (fun _ => rfl) rfl (by kernel_rfl) rfl ?_
  refine wl_load 3 (.tmp 23) (pt k1 0) (.int .i64 (K)) rfl rfl (run_one Q1 3 0 rfl Try.underlying3 rfl) rfl ?_
  refine wl_bin (fun x y => do eqGuard .eql 3 (.tmp 24) (.const (.int .i64 (1))) x y; binOp .eql 3 x y) (.tmp 24) (.const (.int .i64 (1))) (.int .i64 (K)) (.int .i64 (1)) (.bool true) (fun _ => rfl) rfl rfl (eqI q1 _ _ _) rfl ?_
  refine wl_mv (.tmp 25) (.bool true) (fun _ => rfl) rfl rfl ?_
  refine wl_un (fun v => Instr.fieldAt 55 v 1) (.tmp 2) (pt k1 0) (pt k1 1) (fun _ => rfl) rfl (by kernel_rfl) rfl ?_
  refine wl_un (fun v => Instr.fieldAt 40 v 2) (.tmp 27) (pt k1 1) (pt k1 6) (fun _ => rfl) rfl (by kernel_rfl) rfl ?_
  refine wl_load 3 (.tmp 28) (pt k1 6) (.int .i64 (vs)) rfl rfl (run_one Q1 3 6 rfl Try.underlying3 rfl) rfl ?_
  refine wl_mv (.tmp 1) (.int .i64 (sc9)) (fun _ => rfl) rfl rfl ?_
  refine wl_bin (fun x y => do eqGuard .eql 3 (.tmp 29) (.tmp 30) x y; binOp .eql 3 x y) (.tmp 29) (.tmp 30) (.int .i64 (vs)) (.int .i64 (sc9)) (.bool true) (fun _ => rfl) rfl rfl (eqI qs _ _ _) rfl ?_
  refine wl_pick (.tmp 26) (.tmp 31) (.const (.bool false)) true (.bool true) (fun _ => rfl) rfl rfl rfl ?_
  refine wl_mv (.tmp 32) (.bool true) (fun _ => rfl) rfl rfl ?_
  refine wl_un (fun v => Instr.fieldAt 55 v 1) (.tmp 2) (pt k1 0) (pt k1 1) (fun _ => rfl) rfl (by kernel_rfl) rfl ?_
  refine wl_load 40 (.tmp 34) (pt k1 1) (.agg #[.bool vb, .int .u64 (l0 (vn)), .int .u64 (l1 (vn)), .int .u64 (l2 (vn)), .int .u64 (l3 (vn)), .int .i64 (vs)]) rfl rfl (run_row Q1 40 1 6 [.bool vb, .int .u64 (l0 (vn)), .int .u64 (l1 (vn)), .int .u64 (l2 (vn)), .int .u64 (l3 (vn)), .int .i64 (vs)] rfl Try.underlying40 rfl sz26) rfl ?_
  refine wl_call 77 [(.tmp 35)] _ [.agg #[.bool vb, .int .u64 (l0 (vn)), .int .u64 (l1 (vn)), .int .u64 (l2 (vn)), .int .u64 (l3 (vn)), .int .i64 (vs)]] (.int .i64 (ck vb vn vs)) rfl rfl (fun _ _ => by kernel_rfl) (check_n vb vn vs _ hn0 hn) rfl ?_
  intro w3 hq
  replace Q1 := Q1.mo hq
  replace Q2 := Q2.mo hq
  replace M := M.trans hq
  clear hq
  refine wl_bin (fun x y => do eqGuard .eql 25 (.tmp 36) (.const (.int .i64 (0))) x y; binOp .eql 25 x y) (.tmp 36) (.const (.int .i64 (0))) (.int .i64 (ck vb vn vs)) (.int .i64 (0)) (.bool true) (fun _ => rfl) rfl rfl (eqE qc _ _ _) rfl ?_
  refine wl_pick (.tmp 33) (.tmp 37) (.const (.bool false)) true (.bool true) (fun _ => rfl) rfl rfl rfl ?_
  refine wl_mv (.tmp 38) (.bool true) (fun _ => rfl) rfl rfl ?_
  refine w_nil ?_
  refine xn_then ?_
  refine w_condT rfl ?_
  refine w_seq ?_
  refine w_any 8 [.inl (pt k1 1), .inl (.agg #[.bool vb, .int .u64 (l0 (vn)), .int .u64 (l1 (vn)), .int .u64 (l2 (vn)), .int .u64 (l3 (vn)), .int .i64 (vs)]), .inl (.agg #[.int .u64 (l0 (sv vb vn)), .int .u64 (l1 (sv vb vn)), .int .u64 (l2 (sv vb vn)), .int .u64 (l3 (sv vb vn)), .int .u64 (l4 (sv vb vn))]), .inl (pt k1 1), .inl (.agg #[.bool vb, .int .u64 (l0 (vn)), .int .u64 (l1 (vn)), .int .u64 (l2 (vn)), .int .u64 (l3 (vn)), .int .i64 (vs)]), .inl (pt k1 1), .inl (.agg #[.bool vb, .int .u64 (l0 (vn)), .int .u64 (l1 (vn)), .int .u64 (l2 (vn)), .int .u64 (l3 (vn)), .int .i64 (vs)]), .inl (.agg #[.int .i64 (1), .int .i64 (1), .int .i64 0, .int .i64 0, .int .i64 0, .int .u64 (l0 (sv vb vn)), .int .u64 (l1 (sv vb vn)), .int .u64 (l2 (sv vb vn)), .int .u64 (l3 (sv vb vn)), .int .u64 (l4 (sv vb vn)), .bool true, .bool vb, .int .u64 (l0 (vn)), .int .u64 (l1 (vn)), .int .u64 (l2 (vn)), .int .u64 (l3 (vn)), .int .i64 (vs), .bool vb, .int .u64 (l0 (vn)), .int .u64 (l1 (vn)), .int .u64 (l2 (vn)), .int .u64 (l3 (vn)), .int .i64 (vs)])] [] (by kernel_rfl) (by kernel_rfl) (by kernel_rfl) (by kernel_rfl) rfl (by kernel_rfl) (by kernel_rfl) late_nil ?_ ?_ ?_
  · exact Ds.none rfl
  · refine ea_cons ?_ (ea_cons ?_ (ea_cons ?_ (ea_cons ?_ (ea_cons ?_ (ea_cons ?_ (ea_cons ?_ (ea_cons ?_ (ea_nil))))))))
    · exact og_eq (pt k1 1) rfl (fun f wf hq hd K hK => go_run rfl (wo_un (fun v => Instr.fieldAt 55 v 1) (.tmp 2) (pt k1 0) (pt k1 1) (fun _ => rfl) rfl (by kernel_rfl) (hK _ (Mo.refl _))))
    · exact og_eq (.agg #[.bool vb, .int .u64 (l0 (vn)), .int .u64 (l1 (vn)), .int .u64 (l2 (vn)), .int .u64 (l3 (vn)), .int .i64 (vs)]) rfl (fun f wf hq hd K hK => have Q1 := Q1.mo hq; go_run rfl (wo_load 40 (.tmp 39) (pt k1 1) (.agg #[.bool vb, .int .u64 (l0 (vn)), .int .u64 (l1 (vn)), .int .u64 (l2 (vn)), .int .u64 (l3 (vn)), .int .i64 (vs)]) rfl (hd 0 rfl) (run_row Q1 40 1 6 [.bool vb, .int .u64 (l0 (vn)), .int .u64 (l1 (vn)), .int .u64 (l2 (vn)), .int .u64 (l3 (vn)), .int .i64 (vs)] rfl Try.underlying40 rfl sz26) (hK _ (Mo.refl _))))
    · exact og_eq (.agg #[.int .u64 (l0 (sv vb vn)), .int .u64 (l1 (sv vb vn)), .int .u64 (l2 (sv vb vn)), .int .u64 (l3 (sv vb vn)), .int .u64 (l4 (sv vb vn))]) rfl (fun f wf hq hd K hK => go_run rfl (wo_call 78 [(.tmp 40)] _ [.agg #[.bool vb, .int .u64 (l0 (vn)), .int .u64 (l1 (vn)), .int .u64 (l2 (vn)), .int .u64 (l3 (vn)), .int .i64 (vs)]] (.agg #[.int .u64 (l0 (sv vb vn)), .int .u64 (l1 (sv vb vn)), .int .u64 (l2 (sv vb vn)), .int .u64 (l3 (sv vb vn)), .int .u64 (l4 (sv vb vn))]) rfl (li1 (hd 1 rfl)) (fun _ _ => by kernel_rfl) (widen_n vb vn vs hn0 hn) hK))
    · exact og_eq (pt k1 1) rfl (fun f wf hq hd K hK => go_run rfl (wo_un (fun v => Instr.fieldAt 55 v 1) (.tmp 2) (pt k1 0) (pt k1 1) (fun _ => rfl) rfl (by kernel_rfl) (hK _ (Mo.refl _))))
    · exact og_eq (.agg #[.bool vb, .int .u64 (l0 (vn)), .int .u64 (l1 (vn)), .int .u64 (l2 (vn)), .int .u64 (l3 (vn)), .int .i64 (vs)]) rfl (fun f wf hq hd K hK => have Q1 := Q1.mo hq; go_run rfl (wo_load 40 (.tmp 42) (pt k1 1) (.agg #[.bool vb, .int .u64 (l0 (vn)), .int .u64 (l1 (vn)), .int .u64 (l2 (vn)), .int .u64 (l3 (vn)), .int .i64 (vs)]) rfl (hd 3 rfl) (run_row Q1 40 1 6 [.bool vb, .int .u64 (l0 (vn)), .int .u64 (l1 (vn)), .int .u64 (l2 (vn)), .int .u64 (l3 (vn)), .int .i64 (vs)] rfl Try.underlying40 rfl sz26) (hK _ (Mo.refl _))))
    · exact og_eq (pt k1 1) rfl (fun f wf hq hd K hK => go_run rfl (wo_un (fun v => Instr.fieldAt 55 v 1) (.tmp 2) (pt k1 0) (pt k1 1) (fun _ => rfl) rfl (by kernel_rfl) (hK _ (Mo.refl _))))
    · exact og_eq (.agg #[.bool vb, .int .u64 (l0 (vn)), .int .u64 (l1 (vn)), .int .u64 (l2 (vn)), .int .u64 (l3 (vn)), .int .i64 (vs)]) rfl (fun f wf hq hd K hK => have Q1 := Q1.mo hq; go_run rfl (wo_load 40 (.tmp 44) (pt k1 1) (.agg #[.bool vb, .int .u64 (l0 (vn)), .int .u64 (l1 (vn)), .int .u64 (l2 (vn)), .int .u64 (l3 (vn)), .int .i64 (vs)]) rfl (hd 5 rfl) (run_row Q1 40 1 6 [.bool vb, .int .u64 (l0 (vn)), .int .u64 (l1 (vn)), .int .u64 (l2 (vn)), .int .u64 (l3 (vn)), .int .i64 (vs)] rfl Try.underlying40 rfl sz26) (hK _ (Mo.refl _))))
    · exact og_eq (.agg #[.int .i64 (1), .int .i64 (1), .int .i64 0, .int .i64 0, .int .i64 0, .int .u64 (l0 (sv vb vn)), .int .u64 (l1 (sv vb vn)), .int .u64 (l2 (sv vb vn)), .int .u64 (l3 (sv vb vn)), .int .u64 (l4 (sv vb vn)), .bool true, .bool vb, .int .u64 (l0 (vn)), .int .u64 (l1 (vn)), .int .u64 (l2 (vn)), .int .u64 (l3 (vn)), .int .i64 (vs), .bool vb, .int .u64 (l0 (vn)), .int .u64 (l1 (vn)), .int .u64 (l2 (vn)), .int .u64 (l3 (vn)), .int .i64 (vs)]) rfl (fun f wf hq hd K hK => go_run rfl (wo_build 42 [(0, (.const (.int .i64 (1)))), (1, (.const (.int .i64 (1)))), (5, (.tmp 41)), (6, (.const (.bool true))), (7, (.tmp 43)), (8, (.tmp 45))] [(0, .int .i64 (1)), (1, .int .i64 (1)), (5, .agg #[.int .u64 (l0 (sv vb vn)), .int .u64 (l1 (sv vb vn)), .int .u64 (l2 (sv vb vn)), .int .u64 (l3 (sv vb vn)), .int .u64 (l4 (sv vb vn))]), (6, .bool true), (7, .agg #[.bool vb, .int .u64 (l0 (vn)), .int .u64 (l1 (vn)), .int .u64 (l2 (vn)), .int .u64 (l3 (vn)), .int .i64 (vs)]), (8, .agg #[.bool vb, .int .u64 (l0 (vn)), .int .u64 (l1 (vn)), .int .u64 (l2 (vn)), .int .u64 (l3 (vn)), .int .i64 (vs)])] (.agg #[.int .i64 (1), .int .i64 (1), .int .i64 0, .int .i64 0, .int .i64 0, .int .u64 (l0 (sv vb vn)), .int .u64 (l1 (sv vb vn)), .int .u64 (l2 (sv vb vn)), .int .u64 (l3 (sv vb vn)), .int .u64 (l4 (sv vb vn)), .bool true, .bool vb, .int .u64 (l0 (vn)), .int .u64 (l1 (vn)), .int .u64 (l2 (vn)), .int .u64 (l3 (vn)), .int .i64 (vs), .bool vb, .int .u64 (l0 (vn)), .int .u64 (l1 (vn)), .int .u64 (l2 (vn)), .int .u64 (l3 (vn)), .int .i64 (vs)]) rfl (lp6 rfl rfl (hd 2 rfl) rfl (hd 4 rfl) (hd 6 rfl)) (by kernel_rfl) (hK _ (Mo.refl _))))
  intro kf4 w4 hq hR hne
  replace Q1 := Q1.mo hq
  replace Q2 := Q2.mo hq
  replace M := M.trans hq
  clear hq hR hne
  refine wl_st 42 (.tmp 4) (.tmp 46) k2 0 #[.int .i64 (1), .int .i64 (1), .int .i64 0, .int .i64 0, .int .i64 0, .int .u64 (l0 (sv vb vn)), .int .u64 (l1 (sv vb vn)), .int .u64 (l2 (sv vb vn)), .int .u64 (l3 (sv vb vn)), .int .u64 (l4 (sv vb vn)), .bool true, .bool vb, .int .u64 (l0 (vn)), .int .u64 (l1 (vn)), .int .u64 (l2 (vn)), .int .u64 (l3 (vn)), .int .i64 (vs), .bool vb, .int .u64 (l0 (vn)), .int .u64 (l1 (vn)), .int .u64 (l2 (vn)), .int .u64 (l3 (vn)), .int .i64 (vs)] [.int .i64 0, .int .i64 0, .int .i64 0, .int .i64 0, .int .i64 0, .int .u64 0, .int .u64 0, .int .u64 0, .int .u64 0, .int .u64 0, .bool false, .bool false, .int .u64 0, .int .u64 0, .int .u64 0, .int .u64 0, .int .i64 0, .bool false, .int .u64 0, .int .u64 0, .int .u64 0, .int .u64 0, .int .i64 0] [.int .i64 (1), .int .i64 (1), .int .i64 0, .int .i64 0, .int .i64 0, .int .u64 (l0 (sv vb vn)), .int .u64 (l1 (sv vb vn)), .int .u64 (l2 (sv vb vn)), .int .u64 (l3 (sv vb vn)), .int .u64 (l4 (sv vb vn)), .bool true, .bool vb, .int .u64 (l0 (vn)), .int .u64 (l1 (vn)), .int .u64 (l2 (vn)), .int .u64 (l3 (vn)), .int .i64 (vs), .bool vb, .int .u64 (l0 (vn)), .int .u64 (l1 (vn)), .int .u64 (l2 (vn)), .int .u64 (l3 (vn)), .int .i64 (vs)] Q2 rfl rfl rfl rfl rfl sz33 rfl rfl rfl ?_
  intro w5 hS Qn
  replace Q2 := Qn
  clear Qn
  replace Q1 := hS.other _ _ ne_k1_k2 Q1
  replace M := hS.mo _ N_k2 M
  clear hS
  refine w_nil ?_
  refine xn_then ?_
  refine w_ret ?_
  refine xr_blk ?_
  refine xr_then ?_
  exact w_ret1 _ (.agg #[.int .i64 (1), .int .i64 (1), .int .i64 0, .int .i64 0, .int .i64 0, .int .u64 (l0 (sv vb vn)), .int .u64 (l1 (sv vb vn)), .int .u64 (l2 (sv vb vn)), .int .u64 (l3 (sv vb vn)), .int .u64 (l4 (sv vb vn)), .bool true, .bool vb, .int .u64 (l0 (vn)), .int .u64 (l1 (vn)), .int .u64 (l2 (vn)), .int .u64 (l3 (vn)), .int .i64 (vs), .bool vb, .int .u64 (l0 (vn)), .int .u64 (l1 (vn)), .int .u64 (l2 (vn)), .int .u64 (l3 (vn)), .int .i64 (vs)]) rfl ⟨k2, rfl, (run_row Q2 42 0 23 [.int .i64 (1), .int .i64 (1), .int .i64 0, .int .i64 0, .int .i64 0, .int .u64 (l0 (sv vb vn)), .int .u64 (l1 (sv vb vn)), .int .u64 (l2 (sv vb vn)), .int .u64 (l3 (sv vb vn)), .int .u64 (l4 (sv vb vn)), .bool true, .bool vb, .int .u64 (l0 (vn)), .int .u64 (l1 (vn)), .int .u64 (l2 (vn)), .int .u64 (l3 (vn)), .int .i64 (vs), .bool vb, .int .u64 (l0 (vn)), .int .u64 (l1 (vn)), .int .u64 (l2 (vn)), .int .u64 (l3 (vn)), .int .i64 (vs)] rfl Try.underlying42 rfl sz33)⟩ ⟨rfl, M⟩
theorem of_e (K : Int) (vb : Bool) (vn vs : Int) (fl : Bool) (tx : ByteArray) (er sc9 : Int) (q0 : decide (K = 0) = false) (q4 : decide (K = 4) = false) (q1 : decide (K = 1) = true) (qs : decide (vs = sc9) = false) (q2 : decide (K = 2) = false) (q3 : decide (K = 3) = false) : Calls Try.prog 65 #[vl10 K vb vn vs fl tx er, .int .i64 sc9] w fun e w' => e = .returned (sm 1 (0) (0) (1) (2) (0) false false (0) (0) false (0) (0)) ∧ Mo w w' := by
  refine w_enter 56 Try.func65 Try.ntmps65 rfl rfl ?_
  have M : Mo w w := Mo.refl _
  refine w_seq ?_
  refine w_reg ?_
  refine wl_box 55 (.tmp 0) (.agg #[.int .i64 (K), .bool vb, .int .u64 (l0 (vn)), .int .u64 (l1 (vn)), .int .u64 (l2 (vn)), .int .u64 (l3 (vn)), .int .i64 (vs), .bool fl, .string tx, .int .i64 (er)]) (#[.int .i64 (K), .bool vb, .int .u64 (l0 (vn)), .int .u64 (l1 (vn)), .int .u64 (l2 (vn)), .int .u64 (l3 (vn)), .int .i64 (vs), .bool fl, .string tx, .int .i64 (er)]) rfl rfl (fun _ => by kernel_rfl) rfl ?_
  intro k1 w1 hk hz hq Q1
  have N_k1 : w.heap.size ≤ k1 := by have := M.size; omega
  replace M := M.trans hq
  clear hk hz hq
  refine wl_alloc 42 #[.int .i64 0, .int .i64 0, .int .i64 0, .int .i64 0, .int .i64 0, .int .u64 0, .int .u64 0, .int .u64 0, .int .u64 0, .int .u64 0, .bool false, .bool false, .int .u64 0, .int .u64 0, .int .u64 0, .int .u64 0, .int .i64 0, .bool false, .int .u64 0, .int .u64 0, .int .u64 0, .int .u64 0, .int .i64 0] rfl (fun _ => by kernel_rfl) rfl ?_
  intro k2 w2 hk hz hq Q2
  have ne_k1_k2 : k1 ≠ k2 := by have := Q1.lt; omega
  have N_k2 : w.heap.size ≤ k2 := by have := M.size; omega
  replace Q1 := Q1.mo hq
  replace M := M.trans hq
  clear hk hz hq
  refine w_nil ?_
  refine xn_then ?_
  refine w_seq ?_
  refine w_block ?_
  refine w_seq ?_
  refine w_reg ?_
  refine wl_un (fun v => Instr.fieldAt 55 v 0) (.tmp 2) (pt k1 0) (pt k1 0) (fun _ => rfl) rfl (by kernel_rfl) rfl ?_
  refine wl_load 3 (.tmp 6) (pt k1 0) (.int .i64 (K)) rfl rfl (run_one Q1 3 0 rfl Try.underlying3 rfl) rfl ?_
  refine wl_bin (fun x y => do eqGuard .eql 3 (.tmp 7) (.const (.int .i64 (0))) x y; binOp .eql 3 x y) (.tmp 7) (.const (.int .i64 (0))) (.int .i64 (K)) (.int .i64 (0)) (.bool false) (fun _ => rfl) rfl rfl (eqI q0 _ _ _) rfl ?_
  refine wl_mv (.tmp 8) (.bool false) (fun _ => rfl) rfl rfl ?_
  refine w_nil ?_
  refine xn_then ?_
  refine w_condF rfl ?_
  refine w_seq ?_
  refine w_reg ?_
  refine wl_un (fun v => Instr.fieldAt 55 v 0) (.tmp 2) (pt k1 0) (pt k1 0) (fun _ => rfl) rfl (by kernel_rfl) rfl ?_
  refine wl_load 3 (.tmp 11) (pt k1 0) (.int .i64 (K)) rfl rfl (run_one Q1 3 0 rfl Try.underlying3 rfl) rfl ?_
  refine wl_bin (fun x y => do eqGuard .eql 3 (.tmp 12) (.const (.int .i64 (4))) x y; binOp .eql 3 x y) (.tmp 12) (.const (.int .i64 (4))) (.int .i64 (K)) (.int .i64 (4)) (.bool false) (fun _ => rfl) rfl rfl (eqI q4 _ _ _) rfl ?_
  refine wl_mv (.tmp 13) (.bool false) (fun _ => rfl) rfl rfl ?_
  refine wl_skip rfl ?_
  refine wl_skip rfl ?_
  refine wl_skip rfl ?_
  refine wl_pick (.tmp 14) (.tmp 17) (.const (.bool false)) false (.bool false) (fun _ => rfl) rfl rfl rfl ?_
  refine wl_mv (.tmp 18) (.bool false) (fun _ => rfl) rfl rfl ?_
  refine w_nil ?_
  refine xn_then ?_
  refine w_condF rfl ?_
  refine w_seq ?_
  refine w_reg ?_
  refine wl_un (fun v => Instr.fieldAt 55 v 0) (.tmp 2) (pt k1 0) (pt k1 0) (fun _ => rfl) rfl (by kernel_rfl) rfl ?_
  refine wl_load 3 (.tmp 23) (pt k1 0) (.int .i64 (K)) rfl rfl (run_one Q1 3 0 rfl Try.underlying3 rfl) rfl ?_
  refine wl_bin (fun x y => do eqGuard .eql 3 (.tmp 24) (.const (.int .i64 (1))) x y; binOp .eql 3 x y) (.tmp 24) (.const (.int .i64 (1))) (.int .i64 (K)) (.int .i64 (1)) (.bool true) (fun _ => rfl) rfl rfl (eqI q1 _ _ _) rfl ?_
  refine wl_mv (.tmp 25) (.bool true) (fun _ => rfl) rfl rfl ?_
  refine wl_un (fun v => Instr.fieldAt 55 v 1) (.tmp 2) (pt k1 0) (pt k1 1) (fun _ => rfl) rfl (by kernel_rfl) rfl ?_
  refine wl_un (fun v => Instr.fieldAt 40 v 2) (.tmp 27) (pt k1 1) (pt k1 6) (fun _ => rfl) rfl (by kernel_rfl) rfl ?_
  refine wl_load 3 (.tmp 28) (pt k1 6) (.int .i64 (vs)) rfl rfl (run_one Q1 3 6 rfl Try.underlying3 rfl) rfl ?_
  refine wl_mv (.tmp 1) (.int .i64 (sc9)) (fun _ => rfl) rfl rfl ?_
  refine wl_bin (fun x y => do eqGuard .eql 3 (.tmp 29) (.tmp 30) x y; binOp .eql 3 x y) (.tmp 29) (.tmp 30) (.int .i64 (vs)) (.int .i64 (sc9)) (.bool false) (fun _ => rfl) rfl rfl (eqI qs _ _ _) rfl ?_
  refine wl_pick (.tmp 26) (.tmp 31) (.const (.bool false)) true (.bool false) (fun _ => rfl) rfl rfl rfl ?_
  refine wl_mv (.tmp 32) (.bool false) (fun _ => rfl) rfl rfl ?_
  refine wl_skip rfl ?_
  refine wl_skip rfl ?_
  refine wl_skip rfl ?_
  refine wl_skip rfl ?_
  refine wl_pick (.tmp 33) (.tmp 37) (.const (.bool false)) false (.bool false) (fun _ => rfl) rfl rfl rfl ?_
  refine wl_mv (.tmp 38) (.bool false) (fun _ => rfl) rfl rfl ?_
  refine w_nil ?_
  refine xn_then ?_
  refine w_condF rfl ?_
  refine w_seq ?_
  refine w_seq ?_
  refine w_reg ?_
  refine wl_un (fun v => Instr.fieldAt 55 v 0) (.tmp 2) (pt k1 0) (pt k1 0) (fun _ => rfl) rfl (by kernel_rfl) rfl ?_
  refine wl_load 3 (.tmp 48) (pt k1 0) (.int .i64 (K)) rfl rfl (run_one Q1 3 0 rfl Try.underlying3 rfl) rfl ?_
  refine wl_bin (fun x y => do eqGuard .eql 3 (.tmp 49) (.const (.int .i64 (2))) x y; binOp .eql 3 x y) (.tmp 49) (.const (.int .i64 (2))) (.int .i64 (K)) (.int .i64 (2)) (.bool false) (fun _ => rfl) rfl rfl (eqI q2 _ _ _) rfl ?_
  refine wl_mv (.tmp 50) (.bool false) (fun _ => rfl) rfl rfl ?_
  refine w_nil ?_
  refine xn_then ?_
  refine w_condF rfl ?_
  refine w_reg ?_
  refine wl_un (fun v => Instr.fieldAt 55 v 0) (.tmp 2) (pt k1 0) (pt k1 0) (fun _ => rfl) rfl (by kernel_rfl) rfl ?_
  refine wl_load 3 (.tmp 51) (pt k1 0) (.int .i64 (K)) rfl rfl (run_one Q1 3 0 rfl Try.underlying3 rfl) rfl ?_
  refine wl_bin (fun x y => do eqGuard .eql 3 (.tmp 52) (.const (.int .i64 (3))) x y; binOp .eql 3 x y) (.tmp 52) (.const (.int .i64 (3))) (.int .i64 (K)) (.int .i64 (3)) (.bool false) (fun _ => rfl) rfl rfl (eqI q3 _ _ _) rfl ?_
  refine wl_mv (.tmp 53) (.bool false) (fun _ => rfl) rfl rfl ?_
  refine w_nil ?_
  refine xn_then ?_
  refine w_condF rfl ?_
  refine w_skip ?_
  refine xn_blk ?_
  refine xn_then ?_
  refine w_seq ?_
  refine w_reg ?_
  refine wl_call 76 [(.const (.int .i64 (2)))] _ [.int .i64 (2)] (.agg #[.int .i64 (1), .int .i64 (0), .int .i64 (0), .int .i64 (1), .int .i64 (2), .int .u64 (l0 (0)), .int .u64 (l1 (0)), .int .u64 (l2 (0)), .int .u64 (l3 (0)), .int .u64 (l4 (0)), .bool false, .bool false, .int .u64 (l0 (0)), .int .u64 (l1 (0)), .int .u64 (l2 (0)), .int .u64 (l3 (0)), .int .i64 (0), .bool false, .int .u64 (l0 (0)), .int .u64 (l1 (0)), .int .u64 (l2 (0)), .int .u64 (l3 (0)), .int .i64 (0)]) rfl rfl (fun _ _ => by kernel_rfl) (ofError_n (2)) rfl ?_
  intro w3 hq
  replace Q1 := Q1.mo hq
  replace Q2 := Q2.mo hq
  replace M := M.trans hq
  clear hq
  refine wl_st 42 (.tmp 4) (.tmp 55) k2 0 #[.int .i64 (1), .int .i64 (0), .int .i64 (0), .int .i64 (1), .int .i64 (2), .int .u64 (l0 (0)), .int .u64 (l1 (0)), .int .u64 (l2 (0)), .int .u64 (l3 (0)), .int .u64 (l4 (0)), .bool false, .bool false, .int .u64 (l0 (0)), .int .u64 (l1 (0)), .int .u64 (l2 (0)), .int .u64 (l3 (0)), .int .i64 (0), .bool false, .int .u64 (l0 (0)), .int .u64 (l1 (0)), .int .u64 (l2 (0)), .int .u64 (l3 (0)), .int .i64 (0)] [.int .i64 0, .int .i64 0, .int .i64 0, .int .i64 0, .int .i64 0, .int .u64 0, .int .u64 0, .int .u64 0, .int .u64 0, .int .u64 0, .bool false, .bool false, .int .u64 0, .int .u64 0, .int .u64 0, .int .u64 0, .int .i64 0, .bool false, .int .u64 0, .int .u64 0, .int .u64 0, .int .u64 0, .int .i64 0] [.int .i64 (1), .int .i64 (0), .int .i64 (0), .int .i64 (1), .int .i64 (2), .int .u64 (l0 (0)), .int .u64 (l1 (0)), .int .u64 (l2 (0)), .int .u64 (l3 (0)), .int .u64 (l4 (0)), .bool false, .bool false, .int .u64 (l0 (0)), .int .u64 (l1 (0)), .int .u64 (l2 (0)), .int .u64 (l3 (0)), .int .i64 (0), .bool false, .int .u64 (l0 (0)), .int .u64 (l1 (0)), .int .u64 (l2 (0)), .int .u64 (l3 (0)), .int .i64 (0)] Q2 rfl rfl rfl rfl rfl sz33 rfl rfl rfl ?_
  intro w4 hS Qn
  replace Q2 := Qn
  clear Qn
  replace Q1 := hS.other _ _ ne_k1_k2 Q1
  replace M := hS.mo _ N_k2 M
  clear hS
  refine w_nil ?_
  refine xn_then ?_
  refine w_ret ?_
  exact w_ret1 _ (.agg #[.int .i64 (1), .int .i64 (0), .int .i64 (0), .int .i64 (1), .int .i64 (2), .int .u64 (l0 (0)), .int .u64 (l1 (0)), .int .u64 (l2 (0)), .int .u64 (l3 (0)), .int .u64 (l4 (0)), .bool false, .bool false, .int .u64 (l0 (0)), .int .u64 (l1 (0)), .int .u64 (l2 (0)), .int .u64 (l3 (0)), .int .i64 (0), .bool false, .int .u64 (l0 (0)), .int .u64 (l1 (0)), .int .u64 (l2 (0)), .int .u64 (l3 (0)), .int .i64 (0)]) rfl ⟨k2, rfl, (run_row Q2 42 0 23 [.int .i64 (1), .int .i64 (0), .int .i64 (0), .int .i64 (1), .int .i64 (2), .int .u64 (l0 (0)), .int .u64 (l1 (0)), .int .u64 (l2 (0)), .int .u64 (l3 (0)), .int .u64 (l4 (0)), .bool false, .bool false, .int .u64 (l0 (0)), .int .u64 (l1 (0)), .int .u64 (l2 (0)), .int .u64 (l3 (0)), .int .i64 (0), .bool false, .int .u64 (l0 (0)), .int .u64 (l1 (0)), .int .u64 (l2 (0)), .int .u64 (l3 (0)), .int .i64 (0)] rfl Try.underlying42 rfl sz33)⟩ ⟨rfl, M⟩
theorem of_f (K : Int) (vb : Bool) (vn vs : Int) (fl : Bool) (tx : ByteArray) (er sc9 : Int) (hn0 : 0 ≤ vn) (hn : vn < MM) (q0 : decide (K = 0) = false) (q4 : decide (K = 4) = false) (q1 : decide (K = 1) = true) (qs : decide (vs = sc9) = true) (qc : decide (ck vb vn vs = 0) = false) (q2 : decide (K = 2) = false) (q3 : decide (K = 3) = false) : Calls Try.prog 65 #[vl10 K vb vn vs fl tx er, .int .i64 sc9] w fun e w' => e = .returned (sm 1 (0) (0) (1) (2) (0) false false (0) (0) false (0) (0)) ∧ Mo w w' := by
  refine w_enter 56 Try.func65 Try.ntmps65 rfl rfl ?_
  have M : Mo w w := Mo.refl _
  refine w_seq ?_
  refine w_reg ?_
  refine wl_box 55 (.tmp 0) (.agg #[.int .i64 (K), .bool vb, .int .u64 (l0 (vn)), .int .u64 (l1 (vn)), .int .u64 (l2 (vn)), .int .u64 (l3 (vn)), .int .i64 (vs), .bool fl, .string tx, .int .i64 (er)]) (#[.int .i64 (K), .bool vb, .int .u64 (l0 (vn)), .int .u64 (l1 (vn)), .int .u64 (l2 (vn)), .int .u64 (l3 (vn)), .int .i64 (vs), .bool fl, .string tx, .int .i64 (er)]) rfl rfl (fun _ => by kernel_rfl) rfl ?_
  intro k1 w1 hk hz hq Q1
  have N_k1 : w.heap.size ≤ k1 := by have := M.size; omega
  replace M := M.trans hq
  clear hk hz hq
  refine wl_alloc 42 #[.int .i64 0, .int .i64 0, .int .i64 0, .int .i64 0, .int .i64 0, .int .u64 0, .int .u64 0, .int .u64 0, .int .u64 0, .int .u64 0, .bool false, .bool false, .int .u64 0, .int .u64 0, .int .u64 0, .int .u64 0, .int .i64 0, .bool false, .int .u64 0, .int .u64 0, .int .u64 0, .int .u64 0, .int .i64 0] rfl (fun _ => by kernel_rfl) rfl ?_
  intro k2 w2 hk hz hq Q2
  have ne_k1_k2 : k1 ≠ k2 := by have := Q1.lt; omega
  have N_k2 : w.heap.size ≤ k2 := by have := M.size; omega
  replace Q1 := Q1.mo hq
  replace M := M.trans hq
  clear hk hz hq
  refine w_nil ?_
  refine xn_then ?_
  refine w_seq ?_
  refine w_block ?_
  refine w_seq ?_
  refine w_reg ?_
  refine wl_un (fun v => Instr.fieldAt 55 v 0) (.tmp 2) (pt k1 0) (pt k1 0) (fun _ => rfl) rfl (by kernel_rfl) rfl ?_
  refine wl_load 3 (.tmp 6) (pt k1 0) (.int .i64 (K)) rfl rfl (run_one Q1 3 0 rfl Try.underlying3 rfl) rfl ?_
  refine wl_bin (fun x y => do eqGuard .eql 3 (.tmp 7) (.const (.int .i64 (0))) x y; binOp .eql 3 x y) (.tmp 7) (.const (.int .i64 (0))) (.int .i64 (K)) (.int .i64 (0)) (.bool false) (fun _ => rfl) rfl rfl (eqI q0 _ _ _) rfl ?_
  refine wl_mv (.tmp 8) (.bool false) (fun _ => rfl) rfl rfl ?_
  refine w_nil ?_
  refine xn_then ?_
  refine w_condF rfl ?_
  refine w_seq ?_
  refine w_reg ?_
  refine wl_un (fun v => Instr.fieldAt 55 v 0) (.tmp 2) (pt k1 0) (pt k1 0) (fun _ => rfl) rfl (by kernel_rfl) rfl ?_
  refine wl_load 3 (.tmp 11) (pt k1 0) (.int .i64 (K)) rfl rfl (run_one Q1 3 0 rfl Try.underlying3 rfl) rfl ?_
  refine wl_bin (fun x y => do eqGuard .eql 3 (.tmp 12) (.const (.int .i64 (4))) x y; binOp .eql 3 x y) (.tmp 12) (.const (.int .i64 (4))) (.int .i64 (K)) (.int .i64 (4)) (.bool false) (fun _ => rfl) rfl rfl (eqI q4 _ _ _) rfl ?_
  refine wl_mv (.tmp 13) (.bool false) (fun _ => rfl) rfl rfl ?_
  refine wl_skip rfl ?_
  refine wl_skip rfl ?_
  refine wl_skip rfl ?_
  refine wl_pick (.tmp 14) (.tmp 17) (.const (.bool false)) false (.bool false) (fun _ => rfl) rfl rfl rfl ?_
  refine wl_mv (.tmp 18) (.bool false) (fun _ => rfl) rfl rfl ?_
  refine w_nil ?_
  refine xn_then ?_
  refine w_condF rfl ?_
  refine w_seq ?_
  refine w_reg ?_
  refine wl_un (fun v => Instr.fieldAt 55 v 0) (.tmp 2) (pt k1 0) (pt k1 0) (fun _ => rfl) rfl (by kernel_rfl) rfl ?_
  refine wl_load 3 (.tmp 23) (pt k1 0) (.int .i64 (K)) rfl rfl (run_one Q1 3 0 rfl Try.underlying3 rfl) rfl ?_
  refine wl_bin (fun x y => do eqGuard .eql 3 (.tmp 24) (.const (.int .i64 (1))) x y; binOp .eql 3 x y) (.tmp 24) (.const (.int .i64 (1))) (.int .i64 (K)) (.int .i64 (1)) (.bool true) (fun _ => rfl) rfl rfl (eqI q1 _ _ _) rfl ?_
  refine wl_mv (.tmp 25) (.bool true) (fun _ => rfl) rfl rfl ?_
  refine wl_un (fun v => Instr.fieldAt 55 v 1) (.tmp 2) (pt k1 0) (pt k1 1) (fun _ => rfl) rfl (by kernel_rfl) rfl ?_
  refine wl_un (fun v => Instr.fieldAt 40 v 2) (.tmp 27) (pt k1 1) (pt k1 6) (fun _ => rfl) rfl (by kernel_rfl) rfl ?_
  refine wl_load 3 (.tmp 28) (pt k1 6) (.int .i64 (vs)) rfl rfl (run_one Q1 3 6 rfl Try.underlying3 rfl) rfl ?_
  refine wl_mv (.tmp 1) (.int .i64 (sc9)) (fun _ => rfl) rfl rfl ?_
  refine wl_bin (fun x y => do eqGuard .eql 3 (.tmp 29) (.tmp 30) x y; binOp .eql 3 x y) (.tmp 29) (.tmp 30) (.int .i64 (vs)) (.int .i64 (sc9)) (.bool true) (fun _ => rfl) rfl rfl (eqI qs _ _ _) rfl ?_
  refine wl_pick (.tmp 26) (.tmp 31) (.const (.bool false)) true (.bool true) (fun _ => rfl) rfl rfl rfl ?_
  refine wl_mv (.tmp 32) (.bool true) (fun _ => rfl) rfl rfl ?_
  refine wl_un (fun v => Instr.fieldAt 55 v 1) (.tmp 2) (pt k1 0) (pt k1 1) (fun _ => rfl) rfl (by kernel_rfl) rfl ?_
  refine wl_load 40 (.tmp 34) (pt k1 1) (.agg #[.bool vb, .int .u64 (l0 (vn)), .int .u64 (l1 (vn)), .int .u64 (l2 (vn)), .int .u64 (l3 (vn)), .int .i64 (vs)]) rfl rfl (run_row Q1 40 1 6 [.bool vb, .int .u64 (l0 (vn)), .int .u64 (l1 (vn)), .int .u64 (l2 (vn)), .int .u64 (l3 (vn)), .int .i64 (vs)] rfl Try.underlying40 rfl sz26) rfl ?_
  refine wl_call 77 [(.tmp 35)] _ [.agg #[.bool vb, .int .u64 (l0 (vn)), .int .u64 (l1 (vn)), .int .u64 (l2 (vn)), .int .u64 (l3 (vn)), .int .i64 (vs)]] (.int .i64 (ck vb vn vs)) rfl rfl (fun _ _ => by kernel_rfl) (check_n vb vn vs _ hn0 hn) rfl ?_
  intro w3 hq
  replace Q1 := Q1.mo hq
  replace Q2 := Q2.mo hq
  replace M := M.trans hq
  clear hq
  refine wl_bin (fun x y => do eqGuard .eql 25 (.tmp 36) (.const (.int .i64 (0))) x y; binOp .eql 25 x y) (.tmp 36) (.const (.int .i64 (0))) (.int .i64 (ck vb vn vs)) (.int .i64 (0)) (.bool false) (fun _ => rfl) rfl rfl (eqE qc _ _ _) rfl ?_
  refine wl_pick (.tmp 33) (.tmp 37) (.const (.bool false)) true (.bool false) (fun _ => rfl) rfl rfl rfl ?_
  refine wl_mv (.tmp 38) (.bool false) (fun _ => rfl) rfl rfl ?_
  refine w_nil ?_
  refine xn_then ?_
  refine w_condF rfl ?_
  refine w_seq ?_
  refine w_seq ?_
  refine w_reg ?_
  refine wl_un (fun v => Instr.fieldAt 55 v 0) (.tmp 2) (pt k1 0) (pt k1 0) (fun _ => rfl) rfl (by kernel_rfl) rfl ?_
  refine wl_load 3 (.tmp 48) (pt k1 0) (.int .i64 (K)) rfl rfl (run_one Q1 3 0 rfl Try.underlying3 rfl) rfl ?_
  refine wl_bin (fun x y => do eqGuard .eql 3 (.tmp 49) (.const (.int .i64 (2))) x y; binOp .eql 3 x y) (.tmp 49) (.const (.int .i64 (2))) (.int .i64 (K)) (.int .i64 (2)) (.bool false) (fun _ => rfl) rfl rfl (eqI q2 _ _ _) rfl ?_
  refine wl_mv (.tmp 50) (.bool false) (fun _ => rfl) rfl rfl ?_
  refine w_nil ?_
  refine xn_then ?_
  refine w_condF rfl ?_
  refine w_reg ?_
  refine wl_un (fun v => Instr.fieldAt 55 v 0) (.tmp 2) (pt k1 0) (pt k1 0) (fun _ => rfl) rfl (by kernel_rfl) rfl ?_
  refine wl_load 3 (.tmp 51) (pt k1 0) (.int .i64 (K)) rfl rfl (run_one Q1 3 0 rfl Try.underlying3 rfl) rfl ?_
  refine wl_bin (fun x y => do eqGuard .eql 3 (.tmp 52) (.const (.int .i64 (3))) x y; binOp .eql 3 x y) (.tmp 52) (.const (.int .i64 (3))) (.int .i64 (K)) (.int .i64 (3)) (.bool false) (fun _ => rfl) rfl rfl (eqI q3 _ _ _) rfl ?_
  refine wl_mv (.tmp 53) (.bool false) (fun _ => rfl) rfl rfl ?_
  refine w_nil ?_
  refine xn_then ?_
  refine w_condF rfl ?_
  refine w_skip ?_
  refine xn_blk ?_
  refine xn_then ?_
  refine w_seq ?_
  refine w_reg ?_
  refine wl_call 76 [(.const (.int .i64 (2)))] _ [.int .i64 (2)] (.agg #[.int .i64 (1), .int .i64 (0), .int .i64 (0), .int .i64 (1), .int .i64 (2), .int .u64 (l0 (0)), .int .u64 (l1 (0)), .int .u64 (l2 (0)), .int .u64 (l3 (0)), .int .u64 (l4 (0)), .bool false, .bool false, .int .u64 (l0 (0)), .int .u64 (l1 (0)), .int .u64 (l2 (0)), .int .u64 (l3 (0)), .int .i64 (0), .bool false, .int .u64 (l0 (0)), .int .u64 (l1 (0)), .int .u64 (l2 (0)), .int .u64 (l3 (0)), .int .i64 (0)]) rfl rfl (fun _ _ => by kernel_rfl) (ofError_n (2)) rfl ?_
  intro w4 hq
  replace Q1 := Q1.mo hq
  replace Q2 := Q2.mo hq
  replace M := M.trans hq
  clear hq
  refine wl_st 42 (.tmp 4) (.tmp 55) k2 0 #[.int .i64 (1), .int .i64 (0), .int .i64 (0), .int .i64 (1), .int .i64 (2), .int .u64 (l0 (0)), .int .u64 (l1 (0)), .int .u64 (l2 (0)), .int .u64 (l3 (0)), .int .u64 (l4 (0)), .bool false, .bool false, .int .u64 (l0 (0)), .int .u64 (l1 (0)), .int .u64 (l2 (0)), .int .u64 (l3 (0)), .int .i64 (0), .bool false, .int .u64 (l0 (0)), .int .u64 (l1 (0)), .int .u64 (l2 (0)), .int .u64 (l3 (0)), .int .i64 (0)] [.int .i64 0, .int .i64 0, .int .i64 0, .int .i64 0, .int .i64 0, .int .u64 0, .int .u64 0, .int .u64 0, .int .u64 0, .int .u64 0, .bool false, .bool false, .int .u64 0, .int .u64 0, .int .u64 0, .int .u64 0, .int .i64 0, .bool false, .int .u64 0, .int .u64 0, .int .u64 0, .int .u64 0, .int .i64 0] [.int .i64 (1), .int .i64 (0), .int .i64 (0), .int .i64 (1), .int .i64 (2), .int .u64 (l0 (0)), .int .u64 (l1 (0)), .int .u64 (l2 (0)), .int .u64 (l3 (0)), .int .u64 (l4 (0)), .bool false, .bool false, .int .u64 (l0 (0)), .int .u64 (l1 (0)), .int .u64 (l2 (0)), .int .u64 (l3 (0)), .int .i64 (0), .bool false, .int .u64 (l0 (0)), .int .u64 (l1 (0)), .int .u64 (l2 (0)), .int .u64 (l3 (0)), .int .i64 (0)] Q2 rfl rfl rfl rfl rfl sz33 rfl rfl rfl ?_
  intro w5 hS Qn
  replace Q2 := Qn
  clear Qn
  replace Q1 := hS.other _ _ ne_k1_k2 Q1
  replace M := hS.mo _ N_k2 M
  clear hS
  refine w_nil ?_
  refine xn_then ?_
  refine w_ret ?_
  exact w_ret1 _ (.agg #[.int .i64 (1), .int .i64 (0), .int .i64 (0), .int .i64 (1), .int .i64 (2), .int .u64 (l0 (0)), .int .u64 (l1 (0)), .int .u64 (l2 (0)), .int .u64 (l3 (0)), .int .u64 (l4 (0)), .bool false, .bool false, .int .u64 (l0 (0)), .int .u64 (l1 (0)), .int .u64 (l2 (0)), .int .u64 (l3 (0)), .int .i64 (0), .bool false, .int .u64 (l0 (0)), .int .u64 (l1 (0)), .int .u64 (l2 (0)), .int .u64 (l3 (0)), .int .i64 (0)]) rfl ⟨k2, rfl, (run_row Q2 42 0 23 [.int .i64 (1), .int .i64 (0), .int .i64 (0), .int .i64 (1), .int .i64 (2), .int .u64 (l0 (0)), .int .u64 (l1 (0)), .int .u64 (l2 (0)), .int .u64 (l3 (0)), .int .u64 (l4 (0)), .bool false, .bool false, .int .u64 (l0 (0)), .int .u64 (l1 (0)), .int .u64 (l2 (0)), .int .u64 (l3 (0)), .int .i64 (0), .bool false, .int .u64 (l0 (0)), .int .u64 (l1 (0)), .int .u64 (l2 (0)), .int .u64 (l3 (0)), .int .i64 (0)] rfl Try.underlying42 rfl sz33)⟩ ⟨rfl, M⟩
theorem of_h (K : Int) (vb : Bool) (vn vs : Int) (fl : Bool) (tx : ByteArray) (er sc9 : Int) (q0 : decide (K = 0) = false) (q4 : decide (K = 4) = false) (q1 : decide (K = 1) = false) (q2 : decide (K = 2) = true) : Calls Try.prog 65 #[vl10 K vb vn vs fl tx er, .int .i64 sc9] w fun e w' => e = .returned (sm 1 (1) (0) (0) (0) (0) false false (0) (0) false (0) (0)) ∧ Mo w w' := by
  refine w_enter 56 Try.func65 Try.ntmps65 rfl rfl ?_
  have M : Mo w w := Mo.refl _
  refine w_seq ?_
  refine w_reg ?_
  refine wl_box 55 (.tmp 0) (.agg #[.int .i64 (K), .bool vb, .int .u64 (l0 (vn)), .int .u64 (l1 (vn)), .int .u64 (l2 (vn)), .int .u64 (l3 (vn)), .int .i64 (vs), .bool fl, .string tx, .int .i64 (er)]) (#[.int .i64 (K), .bool vb, .int .u64 (l0 (vn)), .int .u64 (l1 (vn)), .int .u64 (l2 (vn)), .int .u64 (l3 (vn)), .int .i64 (vs), .bool fl, .string tx, .int .i64 (er)]) rfl rfl (fun _ => by kernel_rfl) rfl ?_
  intro k1 w1 hk hz hq Q1
  have N_k1 : w.heap.size ≤ k1 := by have := M.size; omega
  replace M := M.trans hq
  clear hk hz hq
  refine wl_alloc 42 #[.int .i64 0, .int .i64 0, .int .i64 0, .int .i64 0, .int .i64 0, .int .u64 0, .int .u64 0, .int .u64 0, .int .u64 0, .int .u64 0, .bool false, .bool false, .int .u64 0, .int .u64 0, .int .u64 0, .int .u64 0, .int .i64 0, .bool false, .int .u64 0, .int .u64 0, .int .u64 0, .int .u64 0, .int .i64 0] rfl (fun _ => by kernel_rfl) rfl ?_
  intro k2 w2 hk hz hq Q2
  have ne_k1_k2 : k1 ≠ k2 := by have := Q1.lt; omega
  have N_k2 : w.heap.size ≤ k2 := by have := M.size; omega
  replace Q1 := Q1.mo hq
  replace M := M.trans hq
  clear hk hz hq
  refine w_nil ?_
  refine xn_then ?_
  refine w_seq ?_
  refine w_block ?_
  refine w_seq ?_
  refine w_reg ?_
  refine wl_un (fun v => Instr.fieldAt 55 v 0) (.tmp 2) (pt k1 0) (pt k1 0) (fun _ => rfl) rfl (by kernel_rfl) rfl ?_
  refine wl_load 3 (.tmp 6) (pt k1 0) (.int .i64 (K)) rfl rfl (run_one Q1 3 0 rfl Try.underlying3 rfl) rfl ?_
  refine wl_bin (fun x y => do eqGuard .eql 3 (.tmp 7) (.const (.int .i64 (0))) x y; binOp .eql 3 x y) (.tmp 7) (.const (.int .i64 (0))) (.int .i64 (K)) (.int .i64 (0)) (.bool false) (fun _ => rfl) rfl rfl (eqI q0 _ _ _) rfl ?_
  refine wl_mv (.tmp 8) (.bool false) (fun _ => rfl) rfl rfl ?_
  refine w_nil ?_
  refine xn_then ?_
  refine w_condF rfl ?_
  refine w_seq ?_
  refine w_reg ?_
  refine wl_un (fun v => Instr.fieldAt 55 v 0) (.tmp 2) (pt k1 0) (pt k1 0) (fun _ => rfl) rfl (by kernel_rfl) rfl ?_
  refine wl_load 3 (.tmp 11) (pt k1 0) (.int .i64 (K)) rfl rfl (run_one Q1 3 0 rfl Try.underlying3 rfl) rfl ?_
  refine wl_bin (fun x y => do eqGuard .eql 3 (.tmp 12) (.const (.int .i64 (4))) x y; binOp .eql 3 x y) (.tmp 12) (.const (.int .i64 (4))) (.int .i64 (K)) (.int .i64 (4)) (.bool false) (fun _ => rfl) rfl rfl (eqI q4 _ _ _) rfl ?_
  refine wl_mv (.tmp 13) (.bool false) (fun _ => rfl) rfl rfl ?_
  refine wl_skip rfl ?_
  refine wl_skip rfl ?_
  refine wl_skip rfl ?_
  refine wl_pick (.tmp 14) (.tmp 17) (.const (.bool false)) false (.bool false) (fun _ => rfl) rfl rfl rfl ?_
  refine wl_mv (.tmp 18) (.bool false) (fun _ => rfl) rfl rfl ?_
  refine w_nil ?_
  refine xn_then ?_
  refine w_condF rfl ?_
  refine w_seq ?_
  refine w_reg ?_
  refine wl_un (fun v => Instr.fieldAt 55 v 0) (.tmp 2) (pt k1 0) (pt k1 0) (fun _ => rfl) rfl (by kernel_rfl) rfl ?_
  refine wl_load 3 (.tmp 23) (pt k1 0) (.int .i64 (K)) rfl rfl (run_one Q1 3 0 rfl Try.underlying3 rfl) rfl ?_
  refine wl_bin (fun x y => do eqGuard .eql 3 (.tmp 24) (.const (.int .i64 (1))) x y; binOp .eql 3 x y) (.tmp 24) (.const (.int .i64 (1))) (.int .i64 (K)) (.int .i64 (1)) (.bool false) (fun _ => rfl) rfl rfl (eqI q1 _ _ _) rfl ?_
  refine wl_mv (.tmp 25) (.bool false) (fun _ => rfl) rfl rfl ?_
  refine wl_skip rfl ?_
  refine wl_skip rfl ?_
  refine wl_skip rfl ?_
  refine wl_skip rfl ?_
  refine wl_skip rfl ?_
  refine wl_pick (.tmp 26) (.tmp 31) (.const (.bool false)) false (.bool false) (fun _ => rfl) rfl rfl rfl ?_
  refine wl_mv (.tmp 32) (.bool false) (fun _ => rfl) rfl rfl ?_
  refine wl_skip rfl ?_
  refine wl_skip rfl ?_
  refine wl_skip rfl ?_
  refine wl_skip rfl ?_
  refine wl_pick (.tmp 33) (.tmp 37) (.const (.bool false)) false (.bool false) (fun _ => rfl) rfl rfl rfl ?_
  refine wl_mv (.tmp 38) (.bool false) (fun _ => rfl) rfl rfl ?_
  refine w_nil ?_
  refine xn_then ?_
  refine w_condF rfl ?_
  refine w_seq ?_
  refine w_seq ?_
  refine w_reg ?_
  refine wl_un (fun v => Instr.fieldAt 55 v 0) (.tmp 2) (pt k1 0) (pt k1 0) (fun _ => rfl) rfl (by kernel_rfl) rfl ?_
  refine wl_load 3 (.tmp 48) (pt k1 0) (.int .i64 (K)) rfl rfl (run_one Q1 3 0 rfl Try.underlying3 rfl) rfl ?_
  refine wl_bin (fun x y => do eqGuard .eql 3 (.tmp 49) (.const (.int .i64 (2))) x y; binOp .eql 3 x y) (.tmp 49) (.const (.int .i64 (2))) (.int .i64 (K)) (.int .i64 (2)) (.bool true) (fun _ => rfl) rfl rfl (eqI q2 _ _ _) rfl ?_
  refine wl_mv (.tmp 50) (.bool true) (fun _ => rfl) rfl rfl ?_
  refine w_nil ?_
  refine xn_then ?_
  refine w_condT rfl ?_
  refine w_skip ?_
  refine xn_then ?_
  refine w_condT rfl ?_
  refine w_seq ?_
  refine w_reg ?_
  refine wl_build 42 [(0, (.const (.int .i64 (1)))), (1, (.const (.int .i64 (1))))] [(0, .int .i64 (1)), (1, .int .i64 (1))] (.agg #[.int .i64 (1), .int .i64 (1), .int .i64 0, .int .i64 0, .int .i64 0, .int .u64 0, .int .u64 0, .int .u64 0, .int .u64 0, .int .u64 0, .bool false, .bool false, .int .u64 0, .int .u64 0, .int .u64 0, .int .u64 0, .int .i64 0, .bool false, .int .u64 0, .int .u64 0, .int .u64 0, .int .u64 0, .int .i64 0]) rfl rfl (by kernel_rfl) rfl ?_
  refine wl_st 42 (.tmp 4) (.tmp 54) k2 0 #[.int .i64 (1), .int .i64 (1), .int .i64 0, .int .i64 0, .int .i64 0, .int .u64 0, .int .u64 0, .int .u64 0, .int .u64 0, .int .u64 0, .bool false, .bool false, .int .u64 0, .int .u64 0, .int .u64 0, .int .u64 0, .int .i64 0, .bool false, .int .u64 0, .int .u64 0, .int .u64 0, .int .u64 0, .int .i64 0] [.int .i64 0, .int .i64 0, .int .i64 0, .int .i64 0, .int .i64 0, .int .u64 0, .int .u64 0, .int .u64 0, .int .u64 0, .int .u64 0, .bool false, .bool false, .int .u64 0, .int .u64 0, .int .u64 0, .int .u64 0, .int .i64 0, .bool false, .int .u64 0, .int .u64 0, .int .u64 0, .int .u64 0, .int .i64 0] [.int .i64 (1), .int .i64 (1), .int .i64 0, .int .i64 0, .int .i64 0, .int .u64 0, .int .u64 0, .int .u64 0, .int .u64 0, .int .u64 0, .bool false, .bool false, .int .u64 0, .int .u64 0, .int .u64 0, .int .u64 0, .int .i64 0, .bool false, .int .u64 0, .int .u64 0, .int .u64 0, .int .u64 0, .int .i64 0] Q2 rfl rfl rfl rfl rfl sz33 rfl rfl rfl ?_
  intro w3 hS Qn
  replace Q2 := Qn
  clear Qn
  replace Q1 := hS.other _ _ ne_k1_k2 Q1
  replace M := hS.mo _ N_k2 M
  clear hS
  refine w_nil ?_
  refine xn_then ?_
  refine w_ret ?_
  refine xr_blk ?_
  refine xr_then ?_
  exact w_ret1 _ (.agg #[.int .i64 (1), .int .i64 (1), .int .i64 0, .int .i64 0, .int .i64 0, .int .u64 0, .int .u64 0, .int .u64 0, .int .u64 0, .int .u64 0, .bool false, .bool false, .int .u64 0, .int .u64 0, .int .u64 0, .int .u64 0, .int .i64 0, .bool false, .int .u64 0, .int .u64 0, .int .u64 0, .int .u64 0, .int .i64 0]) rfl ⟨k2, rfl, (run_row Q2 42 0 23 [.int .i64 (1), .int .i64 (1), .int .i64 0, .int .i64 0, .int .i64 0, .int .u64 0, .int .u64 0, .int .u64 0, .int .u64 0, .int .u64 0, .bool false, .bool false, .int .u64 0, .int .u64 0, .int .u64 0, .int .u64 0, .int .i64 0, .bool false, .int .u64 0, .int .u64 0, .int .u64 0, .int .u64 0, .int .i64 0] rfl Try.underlying42 rfl sz33)⟩ ⟨rfl, M⟩
theorem of_i (K : Int) (vb : Bool) (vn vs : Int) (fl : Bool) (tx : ByteArray) (er sc9 : Int) (q0 : decide (K = 0) = false) (q4 : decide (K = 4) = false) (q1 : decide (K = 1) = false) (q2 : decide (K = 2) = false) (q3 : decide (K = 3) = true) : Calls Try.prog 65 #[vl10 K vb vn vs fl tx er, .int .i64 sc9] w fun e w' => e = .returned (sm 1 (1) (0) (0) (0) (0) false false (0) (0) false (0) (0)) ∧ Mo w w' := by
  refine w_enter 56 Try.func65 Try.ntmps65 rfl rfl ?_
  have M : Mo w w := Mo.refl _
  refine w_seq ?_
  refine w_reg ?_
  refine wl_box 55 (.tmp 0) (.agg #[.int .i64 (K), .bool vb, .int .u64 (l0 (vn)), .int .u64 (l1 (vn)), .int .u64 (l2 (vn)), .int .u64 (l3 (vn)), .int .i64 (vs), .bool fl, .string tx, .int .i64 (er)]) (#[.int .i64 (K), .bool vb, .int .u64 (l0 (vn)), .int .u64 (l1 (vn)), .int .u64 (l2 (vn)), .int .u64 (l3 (vn)), .int .i64 (vs), .bool fl, .string tx, .int .i64 (er)]) rfl rfl (fun _ => by kernel_rfl) rfl ?_
  intro k1 w1 hk hz hq Q1
  have N_k1 : w.heap.size ≤ k1 := by have := M.size; omega
  replace M := M.trans hq
  clear hk hz hq
  refine wl_alloc 42 #[.int .i64 0, .int .i64 0, .int .i64 0, .int .i64 0, .int .i64 0, .int .u64 0, .int .u64 0, .int .u64 0, .int .u64 0, .int .u64 0, .bool false, .bool false, .int .u64 0, .int .u64 0, .int .u64 0, .int .u64 0, .int .i64 0, .bool false, .int .u64 0, .int .u64 0, .int .u64 0, .int .u64 0, .int .i64 0] rfl (fun _ => by kernel_rfl) rfl ?_
  intro k2 w2 hk hz hq Q2
  have ne_k1_k2 : k1 ≠ k2 := by have := Q1.lt; omega
  have N_k2 : w.heap.size ≤ k2 := by have := M.size; omega
  replace Q1 := Q1.mo hq
  replace M := M.trans hq
  clear hk hz hq
  refine w_nil ?_
  refine xn_then ?_
  refine w_seq ?_
  refine w_block ?_
  refine w_seq ?_
  refine w_reg ?_
  refine wl_un (fun v => Instr.fieldAt 55 v 0) (.tmp 2) (pt k1 0) (pt k1 0) (fun _ => rfl) rfl (by kernel_rfl) rfl ?_
  refine wl_load 3 (.tmp 6) (pt k1 0) (.int .i64 (K)) rfl rfl (run_one Q1 3 0 rfl Try.underlying3 rfl) rfl ?_
  refine wl_bin (fun x y => do eqGuard .eql 3 (.tmp 7) (.const (.int .i64 (0))) x y; binOp .eql 3 x y) (.tmp 7) (.const (.int .i64 (0))) (.int .i64 (K)) (.int .i64 (0)) (.bool false) (fun _ => rfl) rfl rfl (eqI q0 _ _ _) rfl ?_
  refine wl_mv (.tmp 8) (.bool false) (fun _ => rfl) rfl rfl ?_
  refine w_nil ?_
  refine xn_then ?_
  refine w_condF rfl ?_
  refine w_seq ?_
  refine w_reg ?_
  refine wl_un (fun v => Instr.fieldAt 55 v 0) (.tmp 2) (pt k1 0) (pt k1 0) (fun _ => rfl) rfl (by kernel_rfl) rfl ?_
  refine wl_load 3 (.tmp 11) (pt k1 0) (.int .i64 (K)) rfl rfl (run_one Q1 3 0 rfl Try.underlying3 rfl) rfl ?_
  refine wl_bin (fun x y => do eqGuard .eql 3 (.tmp 12) (.const (.int .i64 (4))) x y; binOp .eql 3 x y) (.tmp 12) (.const (.int .i64 (4))) (.int .i64 (K)) (.int .i64 (4)) (.bool false) (fun _ => rfl) rfl rfl (eqI q4 _ _ _) rfl ?_
  refine wl_mv (.tmp 13) (.bool false) (fun _ => rfl) rfl rfl ?_
  refine wl_skip rfl ?_
  refine wl_skip rfl ?_
  refine wl_skip rfl ?_
  refine wl_pick (.tmp 14) (.tmp 17) (.const (.bool false)) false (.bool false) (fun _ => rfl) rfl rfl rfl ?_
  refine wl_mv (.tmp 18) (.bool false) (fun _ => rfl) rfl rfl ?_
  refine w_nil ?_
  refine xn_then ?_
  refine w_condF rfl ?_
  refine w_seq ?_
  refine w_reg ?_
  refine wl_un (fun v => Instr.fieldAt 55 v 0) (.tmp 2) (pt k1 0) (pt k1 0) (fun _ => rfl) rfl (by kernel_rfl) rfl ?_
  refine wl_load 3 (.tmp 23) (pt k1 0) (.int .i64 (K)) rfl rfl (run_one Q1 3 0 rfl Try.underlying3 rfl) rfl ?_
  refine wl_bin (fun x y => do eqGuard .eql 3 (.tmp 24) (.const (.int .i64 (1))) x y; binOp .eql 3 x y) (.tmp 24) (.const (.int .i64 (1))) (.int .i64 (K)) (.int .i64 (1)) (.bool false) (fun _ => rfl) rfl rfl (eqI q1 _ _ _) rfl ?_
  refine wl_mv (.tmp 25) (.bool false) (fun _ => rfl) rfl rfl ?_
  refine wl_skip rfl ?_
  refine wl_skip rfl ?_
  refine wl_skip rfl ?_
  refine wl_skip rfl ?_
  refine wl_skip rfl ?_
  refine wl_pick (.tmp 26) (.tmp 31) (.const (.bool false)) false (.bool false) (fun _ => rfl) rfl rfl rfl ?_
  refine wl_mv (.tmp 32) (.bool false) (fun _ => rfl) rfl rfl ?_
  refine wl_skip rfl ?_
  refine wl_skip rfl ?_
  refine wl_skip rfl ?_
  refine wl_skip rfl ?_
  refine wl_pick (.tmp 33) (.tmp 37) (.const (.bool false)) false (.bool false) (fun _ => rfl) rfl rfl rfl ?_
  refine wl_mv (.tmp 38) (.bool false) (fun _ => rfl) rfl rfl ?_
  refine w_nil ?_
  refine xn_then ?_
  refine w_condF rfl ?_
  refine w_seq ?_
  refine w_seq ?_
  refine w_reg ?_
  refine wl_un (fun v => Instr.fieldAt 55 v 0) (.tmp 2) (pt k1 0) (pt k1 0) (fun _ => rfl) rfl (by kernel_rfl) rfl ?_
  refine wl_load 3 (.tmp 48) (pt k1 0) (.int .i64 (K)) rfl rfl (run_one Q1 3 0 rfl Try.underlying3 rfl) rfl ?_
  refine wl_bin (fun x y => do eqGuard .eql 3 (.tmp 49) (.const (.int .i64 (2))) x y; binOp .eql 3 x y) (.tmp 49) (.const (.int .i64 (2))) (.int .i64 (K)) (.int .i64 (2)) (.bool false) (fun _ => rfl) rfl rfl (eqI q2 _ _ _) rfl ?_
  refine wl_mv (.tmp 50) (.bool false) (fun _ => rfl) rfl rfl ?_
  refine w_nil ?_
  refine xn_then ?_
  refine w_condF rfl ?_
  refine w_reg ?_
  refine wl_un (fun v => Instr.fieldAt 55 v 0) (.tmp 2) (pt k1 0) (pt k1 0) (fun _ => rfl) rfl (by kernel_rfl) rfl ?_
  refine wl_load 3 (.tmp 51) (pt k1 0) (.int .i64 (K)) rfl rfl (run_one Q1 3 0 rfl Try.underlying3 rfl) rfl ?_
  refine wl_bin (fun x y => do eqGuard .eql 3 (.tmp 52) (.const (.int .i64 (3))) x y; binOp .eql 3 x y) (.tmp 52) (.const (.int .i64 (3))) (.int .i64 (K)) (.int .i64 (3)) (.bool true) (fun _ => rfl) rfl rfl (eqI q3 _ _ _) rfl ?_
  refine wl_mv (.tmp 53) (.bool true) (fun _ => rfl) rfl rfl ?_
  refine w_nil ?_
  refine xn_then ?_
  refine w_condT rfl ?_
  refine w_seq ?_
  refine w_reg ?_
  refine wl_build 42 [(0, (.const (.int .i64 (1)))), (1, (.const (.int .i64 (1))))] [(0, .int .i64 (1)), (1, .int .i64 (1))] (.agg #[.int .i64 (1), .int .i64 (1), .int .i64 0, .int .i64 0, .int .i64 0, .int .u64 0, .int .u64 0, .int .u64 0, .int .u64 0, .int .u64 0, .bool false, .bool false, .int .u64 0, .int .u64 0, .int .u64 0, .int .u64 0, .int .i64 0, .bool false, .int .u64 0, .int .u64 0, .int .u64 0, .int .u64 0, .int .i64 0]) rfl rfl (by kernel_rfl) rfl ?_
  refine wl_st 42 (.tmp 4) (.tmp 54) k2 0 #[.int .i64 (1), .int .i64 (1), .int .i64 0, .int .i64 0, .int .i64 0, .int .u64 0, .int .u64 0, .int .u64 0, .int .u64 0, .int .u64 0, .bool false, .bool false, .int .u64 0, .int .u64 0, .int .u64 0, .int .u64 0, .int .i64 0, .bool false, .int .u64 0, .int .u64 0, .int .u64 0, .int .u64 0, .int .i64 0] [.int .i64 0, .int .i64 0, .int .i64 0, .int .i64 0, .int .i64 0, .int .u64 0, .int .u64 0, .int .u64 0, .int .u64 0, .int .u64 0, .bool false, .bool false, .int .u64 0, .int .u64 0, .int .u64 0, .int .u64 0, .int .i64 0, .bool false, .int .u64 0, .int .u64 0, .int .u64 0, .int .u64 0, .int .i64 0] [.int .i64 (1), .int .i64 (1), .int .i64 0, .int .i64 0, .int .i64 0, .int .u64 0, .int .u64 0, .int .u64 0, .int .u64 0, .int .u64 0, .bool false, .bool false, .int .u64 0, .int .u64 0, .int .u64 0, .int .u64 0, .int .i64 0, .bool false, .int .u64 0, .int .u64 0, .int .u64 0, .int .u64 0, .int .i64 0] Q2 rfl rfl rfl rfl rfl sz33 rfl rfl rfl ?_
  intro w3 hS Qn
  replace Q2 := Qn
  clear Qn
  replace Q1 := hS.other _ _ ne_k1_k2 Q1
  replace M := hS.mo _ N_k2 M
  clear hS
  refine w_nil ?_
  refine xn_then ?_
  refine w_ret ?_
  refine xr_blk ?_
  refine xr_then ?_
  exact w_ret1 _ (.agg #[.int .i64 (1), .int .i64 (1), .int .i64 0, .int .i64 0, .int .i64 0, .int .u64 0, .int .u64 0, .int .u64 0, .int .u64 0, .int .u64 0, .bool false, .bool false, .int .u64 0, .int .u64 0, .int .u64 0, .int .u64 0, .int .i64 0, .bool false, .int .u64 0, .int .u64 0, .int .u64 0, .int .u64 0, .int .i64 0]) rfl ⟨k2, rfl, (run_row Q2 42 0 23 [.int .i64 (1), .int .i64 (1), .int .i64 0, .int .i64 0, .int .i64 0, .int .u64 0, .int .u64 0, .int .u64 0, .int .u64 0, .int .u64 0, .bool false, .bool false, .int .u64 0, .int .u64 0, .int .u64 0, .int .u64 0, .int .i64 0, .bool false, .int .u64 0, .int .u64 0, .int .u64 0, .int .u64 0, .int .i64 0] rfl Try.underlying42 rfl sz33)⟩ ⟨rfl, M⟩
theorem of_j (K : Int) (vb : Bool) (vn vs : Int) (fl : Bool) (tx : ByteArray) (er sc9 : Int) (q0 : decide (K = 0) = false) (q4 : decide (K = 4) = false) (q1 : decide (K = 1) = false) (q2 : decide (K = 2) = false) (q3 : decide (K = 3) = false) : Calls Try.prog 65 #[vl10 K vb vn vs fl tx er, .int .i64 sc9] w fun e w' => e = .returned (sm 1 (0) (0) (1) (2) (0) false false (0) (0) false (0) (0)) ∧ Mo w w' := by
  refine w_enter 56 Try.func65 Try.ntmps65 rfl rfl ?_
  have M : Mo w w := Mo.refl _
  refine w_seq ?_
  refine w_reg ?_
  refine wl_box 55 (.tmp 0) (.agg #[.int .i64 (K), .bool vb, .int .u64 (l0 (vn)), .int .u64 (l1 (vn)), .int .u64 (l2 (vn)), .int .u64 (l3 (vn)), .int .i64 (vs), .bool fl, .string tx, .int .i64 (er)]) (#[.int .i64 (K), .bool vb, .int .u64 (l0 (vn)), .int .u64 (l1 (vn)), .int .u64 (l2 (vn)), .int .u64 (l3 (vn)), .int .i64 (vs), .bool fl, .string tx, .int .i64 (er)]) rfl rfl (fun _ => by kernel_rfl) rfl ?_
  intro k1 w1 hk hz hq Q1
  have N_k1 : w.heap.size ≤ k1 := by have := M.size; omega
  replace M := M.trans hq
  clear hk hz hq
  refine wl_alloc 42 #[.int .i64 0, .int .i64 0, .int .i64 0, .int .i64 0, .int .i64 0, .int .u64 0, .int .u64 0, .int .u64 0, .int .u64 0, .int .u64 0, .bool false, .bool false, .int .u64 0, .int .u64 0, .int .u64 0, .int .u64 0, .int .i64 0, .bool false, .int .u64 0, .int .u64 0, .int .u64 0, .int .u64 0, .int .i64 0] rfl (fun _ => by kernel_rfl) rfl ?_
  intro k2 w2 hk hz hq Q2
  have ne_k1_k2 : k1 ≠ k2 := by have := Q1.lt; omega
  have N_k2 : w.heap.size ≤ k2 := by have := M.size; omega
  replace Q1 := Q1.mo hq
  replace M := M.trans hq
  clear hk hz hq
  refine w_nil ?_
  refine xn_then ?_
  refine w_seq ?_
  refine w_block ?_
  refine w_seq ?_
  refine w_reg ?_
  refine wl_un (fun v => Instr.fieldAt 55 v 0) (.tmp 2) (pt k1 0) (pt k1 0) (fun _ => rfl) rfl (by kernel_rfl) rfl ?_
  refine wl_load 3 (.tmp 6) (pt k1 0) (.int .i64 (K)) rfl rfl (run_one Q1 3 0 rfl Try.underlying3 rfl) rfl ?_
  refine wl_bin (fun x y => do eqGuard .eql 3 (.tmp 7) (.const (.int .i64 (0))) x y; binOp .eql 3 x y) (.tmp 7) (.const (.int .i64 (0))) (.int .i64 (K)) (.int .i64 (0)) (.bool false) (fun _ => rfl) rfl rfl (eqI q0 _ _ _) rfl ?_
  refine wl_mv (.tmp 8) (.bool false) (fun _ => rfl) rfl rfl ?_
  refine w_nil ?_
  refine xn_then ?_
  refine w_condF rfl ?_
  refine w_seq ?_
  refine w_reg ?_
  refine wl_un (fun v => Instr.fieldAt 55 v 0) (.tmp 2) (pt k1 0) (pt k1 0) (fun _ => rfl) rfl (by kernel_rfl) rfl ?_
  refine wl_load 3 (.tmp 11) (pt k1 0) (.int .i64 (K)) rfl rfl (run_one Q1 3 0 rfl Try.underlying3 rfl) rfl ?_
  refine wl_bin (fun x y => do eqGuard .eql 3 (.tmp 12) (.const (.int .i64 (4))) x y; binOp .eql 3 x y) (.tmp 12) (.const (.int .i64 (4))) (.int .i64 (K)) (.int .i64 (4)) (.bool false) (fun _ => rfl) rfl rfl (eqI q4 _ _ _) rfl ?_
  refine wl_mv (.tmp 13) (.bool false) (fun _ => rfl) rfl rfl ?_
  refine wl_skip rfl ?_
  refine wl_skip rfl ?_
  refine wl_skip rfl ?_
  refine wl_pick (.tmp 14) (.tmp 17) (.const (.bool false)) false (.bool false) (fun _ => rfl) rfl rfl rfl ?_
  refine wl_mv (.tmp 18) (.bool false) (fun _ => rfl) rfl rfl ?_
  refine w_nil ?_
  refine xn_then ?_
  refine w_condF rfl ?_
  refine w_seq ?_
  refine w_reg ?_
  refine wl_un (fun v => Instr.fieldAt 55 v 0) (.tmp 2) (pt k1 0) (pt k1 0) (fun _ => rfl) rfl (by kernel_rfl) rfl ?_
  refine wl_load 3 (.tmp 23) (pt k1 0) (.int .i64 (K)) rfl rfl (run_one Q1 3 0 rfl Try.underlying3 rfl) rfl ?_
  refine wl_bin (fun x y => do eqGuard .eql 3 (.tmp 24) (.const (.int .i64 (1))) x y; binOp .eql 3 x y) (.tmp 24) (.const (.int .i64 (1))) (.int .i64 (K)) (.int .i64 (1)) (.bool false) (fun _ => rfl) rfl rfl (eqI q1 _ _ _) rfl ?_
  refine wl_mv (.tmp 25) (.bool false) (fun _ => rfl) rfl rfl ?_
  refine wl_skip rfl ?_
  refine wl_skip rfl ?_
  refine wl_skip rfl ?_
  refine wl_skip rfl ?_
  refine wl_skip rfl ?_
  refine wl_pick (.tmp 26) (.tmp 31) (.const (.bool false)) false (.bool false) (fun _ => rfl) rfl rfl rfl ?_
  refine wl_mv (.tmp 32) (.bool false) (fun _ => rfl) rfl rfl ?_
  refine wl_skip rfl ?_
  refine wl_skip rfl ?_
  refine wl_skip rfl ?_
  refine wl_skip rfl ?_
  refine wl_pick (.tmp 33) (.tmp 37) (.const (.bool false)) false (.bool false) (fun _ => rfl) rfl rfl rfl ?_
  refine wl_mv (.tmp 38) (.bool false) (fun _ => rfl) rfl rfl ?_
  refine w_nil ?_
  refine xn_then ?_
  refine w_condF rfl ?_
  refine w_seq ?_
  refine w_seq ?_
  refine w_reg ?_
  refine wl_un (fun v => Instr.fieldAt 55 v 0) (.tmp 2) (pt k1 0) (pt k1 0) (fun _ => rfl) rfl (by kernel_rfl) rfl ?_
  refine wl_load 3 (.tmp 48) (pt k1 0) (.int .i64 (K)) rfl rfl (run_one Q1 3 0 rfl Try.underlying3 rfl) rfl ?_
  refine wl_bin (fun x y => do eqGuard .eql 3 (.tmp 49) (.const (.int .i64 (2))) x y; binOp .eql 3 x y) (.tmp 49) (.const (.int .i64 (2))) (.int .i64 (K)) (.int .i64 (2)) (.bool false) (fun _ => rfl) rfl rfl (eqI q2 _ _ _) rfl ?_
  refine wl_mv (.tmp 50) (.bool false) (fun _ => rfl) rfl rfl ?_
  refine w_nil ?_
  refine xn_then ?_
  refine w_condF rfl ?_
  refine w_reg ?_
  refine wl_un (fun v => Instr.fieldAt 55 v 0) (.tmp 2) (pt k1 0) (pt k1 0) (fun _ => rfl) rfl (by kernel_rfl) rfl ?_
  refine wl_load 3 (.tmp 51) (pt k1 0) (.int .i64 (K)) rfl rfl (run_one Q1 3 0 rfl Try.underlying3 rfl) rfl ?_
  refine wl_bin (fun x y => do eqGuard .eql 3 (.tmp 52) (.const (.int .i64 (3))) x y; binOp .eql 3 x y) (.tmp 52) (.const (.int .i64 (3))) (.int .i64 (K)) (.int .i64 (3)) (.bool false) (fun _ => rfl) rfl rfl (eqI q3 _ _ _) rfl ?_
  refine wl_mv (.tmp 53) (.bool false) (fun _ => rfl) rfl rfl ?_
  refine w_nil ?_
  refine xn_then ?_
  refine w_condF rfl ?_
  refine w_skip ?_
  refine xn_blk ?_
  refine xn_then ?_
  refine w_seq ?_
  refine w_reg ?_
  refine wl_call 76 [(.const (.int .i64 (2)))] _ [.int .i64 (2)] (.agg #[.int .i64 (1), .int .i64 (0), .int .i64 (0), .int .i64 (1), .int .i64 (2), .int .u64 (l0 (0)), .int .u64 (l1 (0)), .int .u64 (l2 (0)), .int .u64 (l3 (0)), .int .u64 (l4 (0)), .bool false, .bool false, .int .u64 (l0 (0)), .int .u64 (l1 (0)), .int .u64 (l2 (0)), .int .u64 (l3 (0)), .int .i64 (0), .bool false, .int .u64 (l0 (0)), .int .u64 (l1 (0)), .int .u64 (l2 (0)), .int .u64 (l3 (0)), .int .i64 (0)]) rfl rfl (fun _ _ => by kernel_rfl) (ofError_n (2)) rfl ?_
  intro w3 hq
  replace Q1 := Q1.mo hq
  replace Q2 := Q2.mo hq
  replace M := M.trans hq
  clear hq
  refine wl_st 42 (.tmp 4) (.tmp 55) k2 0 #[.int .i64 (1), .int .i64 (0), .int .i64 (0), .int .i64 (1), .int .i64 (2), .int .u64 (l0 (0)), .int .u64 (l1 (0)), .int .u64 (l2 (0)), .int .u64 (l3 (0)), .int .u64 (l4 (0)), .bool false, .bool false, .int .u64 (l0 (0)), .int .u64 (l1 (0)), .int .u64 (l2 (0)), .int .u64 (l3 (0)), .int .i64 (0), .bool false, .int .u64 (l0 (0)), .int .u64 (l1 (0)), .int .u64 (l2 (0)), .int .u64 (l3 (0)), .int .i64 (0)] [.int .i64 0, .int .i64 0, .int .i64 0, .int .i64 0, .int .i64 0, .int .u64 0, .int .u64 0, .int .u64 0, .int .u64 0, .int .u64 0, .bool false, .bool false, .int .u64 0, .int .u64 0, .int .u64 0, .int .u64 0, .int .i64 0, .bool false, .int .u64 0, .int .u64 0, .int .u64 0, .int .u64 0, .int .i64 0] [.int .i64 (1), .int .i64 (0), .int .i64 (0), .int .i64 (1), .int .i64 (2), .int .u64 (l0 (0)), .int .u64 (l1 (0)), .int .u64 (l2 (0)), .int .u64 (l3 (0)), .int .u64 (l4 (0)), .bool false, .bool false, .int .u64 (l0 (0)), .int .u64 (l1 (0)), .int .u64 (l2 (0)), .int .u64 (l3 (0)), .int .i64 (0), .bool false, .int .u64 (l0 (0)), .int .u64 (l1 (0)), .int .u64 (l2 (0)), .int .u64 (l3 (0)), .int .i64 (0)] Q2 rfl rfl rfl rfl rfl sz33 rfl rfl rfl ?_
  intro w4 hS Qn
  replace Q2 := Qn
  clear Qn
  replace Q1 := hS.other _ _ ne_k1_k2 Q1
  replace M := hS.mo _ N_k2 M
  clear hS
  refine w_nil ?_
  refine xn_then ?_
  refine w_ret ?_
  exact w_ret1 _ (.agg #[.int .i64 (1), .int .i64 (0), .int .i64 (0), .int .i64 (1), .int .i64 (2), .int .u64 (l0 (0)), .int .u64 (l1 (0)), .int .u64 (l2 (0)), .int .u64 (l3 (0)), .int .u64 (l4 (0)), .bool false, .bool false, .int .u64 (l0 (0)), .int .u64 (l1 (0)), .int .u64 (l2 (0)), .int .u64 (l3 (0)), .int .i64 (0), .bool false, .int .u64 (l0 (0)), .int .u64 (l1 (0)), .int .u64 (l2 (0)), .int .u64 (l3 (0)), .int .i64 (0)]) rfl ⟨k2, rfl, (run_row Q2 42 0 23 [.int .i64 (1), .int .i64 (0), .int .i64 (0), .int .i64 (1), .int .i64 (2), .int .u64 (l0 (0)), .int .u64 (l1 (0)), .int .u64 (l2 (0)), .int .u64 (l3 (0)), .int .u64 (l4 (0)), .bool false, .bool false, .int .u64 (l0 (0)), .int .u64 (l1 (0)), .int .u64 (l2 (0)), .int .u64 (l3 (0)), .int .i64 (0), .bool false, .int .u64 (l0 (0)), .int .u64 (l1 (0)), .int .u64 (l2 (0)), .int .u64 (l3 (0)), .int .i64 (0)] rfl Try.underlying42 rfl sz33)⟩ ⟨rfl, M⟩
end
end Go.Proofs.Ythfemlhmnjfjiaa

