/-
  For every slice of values, every int and every slice of bytes, where what is read is of bulk at most 1048576, exciselaw05.SummaryMonoid returns true, and its arguments read behind the call as they read before.
-/
import Derived.Deep.Slices
import Derived.JoinedCond
import Derived.Carry
import Derived.ChangeMaps5
import Derived.Test.YthpekbohmfmffaaU6
/-
  Slices of slices.
-/
namespace Go.Proofs.Ythpekbohmfmffaa
open Go.RowKit
/-- Bytes lie there. -/
def SBy (w : World) (p : Option Addr) (L : List Nat) : Prop := ∀ (i x : Nat), L[i]? = some x → ∃ b off, p = some ⟨b, off, none⟩ ∧ b < w.heap.size ∧ w.cell? ⟨b, off + i, none⟩ = some (.int .u8 (x : Int))
theorem SBy.mo {w w' : World} {p : Option Addr} {L : List Nat} (h : SBy w p L) (m : Mo w w') : SBy w' p L := fun i x e => by
  obtain ⟨b, off, h1, h2, h3⟩ := h i x e
  exact ⟨b, off, h1, Nat.lt_of_lt_of_le h2 m.size, (m.cell b _ h2).trans h3⟩
theorem slhi (ρ : Operand → Value) (x y : Operand) (p : Option Addr) (n c k : Nat) (hx : ρ x = .slice p n c) (hy : ρ y = .int .i64 (k : Int)) (hk : k ≤ c) (dst : Option Tmp) (type : TypeId) (pos : String) (after : Array Edge) (guard : Option (Nat × Bool)) (w : World) : (execOp ρ { dst, op := .slice 36 x none (some y) none, type, pos, after, guard }).run Try.prog w = .ok (.value (.slice p k c)) w := by
  cases p <;> simp [go_sem, hx, hy, hk]
theorem sllo (ρ : Operand → Value) (x y : Operand) (b off n c k : Nat) (hx : ρ x = .slice (some ⟨b, off, none⟩) n c) (hy : ρ y = .int .i64 (k : Int)) (hk : k < n) (hc : n ≤ c) (dst : Option Tmp) (type : TypeId) (pos : String) (after : Array Edge) (guard : Option (Nat × Bool)) (w : World) : (execOp ρ { dst, op := .slice 36 x (some y) none none, type, pos, after, guard }).run Try.prog w = .ok (.value (.slice (some ⟨b, off + k * 23, none⟩) (n - k) (c - k))) w := by
  have h1 : ¬ c = k := by omega
  have h2 : k ≤ n := by omega
  simp [go_sem, hx, hy, h1, h2, Addr.add_mid]
theorem sl50 (ρ : Operand → Value) (x y : Operand) (b off n c : Nat) (hx : ρ x = .slice (some ⟨b, off, none⟩) n c) (hy : ρ y = .int .i64 1) (hn : 1 ≤ n) (hc : n ≤ c) (dst : Option Tmp) (type : TypeId) (pos : String) (after : Array Edge) (guard : Option (Nat × Bool)) (w : World) : (execOp ρ { dst, op := .slice 50 x (some y) none none, type, pos, after, guard }).run Try.prog w = .ok (.value (.slice (some ⟨b, if c = 1 then off else off + 1, none⟩) (n - 1) (c - 1))) w := by
  by_cases h1 : c = 1
  · have h2 : n = 1 := by omega
    subst h1 h2
    simp [go_sem, hx, hy]
  · have h4 : ¬ (n : Int) < 1 := by omega
    simp [go_sem, hx, hy, h1, h4, Addr.add_mid]
theorem len50 (ρ : Operand → Value) (x : Operand) (p : Option Addr) (m c : Nat) (hx : ρ x = .slice p m c) (dst : Option Tmp) (type : TypeId) (pos : String) (after : Array Edge) (guard : Option (Nat × Bool)) (w : World) : (execOp ρ { dst, op := .call { callee := .builtin .len, args := #[x], argTypes := #[50] }, type, pos, after, guard }).run Try.prog w = .ok (.value (.int .i64 (m : Int))) w := by
  simp [go_sem, hx]
theorem ix50 (b off n c : Nat) (h : 0 < n) (w : World) : (Instr.indexAt 50 (.slice (some ⟨b, off, none⟩) n c) (.int .i64 0)).run Try.prog w = .ok (pt b off) w := by
  have e : (Instr.indexAt 50 (.slice (some ⟨b, off, none⟩) n c) (.int .i64 0)).run Try.prog w = .ok (.pointer (some ((⟨b, off, none⟩ : Addr).add 0))) w := by simp [go_sem, h]
  rw [e, Addr.add_mid]; rfl
theorem ld5 {b off : Nat} {x : Nat} {w : World} (h : w.cell? ⟨b, off, none⟩ = some (.int .u8 (x : Int))) : (Instr.loadAt 5 (pt b off)).run Try.prog w = .ok (.int .u8 (x : Int)) w := by
  simp [Instr.loadAt, Instr.sureAddr, loadVar, Sem.run_bind, isAgg, run_underlying Try.underlying5, h]
theorem cv5 {x : Nat} (h : x ≤ 255) (w : World) : (convert 5 3 (.int .u8 (x : Int))).run Try.prog w = .ok (.int .i64 (x : Int)) w := by
  have e : (convert 5 3 (.int .u8 (x : Int))).run Try.prog w = .ok (.int .i64 (IntKind.i64.wrap (x : Int))) w := by kernel_rfl
  have h2 : IntKind.i64.wrap (x : Int) = x := by rw [IntKind.wrap_i64]; omega
  rw [e, h2]
theorem sub1N {k : Nat} (h1 : 1 ≤ k) (h2 : k ≤ 9223372036854775807) (x y : Operand) (w : World) : (do eqGuard .sub 3 x y (.int .i64 (k : Int)) (.int .i64 1); binOp .sub 3 (.int .i64 (k : Int)) (.int .i64 1)).run Try.prog w = .ok (.int .i64 ((k - 1 : Nat) : Int)) w := by
  have e : (do eqGuard .sub 3 x y (.int .i64 (k : Int)) (.int .i64 1); binOp .sub 3 (.int .i64 (k : Int)) (.int .i64 1)).run Try.prog w = .ok (.int .i64 (IntKind.i64.wrap ((k : Int) - 1))) w := by kernel_rfl
  have e2 : IntKind.i64.wrap ((k : Int) - 1) = ((k - 1 : Nat) : Int) := by rw [IntKind.wrap_i64]; omega
  rw [e, e2]
theorem remNN {a b : Nat} (hb : 0 < b) (x y : Operand) (w : World) : (do eqGuard .rem 3 x y (.int .i64 (a : Int)) (.int .i64 (b : Int)); binOp .rem 3 (.int .i64 (a : Int)) (.int .i64 (b : Int))).run Try.prog w = .ok (.int .i64 ((a % b : Nat) : Int)) w := by
  have h2 : Int.tmod (a : Int) (b : Int) = ((a % b : Nat) : Int) := by rw [Int.tmod_eq_emod_of_nonneg (by omega)]; exact (Int.natCast_emod a b).symm
  have h3 : ¬ b = 0 := by omega
  simp [go_sem, h3, h2]
theorem add1L {k : Nat} (hk : k ≤ 9223372036854775806) (x y : Operand) (w : World) : (do eqGuard .add 3 x y (.int .i64 1) (.int .i64 (k : Int)); binOp .add 3 (.int .i64 1) (.int .i64 (k : Int))).run Try.prog w = .ok (.int .i64 ((1 + k : Nat) : Int)) w := by
  have e : (do eqGuard .add 3 x y (.int .i64 1) (.int .i64 (k : Int)); binOp .add 3 (.int .i64 1) (.int .i64 (k : Int))).run Try.prog w = .ok (.int .i64 (IntKind.i64.wrap (1 + (k : Int)))) w := by kernel_rfl
  have e2 : IntKind.i64.wrap (1 + (k : Int)) = ((1 + k : Nat) : Int) := by rw [IntKind.wrap_i64]; omega
  rw [e, e2]
theorem bs2 (A B : Sm) (w : World) : (Instr.buildSlice 36 2 ((List.range 2).zip [smv A, smv B]).toArray).run Try.prog w = .ok (.slice (some ⟨w.heap.size, 0, none⟩) 2 2) (w.alloc (.cells (sml A ++ sml B).toArray 33)) := by kernel_rfl
theorem ss2 {w : World} {k : Nat} {A B : Sm} (h : At w k (sml A ++ sml B)) : SS w (some ⟨k, 0, none⟩) [A, B] := by
  intro i S e
  refine ⟨k, 0, rfl, h.lt, fun j v hv => ?_⟩
  have hj : j < 23 := (List.getElem?_eq_some_iff.1 hv).1
  have hi : i = 0 ∨ i = 1 := by have := (List.getElem?_eq_some_iff.1 e).1; simp at this; omega
  rw [Nat.zero_add]
  rcases hi with rfl | rfl
  · cases e
    refine h.cell ?_
    rw [List.getElem?_append_left (by show _ < 23; omega), Nat.zero_mul, Nat.zero_add]; exact hv
  · cases e
    refine h.cell ?_
    rw [List.getElem?_append_right (by show 23 ≤ _; omega), show 1 * 23 + j - (sml A).length = j from by show 1 * 23 + j - 23 = j; omega]; exact hv
theorem SS.take {w : World} {p : Option Addr} {L : List Sm} (h : SS w p L) (k : Nat) : SS w p (L.take k) := fun i S e => by
  rw [List.getElem?_take] at e
  split at e
  · exact h i S e
  · cases e
theorem SS.drop {w : World} {b off : Nat} {L : List Sm} (h : SS w (some ⟨b, off, none⟩) L) (k : Nat) : SS w (some ⟨b, off + k * 23, none⟩) (L.drop k) := fun i S e => by
  rw [List.getElem?_drop] at e
  obtain ⟨b2, o2, h1, h2, h3⟩ := h _ S e
  cases h1
  exact ⟨b, off + k * 23, rfl, h2, by rw [show off + k * 23 + i * 23 = off + (k + i) * 23 by omega]; exact h3⟩
theorem SBy.tail {w : World} {b off c x : Nat} {C : List Nat} (h : SBy w (some ⟨b, off, none⟩) (x :: C)) (hc : (x :: C).length ≤ c) : SBy w (some ⟨b, if c = 1 then off else off + 1, none⟩) C := fun i y e => by
  have hi := (List.getElem?_eq_some_iff.1 e).1
  simp only [List.length_cons] at hc
  rw [if_neg (by omega)]
  obtain ⟨b2, o2, h1, h2, h3⟩ := h (i + 1) y e
  cases h1
  exact ⟨b, off + 1, rfl, h2, by rw [show off + 1 + i = off + (i + 1) by omega]; exact h3⟩
end Go.Proofs.Ythpekbohmfmffaa
/-
  tree: summaries joined in whatever shape.
-/
namespace Go.Proofs.Ythpekbohmfmffaa
open Go.RowKit
section
variable {w : World}
theorem tree_a (L : List Sm) (pa pc : Option Addr) (cap capc cn : Nat) (hL : ∀ T ∈ L, T.ok) (hSS : SS w pa L) (hn : L.length ≤ 900000000000000000) (q0 : decide (L.length < 2) = true) : Calls Try.prog 24 #[.slice pa L.length cap, .slice pc cn capc] w fun e w' => e = .returned (smv (L.foldl jn sm0)) ∧ Mo w w' := by
  refine w_enter 39 Try.func24 Try.ntmps24 rfl rfl ?_
  have M : Mo w w := Mo.refl _
  refine w_seq ?_
  refine w_reg ?_
  refine wl_alloc 33 #[.int .i64 0, .int .i64 0, .int .i64 0, .int .i64 0, .int .i64 0, .int .u64 0, .int .u64 0, .int .u64 0, .int .u64 0, .int .u64 0, .bool false, .bool false, .int .u64 0, .int .u64 0, .int .u64 0, .int .u64 0, .int .i64 0, .bool false, .int .u64 0, .int .u64 0, .int .u64 0, .int .u64 0, .int .i64 0] rfl (fun _ => by kernel_rfl) rfl ?_
  intro k1 w1 hk hz hq Q1
  have N_k1 : w.heap.size ≤ k1 := by have := M.size; omega
  replace M := M.trans hq
  clear hk hz hq
  refine w_nil ?_
  refine xn_then ?_
  refine w_seq ?_
  refine w_seq ?_
  refine w_reg ?_
  refine wl_mv (.tmp 0) (.slice pa L.length cap) (fun _ => rfl) rfl rfl ?_
  refine wl_val (.int .i64 ((L.length : Int))) (len36 _ _ _ _ _ (by exact rfl) _ _ _ _ _ _) rfl ?_
  refine wl_bin (fun x y => do eqGuard .lss 3 (.tmp 7) (.const (.int .i64 (2))) x y; binOp .lss 3 x y) (.tmp 7) (.const (.int .i64 (2))) (.int .i64 ((L.length : Int))) (.int .i64 (2)) (.bool true) (fun _ => rfl) rfl rfl (ltN q0 _ _ _) rfl ?_
  refine wl_mv (.tmp 8) (.bool true) (fun _ => rfl) rfl rfl ?_
  refine wl_skip rfl ?_
  refine wl_skip rfl ?_
  refine wl_skip rfl ?_
  refine wl_pick (.tmp 9) (.const (.bool true)) (.tmp 12) true (.bool true) (fun _ => rfl) rfl rfl rfl ?_
  refine w_nil ?_
  refine xn_then ?_
  refine w_condT rfl ?_
  refine w_seq ?_
  refine w_reg ?_
  refine wl_mv (.tmp 0) (.slice pa L.length cap) (fun _ => rfl) rfl rfl ?_
  refine wl_call 12 [(.tmp 14)] _ [.slice pa L.length cap] (.agg #[.int .i64 ((L.foldl jn sm0).r), .int .i64 ((L.foldl jn sm0).f), .int .i64 ((L.foldl jn sm0).k), .int .i64 ((L.foldl jn sm0).d), .int .i64 ((L.foldl jn sm0).e), .int .u64 (l0 ((L.foldl jn sm0).tt)), .int .u64 (l1 ((L.foldl jn sm0).tt)), .int .u64 (l2 ((L.foldl jn sm0).tt)), .int .u64 (l3 ((L.foldl jn sm0).tt)), .int .u64 (l4 ((L.foldl jn sm0).tt)), .bool (L.foldl jn sm0).so, .bool (L.foldl jn sm0).mn.b, .int .u64 (l0 ((L.foldl jn sm0).mn.n)), .int .u64 (l1 ((L.foldl jn sm0).mn.n)), .int .u64 (l2 ((L.foldl jn sm0).mn.n)), .int .u64 (l3 ((L.foldl jn sm0).mn.n)), .int .i64 ((L.foldl jn sm0).mn.s), .bool (L.foldl jn sm0).mx.b, .int .u64 (l0 ((L.foldl jn sm0).mx.n)), .int .u64 (l1 ((L.foldl jn sm0).mx.n)), .int .u64 (l2 ((L.foldl jn sm0).mx.n)), .int .u64 (l3 ((L.foldl jn sm0).mx.n)), .int .i64 ((L.foldl jn sm0).mx.s)]) rfl rfl (fun _ _ => by kernel_rfl) (join_n L pa cap hL (hSS.mo M) hn) rfl ?_
  intro w2 hq
  replace Q1 := Q1.mo hq
  replace M := M.trans hq
  clear hq
  refine wl_st 33 (.tmp 4) (.tmp 15) k1 0 #[.int .i64 ((L.foldl jn sm0).r), .int .i64 ((L.foldl jn sm0).f), .int .i64 ((L.foldl jn sm0).k), .int .i64 ((L.foldl jn sm0).d), .int .i64 ((L.foldl jn sm0).e), .int .u64 (l0 ((L.foldl jn sm0).tt)), .int .u64 (l1 ((L.foldl jn sm0).tt)), .int .u64 (l2 ((L.foldl jn sm0).tt)), .int .u64 (l3 ((L.foldl jn sm0).tt)), .int .u64 (l4 ((L.foldl jn sm0).tt)), .bool (L.foldl jn sm0).so, .bool (L.foldl jn sm0).mn.b, .int .u64 (l0 ((L.foldl jn sm0).mn.n)), .int .u64 (l1 ((L.foldl jn sm0).mn.n)), .int .u64 (l2 ((L.foldl jn sm0).mn.n)), .int .u64 (l3 ((L.foldl jn sm0).mn.n)), .int .i64 ((L.foldl jn sm0).mn.s), .bool (L.foldl jn sm0).mx.b, .int .u64 (l0 ((L.foldl jn sm0).mx.n)), .int .u64 (l1 ((L.foldl jn sm0).mx.n)), .int .u64 (l2 ((L.foldl jn sm0).mx.n)), .int .u64 (l3 ((L.foldl jn sm0).mx.n)), .int .i64 ((L.foldl jn sm0).mx.s)] [.int .i64 0, .int .i64 0, .int .i64 0, .int .i64 0, .int .i64 0, .int .u64 0, .int .u64 0, .int .u64 0, .int .u64 0, .int .u64 0, .bool false, .bool false, .int .u64 0, .int .u64 0, .int .u64 0, .int .u64 0, .int .i64 0, .bool false, .int .u64 0, .int .u64 0, .int .u64 0, .int .u64 0, .int .i64 0] [.int .i64 ((L.foldl jn sm0).r), .int .i64 ((L.foldl jn sm0).f), .int .i64 ((L.foldl jn sm0).k), .int .i64 ((L.foldl jn sm0).d), .int .i64 ((L.foldl jn sm0).e), .int .u64 (l0 ((L.foldl jn sm0).tt)), .int .u64 (l1 ((L.foldl jn sm0).tt)), .int .u64 (l2 ((L.foldl jn sm0).tt)), .int .u64 (l3 ((L.foldl jn sm0).tt)), .int .u64 (l4 ((L.foldl jn sm0).tt)), .bool (L.foldl jn sm0).so, .bool (L.foldl jn sm0).mn.b, .int .u64 (l0 ((L.foldl jn sm0).mn.n)), .int .u64 (l1 ((L.foldl jn sm0).mn.n)), .int .u64 (l2 ((L.foldl jn sm0).mn.n)), .int .u64 (l3 ((L.foldl jn sm0).mn.n)), .int .i64 ((L.foldl jn sm0).mn.s), .bool (L.foldl jn sm0).mx.b, .int .u64 (l0 ((L.foldl jn sm0).mx.n)), .int .u64 (l1 ((L.foldl jn sm0).mx.n)), .int .u64 (l2 ((L.foldl jn sm0).mx.n)), .int .u64 (l3 ((L.foldl jn sm0).mx.n)), .int .i64 ((L.foldl jn sm0).mx.s)] Q1 rfl rfl rfl rfl rfl sz33 rfl rfl rfl ?_
  intro w3 hS Qn
  replace Q1 := Qn
  clear Qn
  replace M := hS.mo _ N_k1 M
  clear hS
  refine w_nil ?_
  refine xn_then ?_
  refine w_ret ?_
  refine xr_then ?_
  exact w_ret1 _ (.agg #[.int .i64 ((L.foldl jn sm0).r), .int .i64 ((L.foldl jn sm0).f), .int .i64 ((L.foldl jn sm0).k), .int .i64 ((L.foldl jn sm0).d), .int .i64 ((L.foldl jn sm0).e), .int .u64 (l0 ((L.foldl jn sm0).tt)), .int .u64 (l1 ((L.foldl jn sm0).tt)), .int .u64 (l2 ((L.foldl jn sm0).tt)), .int .u64 (l3 ((L.foldl jn sm0).tt)), .int .u64 (l4 ((L.foldl jn sm0).tt)), .bool (L.foldl jn sm0).so, .bool (L.foldl jn sm0).mn.b, .int .u64 (l0 ((L.foldl jn sm0).mn.n)), .int .u64 (l1 ((L.foldl jn sm0).mn.n)), .int .u64 (l2 ((L.foldl jn sm0).mn.n)), .int .u64 (l3 ((L.foldl jn sm0).mn.n)), .int .i64 ((L.foldl jn sm0).mn.s), .bool (L.foldl jn sm0).mx.b, .int .u64 (l0 ((L.foldl jn sm0).mx.n)), .int .u64 (l1 ((L.foldl jn sm0).mx.n)), .int .u64 (l2 ((L.foldl jn sm0).mx.n)), .int .u64 (l3 ((L.foldl jn sm0).mx.n)), .int .i64 ((L.foldl jn sm0).mx.s)]) rfl ⟨k1, rfl, (run_row Q1 33 0 23 [.int .i64 ((L.foldl jn sm0).r), .int .i64 ((L.foldl jn sm0).f), .int .i64 ((L.foldl jn sm0).k), .int .i64 ((L.foldl jn sm0).d), .int .i64 ((L.foldl jn sm0).e), .int .u64 (l0 ((L.foldl jn sm0).tt)), .int .u64 (l1 ((L.foldl jn sm0).tt)), .int .u64 (l2 ((L.foldl jn sm0).tt)), .int .u64 (l3 ((L.foldl jn sm0).tt)), .int .u64 (l4 ((L.foldl jn sm0).tt)), .bool (L.foldl jn sm0).so, .bool (L.foldl jn sm0).mn.b, .int .u64 (l0 ((L.foldl jn sm0).mn.n)), .int .u64 (l1 ((L.foldl jn sm0).mn.n)), .int .u64 (l2 ((L.foldl jn sm0).mn.n)), .int .u64 (l3 ((L.foldl jn sm0).mn.n)), .int .i64 ((L.foldl jn sm0).mn.s), .bool (L.foldl jn sm0).mx.b, .int .u64 (l0 ((L.foldl jn sm0).mx.n)), .int .u64 (l1 ((L.foldl jn sm0).mx.n)), .int .u64 (l2 ((L.foldl jn sm0).mx.n)), .int .u64 (l3 ((L.foldl jn sm0).mx.n)), .int .i64 ((L.foldl jn sm0).mx.s)] rfl Try.underlying33 rfl sz33)⟩ ⟨rfl, M⟩
theorem tree_b (L : List Sm) (pa pc : Option Addr) (cap capc : Nat) (hL : ∀ T ∈ L, T.ok) (hSS : SS w pa L) (hn : L.length ≤ 900000000000000000) (q0 : decide (L.length < 2) = false) : Calls Try.prog 24 #[.slice pa L.length cap, .slice pc 0 capc] w fun e w' => e = .returned (smv (L.foldl jn sm0)) ∧ Mo w w' := by
  refine w_enter 39 Try.func24 Try.ntmps24 rfl rfl ?_
  have M : Mo w w := Mo.refl _
  refine w_seq ?_
  refine w_reg ?_
  refine wl_alloc 33 #[.int .i64 0, .int .i64 0, .int .i64 0, .int .i64 0, .int .i64 0, .int .u64 0, .int .u64 0, .int .u64 0, .int .u64 0, .int .u64 0, .bool false, .bool false, .int .u64 0, .int .u64 0, .int .u64 0, .int .u64 0, .int .i64 0, .bool false, .int .u64 0, .int .u64 0, .int .u64 0, .int .u64 0, .int .i64 0] rfl (fun _ => by kernel_rfl) rfl ?_
  intro k1 w1 hk hz hq Q1
  have N_k1 : w.heap.size ≤ k1 := by have := M.size; omega
  replace M := M.trans hq
  clear hk hz hq
  refine w_nil ?_
  refine xn_then ?_
  refine w_seq ?_
  refine w_seq ?_
  refine w_reg ?_
  refine wl_mv (.tmp 0) (.slice pa L.length cap) (fun _ => rfl) rfl rfl ?_
  refine wl_val (.int .i64 ((L.length : Int))) (len36 _ _ _ _ _ (by exact rfl) _ _ _ _ _ _) rfl ?_
  refine wl_bin (fun x y => do eqGuard .lss 3 (.tmp 7) (.const (.int .i64 (2))) x y; binOp .lss 3 x y) (.tmp 7) (.const (.int .i64 (2))) (.int .i64 ((L.length : Int))) (.int .i64 (2)) (.bool false) (fun _ => rfl) rfl rfl (ltN q0 _ _ _) rfl ?_
  refine wl_mv (.tmp 8) (.bool false) (fun _ => rfl) rfl rfl ?_
  refine wl_mv (.tmp 1) (.slice pc 0 capc) (fun _ => rfl) rfl rfl ?_
  refine wl_val (.int .i64 (((0 : Nat) : Int))) (len50 _ _ _ _ _ (by exact rfl) _ _ _ _ _ _) rfl ?_
  refine wl_bin (fun x y => do eqGuard .eql 3 (.tmp 11) (.const (.int .i64 (0))) x y; binOp .eql 3 x y) (.tmp 11) (.const (.int .i64 (0))) (.int .i64 (((0 : Nat) : Int))) (.int .i64 (0)) (.bool true) (fun _ => rfl) rfl rfl (eqI (decide_eq_true rfl) _ _ _) rfl ?_
  refine wl_pick (.tmp 9) (.const (.bool true)) (.tmp 12) false (.bool true) (fun _ => rfl) rfl rfl rfl ?_
  refine w_nil ?_
  refine xn_then ?_
  refine w_condT rfl ?_
  refine w_seq ?_
  refine w_reg ?_
  refine wl_mv (.tmp 0) (.slice pa L.length cap) (fun _ => rfl) rfl rfl ?_
  refine wl_call 12 [(.tmp 14)] _ [.slice pa L.length cap] (.agg #[.int .i64 ((L.foldl jn sm0).r), .int .i64 ((L.foldl jn sm0).f), .int .i64 ((L.foldl jn sm0).k), .int .i64 ((L.foldl jn sm0).d), .int .i64 ((L.foldl jn sm0).e), .int .u64 (l0 ((L.foldl jn sm0).tt)), .int .u64 (l1 ((L.foldl jn sm0).tt)), .int .u64 (l2 ((L.foldl jn sm0).tt)), .int .u64 (l3 ((L.foldl jn sm0).tt)), .int .u64 (l4 ((L.foldl jn sm0).tt)), .bool (L.foldl jn sm0).so, .bool (L.foldl jn sm0).mn.b, .int .u64 (l0 ((L.foldl jn sm0).mn.n)), .int .u64 (l1 ((L.foldl jn sm0).mn.n)), .int .u64 (l2 ((L.foldl jn sm0).mn.n)), .int .u64 (l3 ((L.foldl jn sm0).mn.n)), .int .i64 ((L.foldl jn sm0).mn.s), .bool (L.foldl jn sm0).mx.b, .int .u64 (l0 ((L.foldl jn sm0).mx.n)), .int .u64 (l1 ((L.foldl jn sm0).mx.n)), .int .u64 (l2 ((L.foldl jn sm0).mx.n)), .int .u64 (l3 ((L.foldl jn sm0).mx.n)), .int .i64 ((L.foldl jn sm0).mx.s)]) rfl rfl (fun _ _ => by kernel_rfl) (join_n L pa cap hL (hSS.mo M) hn) rfl ?_
  intro w2 hq
  replace Q1 := Q1.mo hq
  replace M := M.trans hq
  clear hq
  refine wl_st 33 (.tmp 4) (.tmp 15) k1 0 #[.int .i64 ((L.foldl jn sm0).r), .int .i64 ((L.foldl jn sm0).f), .int .i64 ((L.foldl jn sm0).k), .int .i64 ((L.foldl jn sm0).d), .int .i64 ((L.foldl jn sm0).e), .int .u64 (l0 ((L.foldl jn sm0).tt)), .int .u64 (l1 ((L.foldl jn sm0).tt)), .int .u64 (l2 ((L.foldl jn sm0).tt)), .int .u64 (l3 ((L.foldl jn sm0).tt)), .int .u64 (l4 ((L.foldl jn sm0).tt)), .bool (L.foldl jn sm0).so, .bool (L.foldl jn sm0).mn.b, .int .u64 (l0 ((L.foldl jn sm0).mn.n)), .int .u64 (l1 ((L.foldl jn sm0).mn.n)), .int .u64 (l2 ((L.foldl jn sm0).mn.n)), .int .u64 (l3 ((L.foldl jn sm0).mn.n)), .int .i64 ((L.foldl jn sm0).mn.s), .bool (L.foldl jn sm0).mx.b, .int .u64 (l0 ((L.foldl jn sm0).mx.n)), .int .u64 (l1 ((L.foldl jn sm0).mx.n)), .int .u64 (l2 ((L.foldl jn sm0).mx.n)), .int .u64 (l3 ((L.foldl jn sm0).mx.n)), .int .i64 ((L.foldl jn sm0).mx.s)] [.int .i64 0, .int .i64 0, .int .i64 0, .int .i64 0, .int .i64 0, .int .u64 0, .int .u64 0, .int .u64 0, .int .u64 0, .int .u64 0, .bool false, .bool false, .int .u64 0, .int .u64 0, .int .u64 0, .int .u64 0, .int .i64 0, .bool false, .int .u64 0, .int .u64 0, .int .u64 0, .int .u64 0, .int .i64 0] [.int .i64 ((L.foldl jn sm0).r), .int .i64 ((L.foldl jn sm0).f), .int .i64 ((L.foldl jn sm0).k), .int .i64 ((L.foldl jn sm0).d), .int .i64 ((L.foldl jn sm0).e), .int .u64 (l0 ((L.foldl jn sm0).tt)), .int .u64 (l1 ((L.foldl jn sm0).tt)), .int .u64 (l2 ((L.foldl jn sm0).tt)), .int .u64 (l3 ((L.foldl jn sm0).tt)), .int .u64 (l4 ((L.foldl jn sm0).tt)), .bool (L.foldl jn sm0).so, .bool (L.foldl jn sm0).mn.b, .int .u64 (l0 ((L.foldl jn sm0).mn.n)), .int .u64 (l1 ((L.foldl jn sm0).mn.n)), .int .u64 (l2 ((L.foldl jn sm0).mn.n)), .int .u64 (l3 ((L.foldl jn sm0).mn.n)), .int .i64 ((L.foldl jn sm0).mn.s), .bool (L.foldl jn sm0).mx.b, .int .u64 (l0 ((L.foldl jn sm0).mx.n)), .int .u64 (l1 ((L.foldl jn sm0).mx.n)), .int .u64 (l2 ((L.foldl jn sm0).mx.n)), .int .u64 (l3 ((L.foldl jn sm0).mx.n)), .int .i64 ((L.foldl jn sm0).mx.s)] Q1 rfl rfl rfl rfl rfl sz33 rfl rfl rfl ?_
  intro w3 hS Qn
  replace Q1 := Qn
  clear Qn
  replace M := hS.mo _ N_k1 M
  clear hS
  refine w_nil ?_
  refine xn_then ?_
  refine w_ret ?_
  refine xr_then ?_
  exact w_ret1 _ (.agg #[.int .i64 ((L.foldl jn sm0).r), .int .i64 ((L.foldl jn sm0).f), .int .i64 ((L.foldl jn sm0).k), .int .i64 ((L.foldl jn sm0).d), .int .i64 ((L.foldl jn sm0).e), .int .u64 (l0 ((L.foldl jn sm0).tt)), .int .u64 (l1 ((L.foldl jn sm0).tt)), .int .u64 (l2 ((L.foldl jn sm0).tt)), .int .u64 (l3 ((L.foldl jn sm0).tt)), .int .u64 (l4 ((L.foldl jn sm0).tt)), .bool (L.foldl jn sm0).so, .bool (L.foldl jn sm0).mn.b, .int .u64 (l0 ((L.foldl jn sm0).mn.n)), .int .u64 (l1 ((L.foldl jn sm0).mn.n)), .int .u64 (l2 ((L.foldl jn sm0).mn.n)), .int .u64 (l3 ((L.foldl jn sm0).mn.n)), .int .i64 ((L.foldl jn sm0).mn.s), .bool (L.foldl jn sm0).mx.b, .int .u64 (l0 ((L.foldl jn sm0).mx.n)), .int .u64 (l1 ((L.foldl jn sm0).mx.n)), .int .u64 (l2 ((L.foldl jn sm0).mx.n)), .int .u64 (l3 ((L.foldl jn sm0).mx.n)), .int .i64 ((L.foldl jn sm0).mx.s)]) rfl ⟨k1, rfl, (run_row Q1 33 0 23 [.int .i64 ((L.foldl jn sm0).r), .int .i64 ((L.foldl jn sm0).f), .int .i64 ((L.foldl jn sm0).k), .int .i64 ((L.foldl jn sm0).d), .int .i64 ((L.foldl jn sm0).e), .int .u64 (l0 ((L.foldl jn sm0).tt)), .int .u64 (l1 ((L.foldl jn sm0).tt)), .int .u64 (l2 ((L.foldl jn sm0).tt)), .int .u64 (l3 ((L.foldl jn sm0).tt)), .int .u64 (l4 ((L.foldl jn sm0).tt)), .bool (L.foldl jn sm0).so, .bool (L.foldl jn sm0).mn.b, .int .u64 (l0 ((L.foldl jn sm0).mn.n)), .int .u64 (l1 ((L.foldl jn sm0).mn.n)), .int .u64 (l2 ((L.foldl jn sm0).mn.n)), .int .u64 (l3 ((L.foldl jn sm0).mn.n)), .int .i64 ((L.foldl jn sm0).mn.s), .bool (L.foldl jn sm0).mx.b, .int .u64 (l0 ((L.foldl jn sm0).mx.n)), .int .u64 (l1 ((L.foldl jn sm0).mx.n)), .int .u64 (l2 ((L.foldl jn sm0).mx.n)), .int .u64 (l3 ((L.foldl jn sm0).mx.n)), .int .i64 ((L.foldl jn sm0).mx.s)] rfl Try.underlying33 rfl sz33)⟩ ⟨rfl, M⟩
theorem tree_c (L : List Sm) (C : List Nat) (x b off cb co cap capc : Nat) (A B : Sm) (hAB : ∀ T ∈ [A, B], T.ok) (hn : L.length ≤ 900000000000000000) (hcap : L.length ≤ cap) (hcc : C.length + 1 ≤ capc) (hx : x ≤ 255) (hcb : cb < w.heap.size) (hcx : w.cell? ⟨cb, co, none⟩ = some (.int .u8 (x : Int))) (q0 : decide (L.length < 2) = false)
    (hA : ∀ w', Mo w w' → Calls Try.prog 24 #[.slice (some ⟨b, off, none⟩) (1 + x % (L.length - 1)) cap, .slice (some ⟨cb, if capc = 1 then co else co + 1, none⟩) (C.length + 1 - 1) (capc - 1)] w' fun e w2 => e = .returned (smv A) ∧ Mo w' w2) (hB : ∀ w', Mo w w' → Calls Try.prog 24 #[.slice (some ⟨b, off + (1 + x % (L.length - 1)) * 23, none⟩) (L.length - (1 + x % (L.length - 1))) (cap - (1 + x % (L.length - 1))), .slice (some ⟨cb, if capc = 1 then co else co + 1, none⟩) (C.length + 1 - 1) (capc - 1)] w' fun e w2 => e = .returned (smv B) ∧ Mo w' w2) : Calls Try.prog 24 #[.slice (some ⟨b, off, none⟩) L.length cap, .slice (some ⟨cb, co, none⟩) (C.length + 1) capc] w fun e w' => e = .returned (smv ([A, B].foldl jn sm0)) ∧ Mo w w' := by
  have q1 := of_decide_eq_false q0
  have hmod := Nat.mod_lt x (show 0 < L.length - 1 by omega)
  have hk1 : 1 + x % (L.length - 1) < L.length := by omega
  refine w_enter 39 Try.func24 Try.ntmps24 rfl rfl ?_
  have M : Mo w w := Mo.refl _
  refine w_seq ?_
  refine w_reg ?_
  refine wl_alloc 33 #[.int .i64 0, .int .i64 0, .int .i64 0, .int .i64 0, .int .i64 0, .int .u64 0, .int .u64 0, .int .u64 0, .int .u64 0, .int .u64 0, .bool false, .bool false, .int .u64 0, .int .u64 0, .int .u64 0, .int .u64 0, .int .i64 0, .bool false, .int .u64 0, .int .u64 0, .int .u64 0, .int .u64 0, .int .i64 0] rfl (fun _ => by kernel_rfl) rfl ?_
  intro k1 w1 hk hz hq Q1
  have N_k1 : w.heap.size ≤ k1 := by have := M.size; omega
  replace M := M.trans hq
  clear hk hz hq
  refine w_nil ?_
  refine xn_then ?_
  refine w_seq ?_
  refine w_seq ?_
  refine w_reg ?_
  refine wl_mv (.tmp 0) (.slice (some ⟨b, off, none⟩) L.length cap) (fun _ => rfl) rfl rfl ?_
  refine wl_val (.int .i64 ((L.length : Int))) (len36 _ _ _ _ _ (by exact rfl) _ _ _ _ _ _) rfl ?_
  refine wl_bin (fun x y => do eqGuard .lss 3 (.tmp 7) (.const (.int .i64 (2))) x y; binOp .lss 3 x y) (.tmp 7) (.const (.int .i64 (2))) (.int .i64 ((L.length : Int))) (.int .i64 (2)) (.bool false) (fun _ => rfl) rfl rfl (ltN q0 _ _ _) rfl ?_
  refine wl_mv (.tmp 8) (.bool false) (fun _ => rfl) rfl rfl ?_
  refine wl_mv (.tmp 1) (.slice (some ⟨cb, co, none⟩) (C.length + 1) capc) (fun _ => rfl) rfl rfl ?_
  refine wl_val (.int .i64 (((C.length + 1 : Nat) : Int))) (len50 _ _ _ _ _ (by exact rfl) _ _ _ _ _ _) rfl ?_
  refine wl_bin (fun x y => do eqGuard .eql 3 (.tmp 11) (.const (.int .i64 (0))) x y; binOp .eql 3 x y) (.tmp 11) (.const (.int .i64 (0))) (.int .i64 (((C.length + 1 : Nat) : Int))) (.int .i64 (0)) (.bool false) (fun _ => rfl) rfl rfl (eqI (decide_eq_false (by omega)) _ _ _) rfl ?_
  refine wl_pick (.tmp 9) (.const (.bool true)) (.tmp 12) false (.bool false) (fun _ => rfl) rfl rfl rfl ?_
  refine w_nil ?_
  refine xn_then ?_
  refine w_condF rfl ?_
  refine w_skip ?_
  refine xn_then ?_
  refine w_seq ?_
  refine w_reg ?_
  refine wl_mv (.tmp 1) (.slice (some ⟨cb, co, none⟩) (C.length + 1) capc) (fun _ => rfl) rfl rfl ?_
  refine wl_bin (fun x y => Instr.indexAt 50 x y) (.tmp 16) (.const (.int .i64 (0))) (.slice (some ⟨cb, co, none⟩) (C.length + 1) capc) (.int .i64 (0)) (pt cb co) (fun _ => rfl) rfl rfl (ix50 cb co _ _ (by omega) _) rfl ?_
  refine wl_load 5 (.tmp 17) (pt cb co) (.int .u8 (x : Int)) rfl rfl (ld5 ((M.cell cb _ hcb).trans hcx)) rfl ?_
  refine wl_un (fun v => convert 5 3 v) (.tmp 18) (.int .u8 (x : Int)) (.int .i64 (x : Int)) (fun _ => rfl) rfl (cv5 hx _) rfl ?_
  refine wl_mv (.tmp 0) (.slice (some ⟨b, off, none⟩) L.length cap) (fun _ => rfl) rfl rfl ?_
  refine wl_val (.int .i64 ((L.length : Int))) (len36 _ _ _ _ _ (by exact rfl) _ _ _ _ _ _) rfl ?_
  refine wl_bin (fun x y => do eqGuard .sub 3 (.tmp 21) (.const (.int .i64 (1))) x y; binOp .sub 3 x y) (.tmp 21) (.const (.int .i64 (1))) (.int .i64 ((L.length : Int))) (.int .i64 (1)) (.int .i64 ((L.length - 1 : Nat) : Int)) (fun _ => rfl) rfl rfl (sub1N (by omega) (by omega) _ _ _) rfl ?_
  refine wl_bin (fun x y => do eqGuard .rem 3 (.tmp 19) (.tmp 22) x y; binOp .rem 3 x y) (.tmp 19) (.tmp 22) (.int .i64 (x : Int)) (.int .i64 ((L.length - 1 : Nat) : Int)) (.int .i64 ((x % (L.length - 1) : Nat) : Int)) (fun _ => rfl) rfl rfl (remNN (by omega) _ _ _) rfl ?_
  refine wl_bin (fun x y => do eqGuard .add 3 (.const (.int .i64 (1))) (.tmp 23) x y; binOp .add 3 x y) (.const (.int .i64 (1))) (.tmp 23) (.int .i64 (1)) (.int .i64 ((x % (L.length - 1) : Nat) : Int)) (.int .i64 ((1 + x % (L.length - 1) : Nat) : Int)) (fun _ => rfl) rfl rfl (add1L (by have := Nat.mod_lt x (show 0 < L.length - 1 by omega); omega) _ _ _) rfl ?_
  refine wl_mv (.tmp 24) (.int .i64 ((1 + x % (L.length - 1) : Nat) : Int)) (fun _ => rfl) rfl rfl ?_
  refine w_nil ?_
  refine xn_then ?_
  refine w_seq ?_
  refine X.w_any 14 [.inl (.slice (some ⟨b, off, none⟩) L.length cap), .inl (.int .i64 ((1 + x % (L.length - 1) : Nat) : Int)), .inl (.slice (some ⟨b, off, none⟩) (1 + x % (L.length - 1)) cap), .inl (.slice (some ⟨cb, co, none⟩) (C.length + 1) capc), .inl (.slice (some ⟨cb, if capc = 1 then co else co + 1, none⟩) (C.length + 1 - 1) (capc - 1)), .inl (.agg #[.int .i64 (A.r), .int .i64 (A.f), .int .i64 (A.k), .int .i64 (A.d), .int .i64 (A.e), .int .u64 (l0 (A.tt)), .int .u64 (l1 (A.tt)), .int .u64 (l2 (A.tt)), .int .u64 (l3 (A.tt)), .int .u64 (l4 (A.tt)), .bool A.so, .bool A.mn.b, .int .u64 (l0 (A.mn.n)), .int .u64 (l1 (A.mn.n)), .int .u64 (l2 (A.mn.n)), .int .u64 (l3 (A.mn.n)), .int .i64 (A.mn.s), .bool A.mx.b, .int .u64 (l0 (A.mx.n)), .int .u64 (l1 (A.mx.n)), .int .u64 (l2 (A.mx.n)), .int .u64 (l3 (A.mx.n)), .int .i64 (A.mx.s)]), .inl (.slice (some ⟨b, off, none⟩) L.length cap), .inl (.int .i64 ((1 + x % (L.length - 1) : Nat) : Int)), .inl (.slice (some ⟨b, off + (1 + x % (L.length - 1)) * 23, none⟩) (L.length - (1 + x % (L.length - 1))) (cap - (1 + x % (L.length - 1)))), .inl (.slice (some ⟨cb, co, none⟩) (C.length + 1) capc), .inl (.slice (some ⟨cb, if capc = 1 then co else co + 1, none⟩) (C.length + 1 - 1) (capc - 1)), .inl (.agg #[.int .i64 (B.r), .int .i64 (B.f), .int .i64 (B.k), .int .i64 (B.d), .int .i64 (B.e), .int .u64 (l0 (B.tt)), .int .u64 (l1 (B.tt)), .int .u64 (l2 (B.tt)), .int .u64 (l3 (B.tt)), .int .u64 (l4 (B.tt)), .bool B.so, .bool B.mn.b, .int .u64 (l0 (B.mn.n)), .int .u64 (l1 (B.mn.n)), .int .u64 (l2 (B.mn.n)), .int .u64 (l3 (B.mn.n)), .int .i64 (B.mn.s), .bool B.mx.b, .int .u64 (l0 (B.mx.n)), .int .u64 (l1 (B.mx.n)), .int .u64 (l2 (B.mx.n)), .int .u64 (l3 (B.mx.n)), .int .i64 (B.mx.s)]), .inr (sml A ++ sml B, some 2), .inl (.agg #[.int .i64 (([A, B].foldl jn sm0).r), .int .i64 (([A, B].foldl jn sm0).f), .int .i64 (([A, B].foldl jn sm0).k), .int .i64 (([A, B].foldl jn sm0).d), .int .i64 (([A, B].foldl jn sm0).e), .int .u64 (l0 (([A, B].foldl jn sm0).tt)), .int .u64 (l1 (([A, B].foldl jn sm0).tt)), .int .u64 (l2 (([A, B].foldl jn sm0).tt)), .int .u64 (l3 (([A, B].foldl jn sm0).tt)), .int .u64 (l4 (([A, B].foldl jn sm0).tt)), .bool ([A, B].foldl jn sm0).so, .bool ([A, B].foldl jn sm0).mn.b, .int .u64 (l0 (([A, B].foldl jn sm0).mn.n)), .int .u64 (l1 (([A, B].foldl jn sm0).mn.n)), .int .u64 (l2 (([A, B].foldl jn sm0).mn.n)), .int .u64 (l3 (([A, B].foldl jn sm0).mn.n)), .int .i64 (([A, B].foldl jn sm0).mn.s), .bool ([A, B].foldl jn sm0).mx.b, .int .u64 (l0 (([A, B].foldl jn sm0).mx.n)), .int .u64 (l1 (([A, B].foldl jn sm0).mx.n)), .int .u64 (l2 (([A, B].foldl jn sm0).mx.n)), .int .u64 (l3 (([A, B].foldl jn sm0).mx.n)), .int .i64 (([A, B].foldl jn sm0).mx.s)])] [] (by kernel_rfl) (by kernel_rfl) (by kernel_rfl) (by kernel_rfl) rfl (by kernel_rfl) (by kernel_rfl) X.late_nil ?_ ?_ ?_
  · exact X.Ds.start (by kernel_rfl)
  · refine X.ea_cons ?_ (X.ea_cons ?_ (X.ea_cons ?_ (X.ea_cons ?_ (X.ea_cons ?_ (X.ea_cons ?_ (X.ea_cons ?_ (X.ea_cons ?_ (X.ea_cons ?_ (X.ea_cons ?_ (X.ea_cons ?_ (X.ea_cons ?_ (X.ea_cons ?_ (X.ea_cons ?_ (X.ea_nil))))))))))))))
    · exact X.og_eq (.slice (some ⟨b, off, none⟩) L.length cap) rfl (fun f wf hq hd K hK => go_run rfl (wo_mv (.tmp 0) (.slice (some ⟨b, off, none⟩) L.length cap) (fun _ => rfl) rfl (hK _ (Mo.refl _))))
    · exact X.og_eq (.int .i64 ((1 + x % (L.length - 1) : Nat) : Int)) rfl (fun f wf hq hd K hK => go_run rfl (wo_mv (.tmp 5) (.int .i64 ((1 + x % (L.length - 1) : Nat) : Int)) (fun _ => rfl) rfl (hK _ (Mo.refl _))))
    · exact X.og_eq (.slice (some ⟨b, off, none⟩) (1 + x % (L.length - 1)) cap) rfl (fun f wf hq hd K hK => go_run rfl (wo_val (.slice (some ⟨b, off, none⟩) (1 + x % (L.length - 1)) cap) (slhi _ _ _ _ L.length cap (1 + x % (L.length - 1)) (by exact (hd 0 rfl)) (by exact (hd 1 rfl)) (by omega) _ _ _ _ _ _) (hK _ (Mo.refl _))))
    · exact X.og_eq (.slice (some ⟨cb, co, none⟩) (C.length + 1) capc) rfl (fun f wf hq hd K hK => go_run rfl (wo_mv (.tmp 1) (.slice (some ⟨cb, co, none⟩) (C.length + 1) capc) (fun _ => rfl) rfl (hK _ (Mo.refl _))))
    · exact X.og_eq (.slice (some ⟨cb, if capc = 1 then co else co + 1, none⟩) (C.length + 1 - 1) (capc - 1)) rfl (fun f wf hq hd K hK => go_run rfl (wo_val (.slice (some ⟨cb, if capc = 1 then co else co + 1, none⟩) (C.length + 1 - 1) (capc - 1)) (sl50 _ _ _ cb co (C.length + 1) capc (by exact (hd 3 rfl)) (by exact rfl) (by omega) hcc _ _ _ _ _ _) (hK _ (Mo.refl _))))
    · exact X.og_eq (.agg #[.int .i64 (A.r), .int .i64 (A.f), .int .i64 (A.k), .int .i64 (A.d), .int .i64 (A.e), .int .u64 (l0 (A.tt)), .int .u64 (l1 (A.tt)), .int .u64 (l2 (A.tt)), .int .u64 (l3 (A.tt)), .int .u64 (l4 (A.tt)), .bool A.so, .bool A.mn.b, .int .u64 (l0 (A.mn.n)), .int .u64 (l1 (A.mn.n)), .int .u64 (l2 (A.mn.n)), .int .u64 (l3 (A.mn.n)), .int .i64 (A.mn.s), .bool A.mx.b, .int .u64 (l0 (A.mx.n)), .int .u64 (l1 (A.mx.n)), .int .u64 (l2 (A.mx.n)), .int .u64 (l3 (A.mx.n)), .int .i64 (A.mx.s)]) rfl (fun f wf hq hd K hK => go_run rfl (wo_call 24 [(.tmp 27), (.tmp 29)] _ [.slice (some ⟨b, off, none⟩) (1 + x % (L.length - 1)) cap, .slice (some ⟨cb, if capc = 1 then co else co + 1, none⟩) (C.length + 1 - 1) (capc - 1)] (.agg #[.int .i64 (A.r), .int .i64 (A.f), .int .i64 (A.k), .int .i64 (A.d), .int .i64 (A.e), .int .u64 (l0 (A.tt)), .int .u64 (l1 (A.tt)), .int .u64 (l2 (A.tt)), .int .u64 (l3 (A.tt)), .int .u64 (l4 (A.tt)), .bool A.so, .bool A.mn.b, .int .u64 (l0 (A.mn.n)), .int .u64 (l1 (A.mn.n)), .int .u64 (l2 (A.mn.n)), .int .u64 (l3 (A.mn.n)), .int .i64 (A.mn.s), .bool A.mx.b, .int .u64 (l0 (A.mx.n)), .int .u64 (l1 (A.mx.n)), .int .u64 (l2 (A.mx.n)), .int .u64 (l3 (A.mx.n)), .int .i64 (A.mx.s)]) rfl (li2 (hd 2 rfl) (hd 4 rfl)) (fun _ _ => by kernel_rfl) (hA _ (M.trans hq)) hK))
    · exact X.og_eq (.slice (some ⟨b, off, none⟩) L.length cap) rfl (fun f wf hq hd K hK => go_run rfl (wo_mv (.tmp 0) (.slice (some ⟨b, off, none⟩) L.length cap) (fun _ => rfl) rfl (hK _ (Mo.refl _))))
    · exact X.og_eq (.int .i64 ((1 + x % (L.length - 1) : Nat) : Int)) rfl (fun f wf hq hd K hK => go_run rfl (wo_mv (.tmp 5) (.int .i64 ((1 + x % (L.length - 1) : Nat) : Int)) (fun _ => rfl) rfl (hK _ (Mo.refl _))))
    · exact X.og_eq (.slice (some ⟨b, off + (1 + x % (L.length - 1)) * 23, none⟩) (L.length - (1 + x % (L.length - 1))) (cap - (1 + x % (L.length - 1)))) rfl (fun f wf hq hd K hK => go_run rfl (wo_val (.slice (some ⟨b, off + (1 + x % (L.length - 1)) * 23, none⟩) (L.length - (1 + x % (L.length - 1))) (cap - (1 + x % (L.length - 1)))) (sllo _ _ _ b off L.length cap (1 + x % (L.length - 1)) (by exact (hd 6 rfl)) (by exact (hd 7 rfl)) hk1 hcap _ _ _ _ _ _) (hK _ (Mo.refl _))))
    · exact X.og_eq (.slice (some ⟨cb, co, none⟩) (C.length + 1) capc) rfl (fun f wf hq hd K hK => go_run rfl (wo_mv (.tmp 1) (.slice (some ⟨cb, co, none⟩) (C.length + 1) capc) (fun _ => rfl) rfl (hK _ (Mo.refl _))))
    · exact X.og_eq (.slice (some ⟨cb, if capc = 1 then co else co + 1, none⟩) (C.length + 1 - 1) (capc - 1)) rfl (fun f wf hq hd K hK => go_run rfl (wo_val (.slice (some ⟨cb, if capc = 1 then co else co + 1, none⟩) (C.length + 1 - 1) (capc - 1)) (sl50 _ _ _ cb co (C.length + 1) capc (by exact (hd 9 rfl)) (by exact rfl) (by omega) hcc _ _ _ _ _ _) (hK _ (Mo.refl _))))
    · exact X.og_eq (.agg #[.int .i64 (B.r), .int .i64 (B.f), .int .i64 (B.k), .int .i64 (B.d), .int .i64 (B.e), .int .u64 (l0 (B.tt)), .int .u64 (l1 (B.tt)), .int .u64 (l2 (B.tt)), .int .u64 (l3 (B.tt)), .int .u64 (l4 (B.tt)), .bool B.so, .bool B.mn.b, .int .u64 (l0 (B.mn.n)), .int .u64 (l1 (B.mn.n)), .int .u64 (l2 (B.mn.n)), .int .u64 (l3 (B.mn.n)), .int .i64 (B.mn.s), .bool B.mx.b, .int .u64 (l0 (B.mx.n)), .int .u64 (l1 (B.mx.n)), .int .u64 (l2 (B.mx.n)), .int .u64 (l3 (B.mx.n)), .int .i64 (B.mx.s)]) rfl (fun f wf hq hd K hK => go_run rfl (wo_call 24 [(.tmp 33), (.tmp 35)] _ [.slice (some ⟨b, off + (1 + x % (L.length - 1)) * 23, none⟩) (L.length - (1 + x % (L.length - 1))) (cap - (1 + x % (L.length - 1))), .slice (some ⟨cb, if capc = 1 then co else co + 1, none⟩) (C.length + 1 - 1) (capc - 1)] (.agg #[.int .i64 (B.r), .int .i64 (B.f), .int .i64 (B.k), .int .i64 (B.d), .int .i64 (B.e), .int .u64 (l0 (B.tt)), .int .u64 (l1 (B.tt)), .int .u64 (l2 (B.tt)), .int .u64 (l3 (B.tt)), .int .u64 (l4 (B.tt)), .bool B.so, .bool B.mn.b, .int .u64 (l0 (B.mn.n)), .int .u64 (l1 (B.mn.n)), .int .u64 (l2 (B.mn.n)), .int .u64 (l3 (B.mn.n)), .int .i64 (B.mn.s), .bool B.mx.b, .int .u64 (l0 (B.mx.n)), .int .u64 (l1 (B.mx.n)), .int .u64 (l2 (B.mx.n)), .int .u64 (l3 (B.mx.n)), .int .i64 (B.mx.s)]) rfl (li2 (hd 8 rfl) (hd 10 rfl)) (fun _ _ => by kernel_rfl) (hB _ (M.trans hq)) hK))
    · exact X.og_new (sml A ++ sml B, some 2) rfl (fun f wf hq hd K hK => go_run rfl (wo_bs36 [(0, (.tmp 30)), (1, (.tmp 36))] [.agg #[.int .i64 (A.r), .int .i64 (A.f), .int .i64 (A.k), .int .i64 (A.d), .int .i64 (A.e), .int .u64 (l0 (A.tt)), .int .u64 (l1 (A.tt)), .int .u64 (l2 (A.tt)), .int .u64 (l3 (A.tt)), .int .u64 (l4 (A.tt)), .bool A.so, .bool A.mn.b, .int .u64 (l0 (A.mn.n)), .int .u64 (l1 (A.mn.n)), .int .u64 (l2 (A.mn.n)), .int .u64 (l3 (A.mn.n)), .int .i64 (A.mn.s), .bool A.mx.b, .int .u64 (l0 (A.mx.n)), .int .u64 (l1 (A.mx.n)), .int .u64 (l2 (A.mx.n)), .int .u64 (l3 (A.mx.n)), .int .i64 (A.mx.s)], .agg #[.int .i64 (B.r), .int .i64 (B.f), .int .i64 (B.k), .int .i64 (B.d), .int .i64 (B.e), .int .u64 (l0 (B.tt)), .int .u64 (l1 (B.tt)), .int .u64 (l2 (B.tt)), .int .u64 (l3 (B.tt)), .int .u64 (l4 (B.tt)), .bool B.so, .bool B.mn.b, .int .u64 (l0 (B.mn.n)), .int .u64 (l1 (B.mn.n)), .int .u64 (l2 (B.mn.n)), .int .u64 (l3 (B.mn.n)), .int .i64 (B.mn.s), .bool B.mx.b, .int .u64 (l0 (B.mx.n)), .int .u64 (l1 (B.mx.n)), .int .u64 (l2 (B.mx.n)), .int .u64 (l3 (B.mx.n)), .int .i64 (B.mx.s)]] 2 (sml A ++ sml B).toArray rfl (lp2 (hd 5 rfl) (hd 11 rfl)) (bs2 A B) hK))
    · exact X.og_eq (.agg #[.int .i64 (([A, B].foldl jn sm0).r), .int .i64 (([A, B].foldl jn sm0).f), .int .i64 (([A, B].foldl jn sm0).k), .int .i64 (([A, B].foldl jn sm0).d), .int .i64 (([A, B].foldl jn sm0).e), .int .u64 (l0 (([A, B].foldl jn sm0).tt)), .int .u64 (l1 (([A, B].foldl jn sm0).tt)), .int .u64 (l2 (([A, B].foldl jn sm0).tt)), .int .u64 (l3 (([A, B].foldl jn sm0).tt)), .int .u64 (l4 (([A, B].foldl jn sm0).tt)), .bool ([A, B].foldl jn sm0).so, .bool ([A, B].foldl jn sm0).mn.b, .int .u64 (l0 (([A, B].foldl jn sm0).mn.n)), .int .u64 (l1 (([A, B].foldl jn sm0).mn.n)), .int .u64 (l2 (([A, B].foldl jn sm0).mn.n)), .int .u64 (l3 (([A, B].foldl jn sm0).mn.n)), .int .i64 (([A, B].foldl jn sm0).mn.s), .bool ([A, B].foldl jn sm0).mx.b, .int .u64 (l0 (([A, B].foldl jn sm0).mx.n)), .int .u64 (l1 (([A, B].foldl jn sm0).mx.n)), .int .u64 (l2 (([A, B].foldl jn sm0).mx.n)), .int .u64 (l3 (([A, B].foldl jn sm0).mx.n)), .int .i64 (([A, B].foldl jn sm0).mx.s)]) rfl (fun f wf hq hd K hK => by
        obtain ⟨k9, e9, _, hA9⟩ := hd 12 rfl
        exact go_run rfl (wo_call 12 [(.tmp 37)] _ [.slice (some ⟨k9, 0, none⟩) 2 2] (.agg #[.int .i64 (([A, B].foldl jn sm0).r), .int .i64 (([A, B].foldl jn sm0).f), .int .i64 (([A, B].foldl jn sm0).k), .int .i64 (([A, B].foldl jn sm0).d), .int .i64 (([A, B].foldl jn sm0).e), .int .u64 (l0 (([A, B].foldl jn sm0).tt)), .int .u64 (l1 (([A, B].foldl jn sm0).tt)), .int .u64 (l2 (([A, B].foldl jn sm0).tt)), .int .u64 (l3 (([A, B].foldl jn sm0).tt)), .int .u64 (l4 (([A, B].foldl jn sm0).tt)), .bool ([A, B].foldl jn sm0).so, .bool ([A, B].foldl jn sm0).mn.b, .int .u64 (l0 (([A, B].foldl jn sm0).mn.n)), .int .u64 (l1 (([A, B].foldl jn sm0).mn.n)), .int .u64 (l2 (([A, B].foldl jn sm0).mn.n)), .int .u64 (l3 (([A, B].foldl jn sm0).mn.n)), .int .i64 (([A, B].foldl jn sm0).mn.s), .bool ([A, B].foldl jn sm0).mx.b, .int .u64 (l0 (([A, B].foldl jn sm0).mx.n)), .int .u64 (l1 (([A, B].foldl jn sm0).mx.n)), .int .u64 (l2 (([A, B].foldl jn sm0).mx.n)), .int .u64 (l3 (([A, B].foldl jn sm0).mx.n)), .int .i64 (([A, B].foldl jn sm0).mx.s)]) rfl (li1 e9) (fun _ _ => by kernel_rfl) (join_n [A, B] (some ⟨k9, 0, none⟩) 2 hAB (ss2 hA9) (by show 2 ≤ 900000000000000000; decide)) hK))
  intro kf2 w2 hq hR hne
  replace Q1 := Q1.mo hq
  replace M := M.trans hq
  clear hq hR hne
  refine wl_st 33 (.tmp 4) (.tmp 38) k1 0 #[.int .i64 (([A, B].foldl jn sm0).r), .int .i64 (([A, B].foldl jn sm0).f), .int .i64 (([A, B].foldl jn sm0).k), .int .i64 (([A, B].foldl jn sm0).d), .int .i64 (([A, B].foldl jn sm0).e), .int .u64 (l0 (([A, B].foldl jn sm0).tt)), .int .u64 (l1 (([A, B].foldl jn sm0).tt)), .int .u64 (l2 (([A, B].foldl jn sm0).tt)), .int .u64 (l3 (([A, B].foldl jn sm0).tt)), .int .u64 (l4 (([A, B].foldl jn sm0).tt)), .bool ([A, B].foldl jn sm0).so, .bool ([A, B].foldl jn sm0).mn.b, .int .u64 (l0 (([A, B].foldl jn sm0).mn.n)), .int .u64 (l1 (([A, B].foldl jn sm0).mn.n)), .int .u64 (l2 (([A, B].foldl jn sm0).mn.n)), .int .u64 (l3 (([A, B].foldl jn sm0).mn.n)), .int .i64 (([A, B].foldl jn sm0).mn.s), .bool ([A, B].foldl jn sm0).mx.b, .int .u64 (l0 (([A, B].foldl jn sm0).mx.n)), .int .u64 (l1 (([A, B].foldl jn sm0).mx.n)), .int .u64 (l2 (([A, B].foldl jn sm0).mx.n)), .int .u64 (l3 (([A, B].foldl jn sm0).mx.n)), .int .i64 (([A, B].foldl jn sm0).mx.s)] [.int .i64 0, .int .i64 0, .int .i64 0, .int .i64 0, .int .i64 0, .int .u64 0, .int .u64 0, .int .u64 0, .int .u64 0, .int .u64 0, .bool false, .bool false, .int .u64 0, .int .u64 0, .int .u64 0, .int .u64 0, .int .i64 0, .bool false, .int .u64 0, .int .u64 0, .int .u64 0, .int .u64 0, .int .i64 0] [.int .i64 (([A, B].foldl jn sm0).r), .int .i64 (([A, B].foldl jn sm0).f), .int .i64 (([A, B].foldl jn sm0).k), .int .i64 (([A, B].foldl jn sm0).d), .int .i64 (([A, B].foldl jn sm0).e), .int .u64 (l0 (([A, B].foldl jn sm0).tt)), .int .u64 (l1 (([A, B].foldl jn sm0).tt)), .int .u64 (l2 (([A, B].foldl jn sm0).tt)), .int .u64 (l3 (([A, B].foldl jn sm0).tt)), .int .u64 (l4 (([A, B].foldl jn sm0).tt)), .bool ([A, B].foldl jn sm0).so, .bool ([A, B].foldl jn sm0).mn.b, .int .u64 (l0 (([A, B].foldl jn sm0).mn.n)), .int .u64 (l1 (([A, B].foldl jn sm0).mn.n)), .int .u64 (l2 (([A, B].foldl jn sm0).mn.n)), .int .u64 (l3 (([A, B].foldl jn sm0).mn.n)), .int .i64 (([A, B].foldl jn sm0).mn.s), .bool ([A, B].foldl jn sm0).mx.b, .int .u64 (l0 (([A, B].foldl jn sm0).mx.n)), .int .u64 (l1 (([A, B].foldl jn sm0).mx.n)), .int .u64 (l2 (([A, B].foldl jn sm0).mx.n)), .int .u64 (l3 (([A, B].foldl jn sm0).mx.n)), .int .i64 (([A, B].foldl jn sm0).mx.s)] Q1 rfl rfl rfl rfl rfl sz33 rfl rfl rfl ?_
  intro w3 hS Qn
  replace Q1 := Qn
  clear Qn
  replace M := hS.mo _ N_k1 M
  clear hS
  refine w_nil ?_
  refine xn_then ?_
  refine w_ret ?_
  exact w_ret1 _ (.agg #[.int .i64 (([A, B].foldl jn sm0).r), .int .i64 (([A, B].foldl jn sm0).f), .int .i64 (([A, B].foldl jn sm0).k), .int .i64 (([A, B].foldl jn sm0).d), .int .i64 (([A, B].foldl jn sm0).e), .int .u64 (l0 (([A, B].foldl jn sm0).tt)), .int .u64 (l1 (([A, B].foldl jn sm0).tt)), .int .u64 (l2 (([A, B].foldl jn sm0).tt)), .int .u64 (l3 (([A, B].foldl jn sm0).tt)), .int .u64 (l4 (([A, B].foldl jn sm0).tt)), .bool ([A, B].foldl jn sm0).so, .bool ([A, B].foldl jn sm0).mn.b, .int .u64 (l0 (([A, B].foldl jn sm0).mn.n)), .int .u64 (l1 (([A, B].foldl jn sm0).mn.n)), .int .u64 (l2 (([A, B].foldl jn sm0).mn.n)), .int .u64 (l3 (([A, B].foldl jn sm0).mn.n)), .int .i64 (([A, B].foldl jn sm0).mn.s), .bool ([A, B].foldl jn sm0).mx.b, .int .u64 (l0 (([A, B].foldl jn sm0).mx.n)), .int .u64 (l1 (([A, B].foldl jn sm0).mx.n)), .int .u64 (l2 (([A, B].foldl jn sm0).mx.n)), .int .u64 (l3 (([A, B].foldl jn sm0).mx.n)), .int .i64 (([A, B].foldl jn sm0).mx.s)]) rfl ⟨k1, rfl, (run_row Q1 33 0 23 [.int .i64 (([A, B].foldl jn sm0).r), .int .i64 (([A, B].foldl jn sm0).f), .int .i64 (([A, B].foldl jn sm0).k), .int .i64 (([A, B].foldl jn sm0).d), .int .i64 (([A, B].foldl jn sm0).e), .int .u64 (l0 (([A, B].foldl jn sm0).tt)), .int .u64 (l1 (([A, B].foldl jn sm0).tt)), .int .u64 (l2 (([A, B].foldl jn sm0).tt)), .int .u64 (l3 (([A, B].foldl jn sm0).tt)), .int .u64 (l4 (([A, B].foldl jn sm0).tt)), .bool ([A, B].foldl jn sm0).so, .bool ([A, B].foldl jn sm0).mn.b, .int .u64 (l0 (([A, B].foldl jn sm0).mn.n)), .int .u64 (l1 (([A, B].foldl jn sm0).mn.n)), .int .u64 (l2 (([A, B].foldl jn sm0).mn.n)), .int .u64 (l3 (([A, B].foldl jn sm0).mn.n)), .int .i64 (([A, B].foldl jn sm0).mn.s), .bool ([A, B].foldl jn sm0).mx.b, .int .u64 (l0 (([A, B].foldl jn sm0).mx.n)), .int .u64 (l1 (([A, B].foldl jn sm0).mx.n)), .int .u64 (l2 (([A, B].foldl jn sm0).mx.n)), .int .u64 (l3 (([A, B].foldl jn sm0).mx.n)), .int .i64 (([A, B].foldl jn sm0).mx.s)] rfl Try.underlying33 rfl sz33)⟩ ⟨rfl, M⟩
theorem tree_n (s : Int) : ∀ (C : List Nat) (L : List Sm) (pa pc : Option Addr) (cap capc : Nat) (w : World), (∀ x ∈ C, x ≤ 255) → (∀ T ∈ L, T.ok ∧ Gd s T) → SS w pa L → SBy w pc C → L.length ≤ 900000000000000000 → L.length ≤ cap → C.length ≤ capc →
    Calls Try.prog 24 #[.slice pa L.length cap, .slice pc C.length capc] w fun e w' => e = .returned (smv (L.foldl jn sm0)) ∧ Mo w w' := by
  intro C
  induction C with
  | nil =>
    intro L pa pc cap capc w _ hL hSS _ hn _ _
    by_cases c : L.length < 2
    · exact tree_a L pa pc cap capc 0 (fun T h => (hL T h).1) hSS hn (decide_eq_true c)
    · exact tree_b L pa pc cap capc (fun T h => (hL T h).1) hSS hn (decide_eq_false c)
  | cons x C ih =>
    intro L pa pc cap capc w hC hL hSS hSB hn hcap hcc
    by_cases c : L.length < 2
    · exact tree_a L pa pc cap capc _ (fun T h => (hL T h).1) hSS hn (decide_eq_true c)
    obtain ⟨T0, hT0⟩ : ∃ T, L[0]? = some T := ⟨L[0]'(by omega), List.getElem?_eq_getElem _⟩
    obtain ⟨b, off, rfl, _, _⟩ := hSS 0 T0 hT0
    obtain ⟨cb, co, rfl, hcb, hcx⟩ := hSB 0 x rfl
    have hmod := Nat.mod_lt x (show 0 < L.length - 1 by omega)
    simp only [List.length_cons] at hcc
    have hx := hC x (by simp)
    have g1 : ∀ T ∈ L.take (1 + x % (L.length - 1)), T.ok ∧ Gd s T := fun T h => hL T (List.mem_of_mem_take h)
    have g2 : ∀ T ∈ L.drop (1 + x % (L.length - 1)), T.ok ∧ Gd s T := fun T h => hL T (List.mem_of_mem_drop h)
    have e1 : (L.take (1 + x % (L.length - 1))).length = 1 + x % (L.length - 1) := by rw [List.length_take]; omega
    have e2 : (L.drop (1 + x % (L.length - 1))).length = L.length - (1 + x % (L.length - 1)) := by rw [List.length_drop]
    have hAB : ∀ T ∈ [(L.take (1 + x % (L.length - 1))).foldl jn sm0, (L.drop (1 + x % (L.length - 1))).foldl jn sm0], T.ok := by
      intro T hT
      simp only [List.mem_cons, List.not_mem_nil, or_false] at hT
      rcases hT with rfl | rfl
      · exact fold_ok _ sm0_ok (fun U h => (g1 U h).1)
      · exact fold_ok _ sm0_ok (fun U h => (g2 U h).1)
    have main := tree_c (w := w) L C x b off cb co cap capc _ _ hAB hn hcap hcc hx hcb hcx (decide_eq_false c)
      (fun w' m => by
        have h := ih (L.take (1 + x % (L.length - 1))) (some ⟨b, off, none⟩) (some ⟨cb, if capc = 1 then co else co + 1, none⟩) cap (capc - 1) w' (fun y h => hC y (by simp [h])) g1 ((hSS.take _).mo m) ((hSB.tail hcc).mo m) (by omega) (by omega) (by omega)
        rw [e1] at h
        exact h)
      (fun w' m => by
        have h := ih (L.drop (1 + x % (L.length - 1))) (some ⟨b, off + (1 + x % (L.length - 1)) * 23, none⟩) (some ⟨cb, if capc = 1 then co else co + 1, none⟩) (cap - (1 + x % (L.length - 1))) (capc - 1) w' (fun y h => hC y (by simp [h])) g2 ((hSS.drop _).mo m) ((hSB.tail hcc).mo m) (by omega) (by omega) (by omega)
        rw [e2] at h
        exact h)
    have gA := fold_gd (s := s) (L.take (1 + x % (L.length - 1))) (sm0_gd s) (fun T h => (g1 T h).2)
    have ef : [(L.take (1 + x % (L.length - 1))).foldl jn sm0, (L.drop (1 + x % (L.length - 1))).foldl jn sm0].foldl jn sm0 = L.foldl jn sm0 := by
      show jn (jn sm0 _) _ = _
      rw [jn_0l gA, ← fold_cut (s := s) _ _ (fun T h => (g1 T h).2) (fun T h => (g2 T h).2), List.take_append_drop]
    rw [ef] at main
    exact main
end
end Go.Proofs.Ythpekbohmfmffaa
/-
  SummaryMonoid: the law's walk.
-/
namespace Go.Proofs.Ythpekbohmfmffaa
open Go.RowKit
section
variable {P : Program} {o : Oper} {n : Nat} {l : List (Nat × Value)} {w : World} {ops : Array Oper} {rest : List Oper} {Q : Exit → Act → World → Prop}
theorem wl_callx (g : FuncId) (xs : List Operand) (ats : Array TypeId) (args : List Value) {F : Ending → World → Prop} (ho : o.op = .call { callee := .value (.func g), args := xs.toArray, argTypes := ats }) (hx : xs.map (evl n l) = args)
    (h : ∀ args w, (callFunc g args).run P w = .ok (.enter g args) w)
    (hc : Calls P g args.toArray w F) (hg : wnt n l ops o = true) (hk : ∀ v w', F v w' → ∃ u, v = .returned u ∧ WL P ops Q rest n (ext l o.dst u) w') : WL P ops Q (o :: rest) n l w := by
  have e : (execOp (evl n l) o).run P w = .ok (.enter g args.toArray) w := by
    obtain ⟨dst, op, ty, pos, after, guard⟩ := o
    simp only at ho
    subst ho hx
    have e2 := execOp_call_go (fr n l) dst g xs.toArray ats ty pos after guard
    rw [fr_eval] at e2
    rw [e2, h]
    simp
  refine ⟨l_step hg ?_⟩
  unfold Oper.wp; rw [fr_eval, e, Oper.upon_enter]
  refine hc.mono ?_
  intro e w' hF
  obtain ⟨u, rfl, hW⟩ := hk e w' hF
  show wpList _ _ _ _ _ _
  rw [fr_put]
  exact hW.out
theorem wl_bs36 (xs : List (Nat × Operand)) (vs : List Value) (m : Nat) (cs : Array Value) (ho : o.op = .buildSlice 36 m xs.toArray) (hx : (xs.map fun p => (p.1, evl n l p.2)) = (List.range m).zip vs)
    (h : ∀ w, (Instr.buildSlice 36 m ((List.range m).zip vs).toArray).run P w = .ok (.slice (some ⟨w.heap.size, 0, none⟩) m m) (w.alloc (.cells cs 33))) (hg : wnt n l ops o = true)
    (hk : ∀ k w', w.heap.size = k → w'.heap.size = k + 1 → Mo w w' → At w' k cs.toList → WL P ops Q rest n (ext l o.dst (.slice (some ⟨k, 0, none⟩) m m)) w') : WL P ops Q (o :: rest) n l w :=
  ⟨l_step hg (o_val (.slice (some ⟨w.heap.size, 0, none⟩) m m) (w' := w.alloc (.cells cs 33)) (by
    simp only [execOp, ho]
    rw [show (xs.toArray.map fun p => (p.1, evl n l p.2)) = ((List.range m).zip vs).toArray by rw [List.map_toArray, hx]]
    simp [h]) (hk _ _ rfl (by simp) ((Mo.refl _).alloc _ _) (At.new w cs 33)).out)⟩
end
theorem bs3 (A B C : Sm) (w : World) : (Instr.buildSlice 36 3 ((List.range 3).zip [smv A, smv B, smv C]).toArray).run Try.prog w = .ok (.slice (some ⟨w.heap.size, 0, none⟩) 3 3) (w.alloc (.cells (sml A ++ sml B ++ sml C).toArray 33)) := by kernel_rfl
theorem ss3 {w : World} {k : Nat} {A B C : Sm} (h : At w k (sml A ++ sml B ++ sml C)) : SS w (some ⟨k, 0, none⟩) [A, B, C] := by
  intro i S e
  refine ⟨k, 0, rfl, h.lt, fun j v hv => ?_⟩
  have hj : j < 23 := (List.getElem?_eq_some_iff.1 hv).1
  have hi : i = 0 ∨ i = 1 ∨ i = 2 := by have := (List.getElem?_eq_some_iff.1 e).1; simp at this; omega
  rw [Nat.zero_add]
  rcases hi with rfl | rfl | rfl
  · cases e
    refine h.cell ?_
    rw [List.append_assoc, List.getElem?_append_left (by show _ < 23; omega), Nat.zero_mul, Nat.zero_add]; exact hv
  · cases e
    refine h.cell ?_
    rw [List.append_assoc, List.getElem?_append_right (by show 23 ≤ _; omega), List.getElem?_append_left (by show _ - 23 < 23; omega), show 1 * 23 + j - (sml A).length = j from by show 1 * 23 + j - 23 = j; omega]; exact hv
  · cases e
    refine h.cell ?_
    rw [List.getElem?_append_right (by show 46 ≤ _; omega), show 2 * 23 + j - (sml A ++ sml B).length = j from by show 2 * 23 + j - 46 = j; omega]; exact hv
theorem slhi50 (ρ : Operand → Value) (x y : Operand) (p : Option Addr) (n c k : Nat) (hx : ρ x = .slice p n c) (hy : ρ y = .int .i64 (k : Int)) (hk : k ≤ c) (dst : Option Tmp) (type : TypeId) (pos : String) (after : Array Edge) (guard : Option (Nat × Bool)) (w : World) : (execOp ρ { dst, op := .slice 50 x none (some y) none, type, pos, after, guard }).run Try.prog w = .ok (.value (.slice p k c)) w := by
  cases p <;> simp [go_sem, hx, hy, hk]
theorem min20 (a : Nat) (ρ : Operand → Value) (x y : Operand) (hx : ρ x = .int .i64 (a : Int)) (hy : ρ y = .int .i64 20) (dst : Option Tmp) (type : TypeId) (pos : String) (after : Array Edge) (guard : Option (Nat × Bool)) (w : World) : (execOp ρ { dst, op := .call { callee := .builtin .min, args := #[x, y], argTypes := #[3, 3] }, type, pos, after, guard }).run Try.prog w = .ok (.value (.int .i64 ((min a 20 : Nat) : Int))) w := by
  rw [minI (a : Int) 20 ρ x y hx hy]
  congr 3; omega
theorem SBy.take {w : World} {p : Option Addr} {L : List Nat} (h : SBy w p L) (k : Nat) : SBy w p (L.take k) := fun i S e => by
  rw [List.getElem?_take] at e
  split at e
  · exact h i S e
  · cases e
section
variable {w : World}
theorem monoid_n (Xs : List V10) (Cs : List Nat) (p pc : Option Addr) (cap capc : Nat) (sc9 : Int) (hX : ∀ x ∈ Xs, x.n.ok) (hC : ∀ x ∈ Cs, x ≤ 255) (hSV : SV w p Xs) (hSB : SBy w pc Cs) (hn : Xs.length ≤ 600000000000) (hcc : Cs.length ≤ capc) : Calls Try.prog 7 #[.slice p Xs.length cap, .int .i64 sc9, .slice pc Cs.length capc] w fun e w' => e = .returned (.bool true) ∧ Mo w w' := by
  refine w_enter 40 Try.func7 Try.ntmps7 rfl rfl ?_
  have M : Mo w w := Mo.refl _
  refine w_seq ?_
  refine w_reg ?_
  refine wl_mv (.const (.bool false)) (.bool false) (fun _ => rfl) rfl rfl ?_
  refine w_nil ?_
  refine xn_then ?_
  refine w_seq ?_
  refine w_reg ?_
  refine wl_mv (.tmp 0) (.slice p Xs.length cap) (fun _ => rfl) rfl rfl ?_
  refine wl_mv (.tmp 1) (.int .i64 (sc9)) (fun _ => rfl) rfl rfl ?_
  refine wl_callx 23 [(.tmp 8), (.tmp 9)] _ [.slice p Xs.length cap, .int .i64 (sc9)] rfl rfl (fun _ _ => by kernel_rfl) (sums_n Xs p cap sc9 hX (hSV.mo M) hn) rfl ?_
  rintro _ w1 ⟨L, pa, cp, rfl, hLn, hLg, hSS, hcp, hq⟩
  refine ⟨_, rfl, ?_⟩
  replace M := M.trans hq
  clear hq
  have hLo : ∀ T ∈ L, T.ok := fun T h => (hLg T h).1
  have gJ := fold_gd (s := sc9) L (sm0_gd sc9) (fun T h => (hLg T h).2)
  have h3 : ∀ T ∈ [sm0, L.foldl jn sm0, sm0], T.ok := fun T hT => by
    simp only [List.mem_cons, List.not_mem_nil, or_false] at hT
    rcases hT with rfl | rfl | rfl
    · exact sm0_ok
    · exact fold_ok L sm0_ok hLo
    · exact sm0_ok
  have e3 : [sm0, L.foldl jn sm0, sm0].foldl jn sm0 = L.foldl jn sm0 := by
    show jn (jn (jn sm0 sm0) _) sm0 = _
    rw [jn_0l (sm0_gd sc9), jn_0l gJ, jn_0r gJ]
  refine wl_mv (.tmp 10) (.slice pa L.length cp) (fun _ => rfl) rfl rfl ?_
  refine w_nil ?_
  refine xn_then ?_
  refine w_seq ?_
  refine w_reg ?_
  refine wl_call 9 [] _ [] (.bool true) rfl rfl (fun _ _ => by kernel_rfl) (live_n) rfl ?_
  intro w2 hq
  replace hSS := hSS.mo hq
  replace M := M.trans hq
  clear hq
  refine wl_mv (.tmp 11) (.bool true) (fun _ => rfl) rfl rfl ?_
  refine wl_mv (.tmp 7) (.slice pa L.length cp) (fun _ => rfl) rfl rfl ?_
  refine wl_mv (.tmp 2) (.slice pc Cs.length capc) (fun _ => rfl) rfl rfl ?_
  refine wl_mv (.tmp 2) (.slice pc Cs.length capc) (fun _ => rfl) rfl rfl ?_
  refine wl_val (.int .i64 ((Cs.length : Int))) (len50 _ _ _ _ _ (by exact rfl) _ _ _ _ _ _) rfl ?_
  refine wl_val (.int .i64 ((min Cs.length 20 : Nat) : Int)) (min20 Cs.length _ _ _ (by exact rfl) (by exact rfl) _ _ _ _ _ _) rfl ?_
  refine wl_val (.slice pc (min Cs.length 20) capc) (slhi50 _ _ _ pc Cs.length capc (min Cs.length 20) (by exact rfl) (by exact rfl) (by omega) _ _ _ _ _ _) rfl ?_
  refine wl_call 24 [(.tmp 13), (.tmp 18)] _ [.slice pa L.length cp, .slice pc (min Cs.length 20) capc] (.agg #[.int .i64 ((L.foldl jn sm0).r), .int .i64 ((L.foldl jn sm0).f), .int .i64 ((L.foldl jn sm0).k), .int .i64 ((L.foldl jn sm0).d), .int .i64 ((L.foldl jn sm0).e), .int .u64 (l0 ((L.foldl jn sm0).tt)), .int .u64 (l1 ((L.foldl jn sm0).tt)), .int .u64 (l2 ((L.foldl jn sm0).tt)), .int .u64 (l3 ((L.foldl jn sm0).tt)), .int .u64 (l4 ((L.foldl jn sm0).tt)), .bool (L.foldl jn sm0).so, .bool (L.foldl jn sm0).mn.b, .int .u64 (l0 ((L.foldl jn sm0).mn.n)), .int .u64 (l1 ((L.foldl jn sm0).mn.n)), .int .u64 (l2 ((L.foldl jn sm0).mn.n)), .int .u64 (l3 ((L.foldl jn sm0).mn.n)), .int .i64 ((L.foldl jn sm0).mn.s), .bool (L.foldl jn sm0).mx.b, .int .u64 (l0 ((L.foldl jn sm0).mx.n)), .int .u64 (l1 ((L.foldl jn sm0).mx.n)), .int .u64 (l2 ((L.foldl jn sm0).mx.n)), .int .u64 (l3 ((L.foldl jn sm0).mx.n)), .int .i64 ((L.foldl jn sm0).mx.s)]) rfl rfl (fun _ _ => by kernel_rfl) (by
      have h := tree_n sc9 (Cs.take 20) L pa pc cp capc _ (fun x h => hC x (List.mem_of_mem_take h)) hLg hSS ((hSB.take 20).mo M) (by omega) hcp (by rw [List.length_take]; omega)
      rw [List.length_take, Nat.min_comm] at h
      exact h) rfl ?_
  intro w3 hq
  replace hSS := hSS.mo hq
  replace M := M.trans hq
  clear hq
  refine wl_mv (.tmp 7) (.slice pa L.length cp) (fun _ => rfl) rfl rfl ?_
  refine wl_call 12 [(.tmp 20)] _ [.slice pa L.length cp] (.agg #[.int .i64 ((L.foldl jn sm0).r), .int .i64 ((L.foldl jn sm0).f), .int .i64 ((L.foldl jn sm0).k), .int .i64 ((L.foldl jn sm0).d), .int .i64 ((L.foldl jn sm0).e), .int .u64 (l0 ((L.foldl jn sm0).tt)), .int .u64 (l1 ((L.foldl jn sm0).tt)), .int .u64 (l2 ((L.foldl jn sm0).tt)), .int .u64 (l3 ((L.foldl jn sm0).tt)), .int .u64 (l4 ((L.foldl jn sm0).tt)), .bool (L.foldl jn sm0).so, .bool (L.foldl jn sm0).mn.b, .int .u64 (l0 ((L.foldl jn sm0).mn.n)), .int .u64 (l1 ((L.foldl jn sm0).mn.n)), .int .u64 (l2 ((L.foldl jn sm0).mn.n)), .int .u64 (l3 ((L.foldl jn sm0).mn.n)), .int .i64 ((L.foldl jn sm0).mn.s), .bool (L.foldl jn sm0).mx.b, .int .u64 (l0 ((L.foldl jn sm0).mx.n)), .int .u64 (l1 ((L.foldl jn sm0).mx.n)), .int .u64 (l2 ((L.foldl jn sm0).mx.n)), .int .u64 (l3 ((L.foldl jn sm0).mx.n)), .int .i64 ((L.foldl jn sm0).mx.s)]) rfl rfl (fun _ _ => by kernel_rfl) (join_n L pa cp hLo hSS (by omega)) rfl ?_
  intro w4 hq
  replace hSS := hSS.mo hq
  replace M := M.trans hq
  clear hq
  refine wl_bin (fun x y => do eqGuard .eql 33 (.tmp 19) (.tmp 21) x y; binOp .eql 33 x y) (.tmp 19) (.tmp 21) (.agg #[.int .i64 ((L.foldl jn sm0).r), .int .i64 ((L.foldl jn sm0).f), .int .i64 ((L.foldl jn sm0).k), .int .i64 ((L.foldl jn sm0).d), .int .i64 ((L.foldl jn sm0).e), .int .u64 (l0 ((L.foldl jn sm0).tt)), .int .u64 (l1 ((L.foldl jn sm0).tt)), .int .u64 (l2 ((L.foldl jn sm0).tt)), .int .u64 (l3 ((L.foldl jn sm0).tt)), .int .u64 (l4 ((L.foldl jn sm0).tt)), .bool (L.foldl jn sm0).so, .bool (L.foldl jn sm0).mn.b, .int .u64 (l0 ((L.foldl jn sm0).mn.n)), .int .u64 (l1 ((L.foldl jn sm0).mn.n)), .int .u64 (l2 ((L.foldl jn sm0).mn.n)), .int .u64 (l3 ((L.foldl jn sm0).mn.n)), .int .i64 ((L.foldl jn sm0).mn.s), .bool (L.foldl jn sm0).mx.b, .int .u64 (l0 ((L.foldl jn sm0).mx.n)), .int .u64 (l1 ((L.foldl jn sm0).mx.n)), .int .u64 (l2 ((L.foldl jn sm0).mx.n)), .int .u64 (l3 ((L.foldl jn sm0).mx.n)), .int .i64 ((L.foldl jn sm0).mx.s)]) (.agg #[.int .i64 ((L.foldl jn sm0).r), .int .i64 ((L.foldl jn sm0).f), .int .i64 ((L.foldl jn sm0).k), .int .i64 ((L.foldl jn sm0).d), .int .i64 ((L.foldl jn sm0).e), .int .u64 (l0 ((L.foldl jn sm0).tt)), .int .u64 (l1 ((L.foldl jn sm0).tt)), .int .u64 (l2 ((L.foldl jn sm0).tt)), .int .u64 (l3 ((L.foldl jn sm0).tt)), .int .u64 (l4 ((L.foldl jn sm0).tt)), .bool (L.foldl jn sm0).so, .bool (L.foldl jn sm0).mn.b, .int .u64 (l0 ((L.foldl jn sm0).mn.n)), .int .u64 (l1 ((L.foldl jn sm0).mn.n)), .int .u64 (l2 ((L.foldl jn sm0).mn.n)), .int .u64 (l3 ((L.foldl jn sm0).mn.n)), .int .i64 ((L.foldl jn sm0).mn.s), .bool (L.foldl jn sm0).mx.b, .int .u64 (l0 ((L.foldl jn sm0).mx.n)), .int .u64 (l1 ((L.foldl jn sm0).mx.n)), .int .u64 (l2 ((L.foldl jn sm0).mx.n)), .int .u64 (l3 ((L.foldl jn sm0).mx.n)), .int .i64 ((L.foldl jn sm0).mx.s)]) (.bool true) (fun _ => rfl) rfl rfl (eqs_run (L.foldl jn sm0) _ _ _) rfl ?_
  refine wl_pick (.tmp 12) (.tmp 22) (.const (.bool false)) true (.bool true) (fun _ => rfl) rfl rfl rfl ?_
  refine wl_mv (.tmp 23) (.bool true) (fun _ => rfl) rfl rfl ?_
  refine wl_call 12 [(.const (.slice none 0 0))] _ [.slice none 0 0] (.agg #[.int .i64 (sm0.r), .int .i64 (sm0.f), .int .i64 (sm0.k), .int .i64 (sm0.d), .int .i64 (sm0.e), .int .u64 (l0 (sm0.tt)), .int .u64 (l1 (sm0.tt)), .int .u64 (l2 (sm0.tt)), .int .u64 (l3 (sm0.tt)), .int .u64 (l4 (sm0.tt)), .bool sm0.so, .bool sm0.mn.b, .int .u64 (l0 (sm0.mn.n)), .int .u64 (l1 (sm0.mn.n)), .int .u64 (l2 (sm0.mn.n)), .int .u64 (l3 (sm0.mn.n)), .int .i64 (sm0.mn.s), .bool sm0.mx.b, .int .u64 (l0 (sm0.mx.n)), .int .u64 (l1 (sm0.mx.n)), .int .u64 (l2 (sm0.mx.n)), .int .u64 (l3 (sm0.mx.n)), .int .i64 (sm0.mx.s)]) rfl rfl (fun _ _ => by kernel_rfl) (join_n [] none 0 (fun _ e => by cases e) (fun _ _ e => by cases e) (by decide)) rfl ?_
  intro w5 hq
  replace hSS := hSS.mo hq
  replace M := M.trans hq
  clear hq
  refine wl_build 33 [] [] (.agg #[.int .i64 0, .int .i64 0, .int .i64 0, .int .i64 0, .int .i64 0, .int .u64 0, .int .u64 0, .int .u64 0, .int .u64 0, .int .u64 0, .bool false, .bool false, .int .u64 0, .int .u64 0, .int .u64 0, .int .u64 0, .int .i64 0, .bool false, .int .u64 0, .int .u64 0, .int .u64 0, .int .u64 0, .int .i64 0]) rfl rfl (by kernel_rfl) rfl ?_
  refine wl_bin (fun x y => do eqGuard .eql 33 (.tmp 25) (.tmp 26) x y; binOp .eql 33 x y) (.tmp 25) (.tmp 26) (.agg #[.int .i64 (sm0.r), .int .i64 (sm0.f), .int .i64 (sm0.k), .int .i64 (sm0.d), .int .i64 (sm0.e), .int .u64 (l0 (sm0.tt)), .int .u64 (l1 (sm0.tt)), .int .u64 (l2 (sm0.tt)), .int .u64 (l3 (sm0.tt)), .int .u64 (l4 (sm0.tt)), .bool sm0.so, .bool sm0.mn.b, .int .u64 (l0 (sm0.mn.n)), .int .u64 (l1 (sm0.mn.n)), .int .u64 (l2 (sm0.mn.n)), .int .u64 (l3 (sm0.mn.n)), .int .i64 (sm0.mn.s), .bool sm0.mx.b, .int .u64 (l0 (sm0.mx.n)), .int .u64 (l1 (sm0.mx.n)), .int .u64 (l2 (sm0.mx.n)), .int .u64 (l3 (sm0.mx.n)), .int .i64 (sm0.mx.s)]) (.agg #[.int .i64 0, .int .i64 0, .int .i64 0, .int .i64 0, .int .i64 0, .int .u64 0, .int .u64 0, .int .u64 0, .int .u64 0, .int .u64 0, .bool false, .bool false, .int .u64 0, .int .u64 0, .int .u64 0, .int .u64 0, .int .i64 0, .bool false, .int .u64 0, .int .u64 0, .int .u64 0, .int .u64 0, .int .i64 0]) (.bool true) (fun _ => rfl) rfl rfl (eqs_run sm0 _ _ _) rfl ?_
  refine wl_pick (.tmp 24) (.tmp 27) (.const (.bool false)) true (.bool true) (fun _ => rfl) rfl rfl rfl ?_
  refine wl_mv (.tmp 28) (.bool true) (fun _ => rfl) rfl rfl ?_
  refine wl_build 33 [] [] (.agg #[.int .i64 0, .int .i64 0, .int .i64 0, .int .i64 0, .int .i64 0, .int .u64 0, .int .u64 0, .int .u64 0, .int .u64 0, .int .u64 0, .bool false, .bool false, .int .u64 0, .int .u64 0, .int .u64 0, .int .u64 0, .int .i64 0, .bool false, .int .u64 0, .int .u64 0, .int .u64 0, .int .u64 0, .int .i64 0]) rfl rfl (by kernel_rfl) rfl ?_
  refine wl_mv (.tmp 7) (.slice pa L.length cp) (fun _ => rfl) rfl rfl ?_
  refine wl_call 12 [(.tmp 31)] _ [.slice pa L.length cp] (.agg #[.int .i64 ((L.foldl jn sm0).r), .int .i64 ((L.foldl jn sm0).f), .int .i64 ((L.foldl jn sm0).k), .int .i64 ((L.foldl jn sm0).d), .int .i64 ((L.foldl jn sm0).e), .int .u64 (l0 ((L.foldl jn sm0).tt)), .int .u64 (l1 ((L.foldl jn sm0).tt)), .int .u64 (l2 ((L.foldl jn sm0).tt)), .int .u64 (l3 ((L.foldl jn sm0).tt)), .int .u64 (l4 ((L.foldl jn sm0).tt)), .bool (L.foldl jn sm0).so, .bool (L.foldl jn sm0).mn.b, .int .u64 (l0 ((L.foldl jn sm0).mn.n)), .int .u64 (l1 ((L.foldl jn sm0).mn.n)), .int .u64 (l2 ((L.foldl jn sm0).mn.n)), .int .u64 (l3 ((L.foldl jn sm0).mn.n)), .int .i64 ((L.foldl jn sm0).mn.s), .bool (L.foldl jn sm0).mx.b, .int .u64 (l0 ((L.foldl jn sm0).mx.n)), .int .u64 (l1 ((L.foldl jn sm0).mx.n)), .int .u64 (l2 ((L.foldl jn sm0).mx.n)), .int .u64 (l3 ((L.foldl jn sm0).mx.n)), .int .i64 ((L.foldl jn sm0).mx.s)]) rfl rfl (fun _ _ => by kernel_rfl) (join_n L pa cp hLo hSS (by omega)) rfl ?_
  intro w6 hq
  replace hSS := hSS.mo hq
  replace M := M.trans hq
  clear hq
  refine wl_build 33 [] [] (.agg #[.int .i64 0, .int .i64 0, .int .i64 0, .int .i64 0, .int .i64 0, .int .u64 0, .int .u64 0, .int .u64 0, .int .u64 0, .int .u64 0, .bool false, .bool false, .int .u64 0, .int .u64 0, .int .u64 0, .int .u64 0, .int .i64 0, .bool false, .int .u64 0, .int .u64 0, .int .u64 0, .int .u64 0, .int .i64 0]) rfl rfl (by kernel_rfl) rfl ?_
  refine wl_bs36 [(0, (.tmp 30)), (1, (.tmp 32)), (2, (.tmp 33))] [smv sm0, smv (L.foldl jn sm0), smv sm0] 3 (sml sm0 ++ sml (L.foldl jn sm0) ++ sml sm0).toArray rfl rfl (bs3 sm0 (L.foldl jn sm0) sm0) rfl ?_
  intro kn w7 hk hz hq QN
  replace hSS := hSS.mo hq
  replace M := M.trans hq
  clear hk hz hq
  refine wl_call 12 [(.tmp 34)] _ [.slice (some ⟨kn, 0, none⟩) 3 3] (.agg #[.int .i64 ((L.foldl jn sm0).r), .int .i64 ((L.foldl jn sm0).f), .int .i64 ((L.foldl jn sm0).k), .int .i64 ((L.foldl jn sm0).d), .int .i64 ((L.foldl jn sm0).e), .int .u64 (l0 ((L.foldl jn sm0).tt)), .int .u64 (l1 ((L.foldl jn sm0).tt)), .int .u64 (l2 ((L.foldl jn sm0).tt)), .int .u64 (l3 ((L.foldl jn sm0).tt)), .int .u64 (l4 ((L.foldl jn sm0).tt)), .bool (L.foldl jn sm0).so, .bool (L.foldl jn sm0).mn.b, .int .u64 (l0 ((L.foldl jn sm0).mn.n)), .int .u64 (l1 ((L.foldl jn sm0).mn.n)), .int .u64 (l2 ((L.foldl jn sm0).mn.n)), .int .u64 (l3 ((L.foldl jn sm0).mn.n)), .int .i64 ((L.foldl jn sm0).mn.s), .bool (L.foldl jn sm0).mx.b, .int .u64 (l0 ((L.foldl jn sm0).mx.n)), .int .u64 (l1 ((L.foldl jn sm0).mx.n)), .int .u64 (l2 ((L.foldl jn sm0).mx.n)), .int .u64 (l3 ((L.foldl jn sm0).mx.n)), .int .i64 ((L.foldl jn sm0).mx.s)]) rfl rfl (fun _ _ => by kernel_rfl) (by have h := join_n [sm0, (L.foldl jn sm0), sm0] (some ⟨kn, 0, none⟩) 3 h3 (ss3 QN) (by show 3 ≤ 900000000000000000; decide); rw [e3] at h; exact h) rfl ?_
  intro w8 hq
  replace hSS := hSS.mo hq
  replace M := M.trans hq
  clear hq
  refine wl_mv (.tmp 7) (.slice pa L.length cp) (fun _ => rfl) rfl rfl ?_
  refine wl_call 12 [(.tmp 36)] _ [.slice pa L.length cp] (.agg #[.int .i64 ((L.foldl jn sm0).r), .int .i64 ((L.foldl jn sm0).f), .int .i64 ((L.foldl jn sm0).k), .int .i64 ((L.foldl jn sm0).d), .int .i64 ((L.foldl jn sm0).e), .int .u64 (l0 ((L.foldl jn sm0).tt)), .int .u64 (l1 ((L.foldl jn sm0).tt)), .int .u64 (l2 ((L.foldl jn sm0).tt)), .int .u64 (l3 ((L.foldl jn sm0).tt)), .int .u64 (l4 ((L.foldl jn sm0).tt)), .bool (L.foldl jn sm0).so, .bool (L.foldl jn sm0).mn.b, .int .u64 (l0 ((L.foldl jn sm0).mn.n)), .int .u64 (l1 ((L.foldl jn sm0).mn.n)), .int .u64 (l2 ((L.foldl jn sm0).mn.n)), .int .u64 (l3 ((L.foldl jn sm0).mn.n)), .int .i64 ((L.foldl jn sm0).mn.s), .bool (L.foldl jn sm0).mx.b, .int .u64 (l0 ((L.foldl jn sm0).mx.n)), .int .u64 (l1 ((L.foldl jn sm0).mx.n)), .int .u64 (l2 ((L.foldl jn sm0).mx.n)), .int .u64 (l3 ((L.foldl jn sm0).mx.n)), .int .i64 ((L.foldl jn sm0).mx.s)]) rfl rfl (fun _ _ => by kernel_rfl) (join_n L pa cp hLo hSS (by omega)) rfl ?_
  intro w9 hq
  replace hSS := hSS.mo hq
  replace M := M.trans hq
  clear hq
  refine wl_bin (fun x y => do eqGuard .eql 33 (.tmp 35) (.tmp 37) x y; binOp .eql 33 x y) (.tmp 35) (.tmp 37) (.agg #[.int .i64 ((L.foldl jn sm0).r), .int .i64 ((L.foldl jn sm0).f), .int .i64 ((L.foldl jn sm0).k), .int .i64 ((L.foldl jn sm0).d), .int .i64 ((L.foldl jn sm0).e), .int .u64 (l0 ((L.foldl jn sm0).tt)), .int .u64 (l1 ((L.foldl jn sm0).tt)), .int .u64 (l2 ((L.foldl jn sm0).tt)), .int .u64 (l3 ((L.foldl jn sm0).tt)), .int .u64 (l4 ((L.foldl jn sm0).tt)), .bool (L.foldl jn sm0).so, .bool (L.foldl jn sm0).mn.b, .int .u64 (l0 ((L.foldl jn sm0).mn.n)), .int .u64 (l1 ((L.foldl jn sm0).mn.n)), .int .u64 (l2 ((L.foldl jn sm0).mn.n)), .int .u64 (l3 ((L.foldl jn sm0).mn.n)), .int .i64 ((L.foldl jn sm0).mn.s), .bool (L.foldl jn sm0).mx.b, .int .u64 (l0 ((L.foldl jn sm0).mx.n)), .int .u64 (l1 ((L.foldl jn sm0).mx.n)), .int .u64 (l2 ((L.foldl jn sm0).mx.n)), .int .u64 (l3 ((L.foldl jn sm0).mx.n)), .int .i64 ((L.foldl jn sm0).mx.s)]) (.agg #[.int .i64 ((L.foldl jn sm0).r), .int .i64 ((L.foldl jn sm0).f), .int .i64 ((L.foldl jn sm0).k), .int .i64 ((L.foldl jn sm0).d), .int .i64 ((L.foldl jn sm0).e), .int .u64 (l0 ((L.foldl jn sm0).tt)), .int .u64 (l1 ((L.foldl jn sm0).tt)), .int .u64 (l2 ((L.foldl jn sm0).tt)), .int .u64 (l3 ((L.foldl jn sm0).tt)), .int .u64 (l4 ((L.foldl jn sm0).tt)), .bool (L.foldl jn sm0).so, .bool (L.foldl jn sm0).mn.b, .int .u64 (l0 ((L.foldl jn sm0).mn.n)), .int .u64 (l1 ((L.foldl jn sm0).mn.n)), .int .u64 (l2 ((L.foldl jn sm0).mn.n)), .int .u64 (l3 ((L.foldl jn sm0).mn.n)), .int .i64 ((L.foldl jn sm0).mn.s), .bool (L.foldl jn sm0).mx.b, .int .u64 (l0 ((L.foldl jn sm0).mx.n)), .int .u64 (l1 ((L.foldl jn sm0).mx.n)), .int .u64 (l2 ((L.foldl jn sm0).mx.n)), .int .u64 (l3 ((L.foldl jn sm0).mx.n)), .int .i64 ((L.foldl jn sm0).mx.s)]) (.bool true) (fun _ => rfl) rfl rfl (eqs_run (L.foldl jn sm0) _ _ _) rfl ?_
  refine wl_pick (.tmp 29) (.tmp 38) (.const (.bool false)) true (.bool true) (fun _ => rfl) rfl rfl rfl ?_
  refine wl_mv (.tmp 39) (.bool true) (fun _ => rfl) rfl rfl ?_
  refine w_nil ?_
  refine xn_then ?_
  refine w_ret ?_
  exact w_ret1 _ (.bool true) rfl rfl ⟨rfl, M⟩
end
end Go.Proofs.Ythpekbohmfmffaa
/-
  Values and bytes that came in; how many.
-/
namespace Go.Proofs.Ythpekbohmfmffaa
open Go.ChangeShapes Go.WideShapes Go.ChangeAt
open Go.RowKit
theorem Try.cl5 : Try.prog.cellsOf 5 = 1 := by kernel_rfl
theorem wf_u8 {x : Int} (h : (Lit.int .u8 x).wf = true) : 0 ≤ x ∧ x ≤ 255 := by
  simp [Lit.wf, IntKind.min, IntKind.max, IntKind.signed, IntKind.bits] at h
  exact ⟨by omega, by omega⟩
set_option maxRecDepth 100000 in
theorem open_values {H : Type} {enc : TypeId × Value → H} {W : World} {base : Nat} {v : Value} {d : DataW H} {p : List MemPlace} (hv : Value.okWide Try.prog W .any base 49 v) (h : DataW.Trod enc Try.prog W 0 (fun _ => true) true 49 v d p) :
    ∃ (L : List V10) (pa : Option Addr) (cap : Nat), v = .slice pa L.length cap ∧ (∀ T ∈ L, T.n.ok) ∧ SV W pa L ∧ L.length ≤ cap ∧ (L = [] ∨ ∃ elems spare, d = .slice elems spare ∧ elems.length = L.length) := by
  obtain ⟨a0, len, cap, rfl⟩ := okWide_slice Try.underlying49 hv
  obtain ⟨fuel, hf⟩ := h
  rcases Go.Deep.open_slice Try.underlying49 hf with ⟨hcs, _⟩ | ⟨a, len', cap', m, n, D, Pl, hcs, _, hl, _, hm, hx, hel⟩
  · simp [Value.cells] at hcs
    obtain ⟨rfl, rfl, rfl⟩ := hcs
    exact ⟨[], none, 0, rfl, fun _ e => (by cases e), fun _ _ e => (by cases e), Nat.le_refl _, Or.inl rfl⟩
  · simp [Value.cells] at hcs
    obtain ⟨rfl, rfl, rfl⟩ := hcs
    simp only [Prod.mk.injEq] at hx
    simp at hm
    have key : ∀ i : Nat, ∃ S : V10, i < len → S.n.ok ∧ ∃ b off, some a = some (⟨b, off, none⟩ : Addr) ∧ b < W.heap.size ∧ W.rangeAt b (off + i * 10) S.cells := by
      intro i
      by_cases hi : i < len
      · obtain ⟨cs', hc, ht⟩ := hel i (by omega)
        obtain ⟨o, ho, _, rfl⟩ := cut10 ht
        refine ⟨o, fun _ => ⟨ho, ?_⟩⟩
        rw [Try.cl28] at hc
        have hb := World.cells?_block hc (by decide)
        obtain ⟨_, hlen, hcell⟩ := World.cells?_some hc
        obtain ⟨b, off, spot⟩ := a
        have hs : spot = none := by
          obtain ⟨cs0, hc0, ht0⟩ := hel 0 (by omega)
          obtain ⟨o0, _, _, rfl⟩ := cut10 ht0
          rw [Try.cl28] at hc0
          have h0 := (World.cells?_some hc0).2.2 0 (by decide)
          have := World.cell?_spot (show W.cell? (((⟨b, off, spot⟩ : Addr).add (0 * 10)).add 0) = some (.int .i64 o0.K) from h0)
          simpa [Addr.add] using this
        subst hs
        refine ⟨b, off, rfl, by simpa [Addr.add_mid] using hb, fun j v hv => ?_⟩
        have hj : j < 10 := by
          exact (List.getElem?_eq_some_iff.1 hv).1
        have := hcell j hj
        rw [Addr.add_mid, Addr.add_mid, hv] at this
        exact this
      · exact ⟨⟨0, d0, false, ⟨#[]⟩, 0⟩, fun e => absurd e hi⟩
    obtain ⟨f, hf2⟩ := Classical.skolem.1 key
    refine ⟨(List.range len).map f, some a, cap, by simp, fun o ho => ?_, fun i o e => ?_, by simpa using hl, Or.inr ⟨_, _, hx.1, by simp⟩⟩
    · obtain ⟨i, hi, rfl⟩ := List.mem_map.1 ho
      exact (hf2 i (by simpa using hi)).1
    · have hi : i < len := by have := (List.getElem?_eq_some_iff.1 e).1; simpa using this
      rw [List.getElem?_map, List.getElem?_range hi] at e
      cases e
      exact (hf2 i hi).2
set_option maxRecDepth 100000 in
theorem open_bytes {H : Type} {enc : TypeId × Value → H} {W : World} {base : Nat} {v : Value} {d : DataW H} {p : List MemPlace} (hv : Value.okWide Try.prog W .any base 50 v) (h : DataW.Trod enc Try.prog W 0 (fun _ => true) true 50 v d p) :
    ∃ (L : List Nat) (pa : Option Addr) (cap : Nat), v = .slice pa L.length cap ∧ (∀ x ∈ L, x ≤ 255) ∧ SBy W pa L ∧ L.length ≤ cap := by
  obtain ⟨a0, len, cap, rfl⟩ := okWide_slice Try.underlying50 hv
  obtain ⟨fuel, hf⟩ := h
  rcases Go.Deep.open_slice Try.underlying50 hf with ⟨hcs, _⟩ | ⟨a, len', cap', m, n, D, Pl, hcs, _, hl, _, hm, hx, hel⟩
  · simp [Value.cells] at hcs
    obtain ⟨rfl, rfl, rfl⟩ := hcs
    exact ⟨[], none, 0, rfl, fun _ e => (by cases e), fun _ _ e => (by cases e), Nat.le_refl _⟩
  · simp [Value.cells] at hcs
    obtain ⟨rfl, rfl, rfl⟩ := hcs
    simp at hm
    have one : ∀ i, i < len → ∃ x : Nat, x ≤ 255 ∧ W.cells? 0 (a.add (i * 1)) 1 = some [.int .u8 (x : Int)] := by
      intro i hi
      obtain ⟨cs', hc, ht⟩ := hel i (by omega)
      rw [Try.cl5] at hc
      obtain ⟨x, e0, _, w0⟩ := DataW.trod_int Try.underlying5 ht
      subst e0
      have hb := wf_u8 w0
      obtain ⟨y, rfl⟩ := Int.eq_ofNat_of_zero_le hb.1
      exact ⟨y, by omega, hc⟩
    have key : ∀ i : Nat, ∃ S : Nat, i < len → S ≤ 255 ∧ ∃ b off, some a = some (⟨b, off, none⟩ : Addr) ∧ b < W.heap.size ∧ W.cell? ⟨b, off + i, none⟩ = some (.int .u8 (S : Int)) := by
      intro i
      by_cases hi : i < len
      · obtain ⟨x, hx1, hc⟩ := one i hi
        refine ⟨x, fun _ => ⟨hx1, ?_⟩⟩
        have hb := World.cells?_block hc (by decide)
        obtain ⟨_, _, hcell⟩ := World.cells?_some hc
        obtain ⟨b, off, spot⟩ := a
        have hs : spot = none := by
          obtain ⟨x0, _, hc0⟩ := one 0 (by omega)
          have h0 := (World.cells?_some hc0).2.2 0 (by decide)
          have := World.cell?_spot (show W.cell? (((⟨b, off, spot⟩ : Addr).add (0 * 1)).add 0) = some (.int .u8 (x0 : Int)) from h0)
          simpa [Addr.add] using this
        subst hs
        refine ⟨b, off, rfl, by simpa [Addr.add_mid] using hb, ?_⟩
        have := hcell 0 (by decide)
        rw [Addr.add_mid, Addr.add_mid, Nat.mul_one, Nat.add_zero] at this
        exact this
      · exact ⟨0, fun e => absurd e hi⟩
    obtain ⟨f, hf2⟩ := Classical.skolem.1 key
    refine ⟨(List.range len).map f, some a, cap, by simp, fun o ho => ?_, fun i o e => ?_, by simpa using hl⟩
    · obtain ⟨i, hi, rfl⟩ := List.mem_map.1 ho
      exact (hf2 i (by simpa using hi)).1
    · have hi : i < len := by have := (List.getElem?_eq_some_iff.1 e).1; simpa using this
      rw [List.getElem?_map, List.getElem?_range hi] at e
      cases e
      exact (hf2 i hi).2
theorem bulk_one {H : Type} (d : DataW H) : 1 ≤ Rows.uptoBulk d := by
  cases d with
  | lit l => cases l <;> simp [Rows.uptoBulk]
  | nil => simp [Rows.uptoBulk]
  | ptr d => simp [Rows.uptoBulk]
  | slice elems spare => simp [Rows.uptoBulk]
  | agg parts => simp [Rows.uptoBulk]
  | iface t d => simp [Rows.uptoBulk]
  | map entries => simp [Rows.uptoBulk]
  | held h => simp [Rows.uptoBulk]
theorem bulk_len {H : Type} (l : List (DataW H)) : l.length ≤ Rows.uptoBulkAll l := by
  induction l with
  | nil => simp [Rows.uptoBulkAll]
  | cons x r ih => have := bulk_one x; simp only [Rows.uptoBulkAll, List.length_cons]; omega
theorem bulk_first {H : Type} {elems spare : List (DataW H)} {r : List (DataW H)} (hk : Rows.uptoSmall H (.slice elems spare :: r) = true) : elems.length ≤ 1048576 := by
  have h := of_decide_eq_true hk
  have := bulk_len elems
  simp only [Rows.uptoBulkAll, Rows.uptoBulk] at h
  omega
end Go.Proofs.Ythpekbohmfmffaa
namespace Go.Proofs.Ythpekbohmfmffaa
open Go.ChangeShapes Go.WideShapes Go.ChangeAt Go.RowKit Go.ChangeMaps
theorem tys7 : ∀ t ∈ ([49, 3, 50] : List TypeId), Try.prog.readableRec t = true ∧ t < Try.prog.types.size := by
  intro t ht
  simp only [List.mem_cons, List.not_mem_nil, or_false] at ht
  rcases ht with rfl | rfl | rfl
  · exact ⟨by kernel_rfl, of_decide_eq_true (by kernel_rfl)⟩
  · exact ⟨by kernel_rfl, of_decide_eq_true (by kernel_rfl)⟩
  · exact ⟨by kernel_rfl, of_decide_eq_true (by kernel_rfl)⟩
set_option maxHeartbeats 1000000 in
set_option maxRecDepth 100000 in
theorem summaryMonoid_lifted (os : Os) (started : os.Started) (H : Type) (enc : TypeId × Value → H) (F : Stop.Interp) :
    ReturnsInHanded {} Try.checked os 7 .any ((Rows.OpenSpec.upto Rows.summaryMonoidSpec).pre6 enc Try.prog Try.f7 Rows.summaryMonoidUptoRow.domain false) (((Rows.OpenSpec.upto Rows.summaryMonoidSpec).at F).post enc Try.prog Try.f7 false true false false) := by
  refine returnsInHanded_of_cond (C := Try.checked) (s := Rows.OpenSpec.upto Rows.summaryMonoidSpec) (k := Rows.uptoSmall) rfl Try.own started (by kernel_rfl) Try.func7
    (OpenSpec.witness (enc := enc) (C := Try.checked) (s := Rows.OpenSpec.upto Rows.summaryMonoidSpec) (k := Rows.uptoSmall) rfl false ⟨#[], #[.slice none 0 0, .int .i64 0, .slice none 0 0], []⟩ 8 (by kernel_rfl) (by kernel_rfl) (by kernel_rfl)
      (x := ([.nil, .lit (.int .i64 0), .nil], [], [])) (by kernel_rfl) rfl (by kernel_rfl)) ?_
  intro W base args ds gs before hval0 hW _ hk _
  have hval : ∀ (j : Nat) t v, Try.f7.params[j]? = some t → args[j]? = some v → Value.okWide Try.prog W .any base t v := hval0
  have hW' := hW
  obtain ⟨p, q, hA0, hV, rfl, _, _⟩ := hW
  have hA : DataW.TrodAll enc Try.prog W 0 (fun _ => true) true Try.f7.params.toList args.toList ds p := hA0
  have hAk := hA
  rw [Try.params7] at hA hval
  obtain ⟨v0, v1, v2, d0', d1, d2, p0, p1, p2, rfl, rfl, _, h0, h1, h2⟩ := trodAll_three hA
  obtain ⟨rfl, rfl⟩ := trodVars_none hV
  obtain ⟨Xs, pa, cap, rfl, okX, hSV, _, hlen⟩ := open_values (hval 0 49 v0 rfl rfl) h0
  obtain ⟨z1, rfl, _, _, _⟩ := open_i64 Try.underlying3 (hval 1 3 v1 rfl rfl) h1
  obtain ⟨Cs, pc, capc, rfl, okC, hSB, hcc⟩ := open_bytes (hval 2 50 v2 rfl rfl) h2
  have hn : Xs.length ≤ 600000000000 := by
    rcases hlen with rfl | ⟨elems, spare, rfl, hl⟩
    · decide
    · have := bulk_first hk
      omega
  clear hA0 hval0
  refine (monoid_n (w := W) Xs Cs pa pc cap capc z1 okX okC hSV hSB hn hcc).mono fun e W' ⟨he, hg⟩ => ?_
  subst he
  simp only [List.append_nil] at hW'
  have hlt : ∀ x ∈ p, x.block < W.heap.size := fun x hx => by simpa using hW'.lt x hx
  exact ⟨_, rfl, post_of_same (s := (Rows.OpenSpec.upto Rows.summaryMonoidSpec).at F) (pa := p) (pv := []) hW' (fun _ _ _ => trodAll_mk1 (shut_bool Try.underlying4 _)) (fun sp hsp => trodAll_stays (by rw [Try.params7]; exact tys7) hAk (fun x hx => hg.1.same (hlt x hx)) hsp) (fun _ _ => rfl) (by simp)
    (hg.1.frame _) hg.2 (ok_one (by kernel_rfl) rfl (okWide_bool_mk Try.underlying4 _))⟩

theorem summaryMonoid_holds : Rows.SummaryMonoidUptoSaid :=
  OpenClaim.holds_of_cond 7 Try.f7 rfl rfl rfl rfl rfl rfl rfl ⟨rfl, rfl, rfl, rfl, rfl⟩ rfl rfl rfl rfl rfl (by kernel_rfl) Try.func7 (by kernel_rfl)
    (of_decide_eq_true (by kernel_rfl)) (by unfold Func.isWrapper; rw [if_neg (of_decide_eq_false (by kernel_rfl))]; exact ⟨rfl, rfl⟩)
    (fun os started H enc _ F => summaryMonoid_lifted os started H enc F)
#print axioms summaryMonoid_holds
end Go.Proofs.Ythpekbohmfmffaa
