/-
  The document's Add and Sub, whatever the limbs: the walks.
-/
import Derived.Test.YtdcojpbgijkmgaaDoorAddb
import Derived.Test.YtdcojpbgijkmgaaDoorCmp
namespace Go.Proofs.YtdcojpbgijkmgaaDoor
open Go.RowKit
theorem vint {k : IntKind} {a b : Int} (h : a = b) : Value.int k a = .int k b := by rw [h]
theorem setl0 (X : World) (m N : Nat) (x0 x1 x2 x3 v u : Value) (hN : N = X.heap.size) (h : v = u) :
    ((X.alloc (.cells #[x0, x1, x2, x3] 24)).drewN m).setCell ⟨N, 0, none⟩ v = (X.alloc (.cells #[u, x1, x2, x3] 24)).drewN m := by
  subst hN; subst h
  show (((X.alloc (.cells #[x0, x1, x2, x3] 24)).setCell ⟨X.heap.size, 0, none⟩ v).drewN m) = _
  rw [World.setCell_alloc_at _ _ _ _ _ rfl]
  rfl
theorem setl1 (X : World) (m N : Nat) (x0 x1 x2 x3 v u : Value) (hN : N = X.heap.size) (h : v = u) :
    ((X.alloc (.cells #[x0, x1, x2, x3] 24)).drewN m).setCell ⟨N, 1, none⟩ v = (X.alloc (.cells #[x0, u, x2, x3] 24)).drewN m := by
  subst hN; subst h
  show (((X.alloc (.cells #[x0, x1, x2, x3] 24)).setCell ⟨X.heap.size, 1, none⟩ v).drewN m) = _
  rw [World.setCell_alloc_at _ _ _ _ _ rfl]
  rfl
theorem setl2 (X : World) (m N : Nat) (x0 x1 x2 x3 v u : Value) (hN : N = X.heap.size) (h : v = u) :
    ((X.alloc (.cells #[x0, x1, x2, x3] 24)).drewN m).setCell ⟨N, 2, none⟩ v = (X.alloc (.cells #[x0, x1, u, x3] 24)).drewN m := by
  subst hN; subst h
  show (((X.alloc (.cells #[x0, x1, x2, x3] 24)).setCell ⟨X.heap.size, 2, none⟩ v).drewN m) = _
  rw [World.setCell_alloc_at _ _ _ _ _ rfl]
  rfl
theorem setl3 (X : World) (m N : Nat) (x0 x1 x2 x3 v u : Value) (hN : N = X.heap.size) (h : v = u) :
    ((X.alloc (.cells #[x0, x1, x2, x3] 24)).drewN m).setCell ⟨N, 3, none⟩ v = (X.alloc (.cells #[x0, x1, x2, u] 24)).drewN m := by
  subst hN; subst h
  show (((X.alloc (.cells #[x0, x1, x2, x3] 24)).setCell ⟨X.heap.size, 3, none⟩ v).drewN m) = _
  rw [World.setCell_alloc_at _ _ _ _ _ rfl]
  rfl

set_option maxHeartbeats 4000000 in
theorem radd_raw (a0 a1 a2 a3 b0 b1 b2 b3 n1 n2 n3 n4 : Int) (w : World) (ha : U4 a0 a1 a2 a3) (hb : U4 b0 b1 b2 b3) (h1 : Hid (n1 = a0 + b0)) (h2 : Hid (n2 = a1 + b1 + n1 / 18446744073709551616)) (h3 : Hid (n3 = a2 + b2 + n2 / 18446744073709551616)) (h4 : Hid (n4 = a3 + b3 + n3 / 18446744073709551616)) :
    Calls Tryd.prog 56 #[.agg #[.int .u64 a0, .int .u64 a1, .int .u64 a2, .int .u64 a3], .agg #[.int .u64 b0, .int .u64 b1, .int .u64 b2, .int .u64 b3]] w fun e w' =>
      e = .returned (.tuple #[.agg #[.int .u64 (n1 % 18446744073709551616), .int .u64 (n2 % 18446744073709551616), .int .u64 (n3 % 18446744073709551616), .int .u64 (n4 % 18446744073709551616)], .bool (n4 / 18446744073709551616 == 1)]) ∧ Mo w w' := by
  obtain ⟨⟨p0, q0⟩, ⟨p1, q1⟩, ⟨p2, q2⟩, ⟨p3, q3⟩⟩ := ha
  obtain ⟨⟨r0, s0⟩, ⟨r1, s1⟩, ⟨r2, s2⟩, ⟨r3, s3⟩⟩ := hb
  have j1 : 0 ≤ n1 / 18446744073709551616 := by have := h1.out; omega
  have j1' : n1 / 18446744073709551616 ≤ 1 := by have := h1.out; omega
  have j2 : 0 ≤ n2 / 18446744073709551616 := by have := h2.out; omega
  have j2' : n2 / 18446744073709551616 ≤ 1 := by have := h2.out; omega
  have j3 : 0 ≤ n3 / 18446744073709551616 := by have := h3.out; omega
  have j3' : n3 / 18446744073709551616 ≤ 1 := by have := h3.out; omega
  go_enter Tryd.func56, Tryd.ntmps56
  go_wp2
  go_loopw [7, 8] (fun c i wr => ∃ m : Nat,
      (i = .int .i64 0 ∧ c = .int .u64 0 ∧ wr = ((((w.alloc (.cells #[.int .u64 a0, .int .u64 a1, .int .u64 a2, .int .u64 a3] 24)).alloc (.cells #[.int .u64 b0, .int .u64 b1, .int .u64 b2, .int .u64 b3] 24)).alloc (.cells #[.int .u64 0, .int .u64 0, .int .u64 0, .int .u64 0] 24)).alloc (.cells #[.int .u64 0, .int .u64 0, .int .u64 0, .int .u64 0] 24)).drewN m) ∨
      (i = .int .i64 1 ∧ c = .int .u64 (n1 / 18446744073709551616) ∧ wr = ((((w.alloc (.cells #[.int .u64 a0, .int .u64 a1, .int .u64 a2, .int .u64 a3] 24)).alloc (.cells #[.int .u64 b0, .int .u64 b1, .int .u64 b2, .int .u64 b3] 24)).alloc (.cells #[.int .u64 0, .int .u64 0, .int .u64 0, .int .u64 0] 24)).alloc (.cells #[.int .u64 (n1 % 18446744073709551616), .int .u64 0, .int .u64 0, .int .u64 0] 24)).drewN m) ∨
      (i = .int .i64 2 ∧ c = .int .u64 (n2 / 18446744073709551616) ∧ wr = ((((w.alloc (.cells #[.int .u64 a0, .int .u64 a1, .int .u64 a2, .int .u64 a3] 24)).alloc (.cells #[.int .u64 b0, .int .u64 b1, .int .u64 b2, .int .u64 b3] 24)).alloc (.cells #[.int .u64 0, .int .u64 0, .int .u64 0, .int .u64 0] 24)).alloc (.cells #[.int .u64 (n1 % 18446744073709551616), .int .u64 (n2 % 18446744073709551616), .int .u64 0, .int .u64 0] 24)).drewN m) ∨
      (i = .int .i64 3 ∧ c = .int .u64 (n3 / 18446744073709551616) ∧ wr = ((((w.alloc (.cells #[.int .u64 a0, .int .u64 a1, .int .u64 a2, .int .u64 a3] 24)).alloc (.cells #[.int .u64 b0, .int .u64 b1, .int .u64 b2, .int .u64 b3] 24)).alloc (.cells #[.int .u64 0, .int .u64 0, .int .u64 0, .int .u64 0] 24)).alloc (.cells #[.int .u64 (n1 % 18446744073709551616), .int .u64 (n2 % 18446744073709551616), .int .u64 (n3 % 18446744073709551616), .int .u64 0] 24)).drewN m) ∨
      (i = .int .i64 4 ∧ c = .int .u64 (n4 / 18446744073709551616) ∧ wr = ((((w.alloc (.cells #[.int .u64 a0, .int .u64 a1, .int .u64 a2, .int .u64 a3] 24)).alloc (.cells #[.int .u64 b0, .int .u64 b1, .int .u64 b2, .int .u64 b3] 24)).alloc (.cells #[.int .u64 0, .int .u64 0, .int .u64 0, .int .u64 0] 24)).alloc (.cells #[.int .u64 (n1 % 18446744073709551616), .int .u64 (n2 % 18446744073709551616), .int .u64 (n3 % 18446744073709551616), .int .u64 (n4 % 18446744073709551616)] 24)).drewN m)) (fun _ i _ => 4 - (intOf i).toNat)
  case atStart => exact ⟨0, Or.inl ⟨rfl, rfl, rfl⟩⟩
  case round =>
    obtain ⟨m, ⟨rfl, rfl, rfl⟩ | ⟨rfl, rfl, rfl⟩ | ⟨rfl, rfl, rfl⟩ | ⟨rfl, rfl, rfl⟩ | ⟨rfl, rfl, rfl⟩⟩ := hrel
    · go_wp2
      go_quiet (fail)
      go_wp2
      all_goals
        go_roundw
        case rel =>
          have hn := h1.out
          simp only [IntKind.wrap_u64] at *
          refine ⟨m + nq, Or.inr (Or.inl ⟨by trivial, vint (by omega), ?_⟩)⟩
          exact setl0 _ _ _ _ _ _ _ _ _ (by simp) (vint (by omega))
        case measure => simp [intOf]
    · go_wp2
      go_quiet (fail)
      go_wp2
      all_goals
        go_roundw
        case rel =>
          have hn := h2.out
          simp only [IntKind.wrap_u64] at *
          refine ⟨m + nq, Or.inr (Or.inr (Or.inl ⟨by trivial, vint (by omega), ?_⟩))⟩
          exact setl1 _ _ _ _ _ _ _ _ _ (by simp) (vint (by omega))
        case measure => simp [intOf]
    · go_wp2
      go_quiet (fail)
      go_wp2
      all_goals
        go_roundw
        case rel =>
          have hn := h3.out
          simp only [IntKind.wrap_u64] at *
          refine ⟨m + nq, Or.inr (Or.inr (Or.inr (Or.inl ⟨by trivial, vint (by omega), ?_⟩)))⟩
          exact setl2 _ _ _ _ _ _ _ _ _ (by simp) (vint (by omega))
        case measure => simp [intOf]
    · go_wp2
      go_quiet (fail)
      go_wp2
      all_goals
        go_roundw
        case rel =>
          have hn := h4.out
          simp only [IntKind.wrap_u64] at *
          refine ⟨m + nq, Or.inr (Or.inr (Or.inr (Or.inr ⟨by trivial, vint (by omega), ?_⟩)))⟩
          exact setl3 _ _ _ _ _ _ _ _ _ (by simp) (vint (by omega))
        case measure => simp [intOf]
    · go_wp2
      refine bodyPost_ret (by simp [results, Tryd.results56, go_sem]; rfl) rfl ?_
      refine ⟨rfl, ?_⟩
      repeat (first | exact Mo.refl _ | with_reducible apply Mo.drew | with_reducible apply Mo.drewN | with_reducible apply Mo.alloc | with_reducible refine Mo.setCell ?_ (by simp <;> omega) _ | with_reducible refine Mo.trans ?_ (by assumption))

theorem ov_eq {a b c d e f g h : Int} (h1 : U4 a b c d) (h2 : U4 e f g h) : ((vl a b c d + vl e f g h) / MM == 1) = ov (vl a b c d + vl e f g h) := by
  obtain ⟨p, q⟩ := vl_bd h1; obtain ⟨r, s⟩ := vl_bd h2
  unfold ov; unfold MM at *
  rw [Bool.eq_iff_iff]; simp; omega

theorem radd_any (a0 a1 a2 a3 b0 b1 b2 b3 : Int) (w : World) (ha : U4 a0 a1 a2 a3) (hb : U4 b0 b1 b2 b3) :
    Calls Tryd.prog 56 #[.agg #[.int .u64 a0, .int .u64 a1, .int .u64 a2, .int .u64 a3], .agg #[.int .u64 b0, .int .u64 b1, .int .u64 b2, .int .u64 b3]] w fun e w' =>
      e = .returned (.tuple #[nv (vl a0 a1 a2 a3 + vl b0 b1 b2 b3), .bool (ov (vl a0 a1 a2 a3 + vl b0 b1 b2 b3))]) ∧ Mo w w' := by
  refine (radd_raw a0 a1 a2 a3 b0 b1 b2 b3 _ _ _ _ w ha hb rfl rfl rfl rfl).mono ?_
  rintro e w' ⟨rfl, hm⟩
  obtain ⟨e0, e1, e2, e3, e4⟩ := addc_eq ha hb rfl
  refine ⟨?_, hm⟩
  rw [nv_of e0 e1 e2 e3, e4, ov_eq ha hb]
end Go.Proofs.YtdcojpbgijkmgaaDoor
