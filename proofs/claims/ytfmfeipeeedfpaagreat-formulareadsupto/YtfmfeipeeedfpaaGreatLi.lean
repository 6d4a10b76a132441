/-
  Pieces of slices of one's own; appends of nothing.
-/
import Derived.Test.YtfmfeipeeedfpaaGreatLh
namespace Go.Proofs.YtfmfeipeeedfpaaGreat
namespace S
/-- A slice with nothing in it. -/
def emp : Value := .float .f64 0
section
variable {P : Program} {w0 : B0} {X : World} {o : Oper} {fr : FT} {h : HT} {n : Nat}
theorem sl_run {t e : TypeId} {z : Nat} (hu : P.underlying t = some (.slice e)) (hz : szOf P e = some z) {p : Option Addr} {m c : Nat} {lo hi : Option Value} {a b : Int} (ha : (lo = none ∧ a = 0) ∨ ∃ k, lo = some (.int k a)) (hb : (hi = none ∧ b = (m : Int)) ∨ (∃ k, hi = some (.int k b)) ∧ b ≤ (c : Int)) (h0 : 0 ≤ a) (h1 : a ≤ b) (W : World) : (Instr.sliceAt t (.slice p m c) lo hi none).run P W = .ok (.slice (slp p c a.toNat z) (b.toNat - a.toNat) (c - a.toNat)) W := by
  obtain ⟨inf, hinf, hsi⟩ := szOf_info hz
  have hB := bounds_run (P := P) (isS := true) (len := m) (cap := c) ha hb h0 h1 W
  simp only [Instr.sliceAt, Instr.slice, Sem.run_bind, run_underlying hu, Result.andThen_ok, hB, Sem.run_pure]
  simp [sizeOf, typeInfo, hinf, hsi, slp]
theorem r_slH {t e : TypeId} {x hi : Operand} {b q m es k : Nat} {kk : IntKind} {y : Int} (hy : y = (k : Int)) (hk : k ≤ m) (ho : o.op = .slice t x none (some hi) none := by rfl) (hx : evo fr x = .slice (some ⟨b, q, none⟩) m es := by rfl) (hh : evo fr hi = .int kk y := by rfl) (hu : P.underlying t = some (.slice e) := by rfl) (hz : szOf P e = some es := by rfl) : Oa (Am w0 X) P o fr h n ⟨.slice (some ⟨b, q, none⟩) k es, h, n, 0, 0⟩ := by
  subst hy
  refine Oo.to (Oo.val rfl fun kf W a hop => ?_)
  have h1 := hop x (by simp [ho, Op.operands])
  have h2 := hop hi (by simp [ho, Op.operands])
  rw [hx] at h1; rw [hh] at h2
  obtain ⟨h0, b', zz, c, hkb, h3, h4, h5⟩ := h1.slc_inv
  have h6 := h2.int_inv
  refine ⟨.slice (some ⟨b', q, none⟩) k c, VX.of0 ⟨h0, b', zz, c, hkb, rfl, by omega, h5⟩, ?_⟩
  have hr := sl_run (P := P) hu hz (p := some ⟨b', q, none⟩) (m := m) (c := c) (lo := none) (hi := some (.int kk (k : Int))) (a := 0) (b := (k : Int)) (Or.inl ⟨rfl, rfl⟩) (Or.inr ⟨⟨kk, rfl⟩, by omega⟩) (Int.le_refl _) (by omega) W
  simp only [execOp, ho, h3, h6, Option.map_none, Option.map_some, Sem.run_bind, hr, Result.andThen_ok, Sem.run_pure]
  simp [slp_0]
theorem r_slE0 {t e : TypeId} {x hi : Operand} {b q m es : Nat} {kk : IntKind} {y : Int} (hy : y = 0) (ho : o.op = .slice t x none (some hi) none := by rfl) (hx : evo fr x = .slice (some ⟨b, q, none⟩) m es := by rfl) (hh : evo fr hi = .int kk y := by rfl) (hu : P.underlying t = some (.slice e) := by rfl) (hz : szOf P e = some es := by rfl) : Oa (Am w0 X) P o fr h n ⟨emp, h, n, 0, 0⟩ := by
  subst hy
  refine Oo.to (Oo.val rfl fun kf W a hop => ?_)
  have h1 := hop x (by simp [ho, Op.operands])
  have h2 := hop hi (by simp [ho, Op.operands])
  rw [hx] at h1; rw [hh] at h2
  obtain ⟨h0, b', zz, c, hkb, h3, h4, h5⟩ := h1.slc_inv
  have h6 := h2.int_inv
  have hr := sl_run (P := P) hu hz (p := some ⟨b', q, none⟩) (m := m) (c := c) (lo := none) (hi := some (.int kk 0)) (a := 0) (b := 0) (Or.inl ⟨rfl, rfl⟩) (Or.inr ⟨⟨kk, rfl⟩, by omega⟩) (Int.le_refl _) (Int.le_refl _) W
  refine ⟨.slice (slp (some ⟨b', q, none⟩) c 0 es) 0 c, VX.of0 ⟨_, _, rfl⟩, ?_⟩
  simp only [execOp, ho, h3, h6, Option.map_none, Option.map_some, Sem.run_bind, hr, Result.andThen_ok, Sem.run_pure]
  rfl
theorem r_slL {t e : TypeId} {x lo : Operand} {b q m es k : Nat} {kk : IntKind} {y : Int} (hy : y = (k : Int)) (hk : k < m) (ho : o.op = .slice t x (some lo) none none := by rfl) (hx : evo fr x = .slice (some ⟨b, q, none⟩) m es := by rfl) (hh : evo fr lo = .int kk y := by rfl) (hu : P.underlying t = some (.slice e) := by rfl) (hz : szOf P e = some es := by rfl) : Oa (Am w0 X) P o fr h n ⟨.slice (some ⟨b, q + k * es, none⟩) (m - k) es, h, n, 0, 0⟩ := by
  subst hy
  refine Oo.to (Oo.val rfl fun kf W a hop => ?_)
  have h1 := hop x (by simp [ho, Op.operands])
  have h2 := hop lo (by simp [ho, Op.operands])
  rw [hx] at h1; rw [hh] at h2
  obtain ⟨h0, b', zz, c, hkb, h3, h4, h5⟩ := h1.slc_inv
  have h6 := h2.int_inv
  have h5' : q + c * es ≤ zz := h5
  refine ⟨.slice (some ⟨b', q + k * es, none⟩) (m - k) (c - k), VX.of0 ⟨h0, b', zz, c - k, hkb, rfl, by omega, ?_⟩, ?_⟩
  · show q + k * es + (c - k) * es ≤ zz
    have : k * es + (c - k) * es = c * es := by rw [← Nat.add_mul]; congr 1; omega
    omega
  · have hr := sl_run (P := P) hu hz (p := some ⟨b', q, none⟩) (m := m) (c := c) (lo := some (.int kk (k : Int))) (hi := none) (a := (k : Int)) (b := (m : Int)) (Or.inr ⟨kk, rfl⟩) (Or.inl ⟨rfl, rfl⟩) (by omega) (by omega) W
    simp only [execOp, ho, h3, h6, Option.map_none, Option.map_some, Sem.run_bind, hr, Result.andThen_ok, Sem.run_pure]
    simp only [Int.toNat_natCast]
    rw [slp_some (by omega)]
theorem r_slE1 {t e : TypeId} {x lo : Operand} {b q m es : Nat} {kk : IntKind} {y : Int} (hy : y = (m : Int)) (ho : o.op = .slice t x (some lo) none none := by rfl) (hx : evo fr x = .slice (some ⟨b, q, none⟩) m es := by rfl) (hh : evo fr lo = .int kk y := by rfl) (hu : P.underlying t = some (.slice e) := by rfl) (hz : szOf P e = some es := by rfl) : Oa (Am w0 X) P o fr h n ⟨emp, h, n, 0, 0⟩ := by
  subst hy
  refine Oo.to (Oo.val rfl fun kf W a hop => ?_)
  have h1 := hop x (by simp [ho, Op.operands])
  have h2 := hop lo (by simp [ho, Op.operands])
  rw [hx] at h1; rw [hh] at h2
  obtain ⟨h0, b', zz, c, hkb, h3, h4, h5⟩ := h1.slc_inv
  have h6 := h2.int_inv
  have hr := sl_run (P := P) hu hz (p := some ⟨b', q, none⟩) (m := m) (c := c) (lo := some (.int kk (m : Int))) (hi := none) (a := (m : Int)) (b := (m : Int)) (Or.inr ⟨kk, rfl⟩) (Or.inl ⟨rfl, rfl⟩) (by omega) (Int.le_refl _) W
  refine ⟨.slice (slp (some ⟨b', q, none⟩) c m es) 0 (c - m), VX.of0 ⟨_, _, rfl⟩, ?_⟩
  simp only [execOp, ho, h3, h6, Option.map_none, Option.map_some, Sem.run_bind, hr, Result.andThen_ok, Sem.run_pure, Int.toNat_natCast, Nat.sub_self]
theorem r_slN {t e : TypeId} {x : Operand} {lo hi : Option Operand} {z : Nat} (hl : lo = none ∨ ∃ y k, lo = some y ∧ evo fr y = .int k 0) (hh : hi = none ∨ ∃ y k, hi = some y ∧ evo fr y = .int k 0) (ho : o.op = .slice t x lo hi none := by rfl) (hx : evo fr x = .slice none 0 0 := by rfl) (hu : P.underlying t = some (.slice e) := by rfl) (hz : szOf P e = some z := by rfl) : Oa (Am w0 X) P o fr h n ⟨emp, h, n, 0, 0⟩ := by
  refine Oo.to (Oo.val rfl fun kf W a hop => ?_)
  have h1 := hop x (by simp [ho, Op.operands])
  rw [hx] at h1
  have h3 := h1.nilslc_inv
  have ev : ∀ y k, (y ∈ o.op.operands.toList) → evo fr y = .int k 0 → a.eval y = .int k 0 := fun y k hy he => by
    have := hop y hy
    rw [he] at this
    exact this.int_inv
  have hl' : (lo.map a.eval = none ∧ (0 : Int) = 0) ∨ ∃ k, lo.map a.eval = some (.int k 0) := by
    rcases hl with rfl | ⟨y, k, rfl, he⟩
    · exact Or.inl ⟨rfl, rfl⟩
    · exact Or.inr ⟨k, by rw [Option.map_some, ev y k (by simp [ho, Op.operands]) he]⟩
  have hh' : (hi.map a.eval = none ∧ (0 : Int) = ((0 : Nat) : Int)) ∨ (∃ k, hi.map a.eval = some (.int k 0)) ∧ (0 : Int) ≤ ((0 : Nat) : Int) := by
    rcases hh with rfl | ⟨y, k, rfl, he⟩
    · exact Or.inl ⟨rfl, rfl⟩
    · exact Or.inr ⟨⟨k, by rw [Option.map_some, ev y k (by simp [ho, Op.operands]) he]⟩, by simp⟩
  have hr := sl_run (P := P) hu hz (p := none) (m := 0) (c := 0) hl' hh' (Int.le_refl _) (Int.le_refl _) W
  refine ⟨.slice none 0 0, VX.of0 ⟨_, _, rfl⟩, ?_⟩
  simp only [execOp, ho, h3, Option.map_none, Sem.run_bind, hr, Result.andThen_ok, Sem.run_pure]
  rfl
/-- Nothing put behind a slice. -/
theorem app_none {t e : TypeId} (hu : P.underlying t = some (.slice e)) {p q : Option Addr} {m cv c : Nat} (hm : m ≤ cv) (ty : TypeId) (hz : ∃ z, szOf P e = some z) (w : World) : (Builtin.append_ #[t, t] ty #[.slice p m cv, .slice q 0 c]).run P w = .ok (.slice p m cv) w := by
  obtain ⟨z, hz⟩ := hz
  obtain ⟨inf, hinf, hsi⟩ := szOf_info hz
  cases p <;> cases q <;> simp [Builtin.append_, run_underlying hu, Builtin.lenOf, Builtin.firstCells, storeCells, hm, sizeOf, typeInfo, hinf, go_sem]
theorem r_apE {t e : TypeId} {x y : Operand} {b m es : Nat} (ho : o.op = .call { callee := .builtin .append, args := #[x, y], argTypes := #[t, t] } := by rfl) (hx : evo fr x = .slice (some ⟨b, 0, none⟩) m es := by rfl) (hy : evo fr y = emp := by rfl) (hu : P.underlying t = some (.slice e) := by rfl) (hz : ∃ z, szOf P e = some z := by exact ⟨_, rfl⟩) : Oa (Am w0 X) P o fr h n ⟨.slice (some ⟨b, 0, none⟩) m es, h, n, 0, 0⟩ := by
  refine Oo.to (Oo.val rfl fun kf W a hop => ?_)
  have h1 := hop x (by simp [ho, Op.operands, Call.operands])
  have h2 := hop y (by simp [ho, Op.operands, Call.operands])
  rw [hx] at h1; rw [hy] at h2
  obtain ⟨h0, b', zz, c, hkb, h3, h4, h5⟩ := h1.slc_inv
  obtain ⟨p, c', h6⟩ := h2.emp_inv
  refine ⟨.slice (some ⟨b', 0, none⟩) m c, VX.of0 ⟨h0, b', zz, c, hkb, rfl, h4, h5⟩, ?_⟩
  exact app_exec ho a W (.slice (some ⟨b', 0, none⟩) m c) (.slice p 0 c') _ W (by simp [h3, h6]) (app_none hu h4 _ hz W)
theorem r_apN {t e : TypeId} {x y : Operand} (ho : o.op = .call { callee := .builtin .append, args := #[x, y], argTypes := #[t, t] } := by rfl) (hx : evo fr x = .slice none 0 0 := by rfl) (hy : evo fr y = emp := by rfl) (hu : P.underlying t = some (.slice e) := by rfl) (hz : ∃ z, szOf P e = some z := by exact ⟨_, rfl⟩) : Oa (Am w0 X) P o fr h n ⟨.slice none 0 0, h, n, 0, 0⟩ := by
  refine Oo.to (Oo.val rfl fun kf W a hop => ?_)
  have h1 := hop x (by simp [ho, Op.operands, Call.operands])
  have h2 := hop y (by simp [ho, Op.operands, Call.operands])
  rw [hx] at h1; rw [hy] at h2
  have h3 := h1.nilslc_inv
  obtain ⟨p, c', h6⟩ := h2.emp_inv
  refine ⟨.slice none 0 0, VX.of0 rfl, ?_⟩
  exact app_exec ho a W (.slice none 0 0) (.slice p 0 c') _ W (by simp [h3, h6]) (app_none hu (Nat.le_refl 0) _ hz W)
end
end S
end Go.Proofs.YtfmfeipeeedfpaaGreat
