/-
  Decimals: products and rounded numbers (the program). Values of formulas: what is said of them, what comes of them; == of them. What may be a value, what is asked of one: the program. What operands are asked: the program. Operators, and what is done with one value: the program. What is done with values: the program. Sums of columns: what they come to, the program. What an aggregate says of a column: the program. Brackets: numbers, steps; what tables say of a number (the pure side). A scope in which the run jumps back to a label; what a loop over a falling number is for a loop. Brackets: which tables may be (the program). Brackets: Check (the program). Brackets: the step of a number, what a table says of it (the program). Brackets: Step and At (the program). Maps of one's own by keys of any kind, to whole numbers. Names and columns as keys of maps. Maps by keys of any kind to values of any kind: those that came in, those of one's own. Formulas: what they come to (the pure side); small calls of the program. Looks into maps of one's own, and changes of these. Looks into maps of one's own, and changes of these: values of any kind. Formulas: the tables that names mean, what they say (the program). Formulas: the table that a name means, what it says of a number (the program). Formulas: bracket tables (the program). What formulas come to may be (the pure side). Formulas: nodes (the program). Formulas: what an expression comes to (the program). Formulas: Eval (the program). What may be, as the document says it.
-/
import Derived.Test.YtfmfeipeeedfpaaGreatKc
import Derived.Laws.StructEq
import Derived.Test.YtfmfeipeeedfpaaGreatKb
import Derived.ScopeJumps
namespace Go.Proofs.YtfmfeipeeedfpaaGreat
open S Go.RowKit
theorem wide_dm (X : Int) : X / MM * MM + X % MM = X := by have := Int.mul_ediv_add_emod X MM; rw [Int.mul_comm] at this; exact this
theorem div_c {X D : Int} {q r : Int} {o : Bool} (hX : 0 ≤ X ∧ X < MM * MM) (hD : 0 ≤ D ∧ D < MM) (h : dq (X / MM) (X % MM) D = q ∧ dr (X / MM) (X % MM) D = r ∧ decide (X / MM < D) = o) (W : World) : Calls Tryz.prog 205 #[nv (X / MM), nv X, nv D] W fun e W' => e = .returned (.tuple #[nv q, nv r, .bool o]) ∧ Mb W W' := by
  have a := div_n (X / MM) (X % MM) D W (hi_b hX).1 (hi_b hX).2 (lo_b X).1 (lo_b X).2 hD.1 hD.2
  obtain ⟨h1, h2, h3⟩ := h
  rw [nv_mod, h1, h2, show dok (X / MM) D = o from h3] at a
  exact a.mono fun _ _ ⟨a, b⟩ => ⟨a, b.mb⟩
theorem dq_ok {X D : Int} (h : X / MM < D) : dq (X / MM) (X % MM) D = X / D ∧ dr (X / MM) (X % MM) D = X % D ∧ decide (X / MM < D) = true := by
  unfold dq dr
  rw [if_neg (by omega), if_neg (by omega), wide_dm]
  exact ⟨rfl, rfl, decide_eq_true h⟩
theorem q_b {X D : Int} (hX : 0 ≤ X) (hD : 0 < D) (h : X / MM < D) : 0 ≤ X / D ∧ X / D < MM := by
  refine ⟨Int.ediv_nonneg hX (Int.le_of_lt hD), Int.ediv_lt_of_lt_mul hD ?_⟩
  have h1 := wide_dm X
  have h2 := (lo_b X).2
  have h3 : X / MM + 1 ≤ D := h
  have h4 : (X / MM + 1) * MM ≤ D * MM := Int.mul_le_mul_of_nonneg_right h3 (Int.le_of_lt MM_p)
  rw [Int.add_mul, Int.one_mul] at h4
  rw [Int.mul_comm MM D]
  omega
theorem qt_no {X D : Int} (hD : 0 < D) (h : ¬ X / MM < D) : MM ≤ X / D := by
  refine (Int.le_ediv_iff_mul_le hD).2 ?_
  have h1 := wide_dm X
  have h2 := (lo_b X).1
  have h4 : D * MM ≤ X / MM * MM := Int.mul_le_mul_of_nonneg_right (by omega) (Int.le_of_lt MM_p)
  rw [Int.mul_comm MM D]
  omega
theorem p10_s {k : Nat} (h : k ≤ 36) : 0 < (10 : Int) ^ k ∧ (10 : Int) ^ k < MM ∧ 10 ^ k + 10 ^ k < MM := by
  have h1 : (10 : Nat) ^ k ≤ 10 ^ 36 := Nat.pow_le_pow_right (by decide) h
  have h3 : ((10 ^ k : Nat) : Int) = (10 : Int) ^ k := by rw [Int.natCast_pow]; rfl
  have h2 : ((10 ^ 36 : Nat) : Int) + ((10 ^ 36 : Nat) : Int) < MM := by decide
  have h4 := Int.ofNat_le.2 h1
  have h5 : (0 : Int) < 10 ^ k := Int.pow_pos (by decide)
  rw [← h3] at h5 ⊢
  refine ⟨h5, ?_, ?_⟩ <;> omega
theorem p_ten' {k : Nat} {D : Int} (h : 10 ^ k = D) (hk : k ≤ 77) (w : World) : Calls Tryz.prog 190 #[.int .i64 (k : Int)] w fun r W => r = .returned (nv D) ∧ Mb w W := h ▸ p_ten k hk w
set_option maxRecDepth 20000 in
theorem p_short (b : Bool) (X S p : Int) (k : Nat) (hX : 0 ≤ X ∧ X < MM * MM) (hk : k ≤ 36) (w : World) : Calls Tryz.prog 188 #[.bool b, dw X, .int .i64 (k : Int), .int .i64 S, .int .i64 p] w fun e W => e = .returned (fxR b (ro b X k p) S).v ∧ Mb w W := by
  obtain ⟨d0, d1, d2⟩ := p10_s hk
  generalize hR : fxR b (ro b X k p) S = R
  obtain ⟨D, hD⟩ : ∃ D, (10 : Int) ^ k = D := ⟨_, rfl⟩
  unfold ro at hR
  rw [hD] at hR d0 d1 d2
  refine fn_pure [.bool b, dw X, .int .i64 (k : Int), .int .i64 S, .int .i64 p] Tryz.func188 rfl rfl rfl (run_ok (st mo ?_))
  refine ⟨_, fun nn => r_call (t := nv D) rfl rfl Tryz.func190 (fun W M E => p_ten' hD (by omega) W), st mo ?_⟩
  by_cases ho : X / MM < D
  · have hq := q_b hX.1 d0 ho
    have hr : 0 ≤ X % D ∧ X % D < D := ⟨Int.emod_nonneg _ (by omega), Int.emod_lt_of_pos _ d0⟩
    have hdv := dq_ok ho
    generalize hqe : X / D = q at hR hq hdv
    generalize hre : X % D = r at hR hr hdv
    refine ⟨_, fun nn => r_call (t := .tuple #[nv q, nv r, litT]) rfl rfl Tryz.func205 (fun W M E => div_c hX ⟨by omega, d1⟩ hdv W), st mo ?_⟩
    have hA := p_away b q r D p ⟨hr.1, by omega⟩ ⟨by omega, d1⟩
    cases ha : aw b q r D p with
    | false =>
      rw [ha] at hA hR
      rw [show q + (if false = true then (1 : Int) else 0) = q by simp, fx_0 hq.2] at hR
      refine ⟨_, fun nn => r_call (t := litF) rfl rfl Tryz.func206 (fun W M E => hA W), st mo ?_⟩
      refine ⟨_, fun nn => r_call (t := dc (b && !decide (q = 0)) q S) rfl rfl Tryz.func168 (fun W M E => p_sgnd b q S hq W), st mo ?_⟩
      subst hR; rfl
    | true =>
      rw [ha] at hA hR
      rw [show q + (if true = true then (1 : Int) else 0) = q + 1 by simp] at hR
      refine ⟨_, fun nn => r_call (t := litT) rfl rfl Tryz.func206 (fun W M E => hA W), st mo ?_⟩
      refine ⟨_, fun nn => r_call (t := nv 1) rfl rfl Tryz.func159 (fun W M E => p_from 1 (by decide) W), st mo ?_⟩
      by_cases hov : MM ≤ q + 1
      · rw [fx_7 (by omega)] at hR
        refine ⟨_, fun nn => r_call (t := .tuple #[nv (q + 1), litT]) rfl rfl Tryz.func207 (fun W M E => add_c' (X := q) (Y := 1) rfl (decide_eq_true (by rw [lo_n hq.2 hq.1]; exact hov)) W), st mo ⟨dk, st mo ?_⟩⟩
        subst hR; rfl
      · rw [fx_0 (by omega)] at hR
        refine ⟨_, fun nn => r_call (t := .tuple #[nv (q + 1), litF]) rfl rfl Tryz.func207 (fun W M E => add_c' (X := q) (Y := 1) rfl (decide_eq_false (by rw [lo_n hq.2 hq.1]; exact hov)) W), st mo ⟨dk, st mo ?_⟩⟩
        refine ⟨_, fun nn => r_call (t := dc (b && !decide (q + 1 = 0)) (q + 1) S) rfl rfl Tryz.func168 (fun W M E => p_sgnd b (q + 1) S ⟨by omega, by omega⟩ W), st mo ?_⟩
        subst hR; rfl
  · have hq := qt_no d0 ho
    refine ⟨_, fun nn => r_call (t := .tuple #[nv (dq (X / MM) (X % MM) D), nv (dr (X / MM) (X % MM) D), litF]) rfl rfl Tryz.func205 (fun W M E => div_c hX ⟨by omega, d1⟩ ⟨rfl, rfl, decide_eq_false ho⟩ W), st mo ?_⟩
    have : ¬ X / D + (if aw b (X / D) (X % D) D p = true then 1 else 0) < MM := by split <;> omega
    rw [fx_7 this] at hR
    subst hR; rfl
theorem p_short' {b : Bool} {X S p : Int} {k : Nat} {R : DR} (h : fxR b (ro b X k p) S = R) (hX : 0 ≤ X ∧ X < MM * MM) (hk : k ≤ 36) (w : World) : Calls Tryz.prog 188 #[.bool b, dw X, .int .i64 (k : Int), .int .i64 S, .int .i64 p] w fun e W => e = .returned R.v ∧ Mb w W := h ▸ p_short b X S p k hX hk w
theorem mul_b {n m : Int} (hn : 0 ≤ n ∧ n < MM) (hm : 0 ≤ m ∧ m < MM) : 0 ≤ n * m ∧ n * m < MM * MM :=
  ⟨Int.mul_nonneg hn.1 hm.1, Int.lt_of_le_of_lt (Int.mul_le_mul_of_nonneg_left (Int.le_of_lt hm.2) hn.1) (Int.mul_lt_mul_of_pos_right hn.2 MM_p)⟩
theorem mto_e {b : Bool} {n s : Int} {c : Bool} {m t S p : Int} (h : rkE S p ≠ 0) : mtoR b n s c m t S p = erR (rkE S p) := by
  unfold mtoR rkE at *
  by_cases q : sc S = true
  · by_cases r : 1 ≤ p ∧ p ≤ 5
    · simp [q, r] at h
    · simp [q, r]
  · simp [q]
set_option maxRecDepth 20000 in
theorem p_mto (b : Bool) (n s : Int) (c : Bool) (m t S p : Int) (hn : 0 ≤ n ∧ n < MM) (hm : 0 ≤ m ∧ m < MM) (h1 : ck b n s = 0) (h2 : ck c m t = 0) (w : World) : Calls Tryz.prog 158 #[dc b n s, dc c m t, .int .i64 S, .int .i64 p] w fun e W => e = .returned (mtoR b n s c m t S p).v ∧ Mb w W := by
  obtain ⟨s0, s1⟩ := sc_iff.1 (ck_s h1)
  obtain ⟨t0, t1⟩ := sc_iff.1 (ck_s h2)
  have hX := mul_b hn hm
  generalize hR : mtoR b n s c m t S p = R
  cases b
  · cases c
    · refine fn_pure [dcl litF n s, dcl litF m t, .int .i64 S, .int .i64 p] Tryz.func158 rfl rfl rfl (run_ok (st mo ?_))
      refine ⟨_, fun nn => r_call (t := .int .i64 0) rfl rfl Tryz.func185 (fun W M E => p_ckb false n s false m t hn hm h1 h2 W), st mo ⟨fun h => absurd rfl h, fun _ => st mo ?_⟩⟩
      refine ⟨_, fun nn => r_call (t := .int .i64 (rkE S p)) rfl rfl Tryz.func186 (fun W M E => p_ckR S p W), st mo ⟨fun h => st mo ?_, fun h => st mo ?_⟩⟩
      · have : mtoR false n s false m t S p = erR (rkE S p) := mto_e h
        rw [this] at hR; subst hR; rfl
      · have hk : sc S = true ∧ 1 ≤ p ∧ p ≤ 5 := by unfold rkE at h; by_cases q : sc S = true <;> by_cases r : 1 ≤ p ∧ p ≤ 5 <;> simp [q, r] at h; exact ⟨q, r⟩
        obtain ⟨S0, S1⟩ := sc_iff.1 hk.1
        unfold mtoR at hR
        rw [hk.1, if_pos rfl, if_pos hk.2] at hR
        refine ⟨_, r_neB false false, fun h => absurd h (by decide), fun _ => st mo ?_⟩
        refine ⟨_, fun nn => r_call (t := dw (n * m)) rfl rfl Tryz.func187 (fun W M E => p_mulD n m hn hm W), st mo ⟨dk, st mo ?_⟩⟩
        unfold rdV at hR
        by_cases hle : s + t ≤ S
        · rw [if_pos hle] at hR
          obtain ⟨k, hk'⟩ : ∃ k : Nat, S - (s + t) = (k : Int) := ⟨(S - (s + t)).toNat, by omega⟩
          rw [hk', pw_nat] at hR
          refine ⟨s + t, wi (by omega), st mo ⟨s + t - S, wi (by omega), st mo ⟨fun h => absurd h (by omega), fun _ => st mo ?_⟩⟩⟩
          have p1 : (1 : Int) ≤ 10 ^ k := by have : (0 : Int) < 10 ^ k := Int.pow_pos (by decide); omega
          refine ⟨_, r_neN (n * m / MM) 0 (hi_b hX) MM_0, fun h => st mo ?_, fun h => st mo ?_⟩
          · have h : ¬ n * m < MM := fun q => by rw [hi_0 q hX.1] at h; cases h
            have := Int.mul_le_mul_of_nonneg_left p1 hX.1
            rw [fx_7 (by omega)] at hR
            subst hR; rfl
          · have h : n * m < MM := Classical.byContradiction fun q => by rw [decide_eq_false (hi_1 q)] at h; cases h
            refine ⟨(k : Int), wz k (by omega), st mo ?_⟩
            refine ⟨_, fun nn => r_call (t := nv (10 ^ k)) rfl rfl Tryz.func190 (fun W M E => p_ten k (by omega) W), st mo ?_⟩
            refine ⟨_, fun nn => r_call (t := dw (n * m * 10 ^ k)) rfl rfl Tryz.func187 (fun W M E => p_mulD (n * m) (10 ^ k) ⟨hX.1, h⟩ (p10_b (by omega)) W), st mo ?_⟩
            refine ⟨_, fun nn => r_call (t := R.y) rfl rfl Tryz.func189 (fun W M E => p_dfit' hR (mul_b ⟨hX.1, h⟩ (p10_b (by omega))) W), st mo ⟨dk, st mo ?_⟩⟩
            rfl
        · rw [if_neg hle] at hR
          obtain ⟨k, hk'⟩ : ∃ k : Nat, s + t - S = (k : Int) := ⟨(s + t - S).toNat, by omega⟩
          rw [hk', Int.toNat_natCast] at hR
          refine ⟨s + t, wi (by omega), st mo ⟨(k : Int), wz k (by omega), st mo ⟨fun _ => st mo ?_, fun h => absurd h (by omega)⟩⟩⟩
          refine ⟨_, fun nn => r_call (t := R.y) rfl rfl Tryz.func188 (fun W M E => p_short' hR hX (by omega) W), st mo ?_⟩
          rfl
    · refine fn_pure [dcl litF n s, dcl litT m t, .int .i64 S, .int .i64 p] Tryz.func158 rfl rfl rfl (run_ok (st mo ?_))
      refine ⟨_, fun nn => r_call (t := .int .i64 0) rfl rfl Tryz.func185 (fun W M E => p_ckb false n s true m t hn hm h1 h2 W), st mo ⟨fun h => absurd rfl h, fun _ => st mo ?_⟩⟩
      refine ⟨_, fun nn => r_call (t := .int .i64 (rkE S p)) rfl rfl Tryz.func186 (fun W M E => p_ckR S p W), st mo ⟨fun h => st mo ?_, fun h => st mo ?_⟩⟩
      · have : mtoR false n s true m t S p = erR (rkE S p) := mto_e h
        rw [this] at hR; subst hR; rfl
      · have hk : sc S = true ∧ 1 ≤ p ∧ p ≤ 5 := by unfold rkE at h; by_cases q : sc S = true <;> by_cases r : 1 ≤ p ∧ p ≤ 5 <;> simp [q, r] at h; exact ⟨q, r⟩
        obtain ⟨S0, S1⟩ := sc_iff.1 hk.1
        unfold mtoR at hR
        rw [hk.1, if_pos rfl, if_pos hk.2] at hR
        refine ⟨_, r_neB false true, fun _ => st mo ?_, fun h => absurd h (by decide)⟩
        refine ⟨_, fun nn => r_call (t := dw (n * m)) rfl rfl Tryz.func187 (fun W M E => p_mulD n m hn hm W), st mo ⟨dk, st mo ?_⟩⟩
        unfold rdV at hR
        by_cases hle : s + t ≤ S
        · rw [if_pos hle] at hR
          obtain ⟨k, hk'⟩ : ∃ k : Nat, S - (s + t) = (k : Int) := ⟨(S - (s + t)).toNat, by omega⟩
          rw [hk', pw_nat] at hR
          refine ⟨s + t, wi (by omega), st mo ⟨s + t - S, wi (by omega), st mo ⟨fun h => absurd h (by omega), fun _ => st mo ?_⟩⟩⟩
          have p1 : (1 : Int) ≤ 10 ^ k := by have : (0 : Int) < 10 ^ k := Int.pow_pos (by decide); omega
          refine ⟨_, r_neN (n * m / MM) 0 (hi_b hX) MM_0, fun h => st mo ?_, fun h => st mo ?_⟩
          · have h : ¬ n * m < MM := fun q => by rw [hi_0 q hX.1] at h; cases h
            have := Int.mul_le_mul_of_nonneg_left p1 hX.1
            rw [fx_7 (by omega)] at hR
            subst hR; rfl
          · have h : n * m < MM := Classical.byContradiction fun q => by rw [decide_eq_false (hi_1 q)] at h; cases h
            refine ⟨(k : Int), wz k (by omega), st mo ?_⟩
            refine ⟨_, fun nn => r_call (t := nv (10 ^ k)) rfl rfl Tryz.func190 (fun W M E => p_ten k (by omega) W), st mo ?_⟩
            refine ⟨_, fun nn => r_call (t := dw (n * m * 10 ^ k)) rfl rfl Tryz.func187 (fun W M E => p_mulD (n * m) (10 ^ k) ⟨hX.1, h⟩ (p10_b (by omega)) W), st mo ?_⟩
            refine ⟨_, fun nn => r_call (t := R.y) rfl rfl Tryz.func189 (fun W M E => p_dfit' hR (mul_b ⟨hX.1, h⟩ (p10_b (by omega))) W), st mo ⟨dk, st mo ?_⟩⟩
            rfl
        · rw [if_neg hle] at hR
          obtain ⟨k, hk'⟩ : ∃ k : Nat, s + t - S = (k : Int) := ⟨(s + t - S).toNat, by omega⟩
          rw [hk', Int.toNat_natCast] at hR
          refine ⟨s + t, wi (by omega), st mo ⟨(k : Int), wz k (by omega), st mo ⟨fun _ => st mo ?_, fun h => absurd h (by omega)⟩⟩⟩
          refine ⟨_, fun nn => r_call (t := R.y) rfl rfl Tryz.func188 (fun W M E => p_short' hR hX (by omega) W), st mo ?_⟩
          rfl
  · cases c
    · refine fn_pure [dcl litT n s, dcl litF m t, .int .i64 S, .int .i64 p] Tryz.func158 rfl rfl rfl (run_ok (st mo ?_))
      refine ⟨_, fun nn => r_call (t := .int .i64 0) rfl rfl Tryz.func185 (fun W M E => p_ckb true n s false m t hn hm h1 h2 W), st mo ⟨fun h => absurd rfl h, fun _ => st mo ?_⟩⟩
      refine ⟨_, fun nn => r_call (t := .int .i64 (rkE S p)) rfl rfl Tryz.func186 (fun W M E => p_ckR S p W), st mo ⟨fun h => st mo ?_, fun h => st mo ?_⟩⟩
      · have : mtoR true n s false m t S p = erR (rkE S p) := mto_e h
        rw [this] at hR; subst hR; rfl
      · have hk : sc S = true ∧ 1 ≤ p ∧ p ≤ 5 := by unfold rkE at h; by_cases q : sc S = true <;> by_cases r : 1 ≤ p ∧ p ≤ 5 <;> simp [q, r] at h; exact ⟨q, r⟩
        obtain ⟨S0, S1⟩ := sc_iff.1 hk.1
        unfold mtoR at hR
        rw [hk.1, if_pos rfl, if_pos hk.2] at hR
        refine ⟨_, r_neB true false, fun _ => st mo ?_, fun h => absurd h (by decide)⟩
        refine ⟨_, fun nn => r_call (t := dw (n * m)) rfl rfl Tryz.func187 (fun W M E => p_mulD n m hn hm W), st mo ⟨dk, st mo ?_⟩⟩
        unfold rdV at hR
        by_cases hle : s + t ≤ S
        · rw [if_pos hle] at hR
          obtain ⟨k, hk'⟩ : ∃ k : Nat, S - (s + t) = (k : Int) := ⟨(S - (s + t)).toNat, by omega⟩
          rw [hk', pw_nat] at hR
          refine ⟨s + t, wi (by omega), st mo ⟨s + t - S, wi (by omega), st mo ⟨fun h => absurd h (by omega), fun _ => st mo ?_⟩⟩⟩
          have p1 : (1 : Int) ≤ 10 ^ k := by have : (0 : Int) < 10 ^ k := Int.pow_pos (by decide); omega
          refine ⟨_, r_neN (n * m / MM) 0 (hi_b hX) MM_0, fun h => st mo ?_, fun h => st mo ?_⟩
          · have h : ¬ n * m < MM := fun q => by rw [hi_0 q hX.1] at h; cases h
            have := Int.mul_le_mul_of_nonneg_left p1 hX.1
            rw [fx_7 (by omega)] at hR
            subst hR; rfl
          · have h : n * m < MM := Classical.byContradiction fun q => by rw [decide_eq_false (hi_1 q)] at h; cases h
            refine ⟨(k : Int), wz k (by omega), st mo ?_⟩
            refine ⟨_, fun nn => r_call (t := nv (10 ^ k)) rfl rfl Tryz.func190 (fun W M E => p_ten k (by omega) W), st mo ?_⟩
            refine ⟨_, fun nn => r_call (t := dw (n * m * 10 ^ k)) rfl rfl Tryz.func187 (fun W M E => p_mulD (n * m) (10 ^ k) ⟨hX.1, h⟩ (p10_b (by omega)) W), st mo ?_⟩
            refine ⟨_, fun nn => r_call (t := R.y) rfl rfl Tryz.func189 (fun W M E => p_dfit' hR (mul_b ⟨hX.1, h⟩ (p10_b (by omega))) W), st mo ⟨dk, st mo ?_⟩⟩
            rfl
        · rw [if_neg hle] at hR
          obtain ⟨k, hk'⟩ : ∃ k : Nat, s + t - S = (k : Int) := ⟨(s + t - S).toNat, by omega⟩
          rw [hk', Int.toNat_natCast] at hR
          refine ⟨s + t, wi (by omega), st mo ⟨(k : Int), wz k (by omega), st mo ⟨fun _ => st mo ?_, fun h => absurd h (by omega)⟩⟩⟩
          refine ⟨_, fun nn => r_call (t := R.y) rfl rfl Tryz.func188 (fun W M E => p_short' hR hX (by omega) W), st mo ?_⟩
          rfl
    · refine fn_pure [dcl litT n s, dcl litT m t, .int .i64 S, .int .i64 p] Tryz.func158 rfl rfl rfl (run_ok (st mo ?_))
      refine ⟨_, fun nn => r_call (t := .int .i64 0) rfl rfl Tryz.func185 (fun W M E => p_ckb true n s true m t hn hm h1 h2 W), st mo ⟨fun h => absurd rfl h, fun _ => st mo ?_⟩⟩
      refine ⟨_, fun nn => r_call (t := .int .i64 (rkE S p)) rfl rfl Tryz.func186 (fun W M E => p_ckR S p W), st mo ⟨fun h => st mo ?_, fun h => st mo ?_⟩⟩
      · have : mtoR true n s true m t S p = erR (rkE S p) := mto_e h
        rw [this] at hR; subst hR; rfl
      · have hk : sc S = true ∧ 1 ≤ p ∧ p ≤ 5 := by unfold rkE at h; by_cases q : sc S = true <;> by_cases r : 1 ≤ p ∧ p ≤ 5 <;> simp [q, r] at h; exact ⟨q, r⟩
        obtain ⟨S0, S1⟩ := sc_iff.1 hk.1
        unfold mtoR at hR
        rw [hk.1, if_pos rfl, if_pos hk.2] at hR
        refine ⟨_, r_neB true true, fun h => absurd h (by decide), fun _ => st mo ?_⟩
        refine ⟨_, fun nn => r_call (t := dw (n * m)) rfl rfl Tryz.func187 (fun W M E => p_mulD n m hn hm W), st mo ⟨dk, st mo ?_⟩⟩
        unfold rdV at hR
        by_cases hle : s + t ≤ S
        · rw [if_pos hle] at hR
          obtain ⟨k, hk'⟩ : ∃ k : Nat, S - (s + t) = (k : Int) := ⟨(S - (s + t)).toNat, by omega⟩
          rw [hk', pw_nat] at hR
          refine ⟨s + t, wi (by omega), st mo ⟨s + t - S, wi (by omega), st mo ⟨fun h => absurd h (by omega), fun _ => st mo ?_⟩⟩⟩
          have p1 : (1 : Int) ≤ 10 ^ k := by have : (0 : Int) < 10 ^ k := Int.pow_pos (by decide); omega
          refine ⟨_, r_neN (n * m / MM) 0 (hi_b hX) MM_0, fun h => st mo ?_, fun h => st mo ?_⟩
          · have h : ¬ n * m < MM := fun q => by rw [hi_0 q hX.1] at h; cases h
            have := Int.mul_le_mul_of_nonneg_left p1 hX.1
            rw [fx_7 (by omega)] at hR
            subst hR; rfl
          · have h : n * m < MM := Classical.byContradiction fun q => by rw [decide_eq_false (hi_1 q)] at h; cases h
            refine ⟨(k : Int), wz k (by omega), st mo ?_⟩
            refine ⟨_, fun nn => r_call (t := nv (10 ^ k)) rfl rfl Tryz.func190 (fun W M E => p_ten k (by omega) W), st mo ?_⟩
            refine ⟨_, fun nn => r_call (t := dw (n * m * 10 ^ k)) rfl rfl Tryz.func187 (fun W M E => p_mulD (n * m) (10 ^ k) ⟨hX.1, h⟩ (p10_b (by omega)) W), st mo ?_⟩
            refine ⟨_, fun nn => r_call (t := R.y) rfl rfl Tryz.func189 (fun W M E => p_dfit' hR (mul_b ⟨hX.1, h⟩ (p10_b (by omega))) W), st mo ⟨dk, st mo ?_⟩⟩
            rfl
        · rw [if_neg hle] at hR
          obtain ⟨k, hk'⟩ : ∃ k : Nat, s + t - S = (k : Int) := ⟨(s + t - S).toNat, by omega⟩
          rw [hk', Int.toNat_natCast] at hR
          refine ⟨s + t, wi (by omega), st mo ⟨(k : Int), wz k (by omega), st mo ⟨fun _ => st mo ?_, fun h => absurd h (by omega)⟩⟩⟩
          refine ⟨_, fun nn => r_call (t := R.y) rfl rfl Tryz.func188 (fun W M E => p_short' hR hX (by omega) W), st mo ?_⟩
          rfl
theorem mto_1 (b : Bool) (n s S p : Int) : mtoR b n s false 1 0 S p = rndR b n s S p := by
  unfold mtoR rndR; rw [Int.mul_one, Int.add_zero, show (b != false) = b by cases b <;> rfl]
set_option maxRecDepth 20000 in
theorem p_resc (b : Bool) (n s S p : Int) (hn : 0 ≤ n ∧ n < MM) (h1 : ck b n s = 0) (w : World) : Calls Tryz.prog 115 #[dc b n s, .int .i64 S, .int .i64 p] w fun e W => e = .returned (rndR b n s S p).v ∧ Mb w W := by
  rw [← mto_1]
  refine fn_pure [dc b n s, .int .i64 S, .int .i64 p] Tryz.func115 rfl rfl rfl (run_ok (st mo ?_))
  refine ⟨_, fun nn => r_call (t := nv 1) rfl rfl Tryz.func159 (fun W M E => p_from 1 (by decide) W), st mo ?_⟩
  refine ⟨_, fun nn => r_call (t := (mtoR b n s false 1 0 S p).y) rfl rfl Tryz.func158 (fun W M E => p_mto b n s false 1 0 S p hn ⟨by decide, by decide⟩ h1 (by decide) W), st mo ⟨dk, st mo ?_⟩⟩
  rfl
end Go.Proofs.YtfmfeipeeedfpaaGreat
namespace Go.Proofs.YtfmfeipeeedfpaaGreat
open Go.RowKit
def s4 (n0 n1 n2 n3 m0 m1 m2 m3 : Int) : Bool := n0 == m0 && (n1 == m1 && (n2 == m2 && n3 == m3))
theorem ht40 : Tryz.prog.underlying 26 = some (.struct (Tryz.prog.fieldsOf 26)) := by kernel_rfl
theorem hp40 : Tryz.prog.stoodInHeld 26 = false := by kernel_rfl
theorem fo40 : (Tryz.prog.fieldsOf 26).toList.map (fun f => (f.name, f.type, f.offset)) = [("Neg", 4, 0), ("N", 24, 1), ("Scale", 3, 5)] := by kernel_rfl
theorem pt40 (x0 x1 x2 x3 x4 x5 : Value) (w : World) : (part 4 #[x0, x1, x2, x3, x4, x5] 0).run Tryz.prog w = .ok x0 w := by kernel_rfl
theorem pt41 (x0 x1 x2 x3 x4 x5 : Value) (w : World) : (part 24 #[x0, x1, x2, x3, x4, x5] 1).run Tryz.prog w = .ok (.agg #[x1, x2, x3, x4]) w := by kernel_rfl
theorem pt45 (x0 x1 x2 x3 x4 x5 : Value) (w : World) : (part 3 #[x0, x1, x2, x3, x4, x5] 5).run Tryz.prog w = .ok x5 w := by kernel_rfl
theorem ht28 : Tryz.prog.underlying 28 = some (.struct (Tryz.prog.fieldsOf 28)) := by kernel_rfl
theorem hp28 : Tryz.prog.stoodInHeld 28 = false := by kernel_rfl
theorem fo28 : (Tryz.prog.fieldsOf 28).toList.map (fun f => (f.name, f.type, f.offset)) = [("Kind", 3, 0), ("Num", 26, 1), ("Flag", 4, 7), ("Text", 9, 8), ("Err", 3, 9)] := by kernel_rfl
theorem p28_0 (x0 x1 x2 x3 x4 x5 x6 x7 x8 x9 : Value) (w : World) : (part 3 #[x0, x1, x2, x3, x4, x5, x6, x7, x8, x9] 0).run Tryz.prog w = .ok x0 w := by kernel_rfl
theorem p28_1 (x0 x1 x2 x3 x4 x5 x6 x7 x8 x9 : Value) (w : World) : (part 26 #[x0, x1, x2, x3, x4, x5, x6, x7, x8, x9] 1).run Tryz.prog w = .ok (.agg #[x1, x2, x3, x4, x5, x6]) w := by kernel_rfl
theorem p28_7 (x0 x1 x2 x3 x4 x5 x6 x7 x8 x9 : Value) (w : World) : (part 4 #[x0, x1, x2, x3, x4, x5, x6, x7, x8, x9] 7).run Tryz.prog w = .ok x7 w := by kernel_rfl
theorem p28_8 (x0 x1 x2 x3 x4 x5 x6 x7 x8 x9 : Value) (w : World) : (part 9 #[x0, x1, x2, x3, x4, x5, x6, x7, x8, x9] 8).run Tryz.prog w = .ok x8 w := by kernel_rfl
theorem p28_9 (x0 x1 x2 x3 x4 x5 x6 x7 x8 x9 : Value) (w : World) : (part 3 #[x0, x1, x2, x3, x4, x5, x6, x7, x8, x9] 9).run Tryz.prog w = .ok x9 w := by kernel_rfl
theorem gt28 : Tryz.prog.eqGuardType Tryz.prog.depth 28 = false := by kernel_rfl
/-- The same value: kind, number, flag, text, error. -/
def svl (k : Int) (b : Bool) (n0 n1 n2 n3 s : Int) (f : Bool) (t : ByteArray) (e : Int) (k' : Int) (b' : Bool) (m0 m1 m2 m3 s' : Int) (f' : Bool) (t' : ByteArray) (e' : Int) : Bool :=
  k == k' && ((b == b' && (s4 n0 n1 n2 n3 m0 m1 m2 m3 && s == s')) && (f == f' && (t == t' && e == e')))
theorem eq26 (d : Nat) (b c : Bool) (n0 n1 n2 n3 m0 m1 m2 m3 s t : Int) (w : World) : (Op.equalIn (d + 1 + 1 + 1) 26 (.agg #[.bool b, .int .u64 n0, .int .u64 n1, .int .u64 n2, .int .u64 n3, .int .i64 s]) (.agg #[.bool c, .int .u64 m0, .int .u64 m1, .int .u64 m2, .int .u64 m3, .int .i64 t])).run Tryz.prog w = .ok (b == c && (s4 n0 n1 n2 n3 m0 m1 m2 m3 && s == t)) w := by
  rw [run_equalIn_struct w (d + 1 + 1) 26 _ _ ht40 hp40]
  have h := fo40
  generalize (Tryz.prog.fieldsOf 26).toList = L at h
  have hl : L.length = 3 := by have := congrArg List.length h; simpa using this
  match L, hl with
  | [f0, f1, f2], _ =>
    simp at h
    obtain ⟨⟨a0, a1, a2⟩, ⟨b0, b1, b2⟩, ⟨c0, c1, c2⟩⟩ := h
    have q1 : (Op.equalIn (d + 1 + 1) 4 (.bool b) (.bool c)).run Tryz.prog w = .ok (b == c) w := by kernel_rfl
    have q2 : _ = Result.ok (s4 n0 n1 n2 n3 m0 m1 m2 m3) w := eq4d d n0 n1 n2 n3 m0 m1 m2 m3 w
    have q3 : (Op.equalIn (d + 1 + 1) 3 (.int .i64 s) (.int .i64 t)).run Tryz.prog w = .ok (s == t) w := run_equalIn_int w (d + 1) 3 .i64 .i64 s t Tryz.underlying3
    generalize s4 n0 n1 n2 n3 m0 m1 m2 m3 = z at q2 ⊢
    simp only [Op.eqFields, a0, a1, a2, b0, b1, b2, c0, c1, c2]
    cases h1 : (b == c) <;> cases z <;> cases h3 : (s == t) <;> simp [Sem.run_bind, pt40, pt41, pt45, Result.andThen_ok, q1, q2, q3, h1, h3, Sem.run_pure]
theorem eq28 (k : Int) (b : Bool) (n0 n1 n2 n3 s : Int) (f : Bool) (t : ByteArray) (e : Int) (k' : Int) (b' : Bool) (m0 m1 m2 m3 s' : Int) (f' : Bool) (t' : ByteArray) (e' : Int) (w : World) : (Op.equalIn 10000 28 (.agg #[.int .i64 k, .bool b, .int .u64 n0, .int .u64 n1, .int .u64 n2, .int .u64 n3, .int .i64 s, .bool f, .string t, .int .i64 e]) (.agg #[.int .i64 k', .bool b', .int .u64 m0, .int .u64 m1, .int .u64 m2, .int .u64 m3, .int .i64 s', .bool f', .string t', .int .i64 e'])).run Tryz.prog w = .ok (svl k b n0 n1 n2 n3 s f t e k' b' m0 m1 m2 m3 s' f' t' e') w := by
  rw [show (10000 : Nat) = 9999 + 1 from rfl, run_equalIn_struct w 9999 28 _ _ ht28 hp28]
  have h := fo28
  generalize (Tryz.prog.fieldsOf 28).toList = L at h
  have hl : L.length = 5 := by have := congrArg List.length h; simpa using this
  match L, hl with
  | [f0, f1, f2, f3, f4], _ =>
    simp at h
    obtain ⟨⟨a0, a1, a2⟩, ⟨b0, b1, b2⟩, ⟨c0, c1, c2⟩, ⟨g0, g1, g2⟩, ⟨i0, i1, i2⟩⟩ := h
    have qi : ∀ x y : Int, (Op.equalIn 9999 3 (.int .i64 x) (.int .i64 y)).run Tryz.prog w = .ok (x == y) w := fun x y => run_equalIn_int w 9998 3 .i64 .i64 x y Tryz.underlying3
    have q2 : (Op.equalIn 9999 26 _ _).run Tryz.prog w = _ := eq26 9996 b b' n0 n1 n2 n3 m0 m1 m2 m3 s s' w
    have q3 : (Op.equalIn 9999 4 (.bool f) (.bool f')).run Tryz.prog w = .ok (f == f') w := by kernel_rfl
    have q4 : (Op.equalIn 9999 9 (.string t) (.string t')).run Tryz.prog w = .ok (t == t') w := by kernel_rfl
    unfold svl
    generalize (b == b' && (s4 n0 n1 n2 n3 m0 m1 m2 m3 && s == s')) = z at q2 ⊢
    simp only [Op.eqFields, a0, a1, a2, b0, b1, b2, c0, c1, c2, g0, g1, g2, i0, i1, i2]
    cases h1 : (k == k') <;> cases z <;> cases h3 : (f == f') <;> cases h4 : (t == t') <;> cases h5 : (e == e') <;> simp [Sem.run_bind, p28_0, p28_1, p28_7, p28_8, p28_9, Result.andThen_ok, qi, q2, q3, q4, h1, h3, h4, h5, Sem.run_pure]
section
variable {k : Int} {b : Bool} {n0 n1 n2 n3 s : Int} {f : Bool} {t : ByteArray} {e : Int} {k' : Int} {b' : Bool} {m0 m1 m2 m3 s' : Int} {f' : Bool} {t' : ByteArray} {e' : Int} {r : Bool}
theorem eqV (h : svl k b n0 n1 n2 n3 s f t e k' b' m0 m1 m2 m3 s' f' t' e' = r) (x y : Operand) (w : World) : (do eqGuard .eql 28 x y (.agg #[.int .i64 k, .bool b, .int .u64 n0, .int .u64 n1, .int .u64 n2, .int .u64 n3, .int .i64 s, .bool f, .string t, .int .i64 e]) (.agg #[.int .i64 k', .bool b', .int .u64 m0, .int .u64 m1, .int .u64 m2, .int .u64 m3, .int .i64 s', .bool f', .string t', .int .i64 e']); binOp .eql 28 (.agg #[.int .i64 k, .bool b, .int .u64 n0, .int .u64 n1, .int .u64 n2, .int .u64 n3, .int .i64 s, .bool f, .string t, .int .i64 e]) (.agg #[.int .i64 k', .bool b', .int .u64 m0, .int .u64 m1, .int .u64 m2, .int .u64 m3, .int .i64 s', .bool f', .string t', .int .i64 e'])).run Tryz.prog w = .ok (.bool r) w := eqa_run gt28 (by rw [← h]; exact eq28 ..) x y
theorem neV (h : svl k b n0 n1 n2 n3 s f t e k' b' m0 m1 m2 m3 s' f' t' e' = r) (x y : Operand) (w : World) : (do eqGuard .neq 28 x y (.agg #[.int .i64 k, .bool b, .int .u64 n0, .int .u64 n1, .int .u64 n2, .int .u64 n3, .int .i64 s, .bool f, .string t, .int .i64 e]) (.agg #[.int .i64 k', .bool b', .int .u64 m0, .int .u64 m1, .int .u64 m2, .int .u64 m3, .int .i64 s', .bool f', .string t', .int .i64 e']); binOp .neq 28 (.agg #[.int .i64 k, .bool b, .int .u64 n0, .int .u64 n1, .int .u64 n2, .int .u64 n3, .int .i64 s, .bool f, .string t, .int .i64 e]) (.agg #[.int .i64 k', .bool b', .int .u64 m0, .int .u64 m1, .int .u64 m2, .int .u64 m3, .int .i64 s', .bool f', .string t', .int .i64 e'])).run Tryz.prog w = .ok (.bool (!r)) w := nea_run gt28 (by rw [← h]; exact eq28 ..) x y
end
theorem ba_beq (a b : ByteArray) : (a == b) = decide (a = b) := by
  obtain ⟨a⟩ := a
  obtain ⟨b⟩ := b
  have h : ((⟨a⟩ : ByteArray) == ⟨b⟩) = (a == b) := rfl
  rw [h]
  by_cases q : a = b
  · subst q; simp
  · have : ¬ (⟨a⟩ : ByteArray) = ⟨b⟩ := fun e => q (by injection e)
    simp [this, q]
/-- A value: its kind, its number (sign, digits, scale), its flag, its text, its error. -/
structure VL where
  k : Int
  b : Bool
  n : Int
  s : Int
  f : Bool
  t : ByteArray
  e : Int
def VL.cells (v : VL) : List Value := [.int .i64 v.k, .bool v.b, .int .u64 (l0 v.n), .int .u64 (l1 v.n), .int .u64 (l2 v.n), .int .u64 (l3 v.n), .int .i64 v.s, .bool v.f, .string v.t, .int .i64 v.e]
abbrev VL.v (v : VL) : Value := .agg v.cells.toArray
/-- Its digits have room. -/
def VL.ok (v : VL) : Prop := 0 ≤ v.n ∧ v.n < MM
abbrev E0 : ByteArray := ⟨#[]⟩
def vBl : VL := ⟨0, false, 0, 0, false, E0, 0⟩
def vEr (e : Int) : VL := ⟨4, false, 0, 0, false, E0, e⟩
def vFl (f : Bool) : VL := ⟨2, false, 0, 0, f, E0, 0⟩
def vNu (b : Bool) (n s : Int) : VL := ⟨1, b, n, s, false, E0, 0⟩
def vTx (t : ByteArray) : VL := ⟨3, false, 0, 0, false, t, 0⟩
/-- Is it one of the errors? -/
def isE (e : Int) : Bool := decide (1 ≤ e) && decide (e ≤ 5)
def vBad (e : Int) : VL := vEr (if isE e then e else 2)
/-- Are two values the same, field by field? -/
def svv (x y : VL) : Bool := svl x.k x.b (l0 x.n) (l1 x.n) (l2 x.n) (l3 x.n) x.s x.f x.t x.e y.k y.b (l0 y.n) (l1 y.n) (l2 y.n) (l3 y.n) y.s y.f y.t y.e
theorem eqW {x y : VL} {r : Bool} (h : svv x y = r) (p q : Operand) (w : World) : (do eqGuard .eql 28 p q x.v y.v; binOp .eql 28 x.v y.v).run Tryz.prog w = .ok (.bool r) w := eqV h p q w
theorem neW {x y : VL} {r : Bool} (h : svv x y = r) (p q : Operand) (w : World) : (do eqGuard .neq 28 p q x.v y.v; binOp .neq 28 x.v y.v).run Tryz.prog w = .ok (.bool (!r)) w := neV h p q w
theorem svv_self (x : VL) : svv x x = true := by simp [svv, svl, s4, ba_beq]
theorem svv_eq {x y : VL} (hx : x.ok) (hy : y.ok) (h : svv x y = true) : x = y := by
  obtain ⟨k, b, n, s, f, t, e⟩ := x
  obtain ⟨k', b', n', s', f', t', e'⟩ := y
  simp only [svv, svl, s4, ba_beq, Bool.and_eq_true, beq_iff_eq, decide_eq_true_eq] at h
  have hn : n = n' := nv_inj hx.1 hx.2 hy.1 hy.2 (by simp_all)
  simp_all
/-- It without the fields that its kind gives no meaning. -/
def bareV (v : VL) : VL := if v.k = 1 then vNu v.b v.n v.s else if v.k = 2 then vFl v.f else if v.k = 3 then vTx v.t else if v.k = 4 then vEr v.e else vBl
/-- May what its kind gives a meaning be? -/
def inB (v : VL) : Bool := if v.k = 1 then decide (ck v.b v.n v.s = 0) else if v.k = 3 then decide (v.t.size ≤ 64) else if v.k = 4 then isE v.e else true
def ckv (v : VL) : Bool := svv v (bareV v) && inB v
def ckI (v : VL) : Int := if ckv v then 0 else 1
theorem ok_0 (k : Int) (b : Bool) (s : Int) (f : Bool) (t : ByteArray) (e : Int) : VL.ok ⟨k, b, 0, s, f, t, e⟩ := ⟨Int.le_refl 0, by show (0 : Int) < MM; decide⟩
theorem bare_ok {v : VL} (h : v.ok) : (bareV v).ok := by
  unfold bareV
  split; · exact h
  split; · exact ok_0 _ _ _ _ _ _
  split; · exact ok_0 _ _ _ _ _ _
  split; · exact ok_0 _ _ _ _ _ _
  exact ok_0 _ _ _ _ _ _
theorem ckv_eq {v : VL} (h : v.ok) (c : ckv v = true) : v = bareV v := svv_eq h (bare_ok h) (by unfold ckv at c; simp at c; exact c.1)
theorem ckv_in {v : VL} (c : ckv v = true) : inB v = true := by unfold ckv at c; simp at c; exact c.2
theorem ckv_k {v : VL} (h : v.ok) (c : ckv v = true) : v.k = 0 ∨ v.k = 1 ∨ v.k = 2 ∨ v.k = 3 ∨ v.k = 4 := by
  have q := congrArg VL.k (ckv_eq h c)
  unfold bareV at q
  split at q; · simp_all
  split at q; · simp_all
  split at q; · simp_all
  split at q; · simp_all
  left; exact q
theorem ckv_num {v : VL} (h : v.ok) (c : ckv v = true) (k : v.k = 1) : v = vNu v.b v.n v.s ∧ ck v.b v.n v.s = 0 := by
  refine ⟨?_, ?_⟩
  · have q := ckv_eq h c; unfold bareV at q; rw [if_pos k] at q; exact q
  · have q := ckv_in c; unfold inB at q; rw [if_pos k] at q; exact of_decide_eq_true q
theorem ckv_err {v : VL} (h : v.ok) (c : ckv v = true) (k : v.k = 4) : v = vEr v.e ∧ isE v.e = true := by
  refine ⟨?_, ?_⟩
  · have q := ckv_eq h c; unfold bareV at q; simp [k] at q; exact q
  · have q := ckv_in c; unfold inB at q; simp [k] at q; exact q
theorem bad_of {e : Int} (h : isE e = true) : vBad e = vEr e := by unfold vBad; rw [if_pos h]
theorem isE_bad (e : Int) : isE (if isE e then e else 2) = true := by
  split
  · assumption
  · rfl
theorem ckv_vEr {e : Int} (h : isE e = true) : ckv (vEr e) = true := by
  have : bareV (vEr e) = vEr e := by unfold bareV vEr; simp
  unfold ckv; rw [this, svv_self]; unfold inB vEr; simp [h]
theorem ckv_vBad (e : Int) : ckv (vBad e) = true := ckv_vEr (isE_bad e)
theorem ckv_vFl (f : Bool) : ckv (vFl f) = true := by
  have : bareV (vFl f) = vFl f := by unfold bareV vFl; simp
  unfold ckv; rw [this, svv_self]; unfold inB vFl; simp
theorem ckv_vNu {b : Bool} {n s : Int} (h : ck b n s = 0) : ckv (vNu b n s) = true := by
  have : bareV (vNu b n s) = vNu b n s := by unfold bareV vNu; simp
  unfold ckv; rw [this, svv_self]; unfold inB vNu; simp [h]
/-- What an operand comes to when it is asked (but for its kind): 0, if there is no fault. -/
def ask (v : VL) : Int := if ckv v then (if v.k = 4 then v.e else if v.k = 0 then 3 else 0) else 2
def ask2 (x y : VL) : Int := if ask x = 0 then ask y else ask x
def askK (k : Int) (v : VL) : Int := if ask v = 0 then (if v.k = k then 0 else 2) else ask v
theorem ask_0 {v : VL} (h : v.ok) (a : ask v = 0) : ckv v = true ∧ v.k ≠ 4 ∧ v.k ≠ 0 := by
  unfold ask at a
  split at a
  next c =>
    refine ⟨c, ?_, ?_⟩
    · intro k; rw [if_pos k] at a; have := (ckv_err h c k).2; rw [a] at this; exact absurd this (by decide)
    · intro k
      rw [if_neg (by omega), if_pos k] at a
      exact absurd a (by decide)
  next => exact absurd a (by decide)
theorem ask_isE {v : VL} (h : v.ok) (a : ask v ≠ 0) : isE (ask v) = true := by
  unfold ask at a ⊢
  split
  next c =>
    rw [if_pos c] at a
    split
    next k => exact (ckv_err h c k).2
    next k =>
      rw [if_neg k] at a
      split
      next => rfl
      next q => rw [if_neg q] at a; exact absurd rfl a
  next => rfl
/-- What a call of decimal answers, as a value. -/
def numV (r : DR) : VL := if r.e = 0 then vNu r.b r.n r.s else if r.e = 7 then vBad 1 else vBad 2
def ordV (op o : Int) : VL :=
  if op = 4 then vFl (decide (o = 0)) else if op = 5 then vFl (!decide (o = 0)) else if op = 6 then vFl (decide (o < 0)) else if op = 7 then vFl (decide (o ≤ 0))
  else if op = 8 then vFl (decide (0 < o)) else if op = 9 then vFl (decide (0 ≤ o)) else vBad 2
def opN (op : Int) (b : Bool) (n s : Int) (c : Bool) (m t : Int) : VL :=
  if op = 1 then numV (addR b n s c m t) else if op = 2 then numV (subR b n s c m t) else if op = 3 then numV (mulR b n s c m t) else ordV op (cmpR b n s c m t)
def opF (op : Int) (f g : Bool) : VL := if op = 10 then vFl (f && g) else if op = 11 then vFl (f || g) else vBad 2
def opV (op : Int) (x y : VL) : VL :=
  if ask2 x y = 0 then
    (if x.k = y.k then (if x.k = 1 then opN op x.b x.n x.s y.b y.n y.s else if op = 4 then vFl (svv x y) else if op = 5 then vFl (!svv x y) else if x.k = 2 then opF op x.f y.f else vBad 2) else vBad 2)
  else vBad (ask2 x y)
def negV (x : VL) : VL := if askK 1 x = 0 then numV (negR x.b x.n x.s) else vBad (askK 1 x)
def notV (x : VL) : VL := if askK 2 x = 0 then vFl (!x.f) else vBad (askK 2 x)
def mayV (x : VL) : VL := if ckv x then x else vBad 2
def ifV (c x y : VL) : VL := if askK 2 c = 0 then mayV (if c.f then x else y) else vBad (askK 2 c)
def rndV (x : VL) (S p : Int) : VL := if askK 1 x = 0 then numV (rndR x.b x.n x.s S p) else vBad (askK 1 x)
def blkV (x : VL) : VL := if ckv x then (if x.k = 4 then x else vFl (decide (x.k = 0))) else vBad 2
def fitV (x : VL) (tk ts p : Int) : VL := if ckv x then (if x.k = 4 then x else if x.k = 0 then x else if x.k = tk then (if x.k = 1 then rndV x ts p else x) else vBad 2) else vBad 2
end Go.Proofs.YtfmfeipeeedfpaaGreat
namespace Go.Proofs.YtfmfeipeeedfpaaGreat
open S
abbrev VL.y (x : VL) : Value := .agg (x.cells.map rel1).toArray
set_option maxRecDepth 20000 in
theorem p_isE (e : Int) (w : World) : Calls Tryz.prog 79 #[.int .i64 e] w fun r W => r = .returned (.bool (isE e)) ∧ Mb w W := by
  refine fn_pure [.int .i64 e] Tryz.func79 rfl rfl rfl (run_ok (st mo ?_))
  refine ⟨fun h => st mo ⟨fun h2 => st mo ?_, fun h2 => st mo ?_⟩, fun h => st mo ?_⟩
  · show _ = _; unfold isE; rw [decide_eq_true h, decide_eq_true h2]; rfl
  · show _ = _; unfold isE; rw [decide_eq_true h, decide_eq_false (by omega)]; rfl
  · show _ = _; unfold isE; rw [decide_eq_false (by omega)]; rfl
set_option maxRecDepth 20000 in
theorem p_flag (b : Bool) (w : World) : Calls Tryz.prog 137 #[.bool b] w fun r W => r = .returned (vFl b).v ∧ Mb w W :=
  fn_pure [.bool b] Tryz.func137 rfl rfl rfl (run_ok (st mo rfl))
set_option maxRecDepth 20000 in
theorem p_bad (e : Int) (w : World) : Calls Tryz.prog 44 #[.int .i64 e] w fun r W => r = .returned (vBad e).v ∧ Mb w W := by
  cases h : isE e with
  | true =>
    rw [bad_of h]
    exact fn_pure [.int .i64 e] Tryz.func44 rfl rfl rfl (run_ok (st mo ⟨_, fun nn => r_call (t := litT) rfl rfl Tryz.func79 (fun W M E => by have := p_isE e W; rw [h] at this; exact this), st mo rfl⟩))
  | false =>
    rw [show vBad e = vEr 2 by unfold vBad; rw [h]; rfl]
    exact fn_pure [.int .i64 e] Tryz.func44 rfl rfl rfl (run_ok (st mo ⟨_, fun nn => r_call (t := litF) rfl rfl Tryz.func79 (fun W M E => by have := p_isE e W; rw [h] at this; exact this), st mo rfl⟩))
set_option maxRecDepth 20000 in
theorem p_bare (v : VL) (w : World) : Calls Tryz.prog 111 #[v.v] w fun r W => r = .returned (bareV v).v ∧ Mb w W := by
  refine fn_pure [v.y] Tryz.func111 rfl rfl rfl (run_ok (st mo ?_))
  refine ⟨fun h => st mo ?_, fun h1 => st mo ⟨fun h => st mo ?_, fun h2 => st mo ⟨fun h => st mo ?_, fun h3 => st mo ⟨fun h => st mo ?_, fun h4 => st mo ?_⟩⟩⟩⟩
  · show _ = _; rw [bareV, if_pos h]; rfl
  · refine ⟨_, fun nn => r_call (t := (vFl v.f).y) rfl rfl Tryz.func137 (fun W M E => p_flag v.f W), st mo ?_⟩
    show _ = _; rw [bareV, if_neg h1, if_pos h]; rfl
  · show _ = _; rw [bareV, if_neg h1, if_neg h2, if_pos h]; rfl
  · show _ = _; rw [bareV, if_neg h1, if_neg h2, if_neg h3, if_pos h]; rfl
  · show _ = _; rw [bareV, if_neg h1, if_neg h2, if_neg h3, if_neg h4]; rfl
set_option maxRecDepth 20000 in
theorem p_inB (v : VL) (hv : v.ok) (w : World) : Calls Tryz.prog 112 #[v.v] w fun r W => r = .returned (.bool (inB v)) ∧ Mb w W := by
  refine fn_pure [v.y] Tryz.func112 rfl rfl rfl (run_ok (st mo ?_))
  refine ⟨fun h => st mo ?_, fun h1 => st mo ⟨fun h => st mo ?_, fun h3 => st mo ⟨fun h => st mo ?_, fun h4 => st mo ?_⟩⟩⟩
  · refine ⟨_, fun nn => r_call (t := .int .i64 (ck v.b v.n v.s)) rfl rfl Tryz.func157 (fun W M E => p_dck v.b v.n v.s ⟨hv.1, hv.2⟩ W), st mo ⟨fun h2 => st mo ?_, fun h2 => st mo ?_⟩⟩
    · show _ = _; rw [inB, if_pos h, decide_eq_true h2]
    · show _ = _; rw [inB, if_pos h, decide_eq_false h2]
  · refine st mo ⟨fun h2 => st mo ?_, fun h2 => st mo ?_⟩
    · show _ = _; rw [inB, if_neg h1, if_pos h, decide_eq_true (by omega)]
    · show _ = _; rw [inB, if_neg h1, if_pos h, decide_eq_false (by omega)]
  · refine ⟨_, fun nn => r_call (t := .bool (isE v.e)) rfl rfl Tryz.func79 (fun W M E => p_isE v.e W), st mo ?_⟩
    show _ = _; rw [inB, if_neg h1, if_neg h3, if_pos h]
  · show _ = _; rw [inB, if_neg h1, if_neg h3, if_neg h4]
theorem r_neV {w0 : B0} {X : World} {o : Oper} {fr : FT} {h : HT} {n : Nat} {y z : Operand} {t' : TypeId} (p q : VL) (ho : o.op = .binOp .neq 28 y z t' := by rfl) (hy : den2 (evo fr y) = p.v := by rfl) (hz : den2 (evo fr z) = q.v := by rfl) (hpy : pur2 (evo fr y) = true := by rfl) (hpz : pur2 (evo fr z) = true := by rfl) : Oa (Am w0 X) Tryz.prog o fr h n ⟨.bool (!svv p q), h, n, 0, 0⟩ :=
  Oo.to (s_bin0 ho (fun k u hu => by rw [pur2_eq hu hpy, hy]) (fun k u hu => by rw [pur2_eq hu hpz, hz]) rfl (fun w => neW rfl y z w))
theorem r_eqV {w0 : B0} {X : World} {o : Oper} {fr : FT} {h : HT} {n : Nat} {y z : Operand} {t' : TypeId} (p q : VL) (ho : o.op = .binOp .eql 28 y z t' := by rfl) (hy : den2 (evo fr y) = p.v := by rfl) (hz : den2 (evo fr z) = q.v := by rfl) (hpy : pur2 (evo fr y) = true := by rfl) (hpz : pur2 (evo fr z) = true := by rfl) : Oa (Am w0 X) Tryz.prog o fr h n ⟨.bool (svv p q), h, n, 0, 0⟩ :=
  Oo.to (s_bin0 ho (fun k u hu => by rw [pur2_eq hu hpy, hy]) (fun k u hu => by rw [pur2_eq hu hpz, hz]) rfl (fun w => eqW rfl y z w))
set_option maxRecDepth 20000 in
theorem p_check (v : VL) (hv : v.ok) (w : World) : Calls Tryz.prog 77 #[v.v] w fun r W => r = .returned (.int .i64 (ckI v)) ∧ Mb w W := by
  refine fn_pure [v.y] Tryz.func77 rfl rfl rfl (run_ok (st mo ?_))
  refine ⟨_, fun nn => r_call (t := (bareV v).y) rfl rfl Tryz.func111 (fun W M E => p_bare v W), st mo ?_⟩
  refine ⟨_, r_neV v (bareV v), fun h => st mo ⟨dk, st mo ?_⟩, fun h => st mo ?_⟩
  · have : ckI v = 1 := by unfold ckI ckv; simp at h; rw [h]; rfl
    show _ = _; rw [this]
  · simp at h
    cases hi : inB v with
    | true =>
      refine ⟨_, fun nn => r_call (t := litT) rfl rfl Tryz.func112 (fun W M E => by have := p_inB v hv W; rw [hi] at this; exact this), st mo ⟨dk, st mo ?_⟩⟩
      have : ckI v = 0 := by unfold ckI ckv; rw [h, hi]; rfl
      show _ = _; rw [this]
    | false =>
      refine ⟨_, fun nn => r_call (t := litF) rfl rfl Tryz.func112 (fun W M E => by have := p_inB v hv W; rw [hi] at this; exact this), st mo ⟨dk, st mo ?_⟩⟩
      have : ckI v = 1 := by unfold ckI ckv; rw [h, hi]; rfl
      show _ = _; rw [this]
set_option maxRecDepth 20000 in
theorem p_num (r : DR) (w : World) : Calls Tryz.prog 114 #[dc r.b r.n r.s, .int .i64 r.e] w fun e W => e = .returned (numV r).v ∧ Mb w W := by
  refine fn_pure [dc r.b r.n r.s, .int .i64 r.e] Tryz.func114 rfl rfl rfl (run_ok (st mo ?_))
  refine ⟨fun h => st mo ?_, fun h1 => st mo ⟨fun h => st mo ?_, fun h2 => st mo ?_⟩⟩
  · show _ = _; rw [numV, if_pos h]; rfl
  · refine ⟨_, fun nn => r_call (t := (vBad 1).y) rfl rfl Tryz.func44 (fun W M E => p_bad 1 W), st mo ?_⟩
    show _ = _; rw [numV, if_neg h1, if_pos h]; rfl
  · refine ⟨_, fun nn => r_call (t := (vBad 2).y) rfl rfl Tryz.func44 (fun W M E => p_bad 2 W), st mo ?_⟩
    show _ = _; rw [numV, if_neg h1, if_neg h2]; rfl
abbrev VL.r (x : VL) : List Value := x.cells.map rel1
theorem ckI_1 {v : VL} (h : ¬ ckI v = 0) : ckv v = false := by
  cases c : ckv v with
  | true => exact absurd (by unfold ckI; rw [c]; rfl) h
  | false => rfl
theorem ckI_0 {v : VL} (h : ckI v = 0) : ckv v = true := by
  cases c : ckv v with
  | true => rfl
  | false => unfold ckI at h; rw [c] at h; cases h
theorem ask_c {v : VL} (h : ckv v = false) : ask v = 2 := by unfold ask; rw [h]; rfl
theorem ask_e {v : VL} (h : ckv v = true) (k : v.k = 4) : ask v = v.e := by unfold ask; rw [if_pos h, if_pos k]
theorem ask_b {v : VL} (h : ckv v = true) (k : v.k = 0) : ask v = 3 := by unfold ask; rw [if_pos h, if_neg (by omega), if_pos k]
theorem ask_n {v : VL} (h : ckv v = true) (k : ¬ v.k = 4) (q : ¬ v.k = 0) : ask v = 0 := by unfold ask; rw [if_pos h, if_neg k, if_neg q]
set_option maxRecDepth 20000 in
theorem p_fault1 (X : World) (v : VL) (hv : v.ok) : Ctr Tryz.prog X 138 [.slice (some ⟨0, 0, none⟩) 1 10] [(0, some v.r)] 1 1 (.int .i64 (ask v)) [(0, some v.r)] 1 := by
  refine fn_c _ Tryz.func138 rfl rfl rfl rfl (fun w l X' hX => run_ok (st mo ?_))
  refine st mo ?_
  refine S.w_loop (fun i : Nat => ⟨⟨26, [(5, .slice (some ⟨0, 0, none⟩) 1 10), (6, .int .i64 1), (7, .int .i64 (i : Int))]⟩, [(0, some v.r)], 1, X'⟩) (fun i => i ≤ 1 ∧ (i = 1 → ask v = 0)) (fun i => 1 - i) 0 ⟨by omega, by omega⟩ [0] ⟨rfl, ⟨fs, fv, fv, trivial⟩, ⟨flr rfl, trivial⟩, xf, rfl, rfl⟩ ?_
  intro i hi
  rcases i with _ | i
  · refine st mo ⟨fun _ => st mo ⟨0, rfl, by decide, st mo ⟨v.r, rfl, rfl, Or.inl (st mo ?_)⟩⟩, fun h => absurd h (by omega)⟩
    refine ⟨_, fun nn => r_call (t := .int .i64 (ckI v)) rfl rfl Tryz.func77 (fun W M E => p_check v hv W), st mo ?_⟩
    refine ⟨fun h => st mo ?_, fun h => st mo ⟨fun h4 => st mo ?_, fun h4 => st mo ⟨fun h0 => st mo ?_, fun h0 => st mo ?_⟩⟩⟩
    · exact ⟨rfl, [0], fe (ask_c (ckI_1 h)).symm, ⟨flr rfl, trivial⟩, rfl, rfl⟩
    · exact ⟨rfl, [0], fe (ask_e (ckI_0 h) h4).symm, ⟨flr rfl, trivial⟩, rfl, rfl⟩
    · exact ⟨rfl, [0], fe (ask_b (ckI_0 h) h0).symm, ⟨flr rfl, trivial⟩, rfl, rfl⟩
    · refine ⟨_, wz 1 rfl, st mo ?_⟩
      exact ⟨1, ⟨by omega, fun _ => ask_n (ckI_0 h) h4 h0⟩, by decide, [0], rfl, ⟨fs, fv, fv, trivial⟩, ⟨flr rfl, trivial⟩, xf, rfl, rfl⟩
  · obtain rfl : i = 0 := by omega
    refine st mo ⟨fun h => absurd h (by omega), fun _ => st mo (st mo ?_)⟩
    exact ⟨rfl, [0], fe (hi.2 rfl).symm, ⟨flr rfl, trivial⟩, rfl, rfl⟩
set_option maxRecDepth 20000 in
theorem p_fault2 (X : World) (v u : VL) (hv : v.ok) (hu : u.ok) : Ctr Tryz.prog X 138 [.slice (some ⟨0, 0, none⟩) 2 10] [(0, some ((v.cells ++ u.cells).map rel1))] 1 1 (.int .i64 (ask2 v u)) [(0, some ((v.cells ++ u.cells).map rel1))] 1 := by
  refine fn_c _ Tryz.func138 rfl rfl rfl rfl (fun w l X' hX => run_ok (st mo ?_))
  refine st mo ?_
  refine S.w_loop (fun i : Nat => ⟨⟨26, [(5, .slice (some ⟨0, 0, none⟩) 2 10), (6, .int .i64 2), (7, .int .i64 (i : Int))]⟩, [(0, some ((v.cells ++ u.cells).map rel1))], 1, X'⟩) (fun i => i ≤ 2 ∧ (1 ≤ i → ask v = 0) ∧ (i = 2 → ask u = 0)) (fun i => 2 - i) 0 ⟨by omega, by omega, by omega⟩ [0] ⟨rfl, ⟨fs, fv, fv, trivial⟩, ⟨flr rfl, trivial⟩, xf, rfl, rfl⟩ ?_
  intro i hi
  rcases i with _ | i
  · refine st mo ⟨fun _ => st mo ⟨0, rfl, by decide, st mo ⟨v.r, rfl, rfl, Or.inl (st mo ?_)⟩⟩, fun h => absurd h (by omega)⟩
    refine ⟨_, fun nn => r_call (t := .int .i64 (ckI v)) rfl rfl Tryz.func77 (fun W M E => p_check v hv W), st mo ?_⟩
    have key : ¬ ask v = 0 → ask2 v u = ask v := fun h => by unfold ask2; rw [if_neg h]
    refine ⟨fun h => st mo ?_, fun h => st mo ⟨fun h4 => st mo ?_, fun h4 => st mo ⟨fun h0 => st mo ?_, fun h0 => st mo ?_⟩⟩⟩
    · have a := ask_c (ckI_1 h)
      exact ⟨rfl, [0], fe (by rw [key (by omega), a]), ⟨flr rfl, trivial⟩, rfl, rfl⟩
    · have a := ask_e (ckI_0 h) h4
      have b := (ckv_err hv (ckI_0 h) h4).2
      exact ⟨rfl, [0], fe (by rw [key (by rw [a]; intro e; rw [e] at b; cases b), a]), ⟨flr rfl, trivial⟩, rfl, rfl⟩
    · have a := ask_b (ckI_0 h) h0
      exact ⟨rfl, [0], fe (by rw [key (by omega), a]), ⟨flr rfl, trivial⟩, rfl, rfl⟩
    · refine ⟨_, wz 1 rfl, st mo ?_⟩
      exact ⟨1, ⟨by omega, fun _ => ask_n (ckI_0 h) h4 h0, by omega⟩, by decide, [0], rfl, ⟨fs, fv, fv, trivial⟩, ⟨flr rfl, trivial⟩, xf, rfl, rfl⟩
  · rcases i with _ | i
    · have key : ask2 v u = ask u := by unfold ask2; rw [if_pos (hi.2.1 (by omega))]
      refine st mo ⟨fun _ => st mo ⟨1, rfl, by decide, st mo ⟨u.r, rfl, rfl, Or.inl (st mo ?_)⟩⟩, fun h => absurd h (by omega)⟩
      refine ⟨_, fun nn => r_call (t := .int .i64 (ckI u)) rfl rfl Tryz.func77 (fun W M E => p_check u hu W), st mo ?_⟩
      refine ⟨fun h => st mo ?_, fun h => st mo ⟨fun h4 => st mo ?_, fun h4 => st mo ⟨fun h0 => st mo ?_, fun h0 => st mo ?_⟩⟩⟩
      · exact ⟨rfl, [0], fe (by rw [key, ask_c (ckI_1 h)]), ⟨flr rfl, trivial⟩, rfl, rfl⟩
      · exact ⟨rfl, [0], fe (by rw [key, ask_e (ckI_0 h) h4]), ⟨flr rfl, trivial⟩, rfl, rfl⟩
      · exact ⟨rfl, [0], fe (by rw [key, ask_b (ckI_0 h) h0]), ⟨flr rfl, trivial⟩, rfl, rfl⟩
      · refine ⟨_, wz 2 rfl, st mo ?_⟩
        exact ⟨2, ⟨by omega, fun _ => hi.2.1 (by omega), fun _ => ask_n (ckI_0 h) h4 h0⟩, by decide, [0], rfl, ⟨fs, fv, fv, trivial⟩, ⟨flr rfl, trivial⟩, xf, rfl, rfl⟩
    · obtain rfl : i = 0 := by omega
      refine st mo ⟨fun h => absurd h (by omega), fun _ => st mo (st mo ?_)⟩
      exact ⟨rfl, [0], fe (by unfold ask2; rw [if_pos (hi.2.1 (by omega)), hi.2.2 rfl]), ⟨flr rfl, trivial⟩, rfl, rfl⟩
set_option maxRecDepth 20000 in
theorem p_faultFor (k : Int) (v : VL) (hv : v.ok) (w : World) : Calls Tryz.prog 113 #[.int .i64 k, v.v] w fun r W => r = .returned (.int .i64 (askK k v)) ∧ Mb w W := by
  refine fn_pure [.int .i64 k, v.y] Tryz.func113 rfl rfl rfl (run_ok (st mo ?_))
  refine ⟨_, fun nn => r_c (tc := .int .i64 (ask v)) [1] [some v.r] [] rfl rfl (p_fault1 w v hv) (by exact fitL_cons fs rfl) ⟨flr rfl, trivial⟩ uv ⟨ulr rfl, trivial⟩, st mo ?_⟩
  refine ⟨fun h => st mo ?_, fun h => st mo ⟨fun h2 => st mo ?_, fun h2 => st mo ?_⟩⟩
  · show _ = _; unfold askK; rw [if_neg h]
  · show _ = _; unfold askK; rw [if_pos h, if_neg h2]
  · show _ = _; unfold askK; rw [if_pos h, if_pos h2]
end Go.Proofs.YtfmfeipeeedfpaaGreat
namespace Go.Proofs.YtfmfeipeeedfpaaGreat
open S Go.RowKit
theorem d_mul (b : Bool) (n s : Int) (c : Bool) (m t : Int) (w : World) (hn : 0 ≤ n ∧ n < MM) (hm : 0 ≤ m ∧ m < MM) (h1 : ck b n s = 0) (h2 : ck c m t = 0) : Calls Tryz.prog 158 #[dc b n s, dc c m t, .int .i64 (min (s + t) 18), .int .i64 2] w fun e9 w' => e9 = .returned (mulR b n s c m t).v ∧ Mb w w' := by
  obtain ⟨a0, a1⟩ := sc_iff.1 (ck_s h1)
  obtain ⟨b0, b1⟩ := sc_iff.1 (ck_s h2)
  have q := p_mto b n s c m t (min (s + t) 18) 2 hn hm h1 h2 w
  unfold mtoR at q
  rw [if_pos (sc_iff.2 ⟨by omega, by omega⟩), if_pos (by decide)] at q
  exact q
set_option maxRecDepth 20000 in
theorem p_ofOrder (op o : Int) (w : World) : Calls Tryz.prog 171 #[.int .i64 op, .int .i64 o] w fun r W => r = .returned (ordV op o).v ∧ Mb w W := by
  refine fn_pure [.int .i64 op, .int .i64 o] Tryz.func171 rfl rfl rfl (run_ok (st mo ?_))
  refine ⟨fun h => st mo ⟨fun q => st mo ?_, fun q => st mo ?_⟩, fun h4 => st mo ?_⟩
  · refine ⟨_, fun nn => r_call (t := (vFl true).y) rfl rfl Tryz.func137 (fun W M E => p_flag true W), st mo ?_⟩
    show _ = _; rw [ordV, if_pos h, decide_eq_true q]; rfl
  · refine ⟨_, fun nn => r_call (t := (vFl false).y) rfl rfl Tryz.func137 (fun W M E => p_flag false W), st mo ?_⟩
    show _ = _; rw [ordV, if_pos h, decide_eq_false q]; rfl
  refine ⟨fun h => st mo ⟨fun q => st mo ?_, fun q => st mo ?_⟩, fun h5 => st mo ?_⟩
  · refine ⟨_, fun nn => r_call (t := (vFl true).y) rfl rfl Tryz.func137 (fun W M E => p_flag true W), st mo ?_⟩
    show _ = _; rw [ordV, if_neg h4, if_pos h, decide_eq_false q]; rfl
  · refine ⟨_, fun nn => r_call (t := (vFl false).y) rfl rfl Tryz.func137 (fun W M E => p_flag false W), st mo ?_⟩
    show _ = _; rw [ordV, if_neg h4, if_pos h, decide_eq_true q]; rfl
  refine ⟨fun h => st mo ⟨fun q => st mo ?_, fun q => st mo ?_⟩, fun h6 => st mo ?_⟩
  · refine ⟨_, fun nn => r_call (t := (vFl true).y) rfl rfl Tryz.func137 (fun W M E => p_flag true W), st mo ?_⟩
    show _ = _; rw [ordV, if_neg h4, if_neg h5, if_pos h, decide_eq_true (by omega)]; rfl
  · refine ⟨_, fun nn => r_call (t := (vFl false).y) rfl rfl Tryz.func137 (fun W M E => p_flag false W), st mo ?_⟩
    show _ = _; rw [ordV, if_neg h4, if_neg h5, if_pos h, decide_eq_false (by omega)]; rfl
  refine ⟨fun h => st mo ⟨fun q => st mo ?_, fun q => st mo ?_⟩, fun h7 => st mo ?_⟩
  · refine ⟨_, fun nn => r_call (t := (vFl true).y) rfl rfl Tryz.func137 (fun W M E => p_flag true W), st mo ?_⟩
    show _ = _; rw [ordV, if_neg h4, if_neg h5, if_neg h6, if_pos h, decide_eq_true (by omega)]; rfl
  · refine ⟨_, fun nn => r_call (t := (vFl false).y) rfl rfl Tryz.func137 (fun W M E => p_flag false W), st mo ?_⟩
    show _ = _; rw [ordV, if_neg h4, if_neg h5, if_neg h6, if_pos h, decide_eq_false (by omega)]; rfl
  refine ⟨fun h => st mo ⟨fun q => st mo ?_, fun q => st mo ?_⟩, fun h8 => st mo ?_⟩
  · refine ⟨_, fun nn => r_call (t := (vFl true).y) rfl rfl Tryz.func137 (fun W M E => p_flag true W), st mo ?_⟩
    show _ = _; rw [ordV, if_neg h4, if_neg h5, if_neg h6, if_neg h7, if_pos h, decide_eq_true (by omega)]; rfl
  · refine ⟨_, fun nn => r_call (t := (vFl false).y) rfl rfl Tryz.func137 (fun W M E => p_flag false W), st mo ?_⟩
    show _ = _; rw [ordV, if_neg h4, if_neg h5, if_neg h6, if_neg h7, if_pos h, decide_eq_false (by omega)]; rfl
  refine ⟨fun h => st mo ⟨fun q => st mo ?_, fun q => st mo ?_⟩, fun h9 => st mo ?_⟩
  · refine ⟨_, fun nn => r_call (t := (vFl true).y) rfl rfl Tryz.func137 (fun W M E => p_flag true W), st mo ?_⟩
    show _ = _; rw [ordV, if_neg h4, if_neg h5, if_neg h6, if_neg h7, if_neg h8, if_pos h, decide_eq_true (by omega)]; rfl
  · refine ⟨_, fun nn => r_call (t := (vFl false).y) rfl rfl Tryz.func137 (fun W M E => p_flag false W), st mo ?_⟩
    show _ = _; rw [ordV, if_neg h4, if_neg h5, if_neg h6, if_neg h7, if_neg h8, if_pos h, decide_eq_false (by omega)]; rfl
  refine ⟨_, fun nn => r_call (t := (vBad 2).y) rfl rfl Tryz.func44 (fun W M E => p_bad 2 W), st mo ?_⟩
  show _ = _; rw [ordV, if_neg h4, if_neg h5, if_neg h6, if_neg h7, if_neg h8, if_neg h9]; rfl
set_option maxRecDepth 20000 in
theorem p_ofFlags (op : Int) (f g : Bool) (w : World) : Calls Tryz.prog 140 #[.int .i64 op, .bool f, .bool g] w fun r W => r = .returned (opF op f g).v ∧ Mb w W := by
  cases f <;> cases g
  · refine fn_pure [.int .i64 op, litF, litF] Tryz.func140 rfl rfl rfl (run_ok (st mo ⟨fun h => st mo ?_, fun h1 => st mo ⟨fun h => st mo ?_, fun h2 => st mo ?_⟩⟩))
    · refine ⟨_, fun nn => r_call (t := (vFl false).y) rfl rfl Tryz.func137 (fun W M E => p_flag false W), st mo ?_⟩
      show _ = _; rw [opF, if_pos h]; rfl
    · refine ⟨_, fun nn => r_call (t := (vFl false).y) rfl rfl Tryz.func137 (fun W M E => p_flag false W), st mo ?_⟩
      show _ = _; rw [opF, if_neg h1, if_pos h]; rfl
    · refine ⟨_, fun nn => r_call (t := (vBad 2).y) rfl rfl Tryz.func44 (fun W M E => p_bad 2 W), st mo ?_⟩
      show _ = _; rw [opF, if_neg h1, if_neg h2]; rfl
  · refine fn_pure [.int .i64 op, litF, litT] Tryz.func140 rfl rfl rfl (run_ok (st mo ⟨fun h => st mo ?_, fun h1 => st mo ⟨fun h => st mo ?_, fun h2 => st mo ?_⟩⟩))
    · refine ⟨_, fun nn => r_call (t := (vFl false).y) rfl rfl Tryz.func137 (fun W M E => p_flag false W), st mo ?_⟩
      show _ = _; rw [opF, if_pos h]; rfl
    · refine ⟨_, fun nn => r_call (t := (vFl true).y) rfl rfl Tryz.func137 (fun W M E => p_flag true W), st mo ?_⟩
      show _ = _; rw [opF, if_neg h1, if_pos h]; rfl
    · refine ⟨_, fun nn => r_call (t := (vBad 2).y) rfl rfl Tryz.func44 (fun W M E => p_bad 2 W), st mo ?_⟩
      show _ = _; rw [opF, if_neg h1, if_neg h2]; rfl
  · refine fn_pure [.int .i64 op, litT, litF] Tryz.func140 rfl rfl rfl (run_ok (st mo ⟨fun h => st mo ?_, fun h1 => st mo ⟨fun h => st mo ?_, fun h2 => st mo ?_⟩⟩))
    · refine ⟨_, fun nn => r_call (t := (vFl false).y) rfl rfl Tryz.func137 (fun W M E => p_flag false W), st mo ?_⟩
      show _ = _; rw [opF, if_pos h]; rfl
    · refine ⟨_, fun nn => r_call (t := (vFl true).y) rfl rfl Tryz.func137 (fun W M E => p_flag true W), st mo ?_⟩
      show _ = _; rw [opF, if_neg h1, if_pos h]; rfl
    · refine ⟨_, fun nn => r_call (t := (vBad 2).y) rfl rfl Tryz.func44 (fun W M E => p_bad 2 W), st mo ?_⟩
      show _ = _; rw [opF, if_neg h1, if_neg h2]; rfl
  · refine fn_pure [.int .i64 op, litT, litT] Tryz.func140 rfl rfl rfl (run_ok (st mo ⟨fun h => st mo ?_, fun h1 => st mo ⟨fun h => st mo ?_, fun h2 => st mo ?_⟩⟩))
    · refine ⟨_, fun nn => r_call (t := (vFl true).y) rfl rfl Tryz.func137 (fun W M E => p_flag true W), st mo ?_⟩
      show _ = _; rw [opF, if_pos h]; rfl
    · refine ⟨_, fun nn => r_call (t := (vFl true).y) rfl rfl Tryz.func137 (fun W M E => p_flag true W), st mo ?_⟩
      show _ = _; rw [opF, if_neg h1, if_pos h]; rfl
    · refine ⟨_, fun nn => r_call (t := (vBad 2).y) rfl rfl Tryz.func44 (fun W M E => p_bad 2 W), st mo ?_⟩
      show _ = _; rw [opF, if_neg h1, if_neg h2]; rfl
theorem r_min {w0 : B0} {X : World} {o : Oper} {fr : FT} {h : HT} {n : Nat} {y z : Operand} {ts : Array TypeId} (a b : Int) (ho : o.op = .call { callee := .builtin .min, args := #[y, z], argTypes := ts } := by rfl) (hy : den2 (evo fr y) = .int .i64 a := by rfl) (hz : den2 (evo fr z) = .int .i64 b := by rfl) (hpy : pur2 (evo fr y) = true := by rfl) (hpz : pur2 (evo fr z) = true := by rfl) : Oa (Am w0 X) Tryz.prog o fr h n ⟨.int .i64 (min a b), h, n, 0, 0⟩ := by
  refine Oa.val fun k W ac hA hop => ⟨.int .i64 (min a b), pur_vx rfl, ?_⟩
  have h1 := pur2_eq (hop y (by rw [ho]; simp [Op.operands, Call.operands])) hpy
  have h2 := pur2_eq (hop z (by rw [ho]; simp [Op.operands, Call.operands])) hpz
  rw [hy] at h1
  rw [hz] at h2
  by_cases hb : a ≤ b
  · rw [show min a b = a by omega]
    simp [execOp, ho, resolve, invoke, builtin, h1, h2, Builtin.min_, Builtin.min2, show ¬ b < a by omega]
  · rw [show min a b = b by omega]
    simp [execOp, ho, resolve, invoke, builtin, h1, h2, Builtin.min_, Builtin.min2, show b < a by omega]
set_option maxRecDepth 20000 in
theorem d_op (op : Int) (b : Bool) (n s : Int) (c : Bool) (m t : Int) (w : World) (hn0 : 0 ≤ n) (hn : n < MM) (hm0 : 0 ≤ m) (hm : m < MM) (h1 : ck b n s = 0) (h2 : ck c m t = 0) : Calls Tryz.prog 139 #[.int .i64 op, dc b n s, dc c m t] w fun r W => r = .returned (opN op b n s c m t).v ∧ Mb w W := by
  refine fn_pure [.int .i64 op, dc b n s, dc c m t] Tryz.func139 rfl rfl rfl (run_ok (st mo ?_))
  refine ⟨fun h => st mo ?_, fun q1 => st mo ⟨fun h => st mo ?_, fun q2 => st mo ⟨fun h => st mo ?_, fun q3 => st mo ?_⟩⟩⟩
  · refine ⟨_, fun nn => r_call (t := (addR b n s c m t).y) rfl rfl Tryz.func169 (fun W M E => p_add b n s c m t ⟨hn0, hn⟩ ⟨hm0, hm⟩ h1 h2 W), st mo ?_⟩
    refine ⟨_, fun nn => r_call (t := (numV (addR b n s c m t)).y) rfl rfl Tryz.func114 (fun W M E => p_num (addR b n s c m t) W), st mo ?_⟩
    show _ = _; rw [opN, if_pos h]; rfl
  · refine ⟨_, fun nn => r_call (t := (subR b n s c m t).y) rfl rfl Tryz.func170 (fun W M E => p_sub b n s c m t ⟨hn0, hn⟩ ⟨hm0, hm⟩ h1 h2 W), st mo ?_⟩
    refine ⟨_, fun nn => r_call (t := (numV (subR b n s c m t)).y) rfl rfl Tryz.func114 (fun W M E => p_num (subR b n s c m t) W), st mo ?_⟩
    show _ = _; rw [opN, if_neg q1, if_pos h]; rfl
  · have a1 := sc_iff.1 (ck_s h1)
    have a2 := sc_iff.1 (ck_s h2)
    refine ⟨_, wi (by omega), st mo ⟨_, fun nn => r_min (s + t) 18, st mo ?_⟩⟩
    refine ⟨_, fun nn => r_call (t := (mulR b n s c m t).y) rfl rfl Tryz.func158 (fun W M E => d_mul b n s c m t W ⟨hn0, hn⟩ ⟨hm0, hm⟩ h1 h2), st mo ?_⟩
    refine ⟨_, fun nn => r_call (t := (numV (mulR b n s c m t)).y) rfl rfl Tryz.func114 (fun W M E => p_num (mulR b n s c m t) W), st mo ?_⟩
    show _ = _; rw [opN, if_neg q1, if_neg q2, if_pos h]; rfl
  · refine ⟨_, fun nn => r_call (t := .int .i64 (cmpR b n s c m t)) rfl rfl Tryz.func172 (fun W M E => p_dcmp b n s c m t ⟨hn0, hn⟩ ⟨hm0, hm⟩ h1 h2 W), st mo ?_⟩
    refine ⟨_, fun nn => r_call (t := (ordV op (cmpR b n s c m t)).y) rfl rfl Tryz.func171 (fun W M E => p_ofOrder op (cmpR b n s c m t) W), st mo ?_⟩
    show _ = _; rw [opN, if_neg q1, if_neg q2, if_neg q3]; rfl
theorem ask2_0 {x y : VL} (h : ask2 x y = 0) : ask x = 0 ∧ ask y = 0 := by
  unfold ask2 at h
  split at h
  next q => exact ⟨q, h⟩
  next q => exact absurd h q
theorem askK_0 {k : Int} {x : VL} (h : askK k x = 0) : ask x = 0 ∧ x.k = k := by
  unfold askK at h
  split at h
  next q =>
    split at h
    next r => exact ⟨q, r⟩
    next => cases h
  next q => exact absurd h q
theorem num_of {x : VL} (hx : x.ok) (h : ask x = 0) (k : x.k = 1) : ck x.b x.n x.s = 0 := (ckv_num hx (ask_0 hx h).1 k).2
set_option maxRecDepth 20000 in
theorem p_op (op : Int) (x y : VL) (hx : x.ok) (hy : y.ok) (w : World) : Calls Tryz.prog 94 #[.int .i64 op, x.v, y.v] w fun r W => r = .returned (opV op x y).v ∧ Mb w W := by
  refine fn_pure [.int .i64 op, x.y, y.y] Tryz.func94 rfl rfl rfl (run_ok (st mo ?_))
  refine ⟨_, fun nn => r_c (tc := .int .i64 (ask2 x y)) [3] [some ((x.cells ++ y.cells).map rel1)] [] rfl rfl (p_fault2 w x y hx hy) (by exact fitL_cons fs rfl) ⟨flr rfl, trivial⟩ uv ⟨ulr rfl, trivial⟩, st mo ?_⟩
  refine ⟨fun h => st mo ?_, fun h => st mo ⟨fun hk => st mo ?_, fun hk => st mo ⟨fun h1 => st mo ?_, fun h1 => st mo ⟨fun h4 => st mo ?_, fun h4 => st mo ⟨fun h5 => st mo ?_, fun h5 => st mo ⟨fun h2 => st mo ?_, fun h2 => st mo ?_⟩⟩⟩⟩⟩⟩
  · refine ⟨_, fun nn => r_call (t := (vBad (ask2 x y)).y) rfl rfl Tryz.func44 (fun W M E => p_bad (ask2 x y) W), st mo ?_⟩
    show _ = _; rw [opV, if_neg h]; rfl
  · refine ⟨_, fun nn => r_call (t := (vBad 2).y) rfl rfl Tryz.func44 (fun W M E => p_bad 2 W), st mo ?_⟩
    show _ = _; rw [opV, if_pos h, if_neg hk]; rfl
  · refine ⟨_, fun nn => r_call (t := (opN op x.b x.n x.s y.b y.n y.s).y) rfl rfl Tryz.func139 (fun W M E => d_op op x.b x.n x.s y.b y.n y.s W hx.1 hx.2 hy.1 hy.2 (num_of hx (ask2_0 h).1 h1) (num_of hy (ask2_0 h).2 (by rw [← hk]; exact h1))), st mo ?_⟩
    show _ = _; rw [opV, if_pos h, if_pos hk, if_pos h1]; rfl
  · refine ⟨_, r_eqV x y, fun q => st mo ?_, fun q => st mo ?_⟩
    · refine ⟨_, fun nn => r_call (t := (vFl true).y) rfl rfl Tryz.func137 (fun W M E => p_flag true W), st mo ?_⟩
      show _ = _; rw [opV, if_pos h, if_pos hk, if_neg h1, if_pos h4, q]; rfl
    · refine ⟨_, fun nn => r_call (t := (vFl false).y) rfl rfl Tryz.func137 (fun W M E => p_flag false W), st mo ?_⟩
      show _ = _; rw [opV, if_pos h, if_pos hk, if_neg h1, if_pos h4, q]; rfl
  · refine ⟨_, r_neV x y, fun q => st mo ?_, fun q => st mo ?_⟩
    · refine ⟨_, fun nn => r_call (t := (vFl true).y) rfl rfl Tryz.func137 (fun W M E => p_flag true W), st mo ?_⟩
      show _ = _; rw [opV, if_pos h, if_pos hk, if_neg h1, if_neg h4, if_pos h5, q]; rfl
    · refine ⟨_, fun nn => r_call (t := (vFl false).y) rfl rfl Tryz.func137 (fun W M E => p_flag false W), st mo ?_⟩
      show _ = _; rw [opV, if_pos h, if_pos hk, if_neg h1, if_neg h4, if_pos h5, q]; rfl
  · refine ⟨_, fun nn => r_call (t := (opF op x.f y.f).y) rfl rfl Tryz.func140 (fun W M E => p_ofFlags op x.f y.f W), st mo ?_⟩
    show _ = _; rw [opV, if_pos h, if_pos hk, if_neg h1, if_neg h4, if_neg h5, if_pos h2]; rfl
  · refine ⟨_, fun nn => r_call (t := (vBad 2).y) rfl rfl Tryz.func44 (fun W M E => p_bad 2 W), st mo ?_⟩
    show _ = _; rw [opV, if_pos h, if_pos hk, if_neg h1, if_neg h4, if_neg h5, if_neg h2]; rfl
set_option maxRecDepth 20000 in
theorem p_neg (x : VL) (hx : x.ok) (w : World) : Calls Tryz.prog 92 #[x.v] w fun r W => r = .returned (negV x).v ∧ Mb w W := by
  refine fn_pure [x.y] Tryz.func92 rfl rfl rfl (run_ok (st mo ?_))
  refine ⟨_, fun nn => r_call (t := .int .i64 (askK 1 x)) rfl rfl Tryz.func113 (fun W M E => p_faultFor 1 x hx W), st mo ?_⟩
  refine ⟨fun h => st mo ?_, fun h => st mo ?_⟩
  · refine ⟨_, fun nn => r_call (t := (vBad (askK 1 x)).y) rfl rfl Tryz.func44 (fun W M E => p_bad (askK 1 x) W), st mo ?_⟩
    show _ = _; rw [negV, if_neg h]; rfl
  · refine ⟨_, fun nn => r_call (t := (negR x.b x.n x.s).y) rfl rfl Tryz.func136 (fun W M E => p_dneg x.b x.n x.s hx (num_of hx (askK_0 h).1 (askK_0 h).2) W), st mo ?_⟩
    refine ⟨_, fun nn => r_call (t := (numV (negR x.b x.n x.s)).y) rfl rfl Tryz.func114 (fun W M E => p_num (negR x.b x.n x.s) W), st mo ?_⟩
    show _ = _; rw [negV, if_pos h]; rfl
set_option maxRecDepth 20000 in
theorem p_not (x : VL) (hx : x.ok) (w : World) : Calls Tryz.prog 93 #[x.v] w fun r W => r = .returned (notV x).v ∧ Mb w W := by
  refine fn_pure [x.y] Tryz.func93 rfl rfl rfl (run_ok (st mo ?_))
  refine ⟨_, fun nn => r_call (t := .int .i64 (askK 2 x)) rfl rfl Tryz.func113 (fun W M E => p_faultFor 2 x hx W), st mo ?_⟩
  refine ⟨fun h => st mo ?_, fun h => st mo ?_⟩
  · refine ⟨_, fun nn => r_call (t := (vBad (askK 2 x)).y) rfl rfl Tryz.func44 (fun W M E => p_bad (askK 2 x) W), st mo ?_⟩
    show _ = _; rw [notV, if_neg h]; rfl
  · refine ⟨_, fun nn => r_call (t := (vFl (!x.f)).y) rfl rfl Tryz.func137 (fun W M E => p_flag (!x.f) W), st mo ?_⟩
    show _ = _; rw [notV, if_pos h]; rfl
set_option maxRecDepth 20000 in
theorem p_if (c x y : VL) (hc : c.ok) (hx : x.ok) (hy : y.ok) (w : World) : Calls Tryz.prog 95 #[c.v, x.v, y.v] w fun r W => r = .returned (ifV c x y).v ∧ Mb w W := by
  refine fn_pure [c.y, x.y, y.y] Tryz.func95 rfl rfl rfl (run_ok (st mo ?_))
  refine ⟨_, fun nn => r_call (t := .int .i64 (askK 2 c)) rfl rfl Tryz.func113 (fun W M E => p_faultFor 2 c hc W), st mo ?_⟩
  refine ⟨fun h => st mo ?_, fun h => st mo ⟨fun hf => st mo ?_, fun hf => st mo ?_⟩⟩
  · refine ⟨_, fun nn => r_call (t := (vBad (askK 2 c)).y) rfl rfl Tryz.func44 (fun W M E => p_bad (askK 2 c) W), st mo ?_⟩
    show _ = _; rw [ifV, if_neg h]; rfl
  · refine ⟨_, fun nn => r_call (t := .int .i64 (ckI x)) rfl rfl Tryz.func77 (fun W M E => p_check x hx W), st mo ⟨fun q => st mo ?_, fun q => st mo ?_⟩⟩
    · refine ⟨_, fun nn => r_call (t := (vBad 2).y) rfl rfl Tryz.func44 (fun W M E => p_bad 2 W), st mo ?_⟩
      show _ = _; rw [ifV, if_pos h, hf, if_pos rfl, mayV, ckI_1 q]; rfl
    · show _ = _; rw [ifV, if_pos h, hf, if_pos rfl, mayV, ckI_0 q]; rfl
  · refine ⟨_, fun nn => r_call (t := .int .i64 (ckI y)) rfl rfl Tryz.func77 (fun W M E => p_check y hy W), st mo ⟨fun q => st mo ?_, fun q => st mo ?_⟩⟩
    · refine ⟨_, fun nn => r_call (t := (vBad 2).y) rfl rfl Tryz.func44 (fun W M E => p_bad 2 W), st mo ?_⟩
      show _ = _; rw [ifV, if_pos h, hf, if_neg (by decide), mayV, ckI_1 q]; rfl
    · show _ = _; rw [ifV, if_pos h, hf, if_neg (by decide), mayV, ckI_0 q]; rfl
set_option maxRecDepth 20000 in
theorem p_round (x : VL) (hx : x.ok) (s p : Int) (w : World) : Calls Tryz.prog 78 #[x.v, .int .i64 s, .int .i64 p] w fun r W => r = .returned (rndV x s p).v ∧ Mb w W := by
  refine fn_pure [x.y, .int .i64 s, .int .i64 p] Tryz.func78 rfl rfl rfl (run_ok (st mo ?_))
  refine ⟨_, fun nn => r_call (t := .int .i64 (askK 1 x)) rfl rfl Tryz.func113 (fun W M E => p_faultFor 1 x hx W), st mo ?_⟩
  refine ⟨fun h => st mo ?_, fun h => st mo ?_⟩
  · refine ⟨_, fun nn => r_call (t := (vBad (askK 1 x)).y) rfl rfl Tryz.func44 (fun W M E => p_bad (askK 1 x) W), st mo ?_⟩
    show _ = _; rw [rndV, if_neg h]; rfl
  · refine ⟨_, fun nn => r_call (t := (rndR x.b x.n x.s s p).y) rfl rfl Tryz.func115 (fun W M E => p_resc x.b x.n x.s s p hx (num_of hx (askK_0 h).1 (askK_0 h).2) W), st mo ?_⟩
    refine ⟨_, fun nn => r_call (t := (numV (rndR x.b x.n x.s s p)).y) rfl rfl Tryz.func114 (fun W M E => p_num (rndR x.b x.n x.s s p) W), st mo ?_⟩
    show _ = _; rw [rndV, if_pos h]; rfl
set_option maxRecDepth 20000 in
theorem p_blank (x : VL) (hx : x.ok) (w : World) : Calls Tryz.prog 97 #[x.v] w fun r W => r = .returned (blkV x).v ∧ Mb w W := by
  refine fn_pure [x.y] Tryz.func97 rfl rfl rfl (run_ok (st mo ?_))
  refine ⟨_, fun nn => r_call (t := .int .i64 (ckI x)) rfl rfl Tryz.func77 (fun W M E => p_check x hx W), st mo ⟨fun q => st mo ?_, fun q => st mo ⟨fun h => st mo ?_, fun h => st mo ⟨fun h0 => st mo ?_, fun h0 => st mo ?_⟩⟩⟩⟩
  · refine ⟨_, fun nn => r_call (t := (vBad 2).y) rfl rfl Tryz.func44 (fun W M E => p_bad 2 W), st mo ?_⟩
    show _ = _; rw [blkV, ckI_1 q]; rfl
  · show _ = _; rw [blkV, if_pos (ckI_0 q), if_pos h]; rfl
  · refine ⟨_, fun nn => r_call (t := (vFl true).y) rfl rfl Tryz.func137 (fun W M E => p_flag true W), st mo ?_⟩
    show _ = _; rw [blkV, if_pos (ckI_0 q), if_neg h, decide_eq_true h0]; rfl
  · refine ⟨_, fun nn => r_call (t := (vFl false).y) rfl rfl Tryz.func137 (fun W M E => p_flag false W), st mo ?_⟩
    show _ = _; rw [blkV, if_pos (ckI_0 q), if_neg h, decide_eq_false h0]; rfl
end Go.Proofs.YtfmfeipeeedfpaaGreat
namespace Go.Proofs.YtfmfeipeeedfpaaGreat
open S
abbrev dcs (b : Bool) (n s : Int) : List Value := [.bool b, .int .u64 (l0 n), .int .u64 (l1 n), .int .u64 (l2 n), .int .u64 (l3 n), .int .i64 s]
def sb (a : Int) : Int := IntKind.u64.wrap ((BitVec.ofInt IntKind.u64.bits a &&& BitVec.ofInt IntKind.u64.bits 9223372036854775808).toNat : Int)
def nrD (a0 a1 a2 a3 a4 s : Int) : DR := if s < 0 ∨ 18 < s then ⟨false, 0, 0, 1⟩ else if sb a4 = 0 then (if a4 = 0 then ⟨false, vl a0 a1 a2 a3, s, 0⟩ else ⟨false, 0, 0, 7⟩)
  else (if m4 a0 a1 a2 a3 a4 = 0 then ⟨true, vl (m0 a0) (m1 a0 a1) (m2 a0 a1 a2) (m3 a0 a1 a2 a3), s, 0⟩ else ⟨false, 0, 0, 7⟩)
set_option maxRecDepth 20000 in
theorem p_narrow (a0 a1 a2 a3 a4 s : Int) (w : World) (ha0 : 0 ≤ a0 ∧ a0 < M64) (ha1 : 0 ≤ a1 ∧ a1 < M64) (ha2 : 0 ≤ a2 ∧ a2 < M64) (ha3 : 0 ≤ a3 ∧ a3 < M64) (ha4 : 0 ≤ a4 ∧ a4 < M64) :
    Calls Tryz.prog 215 #[.agg (wd a0 a1 a2 a3 a4).toArray, .int .i64 s] w fun r W => r = .returned (nrD a0 a1 a2 a3 a4 s).v ∧ Mb w W := by
  refine fn_pure [.agg (wd a0 a1 a2 a3 a4).toArray, .int .i64 s] Tryz.func215 rfl rfl rfl (run_ok (st mo ?_))
  refine ⟨fun h => st mo ?_, fun h => st mo ⟨fun h2 => st mo ?_, fun h2 => st mo ?_⟩⟩
  · show _ = _; rw [nrD, if_pos (by omega)]; rfl
  · show _ = _; rw [nrD, if_pos (by omega)]; rfl
  · refine ⟨sb a4, rfl, st mo ⟨fun q => st mo ?_, fun q => st mo ?_⟩⟩
    · refine ⟨_, fun nn => r_call (t := .agg (wd (m0 a0) (m1 a0 a1) (m2 a0 a1 a2) (m3 a0 a1 a2 a3) (m4 a0 a1 a2 a3 a4)).toArray) rfl rfl Tryz.func227 (fun W M E => p_minus a0 a1 a2 a3 a4 W ha0 ha1 ha2 ha3 ha4), st mo ⟨fun z => st mo ?_, fun z => st mo ?_⟩⟩
      · show _ = _; rw [nrD, if_neg (by omega), if_neg q, if_neg z]; rfl
      · have um : U4 (m0 a0) (m1 a0 a1) (m2 a0 a1 a2) (m3 a0 a1 a2 a3) := ⟨ad_b _ _ _, ad_b _ _ _, ad_b _ _ _, ad_b _ _ _⟩
        refine S.w_loop (fun i : Nat => ⟨⟨Tryz.f215.ntmps, [(2, .pointer (some ⟨0, 0, none⟩)), (4, .pointer (some ⟨1, 0, none⟩)), (7, .pointer (some ⟨2, 0, none⟩)), (30, .int .i64 (i : Int))]⟩, [(0, some ((wd (m0 a0) (m1 a0 a1) (m2 a0 a1 a2) (m3 a0 a1 a2 a3) (m4 a0 a1 a2 a3 a4)).map rel1)), (1, some ((dcs false 0 0).map rel1)), (2, some [litT, .int .u64 (sw i 0 (m0 a0)), .int .u64 (sw i 1 (m1 a0 a1)), .int .u64 (sw i 2 (m2 a0 a1 a2)), .int .u64 (sw i 3 (m3 a0 a1 a2 a3)), .int .i64 s])], 3, w⟩) (fun i => i ≤ 4) (fun i => 4 - i) 0 (by omega) [0, 1, 2] ⟨rfl, ⟨fp, fp, fp, fv, trivial⟩, ⟨flr rfl, flr rfl, fl rfl rfl, trivial⟩, xf, rfl, rfl⟩ ?_
        intro i hi
        rcases i with _ | i
        · refine st mo ⟨fun _ => st mo ⟨0, rfl, by decide, st mo ⟨.int .u64 (m0 a0), rfl, st mo ⟨0, rfl, by decide, st mo ⟨Nat.le_of_ble_eq_true rfl, [litT, .int .u64 (sw 1 0 (m0 a0)), .int .u64 (sw 1 1 (m1 a0 a1)), .int .u64 (sw 1 2 (m2 a0 a1 a2)), .int .u64 (sw 1 3 (m3 a0 a1 a2 a3)), .int .i64 s], rfl, st mo ?_⟩⟩⟩⟩, fun h => absurd h (by omega)⟩
          refine ⟨_, wz 1 rfl, st mo ?_⟩
          exact ⟨1, by omega, by decide, [0, 1, 2], rfl, ⟨fp, fp, fp, fv, trivial⟩, ⟨flr rfl, flr rfl, fl rfl rfl, trivial⟩, xf, rfl, rfl⟩
        rcases i with _ | i
        · refine st mo ⟨fun _ => st mo ⟨1, rfl, by decide, st mo ⟨.int .u64 (m1 a0 a1), rfl, st mo ⟨1, rfl, by decide, st mo ⟨Nat.le_of_ble_eq_true rfl, [litT, .int .u64 (sw 2 0 (m0 a0)), .int .u64 (sw 2 1 (m1 a0 a1)), .int .u64 (sw 2 2 (m2 a0 a1 a2)), .int .u64 (sw 2 3 (m3 a0 a1 a2 a3)), .int .i64 s], rfl, st mo ?_⟩⟩⟩⟩, fun h => absurd h (by omega)⟩
          refine ⟨_, wz 2 rfl, st mo ?_⟩
          exact ⟨2, by omega, by decide, [0, 1, 2], rfl, ⟨fp, fp, fp, fv, trivial⟩, ⟨flr rfl, flr rfl, fl rfl rfl, trivial⟩, xf, rfl, rfl⟩
        rcases i with _ | i
        · refine st mo ⟨fun _ => st mo ⟨2, rfl, by decide, st mo ⟨.int .u64 (m2 a0 a1 a2), rfl, st mo ⟨2, rfl, by decide, st mo ⟨Nat.le_of_ble_eq_true rfl, [litT, .int .u64 (sw 3 0 (m0 a0)), .int .u64 (sw 3 1 (m1 a0 a1)), .int .u64 (sw 3 2 (m2 a0 a1 a2)), .int .u64 (sw 3 3 (m3 a0 a1 a2 a3)), .int .i64 s], rfl, st mo ?_⟩⟩⟩⟩, fun h => absurd h (by omega)⟩
          refine ⟨_, wz 3 rfl, st mo ?_⟩
          exact ⟨3, by omega, by decide, [0, 1, 2], rfl, ⟨fp, fp, fp, fv, trivial⟩, ⟨flr rfl, flr rfl, fl rfl rfl, trivial⟩, xf, rfl, rfl⟩
        rcases i with _ | i
        · refine st mo ⟨fun _ => st mo ⟨3, rfl, by decide, st mo ⟨.int .u64 (m3 a0 a1 a2 a3), rfl, st mo ⟨3, rfl, by decide, st mo ⟨Nat.le_of_ble_eq_true rfl, [litT, .int .u64 (sw 4 0 (m0 a0)), .int .u64 (sw 4 1 (m1 a0 a1)), .int .u64 (sw 4 2 (m2 a0 a1 a2)), .int .u64 (sw 4 3 (m3 a0 a1 a2 a3)), .int .i64 s], rfl, st mo ?_⟩⟩⟩⟩, fun h => absurd h (by omega)⟩
          refine ⟨_, wz 4 rfl, st mo ?_⟩
          exact ⟨4, by omega, by decide, [0, 1, 2], rfl, ⟨fp, fp, fp, fv, trivial⟩, ⟨flr rfl, flr rfl, fl rfl rfl, trivial⟩, xf, rfl, rfl⟩
        obtain rfl : i = 0 := by omega
        refine st mo ⟨fun h => absurd h (by omega), fun _ => st mo (st mo ?_)⟩
        show _ = _; rw [nrD, if_neg (by omega), if_neg q, if_pos z]; simp only [DR.v, dc, l0_vl um, l1_vl um, l2_vl um, l3_vl um]; rfl
    · refine ⟨fun z => st mo ?_, fun z => st mo ?_⟩
      · show _ = _; rw [nrD, if_neg (by omega), if_pos q, if_neg z]; rfl
      · have ua : U4 a0 a1 a2 a3 := ⟨ha0, ha1, ha2, ha3⟩
        refine S.w_loop (fun i : Nat => ⟨⟨Tryz.f215.ntmps, [(2, .pointer (some ⟨0, 0, none⟩)), (4, .pointer (some ⟨1, 0, none⟩)), (7, .pointer (some ⟨2, 0, none⟩)), (30, .int .i64 (i : Int))]⟩, [(0, some ((wd (a0) (a1) (a2) (a3) (a4)).map rel1)), (1, some ((dcs false 0 0).map rel1)), (2, some [litF, .int .u64 (sw i 0 (a0)), .int .u64 (sw i 1 (a1)), .int .u64 (sw i 2 (a2)), .int .u64 (sw i 3 (a3)), .int .i64 s])], 3, w⟩) (fun i => i ≤ 4) (fun i => 4 - i) 0 (by omega) [0, 1, 2] ⟨rfl, ⟨fp, fp, fp, fv, trivial⟩, ⟨flr rfl, flr rfl, fl rfl rfl, trivial⟩, xf, rfl, rfl⟩ ?_
        intro i hi
        rcases i with _ | i
        · refine st mo ⟨fun _ => st mo ⟨0, rfl, by decide, st mo ⟨.int .u64 (a0), rfl, st mo ⟨0, rfl, by decide, st mo ⟨Nat.le_of_ble_eq_true rfl, [litF, .int .u64 (sw 1 0 (a0)), .int .u64 (sw 1 1 (a1)), .int .u64 (sw 1 2 (a2)), .int .u64 (sw 1 3 (a3)), .int .i64 s], rfl, st mo ?_⟩⟩⟩⟩, fun h => absurd h (by omega)⟩
          refine ⟨_, wz 1 rfl, st mo ?_⟩
          exact ⟨1, by omega, by decide, [0, 1, 2], rfl, ⟨fp, fp, fp, fv, trivial⟩, ⟨flr rfl, flr rfl, fl rfl rfl, trivial⟩, xf, rfl, rfl⟩
        rcases i with _ | i
        · refine st mo ⟨fun _ => st mo ⟨1, rfl, by decide, st mo ⟨.int .u64 (a1), rfl, st mo ⟨1, rfl, by decide, st mo ⟨Nat.le_of_ble_eq_true rfl, [litF, .int .u64 (sw 2 0 (a0)), .int .u64 (sw 2 1 (a1)), .int .u64 (sw 2 2 (a2)), .int .u64 (sw 2 3 (a3)), .int .i64 s], rfl, st mo ?_⟩⟩⟩⟩, fun h => absurd h (by omega)⟩
          refine ⟨_, wz 2 rfl, st mo ?_⟩
          exact ⟨2, by omega, by decide, [0, 1, 2], rfl, ⟨fp, fp, fp, fv, trivial⟩, ⟨flr rfl, flr rfl, fl rfl rfl, trivial⟩, xf, rfl, rfl⟩
        rcases i with _ | i
        · refine st mo ⟨fun _ => st mo ⟨2, rfl, by decide, st mo ⟨.int .u64 (a2), rfl, st mo ⟨2, rfl, by decide, st mo ⟨Nat.le_of_ble_eq_true rfl, [litF, .int .u64 (sw 3 0 (a0)), .int .u64 (sw 3 1 (a1)), .int .u64 (sw 3 2 (a2)), .int .u64 (sw 3 3 (a3)), .int .i64 s], rfl, st mo ?_⟩⟩⟩⟩, fun h => absurd h (by omega)⟩
          refine ⟨_, wz 3 rfl, st mo ?_⟩
          exact ⟨3, by omega, by decide, [0, 1, 2], rfl, ⟨fp, fp, fp, fv, trivial⟩, ⟨flr rfl, flr rfl, fl rfl rfl, trivial⟩, xf, rfl, rfl⟩
        rcases i with _ | i
        · refine st mo ⟨fun _ => st mo ⟨3, rfl, by decide, st mo ⟨.int .u64 (a3), rfl, st mo ⟨3, rfl, by decide, st mo ⟨Nat.le_of_ble_eq_true rfl, [litF, .int .u64 (sw 4 0 (a0)), .int .u64 (sw 4 1 (a1)), .int .u64 (sw 4 2 (a2)), .int .u64 (sw 4 3 (a3)), .int .i64 s], rfl, st mo ?_⟩⟩⟩⟩, fun h => absurd h (by omega)⟩
          refine ⟨_, wz 4 rfl, st mo ?_⟩
          exact ⟨4, by omega, by decide, [0, 1, 2], rfl, ⟨fp, fp, fp, fv, trivial⟩, ⟨flr rfl, flr rfl, fl rfl rfl, trivial⟩, xf, rfl, rfl⟩
        obtain rfl : i = 0 := by omega
        refine st mo ⟨fun h => absurd h (by omega), fun _ => st mo (st mo ?_)⟩
        show _ = _; rw [nrD, if_neg (by omega), if_pos q, if_pos z]; simp only [DR.v, dc, l0_vl ua, l1_vl ua, l2_vl ua, l3_vl ua]; rfl
/-- A column's summary. -/
structure SM where
  ro : Int
  fi : Int
  bl : Int
  bd : Int
  er : Int
  t0 : Int
  t1 : Int
  t2 : Int
  t3 : Int
  t4 : Int
  so : Bool
  nb : Bool
  nn : Int
  ns : Int
  xb : Bool
  xn : Int
  xs : Int
def SM.cells (m : SM) : List Value := [.int .i64 m.ro, .int .i64 m.fi, .int .i64 m.bl, .int .i64 m.bd, .int .i64 m.er, .int .u64 m.t0, .int .u64 m.t1, .int .u64 m.t2, .int .u64 m.t3, .int .u64 m.t4, .bool m.so, .bool m.nb, .int .u64 (l0 m.nn), .int .u64 (l1 m.nn), .int .u64 (l2 m.nn), .int .u64 (l3 m.nn), .int .i64 m.ns, .bool m.xb, .int .u64 (l0 m.xn), .int .u64 (l1 m.xn), .int .u64 (l2 m.xn), .int .u64 (l3 m.xn), .int .i64 m.xs]
abbrev SM.v (m : SM) : Value := .agg m.cells.toArray
abbrev SM.y (m : SM) : Value := .agg (m.cells.map rel1).toArray
structure SM.ok (m : SM) : Prop where
  ro : -9223372036854775808 ≤ m.ro ∧ m.ro < 9223372036854775808
  fi : -9223372036854775808 ≤ m.fi ∧ m.fi < 9223372036854775808
  t0 : 0 ≤ m.t0 ∧ m.t0 < M64
  t1 : 0 ≤ m.t1 ∧ m.t1 < M64
  t2 : 0 ≤ m.t2 ∧ m.t2 < M64
  t3 : 0 ≤ m.t3 ∧ m.t3 < M64
  t4 : 0 ≤ m.t4 ∧ m.t4 < M64
  nn : 0 ≤ m.nn ∧ m.nn < MM
  xn : 0 ≤ m.xn ∧ m.xn < MM
def cntV (n : Int) : VL := vNu (decide (n < 0)) (ab n) 0
def nrV (m : SM) (s : Int) : DR := nrD m.t0 m.t1 m.t2 m.t3 m.t4 s
def totV (m : SM) (s : Int) : VL := if (nrV m s).e = 0 then vNu (nrV m s).b (nrV m s).n (nrV m s).s else vEr 1
def ofnV (op : Int) (m : SM) (s : Int) : VL := if m.er = 0 then (if op = 12 then totV m s else if m.so then (if op = 14 then vNu m.nb m.nn m.ns else vNu m.xb m.xn m.xs) else vEr 4) else vEr m.er
def agV (op : Int) (m : SM) (s : Int) : VL := if op = 16 then cntV m.ro else if op = 13 then cntV m.fi else if op = 12 ∨ op = 14 ∨ op = 15 then ofnV op m s else vEr 2
set_option maxRecDepth 20000 in
theorem p_snum (b : Bool) (n s : Int) (w : World) : Calls Tryz.prog 176 #[dc b n s] w fun r W => r = .returned (vNu b n s).v ∧ Mb w W :=
  fn_pure [dc b n s] Tryz.func176 rfl rfl rfl (run_ok (st mo rfl))
set_option maxRecDepth 20000 in
theorem p_fail (e : Int) (w : World) : Calls Tryz.prog 144 #[.int .i64 e] w fun r W => r = .returned (vEr e).v ∧ Mb w W :=
  fn_pure [.int .i64 e] Tryz.func144 rfl rfl rfl (run_ok (st mo rfl))
set_option maxRecDepth 20000 in
theorem p_ofInt (n : Int) (hn : -9223372036854775808 ≤ n ∧ n < 9223372036854775808) (w : World) : Calls Tryz.prog 175 #[.int .i64 n, .int .i64 0] w fun r W => r = .returned (.tuple #[dc (decide (n < 0)) (ab n) 0, .int .i64 0]) ∧ Mb w W := by
  refine fn_pure [.int .i64 n, .int .i64 0] Tryz.func175 rfl rfl rfl (run_ok (st mo ?_))
  refine ⟨_, fun nn => r_call (t := litT) rfl rfl Tryz.func184 (fun W M E => p_isSc' rfl W), st mo ?_⟩
  have ha : 0 ≤ ab n ∧ ab n ≤ 9223372036854775808 := by unfold ab; split <;> omega
  have hU : U1 (ab n) := ⟨ha.1, by omega⟩
  have hM : ab n < MM := by unfold MM; omega
  refine ⟨n % 18446744073709551616, IntKind.wrap_u64 n, st mo ⟨fun h => st mo ⟨ab n, ?_, st mo ⟨fun _ => st mo ?_, fun h' => absurd h (by omega)⟩⟩, fun h => st mo ⟨fun h' => absurd h (by omega), fun _ => st mo ?_⟩⟩⟩
  · rw [IntKind.wrap_u64]; unfold ab; rw [if_pos h]; omega
  · refine ⟨_, fun nn => r_call (t := nv (ab n)) rfl rfl Tryz.func159 (fun W M E => p_from (ab n) hU W), st mo ?_⟩
    refine ⟨_, fun nn => r_call (t := dc (decide (n < 0)) (ab n) 0) rfl rfl Tryz.func168 (fun W M E => by
      have q := p_sgnd true (ab n) 0 ⟨ha.1, hM⟩ W
      rw [show (true && !decide (ab n = 0)) = decide (n < 0) by rw [decide_eq_true h, decide_eq_false (by unfold ab; rw [if_pos h]; omega)]; rfl] at q
      exact q), st mo ?_⟩
    rfl
  · have e : n % 18446744073709551616 = ab n := by unfold ab; rw [if_neg (by omega)]; omega
    refine ⟨_, fun nn => r_call (t := nv (ab n)) rfl rfl Tryz.func159 (fun W M E => p_from (ab n) hU W) (by rw [← e]; rfl), st mo ?_⟩
    refine ⟨_, fun nn => r_call (t := dc (decide (n < 0)) (ab n) 0) rfl rfl Tryz.func168 (fun W M E => by
      have q := p_sgnd false (ab n) 0 ⟨ha.1, hM⟩ W
      rw [show (false && !decide (ab n = 0)) = decide (n < 0) by rw [decide_eq_false (show ¬ n < 0 by omega)]; rfl] at q
      exact q), st mo ?_⟩
    rfl
set_option maxRecDepth 20000 in
theorem p_count (n : Int) (hn : -9223372036854775808 ≤ n ∧ n < 9223372036854775808) (w : World) : Calls Tryz.prog 142 #[.int .i64 n] w fun r W => r = .returned (cntV n).v ∧ Mb w W := by
  refine fn_pure [.int .i64 n] Tryz.func142 rfl rfl rfl (run_ok (st mo ?_))
  refine ⟨_, fun nn => r_call (t := .tuple #[dc (decide (n < 0)) (ab n) 0, .int .i64 0]) rfl rfl Tryz.func175 (fun W M E => p_ofInt n hn W), st mo ?_⟩
  refine ⟨_, fun nn => r_call (t := (cntV n).y) rfl rfl Tryz.func176 (fun W M E => p_snum (decide (n < 0)) (ab n) 0 W), st mo ?_⟩
  rfl
set_option maxRecDepth 20000 in
theorem p_Total (m : SM) (hm : m.ok) (s : Int) (w : World) : Calls Tryz.prog 202 #[m.v, .int .i64 s] w fun r W => r = .returned (nrV m s).v ∧ Mb w W := by
  refine fn_pure [m.y, .int .i64 s] Tryz.func202 rfl rfl rfl (run_ok (st mo ?_))
  refine ⟨_, fun nn => r_call (t := (nrV m s).y) rfl rfl Tryz.func215 (fun W M E => p_narrow m.t0 m.t1 m.t2 m.t3 m.t4 s W hm.t0 hm.t1 hm.t2 hm.t3 hm.t4), st mo ?_⟩
  rfl
set_option maxRecDepth 20000 in
theorem p_total (m : SM) (hm : m.ok) (s : Int) (w : World) : Calls Tryz.prog 177 #[m.v, .int .i64 s] w fun r W => r = .returned (totV m s).v ∧ Mb w W := by
  refine fn_pure [m.y, .int .i64 s] Tryz.func177 rfl rfl rfl (run_ok (st mo ?_))
  refine ⟨_, fun nn => r_call (t := (nrV m s).y) rfl rfl Tryz.func202 (fun W M E => p_Total m hm s W), st mo ⟨fun h => st mo ?_, fun h => st mo ?_⟩⟩
  · refine ⟨_, fun nn => r_call (t := (vEr 1).y) rfl rfl Tryz.func144 (fun W M E => p_fail 1 W), st mo ?_⟩
    show _ = _; rw [totV, if_neg h]; rfl
  · refine ⟨_, fun nn => r_call (t := (vNu (nrV m s).b (nrV m s).n (nrV m s).s).y) rfl rfl Tryz.func176 (fun W M E => p_snum (nrV m s).b (nrV m s).n (nrV m s).s W), st mo ?_⟩
    show _ = _; rw [totV, if_pos h]; rfl
set_option maxRecDepth 20000 in
theorem p_ofn (op : Int) (m : SM) (hm : m.ok) (s : Int) (w : World) : Calls Tryz.prog 143 #[.int .i64 op, m.v, .int .i64 s] w fun r W => r = .returned (ofnV op m s).v ∧ Mb w W := by
  refine fn_pure [.int .i64 op, m.y, .int .i64 s] Tryz.func143 rfl rfl rfl (run_ok (st mo ?_))
  refine ⟨fun h => st mo ?_, fun h => st mo ⟨fun h1 => st mo ?_, fun h1 => st mo ?_⟩⟩
  · refine ⟨_, fun nn => r_call (t := (vEr m.er).y) rfl rfl Tryz.func144 (fun W M E => p_fail m.er W), st mo ?_⟩
    show _ = _; rw [ofnV, if_neg h]; rfl
  · refine ⟨_, fun nn => r_call (t := (totV m s).y) rfl rfl Tryz.func177 (fun W M E => p_total m hm s W), st mo ?_⟩
    show _ = _; rw [ofnV, if_pos h, if_pos h1]; rfl
  · refine ⟨fun q => st mo ?_, fun q => st mo ⟨fun h2 => st mo ?_, fun h2 => st mo ?_⟩⟩
    · have q : m.so = false := by cases hs : m.so <;> simp [hs] at q ⊢
      refine ⟨_, fun nn => r_call (t := (vEr 4).y) rfl rfl Tryz.func144 (fun W M E => p_fail 4 W), st mo ?_⟩
      show _ = _; rw [ofnV, if_pos h, if_neg h1, q]; rfl
    · have q : m.so = true := by cases hs : m.so <;> simp [hs] at q ⊢
      refine ⟨_, fun nn => r_call (t := (vNu m.nb m.nn m.ns).y) rfl rfl Tryz.func176 (fun W M E => p_snum m.nb m.nn m.ns W), st mo ?_⟩
      show _ = _; rw [ofnV, if_pos h, if_neg h1, q, if_pos rfl, if_pos h2]; rfl
    · have q : m.so = true := by cases hs : m.so <;> simp [hs] at q ⊢
      refine ⟨_, fun nn => r_call (t := (vNu m.xb m.xn m.xs).y) rfl rfl Tryz.func176 (fun W M E => p_snum m.xb m.xn m.xs W), st mo ?_⟩
      show _ = _; rw [ofnV, if_pos h, if_neg h1, q, if_pos rfl, if_neg h2]; rfl
set_option maxRecDepth 20000 in
theorem p_value (op : Int) (m : SM) (hm : m.ok) (s : Int) (w : World) : Calls Tryz.prog 98 #[.int .i64 op, m.v, .int .i64 s] w fun r W => r = .returned (agV op m s).v ∧ Mb w W := by
  refine fn_pure [.int .i64 op, m.y, .int .i64 s] Tryz.func98 rfl rfl rfl (run_ok (st mo ?_))
  refine ⟨fun h => st mo ?_, fun h => st mo ⟨fun h1 => st mo ?_, fun h1 => st mo ⟨fun h2 => st mo ?_, fun h2 => st mo ⟨fun h3 => st mo ?_, fun h3 => st mo ⟨fun h4 => st mo ?_, fun h4 => st mo ?_⟩⟩⟩⟩⟩
  · refine ⟨_, fun nn => r_call (t := (cntV m.ro).y) rfl rfl Tryz.func142 (fun W M E => p_count m.ro hm.ro W), st mo ?_⟩
    show _ = _; rw [agV, if_pos h]; rfl
  · refine ⟨_, fun nn => r_call (t := (cntV m.fi).y) rfl rfl Tryz.func142 (fun W M E => p_count m.fi hm.fi W), st mo ?_⟩
    show _ = _; rw [agV, if_neg h, if_pos h1]; rfl
  · refine ⟨_, fun nn => r_call (t := (ofnV op m s).y) rfl rfl Tryz.func143 (fun W M E => p_ofn op m hm s W), st mo ?_⟩
    show _ = _; rw [agV, if_neg h, if_neg h1, if_pos (Or.inl h2)]; rfl
  · refine ⟨_, fun nn => r_call (t := (ofnV op m s).y) rfl rfl Tryz.func143 (fun W M E => p_ofn op m hm s W), st mo ?_⟩
    show _ = _; rw [agV, if_neg h, if_neg h1, if_pos (Or.inr (Or.inl h3))]; rfl
  · refine ⟨_, fun nn => r_call (t := (ofnV op m s).y) rfl rfl Tryz.func143 (fun W M E => p_ofn op m hm s W), st mo ?_⟩
    show _ = _; rw [agV, if_neg h, if_neg h1, if_pos (Or.inr (Or.inr h4))]; rfl
  · refine ⟨_, fun nn => r_call (t := (vEr 2).y) rfl rfl Tryz.func144 (fun W M E => p_fail 2 W), st mo ?_⟩
    show _ = _; rw [agV, if_neg h, if_neg h1, if_neg (by omega)]; rfl
end Go.Proofs.YtfmfeipeeedfpaaGreat
namespace Go.Proofs.YtfmfeipeeedfpaaGreat
open S Go.RowKit
/-- A number: its sign, its digits, its scale. -/
structure Dn where
  b : Bool
  n : Int
  s : Int
def Dn.cells (d : Dn) : List Value := [.bool d.b, .int .u64 (l0 d.n), .int .u64 (l1 d.n), .int .u64 (l2 d.n), .int .u64 (l3 d.n), .int .i64 d.s]
abbrev Dn.v (d : Dn) : Value := .agg d.cells.toArray
/-- Its digits have room. -/
def Dn.ok (d : Dn) : Prop := 0 ≤ d.n ∧ d.n < MM
/-- Check's answer. -/
def Dn.er (d : Dn) : Int := ck d.b d.n d.s
def Dn.fit (d : Dn) : Prop := d.ok ∧ d.er = 0
def dn0 : Dn := ⟨false, 0, 0⟩
theorem er_or (d : Dn) : d.er = 0 ∨ d.er = 20 := by
  unfold Dn.er ck
  split
  · exact .inl rfl
  · exact .inr rfl
/-- A step: from, base, rate. -/
structure Stp where
  a : Dn
  b : Dn
  c : Dn
def Stp.cells (s : Stp) : List Value := s.a.cells ++ (s.b.cells ++ s.c.cells)
abbrev Stp.v (s : Stp) : Value := .agg s.cells.toArray
def Stp.ok (s : Stp) : Prop := s.a.ok ∧ s.b.ok ∧ s.c.ok
def Stp.fit (s : Stp) : Prop := s.a.fit ∧ s.b.fit ∧ s.c.fit
theorem Stp.len (s : Stp) : s.cells.length = 18 := rfl
def Dn.z (d : Dn) : Int := sgn d.b d.n
theorem Dn.fit.s {d : Dn} (h : d.fit) : 0 ≤ d.s ∧ d.s ≤ 18 := sc_iff.1 (ck_s h.2)
abbrev DR.d (r : DR) : Dn := ⟨r.b, r.n, r.s⟩
def addD (x y : Dn) : DR := addR x.b x.n x.s y.b y.n y.s
def subD (x y : Dn) : DR := subR x.b x.n x.s y.b y.n y.s
def mulD (x y : Dn) : DR := mulR x.b x.n x.s y.b y.n y.s
def cmpD (x y : Dn) : Int := cmpR x.b x.n x.s y.b y.n y.s
theorem ro_nn {b : Bool} {X : Int} {k : Nat} {p : Int} (h : 0 ≤ X) : 0 ≤ ro b X k p := by
  have := Int.ediv_nonneg h (show (0 : Int) ≤ 10 ^ k from Int.le_of_lt (Int.pow_pos (by decide)))
  unfold ro; split <;> omega
theorem ck_dz {v s : Int} (h : sc s = true) : ck (decide (v < 0)) (ab v) s = 0 := ck_ok h (fun q => by have := of_decide_eq_true q; unfold ab; rw [if_pos this]; omega)
theorem lt_of_get {α : Type} {L : List α} {i : Nat} {y : α} (h : L[i]? = some y) : i < L.length := (List.getElem?_eq_some_iff.1 h).1
theorem get_of_lt {α : Type} {L : List α} {k : Nat} (h : k < L.length) : ∃ y, L[k]? = some y := ⟨_, List.getElem?_eq_getElem h⟩
/-- The number that decimal answers has room, and may be. -/
def DR.good (r : DR) : Prop := r.d.ok ∧ (r.e = 0 → r.d.er = 0)
theorem DR.good.fit {r : DR} (h : r.good) (e : r.e = 0) : r.d.fit := ⟨h.1, h.2 e⟩
theorem good_er {c : Int} : (erR c).good := ⟨⟨by show (0 : Int) ≤ 0; decide, by show (0 : Int) < MM; decide⟩, fun _ => by show ck false 0 0 = 0; decide⟩
theorem good_fz {V S : Int} (hS : sc S = true) : (fzR V S).good := by
  unfold fzR
  split
  next h => exact ⟨⟨ab_nn V, h⟩, fun _ => ck_dz hS⟩
  next => exact good_er
theorem good_fx {b : Bool} {V S : Int} (h0 : 0 ≤ V) (hS : sc S = true) : (fxR b V S).good := by
  unfold fxR
  split
  next h =>
    refine ⟨⟨h0, h⟩, fun _ => ?_⟩
    show ck (b && !decide (V = 0)) V S = 0
    unfold ck
    rw [hS]
    by_cases hv : V = 0 <;> simp [hv]
  next => exact good_er
theorem sc_max {s t : Int} (h : sc s = true) (k : sc t = true) : sc (max s t) = true := by
  have a := sc_iff.1 h
  have b := sc_iff.1 k
  exact sc_iff.2 ⟨by omega, by omega⟩
theorem sc_min {s t : Int} (h : sc s = true) (k : sc t = true) : sc (min (s + t) 18) = true := by
  have a := sc_iff.1 h
  have b := sc_iff.1 k
  exact sc_iff.2 ⟨by omega, by omega⟩
theorem rdV_nn {b : Bool} {X f S p : Int} (h : 0 ≤ X) : 0 ≤ rdV b X f S p := by
  unfold rdV
  split
  · exact Int.mul_nonneg h (Int.le_of_lt (pw_pos _))
  · exact ro_nn h
theorem good_add {x y : Dn} (hx : x.fit) (hy : y.fit) : (addD x y).good := good_fz (sc_max (ck_s hx.2) (ck_s hy.2))
theorem good_sub {x y : Dn} (hx : x.fit) (hy : y.fit) : (subD x y).good := good_fz (sc_max (ck_s hx.2) (ck_s hy.2))
theorem good_mul {x y : Dn} (hx : x.fit) (hy : y.fit) : (mulD x y).good := good_fx (rdV_nn (Int.mul_nonneg hx.1.1 hy.1.1)) (sc_min (ck_s hx.2) (ck_s hy.2))
/-- What a step says of a number. -/
def saysD (s : Stp) (x : Dn) : DR :=
  if (subD x s.a).e = 0 then (if (mulD (subD x s.a).d s.c).e = 0 then addD (mulD (subD x s.a).d s.c).d s.b else erR (mulD (subD x s.a).d s.c).e) else erR (subD x s.a).e
theorem good_says {s : Stp} {x : Dn} (hs : s.fit) (hx : x.fit) : (saysD s x).good := by
  unfold saysD
  split
  next e1 =>
    have g1 := (good_sub hx hs.1).fit e1
    split
    next e2 => exact good_add ((good_mul g1 hs.2.2).fit e2) hs.2.1
    next => exact good_er
  next => exact good_er
/-- Which tables may be. -/
def okS (s : Stp) : Bool := decide (s.a.er = 0) && (decide (s.b.er = 0) && decide (s.c.er = 0))
def ckS (s : Stp) : Int := if s.a.er = 0 then (if s.b.er = 0 then s.c.er else s.b.er) else s.a.er
theorem ckS_ok {s : Stp} : ckS s = if okS s then 0 else 20 := by
  unfold ckS okS
  rcases er_or s.a with h1 | h1 <;> rcases er_or s.b with h2 | h2 <;> rcases er_or s.c with h3 | h3 <;> simp [h1, h2, h3]
theorem okS_fit {s : Stp} (hs : s.ok) (h : okS s = true) : s.fit := by
  unfold okS at h
  simp at h
  exact ⟨⟨hs.1, h.1⟩, ⟨hs.2.1, h.2.1⟩, ⟨hs.2.2, h.2.2⟩⟩
def asc : List Stp → Bool
  | x :: y :: r => decide (0 < cmpD y.a x.a) && asc (y :: r)
  | _ => true
theorem asc_at : ∀ {L : List Stp}, asc L = true → ∀ {i : Nat} {x y : Stp}, L[i]? = some x → L[i + 1]? = some y → 0 < cmpD y.a x.a
  | [], _, i, x, y, hx, _ => by simp at hx
  | [_], _, i, x, y, _, hy => by simp at hy
  | a :: b :: r, h, i, x, y, hx, hy => by
    rw [asc] at h
    simp only [Bool.and_eq_true, decide_eq_true_eq] at h
    cases i with
    | zero => simp at hx hy; subst hx hy; exact h.1
    | succ i => exact asc_at h.2 (by simpa using hx) (by simpa using hy)
theorem asc_of : ∀ {L : List Stp}, (∀ i x y, L[i]? = some x → L[i + 1]? = some y → 0 < cmpD y.a x.a) → asc L = true
  | [], _ => rfl
  | [_], _ => rfl
  | a :: b :: r, h => by
    rw [asc]
    simp only [Bool.and_eq_true, decide_eq_true_eq]
    exact ⟨h 0 a b rfl rfl, asc_of (fun i x y hx hy => h (i + 1) x y (by simpa using hx) (by simpa using hy))⟩
def chkT (L : List Stp) : Int := if 32 < L.length then 3 else if L.length = 0 then 140 else if L.all okS then (if asc L then 0 else 140) else 20
section
variable {L : List Stp}
theorem chk_bad (h1 : ¬ 32 < L.length) (h2 : ¬ L.length = 0) {y : Stp} (hy : y ∈ L) (h : okS y = false) : chkT L = 20 := by
  have : L.all okS = false := by rw [List.all_eq_false]; exact ⟨y, hy, by simp [h]⟩
  unfold chkT; rw [if_neg h1, if_neg h2, this]; rfl
theorem chk_low (h1 : ¬ 32 < L.length) (h2 : ¬ L.length = 0) (ha : L.all okS = true) {i : Nat} {x y : Stp} (hx : L[i]? = some x) (hy : L[i + 1]? = some y) (h : ¬ 0 < cmpD y.a x.a) : chkT L = 140 := by
  have : asc L = false := by cases q : asc L with
    | false => rfl
    | true => exact absurd (asc_at q hx hy) h
  unfold chkT; rw [if_neg h1, if_neg h2, ha, this]; rfl
theorem chk_fine (h1 : ¬ 32 < L.length) (h2 : ¬ L.length = 0) (ha : L.all okS = true) (h : asc L = true) : chkT L = 0 := by
  unfold chkT; rw [if_neg h1, if_neg h2, ha, h]; rfl
end
theorem chk_0 {L : List Stp} (h : chkT L = 0) : L.length ≤ 32 ∧ L.length ≠ 0 ∧ L.all okS = true ∧ asc L = true := by
  unfold chkT at h
  split at h; · exact absurd h (by decide)
  split at h; · exact absurd h (by decide)
  split at h
  · split at h
    · exact ⟨by omega, by assumption, by assumption, by assumption⟩
    · exact absurd h (by decide)
  · exact absurd h (by decide)
theorem all_of {L : List Stp} (h : ∀ j < L.length, ∀ y, L[j]? = some y → okS y = true) : L.all okS = true := by
  rw [List.all_eq_true]
  intro y hy
  obtain ⟨j, hj⟩ := List.getElem?_of_mem hy
  exact h j (lt_of_get hj) y hj
/-- The last number below n of which p holds. -/
def lastP (p : Nat → Bool) : Nat → Option Nat
  | 0 => none
  | n + 1 => if p n then some n else lastP p n
theorem lastP_inv {p : Nat → Bool} : ∀ {n k : Nat}, lastP p n = some k → k < n ∧ p k = true
  | 0, k, h => by simp [lastP] at h
  | n + 1, k, h => by
    rw [lastP] at h
    split at h
    next q => simp at h; subst h; exact ⟨by omega, q⟩
    next => have := lastP_inv h; exact ⟨by omega, this.2⟩
/-- Is the step of a number not above x? -/
def rchd (L : List Stp) (x : Dn) (i : Nat) : Bool := match L[i]? with
  | some s => decide (cmpD s.a x ≤ 0)
  | none => false
theorem rchd_at {L : List Stp} {x : Dn} {i : Nat} {s : Stp} (h : L[i]? = some s) : rchd L x i = decide (cmpD s.a x ≤ 0) := by unfold rchd; rw [h]
/-- The step of x: its number (or none), an error. -/
def stpE (L : List Stp) (x : Dn) : Int := if chkT L = 0 then (if x.er = 0 then (if (lastP (rchd L x) L.length).isSome then 0 else 141) else 20) else chkT L
def stpN (L : List Stp) (x : Dn) : Int := if stpE L x = 0 then (((lastP (rchd L x) L.length).getD 0 : Nat) : Int) else 0
def atD (L : List Stp) (x : Dn) : DR := if stpE L x = 0 then saysD (L.getD ((lastP (rchd L x) L.length).getD 0) ⟨dn0, dn0, dn0⟩) x else erR (stpE L x)
theorem pw_add {a b : Int} (ha : 0 ≤ a) (hb : 0 ≤ b) : pw a * pw b = pw (a + b) := by
  obtain ⟨a, rfl⟩ := Int.eq_ofNat_of_zero_le ha
  obtain ⟨b, rfl⟩ := Int.eq_ofNat_of_zero_le hb
  show (10 : Int) ^ a * 10 ^ b = 10 ^ ((a : Int) + b).toNat
  rw [show ((a : Int) + b).toNat = a + b by omega, Int.pow_add]
theorem cm_mul {a b k : Int} (hk : 0 < k) : cm (a * k) (b * k) = cm a b := by
  unfold cm
  have h1 : a * k < b * k ↔ a < b := ⟨fun h => Int.lt_of_mul_lt_mul_right h (Int.le_of_lt hk), fun h => Int.mul_lt_mul_of_pos_right h hk⟩
  have h2 : b * k < a * k ↔ b < a := ⟨fun h => Int.lt_of_mul_lt_mul_right h (Int.le_of_lt hk), fun h => Int.mul_lt_mul_of_pos_right h hk⟩
  simp only [h1, h2]
/-- The number in last digits of the greatest scale. -/
def Dn.q (d : Dn) : Int := d.z * pw (18 - d.s)
theorem pw_join {s t : Int} (h0 : 0 ≤ t - s) (h1 : 0 ≤ 18 - t) : pw (t - s) * pw (18 - t) = pw (18 - s) := by
  rw [pw_add h0 h1]; congr 1; omega
theorem cmp_q {x y : Dn} (hx : x.fit) (hy : y.fit) : cmpD x y = cm x.q y.q := by
  obtain ⟨a0, a1⟩ := hx.s
  obtain ⟨b0, b1⟩ := hy.s
  unfold cmpD cmpR Dn.q Dn.z
  rw [← cm_mul (pw_pos (18 - max x.s y.s)), Int.mul_assoc, Int.mul_assoc, pw_join (by omega) (by omega), pw_join (by omega) (by omega)]
theorem cm_le {a b : Int} : cm a b ≤ 0 ↔ a ≤ b := by unfold cm; split; · omega
                                                     split <;> omega
theorem cm_pos {a b : Int} : 0 < cm a b ↔ b < a := by unfold cm; split; · omega
                                                      split <;> omega
theorem fit_of {L : List Stp} (hk : ∀ y ∈ L, y.ok) (ha : L.all okS = true) {i : Nat} {y : Stp} (h : L[i]? = some y) : y.fit :=
  okS_fit (hk y (List.mem_of_getElem? h)) (List.all_eq_true.1 ha y (List.mem_of_getElem? h))
/-- The froms rise. -/
theorem asc_lt {L : List Stp} (hk : ∀ y ∈ L, y.ok) (ha : L.all okS = true) (h : asc L = true) : ∀ (d i : Nat) {x y : Stp}, L[i]? = some x → L[i + d + 1]? = some y → x.a.q < y.a.q
  | 0, i, x, y, hx, hy => by
    have := asc_at h hx hy
    rw [cmp_q (fit_of hk ha hy).1 (fit_of hk ha hx).1, cm_pos] at this
    exact this
  | d + 1, i, x, y, hx, hy => by
    obtain ⟨z, hz⟩ := get_of_lt (k := i + d + 1) (L := L) (by have := lt_of_get hy; omega)
    have h1 := asc_lt hk ha h d i hx hz
    have h2 := asc_at h hz hy
    rw [cmp_q (fit_of hk ha hy).1 (fit_of hk ha hz).1, cm_pos] at h2
    omega
theorem asc_le {L : List Stp} (hk : ∀ y ∈ L, y.ok) (ha : L.all okS = true) (h : asc L = true) {i j : Nat} {x y : Stp} (hij : i ≤ j) (hx : L[i]? = some x) (hy : L[j]? = some y) : x.a.q ≤ y.a.q := by
  rcases Nat.lt_or_ge i j with hl | hl
  · exact Int.le_of_lt (asc_lt hk ha h (j - i - 1) i hx (by rw [show i + (j - i - 1) + 1 = j by omega]; exact hy))
  · have : i = j := by omega
    subst this; rw [hx] at hy; cases hy; exact Int.le_refl _
theorem rchd_q {L : List Stp} {x : Dn} (hk : ∀ y ∈ L, y.ok) (ha : L.all okS = true) (hx : x.fit) {i : Nat} {s : Stp} (h : L[i]? = some s) : rchd L x i = decide (s.a.q ≤ x.q) := by
  rw [rchd_at h, cmp_q (fit_of hk ha h).1 hx]
  exact decide_eq_decide.2 cm_le
theorem lastP_more {p : Nat → Bool} : ∀ {n k : Nat}, lastP p n = some k → ∀ j, k < j → j < n → p j = false
  | 0, k, h => by simp [lastP] at h
  | n + 1, k, h => fun j h1 h2 => by
    rw [lastP] at h
    split at h
    next q => simp at h; subst h; omega
    next q =>
      by_cases e : j = n
      · subst e; simpa using q
      · exact lastP_more h j h1 (by omega)
theorem lastP_no {p : Nat → Bool} : ∀ {n : Nat}, lastP p n = none → ∀ j, j < n → p j = false
  | 0, _ => fun j h => absurd h (Nat.not_lt_zero j)
  | n + 1, h => fun j h2 => by
    rw [lastP] at h
    split at h
    next => simp at h
    next q =>
      by_cases e : j = n
      · subst e; simpa using q
      · exact lastP_no h j (by omega)
/-- How many steps are reached. -/
def cntT (L : List Stp) (x : Dn) : Nat := match lastP (rchd L x) L.length with
  | some k => k + 1
  | none => 0
theorem cnt_le (L : List Stp) (x : Dn) : cntT L x ≤ L.length := by
  unfold cntT
  split
  next k h => have := (lastP_inv h).1; omega
  next => omega
theorem cnt_mono {L : List Stp} {x : Dn} (hk : ∀ y ∈ L, y.ok) (hc : chkT L = 0) (hx : x.fit) (j : Nat) (hj : j < L.length) : rchd L x j = decide (j < cntT L x) := by
  obtain ⟨_, _, ha, hs⟩ := chk_0 hc
  unfold cntT
  split
  next k h =>
    obtain ⟨h1, h2⟩ := lastP_inv h
    by_cases e : k < j
    · rw [lastP_more h j e hj]; simp; omega
    · obtain ⟨u, hu⟩ := get_of_lt hj
      obtain ⟨v, hv⟩ := get_of_lt h1
      rw [rchd_q hk ha hx hv] at h2
      have h3 := of_decide_eq_true h2
      have h4 := asc_le hk ha hs (by omega : j ≤ k) hu hv
      rw [rchd_q hk ha hx hu]
      have h5 : u.a.q ≤ x.q := by omega
      simp [h5]; omega
  next h => rw [lastP_no h j hj]; simp
theorem stp_c0 {L : List Stp} {x : Dn} (h : chkT L = 0) (hx : x.er = 0) (e : cntT L x = 0) : stpE L x = 141 ∧ stpN L x = 0 := by
  have hn : lastP (rchd L x) L.length = none := by
    unfold cntT at e; split at e
    · omega
    · assumption
  have h1 : stpE L x = 141 := by unfold stpE; rw [if_pos h, if_pos hx, hn]; rfl
  exact ⟨h1, by unfold stpN; rw [h1]; rfl⟩
theorem stp_c1 {L : List Stp} {x : Dn} (h : chkT L = 0) (hx : x.er = 0) {k : Nat} (e : lastP (rchd L x) L.length = some k) : stpE L x = 0 ∧ stpN L x = (k : Int) := by
  have h1 : stpE L x = 0 := by unfold stpE; rw [if_pos h, if_pos hx, e]; rfl
  exact ⟨h1, by unfold stpN; rw [h1, e]; rfl⟩
theorem cnt_some {L : List Stp} {x : Dn} {k : Nat} (h : cntT L x = k + 1) : lastP (rchd L x) L.length = some k := by
  unfold cntT at h
  split at h
  next k' e => rw [e]; congr 1; omega
  next => omega
end Go.Proofs.YtfmfeipeeedfpaaGreat
namespace Go.Proofs.YtfmfeipeeedfpaaGreat
namespace S
section
variable {P : Program} {w0 : B0}
def gotoK {α : Type} (m0 l : Nat) (J : α → St) (pre lt : α → Prop) (C : Exit → St → Prop) (e : Exit) (s : St) : Prop := match e with
  | .goto l' => l' = l ∧ ∃ a', pre a' ∧ lt a' ∧ ∃ σ, Fit m0 s (J a') σ
  | e => C e s
theorem least {p : Nat → Prop} : ∀ (n : Nat), p n → ∃ m, p m ∧ ∀ i, p i → m ≤ i := by
  intro n
  induction n using Nat.strongRecOn with
  | _ n ih =>
    intro h
    by_cases q : ∃ i, i < n ∧ p i
    · obtain ⟨i, hi, hp⟩ := q; exact ih i hi hp
    · exact ⟨n, h, fun i hi => Nat.le_of_not_lt fun hlt => q ⟨i, hlt, hi⟩⟩
theorem w_scope {c rest : Code} {s : St} {C : Exit → St → Prop} {α : Type} (l : Nat) (hf : findLabel c l = some rest) (J : α → St) (pre : α → Prop) (μ : α → Nat) (first : Rn P w0 (gotoK w0.m l J pre (fun _ => True) C) (cf s [co c]))
    (pass : ∀ a, pre a → Rn P w0 (gotoK w0.m l J pre (fun a' => μ a' < μ a) C) (cf (J a) [co rest])) : WC P w0 (.scope c) s C := by
  intro Q k W act R hK
  let p : Act → World → Nat → Prop := fun act W m => ∃ a k, pre a ∧ Rl w0 (J a) k W act ∧ μ a = m
  let f : Act → World → Nat := fun act W => Classical.epsilon fun m => p act W m ∧ ∀ i, p act W i → m ≤ i
  have hfs : ∀ act W, (∃ n, p act W n) → p act W (f act W) ∧ ∀ i, p act W i → f act W ≤ i := fun act W ⟨n, hn⟩ => Classical.epsilon_spec (p := fun m => p act W m ∧ ∀ i, p act W i → m ≤ i) (least n hn)
  refine wp_scope_jumps l (fun act W => ∃ n, p act W n) f hf ?_ ?_
  · refine run_ok first _ _ _ _ R fun e s' k' W' a' R' hC => ?_
    cases e with
    | goto l' => obtain ⟨h1, a2, h2, _, σ, hF⟩ := hC; exact ⟨h1, _, a2, _, h2, hF.rl R', rfl⟩
    | _ => exact hK _ _ _ _ _ R' hC
  · intro act W hn
    obtain ⟨⟨a, k, hpa, hR, hμ⟩, hle⟩ := hfs act W hn
    refine run_ok (pass a hpa) _ _ _ _ hR fun e s' k' W' a' R' hC => ?_
    cases e with
    | goto l' =>
      obtain ⟨h1, a2, h2, h3, σ, hF⟩ := hC
      have q : p a' W' (μ a2) := ⟨a2, _, h2, hF.rl R', rfl⟩
      exact ⟨h1, ⟨_, q⟩, by have := (hfs a' W' ⟨_, q⟩).2 _ q; omega⟩
    | _ => exact hK _ _ _ _ _ R' hC
end
end S
end Go.Proofs.YtfmfeipeeedfpaaGreat
namespace Go.Proofs.YtfmfeipeeedfpaaGreat
open S Go.RowKit
/-- A table of brackets as it came in: its name, where its steps lie, the steps. -/
structure Tb where
  nm : ByteArray
  pa : Option Addr
  cap : Nat
  st : List Stp
abbrev Tb.cells (x : Tb) : List Value := [.string x.nm, .slice x.pa x.st.length x.cap]
abbrev Tb.v (x : Tb) : Value := .agg x.cells.toArray
abbrev Tb.y (x : Tb) : Value := .agg (x.cells.map rel1).toArray
/-- Its steps lie there. -/
structure TbL (W : World) (x : Tb) : Prop where
  sl : ∀ i y, x.st[i]? = some y → ∃ b o, x.pa = some ⟨b, o, none⟩ ∧ Lies W b (o + i * 18) y.cells
  ok : ∀ y ∈ x.st, y.ok
  ln : x.st.length ≤ 9223372036854775807
theorem TbL.mono {W W' : World} {x : Tb} (h : TbL W x) (E : ∀ a u, W.cell? a = some u → W'.cell? a = some u) : TbL W' x :=
  ⟨fun i y hy => by obtain ⟨b, o, h1, h2⟩ := h.sl i y hy; exact ⟨b, o, h1, fun j u hj => E _ _ (h2 j u hj)⟩, h.ok, h.ln⟩
theorem xce {X' X : World} (h : Xf X' X) (a : Addr) (u : Value) (hc : X.cell? a = some u) : X'.cell? a = some u := by
  unfold World.cell? at hc ⊢
  split at hc
  · rename_i c ty fz hx
    have : (Obj.cells c ty fz) ≠ hole X := fun e => by
      unfold hole at e
      cases e
      split at hc <;> simp at hc
    rw [(h.2 _ _ hx this).1]; exact hc
  · cases hc
theorem TbL.xf {X X' : World} {x : Tb} (h : TbL X x) (hX : Xf X' X) : TbL X' x := h.mono (xce hX)
theorem Lies.part {W : World} {b o : Nat} {l1 l2 l3 : List Value} (h : Lies W b o (l1 ++ l2 ++ l3)) : Lies W b (o + l1.length) l2 := fun j u hj => by
  have := h (l1.length + j) u (by rw [List.append_assoc, List.getElem?_append_right (by omega)]; simp only [Nat.add_sub_cancel_left]; rw [List.getElem?_append_left (List.getElem?_eq_some_iff.1 hj).1]; exact hj)
  rw [Nat.add_assoc]; exact this
theorem Stp.lc {W : World} {b o : Nat} {s : Stp} (h : Lies W b o s.cells) : Lies W b o s.a.cells ∧ Lies W b (o + 6) s.b.cells ∧ Lies W b (o + 12) s.c.cells :=
  ⟨Lies.part (l1 := []) (l3 := s.b.cells ++ s.c.cells) (by simpa [Stp.cells, List.append_assoc] using h), Lies.part (l1 := s.a.cells) (l3 := s.c.cells) (by simpa [Stp.cells, List.append_assoc] using h), Lies.part (l1 := s.a.cells ++ s.b.cells) (l3 := []) (by simpa [Stp.cells, List.append_assoc] using h)⟩
abbrev Dn.r (d : Dn) : List Value := d.cells.map rel1
def ck3 : List Dn → Int
  | [] => 0
  | x :: l => if x.er = 0 then ck3 l else x.er
set_option maxRecDepth 20000 in
theorem b_nums (X : World) (x y z : Dn) (hx : x.ok) (hy : y.ok) (hz : z.ok) : Ctr Tryz.prog X 226 [.slice (some ⟨0, 0, none⟩) 3 6] [(0, some ((x.cells ++ (y.cells ++ z.cells)).map rel1))] 1 1 (.int .i64 (ck3 [x, y, z])) [(0, some ((x.cells ++ (y.cells ++ z.cells)).map rel1))] 1 := by
  refine fn_c _ Tryz.func226 rfl rfl rfl rfl (fun w l X' hX => run_ok (st mo ?_))
  refine st mo ?_
  refine S.w_loop (fun i : Nat => ⟨⟨18, [(6, .slice (some ⟨0, 0, none⟩) 3 6), (7, .int .i64 3), (8, .int .i64 (i : Int))]⟩, [(0, some ((x.cells ++ (y.cells ++ z.cells)).map rel1))], 1, X'⟩) (fun i => i ≤ 3 ∧ (1 ≤ i → x.er = 0) ∧ (2 ≤ i → y.er = 0) ∧ (i = 3 → z.er = 0)) (fun i => 3 - i) 0 ⟨by omega, by omega, by omega, by omega⟩ [0] ⟨rfl, ⟨fs, fv, fv, trivial⟩, ⟨flr rfl, trivial⟩, xf, rfl, rfl⟩ ?_
  intro i hi
  rcases i with _ | i
  · refine st mo ⟨fun _ => st mo ⟨0, rfl, by decide, st mo ⟨x.r, rfl, rfl, Or.inl (st mo ?_)⟩⟩, fun h => absurd h (by omega)⟩
    refine ⟨_, fun nn => r_call (t := .int .i64 x.er) rfl rfl Tryz.func157 (fun W M E => p_dck x.b x.n x.s hx W), st mo ⟨fun h => st mo ?_, fun h => st mo ?_⟩⟩
    · exact ⟨rfl, [0], fe (by simp_all [ck3]), ⟨flr rfl, trivial⟩, rfl, rfl⟩
    · have h : x.er = 0 := Classical.byContradiction fun q => q h
      refine ⟨_, wz 1 rfl, st mo ?_⟩
      exact ⟨1, ⟨by omega, by simp_all, by simp_all, by simp_all⟩, by decide, [0], rfl, ⟨fs, fv, fv, trivial⟩, ⟨flr rfl, trivial⟩, xf, rfl, rfl⟩
  rcases i with _ | i
  · refine st mo ⟨fun _ => st mo ⟨1, rfl, by decide, st mo ⟨y.r, rfl, rfl, Or.inl (st mo ?_)⟩⟩, fun h => absurd h (by omega)⟩
    refine ⟨_, fun nn => r_call (t := .int .i64 y.er) rfl rfl Tryz.func157 (fun W M E => p_dck y.b y.n y.s hy W), st mo ⟨fun h => st mo ?_, fun h => st mo ?_⟩⟩
    · exact ⟨rfl, [0], fe (by simp_all [ck3]), ⟨flr rfl, trivial⟩, rfl, rfl⟩
    · have h : y.er = 0 := Classical.byContradiction fun q => q h
      refine ⟨_, wz 2 rfl, st mo ?_⟩
      exact ⟨2, ⟨by omega, by simp_all, by simp_all, by simp_all⟩, by decide, [0], rfl, ⟨fs, fv, fv, trivial⟩, ⟨flr rfl, trivial⟩, xf, rfl, rfl⟩
  rcases i with _ | i
  · refine st mo ⟨fun _ => st mo ⟨2, rfl, by decide, st mo ⟨z.r, rfl, rfl, Or.inl (st mo ?_)⟩⟩, fun h => absurd h (by omega)⟩
    refine ⟨_, fun nn => r_call (t := .int .i64 z.er) rfl rfl Tryz.func157 (fun W M E => p_dck z.b z.n z.s hz W), st mo ⟨fun h => st mo ?_, fun h => st mo ?_⟩⟩
    · exact ⟨rfl, [0], fe (by simp_all [ck3]), ⟨flr rfl, trivial⟩, rfl, rfl⟩
    · have h : z.er = 0 := Classical.byContradiction fun q => q h
      refine ⟨_, wz 3 rfl, st mo ?_⟩
      exact ⟨3, ⟨by omega, by simp_all, by simp_all, by simp_all⟩, by decide, [0], rfl, ⟨fs, fv, fv, trivial⟩, ⟨flr rfl, trivial⟩, xf, rfl, rfl⟩
  obtain rfl : i = 0 := by omega
  refine st mo ⟨fun h => absurd h (by omega), fun _ => st mo (st mo ?_)⟩
  exact ⟨rfl, [0], fe (by simp_all [ck3]), ⟨flr rfl, trivial⟩, rfl, rfl⟩
theorem ck3_S (s : Stp) : ck3 [s.a, s.b, s.c] = if okS s then 0 else 20 := by rw [← ckS_ok]; unfold ckS; simp only [ck3]; repeat (first | rfl | omega | split)
theorem TbL.at {W : World} {x : Tb} (h : TbL W x) {i : Nat} (hi : i < x.st.length) : ∃ y, x.st[i]? = some y ∧ y.ok ∧ ∃ b o, x.pa = some ⟨b, o, none⟩ ∧ Lies W b (o + i * 18) y.cells := by
  obtain ⟨y, hy⟩ := get_of_lt hi
  exact ⟨y, hy, h.ok y (List.mem_of_getElem? hy), h.sl i y hy⟩
set_option maxRecDepth 20000 in
theorem b_check (x : Tb) (w : World) (hT : TbL w x) : Calls Tryz.prog 212 #[x.v] w fun r W => r = .returned (.int .i64 (chkT x.st)) ∧ Mb w W := by
  have hln := hT.ln
  refine fn_pure [x.y] Tryz.func212 rfl rfl rfl (run_ok (st mo (st mo ?_)))
  refine ⟨fun h => st mo ?_, fun h1 => st mo (st mo ⟨fun h => st mo ?_, fun h2 => st mo (st mo ?_)⟩)⟩
  · show _ = _; rw [chkT, if_pos (by omega)]
  · show _ = _; rw [chkT, if_neg (by omega), if_pos (by omega)]
  refine S.w_loop (fun i : Nat => ⟨⟨56, [(1, .pointer (some ⟨0, 0, none⟩)), (16, raw (.slice x.pa x.st.length x.cap)), (17, .int .i64 (x.st.length : Int)), (18, .int .i64 (i : Int))]⟩, [(0, some (x.cells.map rel1))], 1, w⟩) (fun i => i ≤ x.st.length ∧ ∀ j < i, ∀ y, x.st[j]? = some y → okS y = true) (fun i => x.st.length - i) 0 ⟨by omega, fun j hj => absurd hj (Nat.not_lt_zero j)⟩ [0] ⟨rfl, ⟨fp, fv, fv, fv, trivial⟩, ⟨flr rfl, trivial⟩, xf, rfl, rfl⟩ ?_
  intro i hi
  refine st mo ⟨fun hlt => st mo ?_, fun hge => st mo (st mo ?_)⟩
  · have hil : i < x.st.length := by omega
    obtain ⟨y, hy, hok, b, o, h4, h5⟩ := hT.at hil
    refine ⟨b, o, i, h4, rfl, hil, st mo ⟨y.cells, rfl, h5, st mo ?_⟩⟩
    refine ⟨_, fun nn => r_c (tc := .int .i64 (ck3 [y.a, y.b, y.c])) [2] [some ((y.a.cells ++ (y.b.cells ++ y.c.cells)).map rel1)] [] rfl rfl (b_nums w y.a y.b y.c hok.1 hok.2.1 hok.2.2) (by exact fitL_cons fs rfl) ⟨flr rfl, trivial⟩ uv ⟨ulr rfl, trivial⟩, st mo ?_⟩
    have e := ck3_S y
    refine ⟨fun h => st mo ?_, fun h => st mo ?_⟩
    · have hb : okS y = false := by cases q : okS y with
        | false => rfl
        | true => rw [q] at e; exact absurd e h
      rw [hb] at e
      show _ = _; rw [e, chk_bad (by omega) (by omega) (List.mem_of_getElem? hy) hb]; rfl
    · have hb : okS y = true := by cases q : okS y with
        | true => rfl
        | false => rw [q] at e; exact absurd (e.symm.trans (Classical.byContradiction fun q => q h)) (by decide)
      refine ⟨_, wz (i + 1) rfl, st mo ?_⟩
      refine ⟨i + 1, ⟨hil, fun j hj z hz => ?_⟩, by dsimp; omega, [0], rfl, ⟨fp, fv, fv, fv, trivial⟩, ⟨flr rfl, trivial⟩, xf, rfl, rfl⟩
      rcases Nat.lt_or_ge j i with q | q
      · exact hi.2 j q z hz
      · obtain rfl : j = i := by omega
        rw [hy] at hz; cases hz; exact hb
  have hall : x.st.all okS = true := all_of (fun j hj y hy => hi.2 j (by omega) y hy)
  refine S.w_loop (fun i : Nat => ⟨⟨56, [(1, .pointer (some ⟨0, 0, none⟩)), (6, .int .i64 ((i + 1 : Nat) : Int))]⟩, [(0, some (x.cells.map rel1))], 1, w⟩) (fun i => i < x.st.length ∧ ∀ j < i, ∀ y z, x.st[j]? = some y → x.st[j + 1]? = some z → 0 < cmpD z.a y.a) (fun i => x.st.length - i) 0 ⟨by omega, fun j hj => absurd hj (Nat.not_lt_zero j)⟩ [0] ⟨rfl, ⟨fp, fv, trivial⟩, ⟨flr rfl, trivial⟩, xf, rfl, rfl⟩ ?_
  intro i hi
  refine st mo (st mo ⟨fun hlt => st mo ?_, fun hge => st mo (st mo ?_)⟩)
  · have hil : i + 1 < x.st.length := by omega
    obtain ⟨y, hy, hok, b, o, h4, h5⟩ := hT.at (Nat.lt_of_succ_lt hil)
    obtain ⟨z, hz, hokz, b', o', h6, h7⟩ := hT.at hil
    obtain ⟨rfl, rfl⟩ : b' = b ∧ o' = o := by rw [h4] at h6; cases h6; exact ⟨rfl, rfl⟩
    have fy := fit_of hT.ok hall hy
    have fz := fit_of hT.ok hall hz
    refine ⟨b', o', i + 1, h4, rfl, hil, st mo ⟨z.a.cells, rfl, (Stp.lc h7).1, st mo ?_⟩⟩
    refine ⟨(i : Int), wz i (by omega), st mo ⟨b', o', i, h4, rfl, by omega, st mo ⟨y.a.cells, rfl, (Stp.lc h5).1, st mo ?_⟩⟩⟩
    refine ⟨_, fun nn => r_call (t := .int .i64 (cmpD z.a y.a)) rfl rfl Tryz.func172 (fun W M E => p_dcmp z.a.b z.a.n z.a.s y.a.b y.a.n y.a.s fz.1.1 fy.1.1 fz.1.2 fy.1.2 W), st mo ⟨fun h => st mo ⟨dk, st mo ?_⟩, fun h => st mo ⟨dk, st mo ?_⟩⟩⟩
    · show _ = _; rw [chk_low (by omega) (by omega) hall hy hz (by omega)]
    · refine ⟨_, wz (i + 1 + 1) rfl, st mo ?_⟩
      refine ⟨i + 1, ⟨hil, fun j hj u v hu hv => ?_⟩, by dsimp; omega, [0], rfl, ⟨fp, fv, trivial⟩, ⟨flr rfl, trivial⟩, xf, rfl, rfl⟩
      rcases Nat.lt_or_ge j i with q | q
      · exact hi.2 j q u v hu hv
      · obtain rfl : j = i := by omega
        rw [hy] at hu; cases hu; rw [hz] at hv; cases hv; omega
  · have hs : asc x.st = true := asc_of fun j u v hu hv => hi.2 j (by have := lt_of_get hv; omega) u v hu hv
    show _ = _; rw [chk_fine (by omega) (by omega) hall hs]
abbrev q0 (i : Nat) : Value := .pointer (some ⟨i, 0, none⟩)
abbrev hB (x : Tb) (d : Dn) : HT := [(0, some (x.cells.map rel1)), (1, some d.r)]
set_option maxRecDepth 20000 in
theorem b_reach (X : World) (x : Tb) (d : Dn) (i : Nat) (hT : TbL X x) (hall : x.st.all okS = true) (hd : d.fit) (hi : i < x.st.length) (t : Value) (ht : t = if rchd x.st d i then litT else litF) : Ctr Tryz.prog X 214 [.int .i64 (i : Int), q0 0, q0 1] (hB x d) 2 2 t (hB x d) 2 := by
  subst ht
  refine fn_c _ Tryz.func214 rfl rfl rfl rfl (fun w l X' hX => run_ok (st mo ?_))
  obtain ⟨y, hy, hok, b, o, h4, h5⟩ := (hT.xf hX).at hi
  have fy := fit_of hT.ok hall hy
  rw [rchd_at hy]
  refine ⟨b, o, i, h4, rfl, hi, st mo ⟨y.a.cells, rfl, (Stp.lc h5).1, st mo ?_⟩⟩
  refine ⟨_, fun nn => r_call (t := .int .i64 (cmpD y.a d)) rfl rfl Tryz.func172 (fun W M E => p_dcmp y.a.b y.a.n y.a.s d.b d.n d.s fy.1.1 hd.1 fy.1.2 hd.2 W), st mo ⟨fun h => st mo ⟨dk, st mo ?_⟩, fun h => st mo ⟨dk, st mo ?_⟩⟩⟩
  · rw [decide_eq_true h]; exact ⟨rfl, [0, 1], fv, ⟨flr rfl, flr rfl, trivial⟩, rfl, rfl⟩
  · rw [decide_eq_false (by omega)]; exact ⟨rfl, [0, 1], fv, ⟨flr rfl, flr rfl, trivial⟩, rfl, rfl⟩
set_option maxRecDepth 20000 in
theorem b_halve (X : World) (x : Tb) (d : Dn) (hT : TbL X x) (hc : chkT x.st = 0) (hd : d.fit) : Ctr Tryz.prog X 213 [.int .i64 (x.st.length : Int), .func (.func 214) #[] #[q0 0, q0 1]] (hB x d) 2 2 (.int .i64 (cntT x.st d : Int)) (hB x d) 2 := by
  obtain ⟨hl, _, hall, hasc⟩ := chk_0 hc
  have hcl := cnt_le x.st d
  have hmono := cnt_mono hT.ok hc hd
  refine fn_c _ Tryz.func213 rfl rfl rfl rfl (fun w l X' hX => run_ok (st mo ?_))
  refine w_scope 0 rfl (fun p : Nat × Nat => ⟨⟨25, [(1, .func (.func 214) #[] #[q0 0, q0 1]), (5, .int .i64 (p.1 : Int)), (6, .int .i64 (p.2 : Int))]⟩, hB x d, 2, X'⟩) (fun p => p.1 ≤ cntT x.st d ∧ cntT x.st d ≤ p.2 ∧ p.2 ≤ x.st.length) (fun p => p.2 - p.1) ?_ ?_
  · refine st mo ⟨fun heq => st mo ?_, fun hne => st mo ?_⟩
    · exact ⟨rfl, [0, 1], fe (by omega), ⟨flr rfl, flr rfl, trivial⟩, rfl, rfl⟩
    · obtain ⟨g, hg⟩ : ∃ g : Nat, g = (x.st.length - 0) / 2 := ⟨_, rfl⟩
      obtain ⟨m, hm⟩ : ∃ m : Nat, m = 0 + g := ⟨_, rfl⟩
      refine ⟨((x.st.length - 0 : Nat) : Int), wz _ (by omega), st mo ⟨by decide, (g : Int), by rw [Int.tdiv_eq_ediv_of_nonneg (by omega)]; exact wz _ (by omega), st mo ⟨(m : Int), wz _ (by omega), st mo ?_⟩⟩⟩
      have hmr := hmono m (by omega)
      by_cases hlt : m < cntT x.st d
      · refine ⟨_, fun nn => r_c (tc := litT) [0, 1] [some (x.cells.map rel1), some d.r] [] rfl rfl (b_reach X' x d m (hT.xf hX) hall hd (by omega) litT (by rw [hmr, decide_eq_true hlt]; rfl)) (fitL_cons fv (fitL_cons fp (fitL_cons fp rfl))) ⟨flr rfl, flr rfl, trivial⟩ uv ⟨ulr rfl, ulr rfl, trivial⟩, st mo ⟨((m + 1 : Nat) : Int), wz _ (by omega), st mo ?_⟩⟩
        exact ⟨rfl, (m + 1, x.st.length), ⟨by dsimp; omega, by dsimp; omega, by dsimp; omega⟩, trivial, [0, 1], rfl, ⟨ff (fitL_cons fp (fitL_cons fp rfl)), fv, fv, trivial⟩, ⟨flr rfl, flr rfl, trivial⟩, xf, rfl, rfl⟩
      · refine ⟨_, fun nn => r_c (tc := litF) [0, 1] [some (x.cells.map rel1), some d.r] [] rfl rfl (b_reach X' x d m (hT.xf hX) hall hd (by omega) litF (by rw [hmr, decide_eq_false hlt]; rfl)) (fitL_cons fv (fitL_cons fp (fitL_cons fp rfl))) ⟨flr rfl, flr rfl, trivial⟩ uv ⟨ulr rfl, ulr rfl, trivial⟩, st mo ?_⟩
        exact ⟨rfl, (0, m), ⟨by dsimp; omega, by dsimp; omega, by dsimp; omega⟩, trivial, [0, 1], rfl, ⟨ff (fitL_cons fp (fitL_cons fp rfl)), fv, fv, trivial⟩, ⟨flr rfl, flr rfl, trivial⟩, xf, rfl, rfl⟩
  · intro ⟨lo, hi⟩ ⟨hp1, hp2, hp3⟩
    dsimp only at hp1 hp2 hp3
    refine st mo ⟨fun heq => st mo ?_, fun hne => st mo ?_⟩
    · exact ⟨rfl, [0, 1], fe (by omega), ⟨flr rfl, flr rfl, trivial⟩, rfl, rfl⟩
    · obtain ⟨g, hg⟩ : ∃ g : Nat, g = (hi - lo) / 2 := ⟨_, rfl⟩
      obtain ⟨m, hm⟩ : ∃ m : Nat, m = lo + g := ⟨_, rfl⟩
      refine ⟨((hi - lo : Nat) : Int), wz _ (by omega), st mo ⟨by decide, (g : Int), by rw [Int.tdiv_eq_ediv_of_nonneg (by omega)]; exact wz _ (by omega), st mo ⟨(m : Int), wz _ (by omega), st mo ?_⟩⟩⟩
      have hmr := hmono m (by omega)
      by_cases hlt : m < cntT x.st d
      · refine ⟨_, fun nn => r_c (tc := litT) [0, 1] [some (x.cells.map rel1), some d.r] [] rfl rfl (b_reach X' x d m (hT.xf hX) hall hd (by omega) litT (by rw [hmr, decide_eq_true hlt]; rfl)) (fitL_cons fv (fitL_cons fp (fitL_cons fp rfl))) ⟨flr rfl, flr rfl, trivial⟩ uv ⟨ulr rfl, ulr rfl, trivial⟩, st mo ⟨((m + 1 : Nat) : Int), wz _ (by omega), st mo ?_⟩⟩
        exact ⟨rfl, (m + 1, hi), ⟨by dsimp; omega, by dsimp; omega, by dsimp; omega⟩, by dsimp; omega, [0, 1], rfl, ⟨ff (fitL_cons fp (fitL_cons fp rfl)), fv, fv, trivial⟩, ⟨flr rfl, flr rfl, trivial⟩, xf, rfl, rfl⟩
      · refine ⟨_, fun nn => r_c (tc := litF) [0, 1] [some (x.cells.map rel1), some d.r] [] rfl rfl (b_reach X' x d m (hT.xf hX) hall hd (by omega) litF (by rw [hmr, decide_eq_false hlt]; rfl)) (fitL_cons fv (fitL_cons fp (fitL_cons fp rfl))) ⟨flr rfl, flr rfl, trivial⟩ uv ⟨ulr rfl, ulr rfl, trivial⟩, st mo ?_⟩
        exact ⟨rfl, (lo, m), ⟨by dsimp; omega, by dsimp; omega, by dsimp; omega⟩, by dsimp; omega, [0, 1], rfl, ⟨ff (fitL_cons fp (fitL_cons fp rfl)), fv, fv, trivial⟩, ⟨flr rfl, flr rfl, trivial⟩, xf, rfl, rfl⟩
abbrev Dn.v' (d : Dn) : Value := dc d.b d.n d.s
theorem er_20 {d : Dn} (h : ¬ d.er = 0) : d.er = 20 := (er_or d).resolve_left h
set_option maxRecDepth 20000 in
theorem b_step (x : Tb) (d : Dn) (hd : d.ok) (w : World) (hT : TbL w x) : Calls Tryz.prog 200 #[x.v, d.v'] w fun r W => r = .returned (.tuple #[.int .i64 (stpN x.st d), .int .i64 (stpE x.st d)]) ∧ Mb w W := by
  refine fn_pure [x.y, d.v'] Tryz.func200 rfl rfl rfl (run_ok (st mo ?_))
  refine ⟨_, fun nn => r_call (t := .int .i64 (chkT x.st)) rfl rfl Tryz.func212 (fun W M E => b_check x W (hT.mono E)), st mo ⟨fun h => st mo ?_, fun h => st mo ?_⟩⟩
  · have e1 : stpE x.st d = chkT x.st := by unfold stpE; rw [if_neg h]
    have e2 : stpN x.st d = 0 := by unfold stpN; rw [if_neg (by rw [e1]; exact h)]
    show _ = _; rw [e1, e2]; rfl
  · have hc : chkT x.st = 0 := h
    refine ⟨_, fun nn => r_call (t := .int .i64 d.er) rfl rfl Tryz.func157 (fun W M E => p_dck d.b d.n d.s hd W), st mo ⟨fun h => st mo ?_, fun h => st mo (st mo ?_)⟩⟩
    · have e1 : stpE x.st d = d.er := by unfold stpE; rw [if_pos hc, if_neg h, er_20 h]
      have e2 : stpN x.st d = 0 := by unfold stpN; rw [if_neg (by rw [e1]; exact h)]
      show _ = _; rw [e1, e2]; rfl
    · have he : d.er = 0 := h
      refine ⟨_, fun nn => r_c (tc := .int .i64 (cntT x.st d : Int)) [0, 1] [some (x.cells.map rel1), some d.r] [] rfl rfl (b_halve w x d hT hc ⟨hd, he⟩) (fitL_cons fv (fitL_cons (ff (fitL_cons fp (fitL_cons fp rfl))) rfl)) ⟨flr rfl, flr rfl, trivial⟩ uv ⟨ulr rfl, ulr rfl, trivial⟩, st mo ⟨fun h0 => st mo ?_, fun h0 => st mo ?_⟩⟩
      · obtain ⟨e1, e2⟩ := stp_c0 hc he (by omega)
        show _ = _; rw [e1, e2]; rfl
      · obtain ⟨k, hk⟩ : ∃ k, cntT x.st d = k + 1 := ⟨cntT x.st d - 1, by omega⟩
        obtain ⟨e1, e2⟩ := stp_c1 hc he (cnt_some hk)
        have := cnt_le x.st d
        have := hT.ln
        refine ⟨(k : Int), wz k (by omega), st mo ?_⟩
        show _ = _; rw [e1, e2]; rfl
set_option maxRecDepth 20000 in
theorem b_says (s : Stp) (d : Dn) (hs : s.fit) (hd : d.fit) (w : World) : Calls Tryz.prog 201 #[s.v, d.v'] w fun r W => r = .returned (saysD s d).v ∧ Mb w W := by
  refine fn_pure [.agg (s.cells.map rel1).toArray, d.v'] Tryz.func201 rfl rfl rfl (run_ok (st mo ?_))
  have g1 := good_sub hd hs.1
  refine ⟨_, fun nn => r_call (t := (subD d s.a).y) rfl rfl Tryz.func170 (fun W M E => p_sub d.b d.n d.s s.a.b s.a.n s.a.s hd.1 hs.1.1 hd.2 hs.1.2 W), st mo ⟨fun h => st mo ?_, fun h => st mo ?_⟩⟩
  · show _ = _; rw [saysD, if_neg h]; rfl
  · have h : (subD d s.a).e = 0 := h
    have f1 := g1.fit h
    have b1 := f1.s
    have b2 := hs.2.2.s
    have g2 := good_mul f1 hs.2.2
    refine ⟨(subD d s.a).s + s.c.s, wi (by have : (subD d s.a).s = (subD d s.a).d.s := rfl; omega), st mo ⟨_, fun nn => r_min ((subD d s.a).s + s.c.s) 18, st mo ?_⟩⟩
    refine ⟨_, fun nn => r_call (t := (mulD (subD d s.a).d s.c).y) rfl rfl Tryz.func158 (fun W M E => d_mul (subD d s.a).b (subD d s.a).n (subD d s.a).s s.c.b s.c.n s.c.s W f1.1 hs.2.2.1 f1.2 hs.2.2.2), st mo ⟨fun h2 => st mo ?_, fun h2 => st mo ?_⟩⟩
    · show _ = _; rw [saysD, if_pos h, if_neg h2]; rfl
    · have h2 : (mulD (subD d s.a).d s.c).e = 0 := h2
      have f2 := g2.fit h2
      refine ⟨_, fun nn => r_call (t := (addD (mulD (subD d s.a).d s.c).d s.b).y) rfl rfl Tryz.func169 (fun W M E => p_add _ _ _ s.b.b s.b.n s.b.s f2.1 hs.2.1.1 f2.2 hs.2.1.2 W), st mo ?_⟩
      show _ = _; rw [saysD, if_pos h, if_pos h2]; rfl
theorem stp_0 {L : List Stp} {d : Dn} (h : stpE L d = 0) : chkT L = 0 ∧ d.er = 0 ∧ ∃ k, lastP (rchd L d) L.length = some k ∧ stpN L d = (k : Int) := by
  unfold stpE at h
  split at h
  next h1 =>
    split at h
    next h2 =>
      refine ⟨h1, h2, ?_⟩
      cases q : lastP (rchd L d) L.length with
      | none => rw [q] at h; exact absurd h (by decide)
      | some k => exact ⟨k, rfl, (stp_c1 h1 h2 q).2⟩
    next => exact absurd h (by decide)
  next h1 => exact absurd h h1
set_option maxRecDepth 20000 in
theorem b_at (x : Tb) (d : Dn) (hd : d.ok) (w : World) (hT : TbL w x) : Calls Tryz.prog 174 #[x.v, d.v'] w fun r W => r = .returned (atD x.st d).v ∧ Mb w W := by
  refine fn_pure [x.y, d.v'] Tryz.func174 rfl rfl rfl (run_ok (st mo ?_))
  refine ⟨_, fun nn => r_call (t := .tuple #[.int .i64 (stpN x.st d), .int .i64 (stpE x.st d)]) rfl rfl Tryz.func200 (fun W M E => b_step x d hd W (hT.mono E)), st mo ⟨fun h => st mo ?_, fun h => st mo ?_⟩⟩
  · show _ = _; rw [atD, if_neg h]; rfl
  · have h : stpE x.st d = 0 := h
    obtain ⟨hc, he, k, hk, hN⟩ := stp_0 h
    have hkl := (lastP_inv hk).1
    obtain ⟨y, hy, hok, b, o, h4, h5⟩ := hT.at hkl
    have fy := fit_of hT.ok (chk_0 hc).2.2.1 hy
    have e : atD x.st d = saysD y d := by unfold atD; rw [if_pos h, hk]; simp only [Option.getD_some, List.getD_eq_getElem?_getD, hy]
    rw [e]
    refine ⟨b, o, k, h4, hN.symm, hkl, st mo ⟨y.cells, rfl, h5, st mo ?_⟩⟩
    refine ⟨_, fun nn => r_call (t := (saysD y d).y) rfl rfl Tryz.func201 (fun W M E => b_says y d fy ⟨hd, he⟩ W), st mo ⟨dk, st mo ?_⟩⟩
    rfl
end Go.Proofs.YtfmfeipeeedfpaaGreat
namespace Go.Proofs.YtfmfeipeeedfpaaGreat
open S
theorem map_mod {α β : Type} {f : α → α} {g : α → β} {h : β → β} (hh : ∀ x, g (f x) = h (g x)) : ∀ (l : List α) (i : Nat), (l.modify i f).map g = (l.map g).modify i h
  | [], i => by simp
  | x :: l, 0 => by simp [hh]
  | x :: l, i + 1 => by simp [map_mod hh l i]
/-- Its pairs as they lie there. -/
abbrev prs {κ : Type} (enc : κ → Value) (al : List (κ × Int)) : List (Value × Value) := al.map fun p => (enc p.1, .int .i64 p.2)
theorem key_at {κ : Type} {enc : κ → Value} {al : List (κ × Int)} {es : Array MapEntry} (he : es.toList.map (fun e => (e.key, e.val)) = prs enc al) {a : κ} {j : Nat} (h4 : (al[j]?).map (·.1) = some a) : (es[j]?).map (·.key) = some (enc a) := by
  have h6 := congrArg (fun L => (L[j]?).map (·.1)) he
  simp only [prs, List.getElem?_map, Option.map_map] at h6
  rw [← Array.getElem?_toList]
  have h7 : Option.map (fun e : MapEntry => e.key) es.toList[j]? = (al[j]?).map (fun p => enc p.1) := h6
  rw [h7]
  cases hj : al[j]? with
  | none => rw [hj] at h4; cases h4
  | some p => rw [hj] at h4; simp at h4; simp [h4]
section maps
variable {κ : Type} [DecidableEq κ]
/-- What a list of pairs says of a key. -/
def lkq : List (κ × Int) → κ → Option Int
  | [], _ => none
  | (b, u) :: r, a => if b = a then some u else lkq r a
/-- The first of a key is changed, or it comes at the end. -/
def putq : List (κ × Int) → κ → Int → List (κ × Int)
  | [], a, v => [(a, v)]
  | (b, u) :: r, a, v => if b = a then (a, v) :: r else (b, u) :: putq r a v
theorem putq_len : ∀ (al : List (κ × Int)) (a : κ) (v : Int), (putq al a v).length = if (lkq al a).isSome then al.length else al.length + 1
  | [], a, v => by simp [putq, lkq]
  | (b, u) :: r, a, v => by
    by_cases h : b = a
    · simp [putq, lkq, h]
    · simp only [putq, if_neg h, lkq, List.length_cons, putq_len r a v]; split <;> rfl
def fdq : List (κ × Int) → κ → Nat → Option (Nat × Value)
  | [], _, _ => none
  | (b, u) :: r, a, i => if b = a then some (i, .int .i64 u) else fdq r a (i + 1)
theorem fdq_none : ∀ (al : List (κ × Int)) (a : κ) (i : Nat), fdq al a i = none → lkq al a = none
  | [], _, _, _ => rfl
  | (b, u) :: r, a, i, h => by
    by_cases e : b = a
    · simp [fdq, e] at h
    · simp only [fdq, if_neg e] at h; simp only [lkq, if_neg e]; exact fdq_none r a (i + 1) h
theorem fdq_some : ∀ (al : List (κ × Int)) (a : κ) (i j : Nat) (v : Value), fdq al a i = some (j, v) → ∃ u, v = .int .i64 u ∧ lkq al a = some u ∧ i ≤ j ∧ (al[j - i]?).map (·.1) = some a ∧ ∀ x, putq al a x = al.modify (j - i) (fun _ => (a, x))
  | [], _, _, _, _, h => by cases h
  | (b, u) :: r, a, i, j, v, h => by
    by_cases e : b = a
    · simp only [fdq, if_pos e] at h; cases h; subst e
      exact ⟨u, rfl, by simp [lkq], Nat.le_refl _, by simp, fun x => by simp [putq]⟩
    · simp only [fdq, if_neg e] at h
      obtain ⟨u', h1, h2, h3, h4, h5⟩ := fdq_some r a (i + 1) j v h
      refine ⟨u', h1, by simp only [lkq, if_neg e]; exact h2, by omega, ?_, fun x => ?_⟩
      · rw [show j - i = (j - (i + 1)) + 1 by omega, List.getElem?_cons_succ]; exact h4
      · rw [show j - i = (j - (i + 1)) + 1 by omega]; simp only [putq, if_neg e, h5 x, List.modify_succ_cons]
theorem putq_none : ∀ (al : List (κ × Int)) (a : κ) (v : Int), lkq al a = none → putq al a v = al ++ [(a, v)]
  | [], _, _, _ => rfl
  | (b, u) :: r, a, v, h => by
    by_cases e : b = a
    · simp [lkq, e] at h
    · simp only [lkq, if_neg e] at h; simp only [putq, if_neg e, putq_none r a v h, List.cons_append]
/-- What keys are: how they are found. -/
structure KT (kt : TypeId) (enc : κ → Value) : Prop where
  fd : ∀ (a : κ) (es : List MapEntry) (al : List (κ × Int)) (w : World), es.map (fun e => (e.key, e.val)) = al.map (fun p => (enc p.1, .int .i64 p.2)) → (Instr.findKey kt (enc a) es).run Tryz.prog w = .ok (fdq al a 0) w
  ck : ∀ (e : Bool) (a : κ) (w : World), (Instr.checkKey e 10000 kt (enc a)).run Tryz.prog w = .ok () w
  sb : ∀ a, Instr.sameBits 10000 (enc a) (enc a) = true
def nof (al : List (κ × Int)) (a : κ) : Int := (lkq al a).getD 0
variable {enc : κ → Value}
theorem put_m {mt kt : TypeId} (K : KT kt enc) (hu : Tryz.prog.underlying mt = some (.map kt 3)) {al : List (κ × Int)} {W : World} {b : Nat} {es : Array MapEntry} (hb : MapAt W b es) (he : es.toList.map (fun e => (e.key, e.val)) = prs enc al) (a : κ) (x : Int) : ∃ es' : Array MapEntry, (Instr.mapUpdate mt (.map (some b)) (enc a) (.int .i64 x)).run Tryz.prog W = .ok () { W with heap := W.heap.setIfInBounds b (.map es' es'.size) } ∧ (∀ (j : Nat) (e : MapEntry), es'[j]? = some e → e.born = j) ∧ es'.toList.map (fun e => (e.key, e.val)) = prs enc (putq al a x) := by
  have hf := K.fd a es.toList al W he
  cases e : fdq al a 0 with
  | none =>
    rw [e] at hf
    refine ⟨es.push { key := enc a, val := .int .i64 x, born := es.size }, ?_, born_push hb.2, ?_⟩
    · unfold Instr.mapUpdate
      simp [run_underlying hu, MapKept.run_getObj_map hb.1, K.ck, hf, MapKept.run_setObj_map _ hb.1, Result.andThen]
    · rw [putq_none al a x (fdq_none al a 0 e)]
      simp [he, prs]
  | some q =>
    obtain ⟨j, v⟩ := q
    rw [e] at hf
    obtain ⟨u, rfl, h2, _, h4, h5⟩ := fdq_some al a 0 j v e
    rw [Nat.sub_zero] at h4 h5
    have hkey := key_at he h4
    refine ⟨es.modify j fun e => { e with key := enc a, val := .int .i64 x }, ?_, born_mod hb.2 (fun _ => rfl), ?_⟩
    · unfold Instr.mapUpdate
      simp only [Sem.run_bind, run_underlying hu, MapKept.run_getObj_map hb.1, K.ck, hf, Result.andThen_ok, hkey, Option.getD_some, Instr.keyThatStays, K.sb a, if_true, Sem.run_pure, MapKept.run_setObj_map _ hb.1, Array.size_modify]
    · rw [h5 x, Array.toList_modify]
      exact (map_mod (f := fun e : MapEntry => { e with key := enc a, val := .int .i64 x }) (g := fun e => (e.key, e.val)) (h := fun _ => (enc a, .int .i64 x)) (fun _ => rfl) es.toList j).trans (by rw [he]; exact (map_mod (f := fun _ => (a, x)) (g := fun p : κ × Int => (enc p.1, Value.int .i64 p.2)) (h := fun _ => (enc a, .int .i64 x)) (fun _ => rfl) al j).symm)
end maps
theorem beq_dec (a b : ByteArray) : (a == b) = decide (a = b) := by
  by_cases h : a = b
  · rw [decide_eq_true h]; exact (MapKept.bytes_beq a b).2 h
  · rw [decide_eq_false h]
    cases e : (a == b) with
    | false => rfl
    | true => exact absurd ((MapKept.bytes_beq a b).1 e) h
theorem kt_now {κ : Type} [DecidableEq κ] {kt : TypeId} {d : TypeDesc} {enc : κ → Value} (hu : Tryz.prog.underlying kt = some d) (hs : ∀ a b : κ, Instr.sameNow d (enc a) (enc b) = some (decide (a = b))) (a : κ) (es : List MapEntry) (al : List (κ × Int)) (w : World) (h : es.map (fun e => (e.key, e.val)) = al.map (fun p => (enc p.1, .int .i64 p.2))) : (Instr.findKey kt (enc a) es).run Tryz.prog w = .ok (fdq al a 0) w := by
  have key : ∀ (es : List MapEntry) (al : List (κ × Int)) (i : Nat), es.map (fun e => (e.key, e.val)) = al.map (fun p => (enc p.1, .int .i64 p.2)) → Instr.findNow d (enc a) es i = some (fdq al a i) := by
    intro es
    induction es with
    | nil => intro al i h; cases al with
      | nil => rfl
      | cons _ _ => simp at h
    | cons e es ih =>
      intro al i h
      cases al with
      | nil => simp at h
      | cons p al =>
        simp only [List.map_cons, List.cons.injEq, Prod.mk.injEq] at h
        obtain ⟨⟨h1, h2⟩, h3⟩ := h
        obtain ⟨q, u⟩ := p
        unfold Instr.findNow
        rw [h1, hs a q]
        by_cases e2 : a = q
        · subst e2; simp [fdq, h2]
        · simp only [decide_eq_false e2, fdq, if_neg (fun e3 => e2 (Eq.symm e3))]; exact ih al (i + 1) h3
  unfold Instr.findKey
  rw [Sem.run_bind, run_underlying hu, Result.andThen_ok, key es al 0 h]
  rfl
theorem kt_ask {κ : Type} [DecidableEq κ] {kt : TypeId} {d : TypeDesc} {enc : κ → Value} (hu : Tryz.prog.underlying kt = some d) (hs : ∀ (a b : κ), Instr.sameNow d (enc a) (enc b) = none) (he : ∀ (a b : κ) (w : World), (Op.equal kt (enc a) (enc b)).run Tryz.prog w = .ok (decide (a = b)) w) (a : κ) (es : List MapEntry) (al : List (κ × Int)) (w : World) (h : es.map (fun e => (e.key, e.val)) = al.map (fun p => (enc p.1, .int .i64 p.2))) : (Instr.findKey kt (enc a) es).run Tryz.prog w = .ok (fdq al a 0) w := by
  have key : ∀ (es : List MapEntry) (al : List (κ × Int)) (i : Nat), es.map (fun e => (e.key, e.val)) = al.map (fun p => (enc p.1, .int .i64 p.2)) → (Instr.findAsking kt (enc a) es i).run Tryz.prog w = .ok (fdq al a i) w := by
    intro es
    induction es with
    | nil => intro al i h; cases al with
      | nil => rfl
      | cons _ _ => simp at h
    | cons e es ih =>
      intro al i h
      cases al with
      | nil => simp at h
      | cons p al =>
        simp only [List.map_cons, List.cons.injEq, Prod.mk.injEq] at h
        obtain ⟨⟨h1, h2⟩, h3⟩ := h
        obtain ⟨q, u⟩ := p
        unfold Instr.findAsking
        rw [Sem.run_bind, h1, he a q w, Result.andThen_ok]
        by_cases e2 : a = q
        · subst e2; simp [fdq, h2, Sem.run_pure]
        · simp only [decide_eq_false e2, fdq, if_neg (fun e3 => e2 (Eq.symm e3))]; exact ih al (i + 1) h3
  unfold Instr.findKey
  rw [Sem.run_bind, run_underlying hu, Result.andThen_ok]
  cases es with
  | nil => cases al with
    | nil => rfl
    | cons _ _ => simp at h
  | cons e es =>
    cases al with
    | nil => simp at h
    | cons p al =>
      have h' := h
      simp only [List.map_cons, List.cons.injEq, Prod.mk.injEq] at h'
      have : Instr.findNow d (enc a) (e :: es) 0 = none := by unfold Instr.findNow; rw [h'.1.1, hs]
      rw [this]
      exact key (e :: es) (p :: al) 0 h
/-- A name as a key. -/
abbrev es9 (s : ByteArray) : Value := .string s
theorem kt9 : KT 9 es9 where
  fd := kt_now Tryz.underlying9 (fun a b => by show some (a == b) = _; rw [beq_dec])
  ck := fun e a w => by cases e <;> kernel_rfl
  sb := fun a => by show (a == a) = true; rw [beq_dec]; simp
/-- A column as a key. -/
abbrev es53 (p : ByteArray × ByteArray) : Value := .agg #[.string p.1, .string p.2]
theorem ht53 : Tryz.prog.underlying 53 = some (.struct (Tryz.prog.fieldsOf 53)) := by kernel_rfl
theorem hp53 : Tryz.prog.stoodInHeld 53 = false := by kernel_rfl
theorem fo53 : (Tryz.prog.fieldsOf 53).toList.map (fun f => (f.name, f.type, f.offset)) = [("Section", 9, 0), ("Name", 9, 1)] := by kernel_rfl
theorem p53_0 (x0 x1 : Value) (w : World) : (part 9 #[x0, x1] 0).run Tryz.prog w = .ok x0 w := by kernel_rfl
theorem p53_1 (x0 x1 : Value) (w : World) : (part 9 #[x0, x1] 1).run Tryz.prog w = .ok x1 w := by kernel_rfl
theorem eq53 (p q : ByteArray × ByteArray) (w : World) : (Op.equalIn 10000 53 (es53 p) (es53 q)).run Tryz.prog w = .ok (decide (p = q)) w := by
  obtain ⟨a, b⟩ := p
  obtain ⟨c, d⟩ := q
  rw [show (10000 : Nat) = 9999 + 1 from rfl, run_equalIn_struct w 9999 53 _ _ ht53 hp53]
  have h := fo53
  generalize (Tryz.prog.fieldsOf 53).toList = L at h
  have hl : L.length = 2 := by have := congrArg List.length h; simpa using this
  match L, hl with
  | [f0, f1], _ =>
    simp at h
    obtain ⟨⟨a0, a1, a2⟩, ⟨b0, b1, b2⟩⟩ := h
    have q4 : ∀ t t' : ByteArray, (Op.equalIn 9999 9 (.string t) (.string t')).run Tryz.prog w = .ok (decide (t = t')) w := fun t t' => by rw [← beq_dec]; kernel_rfl
    simp only [Op.eqFields, a0, a1, a2, b0, b1, b2]
    by_cases h1 : a = c <;> by_cases h2 : b = d <;> simp [Sem.run_bind, p53_0, p53_1, Result.andThen_ok, q4, h1, h2, Sem.run_pure]
theorem kt53 : KT 53 es53 where
  fd := kt_ask ht53 (fun _ _ => rfl) (fun a b w => eq53 a b w)
  ck := fun e a w => by cases e <;> kernel_rfl
  sb := fun a => by
    show ((2 == 2) && ((a.1 == a.1) && ((a.2 == a.2) && true))) = true
    rw [beq_dec, beq_dec]; simp
section
variable {κ β : Type} [DecidableEq κ]
/-- What a list of pairs says of a key. -/
def lkB : List (κ × β) → κ → Option β
  | [], _ => none
  | (b, u) :: r, a => if b = a then some u else lkB r a
def putB : List (κ × β) → κ → β → List (κ × β)
  | [], a, v => [(a, v)]
  | (b, u) :: r, a, v => if b = a then (a, v) :: r else (b, u) :: putB r a v
def fdB : List (κ × β) → κ → Nat → Option (Nat × β)
  | [], _, _ => none
  | (b, u) :: r, a, i => if b = a then some (i, u) else fdB r a (i + 1)
theorem lkB_put : ∀ (al : List (κ × β)) (a : κ) (v : β) (c : κ), lkB (putB al a v) c = if a = c then some v else lkB al c
  | [], a, v, c => by simp [putB, lkB]
  | (b, u) :: r, a, v, c => by
    by_cases h : b = a
    · subst h; by_cases h2 : b = c <;> simp [putB, lkB, h2]
    · simp only [putB, if_neg h, lkB, lkB_put r a v c]
      by_cases h2 : b = c
      · subst h2; have h3 : ¬ a = b := fun e => h (Eq.symm e); simp [h3]
      · simp [h2]
theorem fdB_none : ∀ (al : List (κ × β)) (a : κ) (i : Nat), fdB al a i = none → lkB al a = none
  | [], _, _, _ => rfl
  | (b, u) :: r, a, i, h => by
    by_cases e : b = a
    · simp [fdB, e] at h
    · simp only [fdB, if_neg e] at h; simp only [lkB, if_neg e]; exact fdB_none r a (i + 1) h
theorem fdB_some : ∀ (al : List (κ × β)) (a : κ) (i j : Nat) (v : β), fdB al a i = some (j, v) → lkB al a = some v ∧ i ≤ j ∧ (al[j - i]?).map (·.1) = some a ∧ ∀ x, putB al a x = al.modify (j - i) (fun _ => (a, x))
  | [], _, _, _, _, h => by cases h
  | (b, u) :: r, a, i, j, v, h => by
    by_cases e : b = a
    · simp only [fdB, if_pos e] at h; cases h; subst e
      exact ⟨by simp [lkB], Nat.le_refl _, by simp, fun x => by simp [putB]⟩
    · simp only [fdB, if_neg e] at h
      obtain ⟨h2, h3, h4, h5⟩ := fdB_some r a (i + 1) j v h
      refine ⟨by simp only [lkB, if_neg e]; exact h2, by omega, ?_, fun x => ?_⟩
      · rw [show j - i = (j - (i + 1)) + 1 by omega, List.getElem?_cons_succ]; exact h4
      · rw [show j - i = (j - (i + 1)) + 1 by omega]; simp only [putB, if_neg e, h5 x, List.modify_succ_cons]
theorem putB_none : ∀ (al : List (κ × β)) (a : κ) (v : β), lkB al a = none → putB al a v = al ++ [(a, v)]
  | [], _, _, _ => rfl
  | (b, u) :: r, a, v, h => by
    by_cases e : b = a
    · simp [lkB, e] at h
    · simp only [lkB, if_neg e] at h; simp only [putB, if_neg e, putB_none r a v h, List.cons_append]
end
/-- A map's pairs as they lie there. -/
abbrev prB {κ β : Type} (enc : κ → Value) (ev : β → Value) (al : List (κ × β)) : List (Value × Value) := al.map fun p => (enc p.1, ev p.2)
/-- What keys are: how they are found. -/
structure KB {κ : Type} [DecidableEq κ] (kt : TypeId) (enc : κ → Value) : Prop where
  fd : ∀ (β : Type) (ev : β → Value) (a : κ) (es : List MapEntry) (al : List (κ × β)) (w : World), es.map (fun e => (e.key, e.val)) = prB enc ev al → (Instr.findKey kt (enc a) es).run Tryz.prog w = .ok ((fdB al a 0).map fun q => (q.1, ev q.2)) w
  ck : ∀ (e : Bool) (a : κ) (w : World), (Instr.checkKey e 10000 kt (enc a)).run Tryz.prog w = .ok () w
  sb : ∀ a, Instr.sameBits 10000 (enc a) (enc a) = true
section
variable {κ : Type} [DecidableEq κ] {kt : TypeId} {d : TypeDesc} {enc : κ → Value}
theorem kb_now (hu : Tryz.prog.underlying kt = some d) (hs : ∀ a b : κ, Instr.sameNow d (enc a) (enc b) = some (decide (a = b))) (β : Type) (ev : β → Value) (a : κ) (es : List MapEntry) (al : List (κ × β)) (w : World) (h : es.map (fun e => (e.key, e.val)) = prB enc ev al) : (Instr.findKey kt (enc a) es).run Tryz.prog w = .ok ((fdB al a 0).map fun q => (q.1, ev q.2)) w := by
  have key : ∀ (es : List MapEntry) (al : List (κ × β)) (i : Nat), es.map (fun e => (e.key, e.val)) = prB enc ev al → Instr.findNow d (enc a) es i = some ((fdB al a i).map fun q => (q.1, ev q.2)) := by
    intro es
    induction es with
    | nil => intro al i h; cases al with
      | nil => rfl
      | cons _ _ => simp [prB] at h
    | cons e es ih =>
      intro al i h
      cases al with
      | nil => simp [prB] at h
      | cons p al =>
        simp only [prB, List.map_cons, List.cons.injEq, Prod.mk.injEq] at h
        obtain ⟨⟨h1, h2⟩, h3⟩ := h
        obtain ⟨q, u⟩ := p
        unfold Instr.findNow
        rw [h1, hs a q]
        by_cases e2 : a = q
        · subst e2; simp [fdB, h2]
        · simp only [decide_eq_false e2, fdB, if_neg (fun e3 => e2 (Eq.symm e3))]; exact ih al (i + 1) h3
  unfold Instr.findKey
  rw [Sem.run_bind, run_underlying hu, Result.andThen_ok, key es al 0 h]
  rfl
theorem kb_ask (hu : Tryz.prog.underlying kt = some d) (hs : ∀ (a b : κ), Instr.sameNow d (enc a) (enc b) = none) (he : ∀ (a b : κ) (w : World), (Op.equal kt (enc a) (enc b)).run Tryz.prog w = .ok (decide (a = b)) w) (β : Type) (ev : β → Value) (a : κ) (es : List MapEntry) (al : List (κ × β)) (w : World) (h : es.map (fun e => (e.key, e.val)) = prB enc ev al) : (Instr.findKey kt (enc a) es).run Tryz.prog w = .ok ((fdB al a 0).map fun q => (q.1, ev q.2)) w := by
  have key : ∀ (es : List MapEntry) (al : List (κ × β)) (i : Nat), es.map (fun e => (e.key, e.val)) = prB enc ev al → (Instr.findAsking kt (enc a) es i).run Tryz.prog w = .ok ((fdB al a i).map fun q => (q.1, ev q.2)) w := by
    intro es
    induction es with
    | nil => intro al i h; cases al with
      | nil => rfl
      | cons _ _ => simp [prB] at h
    | cons e es ih =>
      intro al i h
      cases al with
      | nil => simp [prB] at h
      | cons p al =>
        simp only [prB, List.map_cons, List.cons.injEq, Prod.mk.injEq] at h
        obtain ⟨⟨h1, h2⟩, h3⟩ := h
        obtain ⟨q, u⟩ := p
        unfold Instr.findAsking
        rw [Sem.run_bind, h1, he a q w, Result.andThen_ok]
        by_cases e2 : a = q
        · subst e2; simp [fdB, h2, Sem.run_pure]
        · simp only [decide_eq_false e2, fdB, if_neg (fun e3 => e2 (Eq.symm e3))]; exact ih al (i + 1) h3
  unfold Instr.findKey
  rw [Sem.run_bind, run_underlying hu, Result.andThen_ok]
  cases es with
  | nil => cases al with
    | nil => rfl
    | cons _ _ => simp [prB] at h
  | cons e es =>
    cases al with
    | nil => simp [prB] at h
    | cons p al =>
      have h' := h
      simp only [prB, List.map_cons, List.cons.injEq, Prod.mk.injEq] at h'
      have : Instr.findNow d (enc a) (e :: es) 0 = none := by unfold Instr.findNow; rw [h'.1.1, hs]
      rw [this]
      exact key (e :: es) (p :: al) 0 h
end
theorem kb9 : KB 9 es9 where
  fd := kb_now Tryz.underlying9 (fun a b => by show some (a == b) = _; rw [beq_dec])
  ck := kt9.ck
  sb := kt9.sb
theorem kb53 : KB 53 es53 where
  fd := kb_ask ht53 (fun _ _ => rfl) (fun a b w => eq53 a b w)
  ck := kt53.ck
  sb := kt53.sb
/-- A map that came in: none, or what lies there. -/
def MapV {κ β : Type} (X : World) (enc : κ → Value) (ev : β → Value) (v : Value) (al : List (κ × β)) : Prop := (v = .map none ∧ al = []) ∨ ∃ b es n, v = .map (some b) ∧ X.heap[b]? = some (.map es n) ∧ es.toList.map (fun e => (e.key, e.val)) = prB enc ev al
theorem MapV.mono {κ β : Type} {enc : κ → Value} {ev : β → Value} {X W : World} {v : Value} {al : List (κ × β)} (h : MapV X enc ev v al) (E : ∀ (b : Nat) es n, X.heap[b]? = some (.map es n) → W.heap[b]? = some (.map es n)) : MapV W enc ev v al := by
  rcases h with h | ⟨b, es, n, h1, h2, h3⟩
  · exact Or.inl h
  · exact Or.inr ⟨b, es, n, h1, E _ _ _ h2, h3⟩
section
variable {κ β : Type} [DecidableEq κ] {mt kt vt : TypeId} {enc : κ → Value} {ev : β → Value} {z : Value}
theorem lookV (K : KB kt enc) (hu : Tryz.prog.underlying mt = some (.map kt vt)) {X : World} (hz : (zeroValue vt).run Tryz.prog X = .ok z X) {v : Value} {al : List (κ × β)} (h : MapV X enc ev v al) (a : κ) (ok : Bool) : (Instr.lookup mt v (enc a) ok).run Tryz.prog X = .ok (if ok then .tuple #[((lkB al a).map ev).getD z, .bool (lkB al a).isSome] else ((lkB al a).map ev).getD z) X := by
  rcases h with ⟨rfl, rfl⟩ | ⟨b, es, n, rfl, h2, h3⟩
  · have hf := K.fd β ev a [] [] X rfl
    have hc := K.ck true a X
    unfold Instr.lookup
    cases ok <;> simp [run_underlying hu, hc, hf, hz, Result.andThen, fdB, lkB]
  · have hf := K.fd β ev a es.toList al X h3
    unfold Instr.lookup
    cases e : fdB al a 0 with
    | none =>
      rw [e] at hf
      rw [fdB_none al a 0 e]
      cases ok <;> simp [run_underlying hu, MapKept.run_getObj_map h2, K.ck, hf, hz, Result.andThen]
    | some q =>
      obtain ⟨j, u⟩ := q
      rw [e] at hf
      rw [(fdB_some al a 0 j u e).1]
      cases ok <;> simp [run_underlying hu, MapKept.run_getObj_map h2, K.ck, hf, Result.andThen]
end
end Go.Proofs.YtfmfeipeeedfpaaGreat
namespace Go.Proofs.YtfmfeipeeedfpaaGreat
open S Go.RowKit
/-- A column: its sum, its scale. -/
structure CL where
  m : SM
  s : Int
def CL.cells (c : CL) : List Value := c.m.cells ++ [.int .i64 c.s]
abbrev CL.v (c : CL) : Value := .agg c.cells.toArray
def sm0 : SM := ⟨0, 0, 0, 0, 0, 0, 0, 0, 0, 0, false, false, 0, 0, false, 0, 0⟩
def cl0 : CL := ⟨sm0, 0⟩
/-- What is handed in to evaluate in: names, columns, tables. -/
structure Ev where
  nm : Option Nat
  cm : Option Nat
  tp : Option Addr
  cp : Nat
  N : List (ByteArray × VL)
  C : List ((ByteArray × ByteArray) × CL)
  tb : List Tb
abbrev Ev.cells (e : Ev) : List Value := [.map e.nm, .map e.cm, .slice e.tp e.tb.length e.cp]
abbrev Ev.v (e : Ev) : Value := .agg e.cells.toArray
abbrev Ev.y (e : Ev) : Value := .agg (e.cells.map rel1).toArray
structure EvL (X : World) (e : Ev) : Prop where
  n : MapV X es9 VL.v (.map e.nm) e.N
  c : MapV X es53 CL.v (.map e.cm) e.C
  no : ∀ p ∈ e.N, p.2.ok
  co : ∀ p ∈ e.C, p.2.m.ok
  sl : ∀ i t, e.tb[i]? = some t → ∃ b o, e.tp = some ⟨b, o, none⟩ ∧ Lies X b (o + i * 2) t.cells
  tl : ∀ t ∈ e.tb, TbL X t
  ln : e.tb.length ≤ 9223372036854775807
theorem EvL.mono {X W : World} {e : Ev} (h : EvL X e) (E : ∀ a u, X.cell? a = some u → W.cell? a = some u) (M : ∀ (b : Nat) es n, X.heap[b]? = some (.map es n) → W.heap[b]? = some (.map es n)) : EvL W e :=
  ⟨h.n.mono M, h.c.mono M, h.no, h.co, fun i t ht => by obtain ⟨b, o, h1, h2⟩ := h.sl i t ht; exact ⟨b, o, h1, fun j u hj => E _ _ (h2 j u hj)⟩, fun t ht => (h.tl t ht).mono E, h.ln⟩
theorem hole_map {X : World} {es : Array MapEntry} {n : Nat} : Obj.map es n ≠ hole X := fun e => by unfold hole at e; cases e
theorem EvL.xf {X X' : World} {e : Ev} (h : EvL X e) (hX : Xf X' X) : EvL X' e := h.mono (xce hX) (fun b _ _ hb => (hX.2 b _ hb hole_map).1)
theorem EvL.mb {X W : World} {e : Ev} (h : EvL X e) (M : Mb X W) (E : ∀ a u, X.cell? a = some u → W.cell? a = some u) : EvL W e := h.mono E (fun b _ _ hb => by rw [M.block b (Array.getElem?_eq_some_iff.1 hb).1]; exact hb)
theorem EvL.at {X : World} {e : Ev} (h : EvL X e) {i : Nat} (hi : i < e.tb.length) : ∃ t, e.tb[i]? = some t ∧ TbL X t ∧ ∃ b o, e.tp = some ⟨b, o, none⟩ ∧ Lies X b (o + i * 2) t.cells := by
  obtain ⟨t, ht⟩ := get_of_lt hi
  exact ⟨t, ht, h.tl t (List.mem_of_getElem? ht), h.sl i t ht⟩
/-- The value that an expression holds. -/
def Ex.val (x : Ex) : VL := ⟨x.vk, x.ng, vl x.l0 x.l1 x.l2 x.l3, x.vs, x.fl, x.tx, x.er⟩
/-- Its limbs are limbs. -/
def Ex.u4 (x : Ex) : Prop := U4 x.l0 x.l1 x.l2 x.l3
theorem Ex.u4.ok {x : Ex} (h : x.u4) : x.val.ok := vl_bd h
theorem Ex.u4.cells {x : Ex} (h : x.u4) : x.val.cells = [.int .i64 x.vk, .bool x.ng, .int .u64 x.l0, .int .u64 x.l1, .int .u64 x.l2, .int .u64 x.l3, .int .i64 x.vs, .bool x.fl, .string x.tx, .int .i64 x.er] := by
  unfold VL.cells Ex.val; dsimp only; rw [l0_vl h, l1_vl h, l2_vl h, l3_vl h]
def XU : Nat → Ex → Prop
  | 0, x => x.u4
  | d + 1, x => x.u4 ∧ ∀ y ∈ x.a, XU d y
theorem XU.u {d : Nat} {x : Ex} (h : XU d x) : x.u4 := by cases d with
  | zero => exact h
  | succ d => exact h.1
/-- How many arguments a node must have. -/
def whN (x : Ex) : Option Nat := if x.k = 1 ∨ x.k = 2 ∨ x.k = 10 then some 0 else if x.k = 3 ∨ x.k = 4 ∨ x.k = 7 ∨ x.k = 8 ∨ x.k = 9 then some 1 else if x.k = 5 then some 2 else if x.k = 6 then some 3 else none
def whl (x : Ex) : Bool := decide (whN x = some x.a.length)
def tabE (e : Ev) (s : ByteArray) : Option Tb := e.tb.find? (fun t => decide (t.nm = s))
def frmE (e : Ev) (s : ByteArray) (d : Dn) : VL := match tabE e s with
  | none => vBad 2
  | some t => if (atD t.st d).e = 0 then vNu (atD t.st d).b (atD t.st d).n (atD t.st d).s else if (atD t.st d).e = 141 then vBad 5 else if (atD t.st d).e = 7 then vBad 1 else vBad 2
def brkE (e : Ev) (s : ByteArray) (v : VL) : VL := if v.k = 4 then v else if v.k = 0 then vBad 3 else if v.k = 1 then frmE e s ⟨v.b, v.n, v.s⟩ else vBad 2
/-- The column that an aggregate asks for. -/
def colE (x : Ex) : ByteArray × ByteArray := if x.op = 16 then (x.sc, E0) else (x.sc, x.nm)
def aggE (e : Ev) (x : Ex) : VL := mayV (agV x.op ((lkB e.C (colE x)).getD cl0).m ((lkB e.C (colE x)).getD cl0).s)
def nodE (e : Ev) (x : Ex) (a : Nat → VL) : VL :=
  if x.k = 1 then mayV x.val else if x.k = 2 then mayV ((lkB e.N x.nm).getD vBl) else if x.k = 3 then negV (a 0) else if x.k = 4 then notV (a 0) else if x.k = 5 then opV x.op (a 0) (a 1) else if x.k = 6 then ifV (a 0) (a 1) (a 2)
  else if x.k = 7 then rndV (a 0) x.s x.pl else if x.k = 8 then brkE e x.nm (a 0) else if x.k = 9 then blkV (a 0) else aggE e x
def evE (e : Ev) : Nat → Ex → VL
  | 0, x => if whl x then nodE e x (fun _ => vBl) else vBad 2
  | d + 1, x => if whl x then nodE e x (fun j => ((x.a[j]?).map (evE e d)).getD vBl) else vBad 2
set_option maxRecDepth 20000 in
theorem f_may (v : VL) (hv : v.ok) (w : World) : Calls Tryz.prog 91 #[v.v] w fun r W => r = .returned (mayV v).v ∧ Mb w W := by
  refine fn_pure [v.y] Tryz.func91 rfl rfl rfl (run_ok (st mo ?_))
  refine ⟨_, fun nn => r_call (t := .int .i64 (ckI v)) rfl rfl Tryz.func77 (fun W M E => p_check v hv W), st mo ⟨fun h => st mo ?_, fun h => st mo ?_⟩⟩
  · refine ⟨_, fun nn => r_call (t := (vBad 2).y) rfl rfl Tryz.func44 (fun W M E => p_bad 2 W), st mo ?_⟩
    show _ = _; rw [mayV, if_neg (by rw [ckI_1 h]; decide)]; rfl
  · show _ = _; rw [mayV, if_pos (ckI_0 h)]; rfl
set_option maxRecDepth 20000 in
theorem f_whole (x : Ex) (w : World) : Calls Tryz.prog 60 #[.agg x.c.toArray] w fun r W => r = .returned (.bool (whl x)) ∧ Mb w W := by
  refine fn_pure [.agg (x.c.map rel1).toArray] Tryz.func60 rfl rfl rfl (run_ok (st mo ?_))
  refine ⟨fun h1 => st mo (st mo ⟨fun h => st mo ?_, fun h => st mo ?_⟩), fun h1 => st mo ?_⟩
  · show _ = _; rw [whl, whN, if_pos (by omega), decide_eq_true (by congr 1; omega)]
  · show _ = _; rw [whl, whN, if_pos (by omega), decide_eq_false (by intro q; injection q; omega)]
  refine ⟨fun h2 => st mo (st mo ⟨fun h => st mo ?_, fun h => st mo ?_⟩), fun h2 => st mo ?_⟩
  · show _ = _; rw [whl, whN, if_pos (by omega), decide_eq_true (by congr 1; omega)]
  · show _ = _; rw [whl, whN, if_pos (by omega), decide_eq_false (by intro q; injection q; omega)]
  refine ⟨fun h10 => st mo (st mo ⟨fun h => st mo ?_, fun h => st mo ?_⟩), fun h10 => st mo ?_⟩
  · show _ = _; rw [whl, whN, if_pos (by omega), decide_eq_true (by congr 1; omega)]
  · show _ = _; rw [whl, whN, if_pos (by omega), decide_eq_false (by intro q; injection q; omega)]
  refine ⟨fun h3 => st mo (st mo ⟨fun h => st mo ?_, fun h => st mo ?_⟩), fun h3 => st mo ?_⟩
  · show _ = _; rw [whl, whN, if_neg (by omega), if_pos (by omega), decide_eq_true (by congr 1; omega)]
  · show _ = _; rw [whl, whN, if_neg (by omega), if_pos (by omega), decide_eq_false (by intro q; injection q; omega)]
  refine ⟨fun h4 => st mo (st mo ⟨fun h => st mo ?_, fun h => st mo ?_⟩), fun h4 => st mo ?_⟩
  · show _ = _; rw [whl, whN, if_neg (by omega), if_pos (by omega), decide_eq_true (by congr 1; omega)]
  · show _ = _; rw [whl, whN, if_neg (by omega), if_pos (by omega), decide_eq_false (by intro q; injection q; omega)]
  refine ⟨fun h7 => st mo (st mo ⟨fun h => st mo ?_, fun h => st mo ?_⟩), fun h7 => st mo ?_⟩
  · show _ = _; rw [whl, whN, if_neg (by omega), if_pos (by omega), decide_eq_true (by congr 1; omega)]
  · show _ = _; rw [whl, whN, if_neg (by omega), if_pos (by omega), decide_eq_false (by intro q; injection q; omega)]
  refine ⟨fun h8 => st mo (st mo ⟨fun h => st mo ?_, fun h => st mo ?_⟩), fun h8 => st mo ?_⟩
  · show _ = _; rw [whl, whN, if_neg (by omega), if_pos (by omega), decide_eq_true (by congr 1; omega)]
  · show _ = _; rw [whl, whN, if_neg (by omega), if_pos (by omega), decide_eq_false (by intro q; injection q; omega)]
  refine ⟨fun h9 => st mo (st mo ⟨fun h => st mo ?_, fun h => st mo ?_⟩), fun h9 => st mo ?_⟩
  · show _ = _; rw [whl, whN, if_neg (by omega), if_pos (by omega), decide_eq_true (by congr 1; omega)]
  · show _ = _; rw [whl, whN, if_neg (by omega), if_pos (by omega), decide_eq_false (by intro q; injection q; omega)]
  refine ⟨fun h5 => st mo (st mo ⟨fun h => st mo ?_, fun h => st mo ?_⟩), fun h5 => st mo ?_⟩
  · show _ = _; rw [whl, whN, if_neg (by omega), if_neg (by omega), if_pos h5, decide_eq_true (by congr 1; omega)]
  · show _ = _; rw [whl, whN, if_neg (by omega), if_neg (by omega), if_pos h5, decide_eq_false (by intro q; injection q; omega)]
  refine ⟨fun h6 => st mo (st mo ⟨fun h => st mo ?_, fun h => st mo ?_⟩), fun h6 => st mo ?_⟩
  · show _ = _; rw [whl, whN, if_neg (by omega), if_neg (by omega), if_neg h5, if_pos h6, decide_eq_true (by congr 1; omega)]
  · show _ = _; rw [whl, whN, if_neg (by omega), if_neg (by omega), if_neg h5, if_pos h6, decide_eq_false (by intro q; injection q; omega)]
  show _ = _; rw [whl, whN, if_neg (by omega), if_neg (by omega), if_neg h5, if_neg h6]; rfl
theorem f_whole' {x : Ex} {b : Bool} (h : whl x = b) (w : World) : Calls Tryz.prog 60 #[.agg x.c.toArray] w fun r W => r = .returned (.bool b) ∧ Mb w W := h ▸ f_whole x w
set_option maxRecDepth 20000 in
theorem f_col (x : Ex) (w : World) : Calls Tryz.prog 52 #[.agg x.c.toArray] w fun r W => r = .returned (es53 (colE x)) ∧ Mb w W := by
  refine fn_pure [.agg (x.c.map rel1).toArray] Tryz.func52 rfl rfl rfl (run_ok (st mo ?_))
  refine ⟨fun h => st mo ?_, fun h => st mo ?_⟩
  · show _ = _; rw [colE, if_pos h]; rfl
  · show _ = _; rw [colE, if_neg h]; rfl
end Go.Proofs.YtfmfeipeeedfpaaGreat
namespace Go.Proofs.YtfmfeipeeedfpaaGreat
open S
/-- Each was met, and all are few. -/
structure Iv {κ : Type} (al : List (κ × Int)) (c : Nat) : Prop where
  p : ∀ q ∈ al, 1 ≤ q.2 ∧ q.2 ≤ (c : Int)
  l : al.length ≤ c
theorem Iv.up {κ : Type} {al : List (κ × Int)} {c c' : Nat} (h : Iv al c) (hc : c ≤ c') : Iv al c' := ⟨fun q hq => by have := h.p q hq; omega, by have := h.l; omega⟩
/-- What an expression's nodes are, counted. -/
def nds : Nat → Ex → Nat
  | 0, _ => 1
  | d + 1, x => x.a.foldl (fun n y => n + nds d y) 1
section
variable {κ : Type} [DecidableEq κ]
def stp (al : List (κ × Int)) (a : κ) : List (κ × Int) := putq al a (nof al a + 1)
def one (kx : Ex → Option κ) (x : Ex) (al : List (κ × Int)) : List (κ × Int) := match kx x with
  | some a => stp al a
  | none => al
theorem lkq_mem : ∀ {al : List (κ × Int)} {a : κ} {v : Int}, lkq al a = some v → (a, v) ∈ al
  | [], _, _, h => by cases h
  | (b, u) :: r, a, v, h => by
    by_cases e : b = a
    · simp [lkq, e] at h; simp [e, h]
    · simp only [lkq, if_neg e] at h; exact List.mem_cons_of_mem _ (lkq_mem h)
theorem putq_mem : ∀ {al : List (κ × Int)} {a : κ} {v : Int} {q : κ × Int}, q ∈ putq al a v → q = (a, v) ∨ q ∈ al
  | [], a, v, q, h => by simp [putq] at h; exact Or.inl h
  | (b, u) :: r, a, v, q, h => by
    by_cases e : b = a
    · simp only [putq, if_pos e] at h; rcases List.mem_cons.1 h with h | h
      · exact Or.inl h
      · exact Or.inr (List.mem_cons_of_mem _ h)
    · simp only [putq, if_neg e] at h; rcases List.mem_cons.1 h with h | h
      · exact Or.inr (by rw [h]; exact List.mem_cons_self ..)
      · exact (putq_mem h).imp id (List.mem_cons_of_mem _)
theorem Iv.nof {al : List (κ × Int)} {c : Nat} (h : Iv al c) (a : κ) : 0 ≤ nof al a ∧ nof al a ≤ (c : Int) ∧ (_root_.Go.Proofs.YtfmfeipeeedfpaaGreat.nof al a = 0 → lkq al a = none) := by
  unfold _root_.Go.Proofs.YtfmfeipeeedfpaaGreat.nof
  cases e : lkq al a with
  | none => exact ⟨by simp, by simp, fun _ => rfl⟩
  | some v => have := h.p _ (lkq_mem e); exact ⟨by simp; omega, by simp; omega, fun h0 => by simp at h0; omega⟩
theorem Iv.stp {al : List (κ × Int)} {c : Nat} (h : Iv al c) (a : κ) : Iv (_root_.Go.Proofs.YtfmfeipeeedfpaaGreat.stp al a) (c + 1) := by
  have h0 := h.nof a
  refine ⟨fun q hq => ?_, ?_⟩
  · rcases putq_mem hq with rfl | hq
    · exact ⟨by show 1 ≤ _root_.Go.Proofs.YtfmfeipeeedfpaaGreat.nof al a + 1; omega, by show _root_.Go.Proofs.YtfmfeipeeedfpaaGreat.nof al a + 1 ≤ _; omega⟩
    · have := h.p q hq; omega
  · unfold _root_.Go.Proofs.YtfmfeipeeedfpaaGreat.stp; rw [putq_len]; have := h.l; split <;> omega
theorem Iv.one {kx : Ex → Option κ} {al : List (κ × Int)} {c : Nat} (h : Iv al c) (x : Ex) : Iv (_root_.Go.Proofs.YtfmfeipeeedfpaaGreat.one kx x al) (c + 1) := by
  unfold _root_.Go.Proofs.YtfmfeipeeedfpaaGreat.one
  split
  · exact h.stp _
  · exact h.up (by omega)
theorem fold_nds {d : Nat} : ∀ (l : List Ex) (c : Nat), l.foldl (fun n y => n + nds d y) c = c + l.foldl (fun n y => n + nds d y) 0
  | [], c => by simp
  | y :: l, c => by simp only [List.foldl_cons]; rw [fold_nds l (c + nds d y), fold_nds l (0 + nds d y)]; omega
end
theorem key_atB {κ β : Type} {enc : κ → Value} {ev : β → Value} {al : List (κ × β)} {es : Array MapEntry} (he : es.toList.map (fun e => (e.key, e.val)) = prB enc ev al) {a : κ} {j : Nat} (h4 : (al[j]?).map (·.1) = some a) : (es[j]?).map (·.key) = some (enc a) := by
  have h6 := congrArg (fun L => (L[j]?).map (·.1)) he
  simp only [prB, List.getElem?_map, Option.map_map] at h6
  rw [← Array.getElem?_toList]
  have h7 : Option.map (fun e : MapEntry => e.key) es.toList[j]? = (al[j]?).map (fun p => enc p.1) := h6
  rw [h7]
  cases hj : al[j]? with
  | none => rw [hj] at h4; cases h4
  | some p => rw [hj] at h4; simp at h4; simp [h4]
section
variable {κ β : Type} [DecidableEq κ] {mt kt vt : TypeId} {enc : κ → Value} {ev : β → Value} {z : Value}
theorem put_B (K : KB kt enc) (hu : Tryz.prog.underlying mt = some (.map kt vt)) {al : List (κ × β)} {W : World} {b : Nat} {es : Array MapEntry} (hb : MapAt W b es) (he : es.toList.map (fun e => (e.key, e.val)) = prB enc ev al) (a : κ) (x : β) : ∃ es' : Array MapEntry, (Instr.mapUpdate mt (.map (some b)) (enc a) (ev x)).run Tryz.prog W = .ok () { W with heap := W.heap.setIfInBounds b (.map es' es'.size) } ∧ (∀ (j : Nat) (e : MapEntry), es'[j]? = some e → e.born = j) ∧ es'.toList.map (fun e => (e.key, e.val)) = prB enc ev (putB al a x) := by
  have hf := K.fd β ev a es.toList al W he
  cases e : fdB al a 0 with
  | none =>
    rw [e] at hf
    refine ⟨es.push { key := enc a, val := ev x, born := es.size }, ?_, born_push hb.2, ?_⟩
    · unfold Instr.mapUpdate
      simp [run_underlying hu, MapKept.run_getObj_map hb.1, K.ck, hf, MapKept.run_setObj_map _ hb.1, Result.andThen]
    · rw [putB_none al a x (fdB_none al a 0 e)]
      simp [he, prB]
  | some q =>
    obtain ⟨j, v⟩ := q
    rw [e] at hf
    obtain ⟨h2, _, h4, h5⟩ := fdB_some al a 0 j v e
    rw [Nat.sub_zero] at h4 h5
    have hkey := key_atB he h4
    refine ⟨es.modify j fun e => { e with key := enc a, val := ev x }, ?_, born_mod hb.2 (fun _ => rfl), ?_⟩
    · unfold Instr.mapUpdate
      simp only [Sem.run_bind, run_underlying hu, MapKept.run_getObj_map hb.1, K.ck, hf, Option.map_some, Result.andThen_ok, hkey, Option.getD_some, Instr.keyThatStays, K.sb a, if_true, Sem.run_pure, MapKept.run_setObj_map _ hb.1, Array.size_modify]
    · rw [h5 x, Array.toList_modify]
      exact (map_mod (f := fun e : MapEntry => { e with key := enc a, val := ev x }) (g := fun e => (e.key, e.val)) (h := fun _ => (enc a, ev x)) (fun _ => rfl) es.toList j).trans (by rw [he]; exact (map_mod (f := fun _ => (a, x)) (g := fun p : κ × β => (enc p.1, ev p.2)) (h := fun _ => (enc a, ev x)) (fun _ => rfl) al j).symm)
variable {w0 : B0} {X : World} {o : Oper} {fr : FT} {h : HT} {n : Nat} {i : Nat} {al : List (κ × β)} {a : κ}
theorem r_lkT {x ix : Operand} {t : Value} (K : KB kt enc) (hu : Tryz.prog.underlying mt = some (.map kt vt)) (hz : ∀ W, (zeroValue vt).run Tryz.prog W = .ok z W) (hk : den2 (evo fr ix) = enc a) (hcs : hget h i = some (mpl (prB enc ev al))) (ht : den t = .tuple #[((lkB al a).map ev).getD z, .bool (lkB al a).isSome]) (ho : o.op = .lookup mt x ix true := by rfl) (hx : evo fr x = .map (some i) := by rfl) (hp : pur2 (evo fr ix) = true := by rfl) (htp : pur t = true := by rfl) : Oa (Am w0 X) Tryz.prog o fr h n ⟨t, h, n, bit i, 0⟩ :=
  r_see (m := x) (u := den t) t (fun W b es ac h1 h2 hb he => by
    have h3 := h2 ix (by simp [ho, Op.operands]) hp
    have := lookV K hu (hz W) (v := .map (some b)) (al := al) (Or.inr ⟨b, es, _, rfl, hb.1, he⟩) a true
    simp [execOp, ho, h1, h3, hk, this, ht]) (by simp [ho, Op.operands]) hx hcs rfl htp
theorem r_mpB {m x y : Operand} {v : β} (K : KB kt enc) (hu : Tryz.prog.underlying mt = some (.map kt vt)) (nn : ∀ i, n ≤ i → hget h i = none) (hk : den2 (evo fr x) = enc a) (hcs : hget h i = some (mpl (prB enc ev al))) (hv : den2 (evo fr y) = ev v) (ho : o.op = .mapUpdate mt m x y := by rfl) (hm : evo fr m = .map (some i) := by rfl) (hp : pur2 (evo fr x) = true := by rfl) (hpy : pur2 (evo fr y) = true := by rfl) : Oa (Am w0 X) Tryz.prog o fr h n ⟨undef, msk (hs12 h i (some (mpl (prB enc ev (putB al a v))))) i, n, bit i, bit i⟩ :=
  r_chg (m := m) undef (prB enc ev (putB al a v)) nn (fun W b es ac h1 h2 hb he => by
    have h3 := h2 x (by simp [ho, Op.operands]) hp
    have h4 := h2 y (by simp [ho, Op.operands]) hpy
    obtain ⟨es', g1, g2, g3⟩ := put_B K hu hb he a v
    exact ⟨es', Or.inr ⟨rfl, by simp [execOp, ho, h1, h3, hk, h4, hv, g1]⟩, g2, g3⟩) (by simp [ho, Op.operands]) hm hcs rfl rfl
end
end Go.Proofs.YtfmfeipeeedfpaaGreat
namespace Go.Proofs.YtfmfeipeeedfpaaGreat
open S Go.RowKit
/-- The first places of names, as they are gathered. -/
def fpl : Nat → List Tb → List (ByteArray × Int) → List (ByteArray × Int)
  | _, [], al => al
  | i, t :: r, al => fpl (i + 1) r (if (lkB al t.nm).isSome then al else putB al t.nm (i : Int))
theorem fpl_lk (s : ByteArray) : ∀ (l : List Tb) (i : Nat) (al : List (ByteArray × Int)), lkB (fpl i l al) s = match lkB al s with
    | some v => some v
    | none => (l.findIdx? (fun t => decide (t.nm = s))).map fun j => ((i + j : Nat) : Int)
  | [], i, al => by simp only [fpl, List.findIdx?_nil, Option.map_none]; cases lkB al s <;> rfl
  | t :: r, i, al => by
    rw [fpl, fpl_lk s r (i + 1)]
    by_cases q : t.nm = s
    · subst q
      cases e : lkB al t.nm with
      | some v => simp [e]
      | none => simp [lkB_put, List.findIdx?_cons]
    · have : lkB (if (lkB al t.nm).isSome then al else putB al t.nm (i : Int)) s = lkB al s := by
        split
        · rfl
        · rw [lkB_put, if_neg q]
      rw [this]
      cases e : lkB al s with
      | some v => rfl
      | none =>
        simp only [List.findIdx?_cons, q, decide_false, Bool.false_eq_true, if_false, Option.map_map]
        congr 1
        funext j
        show ((i + 1 + j : Nat) : Int) = ((i + (j + 1) : Nat) : Int)
        omega
theorem fpl_snoc : ∀ (l : List Tb) (i : Nat) (al : List (ByteArray × Int)) (t : Tb), fpl i (l ++ [t]) al = (if (lkB (fpl i l al) t.nm).isSome then fpl i l al else putB (fpl i l al) t.nm ((i + l.length : Nat) : Int))
  | [], i, al, t => rfl
  | u :: r, i, al, t => by
    rw [List.cons_append, fpl, fpl_snoc r (i + 1), fpl]
    rw [show i + 1 + r.length = i + (u :: r).length by simp; omega]
abbrev iv (x : Int) : Value := .int .i64 x
abbrev hM (i : Nat) (al : List (ByteArray × Int)) : HT := [(i + 4096, none), (i, some (mpl (prB es9 iv al)))]
theorem z3 (W : World) : (zeroValue 3).run Tryz.prog W = .ok (.int .i64 0) W := by kernel_rfl
theorem u72 : Tryz.prog.underlying 72 = some (.map 9 3) := by kernel_rfl
set_option maxRecDepth 20000 in
theorem f_first (X : World) (e : Ev) (he : EvL X e) : Ctr Tryz.prog X 199 [raw (.slice e.tp e.tb.length e.cp)] [] 0 0 (.map (some 0)) (hM 0 (fpl 0 e.tb [])) 1 := by
  refine fn_c _ Tryz.func199 rfl rfl rfl rfl (fun w l X' hX => run_ok (st mo ?_))
  refine ⟨_, fun nn => r_mk, st mo (st mo ?_)⟩
  refine S.w_loop (fun i : Nat => ⟨⟨31, [(3, .map (some 0)), (9, raw (.slice e.tp e.tb.length e.cp)), (10, .int .i64 (e.tb.length : Int)), (11, .int .i64 (i : Int))]⟩, hM 0 (fpl 0 (e.tb.take i) []), 1, X'⟩) (fun i => i ≤ e.tb.length) (fun i => e.tb.length - i) 0 (by omega) [0] ⟨rfl, ⟨fm, fv, fv, fv, trivial⟩, ⟨trivial, fml, trivial⟩, xf, rfl, rfl⟩ ?_
  intro i hi
  have hln := he.ln
  refine st mo ⟨fun hlt => st mo ?_, fun hge => st mo (st mo ?_)⟩
  · have hil : i < e.tb.length := by omega
    obtain ⟨t, ht, hT, b, o, h4, h5⟩ := (he.xf hX).at hil
    have hstep : fpl 0 (e.tb.take (i + 1)) [] = if (lkB (fpl 0 (e.tb.take i) []) t.nm).isSome then fpl 0 (e.tb.take i) [] else putB (fpl 0 (e.tb.take i) []) t.nm (i : Int) := by
      rw [List.take_add_one, ht, Option.toList_some, fpl_snoc, List.length_take, Nat.min_eq_left (by omega), Nat.zero_add]
    refine ⟨b, o, i, h4, rfl, hil, st mo ⟨t.cells, rfl, h5, st mo ?_⟩⟩
    cases hk : lkB (fpl 0 (e.tb.take i) []) t.nm with
    | some v =>
      rw [hk] at hstep
      refine ⟨_, fun nn => r_lkT (t := .tuple #[.int .i64 v, litT]) kb9 u72 z3 rfl rfl (by rw [hk]; rfl), st mo ⟨_, wz (i + 1) rfl, st mo ?_⟩⟩
      exact ⟨i + 1, hil, by dsimp; omega, [0], rfl, ⟨fm, fv, fv, fv, trivial⟩, ⟨trivial, fml (by rw [hstep]; rfl), trivial⟩, xf, rfl, rfl⟩
    | none =>
      rw [hk] at hstep
      refine ⟨_, fun nn => r_lkT (t := .tuple #[.int .i64 0, litF]) kb9 u72 z3 rfl rfl (by rw [hk]; rfl), st mo ?_⟩
      refine ⟨_, fun nn => r_mpB (v := (i : Int)) kb9 u72 nn rfl rfl rfl, st mo ⟨_, wz (i + 1) rfl, st mo ?_⟩⟩
      exact ⟨i + 1, hil, by dsimp; omega, [0], rfl, ⟨fm, fv, fv, fv, trivial⟩, ⟨trivial, fml (by rw [hstep]; rfl), trivial⟩, xf, rfl, rfl⟩
  · have : i = e.tb.length := by omega
    subst this
    rw [List.take_length]
    exact ⟨rfl, [0], fm, ⟨trivial, fml, trivial⟩, rfl, rfl⟩
theorem idx_find {α : Type} (p : α → Bool) : ∀ (l : List α), match l.findIdx? p with
    | some j => ∃ t, l[j]? = some t ∧ l.find? p = some t
    | none => l.find? p = none
  | [] => rfl
  | t :: r => by
    have ih := idx_find p r
    rw [List.findIdx?_cons, List.find?_cons]
    cases h : p t with
    | true => exact ⟨t, rfl, rfl⟩
    | false =>
      simp only [Bool.false_eq_true, if_false]
      cases q : r.findIdx? p with
      | none => rw [q] at ih; exact ih
      | some j => rw [q] at ih; obtain ⟨u, h1, h2⟩ := ih; exact ⟨u, by simpa using h1, h2⟩
abbrev mcR (b : Nat) (mk : Bool) : Value := match mk with
  | true => .map (some b)
  | false => .map none
def rdC (e : Ev) (mc : Value) : List Value := [raw (.map e.nm), raw (.map e.cm), raw (.slice e.tp e.tb.length e.cp), mc]
abbrev fpC (e : Ev) : List Value := mpl (prB es9 iv (fpl 0 e.tb []))
abbrev cR (e : Ev) (mk : Bool) (jk : List Value) : List Value := match mk with
  | true => fpC e
  | false => jk.map rel1
/-- The reader, and the first places if they are made. -/
def hR (e : Ev) (mk : Bool) (jk : List Value) : HT := [(0, some (rdC e (mcR 1 mk))), (1 + 4096, none), (1, some (cR e mk jk))]
theorem rdC_fit {σ : List Nat} {e : Ev} {i j : Nat} (h : σ[j]? = some i := by rfl) : fitL σ (rdC e (.map (some i))) (rdC e (.map (some j))) := fitL_cons fv (fitL_cons fv (fitL_cons fv (fitL_cons (fm h) rfl)))
theorem mc_fit {σ : List Nat} {e : Ev} {mk : Bool} {i j : Nat} (h : σ[j]? = some i := by rfl) : fitL σ (rdC e (mcR i mk)) (rdC e (mcR j mk)) := by
  refine fitL_cons fv (fitL_cons fv (fitL_cons fv (fitL_cons ?_ rfl)))
  cases mk
  · exact fv
  · exact fm h
theorem mc_un {τ : List Nat} {e : Ev} {mk : Bool} {i j : Nat} (h : τ[j]? = some i := by rfl) : unL τ (rdC e (mcR j mk)) (rdC e (mcR i mk)) := by
  refine unL_cons uv (unL_cons uv (unL_cons uv (unL_cons ?_ rfl)))
  cases mk
  · exact uv
  · exact um h
theorem cR_fit {σ : List Nat} {e : Ev} {mk : Bool} {jk : List Value} : fitL σ (cR e mk jk) (cR e mk jk) := by
  cases mk
  · exact flr rfl
  · exact fml
theorem cR_un {τ : List Nat} {e : Ev} {mk : Bool} {jk : List Value} : unL τ (cR e mk jk) (cR e mk jk) := by
  cases mk
  · exact ulr rfl
  · exact uml
theorem f_nilrun0 (x y : Operand) (W : World) : (do eqGuard .eql 72 x y (.map none) (.map none); binOp .eql 72 (.map none) (.map none) : Sem Value).run Tryz.prog W = .ok (.bool true) W := by kernel_rfl
theorem r_nilT {w0 : B0} {X : World} {o : Oper} {fr : FT} {h : HT} {n : Nat} {y : Operand} {t' : TypeId} (ho : o.op = .binOp .eql 72 y (.const (.map none)) t' := by rfl) (hy : evo fr y = .map none := by rfl) : Oa (Am w0 X) Tryz.prog o fr h n ⟨.bool true, h, n, 0, 0⟩ :=
  Oa.val fun k W ac _ hop => ⟨.bool true, pur1_vx rfl, by
    have h1 := pur2_eq (hop y (by rw [ho]; simp [Op.operands])) (by rw [hy]; rfl)
    rw [hy] at h1
    have h1 : ac.eval y = .map none := h1
    have h2 : ac.eval (.const (.map none)) = .map none := rfl
    have := f_nilrun0 y (.const (.map none)) W
    simp only [execOp, ho, h1, h2]
    rw [Sem.run_bind, this]; rfl⟩
theorem f_nilrun (b : Nat) (x y : Operand) (W : World) : (do eqGuard .eql 72 x y (.map (some b)) (.map none); binOp .eql 72 (.map (some b)) (.map none) : Sem Value).run Tryz.prog W = .ok (.bool false) W := by kernel_rfl
theorem r_nilF {w0 : B0} {X : World} {o : Oper} {fr : FT} {h : HT} {n i : Nat} {y : Operand} {t' : TypeId} (ho : o.op = .binOp .eql 72 y (.const (.map none)) t' := by rfl) (hy : evo fr y = .map (some i) := by rfl) : Oa (Am w0 X) Tryz.prog o fr h n ⟨.bool false, h, n, 0, 0⟩ :=
  Oa.val fun k W ac _ hop => ⟨.bool false, pur1_vx rfl, by
    have h1 := hop y (by rw [ho]; simp [Op.operands])
    rw [hy] at h1
    obtain ⟨b, _, h3⟩ := h1.map_inv
    have h2 : ac.eval (.const (.map none)) = .map none := rfl
    have := f_nilrun b y (.const (.map none)) W
    simp only [execOp, ho, h3, h2]
    rw [Sem.run_bind, this]; rfl⟩
theorem fvt {σ : List Nat} {u v : Value} (h : u = v := by rfl) (hp : pur v = true := by rfl) : S.fitV σ u v := fun k w hw => by
  subst h; rw [pur_eq hw hp]; exact pur_vx hp
abbrev tbT (t : Option Tb) : Value := match t with
  | some t => .tuple #[t.y, litT]
  | none => .tuple #[.agg #[.string E0, .slice none 0 0], litF]
set_option maxRecDepth 20000 in
theorem f_table (X : World) (e : Ev) (he : EvL X e) (s : ByteArray) (mk : Bool) (jk : List Value) : Ctr Tryz.prog X 173 [q0 0, .string s] (hR e mk jk) 2 1 (tbT (tabE e s)) (hR e true jk) 2 := by
  have hf := fpl_lk s e.tb 0 []
  have hd := idx_find (fun t : Tb => decide (t.nm = s)) e.tb
  have hln := he.ln
  cases mk
  · refine fn_c _ Tryz.func173 rfl rfl rfl rfl (fun w l X' hX => run_ok (st mo ?_))
    refine ⟨_, r_nilT, fun _ => st mo ?_, fun h => absurd h (by decide)⟩
    refine ⟨_, fun nn => r_c (tc := .map (some 3)) [] [some (mpl (prB es9 iv (fpl 0 e.tb [])))] [3] rfl rfl (f_first X' e (he.xf hX)) (fitL_cons fv rfl) trivial (um rfl) ⟨uml, trivial⟩, st mo ?_⟩
    cases hi : e.tb.findIdx? (fun t => decide (t.nm = s)) with
    | none =>
      rw [hi] at hf hd
      refine ⟨_, fun nn => r_lkT (t := .tuple #[.int .i64 0, litF]) (ev := iv) kb9 u72 z3 rfl rfl (by rw [hf]; rfl), st mo ?_⟩
      rw [show tabE e s = none from hd]
      exact ⟨rfl, [0, 3], fvt, ⟨rdC_fit, trivial, fml, trivial⟩, rfl, rfl⟩
    | some j =>
      rw [hi] at hf hd
      simp only [lkB, Option.map_some, Nat.zero_add] at hf
      obtain ⟨t, ht, hft⟩ := hd
      have hj := lt_of_get ht
      obtain ⟨t', ht', hT, b, o, h4, h5⟩ := (he.xf hX).at hj
      rw [ht] at ht'; cases ht'
      refine ⟨_, fun nn => r_lkT (t := .tuple #[.int .i64 (j : Int), litT]) (ev := iv) kb9 u72 z3 rfl rfl (by rw [hf]; rfl), st mo ?_⟩
      refine ⟨b, o, j, h4, rfl, hj, st mo ⟨t.cells, rfl, h5, st mo ?_⟩⟩
      rw [show tabE e s = some t from hft]
      exact ⟨rfl, [0, 3], fvt, ⟨rdC_fit, trivial, fml, trivial⟩, rfl, rfl⟩
  · refine fn_c _ Tryz.func173 rfl rfl rfl rfl (fun w l X' hX => run_ok (st mo ?_))
    refine ⟨_, r_nilF, fun h => absurd h (by decide), fun _ => st mo ?_⟩
    cases hi : e.tb.findIdx? (fun t => decide (t.nm = s)) with
    | none =>
      rw [hi] at hf hd
      refine ⟨_, fun nn => r_lkT (t := .tuple #[.int .i64 0, litF]) (ev := iv) kb9 u72 z3 rfl rfl (by rw [hf]; rfl), st mo ?_⟩
      rw [show tabE e s = none from hd]
      exact ⟨rfl, [0, 1], fvt, ⟨rdC_fit, trivial, fml, trivial⟩, rfl, rfl⟩
    | some j =>
      rw [hi] at hf hd
      simp only [lkB, Option.map_some, Nat.zero_add] at hf
      obtain ⟨t, ht, hft⟩ := hd
      have hj := lt_of_get ht
      obtain ⟨t', ht', hT, b, o, h4, h5⟩ := (he.xf hX).at hj
      rw [ht] at ht'; cases ht'
      refine ⟨_, fun nn => r_lkT (t := .tuple #[.int .i64 (j : Int), litT]) (ev := iv) kb9 u72 z3 rfl rfl (by rw [hf]; rfl), st mo ?_⟩
      refine ⟨b, o, j, h4, rfl, hj, st mo ⟨t.cells, rfl, h5, st mo ?_⟩⟩
      rw [show tabE e s = some t from hft]
      exact ⟨rfl, [0, 1], fvt, ⟨rdC_fit, trivial, fml, trivial⟩, rfl, rfl⟩
set_option maxRecDepth 20000 in
theorem f_from (X : World) (e : Ev) (he : EvL X e) (s : ByteArray) (d : Dn) (hd : d.ok) (mk : Bool) (jk : List Value) : Ctr Tryz.prog X 141 [q0 0, .string s, d.v'] (hR e mk jk) 2 1 (frmE e s d).y (hR e true jk) 2 := by
  refine fn_c _ Tryz.func141 rfl rfl rfl rfl (fun w l X' hX => run_ok (st mo ?_))
  have hc := f_table X' e (he.xf hX) s mk jk
  cases ht : tabE e s with
  | none =>
    rw [ht] at hc
    refine ⟨_, fun nn => r_c (tc := tbT none) [0, 1] [some (rdC e (mcR 4 true)), some (cR e true jk)] [4] rfl rfl hc (fitL_cons fp (fitL_cons fv rfl)) ⟨mc_fit, trivial, cR_fit, trivial⟩ uv ⟨mc_un, cR_un, trivial⟩, st mo ?_⟩
    refine ⟨_, fun nn => r_call (t := (vBad 2).y) rfl rfl Tryz.func44 (fun W M E => p_bad 2 W), st mo ?_⟩
    rw [show frmE e s d = vBad 2 by unfold frmE; rw [ht]]
    exact ⟨rfl, [0, 4], fv, ⟨mc_fit, trivial, cR_fit, trivial⟩, rfl, rfl⟩
  | some t =>
    rw [ht] at hc
    have hT := (he.xf hX).tl t (List.mem_of_find?_eq_some ht)
    refine ⟨_, fun nn => r_c (tc := tbT (some t)) [0, 1] [some (rdC e (mcR 4 true)), some (cR e true jk)] [4] rfl rfl hc (fitL_cons fp (fitL_cons fv rfl)) ⟨mc_fit, trivial, cR_fit, trivial⟩ uv ⟨mc_un, cR_un, trivial⟩, st mo ?_⟩
    refine ⟨_, fun nn => r_call (t := (atD t.st d).y) rfl rfl Tryz.func174 (fun W M E => b_at t d hd W (hT.mono E)), st mo ?_⟩
    refine ⟨fun h0 => st mo ?_, fun h0 => st mo ⟨fun h1 => st mo ?_, fun h1 => st mo ⟨fun h7 => st mo ?_, fun h7 => st mo ?_⟩⟩⟩
    · rw [show frmE e s d = vNu (atD t.st d).b (atD t.st d).n (atD t.st d).s by unfold frmE; rw [ht]; dsimp only; rw [if_pos h0]]
      exact ⟨rfl, [0, 4], fv, ⟨mc_fit, trivial, cR_fit, trivial⟩, rfl, rfl⟩
    · refine ⟨_, fun nn => r_call (t := (vBad 5).y) rfl rfl Tryz.func44 (fun W M E => p_bad 5 W), st mo ?_⟩
      rw [show frmE e s d = vBad 5 by unfold frmE; rw [ht]; dsimp only; rw [if_neg h0, if_pos h1]]
      exact ⟨rfl, [0, 4], fv, ⟨mc_fit, trivial, cR_fit, trivial⟩, rfl, rfl⟩
    · refine ⟨_, fun nn => r_call (t := (vBad 1).y) rfl rfl Tryz.func44 (fun W M E => p_bad 1 W), st mo ?_⟩
      rw [show frmE e s d = vBad 1 by unfold frmE; rw [ht]; dsimp only; rw [if_neg h0, if_neg h1, if_pos h7]]
      exact ⟨rfl, [0, 4], fv, ⟨mc_fit, trivial, cR_fit, trivial⟩, rfl, rfl⟩
    · refine ⟨_, fun nn => r_call (t := (vBad 2).y) rfl rfl Tryz.func44 (fun W M E => p_bad 2 W), st mo ?_⟩
      rw [show frmE e s d = vBad 2 by unfold frmE; rw [ht]; dsimp only; rw [if_neg h0, if_neg h1, if_neg h7]]
      exact ⟨rfl, [0, 4], fv, ⟨mc_fit, trivial, cR_fit, trivial⟩, rfl, rfl⟩
set_option maxRecDepth 20000 in
theorem f_brk (e : Ev) (s : ByteArray) (v : VL) (hv : v.ok) (mk : Bool) (jk : List Value) : ∃ mk', ∀ X, EvL X e → Ctr Tryz.prog X 96 [q0 0, .string s, v.y] (hR e mk jk) 2 1 (brkE e s v).y (hR e mk' jk) 2 := by
  by_cases h1 : v.k = 1
  · refine ⟨true, fun X he => ?_⟩
    rw [show brkE e s v = frmE e s ⟨v.b, v.n, v.s⟩ by unfold brkE; rw [if_neg (by omega), if_neg (by omega), if_pos h1]]
    refine fn_c _ Tryz.func96 rfl rfl rfl rfl (fun w l X' hX => run_ok (st mo ?_))
    refine ⟨fun h => absurd h (by omega), fun _ => st mo ⟨fun h => absurd h (by omega), fun _ => st mo ⟨fun _ => st mo ?_, fun h => absurd h1 h⟩⟩⟩
    refine ⟨_, fun nn => r_c (tc := (frmE e s ⟨v.b, v.n, v.s⟩).y) [0, 1] [some (rdC e (mcR 4 true)), some (cR e true jk)] [4] rfl rfl (f_from X' e (he.xf hX) s ⟨v.b, v.n, v.s⟩ hv mk jk) (fitL_cons fp (fitL_cons fv (fitL_cons fv rfl))) ⟨mc_fit, trivial, cR_fit, trivial⟩ uv ⟨mc_un, cR_un, trivial⟩, st mo ?_⟩
    exact ⟨rfl, [0, 4], fv, ⟨mc_fit, trivial, cR_fit, trivial⟩, rfl, rfl⟩
  · refine ⟨mk, fun X he => ?_⟩
    refine fn_c _ Tryz.func96 rfl rfl rfl rfl (fun w l X' hX => run_ok (st mo ?_))
    refine ⟨fun h4 => st mo ?_, fun h4 => st mo ⟨fun h0 => st mo ?_, fun h0 => st mo ⟨fun h => absurd h h1, fun _ => st mo ?_⟩⟩⟩
    · rw [show brkE e s v = v by unfold brkE; rw [if_pos h4]]
      exact ⟨rfl, [0, 1], fv, ⟨mc_fit, trivial, cR_fit, trivial⟩, rfl, rfl⟩
    · refine ⟨_, fun nn => r_call (t := (vBad 3).y) rfl rfl Tryz.func44 (fun W M E => p_bad 3 W), st mo ?_⟩
      rw [show brkE e s v = vBad 3 by unfold brkE; rw [if_neg h4, if_pos h0]]
      exact ⟨rfl, [0, 1], fv, ⟨mc_fit, trivial, cR_fit, trivial⟩, rfl, rfl⟩
    · refine ⟨_, fun nn => r_call (t := (vBad 2).y) rfl rfl Tryz.func44 (fun W M E => p_bad 2 W), st mo ?_⟩
      rw [show brkE e s v = vBad 2 by unfold brkE; rw [if_neg h4, if_neg h0, if_neg h1]]
      exact ⟨rfl, [0, 1], fv, ⟨mc_fit, trivial, cR_fit, trivial⟩, rfl, rfl⟩
theorem ok_bad (e : Int) : (vBad e).ok := ok_0 _ _ _ _ _ _
theorem ok_fl (f : Bool) : (vFl f).ok := ok_0 _ _ _ _ _ _
theorem good_neg {b : Bool} {n s : Int} (h0 : 0 ≤ n) (h : n < MM) (h1 : ck b n s = 0) : (negR b n s).good :=
  ⟨⟨h0, h⟩, fun _ => neg_ck h1⟩
theorem good_rnd {b : Bool} {n s S p : Int} (h0 : 0 ≤ n) : (rndR b n s S p).good := by
  unfold rndR
  split
  next h =>
    split
    · exact good_fx (rdV_nn h0) h
    · exact good_er
  next => exact good_er
theorem num_good {r : DR} (h : r.good) : (numV r).ok ∧ ckv (numV r) = true := by
  unfold numV
  split
  next e => exact ⟨h.1, ckv_vNu (h.2 e)⟩
  next =>
    split
    · exact ⟨ok_bad _, ckv_vBad _⟩
    · exact ⟨ok_bad _, ckv_vBad _⟩
/-- A value that may be. -/
def VL.fit (x : VL) : Prop := x.ok ∧ ckv x = true
theorem fit_bad (e : Int) : (vBad e).fit := ⟨ok_bad e, ckv_vBad e⟩
theorem fit_fl (f : Bool) : (vFl f).fit := ⟨ok_fl f, ckv_vFl f⟩
theorem fit_ord (op o : Int) : (ordV op o).fit := by
  unfold ordV
  split; · exact fit_fl _
  split; · exact fit_fl _
  split; · exact fit_fl _
  split; · exact fit_fl _
  split; · exact fit_fl _
  split; · exact fit_fl _
  exact fit_bad _
theorem fit_opF (op : Int) (f g : Bool) : (opF op f g).fit := by
  unfold opF
  split; · exact fit_fl _
  split; · exact fit_fl _
  exact fit_bad _
theorem fit_opN (op : Int) {b c : Bool} {n s m t : Int} (hn : 0 ≤ n ∧ n < MM) (hm : 0 ≤ m ∧ m < MM) (h1 : ck b n s = 0) (h2 : ck c m t = 0) : (opN op b n s c m t).fit := by
  unfold opN
  split; · exact num_good (good_add (x := ⟨b, n, s⟩) (y := ⟨c, m, t⟩) ⟨hn, h1⟩ ⟨hm, h2⟩)
  split; · exact num_good (good_sub (x := ⟨b, n, s⟩) (y := ⟨c, m, t⟩) ⟨hn, h1⟩ ⟨hm, h2⟩)
  split; · exact num_good (good_mul (x := ⟨b, n, s⟩) (y := ⟨c, m, t⟩) ⟨hn, h1⟩ ⟨hm, h2⟩)
  exact fit_ord _ _
theorem fit_op (op : Int) {x y : VL} (hx : x.ok) (hy : y.ok) : (opV op x y).fit := by
  unfold opV
  split
  next a =>
    split
    next hk =>
      split
      next k => exact fit_opN op hx hy (ckv_num hx (ask_0 hx (ask2_0 a).1).1 k).2 (ckv_num hy (ask_0 hy (ask2_0 a).2).1 (hk ▸ k)).2
      next =>
        split; · exact fit_fl _
        split; · exact fit_fl _
        split; · exact fit_opF _ _ _
        exact fit_bad _
    next => exact fit_bad _
  next => exact fit_bad _
theorem fit_neg {x : VL} (hx : x.ok) : (negV x).fit := by
  unfold negV
  split
  next a => exact num_good (good_neg hx.1 hx.2 (num_of hx (askK_0 a).1 (askK_0 a).2))
  next => exact fit_bad _
theorem fit_not (x : VL) : (notV x).fit := by
  unfold notV
  split
  · exact fit_fl _
  · exact fit_bad _
theorem fit_may {x : VL} (hx : x.ok) : (mayV x).fit := by
  unfold mayV
  split
  next c => exact ⟨hx, c⟩
  next => exact fit_bad _
theorem fit_if {c x y : VL} (hx : x.ok) (hy : y.ok) : (ifV c x y).fit := by
  unfold ifV
  split
  · refine fit_may ?_
    split
    · exact hx
    · exact hy
  · exact fit_bad _
theorem fit_blk {x : VL} (hx : x.ok) : (blkV x).fit := by
  unfold blkV
  split
  next c =>
    split
    · exact ⟨hx, c⟩
    · exact fit_fl _
  next => exact fit_bad _
theorem fit_rnd {x : VL} (S p : Int) (hx : x.ok) : (rndV x S p).fit := by
  unfold rndV
  split
  next => exact num_good (good_rnd hx.1)
  next => exact fit_bad _
theorem vEr_ok (e : Int) : (vEr e).ok := ok_0 _ _ _ _ _ _
theorem nrV_ok {m : SM} (h : m.ok) (s : Int) : 0 ≤ (nrV m s).n ∧ (nrV m s).n < MM := by
  have um : U4 (m0 m.t0) (m1 m.t0 m.t1) (m2 m.t0 m.t1 m.t2) (m3 m.t0 m.t1 m.t2 m.t3) := ⟨ad_b _ _ _, ad_b _ _ _, ad_b _ _ _, ad_b _ _ _⟩
  have ua : U4 m.t0 m.t1 m.t2 m.t3 := ⟨h.t0, h.t1, h.t2, h.t3⟩
  unfold nrV nrD
  repeat (first | exact MM_0 | exact vl_bd um | exact vl_bd ua | split)
theorem cnt_ok {n : Int} (h : -9223372036854775808 ≤ n ∧ n < 9223372036854775808) : (cntV n).ok := ⟨ab_nn n, by show ab n < MM; have := ab_c n; unfold MM; omega⟩
theorem ag_ok {op : Int} {m : SM} {s : Int} (h : m.ok) : (agV op m s).ok := by
  unfold agV
  split; · exact cnt_ok h.ro
  split; · exact cnt_ok h.fi
  split
  · unfold ofnV totV
    repeat (first | exact vEr_ok _ | exact nrV_ok h s | exact h.nn | exact h.xn | split)
  · exact vEr_ok _
theorem good_at {t : Tb} (ht : ∀ y ∈ t.st, y.ok) {d : Dn} (hd : d.ok) : (atD t.st d).good := by
  by_cases h : stpE t.st d = 0
  · obtain ⟨hc, he, k, hk, _⟩ := stp_0 h
    obtain ⟨y, hy⟩ := get_of_lt (lastP_inv hk).1
    have fy := fit_of ht (chk_0 hc).2.2.1 hy
    have e : atD t.st d = saysD y d := by unfold atD; rw [if_pos h, hk]; simp only [Option.getD_some, List.getD_eq_getElem?_getD, hy]
    rw [e]; exact good_says fy ⟨hd, he⟩
  · unfold atD; rw [if_neg h]; exact good_er
theorem fit_brk {X : World} {e : Ev} (he : EvL X e) {s : ByteArray} {v : VL} (hv : v.fit) : (brkE e s v).fit := by
  unfold brkE
  split; · exact hv
  split; · exact fit_bad _
  split
  · unfold frmE
    split
    · exact fit_bad _
    next t ht =>
      have g := good_at (he.tl t (List.mem_of_find?_eq_some ht)).ok (d := ⟨v.b, v.n, v.s⟩) hv.1
      split
      next h => exact ⟨g.1, ckv_vNu (g.2 h)⟩
      split; · exact fit_bad _
      split; · exact fit_bad _
      exact fit_bad _
  · exact fit_bad _
abbrev agC (a : Nat → VL) : List Value := (a 0).cells ++ ((a 1).cells ++ (a 2).cells)
abbrev agY (a : Nat → VL) : Value := .agg ((agC a).map rel1).toArray
abbrev CL.y (c : CL) : Value := .agg (c.cells.map rel1).toArray
theorem z28 (W : World) : (zeroValue 28).run Tryz.prog W = .ok vBl.v W := by kernel_rfl
theorem z66 (W : World) : (zeroValue 66).run Tryz.prog W = .ok cl0.v W := by kernel_rfl
theorem u32 : Tryz.prog.underlying 32 = some (.map 9 28) := by kernel_rfl
theorem u33 : Tryz.prog.underlying 33 = some (.map 53 66) := by kernel_rfl
theorem f_may' {x : Ex} (h : x.u4) (W : World) : Calls Tryz.prog 91 #[.agg #[.int .i64 x.vk, .bool x.ng, .int .u64 x.l0, .int .u64 x.l1, .int .u64 x.l2, .int .u64 x.l3, .int .i64 x.vs, .bool x.fl, .string x.tx, .int .i64 x.er]] W fun r W' => r = .returned (mayV x.val).v ∧ Mb W W' := by
  have := f_may x.val h.ok W
  rw [show x.val.v = .agg #[.int .i64 x.vk, .bool x.ng, .int .u64 x.l0, .int .u64 x.l1, .int .u64 x.l2, .int .u64 x.l3, .int .i64 x.vs, .bool x.fl, .string x.tx, .int .i64 x.er] by rw [VL.v, h.cells]] at this
  exact this
theorem lk_getD {κ β γ : Type} [DecidableEq κ] (f : β → γ) (al : List (κ × β)) (a : κ) (z : β) : ((lkB al a).map f).getD (f z) = f ((lkB al a).getD z) := by cases lkB al a <;> rfl
theorem lkB_mem {κ β : Type} [DecidableEq κ] : ∀ {al : List (κ × β)} {a : κ} {v : β}, lkB al a = some v → (a, v) ∈ al
  | [], _, _, h => by cases h
  | (b, u) :: r, a, v, h => by
    by_cases e : b = a
    · simp [lkB, e] at h; simp [e, h]
    · simp only [lkB, if_neg e] at h; exact List.mem_cons_of_mem _ (lkB_mem h)
theorem vBl_ok : vBl.ok := ok_0 _ _ _ _ _ _
theorem sm0_ok : sm0.ok := by constructor <;> decide
theorem EvL.nv {X : World} {e : Ev} (h : EvL X e) (s : ByteArray) : ((lkB e.N s).getD vBl).ok := by
  cases q : lkB e.N s with
  | none => exact vBl_ok
  | some v => exact h.no _ (lkB_mem q)
theorem EvL.cv {X : World} {e : Ev} (h : EvL X e) (k : ByteArray × ByteArray) : ((lkB e.C k).getD cl0).m.ok := by
  cases q : lkB e.C k with
  | none => exact sm0_ok
  | some v => exact h.co _ (lkB_mem q)
theorem EvL.lkn {X W : World} {e : Ev} (h : EvL X e) (M : ∀ (b : Nat) (o : Obj), X.heap[b]? = some o → o ≠ hole X → W.heap[b]? = some o) (s : ByteArray) : (Instr.lookup 32 (.map e.nm) (.string s) false).run Tryz.prog W = .ok ((lkB e.N s).getD vBl).v W := by
  have := lookV kb9 u32 (z28 W) (h.n.mono fun b _ _ hb => M b _ hb hole_map) s false
  rw [this, ← lk_getD VL.v]; rfl
theorem EvL.lkc {X W : World} {e : Ev} (h : EvL X e) (M : ∀ (b : Nat) (o : Obj), X.heap[b]? = some o → o ≠ hole X → W.heap[b]? = some o) (k : ByteArray × ByteArray) : (Instr.lookup 33 (.map e.cm) (es53 k) false).run Tryz.prog W = .ok ((lkB e.C k).getD cl0).v W := by
  have := lookV kb53 u33 (z66 W) (h.c.mono fun b _ _ hb => M b _ hb hole_map) k false
  rw [this, ← lk_getD CL.v]; rfl
set_option maxRecDepth 20000 in
theorem f_node (e : Ev) (x : Ex) (hx : x.u4) (a : Nat → VL) (ha : ∀ i, (a i).ok) (mk : Bool) (jk : List Value) : ∃ mk', ∀ X, EvL X e → Ctr Tryz.prog X 61 [q0 0, .agg (x.c.map rel1).toArray, agY a] (hR e mk jk) 2 1 (nodE e x a).y (hR e mk' jk) 2 := by
  obtain ⟨mk', hb⟩ := f_brk e x.nm (a 0) (ha 0) mk jk
  by_cases h8 : x.k = 8
  · refine ⟨mk', fun X he => ?_⟩
    rw [show nodE e x a = brkE e x.nm (a 0) by unfold nodE; simp [h8]]
    refine fn_c _ Tryz.func61 rfl rfl rfl rfl (fun w l X' hX => run_ok (st mo ?_))
    refine ⟨fun h => absurd h (by omega), fun _ => st mo ?_⟩
    refine ⟨fun h => absurd h (by omega), fun _ => st mo ?_⟩
    refine ⟨fun h => absurd h (by omega), fun _ => st mo ?_⟩
    refine ⟨fun h => absurd h (by omega), fun _ => st mo ?_⟩
    refine ⟨fun h => absurd h (by omega), fun _ => st mo ?_⟩
    refine ⟨fun h => absurd h (by omega), fun _ => st mo ?_⟩
    refine ⟨fun h => absurd h (by omega), fun _ => st mo ?_⟩
    refine ⟨fun _ => st mo ?_, fun h => absurd h8 h⟩
    refine ⟨_, fun nn => r_c (tc := (brkE e x.nm (a 0)).y) [0, 1] [some (rdC e (mcR 5 mk')), some (cR e mk' jk)] [5] rfl rfl (hb X' (he.xf hX)) (fitL_cons fp (fitL_cons fv (fitL_cons fv rfl))) ⟨mc_fit, trivial, cR_fit, trivial⟩ uv ⟨mc_un, cR_un, trivial⟩, st mo ?_⟩
    exact ⟨rfl, [0, 5], fv, ⟨mc_fit, trivial, cR_fit, trivial⟩, rfl, rfl⟩
  · refine ⟨mk, fun X he => ?_⟩
    refine fn_c _ Tryz.func61 rfl rfl rfl rfl (fun w l X' hX => run_ok (st mo ?_))
    refine ⟨fun h1 => st mo ?_, fun h1 => st mo ?_⟩
    · refine ⟨_, fun nn => r_call (t := (mayV x.val).y) rfl rfl Tryz.func91 (fun W M E => f_may' hx W), st mo ?_⟩
      rw [show nodE e x a = mayV x.val by unfold nodE; rw [if_pos h1]]
      exact ⟨rfl, [0, 1], fv, ⟨mc_fit, trivial, cR_fit, trivial⟩, rfl, rfl⟩
    refine ⟨fun h2 => st mo ?_, fun h2 => st mo ?_⟩
    · refine ⟨_, fun nn => r_look (t := ((lkB e.N x.nm).getD vBl).y) rfl (fun W M => (he.xf hX).lkn M x.nm), st mo ?_⟩
      refine ⟨_, fun nn => r_call (t := (mayV ((lkB e.N x.nm).getD vBl)).y) rfl rfl Tryz.func91 (fun W M E => f_may _ (he.nv x.nm) W), st mo ⟨dk, st mo ?_⟩⟩
      rw [show nodE e x a = mayV ((lkB e.N x.nm).getD vBl) by unfold nodE; rw [if_neg h1, if_pos h2]]
      exact ⟨rfl, [0, 1], fv, ⟨mc_fit, trivial, cR_fit, trivial⟩, rfl, rfl⟩
    refine ⟨fun h3 => st mo ?_, fun h3 => st mo ?_⟩
    · refine ⟨_, fun nn => r_call (t := (negV (a 0)).y) rfl rfl Tryz.func92 (fun W M E => p_neg (a 0) (ha 0) W), st mo ?_⟩
      rw [show nodE e x a = negV (a 0) by unfold nodE; rw [if_neg h1, if_neg h2, if_pos h3]]
      exact ⟨rfl, [0, 1], fv, ⟨mc_fit, trivial, cR_fit, trivial⟩, rfl, rfl⟩
    refine ⟨fun h4 => st mo ?_, fun h4 => st mo ?_⟩
    · refine ⟨_, fun nn => r_call (t := (notV (a 0)).y) rfl rfl Tryz.func93 (fun W M E => p_not (a 0) (ha 0) W), st mo ?_⟩
      rw [show nodE e x a = notV (a 0) by unfold nodE; rw [if_neg h1, if_neg h2, if_neg h3, if_pos h4]]
      exact ⟨rfl, [0, 1], fv, ⟨mc_fit, trivial, cR_fit, trivial⟩, rfl, rfl⟩
    refine ⟨fun h5 => st mo ?_, fun h5 => st mo ?_⟩
    · refine ⟨_, fun nn => r_call (t := (opV x.op (a 0) (a 1)).y) rfl rfl Tryz.func94 (fun W M E => p_op x.op (a 0) (a 1) (ha 0) (ha 1) W), st mo ?_⟩
      rw [show nodE e x a = opV x.op (a 0) (a 1) by unfold nodE; rw [if_neg h1, if_neg h2, if_neg h3, if_neg h4, if_pos h5]]
      exact ⟨rfl, [0, 1], fv, ⟨mc_fit, trivial, cR_fit, trivial⟩, rfl, rfl⟩
    refine ⟨fun h6 => st mo ?_, fun h6 => st mo ?_⟩
    · refine ⟨_, fun nn => r_call (t := (ifV (a 0) (a 1) (a 2)).y) rfl rfl Tryz.func95 (fun W M E => p_if (a 0) (a 1) (a 2) (ha 0) (ha 1) (ha 2) W), st mo ?_⟩
      rw [show nodE e x a = ifV (a 0) (a 1) (a 2) by unfold nodE; rw [if_neg h1, if_neg h2, if_neg h3, if_neg h4, if_neg h5, if_pos h6]]
      exact ⟨rfl, [0, 1], fv, ⟨mc_fit, trivial, cR_fit, trivial⟩, rfl, rfl⟩
    refine ⟨fun h7 => st mo ?_, fun h7 => st mo ?_⟩
    · refine ⟨_, fun nn => r_call (t := (rndV (a 0) x.s x.pl).y) rfl rfl Tryz.func78 (fun W M E => p_round (a 0) (ha 0) x.s x.pl W), st mo ?_⟩
      rw [show nodE e x a = rndV (a 0) x.s x.pl by unfold nodE; rw [if_neg h1, if_neg h2, if_neg h3, if_neg h4, if_neg h5, if_neg h6, if_pos h7]]
      exact ⟨rfl, [0, 1], fv, ⟨mc_fit, trivial, cR_fit, trivial⟩, rfl, rfl⟩
    refine ⟨fun h => absurd h h8, fun _ => st mo ?_⟩
    refine ⟨fun h9 => st mo ?_, fun h9 => st mo ?_⟩
    · refine ⟨_, fun nn => r_call (t := (blkV (a 0)).y) rfl rfl Tryz.func97 (fun W M E => p_blank (a 0) (ha 0) W), st mo ?_⟩
      rw [show nodE e x a = blkV (a 0) by unfold nodE; rw [if_neg h1, if_neg h2, if_neg h3, if_neg h4, if_neg h5, if_neg h6, if_neg h7, if_neg h8, if_pos h9]]
      exact ⟨rfl, [0, 1], fv, ⟨mc_fit, trivial, cR_fit, trivial⟩, rfl, rfl⟩
    refine ⟨_, fun nn => r_call (t := es53 (colE x)) rfl rfl Tryz.func52 (fun W M E => f_col x W), st mo ?_⟩
    refine ⟨_, fun nn => r_look (t := ((lkB e.C (colE x)).getD cl0).y) rfl (fun W M => (he.xf hX).lkc M (colE x)), st mo ⟨dk, st mo ?_⟩⟩
    refine ⟨_, fun nn => r_call (t := (agV x.op ((lkB e.C (colE x)).getD cl0).m ((lkB e.C (colE x)).getD cl0).s).y) rfl rfl Tryz.func98 (fun W M E => p_value x.op _ (he.cv (colE x)) _ W), st mo ?_⟩
    refine ⟨_, fun nn => r_call (t := (aggE e x).y) rfl rfl Tryz.func91 (fun W M E => f_may _ (ag_ok (he.cv (colE x))) W), st mo ?_⟩
    rw [show nodE e x a = aggE e x by unfold nodE; rw [if_neg h1, if_neg h2, if_neg h3, if_neg h4, if_neg h5, if_neg h6, if_neg h7, if_neg h8, if_neg h9]]
    exact ⟨rfl, [0, 1], fv, ⟨mc_fit, trivial, cR_fit, trivial⟩, rfl, rfl⟩
theorem fit_node {X : World} {e : Ev} (he : EvL X e) {x : Ex} (hx : x.u4) {a : Nat → VL} (ha : ∀ i, (a i).fit) : (nodE e x a).fit := by
  unfold nodE
  split; · exact fit_may hx.ok
  split; · exact fit_may (he.nv _)
  split; · exact fit_neg (ha 0).1
  split; · exact fit_not _
  split; · exact fit_op _ (ha 0).1 (ha 1).1
  split; · exact fit_if (ha 1).1 (ha 2).1
  split; · exact fit_rnd _ _ (ha 0).1
  split; · exact fit_brk he (ha 0)
  split; · exact fit_blk (ha 0).1
  exact fit_may (ag_ok (he.cv _))
theorem vBl_fit : vBl.fit := ⟨vBl_ok, by decide⟩
theorem fit_ev {X : World} {e : Ev} (he : EvL X e) : ∀ {d : Nat} {x : Ex}, XU d x → (evE e d x).fit
  | 0, x, h => by
    unfold evE; split
    · exact fit_node he h.u fun _ => vBl_fit
    · exact fit_bad _
  | d + 1, x, h => by
    unfold evE; split
    · refine fit_node he h.u fun i => ?_
      cases q : x.a[i]? with
      | none => exact vBl_fit
      | some y => exact fit_ev he (h.2 y (List.mem_of_getElem? q))
    · exact fit_bad _
abbrev aI (a : Nat → VL) (i j : Nat) : VL := bif Nat.blt j i then a j else vBl
theorem whl_le {x : Ex} (h : whl x = true) : x.a.length ≤ 3 := by
  have h := of_decide_eq_true h
  unfold whN at h
  repeat (first | (injection h; omega) | cases h | split at h)
/-- The arguments of a node, evaluated one behind the other. -/
theorem chain {l : List Ex} {P : Ex → Bool → Bool → Prop} (h : ∀ y ∈ l, ∀ b, ∃ b', P y b b') (b0 : Bool) : ∃ f : Nat → Bool, f 0 = b0 ∧ ∀ i y, l[i]? = some y → P y (f i) (f (i + 1)) := by
  have h1 : ∀ (i : Nat) (b : Bool), ∃ b', ∀ y, l[i]? = some y → P y b b' := fun i b => by
    cases q : l[i]? with
    | none => exact ⟨b, fun y hy => by cases hy⟩
    | some y => obtain ⟨b', hb⟩ := h y (List.mem_of_getElem? q) b; exact ⟨b', fun z hz => by cases hz; exact hb⟩
  exact ⟨fun n => Nat.rec b0 (fun i b => Classical.choose (h1 i b)) n, rfl, fun i y hy => Classical.choose_spec (h1 i _) y hy⟩
abbrev EvC (e : Ev) (jk : List Value) (x : Ex) (v : VL) (mk mk' : Bool) (d : Nat) : Prop := ∀ X, EvL X e → LT X d x → Ctr Tryz.prog X 30 [q0 0, .agg (x.c.map rel1).toArray] (hR e mk jk) 2 1 v.y (hR e mk' jk) 2
set_option maxRecDepth 20000 in
theorem f_no (e : Ev) (jk : List Value) (x : Ex) (h : whl x = false) (mk : Bool) (d : Nat) : EvC e jk x (vBad 2) mk mk d := fun X he hL => by
  refine fn_c _ Tryz.func30 rfl rfl rfl rfl (fun w l X' hX => run_ok (st mo ?_))
  refine ⟨_, fun nn => r_call (t := litF) rfl rfl Tryz.func60 (fun W M E => f_whole' h W), st mo ?_⟩
  refine ⟨_, fun nn => r_call (t := (vBad 2).y) rfl rfl Tryz.func44 (fun W M E => p_bad 2 W), st mo ?_⟩
  exact ⟨rfl, [0, 1], fv, ⟨mc_fit, trivial, cR_fit, trivial⟩, rfl, rfl⟩
set_option maxRecDepth 20000 in
theorem f_yes (e : Ev) (jk : List Value) (x : Ex) (hw : whl x = true) (hx : x.u4) (f : Nat → Bool) (a : Nat → VL) (ha : ∀ i, (a i).ok) (h0 : ∀ j, x.a.length ≤ j → a j = vBl) (d : Nat)
    (hs : ∀ i y, x.a[i]? = some y → ∀ X, EvL X e → LT X (d + 1) x → Ctr Tryz.prog X 30 [q0 0, .agg (y.c.map rel1).toArray] (hR e (f i) jk) 2 1 (a i).y (hR e (f (i + 1)) jk) 2) :
    ∃ mk', EvC e jk x (nodE e x a) (f 0) mk' (d + 1) := by
  have hl := whl_le hw
  have ea : aI a x.a.length = a := funext fun j => by
    unfold aI
    by_cases q : j < x.a.length
    · rw [show Nat.blt j x.a.length = true by rw [Nat.blt_eq]; exact q]; rfl
    · rw [h0 j (by omega)]; cases Nat.blt j x.a.length <;> rfl
  obtain ⟨mk', hn⟩ := f_node e x hx a ha (f x.a.length) jk
  refine ⟨mk', fun X he hL => ?_⟩
  refine fn_c _ Tryz.func30 rfl rfl rfl rfl (fun w l X' hX => run_ok (st mo ?_))
  refine ⟨_, fun nn => r_call (t := litT) rfl rfl Tryz.func60 (fun W M E => f_whole' hw W), st mo (st mo ?_)⟩
  refine S.w_loop (fun i : Nat => ⟨⟨30, [(0, q0 0), (3, q0 2), (4, q0 3), (5, q0 4), (13, raw (.slice x.p x.a.length x.cl)), (14, .int .i64 (x.a.length : Int)), (15, .int .i64 (i : Int))]⟩, [(2, some (x.c.map rel1)), (0, some (rdC e (mcR 1 (f i)))), (1 + 4096, none), (1, some (cR e (f i) jk)), (3, some (vBl.cells.map rel1)), (4, some ((agC (aI a i)).map rel1))], 5, X'⟩)
    (fun i => i ≤ x.a.length) (fun i => x.a.length - i) 0 (by omega) [0, 1, 2, 3, 4] ⟨rfl, ⟨fp, fp, fp, fp, fv, fv, fv, trivial⟩, ⟨flr rfl, mc_fit, trivial, cR_fit, flr rfl, flr rfl, trivial⟩, xf, rfl, rfl⟩ ?_
  intro i hi
  have hL' : LT X' (d + 1) x := hL.mono (xce hX)
  refine st mo ⟨fun hlt => st mo ?_, fun hge => st mo (st mo ?_)⟩
  · have hil : i < x.a.length := by omega
    obtain ⟨y, hy⟩ : ∃ y, x.a[i]? = some y := ⟨_, List.getElem?_eq_getElem hil⟩
    obtain ⟨⟨b, o, h4, h5⟩, h8⟩ := hL'.at hy
    refine ⟨b, o, i, h4, rfl, hil, st mo ⟨y.c, rfl, h5, st mo ?_⟩⟩
    refine ⟨_, fun nn => r_c (tc := (a i).y) [0, 1] [some (rdC e (mcR 6 (f (i + 1)))), some (cR e (f (i + 1)) jk)] [6] rfl rfl (hs i y hy X' (he.xf hX) hL') (fitL_cons fp (fitL_cons fv rfl)) ⟨mc_fit, trivial, cR_fit, trivial⟩ uv ⟨mc_un, cR_un, trivial⟩, st mo ?_⟩
    rcases i with _ | _ | _ | i
    · refine ⟨0, rfl, by decide, st mo ⟨Nat.le_of_ble_eq_true rfl, (agC (aI a 1)).map rel1, rfl, st mo ⟨_, wz 1 rfl, st mo ?_⟩⟩⟩
      exact ⟨1, hil, by dsimp; omega, [0, 6, 2, 3, 4], rfl, ⟨fp, fp, fp, fp, fv, fv, fv, trivial⟩, ⟨flr rfl, mc_fit, trivial, cR_fit, flr rfl, flr rfl, trivial⟩, xf, rfl, rfl⟩
    · refine ⟨1, rfl, by decide, st mo ⟨Nat.le_of_ble_eq_true rfl, (agC (aI a 2)).map rel1, rfl, st mo ⟨_, wz 2 rfl, st mo ?_⟩⟩⟩
      exact ⟨2, hil, by dsimp; omega, [0, 6, 2, 3, 4], rfl, ⟨fp, fp, fp, fp, fv, fv, fv, trivial⟩, ⟨flr rfl, mc_fit, trivial, cR_fit, flr rfl, flr rfl, trivial⟩, xf, rfl, rfl⟩
    · refine ⟨2, rfl, by decide, st mo ⟨Nat.le_of_ble_eq_true rfl, (agC (aI a 3)).map rel1, rfl, st mo ⟨_, wz 3 rfl, st mo ?_⟩⟩⟩
      exact ⟨3, hil, by dsimp; omega, [0, 6, 2, 3, 4], rfl, ⟨fp, fp, fp, fp, fv, fv, fv, trivial⟩, ⟨flr rfl, mc_fit, trivial, cR_fit, flr rfl, flr rfl, trivial⟩, xf, rfl, rfl⟩
    · omega
  · obtain rfl : i = x.a.length := by omega
    refine ⟨_, fun nn => r_c (tc := (nodE e x a).y) [0, 1] [some (rdC e (mcR 5 mk')), some (cR e mk' jk)] [5] rfl rfl (hn X' (he.xf hX)) (fitL_cons fp (fitL_cons fv (fitL_cons (fv (by rw [ea]; rfl)) rfl))) ⟨mc_fit, trivial, cR_fit, trivial⟩ uv ⟨mc_un, cR_un, trivial⟩, st mo ?_⟩
    exact ⟨rfl, [0, 5], fv, ⟨mc_fit, trivial, cR_fit, trivial⟩, rfl, rfl⟩
theorem f_eval (e : Ev) (jk : List Value) : ∀ (d : Nat) (x : Ex) (mk : Bool), XU d x → ∃ mk', EvC e jk x (evE e d x) mk mk' d
  | 0, x, mk, hu => by
    by_cases hx : x.a = []
    · cases hw : whl x with
      | false => exact ⟨mk, by rw [show evE e 0 x = vBad 2 by unfold evE; rw [hw]; rfl]; exact f_no e jk x hw mk 0⟩
      | true =>
        obtain ⟨mk', h⟩ := f_yes e jk x hw hu.u (fun _ => mk) (fun _ => vBl) (fun _ => vBl_ok) (fun _ _ => rfl) 0 (fun i y hy => by rw [hx] at hy; cases hy)
        exact ⟨mk', fun X he hL => by rw [show evE e 0 x = nodE e x (fun _ => vBl) by unfold evE; rw [hw]; rfl]; exact h X he hL.up⟩
    · exact ⟨mk, fun X he hL => absurd hL hx⟩
  | d + 1, x, mk, hu => by
    cases hw : whl x with
    | false => exact ⟨mk, by rw [show evE e (d + 1) x = vBad 2 by unfold evE; rw [hw]; rfl]; exact f_no e jk x hw mk (d + 1)⟩
    | true =>
      obtain ⟨f, h0, hf⟩ := chain (l := x.a) (P := fun y b b' => EvC e jk y (evE e d y) b b' d) (fun y hy b => f_eval e jk d y b (hu.2 y hy)) mk
      by_cases hne : ∃ X, EvL X e
      · obtain ⟨X0, he0⟩ := hne
        obtain ⟨mk', h⟩ := f_yes e jk x hw hu.u f (fun j => ((x.a[j]?).map (evE e d)).getD vBl) (fun i => by
          cases q : x.a[i]? with
          | none => exact vBl_ok
          | some y => exact (fit_ev he0 (hu.2 y (List.mem_of_getElem? q))).1) (fun j hj => by rw [List.getElem?_eq_none hj]; rfl) d (fun i y hy X he hL => by
            have := hf i y hy X he (hL.at hy).2
            rw [hy]; exact this)
        rw [h0] at h
        exact ⟨mk', by rw [show evE e (d + 1) x = nodE e x (fun j => ((x.a[j]?).map (evE e d)).getD vBl) by rw [evE, hw]; rfl]; exact h⟩
      · exact ⟨mk, fun X he _ => absurd ⟨X, he⟩ hne⟩
abbrev xY (x : Ex) : Value := .agg (x.c.map rel1).toArray
/-- An item. -/
structure It where
  nm : ByteArray
  k : Int
  tk : Int
  ts : Int
  nd : Bool
  pl : Int
  x : Ex
def It.c (i : It) : List Value := [.string i.nm, .int .i64 i.k, .int .i64 i.tk, .int .i64 i.ts, .bool i.nd, .int .i64 i.pl] ++ i.x.c
set_option maxRecDepth 20000 in
theorem q_dck (b : Bool) (n s : Int) (hn : 0 ≤ n ∧ n < MM) (w : World) : Calls Tryz.prog 59 #[dc b n s] w fun r W => r = .returned (.int .i64 (ck b n s)) ∧ Mb w W := by
  cases b
  · refine fn_pure [dcl litF n s] Tryz.func59 rfl rfl rfl (run_ok (st mo ⟨fun h => st mo ?_, fun h => st mo ⟨fun h2 => st mo ?_, fun h2 => st mo ?_⟩⟩))
    · show _ = _; rw [ck, show sc s = false by unfold sc; rw [decide_eq_false (by omega)]; rfl]; rfl
    · show _ = _; rw [ck, show sc s = false by unfold sc; rw [decide_eq_true (by omega), decide_eq_false (by omega)]; rfl]; rfl
    · show _ = _; rw [ck, sc_iff.2 ⟨by omega, by omega⟩]; rfl
  · refine fn_pure [dcl litT n s] Tryz.func59 rfl rfl rfl (run_ok (st mo ⟨fun h => st mo ?_, fun h => st mo ⟨fun h2 => st mo ?_, fun h2 => st mo ?_⟩⟩))
    · show _ = _; rw [ck, show sc s = false by unfold sc; rw [decide_eq_false (by omega)]; rfl]; rfl
    · show _ = _; rw [ck, show sc s = false by unfold sc; rw [decide_eq_true (by omega), decide_eq_false (by omega)]; rfl]; rfl
    · refine ⟨_, r_eqN n 0 hn MM_0, fun h => st mo ?_, fun h => st mo ?_⟩
      · show _ = _; rw [ck, sc_iff.2 ⟨by omega, by omega⟩, h]; rfl
      · show _ = _; rw [ck, sc_iff.2 ⟨by omega, by omega⟩, h]; rfl
theorem ckI_of {v : VL} {b : Bool} (h : ckv v = b) : ckI v = if b then 0 else 1 := by unfold ckI; rw [h]
set_option maxRecDepth 20000 in
theorem q_check (v : VL) (hv : v.ok) (w : World) : Calls Tryz.prog 27 #[v.v] w fun r W => r = .returned (.int .i64 (ckI v)) ∧ Mb w W := by
  refine fn_pure [v.y] Tryz.func27 rfl rfl rfl (run_ok (st mo ?_))
  refine ⟨fun h0 => st mo ?_, fun h0 => st mo ⟨fun h1 => st mo ?_, fun h1 => st mo ⟨fun h2 => st mo ?_, fun h2 => st mo ⟨fun h3 => st mo ?_, fun h3 => st mo ⟨fun h4 => st mo ?_, fun h4 => st mo ?_⟩⟩⟩⟩⟩
  · have hb : bareV v = vBl := by unfold bareV; simp [h0]
    have hi : inB v = true := by unfold inB; simp [h0]
    refine ⟨_, r_eqV v vBl, fun q => st mo ?_, fun q => st mo ?_⟩
    · show _ = _; rw [ckI_of (b := true) (by unfold ckv; rw [hb, q, hi]; rfl)]; rfl
    · show _ = _; rw [ckI_of (b := false) (by unfold ckv; rw [hb, q]; rfl)]; rfl
  · have hb : bareV v = vNu v.b v.n v.s := by unfold bareV; rw [if_pos h1]
    have hi : inB v = decide (ck v.b v.n v.s = 0) := by unfold inB; rw [if_pos h1]
    refine ⟨_, r_eqV v (vNu v.b v.n v.s), fun q => st mo ?_, fun q => st mo ?_⟩
    · refine ⟨_, fun nn => r_call (t := .int .i64 (ck v.b v.n v.s)) rfl rfl Tryz.func59 (fun W M E => q_dck v.b v.n v.s hv W), st mo ⟨fun h => st mo ?_, fun h => st mo ?_⟩⟩
      · show _ = _; rw [ckI_of (b := true) (by unfold ckv; rw [hb, q, hi, decide_eq_true h]; rfl)]; rfl
      · show _ = _; rw [ckI_of (b := false) (by unfold ckv; rw [hb, q, hi, decide_eq_false h]; rfl)]; rfl
    · show _ = _; rw [ckI_of (b := false) (by unfold ckv; rw [hb, q]; rfl)]; rfl
  · have hb : bareV v = vFl v.f := by unfold bareV; rw [if_neg h1, if_pos h2]
    have hi : inB v = true := by unfold inB; rw [if_neg h1, if_neg (by omega), if_neg (by omega)]
    refine ⟨_, r_eqV v (vFl v.f), fun q => st mo ?_, fun q => st mo ?_⟩
    · show _ = _; rw [ckI_of (b := true) (by unfold ckv; rw [hb, q, hi]; rfl)]; rfl
    · show _ = _; rw [ckI_of (b := false) (by unfold ckv; rw [hb, q]; rfl)]; rfl
  · have hb : bareV v = vTx v.t := by unfold bareV; rw [if_neg h1, if_neg h2, if_pos h3]
    have hi : inB v = decide (v.t.size ≤ 64) := by unfold inB; rw [if_neg h1, if_pos h3]
    refine ⟨_, r_eqV v (vTx v.t), fun q => st mo ?_, fun q => st mo ?_⟩
    · refine st mo ⟨fun h => st mo ?_, fun h => st mo ?_⟩
      · show _ = _; rw [ckI_of (b := true) (by unfold ckv; rw [hb, q, hi, decide_eq_true (by omega)]; rfl)]; rfl
      · show _ = _; rw [ckI_of (b := false) (by unfold ckv; rw [hb, q, hi, decide_eq_false (by omega)]; rfl)]; rfl
    · show _ = _; rw [ckI_of (b := false) (by unfold ckv; rw [hb, q]; rfl)]; rfl
  · have hb : bareV v = vEr v.e := by unfold bareV; rw [if_neg h1, if_neg h2, if_neg h3, if_pos h4]
    have hi : inB v = isE v.e := by unfold inB; rw [if_neg h1, if_neg h3, if_pos h4]
    refine ⟨_, r_eqV v (vEr v.e), fun q => st mo ?_, fun q => st mo ?_⟩
    · refine ⟨fun h => st mo ⟨fun g => st mo ?_, fun g => st mo ?_⟩, fun h => st mo ?_⟩
      · show _ = _; rw [ckI_of (b := true) (by unfold ckv; rw [hb, q, hi]; unfold isE; rw [decide_eq_true (by omega), decide_eq_true (by omega)]; rfl)]; rfl
      · show _ = _; rw [ckI_of (b := false) (by unfold ckv; rw [hb, q, hi]; unfold isE; rw [decide_eq_true (by omega), decide_eq_false (by omega)]; rfl)]; rfl
      · show _ = _; rw [ckI_of (b := false) (by unfold ckv; rw [hb, q, hi]; unfold isE; rw [decide_eq_false (by omega)]; rfl)]; rfl
    · show _ = _; rw [ckI_of (b := false) (by unfold ckv; rw [hb, q]; rfl)]; rfl
  · have : ckv v = false := by
      cases c : ckv v with
      | false => rfl
      | true => rcases ckv_k hv c with h | h | h | h | h <;> omega
    show _ = _; rw [ckI_of this]; rfl
end Go.Proofs.YtfmfeipeeedfpaaGreat
