/-
  The tree's look and hang.
-/
import Derived.Test.YtbmbldloeblbbaaSa
namespace Go.Proofs.Ytbmbldloeblbbaa
open Go.RowKit
section
variable {D : Nat → Prop} {t mb : Nat} {R : Mp} {root : Option Nat} {lk : Int}
/-- How many there are. -/
def cnt (ps : List (Option Nat)) : Int := ps.foldl (fun c x => if x.isSome then c + 1 else c) 0
theorem cnt_snoc (ps : List (Option Nat)) (x : Option Nat) : cnt (ps ++ [x]) = if x.isSome then cnt ps + 1 else cnt ps := by unfold cnt; rw [List.foldl_append]; rfl
theorem cnt_take {ps : List (Option Nat)} {j : Nat} {x : Option Nat} (h : ps[j]? = some x) : cnt (ps.take (j + 1)) = if x.isSome then cnt (ps.take j) + 1 else cnt (ps.take j) := by
  rw [List.take_add_one, h]; exact cnt_snoc _ _
theorem cnt_bd : ∀ (ps : List (Option Nat)) (c : Int), c ≤ ps.foldl (fun c x => if x.isSome then c + 1 else c) c ∧ ps.foldl (fun c x => if x.isSome then c + 1 else c) c ≤ c + ps.length
  | [], c => by simp
  | x :: ps, c => by
    simp only [List.foldl_cons, List.length_cons]
    cases x with
    | none => have := cnt_bd ps c; simp at *; omega
    | some k => have := cnt_bd ps (c + 1); simp at *; omega
theorem cnt_le (ps : List (Option Nat)) : 0 ≤ cnt ps ∧ cnt ps ≤ ps.length := by have := cnt_bd ps 0; unfold cnt; omega
theorem ixs (g j n c : Nat) (h : j < n) (w : World) : (Instr.indexAt 79 (.slice (some ⟨g, 0, none⟩) n c) (.int .i64 (j : Int))).run Try.prog w = .ok (pt g j) w := by
  simp [go_sem, h]
theorem lens_run (ρ : Operand → Value) (x : Operand) (p : Option Addr) (m c : Nat) (hx : ρ x = .slice p m c) (dst : Option Tmp) (type : TypeId) (pos : String) (after : Array Edge) (guard : Option (Nat × Bool)) (w : World) : (execOp ρ { dst, op := .call { callee := .builtin .len, args := #[x], argTypes := #[79] }, type, pos, after, guard }).run Try.prog w = .ok (.value (.int .i64 (m : Int))) w := by
  simp [go_sem, hx]
theorem ltN {a b : Nat} {r : Bool} (h : decide (a < b) = r) (x y : Operand) (w : World) : (do eqGuard .lss 3 x y (.int .i64 (a : Int)) (.int .i64 (b : Int)); binOp .lss 3 (.int .i64 (a : Int)) (.int .i64 (b : Int))).run Try.prog w = .ok (.bool r) w :=
  ltI (by rw [← h]; exact decide_eq_decide.2 Int.ofNat_lt) _ _ _
theorem add1r {k : Nat} (hk : k ≤ 9223372036854775806) (x y : Operand) (w : World) : (do eqGuard .add 3 x y (.int .i64 (k : Int)) (.int .i64 1); binOp .add 3 (.int .i64 (k : Int)) (.int .i64 1)).run Try.prog w = .ok (.int .i64 ((k + 1 : Nat) : Int)) w :=
  addI (by omega) (by omega) _ _ _
theorem look_n (ps : List (Option Nat)) (g : Nat) {w : World} (hS : HS D w t mb R root lk) (Qg : At w g (ps.map pp)) (hgd : ¬ D g) (hb : 0 ≤ lk ∧ lk + ps.length ≤ 4611686018427387904) : Calls Try.prog 39 #[pt t 0, .slice (some ⟨g, 0, none⟩) ps.length ps.length] w fun e w' => e = .returned (.tuple #[]) ∧ HS D w' t mb R root (lk + cnt ps) ∧ Mk D w w' := by
  have hS0 := hS
  refine w_enter 22 Try.func39 Try.ntmps39 rfl rfl ?_
  have M : Mk D w w := Mk.refl _ _
  refine w_seq ?_
  refine w_reg ?_
  refine wl_mv (.tmp 1) (.slice (some ⟨g, 0, none⟩) ps.length ps.length) (fun _ => rfl) rfl rfl ?_
  refine wl_val (.int .i64 ((ps.length : Nat) : Int)) (lens_run _ _ _ _ ps.length (by exact rfl) _ _ _ _ _ _) rfl ?_
  refine wl_mv (.const (.int .i64 (0))) (.int .i64 (0)) (fun _ => rfl) rfl rfl ?_
  refine w_nil ?_
  refine xn_then ?_
  refine w_block ?_
  refine w_loop (fun m l w1 => ∃ j : Nat, m = ps.length - j ∧ look l 0 = pt t 0 ∧ look l 6 = .slice (some ⟨g, 0, none⟩) ps.length ps.length ∧ look l 7 = .int .i64 (ps.length : Int) ∧ look l 8 = .int .i64 (j : Int) ∧ j ≤ ps.length ∧ HS D w1 t mb R root (lk + cnt (ps.take j)) ∧ At w1 g (ps.map pp) ∧ Mk D w w1) _ ⟨0, rfl, rfl, rfl, rfl, rfl, by omega, by rw [show cnt (ps.take 0) = 0 from rfl, Int.add_zero]; exact hS, Qg, M⟩ ?_
  clear M Qg hS
  rintro m l wl ⟨j, rfl, e0, e6, e7, e8, hj, hS, Qg, M⟩
  by_cases hjl : j < ps.length
  · obtain ⟨x, hx⟩ : ∃ x, ps[j]? = some x := ⟨ps[j], List.getElem?_eq_getElem hjl⟩
    have hc := cnt_le (ps.take j)
    rw [List.length_take] at hc
    have hct := cnt_take hx
    have hdl : decide (j < ps.length) = true := decide_eq_true hjl
    cases x with
    | none =>
      refine w_seq ?_
      refine w_reg ?_
      refine wl_bin (fun x y => do eqGuard .lss 3 (.tmp 8) (.tmp 7) x y; binOp .lss 3 x y) (.tmp 8) (.tmp 7) (.int .i64 ((j : Nat) : Int)) (.int .i64 ((ps.length : Nat) : Int)) (.bool true) (fun _ => rfl) e8 e7 (ltN hdl _ _ _) rfl ?_
      refine w_nil ?_
      refine xn_then ?_
      refine w_seq ?_
      refine w_condT rfl ?_
      refine w_skip ?_
      refine xn_then ?_
      refine w_seq ?_
      refine w_block ?_
      refine w_seq ?_
      refine w_reg ?_
      refine wl_bin (fun x y => Instr.indexAt 79 x y) (.tmp 6) (.tmp 8) (.slice (some ⟨g, 0, none⟩) ps.length ps.length) (.int .i64 ((j : Nat) : Int)) (pt g j) (fun _ => rfl) e6 e8 (ixs g j ps.length ps.length hjl _) rfl ?_
      refine wl_load 56 (.tmp 10) (pt g j) (pp none) rfl rfl (run_one (v := pp none) Qg 56 j (by rw [List.getElem?_map, hx]; rfl) Try.underlying56 rfl) rfl ?_
      refine wl_mv (.tmp 11) (pp none) (fun _ => rfl) rfl rfl ?_
      refine w_nil ?_
      refine xn_then ?_
      refine w_seq ?_
      refine w_reg ?_
      refine wl_mv (.tmp 5) (pp none) (fun _ => rfl) rfl rfl ?_
      refine wl_bin (fun x y => do eqGuard .neq 56 (.tmp 12) (.const (.pointer none)) x y; binOp .neq 56 x y) (.tmp 12) (.const (.pointer none)) (pp none) (pp none) (.bool false) (fun _ => rfl) rfl rfl (ne56 none _ _ _) rfl ?_
      refine w_nil ?_
      refine xn_then ?_
      refine w_condF rfl ?_
      refine w_skip ?_
      refine xn_blk ?_
      refine xn_then ?_
      refine w_reg ?_
      refine wl_bin (fun x y => do eqGuard .add 3 (.tmp 8) (.const (.int .i64 (1))) x y; binOp .add 3 x y) (.tmp 8) (.const (.int .i64 (1))) (.int .i64 ((j : Nat) : Int)) (.int .i64 (1)) (.int .i64 ((j + 1 : Nat) : Int)) (fun _ => rfl) e8 rfl (add1r (k := j) (by omega) _ _ _) rfl ?_
      refine wl_mv (.tmp 21) (.int .i64 ((j + 1 : Nat) : Int)) (fun _ => rfl) rfl rfl ?_
      refine w_nil ?_
      exact xn_loop (ps.length - (j + 1)) (by omega) ⟨j + 1, rfl, e0, e6, e7, rfl, by omega, by rw [show lk + cnt (ps.take (j + 1)) = lk + cnt (ps.take j) by rw [hct]; simp; try omega]; exact hS, Qg, M⟩
    | some q =>
      refine w_seq ?_
      refine w_reg ?_
      refine wl_bin (fun x y => do eqGuard .lss 3 (.tmp 8) (.tmp 7) x y; binOp .lss 3 x y) (.tmp 8) (.tmp 7) (.int .i64 ((j : Nat) : Int)) (.int .i64 ((ps.length : Nat) : Int)) (.bool true) (fun _ => rfl) e8 e7 (ltN hdl _ _ _) rfl ?_
      refine w_nil ?_
      refine xn_then ?_
      refine w_seq ?_
      refine w_condT rfl ?_
      refine w_skip ?_
      refine xn_then ?_
      refine w_seq ?_
      refine w_block ?_
      refine w_seq ?_
      refine w_reg ?_
      refine wl_bin (fun x y => Instr.indexAt 79 x y) (.tmp 6) (.tmp 8) (.slice (some ⟨g, 0, none⟩) ps.length ps.length) (.int .i64 ((j : Nat) : Int)) (pt g j) (fun _ => rfl) e6 e8 (ixs g j ps.length ps.length hjl _) rfl ?_
      refine wl_load 56 (.tmp 10) (pt g j) (pt q 0) rfl rfl (run_one (v := pp (some q)) Qg 56 j (by rw [List.getElem?_map, hx]; rfl) Try.underlying56 rfl) rfl ?_
      refine wl_mv (.tmp 11) (pt q 0) (fun _ => rfl) rfl rfl ?_
      refine w_nil ?_
      refine xn_then ?_
      refine w_seq ?_
      refine w_reg ?_
      refine wl_mv (.tmp 5) (pt q 0) (fun _ => rfl) rfl rfl ?_
      refine wl_bin (fun x y => do eqGuard .neq 56 (.tmp 12) (.const (.pointer none)) x y; binOp .neq 56 x y) (.tmp 12) (.const (.pointer none)) (pt q 0) (pp none) (.bool true) (fun _ => rfl) rfl rfl (ne56 (some q) _ _ _) rfl ?_
      refine w_nil ?_
      refine xn_then ?_
      refine w_condT rfl ?_
      refine w_reg ?_
      refine wl_mv (.tmp 0) (pt t 0) (fun _ => rfl) e0 rfl ?_
      refine wl_nc (.tmp 14) t 0 rfl rfl rfl ?_
      refine wl_un (fun v => Instr.fieldAt 59 v 2) (.tmp 15) (pt t 0) (pt t 2) (fun _ => rfl) rfl (by kernel_rfl) rfl ?_
      refine wl_load 2 (.tmp 16) (pt t 2) (.int .i64 (lk + cnt (ps.take j))) rfl rfl (run_one hS.tr 2 2 rfl Try.underlying2 rfl) rfl ?_
      refine wl_bin (fun x y => do eqGuard .add 2 (.tmp 17) (.const (.int .i64 (1))) x y; binOp .add 2 x y) (.tmp 17) (.const (.int .i64 (1))) (.int .i64 (lk + cnt (ps.take j))) (.int .i64 (1)) (.int .i64 (lk + cnt (ps.take j) + 1)) (fun _ => rfl) rfl rfl (addL (by omega) (by omega) _ _ _) rfl ?_
      refine wl_nc (.tmp 14) t 0 rfl rfl rfl ?_
      refine wl_un (fun v => Instr.fieldAt 59 v 2) (.tmp 19) (pt t 0) (pt t 2) (fun _ => rfl) rfl (by kernel_rfl) rfl ?_
      refine wl_st1x 2 (.tmp 20) (.tmp 18) t 2 (.int .i64 (lk + cnt (ps.take j) + 1)) [pp root, .map (some mb), .int .i64 (lk + cnt (ps.take j))] [pp root, .map (some mb), .int .i64 (lk + cnt (ps.take j) + 1)] hS.tr rfl rfl rfl rfl rfl sz2 rfl rfl rfl rfl ?_
      intro w21 hT hA
      replace M := M.st hT hS.dt
      replace hS := hS.top root ((lk + cnt (ps.take j) + 1)) hT hA
      replace Qg := hT.other _ _ (fun e => hgd (by rw [e]; exact hS0.dt)) Qg
      clear hT hA
      refine w_nil ?_
      refine xn_blk ?_
      refine xn_then ?_
      refine w_reg ?_
      refine wl_bin (fun x y => do eqGuard .add 3 (.tmp 8) (.const (.int .i64 (1))) x y; binOp .add 3 x y) (.tmp 8) (.const (.int .i64 (1))) (.int .i64 ((j : Nat) : Int)) (.int .i64 (1)) (.int .i64 ((j + 1 : Nat) : Int)) (fun _ => rfl) e8 rfl (add1r (k := j) (by omega) _ _ _) rfl ?_
      refine wl_mv (.tmp 21) (.int .i64 ((j + 1 : Nat) : Int)) (fun _ => rfl) rfl rfl ?_
      refine w_nil ?_
      exact xn_loop (ps.length - (j + 1)) (by omega) ⟨j + 1, rfl, e0, e6, e7, rfl, by omega, by rw [show lk + cnt (ps.take (j + 1)) = lk + cnt (ps.take j) + 1 by rw [hct]; simp; try omega]; exact hS, Qg, M⟩
  · have hdl : decide (j < ps.length) = false := decide_eq_false hjl
    refine w_seq ?_
    refine w_reg ?_
    refine wl_bin (fun x y => do eqGuard .lss 3 (.tmp 8) (.tmp 7) x y; binOp .lss 3 x y) (.tmp 8) (.tmp 7) (.int .i64 ((j : Nat) : Int)) (.int .i64 ((ps.length : Nat) : Int)) (.bool false) (fun _ => rfl) e8 e7 (ltN hdl _ _ _) rfl ?_
    refine w_nil ?_
    refine xn_then ?_
    refine w_seq ?_
    refine w_condF rfl ?_
    refine w_exit ?_
    refine xx_then ?_
    refine xx_then ?_
    refine xx_blk ?_
    exact w_end0 rfl ⟨rfl, by rw [List.take_of_length_le (by omega)] at hS; exact hS, M⟩
theorem hang_k0 {w : World} (hS : HS D w t mb R root lk) {k : Nat} {r : Rc} (hk : R k = some r) (z : Int) : Calls Try.prog 43 #[pt t 0, pp none, .int .i64 (z), pt k 0] w fun e w' => e = .returned (.tuple #[]) ∧ HS D w' t mb (hkR R none false (some k)) (hkO root none (some k)) lk ∧ Mk D w w' := by
  have hk0 := hk
  refine w_enter 28 Try.func43 Try.ntmps43 rfl rfl ?_
  have M : Mk D w w := Mk.refl _ _
  refine w_seq ?_
  refine w_seq ?_
  refine w_reg ?_
  refine wl_mv (.tmp 3) (pt k 0) (fun _ => rfl) rfl rfl ?_
  refine wl_bin (fun x y => do eqGuard .neq 56 (.tmp 8) (.const (.pointer none)) x y; binOp .neq 56 x y) (.tmp 8) (.const (.pointer none)) (pt k 0) (pp none) (.bool true) (fun _ => rfl) rfl rfl (ne56 (some k) _ _ _) rfl ?_
  refine w_nil ?_
  refine xn_then ?_
  refine w_condT rfl ?_
  refine w_reg ?_
  refine wl_mv (.tmp 3) (pt k 0) (fun _ => rfl) rfl rfl ?_
  refine wl_mv (.tmp 1) (pp none) (fun _ => rfl) rfl rfl ?_
  refine wl_nc (.tmp 10) k 0 rfl rfl rfl ?_
  refine wl_un (fun v => Instr.fieldAt 66 v 0) (.tmp 12) (pt k 0) (pt k 0) (fun _ => rfl) rfl (by kernel_rfl) rfl ?_
  refine wl_un (fun v => Instr.fieldAt 64 v 0) (.tmp 13) (pt k 0) (pt k 0) (fun _ => rfl) rfl (by kernel_rfl) rfl ?_
  refine wl_st1x 56 (.tmp 14) (.tmp 11) k 0 (pp none) [pp r.u, pp r.l, pp r.r, .int .i64 (r.s), .int .i64 (r.i)] [pp none, pp r.l, pp r.r, .int .i64 (r.s), .int .i64 (r.i)] (hS.rc k _ hk) rfl rfl rfl rfl rfl sz56 (pp_cells _) (pp_one _) rfl rfl ?_
  intro w1 hT hA
  replace M := M.st hT (hS.dk hk)
  replace hS := hS.put hk ⟨none, r.l, r.r, (r.s), (r.i)⟩ hT hA
  clear hT hA
  obtain ⟨R1, eR1⟩ : ∃ X, X = ud R k ⟨none, r.l, r.r, (r.s), (r.i)⟩ := ⟨_, rfl⟩
  rw [← eR1] at hS
  have hk : R1 k = some ⟨none, r.l, r.r, (r.s), (r.i)⟩ := by rw [eR1]; exact ud_same _ _ _
  refine w_nil ?_
  refine xn_then ?_
  refine w_seq ?_
  refine w_seq ?_
  refine w_reg ?_
  refine wl_mv (.tmp 1) (pp none) (fun _ => rfl) rfl rfl ?_
  refine wl_bin (fun x y => do eqGuard .eql 56 (.tmp 15) (.const (.pointer none)) x y; binOp .eql 56 x y) (.tmp 15) (.const (.pointer none)) (pp none) (pp none) (.bool true) (fun _ => rfl) rfl rfl (eq56 none _ _ _) rfl ?_
  refine w_nil ?_
  refine xn_then ?_
  refine w_condT rfl ?_
  refine w_seq ?_
  refine w_reg ?_
  refine wl_mv (.tmp 0) (pt t 0) (fun _ => rfl) rfl rfl ?_
  refine wl_mv (.tmp 3) (pt k 0) (fun _ => rfl) rfl rfl ?_
  refine wl_nc (.tmp 17) t 0 rfl rfl rfl ?_
  refine wl_un (fun v => Instr.fieldAt 59 v 0) (.tmp 19) (pt t 0) (pt t 0) (fun _ => rfl) rfl (by kernel_rfl) rfl ?_
  refine wl_st1x 56 (.tmp 20) (.tmp 18) t 0 (pt k 0) [pp root, .map (some mb), .int .i64 (lk)] [pt k 0, .map (some mb), .int .i64 (lk)] hS.tr rfl rfl rfl rfl rfl sz56 rfl rfl rfl rfl ?_
  intro w2 hT hA
  replace M := M.st hT hS.dt
  replace hS := hS.top (some k) ((lk)) hT hA
  clear hT hA
  refine w_nil ?_
  refine xn_then ?_
  refine w_ret ?_
  refine xr_then ?_
  exact w_ret0 rfl ⟨rfl, by rw [hkR_top, hkU_some hk0, ← eR1]; exact hS, M⟩
theorem hang_kp0 {w : World} (hS : HS D w t mb R root lk) {k : Nat} {r : Rc} (hk : R k = some r) {p : Nat} {q : Rc} (hp : R p = some q) (ne_k_p : k ≠ p) : Calls Try.prog 43 #[pt t 0, pt p 0, .int .i64 (0), pt k 0] w fun e w' => e = .returned (.tuple #[]) ∧ HS D w' t mb (hkR R (some p) false (some k)) (hkO root (some p) (some k)) lk ∧ Mk D w w' := by
  have hk0 := hk
  have hp0 := hp
  refine w_enter 28 Try.func43 Try.ntmps43 rfl rfl ?_
  have M : Mk D w w := Mk.refl _ _
  refine w_seq ?_
  refine w_seq ?_
  refine w_reg ?_
  refine wl_mv (.tmp 3) (pt k 0) (fun _ => rfl) rfl rfl ?_
  refine wl_bin (fun x y => do eqGuard .neq 56 (.tmp 8) (.const (.pointer none)) x y; binOp .neq 56 x y) (.tmp 8) (.const (.pointer none)) (pt k 0) (pp none) (.bool true) (fun _ => rfl) rfl rfl (ne56 (some k) _ _ _) rfl ?_
  refine w_nil ?_
  refine xn_then ?_
  refine w_condT rfl ?_
  refine w_reg ?_
  refine wl_mv (.tmp 3) (pt k 0) (fun _ => rfl) rfl rfl ?_
  refine wl_mv (.tmp 1) (pt p 0) (fun _ => rfl) rfl rfl ?_
  refine wl_nc (.tmp 10) k 0 rfl rfl rfl ?_
  refine wl_un (fun v => Instr.fieldAt 66 v 0) (.tmp 12) (pt k 0) (pt k 0) (fun _ => rfl) rfl (by kernel_rfl) rfl ?_
  refine wl_un (fun v => Instr.fieldAt 64 v 0) (.tmp 13) (pt k 0) (pt k 0) (fun _ => rfl) rfl (by kernel_rfl) rfl ?_
  refine wl_st1x 56 (.tmp 14) (.tmp 11) k 0 (pt p 0) [pp r.u, pp r.l, pp r.r, .int .i64 (r.s), .int .i64 (r.i)] [pt p 0, pp r.l, pp r.r, .int .i64 (r.s), .int .i64 (r.i)] (hS.rc k _ hk) rfl rfl rfl rfl rfl sz56 rfl rfl rfl rfl ?_
  intro w1 hT hA
  replace M := M.st hT (hS.dk hk)
  replace hS := hS.put hk ⟨(some p), r.l, r.r, (r.s), (r.i)⟩ hT hA
  clear hT hA
  obtain ⟨R1, eR1⟩ : ∃ X, X = ud R k ⟨(some p), r.l, r.r, (r.s), (r.i)⟩ := ⟨_, rfl⟩
  rw [← eR1] at hS
  have hk : R1 k = some ⟨(some p), r.l, r.r, (r.s), (r.i)⟩ := by rw [eR1]; exact ud_same _ _ _
  replace hp : R1 p = some ⟨q.u, q.l, q.r, (q.s), (q.i)⟩ := by rw [eR1, ud_ne _ _ ne_k_p.symm]; exact hp
  refine w_nil ?_
  refine xn_then ?_
  refine w_seq ?_
  refine w_seq ?_
  refine w_reg ?_
  refine wl_mv (.tmp 1) (pt p 0) (fun _ => rfl) rfl rfl ?_
  refine wl_bin (fun x y => do eqGuard .eql 56 (.tmp 15) (.const (.pointer none)) x y; binOp .eql 56 x y) (.tmp 15) (.const (.pointer none)) (pt p 0) (pp none) (.bool false) (fun _ => rfl) rfl rfl (eq56 (some p) _ _ _) rfl ?_
  refine w_nil ?_
  refine xn_then ?_
  refine w_condF rfl ?_
  refine w_skip ?_
  refine xn_then ?_
  refine w_reg ?_
  refine wl_mv (.tmp 1) (pt p 0) (fun _ => rfl) rfl rfl ?_
  refine wl_mv (.tmp 2) (.int .i64 (0)) (fun _ => rfl) rfl rfl ?_
  refine wl_mv (.tmp 3) (pt k 0) (fun _ => rfl) rfl rfl ?_
  refine wl_nc (.tmp 21) p 0 rfl rfl rfl ?_
  refine wl_un (fun v => Instr.fieldAt 66 v 0) (.tmp 24) (pt p 0) (pt p 0) (fun _ => rfl) rfl (by kernel_rfl) rfl ?_
  refine wl_un (fun v => Instr.fieldAt 64 v 1) (.tmp 25) (pt p 0) (pt p 1) (fun _ => rfl) rfl (by kernel_rfl) rfl ?_
  refine wl_bin (fun x y => Instr.indexAt 62 x y) (.tmp 26) (.tmp 22) (pt p 1) (.int .i64 (0)) (pt p 1) (fun _ => rfl) rfl rfl (by kernel_rfl) rfl ?_
  refine wl_st1x 56 (.tmp 27) (.tmp 23) p 1 (pt k 0) [pp q.u, pp q.l, pp q.r, .int .i64 (q.s), .int .i64 (q.i)] [pp q.u, pt k 0, pp q.r, .int .i64 (q.s), .int .i64 (q.i)] (hS.rc p _ hp) rfl rfl rfl rfl rfl sz56 rfl rfl rfl rfl ?_
  intro w2 hT hA
  replace M := M.st hT (hS.dk hp)
  replace hS := hS.put hp ⟨q.u, (some k), q.r, (q.s), (q.i)⟩ hT hA
  clear hT hA
  obtain ⟨R2, eR2⟩ : ∃ X, X = ud R1 p ⟨q.u, (some k), q.r, (q.s), (q.i)⟩ := ⟨_, rfl⟩
  rw [← eR2] at hS
  replace hk : R2 k = some ⟨(some p), r.l, r.r, (r.s), (r.i)⟩ := by rw [eR2, ud_ne _ _ ne_k_p]; exact hk
  have hp : R2 p = some ⟨q.u, (some k), q.r, (q.s), (q.i)⟩ := by rw [eR2]; exact ud_same _ _ _
  refine w_nil ?_
  exact w_end0 rfl ⟨rfl, by rw [hkR_some (d := false) (x := some k) (q := q) (by rw [hkU_some hk0, ud_ne _ _ ne_k_p.symm]; exact hp0), hkU_some hk0, ← eR1]; exact eR2 ▸ hS, M⟩
theorem hang_kp1 {w : World} (hS : HS D w t mb R root lk) {k : Nat} {r : Rc} (hk : R k = some r) {p : Nat} {q : Rc} (hp : R p = some q) (ne_k_p : k ≠ p) : Calls Try.prog 43 #[pt t 0, pt p 0, .int .i64 (1), pt k 0] w fun e w' => e = .returned (.tuple #[]) ∧ HS D w' t mb (hkR R (some p) true (some k)) (hkO root (some p) (some k)) lk ∧ Mk D w w' := by
  have hk0 := hk
  have hp0 := hp
  refine w_enter 28 Try.func43 Try.ntmps43 rfl rfl ?_
  have M : Mk D w w := Mk.refl _ _
  refine w_seq ?_
  refine w_seq ?_
  refine w_reg ?_
  refine wl_mv (.tmp 3) (pt k 0) (fun _ => rfl) rfl rfl ?_
  refine wl_bin (fun x y => do eqGuard .neq 56 (.tmp 8) (.const (.pointer none)) x y; binOp .neq 56 x y) (.tmp 8) (.const (.pointer none)) (pt k 0) (pp none) (.bool true) (fun _ => rfl) rfl rfl (ne56 (some k) _ _ _) rfl ?_
  refine w_nil ?_
  refine xn_then ?_
  refine w_condT rfl ?_
  refine w_reg ?_
  refine wl_mv (.tmp 3) (pt k 0) (fun _ => rfl) rfl rfl ?_
  refine wl_mv (.tmp 1) (pt p 0) (fun _ => rfl) rfl rfl ?_
  refine wl_nc (.tmp 10) k 0 rfl rfl rfl ?_
  refine wl_un (fun v => Instr.fieldAt 66 v 0) (.tmp 12) (pt k 0) (pt k 0) (fun _ => rfl) rfl (by kernel_rfl) rfl ?_
  refine wl_un (fun v => Instr.fieldAt 64 v 0) (.tmp 13) (pt k 0) (pt k 0) (fun _ => rfl) rfl (by kernel_rfl) rfl ?_
  refine wl_st1x 56 (.tmp 14) (.tmp 11) k 0 (pt p 0) [pp r.u, pp r.l, pp r.r, .int .i64 (r.s), .int .i64 (r.i)] [pt p 0, pp r.l, pp r.r, .int .i64 (r.s), .int .i64 (r.i)] (hS.rc k _ hk) rfl rfl rfl rfl rfl sz56 rfl rfl rfl rfl ?_
  intro w1 hT hA
  replace M := M.st hT (hS.dk hk)
  replace hS := hS.put hk ⟨(some p), r.l, r.r, (r.s), (r.i)⟩ hT hA
  clear hT hA
  obtain ⟨R1, eR1⟩ : ∃ X, X = ud R k ⟨(some p), r.l, r.r, (r.s), (r.i)⟩ := ⟨_, rfl⟩
  rw [← eR1] at hS
  have hk : R1 k = some ⟨(some p), r.l, r.r, (r.s), (r.i)⟩ := by rw [eR1]; exact ud_same _ _ _
  replace hp : R1 p = some ⟨q.u, q.l, q.r, (q.s), (q.i)⟩ := by rw [eR1, ud_ne _ _ ne_k_p.symm]; exact hp
  refine w_nil ?_
  refine xn_then ?_
  refine w_seq ?_
  refine w_seq ?_
  refine w_reg ?_
  refine wl_mv (.tmp 1) (pt p 0) (fun _ => rfl) rfl rfl ?_
  refine wl_bin (fun x y => do eqGuard .eql 56 (.tmp 15) (.const (.pointer none)) x y; binOp .eql 56 x y) (.tmp 15) (.const (.pointer none)) (pt p 0) (pp none) (.bool false) (fun _ => rfl) rfl rfl (eq56 (some p) _ _ _) rfl ?_
  refine w_nil ?_
  refine xn_then ?_
  refine w_condF rfl ?_
  refine w_skip ?_
  refine xn_then ?_
  refine w_reg ?_
  refine wl_mv (.tmp 1) (pt p 0) (fun _ => rfl) rfl rfl ?_
  refine wl_mv (.tmp 2) (.int .i64 (1)) (fun _ => rfl) rfl rfl ?_
  refine wl_mv (.tmp 3) (pt k 0) (fun _ => rfl) rfl rfl ?_
  refine wl_nc (.tmp 21) p 0 rfl rfl rfl ?_
  refine wl_un (fun v => Instr.fieldAt 66 v 0) (.tmp 24) (pt p 0) (pt p 0) (fun _ => rfl) rfl (by kernel_rfl) rfl ?_
  refine wl_un (fun v => Instr.fieldAt 64 v 1) (.tmp 25) (pt p 0) (pt p 1) (fun _ => rfl) rfl (by kernel_rfl) rfl ?_
  refine wl_bin (fun x y => Instr.indexAt 62 x y) (.tmp 26) (.tmp 22) (pt p 1) (.int .i64 (1)) (pt p 2) (fun _ => rfl) rfl rfl (by kernel_rfl) rfl ?_
  refine wl_st1x 56 (.tmp 27) (.tmp 23) p 2 (pt k 0) [pp q.u, pp q.l, pp q.r, .int .i64 (q.s), .int .i64 (q.i)] [pp q.u, pp q.l, pt k 0, .int .i64 (q.s), .int .i64 (q.i)] (hS.rc p _ hp) rfl rfl rfl rfl rfl sz56 rfl rfl rfl rfl ?_
  intro w2 hT hA
  replace M := M.st hT (hS.dk hp)
  replace hS := hS.put hp ⟨q.u, q.l, (some k), (q.s), (q.i)⟩ hT hA
  clear hT hA
  obtain ⟨R2, eR2⟩ : ∃ X, X = ud R1 p ⟨q.u, q.l, (some k), (q.s), (q.i)⟩ := ⟨_, rfl⟩
  rw [← eR2] at hS
  replace hk : R2 k = some ⟨(some p), r.l, r.r, (r.s), (r.i)⟩ := by rw [eR2, ud_ne _ _ ne_k_p]; exact hk
  have hp : R2 p = some ⟨q.u, q.l, (some k), (q.s), (q.i)⟩ := by rw [eR2]; exact ud_same _ _ _
  refine w_nil ?_
  exact w_end0 rfl ⟨rfl, by rw [hkR_some (d := true) (x := some k) (q := q) (by rw [hkU_some hk0, ud_ne _ _ ne_k_p.symm]; exact hp0), hkU_some hk0, ← eR1]; exact eR2 ▸ hS, M⟩
theorem hang_00 {w : World} (hS : HS D w t mb R root lk) (z : Int) : Calls Try.prog 43 #[pt t 0, pp none, .int .i64 (z), pp none] w fun e w' => e = .returned (.tuple #[]) ∧ HS D w' t mb (hkR R none false none) (hkO root none none) lk ∧ Mk D w w' := by
  refine w_enter 28 Try.func43 Try.ntmps43 rfl rfl ?_
  have M : Mk D w w := Mk.refl _ _
  refine w_seq ?_
  refine w_seq ?_
  refine w_reg ?_
  refine wl_mv (.tmp 3) (pp none) (fun _ => rfl) rfl rfl ?_
  refine wl_bin (fun x y => do eqGuard .neq 56 (.tmp 8) (.const (.pointer none)) x y; binOp .neq 56 x y) (.tmp 8) (.const (.pointer none)) (pp none) (pp none) (.bool false) (fun _ => rfl) rfl rfl (ne56 none _ _ _) rfl ?_
  refine w_nil ?_
  refine xn_then ?_
  refine w_condF rfl ?_
  refine w_skip ?_
  refine xn_then ?_
  refine w_seq ?_
  refine w_seq ?_
  refine w_reg ?_
  refine wl_mv (.tmp 1) (pp none) (fun _ => rfl) rfl rfl ?_
  refine wl_bin (fun x y => do eqGuard .eql 56 (.tmp 15) (.const (.pointer none)) x y; binOp .eql 56 x y) (.tmp 15) (.const (.pointer none)) (pp none) (pp none) (.bool true) (fun _ => rfl) rfl rfl (eq56 none _ _ _) rfl ?_
  refine w_nil ?_
  refine xn_then ?_
  refine w_condT rfl ?_
  refine w_seq ?_
  refine w_reg ?_
  refine wl_mv (.tmp 0) (pt t 0) (fun _ => rfl) rfl rfl ?_
  refine wl_mv (.tmp 3) (pp none) (fun _ => rfl) rfl rfl ?_
  refine wl_nc (.tmp 17) t 0 rfl rfl rfl ?_
  refine wl_un (fun v => Instr.fieldAt 59 v 0) (.tmp 19) (pt t 0) (pt t 0) (fun _ => rfl) rfl (by kernel_rfl) rfl ?_
  refine wl_st1x 56 (.tmp 20) (.tmp 18) t 0 (pp none) [pp root, .map (some mb), .int .i64 (lk)] [pp none, .map (some mb), .int .i64 (lk)] hS.tr rfl rfl rfl rfl rfl sz56 (pp_cells _) (pp_one _) rfl rfl ?_
  intro w1 hT hA
  replace M := M.st hT hS.dt
  replace hS := hS.top none ((lk)) hT hA
  clear hT hA
  refine w_nil ?_
  refine xn_then ?_
  refine w_ret ?_
  refine xr_then ?_
  exact w_ret0 rfl ⟨rfl, hS, M⟩
theorem hang_0p0 {w : World} (hS : HS D w t mb R root lk) {p : Nat} {q : Rc} (hp : R p = some q) : Calls Try.prog 43 #[pt t 0, pt p 0, .int .i64 (0), pp none] w fun e w' => e = .returned (.tuple #[]) ∧ HS D w' t mb (hkR R (some p) false none) (hkO root (some p) none) lk ∧ Mk D w w' := by
  have hp0 := hp
  refine w_enter 28 Try.func43 Try.ntmps43 rfl rfl ?_
  have M : Mk D w w := Mk.refl _ _
  refine w_seq ?_
  refine w_seq ?_
  refine w_reg ?_
  refine wl_mv (.tmp 3) (pp none) (fun _ => rfl) rfl rfl ?_
  refine wl_bin (fun x y => do eqGuard .neq 56 (.tmp 8) (.const (.pointer none)) x y; binOp .neq 56 x y) (.tmp 8) (.const (.pointer none)) (pp none) (pp none) (.bool false) (fun _ => rfl) rfl rfl (ne56 none _ _ _) rfl ?_
  refine w_nil ?_
  refine xn_then ?_
  refine w_condF rfl ?_
  refine w_skip ?_
  refine xn_then ?_
  refine w_seq ?_
  refine w_seq ?_
  refine w_reg ?_
  refine wl_mv (.tmp 1) (pt p 0) (fun _ => rfl) rfl rfl ?_
  refine wl_bin (fun x y => do eqGuard .eql 56 (.tmp 15) (.const (.pointer none)) x y; binOp .eql 56 x y) (.tmp 15) (.const (.pointer none)) (pt p 0) (pp none) (.bool false) (fun _ => rfl) rfl rfl (eq56 (some p) _ _ _) rfl ?_
  refine w_nil ?_
  refine xn_then ?_
  refine w_condF rfl ?_
  refine w_skip ?_
  refine xn_then ?_
  refine w_reg ?_
  refine wl_mv (.tmp 1) (pt p 0) (fun _ => rfl) rfl rfl ?_
  refine wl_mv (.tmp 2) (.int .i64 (0)) (fun _ => rfl) rfl rfl ?_
  refine wl_mv (.tmp 3) (pp none) (fun _ => rfl) rfl rfl ?_
  refine wl_nc (.tmp 21) p 0 rfl rfl rfl ?_
  refine wl_un (fun v => Instr.fieldAt 66 v 0) (.tmp 24) (pt p 0) (pt p 0) (fun _ => rfl) rfl (by kernel_rfl) rfl ?_
  refine wl_un (fun v => Instr.fieldAt 64 v 1) (.tmp 25) (pt p 0) (pt p 1) (fun _ => rfl) rfl (by kernel_rfl) rfl ?_
  refine wl_bin (fun x y => Instr.indexAt 62 x y) (.tmp 26) (.tmp 22) (pt p 1) (.int .i64 (0)) (pt p 1) (fun _ => rfl) rfl rfl (by kernel_rfl) rfl ?_
  refine wl_st1x 56 (.tmp 27) (.tmp 23) p 1 (pp none) [pp q.u, pp q.l, pp q.r, .int .i64 (q.s), .int .i64 (q.i)] [pp q.u, pp none, pp q.r, .int .i64 (q.s), .int .i64 (q.i)] (hS.rc p _ hp) rfl rfl rfl rfl rfl sz56 (pp_cells _) (pp_one _) rfl rfl ?_
  intro w1 hT hA
  replace M := M.st hT (hS.dk hp)
  replace hS := hS.put hp ⟨q.u, none, q.r, (q.s), (q.i)⟩ hT hA
  clear hT hA
  obtain ⟨R1, eR1⟩ : ∃ X, X = ud R p ⟨q.u, none, q.r, (q.s), (q.i)⟩ := ⟨_, rfl⟩
  rw [← eR1] at hS
  have hp : R1 p = some ⟨q.u, none, q.r, (q.s), (q.i)⟩ := by rw [eR1]; exact ud_same _ _ _
  refine w_nil ?_
  exact w_end0 rfl ⟨rfl, by rw [hkR_some (d := false) (x := none) (q := q) hp0, hkU_none]; exact eR1 ▸ hS, M⟩
theorem hang_0p1 {w : World} (hS : HS D w t mb R root lk) {p : Nat} {q : Rc} (hp : R p = some q) : Calls Try.prog 43 #[pt t 0, pt p 0, .int .i64 (1), pp none] w fun e w' => e = .returned (.tuple #[]) ∧ HS D w' t mb (hkR R (some p) true none) (hkO root (some p) none) lk ∧ Mk D w w' := by
  have hp0 := hp
  refine w_enter 28 Try.func43 Try.ntmps43 rfl rfl ?_
  have M : Mk D w w := Mk.refl _ _
  refine w_seq ?_
  refine w_seq ?_
  refine w_reg ?_
  refine wl_mv (.tmp 3) (pp none) (fun _ => rfl) rfl rfl ?_
  refine wl_bin (fun x y => do eqGuard .neq 56 (.tmp 8) (.const (.pointer none)) x y; binOp .neq 56 x y) (.tmp 8) (.const (.pointer none)) (pp none) (pp none) (.bool false) (fun _ => rfl) rfl rfl (ne56 none _ _ _) rfl ?_
  refine w_nil ?_
  refine xn_then ?_
  refine w_condF rfl ?_
  refine w_skip ?_
  refine xn_then ?_
  refine w_seq ?_
  refine w_seq ?_
  refine w_reg ?_
  refine wl_mv (.tmp 1) (pt p 0) (fun _ => rfl) rfl rfl ?_
  refine wl_bin (fun x y => do eqGuard .eql 56 (.tmp 15) (.const (.pointer none)) x y; binOp .eql 56 x y) (.tmp 15) (.const (.pointer none)) (pt p 0) (pp none) (.bool false) (fun _ => rfl) rfl rfl (eq56 (some p) _ _ _) rfl ?_
  refine w_nil ?_
  refine xn_then ?_
  refine w_condF rfl ?_
  refine w_skip ?_
  refine xn_then ?_
  refine w_reg ?_
  refine wl_mv (.tmp 1) (pt p 0) (fun _ => rfl) rfl rfl ?_
  refine wl_mv (.tmp 2) (.int .i64 (1)) (fun _ => rfl) rfl rfl ?_
  refine wl_mv (.tmp 3) (pp none) (fun _ => rfl) rfl rfl ?_
  refine wl_nc (.tmp 21) p 0 rfl rfl rfl ?_
  refine wl_un (fun v => Instr.fieldAt 66 v 0) (.tmp 24) (pt p 0) (pt p 0) (fun _ => rfl) rfl (by kernel_rfl) rfl ?_
  refine wl_un (fun v => Instr.fieldAt 64 v 1) (.tmp 25) (pt p 0) (pt p 1) (fun _ => rfl) rfl (by kernel_rfl) rfl ?_
  refine wl_bin (fun x y => Instr.indexAt 62 x y) (.tmp 26) (.tmp 22) (pt p 1) (.int .i64 (1)) (pt p 2) (fun _ => rfl) rfl rfl (by kernel_rfl) rfl ?_
  refine wl_st1x 56 (.tmp 27) (.tmp 23) p 2 (pp none) [pp q.u, pp q.l, pp q.r, .int .i64 (q.s), .int .i64 (q.i)] [pp q.u, pp q.l, pp none, .int .i64 (q.s), .int .i64 (q.i)] (hS.rc p _ hp) rfl rfl rfl rfl rfl sz56 (pp_cells _) (pp_one _) rfl rfl ?_
  intro w1 hT hA
  replace M := M.st hT (hS.dk hp)
  replace hS := hS.put hp ⟨q.u, q.l, none, (q.s), (q.i)⟩ hT hA
  clear hT hA
  obtain ⟨R1, eR1⟩ : ∃ X, X = ud R p ⟨q.u, q.l, none, (q.s), (q.i)⟩ := ⟨_, rfl⟩
  rw [← eR1] at hS
  have hp : R1 p = some ⟨q.u, q.l, none, (q.s), (q.i)⟩ := by rw [eR1]; exact ud_same _ _ _
  refine w_nil ?_
  exact w_end0 rfl ⟨rfl, by rw [hkR_some (d := true) (x := none) (q := q) hp0, hkU_none]; exact eR1 ▸ hS, M⟩
theorem hang_n {w : World} (hS : HS D w t mb R root lk) (a x : Option Nat) (d : Bool) (hx : ∀ k, x = some k → ∃ r, R k = some r) (ha : ∀ p, a = some p → ∃ q, R p = some q) (hxa : ∀ k, x = some k → a ≠ some k) :
    Calls Try.prog 43 #[pt t 0, pp a, .int .i64 (if d then 1 else 0), pp x] w fun e w' => e = .returned (.tuple #[]) ∧ HS D w' t mb (hkR R a d x) (hkO root a x) lk ∧ Mk D w w' := by
  cases x with
  | none =>
    cases a with
    | none => cases d <;> exact hang_00 hS _
    | some p =>
      obtain ⟨q, hq⟩ := ha p rfl
      cases d
      · exact hang_0p0 hS hq
      · exact hang_0p1 hS hq
  | some k =>
    obtain ⟨r, hr⟩ := hx k rfl
    cases a with
    | none => cases d <;> exact hang_k0 hS hr _
    | some p =>
      obtain ⟨q, hq⟩ := ha p rfl
      have hne : k ≠ p := fun e => hxa k rfl (by rw [e])
      cases d
      · exact hang_kp0 hS hr hq hne
      · exact hang_kp1 hS hr hq hne
end
end Go.Proofs.Ytbmbldloeblbbaa
