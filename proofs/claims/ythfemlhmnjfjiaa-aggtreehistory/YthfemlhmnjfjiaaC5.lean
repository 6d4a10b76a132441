/-
  A part of the proof.
-/
import Derived.Test.YthfemlhmnjfjiaaC4
/-
 The tree's look and hang.
-/
namespace Go.Proofs.Ythfemlhmnjfjiaa
open Go.RowKit
namespace G
section
variable {D : Nat → Prop} {t : Nat} {mb : Hd} {R : Mp} {root : Option Nat} {lk : Int}
def cnt (ps : List (Option Nat)) : Int := ps.foldl (fun c x => if x.isSome then c + 1 else c) 0
theorem cnt_snoc (ps : List (Option Nat)) (x : Option Nat) : cnt (ps ++ [x]) = if x.isSome then cnt ps + 1 else cnt ps := by unfold cnt; rw [List.foldl_append]; rfl
theorem cnt_take {ps : List (Option Nat)} {j : Nat} {x : Option Nat} (h : ps[j]? = some x) : cnt (ps.take (j + 1)) = if x.isSome then cnt (ps.take j) + 1 else cnt (ps.take j) := by
 rw [List.take_add_one, h]; exact cnt_snoc _ _
theorem cnt_bd : ∀ (ps : List (Option Nat)) (c : Int), c ≤ ps.foldl (fun c x => if x.isSome then c + 1 else c) c ∧ ps.foldl (fun c x => if x.isSome then c + 1 else c) c ≤ c + ps.length
 | [], c => by simp
 | x :: ps, c => by
  simp only [List.foldl_cons, List.length_cons]
  cases x with
  | none => have := cnt_bd ps c; simp at *; omega
  | some k => have := cnt_bd ps (c + 1); simp at *; omega
theorem cnt_le (ps : List (Option Nat)) : 0 ≤ cnt ps ∧ cnt ps ≤ ps.length := by have := cnt_bd ps 0; unfold cnt; omega
theorem ixs (g j n c : Nat) (h : j < n) (w : World) : (Instr.indexAt 104 (.slice (some ⟨g, 0, none⟩) n c) (.int .i64 (j : Int))).run Try.prog w = .ok (pt g j) w := by
 simp [go_sem, h]
theorem lens_run (ρ : Operand → Value) (x : Operand) (p : Option Addr) (m c : Nat) (hx : ρ x = .slice p m c) (dst : Option Tmp) (type : TypeId) (pos : String) (after : Array Edge) (guard : Option (Nat × Bool)) (w : World) : (execOp ρ { dst, op := .call { callee := .builtin .len, args := #[x], argTypes := #[104] }, type, pos, after, guard }).run Try.prog w = .ok (.value (.int .i64 (m : Int))) w := by
 simp [go_sem, hx]
theorem ltN {a b : Nat} {r : Bool} (h : decide (a < b) = r) (x y : Operand) (w : World) : (do eqGuard .lss 3 x y (.int .i64 (a : Int)) (.int .i64 (b : Int)); binOp .lss 3 (.int .i64 (a : Int)) (.int .i64 (b : Int))).run Try.prog w = .ok (.bool r) w :=
 ltI (by rw [← h]; exact decide_eq_decide.2 Int.ofNat_lt) _ _ _
theorem add1r {k : Nat} (hk : k ≤ 9223372036854775806) (x y : Operand) (w : World) : (do eqGuard .add 3 x y (.int .i64 (k : Int)) (.int .i64 1); binOp .add 3 (.int .i64 (k : Int)) (.int .i64 1)).run Try.prog w = .ok (.int .i64 ((k + 1 : Nat) : Int)) w :=
 addI (by omega) (by omega) _ _ _
theorem look_n (ps : List (Option Nat)) (g : Nat) {w : World} (hS : HS D w t mb R root lk) (Qg : At w g (ps.map pp)) (hgd : ¬ D g) (hb : 0 ≤ lk ∧ lk + ps.length ≤ 4611686018427387904) : Calls Try.prog 34 #[pt t 0, .slice (some ⟨g, 0, none⟩) ps.length ps.length] w fun e w' => e = .returned (.tuple #[]) ∧ HS D w' t mb R root (lk + cnt ps) ∧ Mk D w w' := by
 have hS0 := hS
 refine w_enter 22 Try.func34 Try.ntmps34 rfl rfl ?_
 have M : Mk D w w := Mk.refl _ _
 refine w_seq (w_reg ?_)
 refine wl_m (.tmp 1) (.slice (some ⟨g, 0, none⟩) ps.length ps.length) ?_
 refine wl_val (.int .i64 ((ps.length : Nat) : Int)) (lens_run _ _ _ _ ps.length (by exact rfl) _ _ _ _ _ _) rfl ?_
 refine wl_m (.const (.int .i64 (0))) (.int .i64 (0)) ?_
 refine w_nil (xn_then (w_block ?_))
 refine w_loop (fun m l w1 => ∃ j : Nat, m = ps.length - j ∧ look l 0 = pt t 0 ∧ look l 6 = .slice (some ⟨g, 0, none⟩) ps.length ps.length ∧ look l 7 = .int .i64 (ps.length : Int) ∧ look l 8 = .int .i64 (j : Int) ∧ j ≤ ps.length ∧ HS D w1 t mb R root (lk + cnt (ps.take j)) ∧ At w1 g (ps.map pp) ∧ Mk D w w1) _ ⟨0, rfl, rfl, rfl, rfl, rfl, by omega, by rw [show cnt (ps.take 0) = 0 from rfl, Int.add_zero]; exact hS, Qg, M⟩ ?_
 clear M Qg hS
 rintro m l wl ⟨j, rfl, e0, e6, e7, e8, hj, hS, Qg, M⟩
 by_cases hjl : j < ps.length
 ·obtain ⟨x, hx⟩ : ∃ x, ps[j]? = some x := ⟨ps[j], List.getElem?_eq_getElem hjl⟩
  have hc := cnt_le (ps.take j)
  rw [List.length_take] at hc
  have hct := cnt_take hx
  have hdl : decide (j < ps.length) = true := decide_eq_true hjl
  cases x with
  | none =>
   refine w_seq (w_reg ?_)
   refine wl_bin (fun x y => do eqGuard .lss 3 (.tmp 8) (.tmp 7) x y; binOp .lss 3 x y) (.tmp 8) (.tmp 7) (.int .i64 ((j : Nat) : Int)) (.int .i64 ((ps.length : Nat) : Int)) (.bool true) (fun _ => rfl) e8 e7 (ltN hdl _ _ _) rfl ?_
   refine w_nil (xn_then (w_seq (w_condT rfl (w_skip (xn_then (w_seq (w_block (w_seq (w_reg ?_)))))))))
   refine wl_bin (fun x y => Instr.indexAt 104 x y) (.tmp 6) (.tmp 8) (.slice (some ⟨g, 0, none⟩) ps.length ps.length) (.int .i64 ((j : Nat) : Int)) (pt g j) (fun _ => rfl) e6 e8 (ixs g j ps.length ps.length hjl _) rfl ?_
   refine wl_l 65 (.tmp 10) (pt g j) (pp none) (run_one (v := pp none) Qg 65 j (by rw [List.getElem?_map, hx]; rfl) Try.underlying65 rfl) ?_
   refine wl_m (.tmp 11) (pp none) ?_
   refine w_nil (xn_then (w_seq (w_reg ?_)))
   refine wl_m (.tmp 5) (pp none) ?_
   refine wl_b .neq 65 (.tmp 12) (.const (.pointer none)) (pp none) (pp none) (.bool false) (neP none _ _ _) ?_
   refine w_nil (xn_then (w_condF rfl (w_skip (xn_blk (xn_then (w_reg ?_))))))
   refine wl_bin (fun x y => do eqGuard .add 3 (.tmp 8) (.const (.int .i64 (1))) x y; binOp .add 3 x y) (.tmp 8) (.const (.int .i64 (1))) (.int .i64 ((j : Nat) : Int)) (.int .i64 (1)) (.int .i64 ((j + 1 : Nat) : Int)) (fun _ => rfl) e8 rfl (add1r (k := j) (by omega) _ _ _) rfl ?_
   refine wl_m (.tmp 21) (.int .i64 ((j + 1 : Nat) : Int)) ?_
   refine w_nil ?_
   exact xn_loop (ps.length - (j + 1)) (by omega) ⟨j + 1, rfl, e0, e6, e7, rfl, by omega, by rw [show lk + cnt (ps.take (j + 1)) = lk + cnt (ps.take j) by rw [hct]; simp; try omega]; exact hS, Qg, M⟩
  | some q =>
   refine w_seq (w_reg ?_)
   refine wl_bin (fun x y => do eqGuard .lss 3 (.tmp 8) (.tmp 7) x y; binOp .lss 3 x y) (.tmp 8) (.tmp 7) (.int .i64 ((j : Nat) : Int)) (.int .i64 ((ps.length : Nat) : Int)) (.bool true) (fun _ => rfl) e8 e7 (ltN hdl _ _ _) rfl ?_
   refine w_nil (xn_then (w_seq (w_condT rfl (w_skip (xn_then (w_seq (w_block (w_seq (w_reg ?_)))))))))
   refine wl_bin (fun x y => Instr.indexAt 104 x y) (.tmp 6) (.tmp 8) (.slice (some ⟨g, 0, none⟩) ps.length ps.length) (.int .i64 ((j : Nat) : Int)) (pt g j) (fun _ => rfl) e6 e8 (ixs g j ps.length ps.length hjl _) rfl ?_
   refine wl_l 65 (.tmp 10) (pt g j) (pt q 0) (run_one (v := pp (some q)) Qg 65 j (by rw [List.getElem?_map, hx]; rfl) Try.underlying65 rfl) ?_
   refine wl_m (.tmp 11) (pt q 0) ?_
   refine w_nil (xn_then (w_seq (w_reg ?_)))
   refine wl_m (.tmp 5) (pt q 0) ?_
   refine wl_b .neq 65 (.tmp 12) (.const (.pointer none)) (pt q 0) (pp none) (.bool true) (neP (some q) _ _ _) ?_
   refine w_nil (xn_then (w_condT rfl (w_reg ?_)))
   refine wl_mv (.tmp 0) (pt t 0) (fun _ => rfl) e0 rfl ?_
   refine wl_nc (.tmp 14) t 0 rfl rfl rfl ?_
   refine wl_f 68 3 (.tmp 15) (pt t 0) (pt t 3) ?_
   refine wl_l 2 (.tmp 16) (pt t 3) (.int .i64 (lk + cnt (ps.take j))) (run_one hS.tr 2 3 rfl Try.underlying2 rfl) ?_
   refine wl_b .add 2 (.tmp 17) (.const (.int .i64 (1))) (.int .i64 (lk + cnt (ps.take j))) (.int .i64 (1)) (.int .i64 (lk + cnt (ps.take j) + 1)) (addL (by omega) (by omega) _ _ _) ?_
   refine wl_nc (.tmp 14) t 0 rfl rfl rfl ?_
   refine wl_f 68 3 (.tmp 19) (pt t 0) (pt t 3) ?_
   refine wl_st1x 2 (.tmp 20) (.tmp 18) t 3 (.int .i64 (lk + cnt (ps.take j) + 1)) _ [mb.h, pp root, .map (some mb.m), .int .i64 (lk + cnt (ps.take j) + 1)] hS.tr rfl rfl rfl rfl rfl zs2 rfl rfl rfl rfl ?_
   intro w21 hT hA
   replace M := M.st hT hS.dt
   replace hS := hS.top root ((lk + cnt (ps.take j) + 1)) hT hA
   replace Qg := hT.other _ _ (fun e => hgd (by rw [e]; exact hS0.dt)) Qg
   clear hT hA
   refine w_nil (xn_blk (xn_then (w_reg ?_)))
   refine wl_bin (fun x y => do eqGuard .add 3 (.tmp 8) (.const (.int .i64 (1))) x y; binOp .add 3 x y) (.tmp 8) (.const (.int .i64 (1))) (.int .i64 ((j : Nat) : Int)) (.int .i64 (1)) (.int .i64 ((j + 1 : Nat) : Int)) (fun _ => rfl) e8 rfl (add1r (k := j) (by omega) _ _ _) rfl ?_
   refine wl_m (.tmp 21) (.int .i64 ((j + 1 : Nat) : Int)) ?_
   refine w_nil ?_
   exact xn_loop (ps.length - (j + 1)) (by omega) ⟨j + 1, rfl, e0, e6, e7, rfl, by omega, by rw [show lk + cnt (ps.take (j + 1)) = lk + cnt (ps.take j) + 1 by rw [hct]; simp; try omega]; exact hS, Qg, M⟩
 ·have hdl : decide (j < ps.length) = false := decide_eq_false hjl
  refine w_seq (w_reg ?_)
  refine wl_bin (fun x y => do eqGuard .lss 3 (.tmp 8) (.tmp 7) x y; binOp .lss 3 x y) (.tmp 8) (.tmp 7) (.int .i64 ((j : Nat) : Int)) (.int .i64 ((ps.length : Nat) : Int)) (.bool false) (fun _ => rfl) e8 e7 (ltN hdl _ _ _) rfl ?_
  refine w_nil (xn_then (w_seq (w_condF rfl (w_exit (xx_then (xx_then (xx_blk ?_)))))))
  exact w_end0 rfl ⟨rfl, by rw [List.take_of_length_le (by omega)] at hS; exact hS, M⟩
theorem hang_k0 {w : World} (hS : HS D w t mb R root lk) {k : Nat} {r : Rc} (hk : R k = some r) (z : Int) : Calls Try.prog 47 #[pt t 0, pp none, .int .i64 (z), pt k 0] w fun e w' => e = .returned (.tuple #[]) ∧ HS D w' t mb (hkR R none false (some k)) (hkO root none (some k)) lk ∧ Mk D w w' := by
 have hk0 := hk
 refine w_enter 26 Try.func47 Try.ntmps47 rfl rfl ?_
 have M : Mk D w w := Mk.refl _ _
 refine w_seq (w_seq (w_reg ?_))
 refine wl_m (.tmp 3) (pt k 0) ?_
 refine wl_b .neq 65 (.tmp 8) (.const (.pointer none)) (pt k 0) (pp none) (.bool true) (neP (some k) _ _ _) ?_
 refine w_nil (xn_then (w_condT rfl (w_reg ?_)))
 refine wl_m (.tmp 3) (pt k 0) ?_
 refine wl_m (.tmp 1) (pp none) ?_
 refine wl_nc (.tmp 10) k 0 rfl rfl rfl ?_
 refine wl_f 93 1 (.tmp 12) (pt k 0) (pt k 2) ?_
 refine wl_st1x 65 (.tmp 13) (.tmp 11) k 2 (pp none) _ [.int .i64 (r.i.i), r.i.v, pp none, pp r.l, pp r.r, .int .i64 (r.s), r.h] (hS.rc k _ hk) rfl rfl rfl rfl rfl zs65 (pp_cells _) (pp_one _) rfl rfl ?_
 intro w1 hT hA
 replace M := M.st hT (hS.dk hk)
 replace hS := hS.put hk ⟨none, r.l, r.r, (r.s), r.i, r.h, r.c⟩ hT hA rfl ⟨_, _, hk, rfl, rfl⟩
 clear hT hA
 obtain ⟨R1, eR1⟩ : ∃ X, X = ud R k ⟨none, r.l, r.r, (r.s), r.i, r.h, r.c⟩ := ⟨_, rfl⟩
 rw [← eR1] at hS
 have hk : R1 k = some ⟨none, r.l, r.r, (r.s), r.i, r.h, r.c⟩ := by rw [eR1]; exact ud_same _ _ _
 refine w_nil (xn_then (w_seq (w_seq (w_reg ?_))))
 refine wl_m (.tmp 1) (pp none) ?_
 refine wl_b .eql 65 (.tmp 14) (.const (.pointer none)) (pp none) (pp none) (.bool true) (eqP none _ _ _) ?_
 refine w_nil (xn_then (w_condT rfl (w_seq (w_reg ?_))))
 refine wl_m (.tmp 0) (pt t 0) ?_
 refine wl_m (.tmp 3) (pt k 0) ?_
 refine wl_nc (.tmp 16) t 0 rfl rfl rfl ?_
 refine wl_f 68 1 (.tmp 18) (pt t 0) (pt t 1) ?_
 refine wl_st1x 65 (.tmp 19) (.tmp 17) t 1 (pt k 0) _ [mb.h, pt k 0, .map (some mb.m), .int .i64 (lk)] hS.tr rfl rfl rfl rfl rfl zs65 rfl rfl rfl rfl ?_
 intro w2 hT hA
 replace M := M.st hT hS.dt
 replace hS := hS.top (some k) ((lk)) hT hA
 clear hT hA
 refine w_nil (xn_then (w_ret (xr_then ?_)))
 exact w_ret0 rfl ⟨rfl, by rw [hkR_top, hkU_some hk0, ← eR1]; exact hS, M⟩
theorem hang_kp0 {w : World} (hS : HS D w t mb R root lk) {k : Nat} {r : Rc} (hk : R k = some r) {p : Nat} {q : Rc} (hp : R p = some q) (ne_k_p : k ≠ p) : Calls Try.prog 47 #[pt t 0, pt p 0, .int .i64 (0), pt k 0] w fun e w' => e = .returned (.tuple #[]) ∧ HS D w' t mb (hkR R (some p) false (some k)) (hkO root (some p) (some k)) lk ∧ Mk D w w' := by
 have hk0 := hk
 have hp0 := hp
 refine w_enter 26 Try.func47 Try.ntmps47 rfl rfl ?_
 have M : Mk D w w := Mk.refl _ _
 refine w_seq (w_seq (w_reg ?_))
 refine wl_m (.tmp 3) (pt k 0) ?_
 refine wl_b .neq 65 (.tmp 8) (.const (.pointer none)) (pt k 0) (pp none) (.bool true) (neP (some k) _ _ _) ?_
 refine w_nil (xn_then (w_condT rfl (w_reg ?_)))
 refine wl_m (.tmp 3) (pt k 0) ?_
 refine wl_m (.tmp 1) (pt p 0) ?_
 refine wl_nc (.tmp 10) k 0 rfl rfl rfl ?_
 refine wl_f 93 1 (.tmp 12) (pt k 0) (pt k 2) ?_
 refine wl_st1x 65 (.tmp 13) (.tmp 11) k 2 (pt p 0) _ [.int .i64 (r.i.i), r.i.v, pt p 0, pp r.l, pp r.r, .int .i64 (r.s), r.h] (hS.rc k _ hk) rfl rfl rfl rfl rfl zs65 rfl rfl rfl rfl ?_
 intro w1 hT hA
 replace M := M.st hT (hS.dk hk)
 replace hS := hS.put hk ⟨(some p), r.l, r.r, (r.s), r.i, r.h, r.c⟩ hT hA rfl ⟨_, _, hk, rfl, rfl⟩
 clear hT hA
 obtain ⟨R1, eR1⟩ : ∃ X, X = ud R k ⟨(some p), r.l, r.r, (r.s), r.i, r.h, r.c⟩ := ⟨_, rfl⟩
 rw [← eR1] at hS
 have hk : R1 k = some ⟨(some p), r.l, r.r, (r.s), r.i, r.h, r.c⟩ := by rw [eR1]; exact ud_same _ _ _
 replace hp : R1 p = some ⟨q.u, q.l, q.r, (q.s), q.i, q.h, q.c⟩ := by rw [eR1, ud_ne _ _ ne_k_p.symm]; exact hp
 refine w_nil (xn_then (w_seq (w_seq (w_reg ?_))))
 refine wl_m (.tmp 1) (pt p 0) ?_
 refine wl_b .eql 65 (.tmp 14) (.const (.pointer none)) (pt p 0) (pp none) (.bool false) (eqP (some p) _ _ _) ?_
 refine w_nil (xn_then (w_condF rfl (w_skip (xn_then (w_reg ?_)))))
 refine wl_m (.tmp 1) (pt p 0) ?_
 refine wl_m (.tmp 2) (.int .i64 (0)) ?_
 refine wl_m (.tmp 3) (pt k 0) ?_
 refine wl_nc (.tmp 20) p 0 rfl rfl rfl ?_
 refine wl_f 93 2 (.tmp 23) (pt p 0) (pt p 3) ?_
 refine wl_bin (fun x y => Instr.indexAt 91 x y) (.tmp 24) (.tmp 21) (pt p 3) (.int .i64 (0)) (pt p 3) (fun _ => rfl) rfl rfl (by kernel_rfl) rfl ?_
 refine wl_st1x 65 (.tmp 25) (.tmp 22) p 3 (pt k 0) _ [.int .i64 (q.i.i), q.i.v, pp q.u, pt k 0, pp q.r, .int .i64 (q.s), q.h] (hS.rc p _ hp) rfl rfl rfl rfl rfl zs65 rfl rfl rfl rfl ?_
 intro w2 hT hA
 replace M := M.st hT (hS.dk hp)
 replace hS := hS.put hp ⟨q.u, (some k), q.r, (q.s), q.i, q.h, q.c⟩ hT hA rfl ⟨_, _, hp, rfl, rfl⟩
 clear hT hA
 obtain ⟨R2, eR2⟩ : ∃ X, X = ud R1 p ⟨q.u, (some k), q.r, (q.s), q.i, q.h, q.c⟩ := ⟨_, rfl⟩
 rw [← eR2] at hS
 replace hk : R2 k = some ⟨(some p), r.l, r.r, (r.s), r.i, r.h, r.c⟩ := by rw [eR2, ud_ne _ _ ne_k_p]; exact hk
 have hp : R2 p = some ⟨q.u, (some k), q.r, (q.s), q.i, q.h, q.c⟩ := by rw [eR2]; exact ud_same _ _ _
 refine w_nil ?_
 exact w_end0 rfl ⟨rfl, by rw [hkR_some (d := false) (x := some k) (q := q) (by rw [hkU_some hk0, ud_ne _ _ ne_k_p.symm]; exact hp0), hkU_some hk0, ← eR1]; exact eR2 ▸ hS, M⟩
theorem hang_kp1 {w : World} (hS : HS D w t mb R root lk) {k : Nat} {r : Rc} (hk : R k = some r) {p : Nat} {q : Rc} (hp : R p = some q) (ne_k_p : k ≠ p) : Calls Try.prog 47 #[pt t 0, pt p 0, .int .i64 (1), pt k 0] w fun e w' => e = .returned (.tuple #[]) ∧ HS D w' t mb (hkR R (some p) true (some k)) (hkO root (some p) (some k)) lk ∧ Mk D w w' := by
 have hk0 := hk
 have hp0 := hp
 refine w_enter 26 Try.func47 Try.ntmps47 rfl rfl ?_
 have M : Mk D w w := Mk.refl _ _
 refine w_seq (w_seq (w_reg ?_))
 refine wl_m (.tmp 3) (pt k 0) ?_
 refine wl_b .neq 65 (.tmp 8) (.const (.pointer none)) (pt k 0) (pp none) (.bool true) (neP (some k) _ _ _) ?_
 refine w_nil (xn_then (w_condT rfl (w_reg ?_)))
 refine wl_m (.tmp 3) (pt k 0) ?_
 refine wl_m (.tmp 1) (pt p 0) ?_
 refine wl_nc (.tmp 10) k 0 rfl rfl rfl ?_
 refine wl_f 93 1 (.tmp 12) (pt k 0) (pt k 2) ?_
 refine wl_st1x 65 (.tmp 13) (.tmp 11) k 2 (pt p 0) _ [.int .i64 (r.i.i), r.i.v, pt p 0, pp r.l, pp r.r, .int .i64 (r.s), r.h] (hS.rc k _ hk) rfl rfl rfl rfl rfl zs65 rfl rfl rfl rfl ?_
 intro w1 hT hA
 replace M := M.st hT (hS.dk hk)
 replace hS := hS.put hk ⟨(some p), r.l, r.r, (r.s), r.i, r.h, r.c⟩ hT hA rfl ⟨_, _, hk, rfl, rfl⟩
 clear hT hA
 obtain ⟨R1, eR1⟩ : ∃ X, X = ud R k ⟨(some p), r.l, r.r, (r.s), r.i, r.h, r.c⟩ := ⟨_, rfl⟩
 rw [← eR1] at hS
 have hk : R1 k = some ⟨(some p), r.l, r.r, (r.s), r.i, r.h, r.c⟩ := by rw [eR1]; exact ud_same _ _ _
 replace hp : R1 p = some ⟨q.u, q.l, q.r, (q.s), q.i, q.h, q.c⟩ := by rw [eR1, ud_ne _ _ ne_k_p.symm]; exact hp
 refine w_nil (xn_then (w_seq (w_seq (w_reg ?_))))
 refine wl_m (.tmp 1) (pt p 0) ?_
 refine wl_b .eql 65 (.tmp 14) (.const (.pointer none)) (pt p 0) (pp none) (.bool false) (eqP (some p) _ _ _) ?_
 refine w_nil (xn_then (w_condF rfl (w_skip (xn_then (w_reg ?_)))))
 refine wl_m (.tmp 1) (pt p 0) ?_
 refine wl_m (.tmp 2) (.int .i64 (1)) ?_
 refine wl_m (.tmp 3) (pt k 0) ?_
 refine wl_nc (.tmp 20) p 0 rfl rfl rfl ?_
 refine wl_f 93 2 (.tmp 23) (pt p 0) (pt p 3) ?_
 refine wl_bin (fun x y => Instr.indexAt 91 x y) (.tmp 24) (.tmp 21) (pt p 3) (.int .i64 (1)) (pt p 4) (fun _ => rfl) rfl rfl (by kernel_rfl) rfl ?_
 refine wl_st1x 65 (.tmp 25) (.tmp 22) p 4 (pt k 0) _ [.int .i64 (q.i.i), q.i.v, pp q.u, pp q.l, pt k 0, .int .i64 (q.s), q.h] (hS.rc p _ hp) rfl rfl rfl rfl rfl zs65 rfl rfl rfl rfl ?_
 intro w2 hT hA
 replace M := M.st hT (hS.dk hp)
 replace hS := hS.put hp ⟨q.u, q.l, (some k), (q.s), q.i, q.h, q.c⟩ hT hA rfl ⟨_, _, hp, rfl, rfl⟩
 clear hT hA
 obtain ⟨R2, eR2⟩ : ∃ X, X = ud R1 p ⟨q.u, q.l, (some k), (q.s), q.i, q.h, q.c⟩ := ⟨_, rfl⟩
 rw [← eR2] at hS
 replace hk : R2 k = some ⟨(some p), r.l, r.r, (r.s), r.i, r.h, r.c⟩ := by rw [eR2, ud_ne _ _ ne_k_p]; exact hk
 have hp : R2 p = some ⟨q.u, q.l, (some k), (q.s), q.i, q.h, q.c⟩ := by rw [eR2]; exact ud_same _ _ _
 refine w_nil ?_
 exact w_end0 rfl ⟨rfl, by rw [hkR_some (d := true) (x := some k) (q := q) (by rw [hkU_some hk0, ud_ne _ _ ne_k_p.symm]; exact hp0), hkU_some hk0, ← eR1]; exact eR2 ▸ hS, M⟩
theorem hang_00 {w : World} (hS : HS D w t mb R root lk) (z : Int) : Calls Try.prog 47 #[pt t 0, pp none, .int .i64 (z), pp none] w fun e w' => e = .returned (.tuple #[]) ∧ HS D w' t mb (hkR R none false none) (hkO root none none) lk ∧ Mk D w w' := by
 refine w_enter 26 Try.func47 Try.ntmps47 rfl rfl ?_
 have M : Mk D w w := Mk.refl _ _
 refine w_seq (w_seq (w_reg ?_))
 refine wl_m (.tmp 3) (pp none) ?_
 refine wl_b .neq 65 (.tmp 8) (.const (.pointer none)) (pp none) (pp none) (.bool false) (neP none _ _ _) ?_
 refine w_nil (xn_then (w_condF rfl (w_skip (xn_then (w_seq (w_seq (w_reg ?_)))))))
 refine wl_m (.tmp 1) (pp none) ?_
 refine wl_b .eql 65 (.tmp 14) (.const (.pointer none)) (pp none) (pp none) (.bool true) (eqP none _ _ _) ?_
 refine w_nil (xn_then (w_condT rfl (w_seq (w_reg ?_))))
 refine wl_m (.tmp 0) (pt t 0) ?_
 refine wl_m (.tmp 3) (pp none) ?_
 refine wl_nc (.tmp 16) t 0 rfl rfl rfl ?_
 refine wl_f 68 1 (.tmp 18) (pt t 0) (pt t 1) ?_
 refine wl_st1x 65 (.tmp 19) (.tmp 17) t 1 (pp none) _ [mb.h, pp none, .map (some mb.m), .int .i64 (lk)] hS.tr rfl rfl rfl rfl rfl zs65 (pp_cells _) (pp_one _) rfl rfl ?_
 intro w1 hT hA
 replace M := M.st hT hS.dt
 replace hS := hS.top none ((lk)) hT hA
 clear hT hA
 refine w_nil (xn_then (w_ret (xr_then ?_)))
 exact w_ret0 rfl ⟨rfl, hS, M⟩
theorem hang_0p0 {w : World} (hS : HS D w t mb R root lk) {p : Nat} {q : Rc} (hp : R p = some q) : Calls Try.prog 47 #[pt t 0, pt p 0, .int .i64 (0), pp none] w fun e w' => e = .returned (.tuple #[]) ∧ HS D w' t mb (hkR R (some p) false none) (hkO root (some p) none) lk ∧ Mk D w w' := by
 have hp0 := hp
 refine w_enter 26 Try.func47 Try.ntmps47 rfl rfl ?_
 have M : Mk D w w := Mk.refl _ _
 refine w_seq (w_seq (w_reg ?_))
 refine wl_m (.tmp 3) (pp none) ?_
 refine wl_b .neq 65 (.tmp 8) (.const (.pointer none)) (pp none) (pp none) (.bool false) (neP none _ _ _) ?_
 refine w_nil (xn_then (w_condF rfl (w_skip (xn_then (w_seq (w_seq (w_reg ?_)))))))
 refine wl_m (.tmp 1) (pt p 0) ?_
 refine wl_b .eql 65 (.tmp 14) (.const (.pointer none)) (pt p 0) (pp none) (.bool false) (eqP (some p) _ _ _) ?_
 refine w_nil (xn_then (w_condF rfl (w_skip (xn_then (w_reg ?_)))))
 refine wl_m (.tmp 1) (pt p 0) ?_
 refine wl_m (.tmp 2) (.int .i64 (0)) ?_
 refine wl_m (.tmp 3) (pp none) ?_
 refine wl_nc (.tmp 20) p 0 rfl rfl rfl ?_
 refine wl_f 93 2 (.tmp 23) (pt p 0) (pt p 3) ?_
 refine wl_bin (fun x y => Instr.indexAt 91 x y) (.tmp 24) (.tmp 21) (pt p 3) (.int .i64 (0)) (pt p 3) (fun _ => rfl) rfl rfl (by kernel_rfl) rfl ?_
 refine wl_st1x 65 (.tmp 25) (.tmp 22) p 3 (pp none) _ [.int .i64 (q.i.i), q.i.v, pp q.u, pp none, pp q.r, .int .i64 (q.s), q.h] (hS.rc p _ hp) rfl rfl rfl rfl rfl zs65 (pp_cells _) (pp_one _) rfl rfl ?_
 intro w1 hT hA
 replace M := M.st hT (hS.dk hp)
 replace hS := hS.put hp ⟨q.u, none, q.r, (q.s), q.i, q.h, q.c⟩ hT hA rfl ⟨_, _, hp, rfl, rfl⟩
 clear hT hA
 obtain ⟨R1, eR1⟩ : ∃ X, X = ud R p ⟨q.u, none, q.r, (q.s), q.i, q.h, q.c⟩ := ⟨_, rfl⟩
 rw [← eR1] at hS
 have hp : R1 p = some ⟨q.u, none, q.r, (q.s), q.i, q.h, q.c⟩ := by rw [eR1]; exact ud_same _ _ _
 refine w_nil ?_
 exact w_end0 rfl ⟨rfl, by rw [hkR_some (d := false) (x := none) (q := q) hp0, hkU_none]; exact eR1 ▸ hS, M⟩
theorem hang_0p1 {w : World} (hS : HS D w t mb R root lk) {p : Nat} {q : Rc} (hp : R p = some q) : Calls Try.prog 47 #[pt t 0, pt p 0, .int .i64 (1), pp none] w fun e w' => e = .returned (.tuple #[]) ∧ HS D w' t mb (hkR R (some p) true none) (hkO root (some p) none) lk ∧ Mk D w w' := by
 have hp0 := hp
 refine w_enter 26 Try.func47 Try.ntmps47 rfl rfl ?_
 have M : Mk D w w := Mk.refl _ _
 refine w_seq (w_seq (w_reg ?_))
 refine wl_m (.tmp 3) (pp none) ?_
 refine wl_b .neq 65 (.tmp 8) (.const (.pointer none)) (pp none) (pp none) (.bool false) (neP none _ _ _) ?_
 refine w_nil (xn_then (w_condF rfl (w_skip (xn_then (w_seq (w_seq (w_reg ?_)))))))
 refine wl_m (.tmp 1) (pt p 0) ?_
 refine wl_b .eql 65 (.tmp 14) (.const (.pointer none)) (pt p 0) (pp none) (.bool false) (eqP (some p) _ _ _) ?_
 refine w_nil (xn_then (w_condF rfl (w_skip (xn_then (w_reg ?_)))))
 refine wl_m (.tmp 1) (pt p 0) ?_
 refine wl_m (.tmp 2) (.int .i64 (1)) ?_
 refine wl_m (.tmp 3) (pp none) ?_
 refine wl_nc (.tmp 20) p 0 rfl rfl rfl ?_
 refine wl_f 93 2 (.tmp 23) (pt p 0) (pt p 3) ?_
 refine wl_bin (fun x y => Instr.indexAt 91 x y) (.tmp 24) (.tmp 21) (pt p 3) (.int .i64 (1)) (pt p 4) (fun _ => rfl) rfl rfl (by kernel_rfl) rfl ?_
 refine wl_st1x 65 (.tmp 25) (.tmp 22) p 4 (pp none) _ [.int .i64 (q.i.i), q.i.v, pp q.u, pp q.l, pp none, .int .i64 (q.s), q.h] (hS.rc p _ hp) rfl rfl rfl rfl rfl zs65 (pp_cells _) (pp_one _) rfl rfl ?_
 intro w1 hT hA
 replace M := M.st hT (hS.dk hp)
 replace hS := hS.put hp ⟨q.u, q.l, none, (q.s), q.i, q.h, q.c⟩ hT hA rfl ⟨_, _, hp, rfl, rfl⟩
 clear hT hA
 obtain ⟨R1, eR1⟩ : ∃ X, X = ud R p ⟨q.u, q.l, none, (q.s), q.i, q.h, q.c⟩ := ⟨_, rfl⟩
 rw [← eR1] at hS
 have hp : R1 p = some ⟨q.u, q.l, none, (q.s), q.i, q.h, q.c⟩ := by rw [eR1]; exact ud_same _ _ _
 refine w_nil ?_
 exact w_end0 rfl ⟨rfl, by rw [hkR_some (d := true) (x := none) (q := q) hp0, hkU_none]; exact eR1 ▸ hS, M⟩
theorem hang_n {w : World} (hS : HS D w t mb R root lk) (a x : Option Nat) (d : Bool) (hx : ∀ k, x = some k → ∃ r, R k = some r) (ha : ∀ p, a = some p → ∃ q, R p = some q) (hxa : ∀ k, x = some k → a ≠ some k) :
  Calls Try.prog 47 #[pt t 0, pp a, .int .i64 (if d then 1 else 0), pp x] w fun e w' => e = .returned (.tuple #[]) ∧ HS D w' t mb (hkR R a d x) (hkO root a x) lk ∧ Mk D w w' := by
 cases x with
 | none =>
  cases a with
  | none => cases d <;> exact hang_00 hS _
  | some p =>
   obtain ⟨q, hq⟩ := ha p rfl
   cases d
   ·exact hang_0p0 hS hq
   ·exact hang_0p1 hS hq
 | some k =>
  obtain ⟨r, hr⟩ := hx k rfl
  cases a with
  | none => cases d <;> exact hang_k0 hS hr _
  | some p =>
   obtain ⟨q, hq⟩ := ha p rfl
   have hne : k ≠ p := fun e => hxa k rfl (by rw [e])
   cases d
   ·exact hang_kp0 hS hr hq hne
   ·exact hang_kp1 hS hr hq hne
end
end G
end Go.Proofs.Ythfemlhmnjfjiaa
/-
 Regions that draw their order: what only makes new blocks in any order; stores and writing calls between.
-/
namespace Go.Proofs.Ythfemlhmnjfjiaa
open Go.RowKit
namespace G
def spQ (sp : List (Value → World → Prop)) (j : Nat) : Value → World → Prop := (sp[j]?).getD (fun _ _ => True)
def Smo (p : Value → World → Prop) : Prop := ∀ u w w', p u w → Mo w w' → p u w'
def Smos (sp : List (Value → World → Prop)) : Prop := ∀ j, Smo (spQ sp j)
theorem smos_nil : Smos [] := fun _ _ _ _ _ _ => trivial
theorem smos_cons {p : Value → World → Prop} {sp : List (Value → World → Prop)} (h : Smo p) (hs : Smos sp) : Smos (p :: sp) := fun j => by
 cases j with
 | zero => exact h
 | succ j => have := hs j; unfold spQ at this ⊢; simpa using this
def vq (v : Value) : Value → World → Prop := fun u _ => u = v
theorem smo_vq (v : Value) : Smo (vq v) := fun _ _ _ h _ => h
section
variable {P : Program} {n : Nat} {l : List (Nat × Value)} {w : World} {Q : Exit → Act → World → Prop}
structure OgC (P : Program) (ops : List Oper) (Q : Exit → Act → World → Prop) (n : Nat) (l : List (Nat × Value)) (m : Nat) (G : World → Prop) (sp : List (Value → World → Prop)) (i : Nat) (o : Oper) : Prop where
 out : ∀ f w, G w → (∀ j, depb o j = true → spQ sp j (f j) w) → ∀ K : Act → World → Prop,
  (∀ v w', G w' → spQ sp i v w' → (∀ j u, j ≠ i → spQ sp j u w → spQ sp j u w') → K (fr n (ext (asg f 0 (ops.take m) l) o.dst v)) w') →
  Go1 P ops Q n (asg f 0 (ops.take m) l) w K o
def LateC (P : Program) (ops : List Oper) (Q : Exit → Act → World → Prop) (n : Nat) (l : List (Nat × Value)) (m : Nat) (sp : List (Value → World → Prop)) (i : Nat) : Prop :=
 ∃ o v, ops[i]? = some o ∧ spQ sp i = vq v ∧ (∀ u c a w, Q (.panic c) (a.put o.dst u) w → Q (.panic c) a w) ∧
  ∀ f, (∀ j, depb o j = true → ∀ u, spQ sp j = vq u → f j = u) → wnt n (asg f 0 (ops.take m) l) ops.toArray o = true ∧ ∀ w, (execOp (evl n (asg f 0 (ops.take m) l)) o).run P w = .ok (.value v) w
theorem a_ogc {ops : List Oper} (m : Nat) (G : World → Prop) (sp : List (Value → World → Prop)) (fs : List Nat) 
    (hb : edgesBack .any ops.toArray = true) (hd : dstsApart (ops.take m) = true) (hc : chainB ops m fs = true) (hl : Nat.ble m ops.length = true) (hf : floatB ops m fs = true) (hns : Region.noSelect ops.toArray = true)
    (hlate : ∀ i, i ∈ fs → LateC P ops Q n l m sp i) (hG : G w.drew) (hs : Each (OgC P ops Q n l m G sp) 0 (ops.take m))
    (hend : ∀ f w', G w' → (∀ i, Nat.blt i m = true → spQ sp i (f i) w') → WL P ops.toArray Q (ops.drop m) n (asg f 0 (ops.take m) l) w') : wpAny P .any ops.toArray Q ops.toArray.size (Array.replicate ops.toArray.size false) (fr n l) w.drew := by
  have hml : m ≤ ops.length := Nat.le_of_ble_eq_true hl
  have hfm : ∀ i, i ∈ fs → i < m := fun i hi => by
    have := List.all_eq_true.1 hf i hi
    simp only [Bool.and_eq_true] at this
    rw [Nat.blt_eq] at this; exact this.1
  have hfs : ∀ j, m ≤ j → fs.contains j = false := fun j hj => by
    cases e : fs.contains j with
    | false => rfl
    | true => have := hfm j (by simpa using e); omega
  -- all that are not late have come up: the late ones first, then the last part
  have second : ∀ (d fuel : Nat) (listed : Array Bool) (f : Nat → Value) (w : World), listed.toList.count false = (ops.length - m) + d → (ops.length - m) + d ≤ fuel → listed.size = ops.length → Shut ops listed → (∀ j, m ≤ j → j < ops.length → listed.getD j true = false) →
      (∀ j, j < m → fs.contains j = false → listed.getD j true = true) → G w → (∀ i, i < m → listed.getD i false = true → spQ sp i (f i) w) → wpAny P .any ops.toArray Q fuel listed (putAll f 0 (ops.take m) (fr n l)) w := by
    intro d
    induction d with
    | zero =>
      intro fuel listed f w hcnt hfu hz hsh hun hall hW hR
      have hall2 : ∀ j, j < m → listed.getD j true = true := fun j hj => by
        cases e : listed.getD j true with
        | true => rfl
        | false =>
          exfalso
          have h1 : (listed.toList.drop m).count false = ops.length - m := by
            have h2 : listed.toList.drop m = List.replicate (ops.length - m) false := by
              apply List.ext_getElem
              · simp [hz]
              · intro j h3 h4
                simp at h3
                have := hun (m + j) (by omega) (by omega)
                have h5 : m + j < listed.size := by omega
                simpa [h5] using this
            rw [h2]; simp
          have h3 := List.take_append_drop m listed.toList
          have h4 : 0 < (listed.toList.take m).count false := by
            apply List.count_pos_iff.2
            have hjs : j < listed.size := by omega
            simp [hjs] at e
            rw [List.mem_iff_getElem]
            exact ⟨j, by simp; omega, by simp [e]⟩
          rw [← h3, List.count_append] at hcnt
          omega
      refine wpAny_chain hfs hc hb (ops.length - m) m _ listed _ w (by omega) (Nat.le_refl _) (by omega) hz hsh (fun j hj => ?_) ?_
      · rcases Nat.lt_or_ge j m with h | h
        · rw [hall2 j h]; simp [h]
        · rw [hun j h hj]; simp [Nat.not_lt.2 h]
      · rw [putAll_fr]
        exact (hend f w hW (fun i hi => by
          have hi' : i < m := by rw [Nat.blt_eq] at hi; exact hi
          refine hR i hi' ?_
          have h1 := hall2 i hi'
          have h2 : i < listed.size := by omega
          simpa [h2] using h1)).out
    | succ d ih =>
      intro fuel listed f w hcnt hfu hz hsh hun hall hW hR
      -- a late one that has not come up: the first
      have hex : ∃ i, i < m ∧ listed.getD i true = false := by
        apply Classical.byContradiction
        intro hno
        have hall2 : ∀ j, j < m → listed.getD j true = true := fun j hj => by
          cases e : listed.getD j true with
          | true => rfl
          | false => exact absurd ⟨j, hj, e⟩ hno
        have h3 := List.take_append_drop m listed.toList
        have h4 : (listed.toList.take m).count false = 0 := by
          rw [List.count_eq_zero]
          intro hmem
          rw [List.mem_iff_getElem] at hmem
          obtain ⟨j, hj, e⟩ := hmem
          simp at hj e
          have hj1 : j < m := by omega
          have hj2 : j < listed.size := by omega
          have := hall2 j hj1
          simp [hj2] at this
          rw [this] at e; cases e
        have h5 : (listed.toList.drop m).count false ≤ ops.length - m := by
          have := List.count_le_length (a := false) (l := listed.toList.drop m)
          simp [hz] at this; exact this
        rw [← h3, List.count_append] at hcnt
        omega
      obtain ⟨i, ⟨him, hiu⟩, hmin⟩ := exists_least0 hex
      have hif : i ∈ fs := by
        cases e : fs.contains i with
        | true => simpa using e
        | false => have := hall i him e; rw [hiu] at this; cases this
      obtain ⟨o, v, ho, hv, hQ, hy⟩ := hlate i hif
      have hdep : ∀ e ∈ o.after, Region.binds .any e = true → listed.getD e.on false = true := fun e he hbd => by
        have hlt := edgesBack_spec hb (i := i) (o := o) (by simpa using ho) e he hbd
        have h1 : listed.getD e.on true = true := by
          cases ee : listed.getD e.on true with
          | true => rfl
          | false => have := hmin e.on ⟨by omega, ee⟩; omega
        have h2 : e.on < listed.size := by omega
        simpa [h2] using h1
      have hval : ∀ j, depb o j = true → ∀ u, spQ sp j = vq u → f j = u := fun j hj u hu => by
        obtain ⟨e, he, hb'⟩ := List.any_eq_true.1 hj
        simp only [Bool.and_eq_true] at hb'
        have heon := Nat.eq_of_beq_eq_true hb'.2
        have hj' := hdep e (by simpa using he) hb'.1
        have hlt := edgesBack_spec hb (i := i) (o := o) (by simpa using ho) e (by simpa using he) hb'.1
        rw [heon] at hj' hlt
        have := hR j (by omega) hj'
        rw [hu] at this
        exact this
      obtain ⟨hw1, hw2⟩ := hy f hval
      cases fuel with
      | zero => omega
      | succ fuel =>
        refine wpAny_first (i := i) (oi := o) (v := v) (by simpa using ho) (Region.noSelect_spec hns) (hQ v) fuel listed _ w ?_ ?_ ?_ ?_
        · intro j oj hoj hji hju hno
          have hjl : j < ops.length := by have := (Array.getElem?_eq_some_iff.1 hoj).1; simpa using this
          have h1 := List.all_eq_true.1 hf i hif
          simp only [Bool.and_eq_true, ho] at h1
          have h2 := List.all_eq_true.1 h1.2 j (List.mem_range.2 hjl)
          have hoj' : ops[j]? = some oj := by simpa using hoj
          simp only [hoj', Bool.or_eq_true, Bool.and_eq_true, Bool.not_eq_true'] at h2
          rcases h2 with (h2 | h2) | h2 | h2
          · exact absurd (Nat.eq_of_beq_eq_true h2) hji
          · have := hall j (by have := h2.1; rw [Nat.blt_eq] at this; exact this) h2.2
            rw [this] at hju; cases hju
          · obtain ⟨e, he, hb'⟩ := List.any_eq_true.1 h2
            simp only [Bool.and_eq_true] at hb'
            exact absurd (Nat.eq_of_beq_eq_true hb'.2) (hno e (by simpa using he) hb'.1)
          · exact h2
        · exact mem_ready.2 ⟨hiu, o, by simpa using ho, hdep⟩
        · rw [putAll_fr]
          exact Or.inl ⟨by rw [fr_wanted]; exact hw1, fun w => by rw [fr_eval]; exact hw2 w⟩
        · have hot : (ops.take m)[i]? = some o := by rw [List.getElem?_take_of_lt him]; exact ho
          have hp := putAll_put v (ops.take m) 0 f (fr n l) hd i o hot
          rw [Nat.zero_add] at hp
          rw [hp]
          have h1 : listed.toList[i]? = some false := by
            have h' : i < listed.size := by omega
            simp [h'] at hiu; simp [h', hiu]
          have hcs := count_set _ _ h1
          refine ih fuel _ (upd f i v) w ?_ (by omega) (by simpa using hz) (hsh.step ho hdep) (fun j h1 h2 => ?_) (fun j h1 h2 => ?_) hW (fun j hj hlj => ?_)
          · simp only [Array.toList_setIfInBounds]; omega
          · rw [getD_set_ne true (by omega)]; exact hun j h1 h2
          · have hij : i ≠ j := by intro e; subst e; have : fs.contains i = true := by simpa using hif
                                   rw [this] at h2; cases h2
            rw [getD_set_ne true hij]; exact hall j h1 h2
          · by_cases e : j = i
            · subst e; rw [hv]; simp [upd, vq]
            · rw [getD_set_ne false (Ne.symm e)] at hlj
              have := hR j hj hlj
              simpa [upd, e] using this
  have main : ∀ (fuel : Nat) (listed : Array Bool) (f : Nat → Value) (w : World), listed.toList.count false ≤ fuel → listed.size = ops.length → Shut ops listed → (∀ j, m ≤ j → j < ops.length → listed.getD j true = false) →
      G w → (∀ i, i < m → listed.getD i false = true → spQ sp i (f i) w) → wpAny P .any ops.toArray Q fuel listed (putAll f 0 (ops.take m) (fr n l)) w := by
    intro fuel
    induction fuel with
    | zero =>
      intro listed f w hcnt hz hsh hun hW hR
      refine wpAny_chain hfs hc hb (ops.length - m) m 0 listed _ w (by omega) (Nat.le_refl _) ?_ hz hsh ?_ ?_
      · rcases Nat.lt_or_ge m ops.length with h | h
        · exfalso
          have h1 := hun m (Nat.le_refl _) h
          have h2 : m < listed.size := by omega
          have : false ∈ listed.toList := by simp [h2] at h1; rw [← h1]; simp
          have := List.count_pos_iff.2 this
          omega
        · omega
      · intro j hj
        have h2 : j < listed.size := by omega
        have h3 : listed.getD j true = true := by
          cases e : listed.getD j true with
          | true => rfl
          | false =>
            have : false ∈ listed.toList := by simp [h2] at e; rw [← e]; simp
            have := List.count_pos_iff.2 this
            omega
        rcases Nat.lt_or_ge j m with h | h
        · rw [h3]; simp [h]
        · rw [hun j h hj] at h3; cases h3
      · rw [putAll_fr]
        refine (hend f w hW (fun i hi => hR i (by rw [Nat.blt_eq] at hi; exact hi) ?_)).out
        have hi' : i < m := by rw [Nat.blt_eq] at hi; exact hi
        have h2 : i < listed.size := by omega
        cases e : listed.getD i false with
        | true => rfl
        | false =>
          have : false ∈ listed.toList := by simp [h2] at e; rw [← e]; simp
          have := List.count_pos_iff.2 this
          omega
    | succ fuel ih =>
      intro listed f w hcnt hz hsh hun hW hR
      by_cases hall : ∀ j, j < m → fs.contains j = false → listed.getD j true = true
      · have hge : ops.length - m ≤ listed.toList.count false := by
          have h1 : (listed.toList.drop m).count false = ops.length - m := by
            have h2 : listed.toList.drop m = List.replicate (ops.length - m) false := by
              apply List.ext_getElem
              · simp [hz]
              · intro j h3 h4
                simp at h3
                have := hun (m + j) (by omega) (by omega)
                have h5 : m + j < listed.size := by omega
                simpa [h5] using this
            rw [h2]; simp
          have h3 := List.take_append_drop m listed.toList
          rw [← h3, List.count_append]
          omega
        exact second (listed.toList.count false - (ops.length - m)) _ listed f w (by omega) (by omega) hz hsh hun hall hW hR
      · obtain ⟨u, hum, huf, hu⟩ : ∃ u, u < m ∧ fs.contains u = false ∧ listed.getD u true = false := by
          rcases Classical.not_forall.1 hall with ⟨u, h⟩
          rcases Classical.not_imp.1 h with ⟨h1, h2⟩
          rcases Classical.not_imp.1 h2 with ⟨h3, h4⟩
          exact ⟨u, h1, h3, by cases e : listed.getD u true with | true => exact absurd e h4 | false => rfl⟩
        have hne : Region.ready .any ops.toArray listed ≠ [] := fun hr => by
          have := all_listed hb hr u (by simp; omega)
          rw [hu] at this; cases this
        refine ⟨fun h0 => absurd h0 hne, fun i hi => ?_⟩
        obtain ⟨h0, o, ho, hdep⟩ := mem_ready.1 hi
        have hoi : ops[i]? = some o := by simpa using ho
        have hilt : i < ops.length := (List.getElem?_eq_some_iff.1 hoi).1
        have him : i < m := by
          rcases Nat.lt_or_ge i m with h | h
          · exact h
          · exfalso
            have h1 := chainB_spec hc hsh hoi h hdep u (by omega) huf
            have h2 : u < listed.size := by omega
            simp [h2] at h1 hu
            rw [h1] at hu; cases hu
        have hot : (ops.take m)[i]? = some o := by rw [List.getElem?_take_of_lt him]; exact hoi
        have hstep := Each.spec (ops.take m) 0 hs i o hot
        rw [Nat.zero_add] at hstep
        have hcount : ((listed.setIfInBounds i true).toList.count false) ≤ fuel := by
          have h1 : listed.toList[i]? = some false := by
            have h' : i < listed.size := by omega
            simp [h'] at h0; simp [h', h0]
          have := count_set _ _ h1
          simp only [Array.toList_setIfInBounds]
          omega
        have hun' : ∀ j, m ≤ j → j < ops.length → (listed.setIfInBounds i true).getD j true = false := fun j h1 h2 => by
          rw [getD_set_ne true (by omega)]; exact hun j h1 h2
        have next : ∀ v w', G w' → spQ sp i v w' → (∀ j u, j ≠ i → spQ sp j u w → spQ sp j u w') → wpAny P .any ops.toArray Q fuel (listed.setIfInBounds i true) (putAll (upd f i v) 0 (ops.take m) (fr n l)) w' := fun v w' hg hden hot' => by
          refine ih _ _ w' hcount (by simpa using hz) (hsh.step hoi hdep) hun' hg (fun j hj hlj => ?_)
          by_cases e : j = i
          · subst e; simpa [upd] using hden
          · rw [getD_set_ne false (Ne.symm e)] at hlj
            have := hot' j (f j) e (hR j hj hlj)
            simpa [upd, e] using this
        have put : ∀ v, fr n (ext (asg f 0 (ops.take m) l) o.dst v) = putAll (upd f i v) 0 (ops.take m) (fr n l) := fun v => by
          have := putAll_put v (ops.take m) 0 f (fr n l) hd i o hot
          rw [Nat.zero_add] at this
          rw [← this, putAll_fr, fr_put]
        refine wpOp_step ho (fun K hK => ?_)
        rw [putAll_fr, fr_wanted]
        have hh := (hstep.out f w hW (fun j hj => by
          obtain ⟨e, he, hb'⟩ := List.any_eq_true.1 hj
          simp only [Bool.and_eq_true] at hb'
          have heon := Nat.eq_of_beq_eq_true hb'.2
          have hj' := hdep e (by simpa using he) hb'.1
          have hlt := edgesBack_spec hb ho e (by simpa using he) hb'.1
          rw [heon] at hj' hlt
          exact hR j (by omega) hj') K (fun v w' h1 h2 h3 => by rw [put]; exact hK _ _ (next v w' h1 h2 h3))).out
        rw [fr_put]
        rcases hh with ⟨h1, h2⟩ | ⟨h1, h2⟩
        · rw [h1]; exact h2.out
        · rw [h1]; exact h2
  have h0 : putAll (slots (fr n l) (ops.take m).toArray) 0 (ops.take m) (fr n l) = fr n l := putAll_self _ _ 0 _ (fun i o ho t ht => by simp only [Nat.zero_add, slots]; rw [show (ops.take m).toArray[i]? = some o by simpa using ho]; simp [ht])
  have := main ops.length (Array.replicate ops.length false) (slots (fr n l) (ops.take m).toArray) w.drew (by simp) (by simp) (Shut.start _ _) (fun j _ hj => by simp [hj]) hG (fun i _ hi => by
    exfalso
    rcases Nat.lt_or_ge i ops.length with h' | h' <;> simp [h'] at hi)
  rw [h0] at this
  simpa using this
theorem w_ogc {id : Nat} {ops : List Oper} (m : Nat) (G : World → Prop) (sp : List (Value → World → Prop)) (fs : List Nat) (hm : P.follows .mixedOrders = true)
  (hb : edgesBack .any ops.toArray = true) (hd : dstsApart (ops.take m) = true) (hc : chainB ops m fs = true) (hl : Nat.ble m ops.length = true) (hf : floatB ops m fs = true) (hns : Region.noSelect ops.toArray = true)
  (hlate : ∀ i, i ∈ fs → LateC P ops Q n l m sp i) (hG : G w.drew) (hs : Each (OgC P ops Q n l m G sp) 0 (ops.take m))
  (hend : ∀ f w', G w' → (∀ i, Nat.blt i m = true → spQ sp i (f i) w') → WL P ops.toArray Q (ops.drop m) n (asg f 0 (ops.take m) l) w') : WC P (Code.region id ops.toArray true) Q n l w :=
 ⟨wp_region_any hm (a_ogc m G sp fs hb hd hc hl hf hns hlate hG hs hend)⟩
theorem latec_nil {ops : List Oper} {m : Nat} {sp : List (Value → World → Prop)} : ∀ i, i ∈ ([] : List Nat) → LateC P ops Q n l m sp i := fun _ h => by cases h
variable {o : Oper}
theorem oc_eq {ol : List Oper} {m : Nat} {G : World → Prop} {sp : List (Value → World → Prop)} {i : Nat} (v : Value) (hs : spQ sp i = vq v) (hg : ∀ w w', G w → Mo w w' → G w') (hm : Smos sp)
  (h : ∀ f w, G w → (∀ j, depb o j = true → spQ sp j (f j) w) → ∀ K : Act → World → Prop, (∀ w', Mo w w' → K (fr n (ext (asg f 0 (ol.take m) l) o.dst v)) w') → Go1 P ol Q n (asg f 0 (ol.take m) l) w K o) : OgC P ol Q n l m G sp i o :=
 ⟨fun f w hG hd K hK => h f w hG hd K (fun w' hmo => hK v w' (hg w w' hG hmo) (by rw [hs]; rfl) (fun j u _ hr => hm j u w w' hr hmo))⟩
end
def updB (L : Nat → Bool) (i : Nat) : Nat → Bool := fun j => if j = i then true else L j
section
variable {P : Program} {n : Nat} {l : List (Nat × Value)} {w : World} {Q : Exit → Act → World → Prop}
structure OgL (P : Program) (ops : List Oper) (Q : Exit → Act → World → Prop) (n : Nat) (l : List (Nat × Value)) (m : Nat) (G : (Nat → Bool) → (Nat → Value) → World → Prop) (sp : List (Value → World → Prop)) (i : Nat) (o : Oper) : Prop where
 out : ∀ L f w, G L f w → L i = false → (∀ j, depb o j = true → L j = true ∧ spQ sp j (f j) w) → ∀ K : Act → World → Prop,
  (∀ v w', G (updB L i) (upd f i v) w' → spQ sp i v w' → (∀ j u, j ≠ i → spQ sp j u w → spQ sp j u w') → K (fr n (ext (asg f 0 (ops.take m) l) o.dst v)) w') →
  Go1 P ops Q n (asg f 0 (ops.take m) l) w K o
theorem a_ogl {ops : List Oper} (m : Nat) (G : (Nat → Bool) → (Nat → Value) → World → Prop) (sp : List (Value → World → Prop))
  (hb : edgesBack .any ops.toArray = true) (hd : dstsApart (ops.take m) = true) (hc : chainB ops m [] = true) (hl : Nat.ble m ops.length = true)
  (hG : ∀ f, G (fun _ => false) f w.drew) (hs : Each (OgL P ops Q n l m G sp) 0 (ops.take m))
  (hend : ∀ L f w', (∀ i, Nat.blt i m = true → L i = true) → G L f w' → (∀ i, Nat.blt i m = true → spQ sp i (f i) w') → WL P ops.toArray Q (ops.drop m) n (asg f 0 (ops.take m) l) w') : wpAny P .any ops.toArray Q ops.toArray.size (Array.replicate ops.toArray.size false) (fr n l) w.drew := by
 have hml : m ≤ ops.length := Nat.le_of_ble_eq_true hl
 have hfs : ∀ j, m ≤ j → ([] : List Nat).contains j = false := fun _ _ => rfl
 have main : ∀ (fuel : Nat) (listed : Array Bool) (f : Nat → Value) (w : World), listed.toList.count false ≤ fuel → listed.size = ops.length → Shut ops listed → (∀ j, m ≤ j → j < ops.length → listed.getD j true = false) →
   G (fun j => listed.getD j false) f w → (∀ i, i < m → listed.getD i false = true → spQ sp i (f i) w) → wpAny P .any ops.toArray Q fuel listed (putAll f 0 (ops.take m) (fr n l)) w := by
  intro fuel
  induction fuel with
  | zero =>
   intro listed f w hcnt hz hsh hun hW hR
   have hall : ∀ j, j < m → listed.getD j false = true := fun i hi' => by
    have h2 : i < listed.size := by omega
    cases e : listed.getD i false with
    | true => rfl
    | false =>
     have : false ∈ listed.toList := by simp [h2] at e; rw [← e]; simp
     have := List.count_pos_iff.2 this
     omega
   refine wpAny_chain hfs hc hb (ops.length - m) m 0 listed _ w (by omega) (Nat.le_refl _) ?_ hz hsh ?_ ?_
   ·rcases Nat.lt_or_ge m ops.length with h | h
    ·exfalso
     have h1 := hun m (Nat.le_refl _) h
     have h2 : m < listed.size := by omega
     have : false ∈ listed.toList := by simp [h2] at h1; rw [← h1]; simp
     have := List.count_pos_iff.2 this
     omega
    ·omega
   ·intro j hj
    have h2 : j < listed.size := by omega
    rcases Nat.lt_or_ge j m with h | h
    ·have := hall j h; simp [h2] at this ⊢; rw [this]; simp [h]
    ·rw [hun j h hj]; simp [Nat.not_lt.2 h]
   ·rw [putAll_fr]
    exact (hend _ f w (fun i hi => hall i (by rw [Nat.blt_eq] at hi; exact hi)) hW (fun i hi => hR i (by rw [Nat.blt_eq] at hi; exact hi) (hall i (by rw [Nat.blt_eq] at hi; exact hi)))).out
  | succ fuel ih =>
   intro listed f w hcnt hz hsh hun hW hR
   by_cases hall : ∀ j, j < m → listed.getD j true = true
   ·have hge : ops.length - m ≤ listed.toList.count false := by
     have h1 : (listed.toList.drop m).count false = ops.length - m := by
      have h2 : listed.toList.drop m = List.replicate (ops.length - m) false := by
       apply List.ext_getElem
       ·simp [hz]
       ·intro j h3 h4
        simp at h3
        have := hun (m + j) (by omega) (by omega)
        have h5 : m + j < listed.size := by omega
        simpa [h5] using this
      rw [h2]; simp
     have h3 := List.take_append_drop m listed.toList
     rw [← h3, List.count_append]
     omega
    refine wpAny_chain hfs hc hb (ops.length - m) m _ listed _ w (by omega) (Nat.le_refl _) (by omega) hz hsh (fun j hj => ?_) ?_
    ·rcases Nat.lt_or_ge j m with h | h
     ·rw [hall j h]; simp [h]
     ·rw [hun j h hj]; simp [Nat.not_lt.2 h]
    ·rw [putAll_fr]
     have hall2 : ∀ i, Nat.blt i m = true → listed.getD i false = true := fun i hi => by
      have hi' : i < m := by rw [Nat.blt_eq] at hi; exact hi
      have h1 := hall i hi'
      have h2 : i < listed.size := by omega
      simpa [h2] using h1
     exact (hend _ f w hall2 hW (fun i hi => hR i (by rw [Nat.blt_eq] at hi; exact hi) (hall2 i hi))).out
   ·obtain ⟨u, hum, hu⟩ : ∃ u, u < m ∧ listed.getD u true = false := by
     rcases Classical.not_forall.1 hall with ⟨u, h⟩
     rcases Classical.not_imp.1 h with ⟨h1, h4⟩
     exact ⟨u, h1, by cases e : listed.getD u true with | true => exact absurd e h4 | false => rfl⟩
    have hne : Region.ready .any ops.toArray listed ≠ [] := fun hr => by
     have := all_listed hb hr u (by simp; omega)
     rw [hu] at this; cases this
    refine ⟨fun h0 => absurd h0 hne, fun i hi => ?_⟩
    obtain ⟨h0, o, ho, hdep⟩ := mem_ready.1 hi
    have hoi : ops[i]? = some o := by simpa using ho
    have hilt : i < ops.length := (List.getElem?_eq_some_iff.1 hoi).1
    have him : i < m := by
     rcases Nat.lt_or_ge i m with h | h
     ·exact h
     ·exfalso
      have h1 := chainB_spec hc hsh hoi h hdep u (by omega) rfl
      have h2 : u < listed.size := by omega
      simp [h2] at h1 hu
      rw [h1] at hu; cases hu
    have hot : (ops.take m)[i]? = some o := by rw [List.getElem?_take_of_lt him]; exact hoi
    have hstep := Each.spec (ops.take m) 0 hs i o hot
    rw [Nat.zero_add] at hstep
    have hcount : ((listed.setIfInBounds i true).toList.count false) ≤ fuel := by
     have h1 : listed.toList[i]? = some false := by
      have h' : i < listed.size := by omega
      simp [h'] at h0; simp [h', h0]
     have := count_set _ _ h1
     simp only [Array.toList_setIfInBounds]
     omega
    have hun' : ∀ j, m ≤ j → j < ops.length → (listed.setIfInBounds i true).getD j true = false := fun j h1 h2 => by
     rw [getD_set_ne true (by omega)]; exact hun j h1 h2
    have hL : (fun j => (listed.setIfInBounds i true).getD j false) = updB (fun j => listed.getD j false) i := by
     funext j
     unfold updB
     by_cases e : j = i
     ·subst e
      have h' : j < listed.size := by omega
      simp [h']
     ·rw [if_neg e, getD_set_ne false (Ne.symm e)]
    have hi0 : listed.getD i false = false := by
     have h' : i < listed.size := by omega
     simp [h'] at h0 ⊢; exact h0
    have next : ∀ v w', G (updB (fun j => listed.getD j false) i) (upd f i v) w' → spQ sp i v w' → (∀ j u, j ≠ i → spQ sp j u w → spQ sp j u w') → wpAny P .any ops.toArray Q fuel (listed.setIfInBounds i true) (putAll (upd f i v) 0 (ops.take m) (fr n l)) w' := fun v w' hg hden hot' => by
     refine ih _ _ w' hcount (by simpa using hz) (hsh.step hoi hdep) hun' (by rw [hL]; exact hg) (fun j hj hlj => ?_)
     by_cases e : j = i
     ·subst e; simpa [upd] using hden
     ·rw [getD_set_ne false (Ne.symm e)] at hlj
      have := hot' j (f j) e (hR j hj hlj)
      simpa [upd, e] using this
    have put : ∀ v, fr n (ext (asg f 0 (ops.take m) l) o.dst v) = putAll (upd f i v) 0 (ops.take m) (fr n l) := fun v => by
     have := putAll_put v (ops.take m) 0 f (fr n l) hd i o hot
     rw [Nat.zero_add] at this
     rw [← this, putAll_fr, fr_put]
    refine wpOp_step ho (fun K hK => ?_)
    rw [putAll_fr, fr_wanted]
    have hh := (hstep.out _ f w hW hi0 (fun j hj => by
     obtain ⟨e, he, hb'⟩ := List.any_eq_true.1 hj
     simp only [Bool.and_eq_true] at hb'
     have heon := Nat.eq_of_beq_eq_true hb'.2
     have hj' := hdep e (by simpa using he) hb'.1
     have hlt := edgesBack_spec hb ho e (by simpa using he) hb'.1
     rw [heon] at hj' hlt
     exact ⟨hj', hR j (by omega) hj'⟩) K (fun v w' h1 h2 h3 => by rw [put]; exact hK _ _ (next v w' h1 h2 h3))).out
    rw [fr_put]
    rcases hh with ⟨h1, h2⟩ | ⟨h1, h2⟩
    ·rw [h1]; exact h2.out
    ·rw [h1]; exact h2
 have h0 : putAll (slots (fr n l) (ops.take m).toArray) 0 (ops.take m) (fr n l) = fr n l := putAll_self _ _ 0 _ (fun i o ho t ht => by simp only [Nat.zero_add, slots]; rw [show (ops.take m).toArray[i]? = some o by simpa using ho]; simp [ht])
 have hemp : (fun j => (Array.replicate ops.length false).getD j false) = (fun _ => false) := by
  funext j
  rcases Nat.lt_or_ge j ops.length with h' | h' <;> simp [h']
 have := main ops.length (Array.replicate ops.length false) (slots (fr n l) (ops.take m).toArray) w.drew (by simp) (by simp) (Shut.start _ _) (fun j _ hj => by simp [hj]) (by rw [hemp]; exact hG _) (fun i _ hi => by
  exfalso
  rcases Nat.lt_or_ge i ops.length with h' | h' <;> simp [h'] at hi)
 rw [h0] at this
 simpa using this
theorem w_ogl {id : Nat} {ops : List Oper} (m : Nat) (G : (Nat → Bool) → (Nat → Value) → World → Prop) (sp : List (Value → World → Prop)) (hm : P.follows .mixedOrders = true)
  (hb : edgesBack .any ops.toArray = true) (hd : dstsApart (ops.take m) = true) (hc : chainB ops m [] = true) (hl : Nat.ble m ops.length = true)
  (hG : ∀ f, G (fun _ => false) f w.drew) (hs : Each (OgL P ops Q n l m G sp) 0 (ops.take m))
  (hend : ∀ L f w', (∀ i, Nat.blt i m = true → L i = true) → G L f w' → (∀ i, Nat.blt i m = true → spQ sp i (f i) w') → WL P ops.toArray Q (ops.drop m) n (asg f 0 (ops.take m) l) w') : WC P (Code.region id ops.toArray true) Q n l w :=
 ⟨wp_region_any hm (a_ogl m G sp hb hd hc hl hG hs hend)⟩
variable {o : Oper}
theorem ol_eq {ol : List Oper} {m : Nat} {G : (Nat → Bool) → (Nat → Value) → World → Prop} {sp : List (Value → World → Prop)} {i : Nat} (v : Value) (hs : spQ sp i = vq v) (hg : ∀ L f w w', G L f w → L i = false → Mo w w' → G (updB L i) (upd f i v) w') (hm : Smos sp)
  (h : ∀ L f w, G L f w → (∀ j, depb o j = true → spQ sp j (f j) w) → ∀ K : Act → World → Prop, (∀ w', Mo w w' → K (fr n (ext (asg f 0 (ol.take m) l) o.dst v)) w') → Go1 P ol Q n (asg f 0 (ol.take m) l) w K o) : OgL P ol Q n l m G sp i o :=
 ⟨fun L f w hG hi hd K hK => h L f w hG (fun j hj => (hd j hj).2) K (fun w' hmo => hK v w' (hg L f w w' hG hi hmo) (by rw [hs]; rfl) (fun j u _ hr => hm j u w w' hr hmo))⟩
end
theorem updB_ne {L : Nat → Bool} {i j : Nat} (h : j ≠ i) : updB L i j = L j := by unfold updB; rw [if_neg h]
theorem updB_eq {L : Nat → Bool} {i : Nat} : updB L i i = true := by unfold updB; rw [if_pos rfl]
section
variable {P : Program} {o : Oper} {n : Nat} {l : List (Nat × Value)} {w : World} {ops : Array Oper} {rest : List Oper} {Q : Exit → Act → World → Prop}
theorem wl_callx (g : FuncId) (xs : List Operand) (ats : Array TypeId) (args : List Value) {F : Ending → World → Prop} (ho : o.op = .call { callee := .value (.func g), args := xs.toArray, argTypes := ats }) (hx : xs.map (evl n l) = args)
  (h : ∀ args w, (callFunc g args).run P w = .ok (.enter g args) w)
  (hc : Calls P g args.toArray w F) (hg : wnt n l ops o = true) (hk : ∀ v w', F v w' → ∃ u, v = .returned u ∧ WL P ops Q rest n (ext l o.dst u) w') : WL P ops Q (o :: rest) n l w := by
 have e : (execOp (evl n l) o).run P w = .ok (.enter g args.toArray) w := by
  obtain ⟨dst, op, ty, pos, after, guard⟩ := o
  simp only at ho
  subst ho hx
  have e2 := execOp_call_go (fr n l) dst g xs.toArray ats ty pos after guard
  rw [fr_eval] at e2
  rw [e2, h]
  simp
 refine ⟨l_step hg ?_⟩
 unfold Oper.wp; rw [fr_eval, e, Oper.upon_enter]
 refine hc.mono ?_
 intro e w' hF
 obtain ⟨u, rfl, hW⟩ := hk e w' hF
 show wpList _ _ _ _ _ _
 rw [fr_put]
 exact hW.out
theorem wl_stx2 (ty : TypeId) (x y : Operand) (k off : Nat) (us : Array Value) (vs vs' : List Value) (hA : At w k vs) (ho : o.op = .store ty x y) (hd : o.dst = none) (hx : evl n l x = pt k off) (hy : evl n l y = .agg us)
  (hl : Nat.ble (off + us.size) vs.length = true) (hi : (P.info? ty).map (·.size) = some us.size) (h1 : us.toList.all (·.oneCell') = true) (hvs : vs' = vs.take off ++ us.toList ++ vs.drop (off + us.toList.length)) (hg : wnt n l ops o = true)
  (hk : ∀ w', St2 k w w' → At w' k vs' → WL P ops Q rest n l w') : WL P ops Q (o :: rest) n l w :=
 ⟨l_step hg (o_store ty x y _ _ ho hd hx hy (run_put hA ty off us (Nat.le_of_ble_eq_true hl) hi (by rw [← Array.all_toList]; exact h1)) (hk _ (St2.mk2 w k off us.toList) (hA.set off us.toList (by have := Nat.le_of_ble_eq_true hl; simpa using this) vs' hvs)).out)⟩
end
theorem wo_callx {P : Program} {o : Oper} {n : Nat} {l : List (Nat × Value)} {w : World} {Q : Exit → Act → World → Prop} {K : Act → World → Prop} (g : FuncId) (xs : List Operand) (ats : Array TypeId) (args : List Value) {F : Ending → World → Prop} (ho : o.op = .call { callee := .value (.func g), args := xs.toArray, argTypes := ats }) (hx : xs.map (evl n l) = args)
  (h : ∀ args w, (callFunc g args).run P w = .ok (.enter g args) w)
  (hc : Calls P g args.toArray w F) (hk : ∀ v w', F v w' → ∃ u, v = .returned u ∧ K (fr n (ext l o.dst u)) w') : WO P o n l w K Q := by
 have e : (execOp (evl n l) o).run P w = .ok (.enter g args.toArray) w := by
  obtain ⟨dst, op, ty, pos, after, guard⟩ := o
  simp only at ho
  subst ho hx
  have e2 := execOp_call_go (fr n l) dst g xs.toArray ats ty pos after guard
  rw [fr_eval] at e2
  rw [e2, h]
  simp
 refine ⟨?_⟩
 unfold Oper.wp; rw [fr_eval, e, Oper.upon_enter]
 refine hc.mono ?_
 intro e w' hF
 obtain ⟨u, rfl, hW⟩ := hk e w' hF
 show K _ _
 rw [fr_put]
 exact hW
end G
end Go.Proofs.Ythfemlhmnjfjiaa
/-
 What the records own, written and read.
-/
namespace Go.Proofs.Ythfemlhmnjfjiaa
open Go.RowKit
namespace G
theorem Rw.ix {w : World} {m : Nat} {h : Value} {L : List (List Value)} (r : Rw w m h L) {i : Nat} {cs : List Value} (hi : L[i]? = some cs) : ∃ b off cap, h = .slice (some ⟨b, off, none⟩) L.length cap ∧ b < w.heap.size ∧ Fz w b ∧ w.rangeAt b (off + i * m) cs ∧ ob h = some b := by
 obtain ⟨p, cap, rfl, f⟩ := r
 have hne : L ≠ [] := fun e => by rw [e] at hi; cases hi
 obtain ⟨b, off, rfl, h2, h3, h4⟩ := f hne
 exact ⟨b, off, cap, rfl, h2, h3, h4 i cs hi, ob_slice (fun e => hne (List.length_eq_zero_iff.1 e))⟩
theorem Rw.there {w : World} {m : Nat} {h : Value} {L : List (List Value)} (r : Rw w m h L) {i b off cap : Nat} (hh : h = .slice (some ⟨b, off, none⟩) L.length cap) (hi : i < L.length) (hL : ∀ x ∈ L, x.length = m) : w.there b (off + i * m) m := by
 obtain ⟨b2, off2, cap2, e, h2, h3, h4, _⟩ := r.ix (List.getElem?_eq_getElem hi)
 rw [hh, Value.slice.injEq] at e
 cases e.1
 have := hL _ (List.getElem_mem hi)
 exact fun j hj => ⟨h4.isSome j (by omega), h3 _⟩
theorem Rw.set {w : World} {m : Nat} {h : Value} {L : List (List Value)} (r : Rw w m h L) {i b off cap : Nat} (hh : h = .slice (some ⟨b, off, none⟩) L.length cap) (hi : i < L.length) (cs : List Value) (hl : cs.length = m) (hL : ∀ x ∈ L, x.length = m) : Rw (w.setCells b (off + i * m) cs) m h (L.set i cs) := by
 have hth := r.there hh hi hL
 obtain ⟨p, cap2, e, f⟩ := r
 have hne : L ≠ [] := fun e => by rw [e] at hi; cases hi
 obtain ⟨b2, off2, e2, h2, h3, h4⟩ := f hne
 rw [hh, Value.slice.injEq, e2] at e
 cases e.1
 refine ⟨some ⟨b, off, none⟩, cap, by rw [List.length_set]; exact hh, fun _ => ⟨b, off, rfl, by rw [sz_setCells]; exact h2, fun o => by rw [World.frozen?_setCells]; exact h3 o, fun j xs hj => ?_⟩⟩
 by_cases hji : i = j
 ·subst hji
  rw [List.getElem?_set_self hi] at hj
  cases hj
  exact World.rangeAt_setCells_same _ _ _ _ (hl ▸ hth)
 ·rw [List.getElem?_set_ne hji] at hj
  have hx := hL xs (List.mem_of_getElem? hj)
  refine World.rangeAt_setCells_apart (h4 j xs hj) _ _ _ (Or.inr ?_)
  rcases Nat.lt_or_gt_of_ne hji with c | c
  ·have := Nat.mul_le_mul_right m (show i + 1 ≤ j from c)
   rw [Nat.succ_mul] at this
   exact Or.inr (by omega)
  ·have := Nat.mul_le_mul_right m (show j + 1 ≤ i from c)
   rw [Nat.succ_mul] at this
   exact Or.inl (by omega)
structure Ap (M : Mp) : Prop where
 hv : ∀ {j k r q b}, M j = some r → M k = some q → ob r.h = some b → ob q.i.v ≠ some b
 hh : ∀ {j k r q b}, M j = some r → M k = some q → j ≠ k → ob r.h = some b → ob q.h ≠ some b
 vv : ∀ {j k r q b}, M j = some r → M k = some q → j ≠ k → ob r.i.v = some b → ob q.i.v ≠ some b
theorem ud_or {M : Mp} {k j : Nat} {r q : Rc} (h : ud M k r j = some q) : (j = k ∧ q = r) ∨ (j ≠ k ∧ M j = some q) := by
 unfold ud at h
 split at h
 ·rename_i hjk; cases h; exact Or.inl ⟨hjk, rfl⟩
 ·rename_i hjk; exact Or.inr ⟨hjk, h⟩
theorem sml_len (S : Sm) : (sml S).length = 23 := rfl
theorem Ap.wr {M : Mp} (h : Ap M) {k : Nat} {r r' : Rc} (e : M k = some r) (h1 : r'.i.v = r.i.v) (h2 : r'.h = r.h) : Ap (ud M k r') := by
 have key : ∀ {j q}, ud M k r' j = some q → ∃ q0, M j = some q0 ∧ q.i.v = q0.i.v ∧ q.h = q0.h := fun hj => by
  rcases ud_or hj with ⟨rfl, rfl⟩ | ⟨_, hj⟩
  ·exact ⟨r, e, h1, h2⟩
  ·exact ⟨_, hj, rfl, rfl⟩
 refine ⟨fun a b c => ?_, fun a b n c => ?_, fun a b n c => ?_⟩
 ·obtain ⟨x, hx, _, x2⟩ := key a; obtain ⟨y, hy, y1, _⟩ := key b
  rw [y1]; rw [x2] at c; exact h.hv hx hy c
 ·obtain ⟨x, hx, _, x2⟩ := key a; obtain ⟨y, hy, _, y2⟩ := key b
  rw [y2]; rw [x2] at c; exact h.hh hx hy n c
 ·obtain ⟨x, hx, x1, _⟩ := key a; obtain ⟨y, hy, y1, _⟩ := key b
  rw [y1]; rw [x1] at c; exact h.vv hx hy n c
theorem HS.sum {D : Nat → Prop} {w : World} {t : Nat} {mb : Hd} {M : Mp} {root : Option Nat} {lk : Int} (h : HS D w t mb M root lk) (A : Ap M) {k : Nat} {r : Rc} (e : M k = some r) {c b off cap : Nat} (hc : c < r.c.length) (S : Sm) (hS : S.ok) (hh : r.h = .slice (some ⟨b, off, none⟩) r.c.length cap) :
  HS D (w.setCells b (off + c * 23) (sml S)) t mb (ud M k ⟨r.u, r.l, r.r, r.s, r.i, r.h, r.c.set c S⟩) root lk := by
 have s := St2.mk2 w b (off + c * 23) (sml S)
 have hK := Mk.st1 s
 have hob : ob r.h = some b := by rw [hh]; exact ob_slice (by omega)
 obtain ⟨db, bt, Mb⟩ := h.ds e (Or.inr hob)
 have hne : ∀ {j q}, M j = some q → j ≠ b := fun hj q => by rw [q, Mb] at hj; cases hj
 have hMb : ∀ {x}, M x = none → ud M k ⟨r.u, r.l, r.r, r.s, r.i, r.h, r.c.set c S⟩ x = none := fun {x} hb => by
  rw [ud_ne _ _ (fun q => by rw [q, e] at hb; cases hb)]; exact hb
 refine ⟨s.other t _ (Ne.symm bt) h.tr, h.sc.kept hK (fun b' hb' q => h.sd b' hb' (by rw [q]; exact db)), h.sd, fun j q hj => ?_, fun j q hj => ?_, fun j q hj => ?_, fun j q hj => ?_, hMb h.mt, h.dt, fun {j q} hj => ?_, fun {j q b'} hj hb => ?_, fun e => by rw [s.size]; exact h.lt e, h.nb, h.nc⟩
 ·rcases ud_or hj with ⟨rfl, rfl⟩ | ⟨hn, hj⟩
  ·exact s.other j _ (hne e) (h.rc j r e)
  ·exact s.other j _ (hne hj) (h.rc j q hj)
 ·rcases ud_or hj with ⟨rfl, rfl⟩ | ⟨hn, hj⟩
  ·exact s.cb _ (h.cb _ r e)
  ·exact s.cb _ (h.cb j q hj)
 ·rcases ud_or hj with ⟨rfl, rfl⟩ | ⟨hn, hj⟩
  ·exact ⟨(h.sv _ r e).1.kept hK (fun b' hb' q => A.hv e e hob (q ▸ hb')), (h.sv _ r e).2⟩
  ·exact ⟨(h.sv j q hj).1.kept hK (fun b' hb' x => A.hv e hj hob (x ▸ hb')), (h.sv j q hj).2⟩
 ·rcases ud_or hj with ⟨rfl, rfl⟩ | ⟨hn, hj⟩
  ·obtain ⟨a1, a2, a3⟩ := h.ss j r e
   refine ⟨?_, by rw [List.length_set]; exact a2, fun X hX => ?_⟩
   ·have := a1.set (i := c) (by rw [List.length_map]; exact hh) (by rw [List.length_map]; exact hc) (sml S) rfl (fun x hx => by obtain ⟨y, _, rfl⟩ := List.mem_map.1 hx; rfl)
    rw [← List.map_set] at this
    exact this
   ·rcases List.mem_or_eq_of_mem_set hX with hX | rfl
    ·exact a3 X hX
    ·exact hS
  ·exact ⟨(h.ss j q hj).1.kept hK (fun b' hb' x => A.hh e hj (Ne.symm hn) hob (x ▸ hb')), (h.ss j q hj).2⟩
 ·rcases ud_or hj with ⟨rfl, rfl⟩ | ⟨hn, hj⟩
  ·exact h.dk e
  ·exact h.dk hj
 ·rcases ud_or hj with ⟨rfl, rfl⟩ | ⟨hn, hj⟩
  ·obtain ⟨a1, a2, a3⟩ := h.ds e hb; exact ⟨a1, a2, hMb a3⟩
  ·obtain ⟨a1, a2, a3⟩ := h.ds hj hb; exact ⟨a1, a2, hMb a3⟩
theorem ld55 {w : World} {b o : Nat} {x : V10} (h : w.rangeAt b o x.cells) : (Instr.loadAt 55 (pt b o)).run Try.prog w = .ok x.v w :=
 run_loadAt_mid w b o 55 x.cells _ h Try.underlying55 rfl zs55
theorem ld42 {w : World} {b o : Nat} {S : Sm} (h : w.rangeAt b o (sml S)) : (Instr.loadAt 42 (pt b o)).run Try.prog w = .ok (smv S) w :=
 run_loadAt_mid w b o 42 (sml S) _ h Try.underlying42 rfl zs42
theorem ld3 {w : World} {b o : Nat} {x : Int} (h : w.rangeAt b o [.int .i64 x]) : (Instr.loadAt 3 (pt b o)).run Try.prog w = .ok (.int .i64 x) w := by
 have hagg : (isAgg 3).run Try.prog w = .ok false w := by
  unfold isAgg
  rw [Sem.run_bind, run_underlying Try.underlying3 w]
  simp
 have hc := h 0 _ rfl
 simp only [Nat.add_zero] at hc
 simp [Instr.loadAt, Instr.sureAddr, loadVar, Sem.run_bind, hagg, hc]
theorem ix47 (b off i n c : Nat) (h : i < n) (w : World) : (Instr.indexAt 47 (.slice (some ⟨b, off, none⟩) n c) (.int .i64 (i : Int))).run Try.prog w = .ok (pt b (off + i * 23)) w := ix36 b off i n c h w
theorem ix29 (b off i n c : Nat) (h : i < n) (w : World) : (Instr.indexAt 29 (.slice (some ⟨b, off, none⟩) n c) (.int .i64 (i : Int))).run Try.prog w = .ok (pt b (off + i * 10)) w := by
 have e : (Instr.indexAt 29 (.slice (some ⟨b, off, none⟩) n c) (.int .i64 (i : Int))).run Try.prog w = .ok (.pointer (some ((⟨b, off, none⟩ : Addr).add (i * 10)))) w := by simp [go_sem, h]
 rw [e, Addr.add_mid]
theorem ix22 (b off i n c : Nat) (h : i < n) (w : World) : (Instr.indexAt 22 (.slice (some ⟨b, off, none⟩) n c) (.int .i64 (i : Int))).run Try.prog w = .ok (pt b (off + i * 1)) w := by
 have e : (Instr.indexAt 22 (.slice (some ⟨b, off, none⟩) n c) (.int .i64 (i : Int))).run Try.prog w = .ok (.pointer (some ((⟨b, off, none⟩ : Addr).add (i * 1)))) w := by simp [go_sem, h]
 rw [e, Addr.add_mid]
theorem len22 (ρ : Operand → Value) (x : Operand) (p : Option Addr) (m c : Nat) (hx : ρ x = .slice p m c) (dst : Option Tmp) (type : TypeId) (pos : String) (after : Array Edge) (guard : Option (Nat × Bool)) (w : World) : (execOp ρ { dst, op := .call { callee := .builtin .len, args := #[x], argTypes := #[22] }, type, pos, after, guard }).run Try.prog w = .ok (.value (.int .i64 (m : Int))) w := by
 simp [go_sem, hx]
theorem bs47 (A B C : Sm) (w : World) : (Instr.buildSlice 47 3 #[(0, smv A), (1, smv B), (2, smv C)]).run Try.prog w = .ok (.slice (some ⟨w.heap.size, 0, none⟩) 3 3) (w.alloc (.cells (sml A ++ sml B ++ sml C).toArray 42)) := by kernel_rfl
theorem ss3 (A B C : Sm) (w : World) : SS (w.alloc (.cells (sml A ++ sml B ++ sml C).toArray 42)) (some ⟨w.heap.size, 0, none⟩) [A, B, C] := by
 have hA := At.new w (sml A ++ sml B ++ sml C).toArray 42
 have hl := hA.2.2
 intro i S hi
 refine ⟨w.heap.size, 0, rfl, hl, fun j v hv => ?_⟩
 have hr := hA.1
 have hj : j < 23 := (List.getElem?_eq_some_iff.1 hv).1
 have key : (sml A ++ sml B ++ sml C)[i * 23 + j]? = some v := by
  match i, hi with
  | 0, hi => cases hi; rw [List.append_assoc, List.getElem?_append_left (by rw [sml_len]; omega), ← hv]; congr 1; omega
  | 1, hi => cases hi; rw [List.append_assoc, List.getElem?_append_right (by rw [sml_len]; omega), sml_len, List.getElem?_append_left (by rw [sml_len]; omega), ← hv]; congr 1; omega
  | 2, hi => cases hi; rw [List.getElem?_append_right (by rw [List.length_append, sml_len, sml_len]; omega), List.length_append, sml_len, sml_len, ← hv]; congr 1; omega
  | i + 3, hi => simp at hi
 have := hr (i * 23 + j) v key
 rw [show 0 + i * 23 + j = 0 + (i * 23 + j) by omega]
 exact this
end G
end Go.Proofs.Ythfemlhmnjfjiaa
/-
 sum, own, mendColumn.
-/
namespace Go.Proofs.Ythfemlhmnjfjiaa
open Go.RowKit
namespace G
def smo (R : Mp) (x : Option Nat) (c : Nat) (S : Sm) : Prop := match x with
 | none => S = sm0
 | some k => ∃ r, R k = some r ∧ r.c[c]? = some S
section
variable {o : Oper} {n : Nat} {l : List (Nat × Value)} {w : World} {ops : Array Oper} {rest : List Oper} {Q : Exit → Act → World → Prop} {K : Act → World → Prop}
theorem wo_bs47 (x y z : Operand) (A B C : Sm) (ho : o.op = .buildSlice 47 3 #[(0, x), (1, y), (2, z)]) (hx : evl n l x = smv A) (hy : evl n l y = smv B) (hz : evl n l z = smv C)
  (hk : ∀ k w', w.heap.size = k → Mo w w' → SS w' (some ⟨k, 0, none⟩) [A, B, C] → K (fr n (ext l o.dst (.slice (some ⟨k, 0, none⟩) 3 3))) w') : WO Try.prog o n l w K Q :=
 ⟨o_val (.slice (some ⟨w.heap.size, 0, none⟩) 3 3) (w' := w.alloc (.cells (sml A ++ sml B ++ sml C).toArray 42)) (by
  have h := bs47 A B C w
  simp only [execOp, ho, List.map_toArray, List.map_cons, List.map_nil, hx, hy, hz, Sem.run_bind, h, Result.andThen_ok]
  simp) (hk _ _ rfl ((Mo.refl _).alloc _ _) (ss3 A B C w))⟩
theorem wl_stm (ty : TypeId) (x y : Operand) (b off : Nat) (us : Array Value) (ht : w.there b off us.size) (ho : o.op = .store ty x y) (hd : o.dst = none) (hx : evl n l x = pt b off) (hy : evl n l y = .agg us)
  (hi : (Try.prog.info? ty).map (·.size) = some us.size) (h1 : us.all (·.oneCell') = true) (hg : wnt n l ops o = true)
  (hk : WL Try.prog ops Q rest n l (w.setCells b off us.toList)) : WL Try.prog ops Q (o :: rest) n l w :=
 ⟨l_step hg (o_store ty x y _ _ ho hd hx hy (run_storeAt_mid w b off ty us ht hi h1) hk.out)⟩
end
theorem sml_one (S : Sm) : (sml S).toArray.all (·.oneCell') = true := by rw [← Array.all_toList]; rfl
section
variable {D : Nat → Prop} {w : World} {t : Nat} {mb : Hd} {R : Mp} {root : Option Nat} {lk : Int}
theorem sum_0 (w : World) (c : Nat) : Calls Try.prog 35 #[pp none, .int .i64 (c : Int)] w fun e w' => e = .returned (smv sm0) ∧ Mo w w' := by
 refine w_enter 15 Try.func35 Try.ntmps35 rfl rfl ?_
 have M : Mo w w := Mo.refl _
 refine w_seq (w_reg ?_)
 refine wl_alloc 42 #[.int .i64 0, .int .i64 0, .int .i64 0, .int .i64 0, .int .i64 0, .int .u64 0, .int .u64 0, .int .u64 0, .int .u64 0, .int .u64 0, .bool false, .bool false, .int .u64 0, .int .u64 0, .int .u64 0, .int .u64 0, .int .i64 0, .bool false, .int .u64 0, .int .u64 0, .int .u64 0, .int .u64 0, .int .i64 0] rfl (fun _ => by kernel_rfl) rfl ?_
 intro k1 w1 hk hz hq Q1
 have N_k1 : w.heap.size ≤ k1 := by have := M.size; omega
 replace M := M.trans hq
 clear hk hz hq
 refine w_nil (xn_then (w_seq (w_seq (w_reg ?_))))
 refine wl_m (.tmp 0) (pp none) ?_
 refine wl_b .eql 65 (.tmp 5) (.const (.pointer none)) (pp none) (pp none) (.bool true) (eqP none _ _ _) ?_
 refine w_nil (xn_then (w_condT rfl (w_seq (w_reg ?_))))
 refine wl_call 49 [(.const (.slice none 0 0))] _ [.slice none 0 0] (.agg #[.int .i64 (sm0).r, .int .i64 (sm0).f, .int .i64 (sm0).k, .int .i64 (sm0).d, .int .i64 (sm0).e, .int .u64 (l0 (sm0).tt), .int .u64 (l1 (sm0).tt), .int .u64 (l2 (sm0).tt), .int .u64 (l3 (sm0).tt), .int .u64 (l4 (sm0).tt), .bool (sm0).so, .bool (sm0).mn.b, .int .u64 (l0 (sm0).mn.n), .int .u64 (l1 (sm0).mn.n), .int .u64 (l2 (sm0).mn.n), .int .u64 (l3 (sm0).mn.n), .int .i64 (sm0).mn.s, .bool (sm0).mx.b, .int .u64 (l0 (sm0).mx.n), .int .u64 (l1 (sm0).mx.n), .int .u64 (l2 (sm0).mx.n), .int .u64 (l3 (sm0).mx.n), .int .i64 (sm0).mx.s]) rfl rfl (fun _ _ => by kernel_rfl) (join_n [] none 0 (fun _ h => by cases h) (fun _ _ h => by cases h) (by decide)) rfl ?_
 intro w2 hq
 replace Q1 := Q1.mo hq
 replace M := M.trans hq
 clear hq
 refine wl_st 42 (.tmp 4) (.tmp 7) k1 0 #[.int .i64 (sm0).r, .int .i64 (sm0).f, .int .i64 (sm0).k, .int .i64 (sm0).d, .int .i64 (sm0).e, .int .u64 (l0 (sm0).tt), .int .u64 (l1 (sm0).tt), .int .u64 (l2 (sm0).tt), .int .u64 (l3 (sm0).tt), .int .u64 (l4 (sm0).tt), .bool (sm0).so, .bool (sm0).mn.b, .int .u64 (l0 (sm0).mn.n), .int .u64 (l1 (sm0).mn.n), .int .u64 (l2 (sm0).mn.n), .int .u64 (l3 (sm0).mn.n), .int .i64 (sm0).mn.s, .bool (sm0).mx.b, .int .u64 (l0 (sm0).mx.n), .int .u64 (l1 (sm0).mx.n), .int .u64 (l2 (sm0).mx.n), .int .u64 (l3 (sm0).mx.n), .int .i64 (sm0).mx.s] _ [.int .i64 (sm0).r, .int .i64 (sm0).f, .int .i64 (sm0).k, .int .i64 (sm0).d, .int .i64 (sm0).e, .int .u64 (l0 (sm0).tt), .int .u64 (l1 (sm0).tt), .int .u64 (l2 (sm0).tt), .int .u64 (l3 (sm0).tt), .int .u64 (l4 (sm0).tt), .bool (sm0).so, .bool (sm0).mn.b, .int .u64 (l0 (sm0).mn.n), .int .u64 (l1 (sm0).mn.n), .int .u64 (l2 (sm0).mn.n), .int .u64 (l3 (sm0).mn.n), .int .i64 (sm0).mn.s, .bool (sm0).mx.b, .int .u64 (l0 (sm0).mx.n), .int .u64 (l1 (sm0).mx.n), .int .u64 (l2 (sm0).mx.n), .int .u64 (l3 (sm0).mx.n), .int .i64 (sm0).mx.s] Q1 rfl rfl rfl rfl rfl zs42 rfl rfl rfl ?_
 intro w3 hS Qn
 replace Q1 := Qn
 clear Qn
 replace M := hS.mo _ N_k1 M
 clear hS
 refine w_nil (xn_then (w_ret (xr_then ?_)))
 exact w_ret1 _ (.agg #[.int .i64 (sm0).r, .int .i64 (sm0).f, .int .i64 (sm0).k, .int .i64 (sm0).d, .int .i64 (sm0).e, .int .u64 (l0 (sm0).tt), .int .u64 (l1 (sm0).tt), .int .u64 (l2 (sm0).tt), .int .u64 (l3 (sm0).tt), .int .u64 (l4 (sm0).tt), .bool (sm0).so, .bool (sm0).mn.b, .int .u64 (l0 (sm0).mn.n), .int .u64 (l1 (sm0).mn.n), .int .u64 (l2 (sm0).mn.n), .int .u64 (l3 (sm0).mn.n), .int .i64 (sm0).mn.s, .bool (sm0).mx.b, .int .u64 (l0 (sm0).mx.n), .int .u64 (l1 (sm0).mx.n), .int .u64 (l2 (sm0).mx.n), .int .u64 (l3 (sm0).mx.n), .int .i64 (sm0).mx.s]) rfl ⟨k1, rfl, (run_row Q1 42 0 23 _ rfl Try.underlying42 rfl zs42)⟩ ⟨rfl, M⟩
theorem sum_k (hX : HS D w t mb R root lk) {k c : Nat} {r : Rc} {S : Sm} (hk : R k = some r) (hc : r.c[c]? = some S) : Calls Try.prog 35 #[pt k 0, .int .i64 (c : Int)] w fun e w' => e = .returned (smv S) ∧ Mo w w' := by
 obtain ⟨b, off, cap, hh, hb, hf, hr, hob⟩ := (hX.ss k r hk).1.ix (i := c) (cs := sml S) (by rw [List.getElem?_map, hc]; rfl)
 rw [List.length_map] at hh
 have hcl : c < r.c.length := (List.getElem?_eq_some_iff.1 hc).1
 refine w_enter 15 Try.func35 Try.ntmps35 rfl rfl ?_
 have M : Mo w w := Mo.refl _
 refine w_seq (w_reg ?_)
 refine wl_alloc 42 #[.int .i64 0, .int .i64 0, .int .i64 0, .int .i64 0, .int .i64 0, .int .u64 0, .int .u64 0, .int .u64 0, .int .u64 0, .int .u64 0, .bool false, .bool false, .int .u64 0, .int .u64 0, .int .u64 0, .int .u64 0, .int .i64 0, .bool false, .int .u64 0, .int .u64 0, .int .u64 0, .int .u64 0, .int .i64 0] rfl (fun _ => by kernel_rfl) rfl ?_
 intro k1 w1 hk hz hq Q1
 have N_k1 : w.heap.size ≤ k1 := by have := M.size; omega
 replace M := M.trans hq
 clear hk hz hq
 refine w_nil (xn_then (w_seq (w_seq (w_reg ?_))))
 refine wl_m (.tmp 0) (pt k 0) ?_
 refine wl_b .eql 65 (.tmp 5) (.const (.pointer none)) (pt k 0) (pp none) (.bool false) (eqP (some k) _ _ _) ?_
 refine w_nil (xn_then (w_condF rfl (w_skip (xn_then (w_seq (w_reg ?_))))))
 refine wl_m (.tmp 0) (pt k 0) ?_
 refine wl_nc (.tmp 8) k 0 rfl rfl rfl ?_
 refine wl_f 93 4 (.tmp 9) (pt k 0) (pt k 6) ?_
 refine wl_l 47 (.tmp 10) (pt k 6) (r.h) (run_one ((hX.mo M).rc k _ hk) 47 6 rfl Try.underlying47 rfl) ?_
 refine wl_m (.tmp 1) (.int .i64 ((c : Nat) : Int)) ?_
 refine wl_bin (fun x y => Instr.indexAt 47 x y) (.tmp 11) (.tmp 12) (r.h) (.int .i64 ((c : Nat) : Int)) (pt b (off + c * 23)) (fun _ => rfl) rfl rfl (by rw [hh]; exact ix47 b off c _ _ hcl _) rfl ?_
 refine wl_l 42 (.tmp 13) (pt b (off + c * 23)) (.agg #[.int .i64 (S).r, .int .i64 (S).f, .int .i64 (S).k, .int .i64 (S).d, .int .i64 (S).e, .int .u64 (l0 (S).tt), .int .u64 (l1 (S).tt), .int .u64 (l2 (S).tt), .int .u64 (l3 (S).tt), .int .u64 (l4 (S).tt), .bool (S).so, .bool (S).mn.b, .int .u64 (l0 (S).mn.n), .int .u64 (l1 (S).mn.n), .int .u64 (l2 (S).mn.n), .int .u64 (l3 (S).mn.n), .int .i64 (S).mn.s, .bool (S).mx.b, .int .u64 (l0 (S).mx.n), .int .u64 (l1 (S).mx.n), .int .u64 (l2 (S).mx.n), .int .u64 (l3 (S).mx.n), .int .i64 (S).mx.s]) (ld42 (fun j v hv => (M.cell b _ hb).trans (hr j v hv))) ?_
 refine wl_st 42 (.tmp 4) (.tmp 14) k1 0 #[.int .i64 (S).r, .int .i64 (S).f, .int .i64 (S).k, .int .i64 (S).d, .int .i64 (S).e, .int .u64 (l0 (S).tt), .int .u64 (l1 (S).tt), .int .u64 (l2 (S).tt), .int .u64 (l3 (S).tt), .int .u64 (l4 (S).tt), .bool (S).so, .bool (S).mn.b, .int .u64 (l0 (S).mn.n), .int .u64 (l1 (S).mn.n), .int .u64 (l2 (S).mn.n), .int .u64 (l3 (S).mn.n), .int .i64 (S).mn.s, .bool (S).mx.b, .int .u64 (l0 (S).mx.n), .int .u64 (l1 (S).mx.n), .int .u64 (l2 (S).mx.n), .int .u64 (l3 (S).mx.n), .int .i64 (S).mx.s] _ [.int .i64 (S).r, .int .i64 (S).f, .int .i64 (S).k, .int .i64 (S).d, .int .i64 (S).e, .int .u64 (l0 (S).tt), .int .u64 (l1 (S).tt), .int .u64 (l2 (S).tt), .int .u64 (l3 (S).tt), .int .u64 (l4 (S).tt), .bool (S).so, .bool (S).mn.b, .int .u64 (l0 (S).mn.n), .int .u64 (l1 (S).mn.n), .int .u64 (l2 (S).mn.n), .int .u64 (l3 (S).mn.n), .int .i64 (S).mn.s, .bool (S).mx.b, .int .u64 (l0 (S).mx.n), .int .u64 (l1 (S).mx.n), .int .u64 (l2 (S).mx.n), .int .u64 (l3 (S).mx.n), .int .i64 (S).mx.s] Q1 rfl rfl rfl rfl rfl zs42 rfl rfl rfl ?_
 intro w2 hS Qn
 replace Q1 := Qn
 clear Qn
 replace M := hS.mo _ N_k1 M
 clear hS
 refine w_nil (xn_then (w_ret ?_))
 exact w_ret1 _ (.agg #[.int .i64 (S).r, .int .i64 (S).f, .int .i64 (S).k, .int .i64 (S).d, .int .i64 (S).e, .int .u64 (l0 (S).tt), .int .u64 (l1 (S).tt), .int .u64 (l2 (S).tt), .int .u64 (l3 (S).tt), .int .u64 (l4 (S).tt), .bool (S).so, .bool (S).mn.b, .int .u64 (l0 (S).mn.n), .int .u64 (l1 (S).mn.n), .int .u64 (l2 (S).mn.n), .int .u64 (l3 (S).mn.n), .int .i64 (S).mn.s, .bool (S).mx.b, .int .u64 (l0 (S).mx.n), .int .u64 (l1 (S).mx.n), .int .u64 (l2 (S).mx.n), .int .u64 (l3 (S).mx.n), .int .i64 (S).mx.s]) rfl ⟨k1, rfl, (run_row Q1 42 0 23 _ rfl Try.underlying42 rfl zs42)⟩ ⟨rfl, M⟩
theorem sum_o (hX : HS D w t mb R root lk) {x : Option Nat} {c : Nat} {S : Sm} (hx : smo R x c S) : Calls Try.prog 35 #[pp x, .int .i64 (c : Int)] w fun e w' => e = .returned (smv S) ∧ Mo w w' := by
 cases x with
 | none => cases hx; exact sum_0 w c
 | some k => obtain ⟨r, hr, hc⟩ := hx; exact sum_k hX hr hc
theorem smo_ok (hX : HS D w t mb R root lk) {x : Option Nat} {c : Nat} {S : Sm} (hx : smo R x c S) : S.ok := by
 cases x with
 | none => cases hx; exact sm0_ok
 | some k => obtain ⟨r, hr, hc⟩ := hx; exact (hX.ss k r hr).2.2 S (List.mem_of_getElem? hc)
theorem own_n (hX : HS D w t mb R root lk) {k c : Nat} {r : Rc} {x : V10} {s : Int} (hk : R k = some r) (hc : r.i.vs[c]? = some x) (hs : mb.sc[c]? = some s) : Calls Try.prog 50 #[pt t 0, pt k 0, .int .i64 (c : Int)] w fun e w' => e = .returned (smv (ofs x s)) ∧ Mo w w' := by
 obtain ⟨b, off, cap, hh, hb, hf, hr, hob⟩ := (hX.sv k r hk).1.ix (i := c) (cs := x.cells) (by rw [List.getElem?_map, hc]; rfl)
 rw [List.length_map] at hh
 have hcl : c < r.i.vs.length := (List.getElem?_eq_some_iff.1 hc).1
 have hxo := (hX.sv k r hk).2.2 x (List.mem_of_getElem? hc)
 obtain ⟨g, ofg, cag, gh, gb, gf, gr, gob⟩ := hX.sc.ix (i := c) (cs := [.int .i64 s]) (by rw [List.getElem?_map, hs]; rfl)
 rw [List.length_map] at gh
 have hcg : c < mb.sc.length := (List.getElem?_eq_some_iff.1 hs).1
 refine w_enter 23 Try.func50 Try.ntmps50 rfl rfl ?_
 have M : Mo w w := Mo.refl _
 refine w_seq (w_reg ?_)
 refine wl_alloc 42 #[.int .i64 0, .int .i64 0, .int .i64 0, .int .i64 0, .int .i64 0, .int .u64 0, .int .u64 0, .int .u64 0, .int .u64 0, .int .u64 0, .bool false, .bool false, .int .u64 0, .int .u64 0, .int .u64 0, .int .u64 0, .int .i64 0, .bool false, .int .u64 0, .int .u64 0, .int .u64 0, .int .u64 0, .int .i64 0] rfl (fun _ => by kernel_rfl) rfl ?_
 intro k1 w1 hk hz hq Q1
 have N_k1 : w.heap.size ≤ k1 := by have := M.size; omega
 replace M := M.trans hq
 clear hk hz hq
 refine w_nil (xn_then (w_seq ?_))
 refine w_any 16 [.inl (pt k 0), .inl (pt k 0), .inl (pt k 0), .inl (pt k 1), .inl (r.i.v), .inl (.int .i64 ((c : Nat) : Int)), .inl (pt b (off + c * 10)), .inl (x.v), .inl (pt t 0), .inl (pt t 0), .inl (pt t 0), .inl (mb.h), .inl (.int .i64 ((c : Nat) : Int)), .inl (pt g (ofg + c * 1)), .inl (.int .i64 (s)), .inl (.agg #[.int .i64 (ofs x s).r, .int .i64 (ofs x s).f, .int .i64 (ofs x s).k, .int .i64 (ofs x s).d, .int .i64 (ofs x s).e, .int .u64 (l0 (ofs x s).tt), .int .u64 (l1 (ofs x s).tt), .int .u64 (l2 (ofs x s).tt), .int .u64 (l3 (ofs x s).tt), .int .u64 (l4 (ofs x s).tt), .bool (ofs x s).so, .bool (ofs x s).mn.b, .int .u64 (l0 (ofs x s).mn.n), .int .u64 (l1 (ofs x s).mn.n), .int .u64 (l2 (ofs x s).mn.n), .int .u64 (l3 (ofs x s).mn.n), .int .i64 (ofs x s).mn.s, .bool (ofs x s).mx.b, .int .u64 (l0 (ofs x s).mx.n), .int .u64 (l1 (ofs x s).mx.n), .int .u64 (l2 (ofs x s).mx.n), .int .u64 (l3 (ofs x s).mx.n), .int .i64 (ofs x s).mx.s])] [] (by kernel_rfl) (by kernel_rfl) (by kernel_rfl) (by kernel_rfl) rfl (by kernel_rfl) (by kernel_rfl) late_nil ?_ ?_ ?_
 ·exact Ds.none rfl
 ·refine ea_cons ?_ (ea_cons ?_ (ea_cons ?_ (ea_cons ?_ (ea_cons ?_ (ea_cons ?_ (ea_cons ?_ (ea_cons ?_ (ea_cons ?_ (ea_cons ?_ (ea_cons ?_ (ea_cons ?_ (ea_cons ?_ (ea_cons ?_ (ea_cons ?_ (ea_cons ?_ (ea_nil))))))))))))))))
  ·exact og_eq _ rfl (fun f wf hq hd K hK => go_run rfl (wo_mv (.tmp 1) (pt k 0) (fun _ => rfl) rfl (hK _ (Mo.refl _))))
  ·exact og_eq _ rfl (fun f wf hq hd K hK => go_run rfl (wo_nc (.tmp 7) k 0 rfl (hd 0 rfl) (hK _ (Mo.refl _))))
  ·exact og_eq _ rfl (fun f wf hq hd K hK => go_run rfl (wo_un (fun v => Instr.fieldAt 93 v 0) (.tmp 8) (pt k 0) (pt k 0) (fun _ => rfl) (hd 1 rfl) (by kernel_rfl) (hK _ (Mo.refl _))))
  ·exact og_eq _ rfl (fun f wf hq hd K hK => go_run rfl (wo_un (fun v => Instr.fieldAt 83 v 1) (.tmp 9) (pt k 0) (pt k 1) (fun _ => rfl) (hd 2 rfl) (by kernel_rfl) (hK _ (Mo.refl _))))
  ·exact og_eq _ rfl (fun f wf hq hd K hK => have M := M.trans hq; go_run rfl (wo_load 29 (.tmp 10) (pt k 1) (r.i.v) rfl (hd 3 rfl) (run_one ((hX.mo M).rc k _ hk) 29 1 rfl Try.underlying29 rfl) (hK _ (Mo.refl _))))
  ·exact og_eq _ rfl (fun f wf hq hd K hK => go_run rfl (wo_mv (.tmp 2) (.int .i64 ((c : Nat) : Int)) (fun _ => rfl) rfl (hK _ (Mo.refl _))))
  ·exact og_eq _ rfl (fun f wf hq hd K hK => go_run rfl (wo_bin (fun x y => Instr.indexAt 29 x y) (.tmp 11) (.tmp 12) (r.i.v) (.int .i64 ((c : Nat) : Int)) (pt b (off + c * 10)) (fun _ => rfl) (hd 4 rfl) (hd 5 rfl) (by rw [hh]; exact ix29 b off c _ _ hcl _) (hK _ (Mo.refl _))))
  ·exact og_eq _ rfl (fun f wf hq hd K hK => have M := M.trans hq; go_run rfl (wo_load 55 (.tmp 13) (pt b (off + c * 10)) (x.v) rfl (hd 6 rfl) (ld55 (fun j v hv => (M.cell b _ hb).trans (hr j v hv))) (hK _ (Mo.refl _))))
  ·exact og_eq _ rfl (fun f wf hq hd K hK => go_run rfl (wo_mv (.tmp 0) (pt t 0) (fun _ => rfl) rfl (hK _ (Mo.refl _))))
  ·exact og_eq _ rfl (fun f wf hq hd K hK => go_run rfl (wo_nc (.tmp 15) t 0 rfl (hd 8 rfl) (hK _ (Mo.refl _))))
  ·exact og_eq _ rfl (fun f wf hq hd K hK => go_run rfl (wo_un (fun v => Instr.fieldAt 68 v 0) (.tmp 16) (pt t 0) (pt t 0) (fun _ => rfl) (hd 9 rfl) (by kernel_rfl) (hK _ (Mo.refl _))))
  ·exact og_eq _ rfl (fun f wf hq hd K hK => have M := M.trans hq; go_run rfl (wo_load 22 (.tmp 17) (pt t 0) (mb.h) rfl (hd 10 rfl) (run_one (hX.mo M).tr 22 0 rfl Try.underlying22 rfl) (hK _ (Mo.refl _))))
  ·exact og_eq _ rfl (fun f wf hq hd K hK => go_run rfl (wo_mv (.tmp 2) (.int .i64 ((c : Nat) : Int)) (fun _ => rfl) rfl (hK _ (Mo.refl _))))
  ·exact og_eq _ rfl (fun f wf hq hd K hK => go_run rfl (wo_bin (fun x y => Instr.indexAt 22 x y) (.tmp 18) (.tmp 19) (mb.h) (.int .i64 ((c : Nat) : Int)) (pt g (ofg + c * 1)) (fun _ => rfl) (hd 11 rfl) (hd 12 rfl) (by rw [gh]; exact ix22 g ofg c _ _ hcg _) (hK _ (Mo.refl _))))
  ·exact og_eq _ rfl (fun f wf hq hd K hK => have M := M.trans hq; go_run rfl (wo_load 3 (.tmp 20) (pt g (ofg + c * 1)) (.int .i64 (s)) rfl (hd 13 rfl) (ld3 (fun j v hv => (M.cell g _ gb).trans (gr j v hv))) (hK _ (Mo.refl _))))
  ·exact og_eq _ rfl (fun f wf hq hd K hK => go_run rfl (wo_call 65 [(.tmp 14), (.tmp 21)] _ [x.v, .int .i64 (s)] (.agg #[.int .i64 (ofs x s).r, .int .i64 (ofs x s).f, .int .i64 (ofs x s).k, .int .i64 (ofs x s).d, .int .i64 (ofs x s).e, .int .u64 (l0 (ofs x s).tt), .int .u64 (l1 (ofs x s).tt), .int .u64 (l2 (ofs x s).tt), .int .u64 (l3 (ofs x s).tt), .int .u64 (l4 (ofs x s).tt), .bool (ofs x s).so, .bool (ofs x s).mn.b, .int .u64 (l0 (ofs x s).mn.n), .int .u64 (l1 (ofs x s).mn.n), .int .u64 (l2 (ofs x s).mn.n), .int .u64 (l3 (ofs x s).mn.n), .int .i64 (ofs x s).mn.s, .bool (ofs x s).mx.b, .int .u64 (l0 (ofs x s).mx.n), .int .u64 (l1 (ofs x s).mx.n), .int .u64 (l2 (ofs x s).mx.n), .int .u64 (l3 (ofs x s).mx.n), .int .i64 (ofs x s).mx.s]) rfl (li2 (hd 7 rfl) (hd 14 rfl)) (fun _ _ => by kernel_rfl) ((ofs_n x hxo s).2.2 _) hK))
 intro kf2 w2 hq _ _
 replace Q1 := Q1.mo hq
 replace M := M.trans hq
 clear hq
 refine wl_st 42 (.tmp 6) (.tmp 22) k1 0 #[.int .i64 (ofs x s).r, .int .i64 (ofs x s).f, .int .i64 (ofs x s).k, .int .i64 (ofs x s).d, .int .i64 (ofs x s).e, .int .u64 (l0 (ofs x s).tt), .int .u64 (l1 (ofs x s).tt), .int .u64 (l2 (ofs x s).tt), .int .u64 (l3 (ofs x s).tt), .int .u64 (l4 (ofs x s).tt), .bool (ofs x s).so, .bool (ofs x s).mn.b, .int .u64 (l0 (ofs x s).mn.n), .int .u64 (l1 (ofs x s).mn.n), .int .u64 (l2 (ofs x s).mn.n), .int .u64 (l3 (ofs x s).mn.n), .int .i64 (ofs x s).mn.s, .bool (ofs x s).mx.b, .int .u64 (l0 (ofs x s).mx.n), .int .u64 (l1 (ofs x s).mx.n), .int .u64 (l2 (ofs x s).mx.n), .int .u64 (l3 (ofs x s).mx.n), .int .i64 (ofs x s).mx.s] _ [.int .i64 (ofs x s).r, .int .i64 (ofs x s).f, .int .i64 (ofs x s).k, .int .i64 (ofs x s).d, .int .i64 (ofs x s).e, .int .u64 (l0 (ofs x s).tt), .int .u64 (l1 (ofs x s).tt), .int .u64 (l2 (ofs x s).tt), .int .u64 (l3 (ofs x s).tt), .int .u64 (l4 (ofs x s).tt), .bool (ofs x s).so, .bool (ofs x s).mn.b, .int .u64 (l0 (ofs x s).mn.n), .int .u64 (l1 (ofs x s).mn.n), .int .u64 (l2 (ofs x s).mn.n), .int .u64 (l3 (ofs x s).mn.n), .int .i64 (ofs x s).mn.s, .bool (ofs x s).mx.b, .int .u64 (l0 (ofs x s).mx.n), .int .u64 (l1 (ofs x s).mx.n), .int .u64 (l2 (ofs x s).mx.n), .int .u64 (l3 (ofs x s).mx.n), .int .i64 (ofs x s).mx.s] Q1 rfl rfl rfl rfl rfl zs42 rfl rfl rfl ?_
 intro w3 hS Qn
 replace Q1 := Qn
 clear Qn
 replace M := hS.mo _ N_k1 M
 clear hS
 refine w_nil (xn_then (w_ret ?_))
 exact w_ret1 _ (.agg #[.int .i64 (ofs x s).r, .int .i64 (ofs x s).f, .int .i64 (ofs x s).k, .int .i64 (ofs x s).d, .int .i64 (ofs x s).e, .int .u64 (l0 (ofs x s).tt), .int .u64 (l1 (ofs x s).tt), .int .u64 (l2 (ofs x s).tt), .int .u64 (l3 (ofs x s).tt), .int .u64 (l4 (ofs x s).tt), .bool (ofs x s).so, .bool (ofs x s).mn.b, .int .u64 (l0 (ofs x s).mn.n), .int .u64 (l1 (ofs x s).mn.n), .int .u64 (l2 (ofs x s).mn.n), .int .u64 (l3 (ofs x s).mn.n), .int .i64 (ofs x s).mn.s, .bool (ofs x s).mx.b, .int .u64 (l0 (ofs x s).mx.n), .int .u64 (l1 (ofs x s).mx.n), .int .u64 (l2 (ofs x s).mx.n), .int .u64 (l3 (ofs x s).mx.n), .int .i64 (ofs x s).mx.s]) rfl ⟨k1, rfl, (run_row Q1 42 0 23 _ rfl Try.underlying42 rfl zs42)⟩ ⟨rfl, M⟩
theorem mendc_n (hX : HS D w t mb R root lk) (hA : Ap R) {k c : Nat} {r : Rc} {x : V10} {s : Int} {Sl Sr : Sm} (hk : R k = some r) (hcv : r.i.vs[c]? = some x) (hs : mb.sc[c]? = some s) (hl : smo R r.l c Sl) (hrr : smo R r.r c Sr) : Calls Try.prog 55 #[pt t 0, pt k 0, .int .i64 (c : Int)] w fun e w' => e = .returned (.tuple #[]) ∧ HS D w' t mb (ud R k ⟨r.u, r.l, r.r, r.s, r.i, r.h, r.c.set c ([Sl, ofs x s, Sr].foldl jn sm0)⟩) root lk ∧ Mk D w w' := by
 have okl := smo_ok hX hl
 have okr := smo_ok hX hrr
 have oko := (ofs_n x ((hX.sv k r hk).2.2 x (List.mem_of_getElem? hcv)) s).1
 have hcl : c < r.c.length := by rw [(hX.ss k r hk).2.1]; exact (List.getElem?_eq_some_iff.1 hs).1
 obtain ⟨b, off, cap, hh, hb, hf, hr, hob⟩ := (hX.ss k r hk).1.ix (i := c) (cs := sml r.c[c]) (by rw [List.getElem?_map, List.getElem?_eq_getElem hcl]; rfl)
 rw [List.length_map] at hh
 refine w_enter 32 Try.func55 Try.ntmps55 rfl rfl ?_
 have M : Mo w w := Mo.refl _
 have hsm : Smos [vq (pt k 0), vq (pt k 0), vq (pt k 6), vq (r.h), vq (.int .i64 ((c : Nat) : Int)), vq (pt k 0), vq (pt k 0), vq (pt k 3), vq (pt k 3), vq (pp r.l), vq (.int .i64 ((c : Nat) : Int)), vq (smv (Sl)), vq (pt t 0), vq (pt k 0), vq (.int .i64 ((c : Nat) : Int)), vq (smv (ofs x s)), vq (pt k 0), vq (pt k 0), vq (pt k 3), vq (pt k 4), vq (pp r.r), vq (.int .i64 ((c : Nat) : Int)), vq (smv (Sr)), fun u w9 => ∃ b9, u = .slice (some ⟨b9, 0, none⟩) 3 3 ∧ SS w9 (some ⟨b9, 0, none⟩) [Sl, ofs x s, Sr], vq (smv ([Sl, ofs x s, Sr].foldl jn sm0)), vq (pt b (off + c * 23))] := smos_cons (smo_vq _) (smos_cons (smo_vq _) (smos_cons (smo_vq _) (smos_cons (smo_vq _) (smos_cons (smo_vq _) (smos_cons (smo_vq _) (smos_cons (smo_vq _) (smos_cons (smo_vq _) (smos_cons (smo_vq _) (smos_cons (smo_vq _) (smos_cons (smo_vq _) (smos_cons (smo_vq _) (smos_cons (smo_vq _) (smos_cons (smo_vq _) (smos_cons (smo_vq _) (smos_cons (smo_vq _) (smos_cons (smo_vq _) (smos_cons (smo_vq _) (smos_cons (smo_vq _) (smos_cons (smo_vq _) (smos_cons (smo_vq _) (smos_cons (smo_vq _) (smos_cons (smo_vq _) (smos_cons (fun u a b ⟨k9, h1, h2⟩ m => ⟨k9, h1, h2.mo m⟩) (smos_cons (smo_vq _) (smos_cons (smo_vq _) (smos_nil))))))))))))))))))))))))))
 have hgr : ∀ a b : World, Mo w a → Mo a b → Mo w b := fun _ _ h m => h.trans m
 refine w_ogc 26 (fun w9 => Mo w w9) [vq (pt k 0), vq (pt k 0), vq (pt k 6), vq (r.h), vq (.int .i64 ((c : Nat) : Int)), vq (pt k 0), vq (pt k 0), vq (pt k 3), vq (pt k 3), vq (pp r.l), vq (.int .i64 ((c : Nat) : Int)), vq (smv (Sl)), vq (pt t 0), vq (pt k 0), vq (.int .i64 ((c : Nat) : Int)), vq (smv (ofs x s)), vq (pt k 0), vq (pt k 0), vq (pt k 3), vq (pt k 4), vq (pp r.r), vq (.int .i64 ((c : Nat) : Int)), vq (smv (Sr)), fun u w9 => ∃ b9, u = .slice (some ⟨b9, 0, none⟩) 3 3 ∧ SS w9 (some ⟨b9, 0, none⟩) [Sl, ofs x s, Sr], vq (smv ([Sl, ofs x s, Sr].foldl jn sm0)), vq (pt b (off + c * 23))] [] (by kernel_rfl) (by kernel_rfl) (by kernel_rfl) (by kernel_rfl) rfl (by kernel_rfl) (by kernel_rfl) latec_nil ((Mo.refl _).drew) ?_ ?_
 ·refine ea_cons ?_ (ea_cons ?_ (ea_cons ?_ (ea_cons ?_ (ea_cons ?_ (ea_cons ?_ (ea_cons ?_ (ea_cons ?_ (ea_cons ?_ (ea_cons ?_ (ea_cons ?_ (ea_cons ?_ (ea_cons ?_ (ea_cons ?_ (ea_cons ?_ (ea_cons ?_ (ea_cons ?_ (ea_cons ?_ (ea_cons ?_ (ea_cons ?_ (ea_cons ?_ (ea_cons ?_ (ea_cons ?_ (ea_cons ?_ (ea_cons ?_ (ea_cons ?_ (ea_nil))))))))))))))))))))))))))
  ·exact oc_eq _ rfl hgr hsm (fun f wf hG9 hd K hK => go_run rfl (wo_mv (.tmp 1) (pt k 0) (fun _ => rfl) rfl (hK _ (Mo.refl _))))
  ·exact oc_eq _ rfl hgr hsm (fun f wf hG9 hd K hK => go_run rfl (wo_nc (.tmp 6) k 0 rfl (hd 0 rfl) (hK _ (Mo.refl _))))
  ·exact oc_eq _ rfl hgr hsm (fun f wf hG9 hd K hK => go_run rfl (wo_un (fun v => Instr.fieldAt 93 v 4) (.tmp 7) (pt k 0) (pt k 6) (fun _ => rfl) (hd 1 rfl) (by kernel_rfl) (hK _ (Mo.refl _))))
  ·exact oc_eq _ rfl hgr hsm (fun f wf hG9 hd K hK => have M := hG9; go_run rfl (wo_load 47 (.tmp 8) (pt k 6) (r.h) rfl (hd 2 rfl) (run_one ((hX.mo M).rc k _ hk) 47 6 rfl Try.underlying47 rfl) (hK _ (Mo.refl _))))
  ·exact oc_eq _ rfl hgr hsm (fun f wf hG9 hd K hK => go_run rfl (wo_mv (.tmp 2) (.int .i64 ((c : Nat) : Int)) (fun _ => rfl) rfl (hK _ (Mo.refl _))))
  ·exact oc_eq _ rfl hgr hsm (fun f wf hG9 hd K hK => go_run rfl (wo_mv (.tmp 1) (pt k 0) (fun _ => rfl) rfl (hK _ (Mo.refl _))))
  ·exact oc_eq _ rfl hgr hsm (fun f wf hG9 hd K hK => go_run rfl (wo_nc (.tmp 11) k 0 rfl (hd 5 rfl) (hK _ (Mo.refl _))))
  ·exact oc_eq _ rfl hgr hsm (fun f wf hG9 hd K hK => go_run rfl (wo_un (fun v => Instr.fieldAt 93 v 2) (.tmp 12) (pt k 0) (pt k 3) (fun _ => rfl) (hd 6 rfl) (by kernel_rfl) (hK _ (Mo.refl _))))
  ·exact oc_eq _ rfl hgr hsm (fun f wf hG9 hd K hK => go_run rfl (wo_bin (fun x y => Instr.indexAt 91 x y) (.tmp 13) (.const (.int .i64 (0))) (pt k 3) (.int .i64 (0)) (pt k 3) (fun _ => rfl) (hd 7 rfl) rfl (by kernel_rfl) (hK _ (Mo.refl _))))
  ·exact oc_eq _ rfl hgr hsm (fun f wf hG9 hd K hK => have M := hG9; go_run rfl (wo_load 65 (.tmp 14) (pt k 3) (pp r.l) rfl (hd 8 rfl) (run_one ((hX.mo M).rc k _ hk) 65 3 rfl Try.underlying65 rfl) (hK _ (Mo.refl _))))
  ·exact oc_eq _ rfl hgr hsm (fun f wf hG9 hd K hK => go_run rfl (wo_mv (.tmp 2) (.int .i64 ((c : Nat) : Int)) (fun _ => rfl) rfl (hK _ (Mo.refl _))))
  ·exact oc_eq _ rfl hgr hsm (fun f wf hG9 hd K hK => go_run rfl (wo_call 35 [(.tmp 15), (.tmp 16)] _ [pp r.l, .int .i64 ((c : Nat) : Int)] (smv (Sl)) rfl (li2 (hd 9 rfl) (hd 10 rfl)) (fun _ _ => by kernel_rfl) (sum_o (hX.mo hG9) hl) hK))
  ·exact oc_eq _ rfl hgr hsm (fun f wf hG9 hd K hK => go_run rfl (wo_mv (.tmp 0) (pt t 0) (fun _ => rfl) rfl (hK _ (Mo.refl _))))
  ·exact oc_eq _ rfl hgr hsm (fun f wf hG9 hd K hK => go_run rfl (wo_mv (.tmp 1) (pt k 0) (fun _ => rfl) rfl (hK _ (Mo.refl _))))
  ·exact oc_eq _ rfl hgr hsm (fun f wf hG9 hd K hK => go_run rfl (wo_mv (.tmp 2) (.int .i64 ((c : Nat) : Int)) (fun _ => rfl) rfl (hK _ (Mo.refl _))))
  ·exact oc_eq _ rfl hgr hsm (fun f wf hG9 hd K hK => go_run rfl (wo_call 50 [(.tmp 18), (.tmp 19), (.tmp 20)] _ [pt t 0, pt k 0, .int .i64 ((c : Nat) : Int)] (smv (ofs x s)) rfl (li3 (hd 12 rfl) (hd 13 rfl) (hd 14 rfl)) (fun _ _ => by kernel_rfl) (own_n (hX.mo hG9) hk hcv hs) hK))
  ·exact oc_eq _ rfl hgr hsm (fun f wf hG9 hd K hK => go_run rfl (wo_mv (.tmp 1) (pt k 0) (fun _ => rfl) rfl (hK _ (Mo.refl _))))
  ·exact oc_eq _ rfl hgr hsm (fun f wf hG9 hd K hK => go_run rfl (wo_nc (.tmp 22) k 0 rfl (hd 16 rfl) (hK _ (Mo.refl _))))
  ·exact oc_eq _ rfl hgr hsm (fun f wf hG9 hd K hK => go_run rfl (wo_un (fun v => Instr.fieldAt 93 v 2) (.tmp 23) (pt k 0) (pt k 3) (fun _ => rfl) (hd 17 rfl) (by kernel_rfl) (hK _ (Mo.refl _))))
  ·exact oc_eq _ rfl hgr hsm (fun f wf hG9 hd K hK => go_run rfl (wo_bin (fun x y => Instr.indexAt 91 x y) (.tmp 24) (.const (.int .i64 (1))) (pt k 3) (.int .i64 (1)) (pt k 4) (fun _ => rfl) (hd 18 rfl) rfl (by kernel_rfl) (hK _ (Mo.refl _))))
  ·exact oc_eq _ rfl hgr hsm (fun f wf hG9 hd K hK => have M := hG9; go_run rfl (wo_load 65 (.tmp 25) (pt k 4) (pp r.r) rfl (hd 19 rfl) (run_one ((hX.mo M).rc k _ hk) 65 4 rfl Try.underlying65 rfl) (hK _ (Mo.refl _))))
  ·exact oc_eq _ rfl hgr hsm (fun f wf hG9 hd K hK => go_run rfl (wo_mv (.tmp 2) (.int .i64 ((c : Nat) : Int)) (fun _ => rfl) rfl (hK _ (Mo.refl _))))
  ·exact oc_eq _ rfl hgr hsm (fun f wf hG9 hd K hK => go_run rfl (wo_call 35 [(.tmp 26), (.tmp 27)] _ [pp r.r, .int .i64 ((c : Nat) : Int)] (smv (Sr)) rfl (li2 (hd 20 rfl) (hd 21 rfl)) (fun _ _ => by kernel_rfl) (sum_o (hX.mo hG9) hrr) hK))
  ·refine ⟨fun f wf hG9 hd K hK => ?_⟩
   exact go_run rfl (wo_bs47 (.tmp 17) (.tmp 21) (.tmp 28) Sl (ofs x s) Sr rfl (hd 11 rfl) (hd 15 rfl) (hd 22 rfl) (fun k9 w9 _ q1 q2 => hK _ w9 (hG9.trans q1) ⟨k9, rfl, q2⟩ (fun j u _ hr9 => hsm j u _ _ hr9 q1)))
  ·refine oc_eq _ rfl hgr hsm (fun f wf hG9 hd K hK => ?_)
   obtain ⟨b9, e9, h9⟩ := hd 23 rfl
   exact go_run rfl (wo_call 49 [(.tmp 29)] _ [.slice (some ⟨b9, 0, none⟩) 3 3] (smv ([Sl, ofs x s, Sr].foldl jn sm0)) rfl (li1 e9) (fun _ _ => by kernel_rfl) (join_n [Sl, ofs x s, Sr] _ 3 (fun T hT => by simp only [List.mem_cons, List.mem_nil_iff, or_false] at hT; rcases hT with rfl | rfl | rfl; exact okl; exact oko; exact okr) h9 (show 3 ≤ 900000000000000000 by decide)) hK)
  ·exact oc_eq _ rfl hgr hsm (fun f wf hG9 hd K hK => go_run rfl (wo_bin (fun x y => Instr.indexAt 47 x y) (.tmp 9) (.tmp 10) (r.h) (.int .i64 ((c : Nat) : Int)) (pt b (off + c * 23)) (fun _ => rfl) (hd 3 rfl) (hd 4 rfl) (by rw [hh]; exact ix47 b off c _ _ hcl _) (hK _ (Mo.refl _))))
 intro f w1 hq hR
 have ea := hR 25 rfl
 have ev := hR 24 rfl
 replace hX := hX.mo hq
 have hth := (hX.ss k r hk).1.there (i := c) (by rw [List.length_map]; exact hh) (by rw [List.length_map]; exact hcl) (fun y hy => by obtain ⟨z, _, rfl⟩ := List.mem_map.1 hy; rfl)
 refine wl_stm 42 (.tmp 31) (.tmp 30) b (off + c * 23) (sml ([Sl, ofs x s, Sr].foldl jn sm0)).toArray hth rfl rfl ea ev zs42 (sml_one _) rfl ?_
 refine w_nil ?_
 exact w_end0 rfl ⟨rfl, hX.sum hA hk hcl _ (fold_ok _ sm0_ok (fun T hT => by simp only [List.mem_cons, List.mem_nil_iff, or_false] at hT; rcases hT with rfl | rfl | rfl; exact okl; exact oko; exact okr)) hh, (Mk.of D hq).st (St2.mk2 w1 b (off + c * 23) _) (hX.ds hk (Or.inr hob)).1⟩
end
end G
end Go.Proofs.Ythfemlhmnjfjiaa
/-
 mend.
-/
namespace Go.Proofs.Ythfemlhmnjfjiaa
open Go.RowKit
namespace G
theorem ud_ud (R : Mp) (k : Nat) (a b : Rc) : ud (ud R k a) k b = ud R k b := by
 funext j; unfold ud; split <;> rfl
theorem smo.ud {R : Mp} {x : Option Nat} {c : Nat} {S : Sm} (h : smo R x c S) {k : Nat} (q : Rc) (hk : x ≠ some k) : smo (ud R k q) x c S := by
 cases x with
 | none => exact h
 | some j =>
  obtain ⟨r, hr, hc⟩ := h
  exact ⟨r, (ud_ne _ _ (fun e => hk (by rw [e]))).trans hr, hc⟩
theorem szo.ud {R : Mp} {x : Option Nat} {s : Int} (h : szo R x s) {k : Nat} (q : Rc) (hk : x ≠ some k) : szo (ud R k q) x s := by
 cases x with
 | none => exact h
 | some j =>
  obtain ⟨r, hr, rfl⟩ := h
  exact ⟨r, (ud_ne _ _ (fun e => hk (by rw [e]))).trans hr, rfl⟩
def mdc (sc : List Int) (y : Py) (Lf Rf : Nat → Sm) (c : Nat) : Sm := [Lf c, ofs (y.vs.getD c v0) (sc.getD c 0), Rf c].foldl jn sm0
def mds (sc : List Int) (y : Py) (Lf Rf : Nat → Sm) : List Sm := (List.range sc.length).map (mdc sc y Lf Rf)
theorem mds_eq {sc : List Int} {y : Py} {Lf Rf : Nat → Sm} {C : List Sm} (h1 : C.length = sc.length) (h2 : ∀ c, c < sc.length → C[c]? = some (mdc sc y Lf Rf c)) : C = mds sc y Lf Rf := by
 apply List.ext_getElem?
 intro c
 by_cases hc : c < sc.length
 ·rw [h2 c hc]; unfold mds; rw [List.getElem?_map, List.getElem?_range hc]; rfl
 ·rw [List.getElem?_eq_none (by omega), List.getElem?_eq_none (by unfold mds; simp; omega)]
section
variable {D : Nat → Prop} {t : Nat} {mb : Hd} {R : Mp} {root : Option Nat} {lk : Int}
theorem mend_n {w : World} (hS : HS D w t mb R root lk) (hA : Ap R) {k : Nat} {r : Rc} (hk : R k = some r) {a b : Int} (hl : szo R r.l a) (h0 : 0 ≤ a) (h1 : a ≤ 1000000) (hr : szo R r.r b) (h2 : 0 ≤ b) (h3 : b ≤ 1000000) (nl : r.l ≠ some k) (nr : r.r ≠ some k) {Lf Rf : Nat → Sm} (sl : ∀ c, c < mb.sc.length → smo R r.l c (Lf c)) (sr : ∀ c, c < mb.sc.length → smo R r.r c (Rf c)) : Calls Try.prog 59 #[pt t 0, pt k 0] w fun e w' => e = .returned (.tuple #[]) ∧ HS D w' t mb (ud R k ⟨r.u, r.l, r.r, 1 + a + b, r.i, r.h, mds mb.sc r.i Lf Rf⟩) root lk ∧ Mk D w w' := by
 have hS0 := hS
 have hk0 := hk
 have hnc := hS.nc
 obtain ⟨p9, cap9, hsl, _⟩ := hS.sc
 rw [List.length_map] at hsl
 refine w_enter 35 Try.func59 Try.ntmps59 rfl rfl ?_
 have M : Mk D w w := Mk.refl _ _
 refine w_seq ?_
 refine w_any 17 [.inl (pt k 0), .inl (pt k 0), .inl (pt k 0), .inl (pt k 3), .inl (pt k 3), .inl (pp r.l), .inl (.int .i64 (a)), .inl (.int .i64 (1 + a)), .inl (pt k 0), .inl (pt k 0), .inl (pt k 3), .inl (pt k 4), .inl (pp r.r), .inl (.int .i64 (b)), .inl (.int .i64 (1 + a + b)), .inl (pt k 0), .inl (pt k 5)] [] (by kernel_rfl) (by kernel_rfl) (by kernel_rfl) (by kernel_rfl) rfl (by kernel_rfl) (by kernel_rfl) late_nil ?_ ?_ ?_
 ·exact Ds.none rfl
 ·refine ea_cons ?_ (ea_cons ?_ (ea_cons ?_ (ea_cons ?_ (ea_cons ?_ (ea_cons ?_ (ea_cons ?_ (ea_cons ?_ (ea_cons ?_ (ea_cons ?_ (ea_cons ?_ (ea_cons ?_ (ea_cons ?_ (ea_cons ?_ (ea_cons ?_ (ea_cons ?_ (ea_cons ?_ (ea_nil)))))))))))))))))
  ·exact og_eq _ rfl (fun f wf hq hd K hK => go_run rfl (wo_mv (.tmp 1) (pt k 0) (fun _ => rfl) rfl (hK _ (Mo.refl _))))
  ·exact og_eq _ rfl (fun f wf hq hd K hK => go_run rfl (wo_mv (.tmp 1) (pt k 0) (fun _ => rfl) rfl (hK _ (Mo.refl _))))
  ·exact og_eq _ rfl (fun f wf hq hd K hK => go_run rfl (wo_nc (.tmp 6) k 0 rfl (hd 1 rfl) (hK _ (Mo.refl _))))
  ·exact og_eq _ rfl (fun f wf hq hd K hK => go_run rfl (wo_un (fun v => Instr.fieldAt 93 v 2) (.tmp 7) (pt k 0) (pt k 3) (fun _ => rfl) (hd 2 rfl) (by kernel_rfl) (hK _ (Mo.refl _))))
  ·exact og_eq _ rfl (fun f wf hq hd K hK => go_run rfl (wo_bin (fun x y => Instr.indexAt 91 x y) (.tmp 8) (.const (.int .i64 (0))) (pt k 3) (.int .i64 (0)) (pt k 3) (fun _ => rfl) (hd 3 rfl) rfl (by kernel_rfl) (hK _ (Mo.refl _))))
  ·exact og_eq _ rfl (fun f wf hq hd K hK => have hS := hS.mo hq; go_run rfl (wo_load 65 (.tmp 9) (pt k 3) (pp r.l) rfl (hd 4 rfl) (run_one (hS.rc k _ hk) 65 3 rfl Try.underlying65 rfl) (hK _ (Mo.refl _))))
  ·exact og_eq _ rfl (fun f wf hq hd K hK => have hS := hS.mo hq; go_run rfl (wo_call 46 [(.tmp 10)] _ [pp r.l] (.int .i64 (a)) rfl (li1 (hd 5 rfl)) (fun _ _ => by kernel_rfl) (size_o hS hl) hK))
  ·exact og_eq _ rfl (fun f wf hq hd K hK => go_run rfl (wo_bin (fun x y => do eqGuard .add 3 (.const (.int .i64 (1))) (.tmp 11) x y; binOp .add 3 x y) (.const (.int .i64 (1))) (.tmp 11) (.int .i64 (1)) (.int .i64 (a)) (.int .i64 (1 + a)) (fun _ => rfl) rfl (hd 6 rfl) (addI (by omega) (by omega) _ _ _) (hK _ (Mo.refl _))))
  ·exact og_eq _ rfl (fun f wf hq hd K hK => go_run rfl (wo_mv (.tmp 1) (pt k 0) (fun _ => rfl) rfl (hK _ (Mo.refl _))))
  ·exact og_eq _ rfl (fun f wf hq hd K hK => go_run rfl (wo_nc (.tmp 13) k 0 rfl (hd 8 rfl) (hK _ (Mo.refl _))))
  ·exact og_eq _ rfl (fun f wf hq hd K hK => go_run rfl (wo_un (fun v => Instr.fieldAt 93 v 2) (.tmp 14) (pt k 0) (pt k 3) (fun _ => rfl) (hd 9 rfl) (by kernel_rfl) (hK _ (Mo.refl _))))
  ·exact og_eq _ rfl (fun f wf hq hd K hK => go_run rfl (wo_bin (fun x y => Instr.indexAt 91 x y) (.tmp 15) (.const (.int .i64 (1))) (pt k 3) (.int .i64 (1)) (pt k 4) (fun _ => rfl) (hd 10 rfl) rfl (by kernel_rfl) (hK _ (Mo.refl _))))
  ·exact og_eq _ rfl (fun f wf hq hd K hK => have hS := hS.mo hq; go_run rfl (wo_load 65 (.tmp 16) (pt k 4) (pp r.r) rfl (hd 11 rfl) (run_one (hS.rc k _ hk) 65 4 rfl Try.underlying65 rfl) (hK _ (Mo.refl _))))
  ·exact og_eq _ rfl (fun f wf hq hd K hK => have hS := hS.mo hq; go_run rfl (wo_call 46 [(.tmp 17)] _ [pp r.r] (.int .i64 (b)) rfl (li1 (hd 12 rfl)) (fun _ _ => by kernel_rfl) (size_o hS hr) hK))
  ·exact og_eq _ rfl (fun f wf hq hd K hK => go_run rfl (wo_bin (fun x y => do eqGuard .add 3 (.tmp 12) (.tmp 18) x y; binOp .add 3 x y) (.tmp 12) (.tmp 18) (.int .i64 (1 + a)) (.int .i64 (b)) (.int .i64 (1 + a + b)) (fun _ => rfl) (hd 7 rfl) (hd 13 rfl) (addI (by omega) (by omega) _ _ _) (hK _ (Mo.refl _))))
  ·exact og_eq _ rfl (fun f wf hq hd K hK => go_run rfl (wo_nc (.tmp 5) k 0 rfl (hd 0 rfl) (hK _ (Mo.refl _))))
  ·exact og_eq _ rfl (fun f wf hq hd K hK => go_run rfl (wo_un (fun v => Instr.fieldAt 93 v 3) (.tmp 20) (pt k 0) (pt k 5) (fun _ => rfl) (hd 15 rfl) (by kernel_rfl) (hK _ (Mo.refl _))))
 intro kf1 w1 hq _ _
 replace hS := hS.mo hq
 replace M := M.trans hq
 clear hq
 refine wl_st1x 3 (.tmp 21) (.tmp 19) k 5 (.int .i64 (1 + a + b)) _ [.int .i64 (r.i.i), r.i.v, pp r.u, pp r.l, pp r.r, .int .i64 (1 + a + b), r.h] (hS.rc k _ hk) rfl rfl rfl rfl rfl zs3 rfl rfl rfl rfl ?_
 intro w2 hT hA
 replace M := M.st hT (hS.dk hk)
 replace hS := hS.put hk ⟨r.u, r.l, r.r, (1 + a + b), r.i, r.h, r.c⟩ hT hA rfl ⟨_, _, hk, rfl, rfl⟩
 clear hT hA
 obtain ⟨R1, eR1⟩ : ∃ X, X = ud R k ⟨r.u, r.l, r.r, (1 + a + b), r.i, r.h, r.c⟩ := ⟨_, rfl⟩
 rw [← eR1] at hS
 have hk : R1 k = some ⟨r.u, r.l, r.r, (1 + a + b), r.i, r.h, r.c⟩ := by rw [eR1]; exact ud_same _ _ _
 refine w_nil (xn_then (w_seq (w_reg ?_)))
 refine wl_m (.tmp 0) (pt t 0) ?_
 refine wl_nc (.tmp 22) t 0 rfl rfl rfl ?_
 refine wl_f 68 0 (.tmp 23) (pt t 0) (pt t 0) ?_
 refine wl_l 22 (.tmp 24) (pt t 0) (mb.h) (run_one hS.tr 22 0 rfl Try.underlying22 rfl) ?_
 refine wl_val (.int .i64 ((mb.sc.length : Nat) : Int)) (len22 _ _ _ _ _ (Eq.trans (b := mb.h) (by exact rfl) hsl) _ _ _ _ _ _) rfl ?_
 refine wl_m (.const (.int .i64 (0))) (.int .i64 (0)) ?_
 refine w_nil (xn_then (w_block ?_))
 refine w_loop (fun m l w1 => ∃ (j : Nat) (C : List Sm), m + j = mb.sc.length ∧ look l 0 = pt t 0 ∧ look l 1 = pt k 0 ∧ look l 26 = .int .i64 (mb.sc.length : Int) ∧ look l 27 = .int .i64 (j : Int) ∧ C.length = mb.sc.length ∧ (∀ c, c < j → C[c]? = some (mdc mb.sc r.i Lf Rf c)) ∧ HS D w1 t mb (ud R k ⟨r.u, r.l, r.r, 1 + a + b, r.i, r.h, C⟩) root lk ∧ Mk D w w1) mb.sc.length ⟨0, r.c, by omega, rfl, rfl, rfl, rfl, (hS0.ss k r hk0).2.1, (fun _ h => absurd h (Nat.not_lt_zero _)), eR1 ▸ hS, M⟩ ?_
 clear M hS
 rintro m l wl ⟨j, C, hm, g0, g1, g26, g27, hCl, hC, hS, M⟩
 refine w_seq ?_
 cases hf0 : decide (j < mb.sc.length) with
 | true =>
  have hf0p := of_decide_eq_true hf0
  refine w_reg ?_
  refine wl_bin (fun x y => do eqGuard .lss 3 (.tmp 27) (.tmp 26) x y; binOp .lss 3 x y) (.tmp 27) (.tmp 26) (.int .i64 ((j : Nat) : Int)) (.int .i64 ((mb.sc.length : Nat) : Int)) (.bool true) (fun _ => rfl) g27 g26 (ltN hf0 _ _ _) rfl ?_
  refine w_nil (xn_then (w_seq (w_condT rfl (w_skip (xn_then (w_seq (w_block (w_seq (w_reg ?_)))))))))
  refine wl_mv (.tmp 27) (.int .i64 ((j : Nat) : Int)) (fun _ => rfl) g27 rfl ?_
  refine wl_m (.tmp 29) (.int .i64 ((j : Nat) : Int)) ?_
  refine w_nil (xn_then (w_reg ?_))
  refine wl_mv (.tmp 0) (pt t 0) (fun _ => rfl) g0 rfl ?_
  refine wl_mv (.tmp 1) (pt k 0) (fun _ => rfl) g1 rfl ?_
  refine wl_m (.tmp 4) (.int .i64 ((j : Nat) : Int)) ?_
  have hjl : j < mb.sc.length := by omega
  have hvl := (hS0.sv k r hk0).2.1
  have hA2 := hA.wr hk0 (r' := ⟨r.u, r.l, r.r, 1 + a + b, r.i, r.h, C⟩) rfl rfl
  refine wl_callg 55 [(.tmp 30), (.tmp 31), (.tmp 32)] _ [pt t 0, pt k 0, .int .i64 ((j : Nat) : Int)] (.tuple #[]) rfl rfl (fun _ _ => by kernel_rfl) (mendc_n hS hA2 (ud_same _ _ _) (x := r.i.vs.getD j v0) (s := mb.sc.getD j 0) (by rw [List.getD_eq_getElem?_getD, List.getElem?_eq_getElem (by show j < r.i.vs.length; omega)]; rfl) (by rw [List.getD_eq_getElem?_getD, List.getElem?_eq_getElem hjl]; rfl) ((sl j hjl).ud _ nl) ((sr j hjl).ud _ nr)) rfl ?_
  intro w11 hF
  obtain ⟨hS2, hM2⟩ := hF
  rw [ud_ud] at hS2
  replace hS := hS2
  replace M := M.same hM2
  clear hS2 hM2
  refine w_nil (xn_blk (xn_then (w_reg ?_)))
  refine wl_bin (fun x y => do eqGuard .add 3 (.tmp 27) (.const (.int .i64 (1))) x y; binOp .add 3 x y) (.tmp 27) (.const (.int .i64 (1))) (.int .i64 ((j : Nat) : Int)) (.int .i64 (1)) (.int .i64 ((j + 1 : Nat) : Int)) (fun _ => rfl) g27 rfl (add1r (k := j) (by omega) _ _ _) rfl ?_
  refine wl_m (.tmp 34) (.int .i64 ((j + 1 : Nat) : Int)) ?_
  refine w_nil ?_
  exact xn_loop (m - 1) (by omega) ⟨j + 1, C.set j (mdc mb.sc r.i Lf Rf j), by omega, g0, g1, g26, rfl, by rw [List.length_set]; exact hCl, fun c hc => by by_cases e : j = c; (· subst e; exact List.getElem?_set_self (by omega)); (· rw [List.getElem?_set_ne e]; exact hC c (by omega)), hS, M⟩
 | false =>
  have hf0p := of_decide_eq_false hf0
  refine w_reg ?_
  refine wl_bin (fun x y => do eqGuard .lss 3 (.tmp 27) (.tmp 26) x y; binOp .lss 3 x y) (.tmp 27) (.tmp 26) (.int .i64 ((j : Nat) : Int)) (.int .i64 ((mb.sc.length : Nat) : Int)) (.bool false) (fun _ => rfl) g27 g26 (ltN hf0 _ _ _) rfl ?_
  refine w_nil (xn_then (w_seq (w_condF rfl (w_exit (xx_then (xx_then (xx_blk ?_)))))))
  exact w_end0 rfl ⟨rfl, by rw [← mds_eq hCl (fun c hc => hC c (by omega))]; exact hS, M⟩
end
end G
end Go.Proofs.Ythfemlhmnjfjiaa
/-
 The tree's turn.
-/
namespace Go.Proofs.Ythfemlhmnjfjiaa
open Go.RowKit
namespace G
theorem HS.put2 {D : Nat → Prop} {w w' : World} {t : Nat} {mb : Hd} {M : Mp} {root : Option Nat} {lk : Int} (h : HS D w t mb M root lk) {k : Nat} {r : Rc} (e : M k = some r) (r' : Rc) (s : St2 k w w') (hA : At w' k r'.cells) (hv : r'.i = r.i)
  (hh : Rw w' 23 r'.h (r'.c.map sml) ∧ r'.c.length = mb.sc.length ∧ ∀ S ∈ r'.c, S.ok) (hd : ∀ {b}, ob r'.h = some b → D b ∧ b ≠ t ∧ M b = none) : HS D w' t mb (ud M k r') root lk := by
 have hK := Mk.st1 s
 have hno : ∀ {j q b}, M j = some q → ob q.i.v = some b ∨ ob q.h = some b → ¬ (b = k) := fun hj hb e2 => by
  have := (h.ds hj hb).2.2
  rw [e2, e] at this; cases this
 have hMb : ∀ {b}, M b = none → ud M k r' b = none := fun {b} hb => by
  rw [ud_ne _ _ (fun q => by rw [q, e] at hb; cases hb)]; exact hb
 refine ⟨s.other t _ (Ne.symm (h.ne e)) h.tr, h.sc.kept hK (fun b hb q => h.sd b hb (by rw [q]; exact h.dk e)), h.sd, fun j q hj => ?_, fun j q hj => ?_, fun j q hj => ?_, fun j q hj => ?_, hMb h.mt, h.dt, fun {j q} hj => ?_, fun {j q b} hj hb => ?_, fun e => by rw [s.size]; exact h.lt e, h.nb, h.nc⟩
 ·rcases ud_or hj with ⟨rfl, rfl⟩ | ⟨hne, hj⟩
  ·exact hA
  ·exact s.other j _ hne (h.rc j q hj)
 ·rcases ud_or hj with ⟨rfl, rfl⟩ | ⟨hne, hj⟩
  ·exact s.cb _ (h.cb _ r e)
  ·exact s.cb _ (h.cb j q hj)
 ·rcases ud_or hj with ⟨rfl, rfl⟩ | ⟨hne, hj⟩
  ·rw [hv]; exact ⟨(h.sv _ r e).1.kept hK (fun b hb => hno e (Or.inl hb)), (h.sv _ r e).2⟩
  ·exact ⟨(h.sv j q hj).1.kept hK (fun b hb => hno hj (Or.inl hb)), (h.sv j q hj).2⟩
 ·rcases ud_or hj with ⟨rfl, rfl⟩ | ⟨hne, hj⟩
  ·exact hh
  ·exact ⟨(h.ss j q hj).1.kept hK (fun b hb => hno hj (Or.inr hb)), (h.ss j q hj).2⟩
 ·rcases ud_or hj with ⟨rfl, rfl⟩ | ⟨hne, hj⟩
  ·exact h.dk e
  ·exact h.dk hj
 ·rcases ud_or hj with ⟨rfl, rfl⟩ | ⟨hne, hj⟩
  ·rcases hb with hb | hb
   ·rw [hv] at hb; obtain ⟨a1, a2, a3⟩ := h.ds e (Or.inl hb); exact ⟨a1, a2, hMb a3⟩
   ·obtain ⟨a1, a2, a3⟩ := hd hb; exact ⟨a1, a2, hMb a3⟩
  ·obtain ⟨a1, a2, a3⟩ := h.ds hj hb; exact ⟨a1, a2, hMb a3⟩
theorem Ap.perm {M M' : Mp} (h : Ap M) (σ : Nat → Nat) (hσ : ∀ a b, σ a = σ b → a = b) (key : ∀ {j q'}, M' j = some q' → ∃ a b, M j = some a ∧ M (σ j) = some b ∧ q'.i.v = a.i.v ∧ q'.h = b.h) : Ap M' := by
 refine ⟨fun a b c => ?_, fun a b n c => ?_, fun a b n c => ?_⟩
 ·obtain ⟨_, x, _, hx, _, x2⟩ := key a; obtain ⟨y, _, hy, _, y1, _⟩ := key b
  rw [y1]; rw [x2] at c; exact h.hv hx hy c
 ·obtain ⟨_, x, _, hx, _, x2⟩ := key a; obtain ⟨_, y, _, hy, _, y2⟩ := key b
  rw [y2]; rw [x2] at c; exact h.hh hx hy (fun e => n (hσ _ _ e)) c
 ·obtain ⟨x, _, hx, _, x1, _⟩ := key a; obtain ⟨y, _, hy, _, y1, _⟩ := key b
  rw [y1]; rw [x1] at c; exact h.vv hx hy n c
theorem Ap.id {M M' : Mp} (h : Ap M) (key : ∀ {j q'}, M' j = some q' → ∃ a, M j = some a ∧ q'.i.v = a.i.v ∧ q'.h = a.h) : Ap M' :=
 h.perm (fun j => j) (fun _ _ e => e) (fun hj => by obtain ⟨a, h1, h2, h3⟩ := key hj; exact ⟨a, a, h1, h1, h2, h3⟩)
theorem hkU_of {R : Mp} {a x : Option Nat} {j : Nat} {q : Rc} (h : hkU R a x j = some q) : ∃ r, R j = some r ∧ q.s = r.s ∧ q.i = r.i ∧ q.h = r.h ∧ q.c = r.c := by
 by_cases e : x = some j
 ·subst e
  cases hr : R j with
  | none => rw [hkU_gone hr, hr] at h; cases h
  | some r => rw [hkU_some hr, ud_same] at h; cases h; exact ⟨r, rfl, rfl, rfl, rfl, rfl⟩
 ·rw [hkU_ne e] at h; exact ⟨q, h, rfl, rfl, rfl, rfl⟩
theorem hkR_of {R : Mp} {a x : Option Nat} {d : Bool} {j : Nat} {q : Rc} (h : hkR R a d x j = some q) : ∃ r, R j = some r ∧ q.s = r.s ∧ q.i = r.i ∧ q.h = r.h ∧ q.c = r.c := by
 by_cases e : a = some j
 ·subst e
  cases hr : hkU R (some j) x j with
  | none => rw [hkR_gone hr, hr] at h; cases h
  | some r =>
   rw [hkR_some hr, ud_same] at h
   obtain ⟨r0, h0, h1, h2, h3, h4⟩ := hkU_of hr
   cases h; exact ⟨r0, h0, h1, h2, h3, h4⟩
 ·rw [hkR_off e] at h; exact hkU_of h
theorem hkU_to {R : Mp} {a x : Option Nat} {j : Nat} {r : Rc} (h : R j = some r) : ∃ q, hkU R a x j = some q ∧ q.s = r.s ∧ q.i = r.i ∧ q.h = r.h ∧ q.c = r.c := by
 by_cases e : x = some j
 ·subst e; exact ⟨⟨a, r.l, r.r, r.s, r.i, r.h, r.c⟩, by rw [hkU_some h]; exact ud_same _ _ _, rfl, rfl, rfl, rfl⟩
 ·exact ⟨r, (hkU_ne e).trans h, rfl, rfl, rfl, rfl⟩
theorem hkR_to {R : Mp} {a x : Option Nat} {d : Bool} {j : Nat} {r : Rc} (h : R j = some r) : ∃ q, hkR R a d x j = some q ∧ q.s = r.s ∧ q.i = r.i ∧ q.h = r.h ∧ q.c = r.c := by
 obtain ⟨r1, h1, h2⟩ := hkU_to (a := a) (x := x) h
 by_cases e : a = some j
 ·subst e; exact ⟨⟨r1.u, if d then r1.l else x, if d then x else r1.r, r1.s, r1.i, r1.h, r1.c⟩, by rw [hkR_some h1]; exact ud_same _ _ _, h2⟩
 ·exact ⟨r1, (hkR_off e).trans h1, h2⟩
theorem hkR_s {R : Mp} {a x : Option Nat} {d : Bool} {j : Nat} {r : Rc} (h : R j = some r) : ∃ r', hkR R a d x j = some r' ∧ r'.s = r.s := by
 obtain ⟨q, h1, h2, _⟩ := hkR_to (a := a) (x := x) (d := d) h; exact ⟨q, h1, h2⟩
theorem Ap.hk {R : Mp} (h : Ap R) (a x : Option Nat) (d : Bool) : Ap (hkR R a d x) := h.id (fun hj => by obtain ⟨r, h1, _, h3, h4, _⟩ := hkR_of hj; exact ⟨r, h1, by rw [h3], h4⟩)
theorem szo.hk {R : Mp} {x : Option Nat} {s : Int} (h : szo R x s) (a y : Option Nat) (d : Bool) : szo (hkR R a d y) x s := by
 cases x with
 | none => exact h
 | some k =>
  obtain ⟨r, hr, rfl⟩ := h
  exact hkR_s hr
theorem smo.hk {R : Mp} {x : Option Nat} {c : Nat} {S : Sm} (h : smo R x c S) (a y : Option Nat) (d : Bool) : smo (hkR R a d y) x c S := by
 cases x with
 | none => exact h
 | some k =>
  obtain ⟨r, hr, hc⟩ := h
  obtain ⟨q, h1, _, _, _, h5⟩ := hkR_to (a := a) (x := y) (d := d) hr
  exact ⟨q, h1, h5 ▸ hc⟩
theorem Ap.swap {M M' : Mp} (h : Ap M) {k kk : Nat} {r q : Rc} (e : M k = some r) (e2 : M kk = some q) (hk : ∀ {z}, M' k = some z → z.i.v = r.i.v ∧ z.h = q.h) (hkk : ∀ {z}, M' kk = some z → z.i.v = q.i.v ∧ z.h = r.h) (ho : ∀ j, j ≠ k → j ≠ kk → M' j = M j) : Ap M' := by
 refine h.perm (fun j => if j = k then kk else if j = kk then k else j) (fun a b hab => ?_) (fun {j z} hj => ?_)
 ·split at hab <;> split at hab <;> (try split at hab) <;> (try split at hab) <;> omega
 ·by_cases h1 : j = k
  ·subst h1; rw [if_pos rfl]; exact ⟨r, q, e, e2, hk hj⟩
  ·rw [if_neg h1]
   by_cases h2 : j = kk
   ·subst h2; rw [if_pos rfl]; exact ⟨q, r, e2, e, hkk hj⟩
   ·rw [if_neg h2]; rw [ho j h1 h2] at hj; exact ⟨z, z, hj, hj, rfl, rfl⟩
structure Tn (R R' : Mp) (u x : Option Nat) (k kk : Nat) (dC : Bool) (rk rkk : Rc) : Prop where
 hk : R' k = some rk
 hkk : R' kk = some rkk
 hx : ∀ j r, x = some j → R j = some r → R' j = some ⟨some k, r.l, r.r, r.s, r.i, r.h, r.c⟩
 hu : ∀ p q, u = some p → R p = some q → R' p = some ⟨q.u, if dC then q.l else some kk, if dC then some kk else q.r, q.s, q.i, q.h, q.c⟩
 ho : ∀ j, j ≠ k → j ≠ kk → x ≠ some j → u ≠ some j → R' j = R j
 ap : Ap R'
section
variable {D : Nat → Prop} {t : Nat} {mb : Hd} {R : Mp} {root : Option Nat} {lk : Int}
theorem turn_0 {w : World} (hS : HS D w t mb R root lk) (hA : Ap R) {u x y o : Option Nat} {k kk : Nat} {s ss sx so : Int} {i ii : Py} {c cc : List Sm} {pk pq : Option Addr} {nk ck nq cq : Nat} (dC : Bool) (hk : R k = some ⟨u, (some kk), o, (s), i, .slice pk nk ck, c⟩) (hkk : R kk = some ⟨(some k), y, x, (ss), ii, .slice pq nq cq, cc⟩) (ne_k_kk : k ≠ kk) (hukk : u ≠ some k) (huk : u ≠ some kk) (hxk : x ≠ some k) (hxkk : x ≠ some kk) (hok : o ≠ some k) (hokk : o ≠ some kk) (hux : ∀ {j : Nat}, u = some j → x ≠ some j)
  (hsd : ∀ {w : World}, HS D w t mb R root lk → Calls Try.prog 53 #[pt k 0] w fun e w' => e = .returned (.int .i64 (if dC then 1 else 0)) ∧ Mo w w') (hpar : ∀ p, u = some p → ∃ q, R p = some q) (hin0 : ∀ j, x = some j → ∃ r, R j = some r)
  (hsx : szo R x sx) (ho : szo R o so) (b1 : 0 ≤ sx ∧ sx ≤ 100000) (b3 : 0 ≤ so ∧ so ≤ 100000) {Xf Of : Nat → Sm} (mx : ∀ c, c < mb.sc.length → smo R x c (Xf c)) (mo : ∀ c, c < mb.sc.length → smo R o c (Of c)) :
  Calls Try.prog 73 #[pt t 0, pt k 0, .int .i64 0] w fun e w' => e = .returned (pt kk 0) ∧ ∃ R' root', HS D w' t mb R' root' lk ∧ root' = hkO root u (some kk) ∧ Tn R R' u x k kk dC ⟨some kk, x, o, 1 + sx + so, i, .slice pq nq cq, mds mb.sc i Xf Of⟩ ⟨u, y, some k, s, ii, .slice pk nk ck, c⟩ ∧ Mk D w w' := by
 refine w_enter 65 Try.func73 Try.ntmps73 rfl rfl ?_
 have M : Mk D w w := Mk.refl _ _
 refine w_seq (w_reg ?_)
 refine wl_m (.const (.pointer none)) (pp none) ?_
 refine w_nil (xn_then (w_seq (w_reg ?_)))
 refine wl_m (.tmp 1) (pt k 0) ?_
 refine wl_m (.tmp 2) (.int .i64 (0)) ?_
 refine wl_nc (.tmp 8) k 0 rfl rfl rfl ?_
 refine wl_f 93 2 (.tmp 10) (pt k 0) (pt k 3) ?_
 refine wl_bin (fun x y => Instr.indexAt 91 x y) (.tmp 11) (.tmp 9) (pt k 3) (.int .i64 (0)) (pt k 3) (fun _ => rfl) rfl rfl (by kernel_rfl) rfl ?_
 refine wl_l 65 (.tmp 12) (pt k 3) (pt kk 0) (run_one (hS.rc k _ hk) 65 3 rfl Try.underlying65 rfl) ?_
 refine wl_m (.tmp 13) (pt kk 0) ?_
 refine w_nil (xn_then (w_seq ?_))
 refine w_any 8 [.inl (pt t 0), .inl (pt k 0), .inl (pt k 0), .inl (pt k 2), .inl (pp u), .inl (pt k 0), .inl (.int .i64 (if dC then 1 else 0)), .inl (pt kk 0)] [] (by kernel_rfl) (by kernel_rfl) (by kernel_rfl) (by kernel_rfl) rfl (by kernel_rfl) (by kernel_rfl) late_nil ?_ ?_ ?_
 ·exact Ds.none rfl
 ·refine ea_cons ?_ (ea_cons ?_ (ea_cons ?_ (ea_cons ?_ (ea_cons ?_ (ea_cons ?_ (ea_cons ?_ (ea_cons ?_ (ea_nil))))))))
  ·exact og_eq _ rfl (fun f wf hq hd K hK => go_run rfl (wo_mv (.tmp 0) (pt t 0) (fun _ => rfl) rfl (hK _ (Mo.refl _))))
  ·exact og_eq _ rfl (fun f wf hq hd K hK => go_run rfl (wo_mv (.tmp 1) (pt k 0) (fun _ => rfl) rfl (hK _ (Mo.refl _))))
  ·exact og_eq _ rfl (fun f wf hq hd K hK => go_run rfl (wo_nc (.tmp 15) k 0 rfl (hd 1 rfl) (hK _ (Mo.refl _))))
  ·exact og_eq _ rfl (fun f wf hq hd K hK => go_run rfl (wo_un (fun v => Instr.fieldAt 93 v 1) (.tmp 16) (pt k 0) (pt k 2) (fun _ => rfl) (hd 2 rfl) (by kernel_rfl) (hK _ (Mo.refl _))))
  ·exact og_eq _ rfl (fun f wf hq hd K hK => have hS := hS.mo hq; go_run rfl (wo_load 65 (.tmp 17) (pt k 2) (pp u) rfl (hd 3 rfl) (run_one (hS.rc k _ hk) 65 2 rfl Try.underlying65 rfl) (hK _ (Mo.refl _))))
  ·exact og_eq _ rfl (fun f wf hq hd K hK => go_run rfl (wo_mv (.tmp 1) (pt k 0) (fun _ => rfl) rfl (hK _ (Mo.refl _))))
  ·exact og_eq _ rfl (fun f wf hq hd K hK => have hS := hS.mo hq; go_run rfl (wo_call 53 [(.tmp 19)] _ [pt k 0] (.int .i64 (if dC then 1 else 0)) rfl (li1 (hd 5 rfl)) (fun _ _ => by kernel_rfl) (hsd hS) hK))
  ·exact og_eq _ rfl (fun f wf hq hd K hK => go_run rfl (wo_mv (.tmp 7) (pt kk 0) (fun _ => rfl) rfl (hK _ (Mo.refl _))))
 intro kf1 w1 hq _ _
 replace hS := hS.mo hq
 replace M := M.trans hq
 clear hq
 refine wl_callg 47 [(.tmp 14), (.tmp 18), (.tmp 20), (.tmp 21)] _ [pt t 0, pp u, .int .i64 (if dC then 1 else 0), pt kk 0] (.tuple #[]) rfl rfl (fun _ _ => by kernel_rfl) (hang_n hS u (some kk) dC (fun j e => by cases e; exact ⟨_, hkk⟩) hpar (fun j e => by cases e; exact huk)) rfl ?_
 intro w2 hF
 obtain ⟨hS2, hM2⟩ := hF
 replace hS := hS2
 replace M := M.same hM2
 clear hS2 hM2
 obtain ⟨root1, eroot⟩ : ∃ X, X = hkO root u (some kk) := ⟨_, rfl⟩
 rw [← eroot] at hS
 obtain ⟨R1, eR1⟩ : ∃ X, X = hkR R u dC (some kk) := ⟨_, rfl⟩
 rw [← eR1] at hS
 replace hk : R1 k = some ⟨u, (some kk), o, (s), i, .slice pk nk ck, c⟩ := by rw [eR1, hkR_ne (fun e => ne_k_kk (Option.some.inj e).symm) hukk]; exact hk
 replace hkk : R1 kk = some ⟨u, y, x, (ss), ii, .slice pq nq cq, cc⟩ := by rw [eR1]; exact hkR_self hkk huk
 have hin : ∀ j, x = some j → ∃ r, R1 j = some r := fun j e => by obtain ⟨r, hr⟩ := hin0 j e; obtain ⟨r2, h2, _⟩ := hkR_s (a := u) (d := dC) (x := some kk) hr; exact ⟨r2, by rw [eR1]; exact h2⟩
 refine w_nil (xn_then (w_seq (w_reg ?_)))
 refine wl_m (.tmp 0) (pt t 0) ?_
 refine wl_m (.tmp 1) (pt k 0) ?_
 refine wl_m (.tmp 2) (.int .i64 (0)) ?_
 refine wl_m (.tmp 7) (pt kk 0) ?_
 refine wl_m (.tmp 2) (.int .i64 (0)) ?_
 refine wl_b .sub 3 (.const (.int .i64 (1))) (.tmp 27) (.int .i64 (1)) (.int .i64 (0)) (.int .i64 (1)) (subI (a := 1) (b := 0) (by decide) (by decide) _ _ _) ?_
 refine wl_nc (.tmp 26) kk 0 rfl rfl rfl ?_
 refine wl_f 93 2 (.tmp 29) (pt kk 0) (pt kk 3) ?_
 refine wl_bin (fun x y => Instr.indexAt 91 x y) (.tmp 30) (.tmp 28) (pt kk 3) (.int .i64 (1)) (pt kk 4) (fun _ => rfl) rfl rfl (by kernel_rfl) rfl ?_
 refine wl_l 65 (.tmp 31) (pt kk 4) (pp x) (run_one (hS.rc kk _ hkk) 65 4 rfl Try.underlying65 rfl) ?_
 refine wl_callg 47 [(.tmp 23), (.tmp 24), (.tmp 25), (.tmp 32)] _ [pt t 0, pt k 0, .int .i64 (0), pp x] (.tuple #[]) rfl rfl (fun _ _ => by kernel_rfl) (hang_n hS (some k) x false hin (fun j e => by cases e; exact ⟨_, hk⟩) (fun j e q => hxk (by rw [e, q]))) rfl ?_
 intro w3 hF
 obtain ⟨hS2, hM2⟩ := hF
 replace hS := hS2
 replace M := M.same hM2
 clear hS2 hM2
 replace hS : HS D _ t mb _ root1 lk := hS
 obtain ⟨R2, eR2⟩ : ∃ X, X = hkR R1 (some k) false x := ⟨_, rfl⟩
 rw [← eR2] at hS
 replace hk : R2 k = some ⟨u, x, o, (s), i, .slice pk nk ck, c⟩ := by rw [eR2]; exact hkR_par hk hxk
 replace hkk : R2 kk = some ⟨u, y, x, (ss), ii, .slice pq nq cq, cc⟩ := by rw [eR2, hkR_ne hxkk (fun e => ne_k_kk (Option.some.inj e))]; exact hkk
 refine w_nil (xn_then (w_seq (w_reg ?_)))
 refine wl_m (.tmp 0) (pt t 0) ?_
 refine wl_m (.tmp 7) (pt kk 0) ?_
 refine wl_m (.tmp 2) (.int .i64 (0)) ?_
 refine wl_b .sub 3 (.const (.int .i64 (1))) (.tmp 36) (.int .i64 (1)) (.int .i64 (0)) (.int .i64 (1)) (subI (a := 1) (b := 0) (by decide) (by decide) _ _ _) ?_
 refine wl_m (.tmp 1) (pt k 0) ?_
 refine wl_callg 47 [(.tmp 34), (.tmp 35), (.tmp 37), (.tmp 38)] _ [pt t 0, pt kk 0, .int .i64 (1), pt k 0] (.tuple #[]) rfl rfl (fun _ _ => by kernel_rfl) (hang_n hS (some kk) (some k) true (fun j e => by cases e; exact ⟨_, hk⟩) (fun j e => by cases e; exact ⟨_, hkk⟩) (fun j e q => by cases e; cases q; exact ne_k_kk rfl)) rfl ?_
 intro w4 hF
 obtain ⟨hS2, hM2⟩ := hF
 replace hS := hS2
 replace M := M.same hM2
 clear hS2 hM2
 replace hS : HS D _ t mb _ root1 lk := hS
 obtain ⟨R3, eR3⟩ : ∃ X, X = hkR R2 (some kk) true (some k) := ⟨_, rfl⟩
 rw [← eR3] at hS
 replace hkk : R3 kk = some ⟨u, y, (some k), (ss), ii, .slice pq nq cq, cc⟩ := by rw [eR3]; exact hkR_par hkk (fun e => ne_k_kk (Option.some.inj e))
 replace hk : R3 k = some ⟨(some kk), x, o, (s), i, .slice pk nk ck, c⟩ := by rw [eR3]; exact hkR_self hk (fun e => ne_k_kk (Option.some.inj e).symm)
 have hA3 : Ap R3 := by rw [eR3, eR2, eR1]; exact ((hA.hk _ _ _).hk _ _ _).hk _ _ _
 have z1 : szo R3 o so := by rw [eR3, eR2, eR1]; exact ((ho.hk _ _ _).hk _ _ _).hk _ _ _
 have z2 : szo R3 x sx := by rw [eR3, eR2, eR1]; exact ((hsx.hk _ _ _).hk _ _ _).hk _ _ _
 have y1 : ∀ c9, c9 < mb.sc.length → smo R3 o c9 (Of c9) := fun c9 h9 => by rw [eR3, eR2, eR1]; exact (((mo c9 h9).hk _ _ _).hk _ _ _).hk _ _ _
 have y2 : ∀ c9, c9 < mb.sc.length → smo R3 x c9 (Xf c9) := fun c9 h9 => by rw [eR3, eR2, eR1]; exact (((mx c9 h9).hk _ _ _).hk _ _ _).hk _ _ _
 refine w_nil (xn_then (w_seq ?_))
 refine w_any 12 [.inl (pt kk 0), .inl (pt k 0), .inl (pt k 0), .inl (pt k 0), .inl (pt k 6), .inl (.slice pk nk ck), .inl (pt kk 0), .inl (pt kk 0), .inl (pt kk 6), .inl (.slice pq nq cq), .inl (pt kk 0), .inl (pt kk 6)] [1] (by kernel_rfl) (by kernel_rfl) (by kernel_rfl) (by kernel_rfl) rfl (by kernel_rfl) (by kernel_rfl) (late_cons ⟨_, _, rfl, rfl, fun _ _ _ _ h => h, fun f hd => ⟨rfl, la_mv (.tmp 1) (pt k 0) (fun _ => rfl) rfl⟩⟩ late_nil) ?_ ?_ ?_
 ·exact Ds.none rfl
 ·refine ea_cons ?_ (ea_cons ?_ (ea_cons ?_ (ea_cons ?_ (ea_cons ?_ (ea_cons ?_ (ea_cons ?_ (ea_cons ?_ (ea_cons ?_ (ea_cons ?_ (ea_cons ?_ (ea_cons ?_ (ea_nil))))))))))))
  ·exact og_eq _ rfl (fun f wf hq hd K hK => go_run rfl (wo_mv (.tmp 7) (pt kk 0) (fun _ => rfl) rfl (hK _ (Mo.refl _))))
  ·exact og_eq _ rfl (fun f wf hq hd K hK => go_run rfl (wo_mv (.tmp 1) (pt k 0) (fun _ => rfl) rfl (hK _ (Mo.refl _))))
  ·exact og_eq _ rfl (fun f wf hq hd K hK => go_run rfl (wo_mv (.tmp 1) (pt k 0) (fun _ => rfl) rfl (hK _ (Mo.refl _))))
  ·exact og_eq _ rfl (fun f wf hq hd K hK => go_run rfl (wo_nc (.tmp 42) k 0 rfl (hd 2 rfl) (hK _ (Mo.refl _))))
  ·exact og_eq _ rfl (fun f wf hq hd K hK => go_run rfl (wo_un (fun v => Instr.fieldAt 93 v 4) (.tmp 43) (pt k 0) (pt k 6) (fun _ => rfl) (hd 3 rfl) (by kernel_rfl) (hK _ (Mo.refl _))))
  ·exact og_eq _ rfl (fun f wf hq hd K hK => have hS := hS.mo hq; go_run rfl (wo_load 47 (.tmp 44) (pt k 6) (.slice pk nk ck) rfl (hd 4 rfl) (run_one (hS.rc k _ hk) 47 6 rfl Try.underlying47 rfl) (hK _ (Mo.refl _))))
  ·exact og_eq _ rfl (fun f wf hq hd K hK => go_run rfl (wo_mv (.tmp 7) (pt kk 0) (fun _ => rfl) rfl (hK _ (Mo.refl _))))
  ·exact og_eq _ rfl (fun f wf hq hd K hK => go_run rfl (wo_nc (.tmp 46) kk 0 rfl (hd 6 rfl) (hK _ (Mo.refl _))))
  ·exact og_eq _ rfl (fun f wf hq hd K hK => go_run rfl (wo_un (fun v => Instr.fieldAt 93 v 4) (.tmp 47) (pt kk 0) (pt kk 6) (fun _ => rfl) (hd 7 rfl) (by kernel_rfl) (hK _ (Mo.refl _))))
  ·exact og_eq _ rfl (fun f wf hq hd K hK => have hS := hS.mo hq; go_run rfl (wo_load 47 (.tmp 48) (pt kk 6) (.slice pq nq cq) rfl (hd 8 rfl) (run_one (hS.rc kk _ hkk) 47 6 rfl Try.underlying47 rfl) (hK _ (Mo.refl _))))
  ·exact og_eq _ rfl (fun f wf hq hd K hK => go_run rfl (wo_nc (.tmp 40) kk 0 rfl (hd 0 rfl) (hK _ (Mo.refl _))))
  ·exact og_eq _ rfl (fun f wf hq hd K hK => go_run rfl (wo_un (fun v => Instr.fieldAt 93 v 4) (.tmp 50) (pt kk 0) (pt kk 6) (fun _ => rfl) (hd 10 rfl) (by kernel_rfl) (hK _ (Mo.refl _))))
 intro kf5 w5 hq _ _
 replace hS := hS.mo hq
 replace M := M.trans hq
 clear hq
 refine wl_st1x 47 (.tmp 51) (.tmp 45) kk 6 (.slice pk nk ck) _ [.int .i64 (ii.i), ii.v, pp u, pp y, pt k 0, .int .i64 (ss), .slice pk nk ck] (hS.rc kk _ hkk) rfl rfl rfl rfl rfl zs47 rfl rfl rfl rfl ?_
 intro w6 hT hA9
 have hno : ∀ b, ob (.slice pq nq cq) = some b → ¬ (b = kk) := fun b hb q => by have := (hS.ds hkk (Or.inr hb)).2.2; rw [q, hkk] at this; cases this
 have hno2 : ∀ b, ob (.slice pq nq cq) = some b → ¬ (b = k) := fun b hb q => by have := (hS.ds hkk (Or.inr hb)).2.2; rw [q, hk] at this; cases this
 have hR2 := (hS.ss kk _ hkk)
 replace hR2 := And.intro (hR2.1.kept (Mk.st1 hT) hno) hR2.2
 have hD2 : ∀ {b}, ob (.slice pq nq cq) = some b → D b ∧ b ≠ t ∧ R3 b = none := fun hb => hS.ds hkk (Or.inr hb)
 replace M := M.st hT (hS.dk hkk)
 replace hS := hS.put hkk ⟨u, y, (some k), (ss), ii, .slice pk nk ck, c⟩ hT hA9 rfl ⟨_, _, hk, rfl, rfl⟩
 clear hT hA9
 have hkk0 := hkk
 have hk0 := hk
 obtain ⟨R4, eR4⟩ : ∃ X, X = ud R3 kk ⟨u, y, (some k), (ss), ii, .slice pk nk ck, c⟩ := ⟨_, rfl⟩
 rw [← eR4] at hS
 replace hk : R4 k = some ⟨(some kk), x, o, (s), i, .slice pk nk ck, c⟩ := by rw [eR4, ud_ne _ _ ne_k_kk]; exact hk
 have hkk : R4 kk = some ⟨u, y, (some k), (ss), ii, .slice pk nk ck, c⟩ := by rw [eR4]; exact ud_same _ _ _
 replace hD2 : ∀ {b}, ob (.slice pq nq cq) = some b → D b ∧ b ≠ t ∧ R4 b = none := fun {b} hb => ⟨(hD2 hb).1, (hD2 hb).2.1, by rw [eR4, ud_ne _ _ (hno b hb)]; exact (hD2 hb).2.2⟩
 refine wl_nc (.tmp 41) k 0 rfl rfl rfl ?_
 refine wl_f 93 4 (.tmp 52) (pt k 0) (pt k 6) ?_
 refine wl_st1x 47 (.tmp 53) (.tmp 49) k 6 (.slice pq nq cq) _ [.int .i64 (i.i), i.v, pt kk 0, pp x, pp o, .int .i64 (s), .slice pq nq cq] (hS.rc k _ hk) rfl rfl rfl rfl rfl zs47 rfl rfl rfl rfl ?_
 intro w7 hT hA9
 replace M := M.st hT (hS.dk hk)
 replace hS := hS.put2 hk ⟨(some kk), x, o, (s), i, .slice pq nq cq, cc⟩ hT hA9 rfl ⟨hR2.1.kept (Mk.st1 hT) hno2, hR2.2⟩ hD2
 clear hT hA9 hR2 hD2 hno hno2
 obtain ⟨R5, eR5⟩ : ∃ X, X = ud R4 k ⟨(some kk), x, o, (s), i, .slice pq nq cq, cc⟩ := ⟨_, rfl⟩
 rw [← eR5] at hS
 have hk : R5 k = some ⟨(some kk), x, o, (s), i, .slice pq nq cq, cc⟩ := by rw [eR5]; exact ud_same _ _ _
 replace hkk : R5 kk = some ⟨u, y, (some k), (ss), ii, .slice pk nk ck, c⟩ := by rw [eR5, ud_ne _ _ ne_k_kk.symm]; exact hkk
 have hAp : Ap R5 := hA3.swap hk0 hkk0 (fun h => by rw [hk] at h; cases h; exact ⟨rfl, rfl⟩) (fun h => by rw [hkk] at h; cases h; exact ⟨rfl, rfl⟩) (fun j h1 h2 => by rw [eR5, ud_ne _ _ h1, eR4, ud_ne _ _ h2])
 refine w_nil (xn_then (w_seq (w_reg ?_)))
 refine wl_m (.tmp 7) (pt kk 0) ?_
 refine wl_m (.tmp 1) (pt k 0) ?_
 refine wl_nc (.tmp 55) k 0 rfl rfl rfl ?_
 refine wl_f 93 3 (.tmp 56) (pt k 0) (pt k 5) ?_
 refine wl_l 3 (.tmp 57) (pt k 5) (.int .i64 (s)) (run_one (hS.rc k _ hk) 3 5 rfl Try.underlying3 rfl) ?_
 refine wl_nc (.tmp 54) kk 0 rfl rfl rfl ?_
 refine wl_f 93 3 (.tmp 59) (pt kk 0) (pt kk 5) ?_
 have hkk5 := hkk
 refine wl_st1x 3 (.tmp 60) (.tmp 58) kk 5 (.int .i64 (s)) _ [.int .i64 (ii.i), ii.v, pp u, pp y, pt k 0, .int .i64 (s), .slice pk nk ck] (hS.rc kk _ hkk) rfl rfl rfl rfl rfl zs3 rfl rfl rfl rfl ?_
 intro w8 hT hA
 replace M := M.st hT (hS.dk hkk)
 replace hS := hS.put hkk ⟨u, y, (some k), (s), ii, .slice pk nk ck, c⟩ hT hA rfl ⟨_, _, hkk, rfl, rfl⟩
 clear hT hA
 obtain ⟨R6, eR6⟩ : ∃ X, X = ud R5 kk ⟨u, y, (some k), (s), ii, .slice pk nk ck, c⟩ := ⟨_, rfl⟩
 rw [← eR6] at hS
 replace hk : R6 k = some ⟨(some kk), x, o, (s), i, .slice pq nq cq, cc⟩ := by rw [eR6, ud_ne _ _ ne_k_kk]; exact hk
 have hkk : R6 kk = some ⟨u, y, (some k), (s), ii, .slice pk nk ck, c⟩ := by rw [eR6]; exact ud_same _ _ _
 refine w_nil (xn_then (w_seq (w_reg ?_)))
 refine wl_m (.tmp 0) (pt t 0) ?_
 refine wl_m (.tmp 1) (pt k 0) ?_
 replace z1 : szo R6 o so := by rw [eR6, eR5, eR4]; exact ((z1.ud _ hokk).ud _ hok).ud _ hokk
 replace z2 : szo R6 x sx := by rw [eR6, eR5, eR4]; exact ((z2.ud _ hxkk).ud _ hxk).ud _ hxkk
 replace y1 : ∀ c9, c9 < mb.sc.length → smo R6 o c9 (Of c9) := fun c9 h9 => by rw [eR6, eR5, eR4]; exact (((y1 c9 h9).ud _ hokk).ud _ hok).ud _ hokk
 replace y2 : ∀ c9, c9 < mb.sc.length → smo R6 x c9 (Xf c9) := fun c9 h9 => by rw [eR6, eR5, eR4]; exact (((y2 c9 h9).ud _ hxkk).ud _ hxk).ud _ hxkk
 have hAp6 : Ap R6 := by rw [eR6]; exact hAp.wr hkk5 rfl rfl
 have hk6 := hk
 refine wl_callg 59 [(.tmp 61), (.tmp 62)] _ [pt t 0, pt k 0] (.tuple #[]) rfl rfl (fun _ _ => by kernel_rfl) (mend_n hS hAp6 hk z2 (by omega) (by omega) z1 (by omega) (by omega) hxk hok y2 y1) rfl ?_
 intro w9 hF
 obtain ⟨hS2, hM2⟩ := hF
 replace hS := hS2
 replace M := M.same hM2
 clear hS2 hM2
 obtain ⟨R7, eR7⟩ : ∃ X, X = ud R6 k ⟨(some kk), x, o, (1 + sx + so), i, .slice pq nq cq, (mds mb.sc i Xf Of)⟩ := ⟨_, rfl⟩
 rw [← eR7] at hS
 have hk : R7 k = some ⟨(some kk), x, o, (1 + sx + so), i, .slice pq nq cq, (mds mb.sc i Xf Of)⟩ := by rw [eR7]; exact ud_same _ _ _
 replace hkk : R7 kk = some ⟨u, y, (some k), (s), ii, .slice pk nk ck, c⟩ := by rw [eR7, ud_ne _ _ ne_k_kk.symm]; exact hkk
 have hAp7 : Ap R7 := by rw [eR7]; exact hAp6.wr hk6 rfl rfl
 refine w_nil (xn_then (w_seq (w_reg ?_)))
 refine wl_m (.tmp 7) (pt kk 0) ?_
 refine wl_m (.tmp 64) (pt kk 0) ?_
 refine w_nil (xn_then (w_ret ?_))
 refine w_ret1 _ (pt kk 0) rfl rfl ⟨rfl, R7, root1, hS, eroot, ⟨hk, hkk, fun j r e hr => ?_, fun p q e hq => ?_, fun j h1 h2 h3 h4 => ?_, hAp7⟩, M⟩
 ·have hjk : j ≠ k := fun q => hxk (by rw [e, q])
  have hjkk : j ≠ kk := fun q => hxkk (by rw [e, q])
  have huj : u ≠ some j := fun q => hux q e
  rw [eR7, ud_ne _ _ hjk, eR6, ud_ne _ _ hjkk, eR5, ud_ne _ _ hjk, eR4, ud_ne _ _ hjkk, eR3, hkR_ne (fun q => hjk (Option.some.inj q).symm) (fun q => hjkk (Option.some.inj q).symm), eR2, e]
  exact hkR_self (by rw [eR1, hkR_ne (fun q => hjkk (Option.some.inj q).symm) huj]; exact hr) (fun q => hjk (Option.some.inj q).symm)
 ·have hpk : p ≠ k := fun q => hukk (by rw [e, q])
  have hpkk : p ≠ kk := fun q => huk (by rw [e, q])
  have hxp : x ≠ some p := fun q => hux e q
  rw [eR7, ud_ne _ _ hpk, eR6, ud_ne _ _ hpkk, eR5, ud_ne _ _ hpk, eR4, ud_ne _ _ hpkk, eR3, hkR_ne (fun q => hpk (Option.some.inj q).symm) (fun q => hpkk (Option.some.inj q).symm), eR2, hkR_ne hxp (fun q => hpk (Option.some.inj q).symm), eR1, e]
  exact hkR_par hq (fun q => hpkk (Option.some.inj q).symm)
 ·rw [eR7, ud_ne _ _ h1, eR6, ud_ne _ _ h2, eR5, ud_ne _ _ h1, eR4, ud_ne _ _ h2, eR3, hkR_ne (fun q => h1 (Option.some.inj q).symm) (fun q => h2 (Option.some.inj q).symm), eR2, hkR_ne h3 (fun q => h1 (Option.some.inj q).symm), eR1]
  exact hkR_ne (fun q => h2 (Option.some.inj q).symm) h4
theorem turn_1 {w : World} (hS : HS D w t mb R root lk) (hA : Ap R) {u x y o : Option Nat} {k kk : Nat} {s ss sx so : Int} {i ii : Py} {c cc : List Sm} {pk pq : Option Addr} {nk ck nq cq : Nat} (dC : Bool) (hk : R k = some ⟨u, o, (some kk), (s), i, .slice pk nk ck, c⟩) (hkk : R kk = some ⟨(some k), x, y, (ss), ii, .slice pq nq cq, cc⟩) (ne_k_kk : k ≠ kk) (hukk : u ≠ some k) (huk : u ≠ some kk) (hxk : x ≠ some k) (hxkk : x ≠ some kk) (hok : o ≠ some k) (hokk : o ≠ some kk) (hux : ∀ {j : Nat}, u = some j → x ≠ some j)
  (hsd : ∀ {w : World}, HS D w t mb R root lk → Calls Try.prog 53 #[pt k 0] w fun e w' => e = .returned (.int .i64 (if dC then 1 else 0)) ∧ Mo w w') (hpar : ∀ p, u = some p → ∃ q, R p = some q) (hin0 : ∀ j, x = some j → ∃ r, R j = some r)
  (hsx : szo R x sx) (ho : szo R o so) (b1 : 0 ≤ sx ∧ sx ≤ 100000) (b3 : 0 ≤ so ∧ so ≤ 100000) {Xf Of : Nat → Sm} (mx : ∀ c, c < mb.sc.length → smo R x c (Xf c)) (mo : ∀ c, c < mb.sc.length → smo R o c (Of c)) :
  Calls Try.prog 73 #[pt t 0, pt k 0, .int .i64 1] w fun e w' => e = .returned (pt kk 0) ∧ ∃ R' root', HS D w' t mb R' root' lk ∧ root' = hkO root u (some kk) ∧ Tn R R' u x k kk dC ⟨some kk, o, x, 1 + so + sx, i, .slice pq nq cq, mds mb.sc i Of Xf⟩ ⟨u, some k, y, s, ii, .slice pk nk ck, c⟩ ∧ Mk D w w' := by
 refine w_enter 65 Try.func73 Try.ntmps73 rfl rfl ?_
 have M : Mk D w w := Mk.refl _ _
 refine w_seq (w_reg ?_)
 refine wl_m (.const (.pointer none)) (pp none) ?_
 refine w_nil (xn_then (w_seq (w_reg ?_)))
 refine wl_m (.tmp 1) (pt k 0) ?_
 refine wl_m (.tmp 2) (.int .i64 (1)) ?_
 refine wl_nc (.tmp 8) k 0 rfl rfl rfl ?_
 refine wl_f 93 2 (.tmp 10) (pt k 0) (pt k 3) ?_
 refine wl_bin (fun x y => Instr.indexAt 91 x y) (.tmp 11) (.tmp 9) (pt k 3) (.int .i64 (1)) (pt k 4) (fun _ => rfl) rfl rfl (by kernel_rfl) rfl ?_
 refine wl_l 65 (.tmp 12) (pt k 4) (pt kk 0) (run_one (hS.rc k _ hk) 65 4 rfl Try.underlying65 rfl) ?_
 refine wl_m (.tmp 13) (pt kk 0) ?_
 refine w_nil (xn_then (w_seq ?_))
 refine w_any 8 [.inl (pt t 0), .inl (pt k 0), .inl (pt k 0), .inl (pt k 2), .inl (pp u), .inl (pt k 0), .inl (.int .i64 (if dC then 1 else 0)), .inl (pt kk 0)] [] (by kernel_rfl) (by kernel_rfl) (by kernel_rfl) (by kernel_rfl) rfl (by kernel_rfl) (by kernel_rfl) late_nil ?_ ?_ ?_
 ·exact Ds.none rfl
 ·refine ea_cons ?_ (ea_cons ?_ (ea_cons ?_ (ea_cons ?_ (ea_cons ?_ (ea_cons ?_ (ea_cons ?_ (ea_cons ?_ (ea_nil))))))))
  ·exact og_eq _ rfl (fun f wf hq hd K hK => go_run rfl (wo_mv (.tmp 0) (pt t 0) (fun _ => rfl) rfl (hK _ (Mo.refl _))))
  ·exact og_eq _ rfl (fun f wf hq hd K hK => go_run rfl (wo_mv (.tmp 1) (pt k 0) (fun _ => rfl) rfl (hK _ (Mo.refl _))))
  ·exact og_eq _ rfl (fun f wf hq hd K hK => go_run rfl (wo_nc (.tmp 15) k 0 rfl (hd 1 rfl) (hK _ (Mo.refl _))))
  ·exact og_eq _ rfl (fun f wf hq hd K hK => go_run rfl (wo_un (fun v => Instr.fieldAt 93 v 1) (.tmp 16) (pt k 0) (pt k 2) (fun _ => rfl) (hd 2 rfl) (by kernel_rfl) (hK _ (Mo.refl _))))
  ·exact og_eq _ rfl (fun f wf hq hd K hK => have hS := hS.mo hq; go_run rfl (wo_load 65 (.tmp 17) (pt k 2) (pp u) rfl (hd 3 rfl) (run_one (hS.rc k _ hk) 65 2 rfl Try.underlying65 rfl) (hK _ (Mo.refl _))))
  ·exact og_eq _ rfl (fun f wf hq hd K hK => go_run rfl (wo_mv (.tmp 1) (pt k 0) (fun _ => rfl) rfl (hK _ (Mo.refl _))))
  ·exact og_eq _ rfl (fun f wf hq hd K hK => have hS := hS.mo hq; go_run rfl (wo_call 53 [(.tmp 19)] _ [pt k 0] (.int .i64 (if dC then 1 else 0)) rfl (li1 (hd 5 rfl)) (fun _ _ => by kernel_rfl) (hsd hS) hK))
  ·exact og_eq _ rfl (fun f wf hq hd K hK => go_run rfl (wo_mv (.tmp 7) (pt kk 0) (fun _ => rfl) rfl (hK _ (Mo.refl _))))
 intro kf1 w1 hq _ _
 replace hS := hS.mo hq
 replace M := M.trans hq
 clear hq
 refine wl_callg 47 [(.tmp 14), (.tmp 18), (.tmp 20), (.tmp 21)] _ [pt t 0, pp u, .int .i64 (if dC then 1 else 0), pt kk 0] (.tuple #[]) rfl rfl (fun _ _ => by kernel_rfl) (hang_n hS u (some kk) dC (fun j e => by cases e; exact ⟨_, hkk⟩) hpar (fun j e => by cases e; exact huk)) rfl ?_
 intro w2 hF
 obtain ⟨hS2, hM2⟩ := hF
 replace hS := hS2
 replace M := M.same hM2
 clear hS2 hM2
 obtain ⟨root1, eroot⟩ : ∃ X, X = hkO root u (some kk) := ⟨_, rfl⟩
 rw [← eroot] at hS
 obtain ⟨R1, eR1⟩ : ∃ X, X = hkR R u dC (some kk) := ⟨_, rfl⟩
 rw [← eR1] at hS
 replace hk : R1 k = some ⟨u, o, (some kk), (s), i, .slice pk nk ck, c⟩ := by rw [eR1, hkR_ne (fun e => ne_k_kk (Option.some.inj e).symm) hukk]; exact hk
 replace hkk : R1 kk = some ⟨u, x, y, (ss), ii, .slice pq nq cq, cc⟩ := by rw [eR1]; exact hkR_self hkk huk
 have hin : ∀ j, x = some j → ∃ r, R1 j = some r := fun j e => by obtain ⟨r, hr⟩ := hin0 j e; obtain ⟨r2, h2, _⟩ := hkR_s (a := u) (d := dC) (x := some kk) hr; exact ⟨r2, by rw [eR1]; exact h2⟩
 refine w_nil (xn_then (w_seq (w_reg ?_)))
 refine wl_m (.tmp 0) (pt t 0) ?_
 refine wl_m (.tmp 1) (pt k 0) ?_
 refine wl_m (.tmp 2) (.int .i64 (1)) ?_
 refine wl_m (.tmp 7) (pt kk 0) ?_
 refine wl_m (.tmp 2) (.int .i64 (1)) ?_
 refine wl_b .sub 3 (.const (.int .i64 (1))) (.tmp 27) (.int .i64 (1)) (.int .i64 (1)) (.int .i64 (0)) (subI (a := 1) (b := 1) (by decide) (by decide) _ _ _) ?_
 refine wl_nc (.tmp 26) kk 0 rfl rfl rfl ?_
 refine wl_f 93 2 (.tmp 29) (pt kk 0) (pt kk 3) ?_
 refine wl_bin (fun x y => Instr.indexAt 91 x y) (.tmp 30) (.tmp 28) (pt kk 3) (.int .i64 (0)) (pt kk 3) (fun _ => rfl) rfl rfl (by kernel_rfl) rfl ?_
 refine wl_l 65 (.tmp 31) (pt kk 3) (pp x) (run_one (hS.rc kk _ hkk) 65 3 rfl Try.underlying65 rfl) ?_
 refine wl_callg 47 [(.tmp 23), (.tmp 24), (.tmp 25), (.tmp 32)] _ [pt t 0, pt k 0, .int .i64 (1), pp x] (.tuple #[]) rfl rfl (fun _ _ => by kernel_rfl) (hang_n hS (some k) x true hin (fun j e => by cases e; exact ⟨_, hk⟩) (fun j e q => hxk (by rw [e, q]))) rfl ?_
 intro w3 hF
 obtain ⟨hS2, hM2⟩ := hF
 replace hS := hS2
 replace M := M.same hM2
 clear hS2 hM2
 replace hS : HS D _ t mb _ root1 lk := hS
 obtain ⟨R2, eR2⟩ : ∃ X, X = hkR R1 (some k) true x := ⟨_, rfl⟩
 rw [← eR2] at hS
 replace hk : R2 k = some ⟨u, o, x, (s), i, .slice pk nk ck, c⟩ := by rw [eR2]; exact hkR_par hk hxk
 replace hkk : R2 kk = some ⟨u, x, y, (ss), ii, .slice pq nq cq, cc⟩ := by rw [eR2, hkR_ne hxkk (fun e => ne_k_kk (Option.some.inj e))]; exact hkk
 refine w_nil (xn_then (w_seq (w_reg ?_)))
 refine wl_m (.tmp 0) (pt t 0) ?_
 refine wl_m (.tmp 7) (pt kk 0) ?_
 refine wl_m (.tmp 2) (.int .i64 (1)) ?_
 refine wl_b .sub 3 (.const (.int .i64 (1))) (.tmp 36) (.int .i64 (1)) (.int .i64 (1)) (.int .i64 (0)) (subI (a := 1) (b := 1) (by decide) (by decide) _ _ _) ?_
 refine wl_m (.tmp 1) (pt k 0) ?_
 refine wl_callg 47 [(.tmp 34), (.tmp 35), (.tmp 37), (.tmp 38)] _ [pt t 0, pt kk 0, .int .i64 (0), pt k 0] (.tuple #[]) rfl rfl (fun _ _ => by kernel_rfl) (hang_n hS (some kk) (some k) false (fun j e => by cases e; exact ⟨_, hk⟩) (fun j e => by cases e; exact ⟨_, hkk⟩) (fun j e q => by cases e; cases q; exact ne_k_kk rfl)) rfl ?_
 intro w4 hF
 obtain ⟨hS2, hM2⟩ := hF
 replace hS := hS2
 replace M := M.same hM2
 clear hS2 hM2
 replace hS : HS D _ t mb _ root1 lk := hS
 obtain ⟨R3, eR3⟩ : ∃ X, X = hkR R2 (some kk) false (some k) := ⟨_, rfl⟩
 rw [← eR3] at hS
 replace hkk : R3 kk = some ⟨u, (some k), y, (ss), ii, .slice pq nq cq, cc⟩ := by rw [eR3]; exact hkR_par hkk (fun e => ne_k_kk (Option.some.inj e))
 replace hk : R3 k = some ⟨(some kk), o, x, (s), i, .slice pk nk ck, c⟩ := by rw [eR3]; exact hkR_self hk (fun e => ne_k_kk (Option.some.inj e).symm)
 have hA3 : Ap R3 := by rw [eR3, eR2, eR1]; exact ((hA.hk _ _ _).hk _ _ _).hk _ _ _
 have z1 : szo R3 o so := by rw [eR3, eR2, eR1]; exact ((ho.hk _ _ _).hk _ _ _).hk _ _ _
 have z2 : szo R3 x sx := by rw [eR3, eR2, eR1]; exact ((hsx.hk _ _ _).hk _ _ _).hk _ _ _
 have y1 : ∀ c9, c9 < mb.sc.length → smo R3 o c9 (Of c9) := fun c9 h9 => by rw [eR3, eR2, eR1]; exact (((mo c9 h9).hk _ _ _).hk _ _ _).hk _ _ _
 have y2 : ∀ c9, c9 < mb.sc.length → smo R3 x c9 (Xf c9) := fun c9 h9 => by rw [eR3, eR2, eR1]; exact (((mx c9 h9).hk _ _ _).hk _ _ _).hk _ _ _
 refine w_nil (xn_then (w_seq ?_))
 refine w_any 12 [.inl (pt kk 0), .inl (pt k 0), .inl (pt k 0), .inl (pt k 0), .inl (pt k 6), .inl (.slice pk nk ck), .inl (pt kk 0), .inl (pt kk 0), .inl (pt kk 6), .inl (.slice pq nq cq), .inl (pt kk 0), .inl (pt kk 6)] [1] (by kernel_rfl) (by kernel_rfl) (by kernel_rfl) (by kernel_rfl) rfl (by kernel_rfl) (by kernel_rfl) (late_cons ⟨_, _, rfl, rfl, fun _ _ _ _ h => h, fun f hd => ⟨rfl, la_mv (.tmp 1) (pt k 0) (fun _ => rfl) rfl⟩⟩ late_nil) ?_ ?_ ?_
 ·exact Ds.none rfl
 ·refine ea_cons ?_ (ea_cons ?_ (ea_cons ?_ (ea_cons ?_ (ea_cons ?_ (ea_cons ?_ (ea_cons ?_ (ea_cons ?_ (ea_cons ?_ (ea_cons ?_ (ea_cons ?_ (ea_cons ?_ (ea_nil))))))))))))
  ·exact og_eq _ rfl (fun f wf hq hd K hK => go_run rfl (wo_mv (.tmp 7) (pt kk 0) (fun _ => rfl) rfl (hK _ (Mo.refl _))))
  ·exact og_eq _ rfl (fun f wf hq hd K hK => go_run rfl (wo_mv (.tmp 1) (pt k 0) (fun _ => rfl) rfl (hK _ (Mo.refl _))))
  ·exact og_eq _ rfl (fun f wf hq hd K hK => go_run rfl (wo_mv (.tmp 1) (pt k 0) (fun _ => rfl) rfl (hK _ (Mo.refl _))))
  ·exact og_eq _ rfl (fun f wf hq hd K hK => go_run rfl (wo_nc (.tmp 42) k 0 rfl (hd 2 rfl) (hK _ (Mo.refl _))))
  ·exact og_eq _ rfl (fun f wf hq hd K hK => go_run rfl (wo_un (fun v => Instr.fieldAt 93 v 4) (.tmp 43) (pt k 0) (pt k 6) (fun _ => rfl) (hd 3 rfl) (by kernel_rfl) (hK _ (Mo.refl _))))
  ·exact og_eq _ rfl (fun f wf hq hd K hK => have hS := hS.mo hq; go_run rfl (wo_load 47 (.tmp 44) (pt k 6) (.slice pk nk ck) rfl (hd 4 rfl) (run_one (hS.rc k _ hk) 47 6 rfl Try.underlying47 rfl) (hK _ (Mo.refl _))))
  ·exact og_eq _ rfl (fun f wf hq hd K hK => go_run rfl (wo_mv (.tmp 7) (pt kk 0) (fun _ => rfl) rfl (hK _ (Mo.refl _))))
  ·exact og_eq _ rfl (fun f wf hq hd K hK => go_run rfl (wo_nc (.tmp 46) kk 0 rfl (hd 6 rfl) (hK _ (Mo.refl _))))
  ·exact og_eq _ rfl (fun f wf hq hd K hK => go_run rfl (wo_un (fun v => Instr.fieldAt 93 v 4) (.tmp 47) (pt kk 0) (pt kk 6) (fun _ => rfl) (hd 7 rfl) (by kernel_rfl) (hK _ (Mo.refl _))))
  ·exact og_eq _ rfl (fun f wf hq hd K hK => have hS := hS.mo hq; go_run rfl (wo_load 47 (.tmp 48) (pt kk 6) (.slice pq nq cq) rfl (hd 8 rfl) (run_one (hS.rc kk _ hkk) 47 6 rfl Try.underlying47 rfl) (hK _ (Mo.refl _))))
  ·exact og_eq _ rfl (fun f wf hq hd K hK => go_run rfl (wo_nc (.tmp 40) kk 0 rfl (hd 0 rfl) (hK _ (Mo.refl _))))
  ·exact og_eq _ rfl (fun f wf hq hd K hK => go_run rfl (wo_un (fun v => Instr.fieldAt 93 v 4) (.tmp 50) (pt kk 0) (pt kk 6) (fun _ => rfl) (hd 10 rfl) (by kernel_rfl) (hK _ (Mo.refl _))))
 intro kf5 w5 hq _ _
 replace hS := hS.mo hq
 replace M := M.trans hq
 clear hq
 refine wl_st1x 47 (.tmp 51) (.tmp 45) kk 6 (.slice pk nk ck) _ [.int .i64 (ii.i), ii.v, pp u, pt k 0, pp y, .int .i64 (ss), .slice pk nk ck] (hS.rc kk _ hkk) rfl rfl rfl rfl rfl zs47 rfl rfl rfl rfl ?_
 intro w6 hT hA9
 have hno : ∀ b, ob (.slice pq nq cq) = some b → ¬ (b = kk) := fun b hb q => by have := (hS.ds hkk (Or.inr hb)).2.2; rw [q, hkk] at this; cases this
 have hno2 : ∀ b, ob (.slice pq nq cq) = some b → ¬ (b = k) := fun b hb q => by have := (hS.ds hkk (Or.inr hb)).2.2; rw [q, hk] at this; cases this
 have hR2 := (hS.ss kk _ hkk)
 replace hR2 := And.intro (hR2.1.kept (Mk.st1 hT) hno) hR2.2
 have hD2 : ∀ {b}, ob (.slice pq nq cq) = some b → D b ∧ b ≠ t ∧ R3 b = none := fun hb => hS.ds hkk (Or.inr hb)
 replace M := M.st hT (hS.dk hkk)
 replace hS := hS.put hkk ⟨u, (some k), y, (ss), ii, .slice pk nk ck, c⟩ hT hA9 rfl ⟨_, _, hk, rfl, rfl⟩
 clear hT hA9
 have hkk0 := hkk
 have hk0 := hk
 obtain ⟨R4, eR4⟩ : ∃ X, X = ud R3 kk ⟨u, (some k), y, (ss), ii, .slice pk nk ck, c⟩ := ⟨_, rfl⟩
 rw [← eR4] at hS
 replace hk : R4 k = some ⟨(some kk), o, x, (s), i, .slice pk nk ck, c⟩ := by rw [eR4, ud_ne _ _ ne_k_kk]; exact hk
 have hkk : R4 kk = some ⟨u, (some k), y, (ss), ii, .slice pk nk ck, c⟩ := by rw [eR4]; exact ud_same _ _ _
 replace hD2 : ∀ {b}, ob (.slice pq nq cq) = some b → D b ∧ b ≠ t ∧ R4 b = none := fun {b} hb => ⟨(hD2 hb).1, (hD2 hb).2.1, by rw [eR4, ud_ne _ _ (hno b hb)]; exact (hD2 hb).2.2⟩
 refine wl_nc (.tmp 41) k 0 rfl rfl rfl ?_
 refine wl_f 93 4 (.tmp 52) (pt k 0) (pt k 6) ?_
 refine wl_st1x 47 (.tmp 53) (.tmp 49) k 6 (.slice pq nq cq) _ [.int .i64 (i.i), i.v, pt kk 0, pp o, pp x, .int .i64 (s), .slice pq nq cq] (hS.rc k _ hk) rfl rfl rfl rfl rfl zs47 rfl rfl rfl rfl ?_
 intro w7 hT hA9
 replace M := M.st hT (hS.dk hk)
 replace hS := hS.put2 hk ⟨(some kk), o, x, (s), i, .slice pq nq cq, cc⟩ hT hA9 rfl ⟨hR2.1.kept (Mk.st1 hT) hno2, hR2.2⟩ hD2
 clear hT hA9 hR2 hD2 hno hno2
 obtain ⟨R5, eR5⟩ : ∃ X, X = ud R4 k ⟨(some kk), o, x, (s), i, .slice pq nq cq, cc⟩ := ⟨_, rfl⟩
 rw [← eR5] at hS
 have hk : R5 k = some ⟨(some kk), o, x, (s), i, .slice pq nq cq, cc⟩ := by rw [eR5]; exact ud_same _ _ _
 replace hkk : R5 kk = some ⟨u, (some k), y, (ss), ii, .slice pk nk ck, c⟩ := by rw [eR5, ud_ne _ _ ne_k_kk.symm]; exact hkk
 have hAp : Ap R5 := hA3.swap hk0 hkk0 (fun h => by rw [hk] at h; cases h; exact ⟨rfl, rfl⟩) (fun h => by rw [hkk] at h; cases h; exact ⟨rfl, rfl⟩) (fun j h1 h2 => by rw [eR5, ud_ne _ _ h1, eR4, ud_ne _ _ h2])
 refine w_nil (xn_then (w_seq (w_reg ?_)))
 refine wl_m (.tmp 7) (pt kk 0) ?_
 refine wl_m (.tmp 1) (pt k 0) ?_
 refine wl_nc (.tmp 55) k 0 rfl rfl rfl ?_
 refine wl_f 93 3 (.tmp 56) (pt k 0) (pt k 5) ?_
 refine wl_l 3 (.tmp 57) (pt k 5) (.int .i64 (s)) (run_one (hS.rc k _ hk) 3 5 rfl Try.underlying3 rfl) ?_
 refine wl_nc (.tmp 54) kk 0 rfl rfl rfl ?_
 refine wl_f 93 3 (.tmp 59) (pt kk 0) (pt kk 5) ?_
 have hkk5 := hkk
 refine wl_st1x 3 (.tmp 60) (.tmp 58) kk 5 (.int .i64 (s)) _ [.int .i64 (ii.i), ii.v, pp u, pt k 0, pp y, .int .i64 (s), .slice pk nk ck] (hS.rc kk _ hkk) rfl rfl rfl rfl rfl zs3 rfl rfl rfl rfl ?_
 intro w8 hT hA
 replace M := M.st hT (hS.dk hkk)
 replace hS := hS.put hkk ⟨u, (some k), y, (s), ii, .slice pk nk ck, c⟩ hT hA rfl ⟨_, _, hkk, rfl, rfl⟩
 clear hT hA
 obtain ⟨R6, eR6⟩ : ∃ X, X = ud R5 kk ⟨u, (some k), y, (s), ii, .slice pk nk ck, c⟩ := ⟨_, rfl⟩
 rw [← eR6] at hS
 replace hk : R6 k = some ⟨(some kk), o, x, (s), i, .slice pq nq cq, cc⟩ := by rw [eR6, ud_ne _ _ ne_k_kk]; exact hk
 have hkk : R6 kk = some ⟨u, (some k), y, (s), ii, .slice pk nk ck, c⟩ := by rw [eR6]; exact ud_same _ _ _
 refine w_nil (xn_then (w_seq (w_reg ?_)))
 refine wl_m (.tmp 0) (pt t 0) ?_
 refine wl_m (.tmp 1) (pt k 0) ?_
 replace z1 : szo R6 o so := by rw [eR6, eR5, eR4]; exact ((z1.ud _ hokk).ud _ hok).ud _ hokk
 replace z2 : szo R6 x sx := by rw [eR6, eR5, eR4]; exact ((z2.ud _ hxkk).ud _ hxk).ud _ hxkk
 replace y1 : ∀ c9, c9 < mb.sc.length → smo R6 o c9 (Of c9) := fun c9 h9 => by rw [eR6, eR5, eR4]; exact (((y1 c9 h9).ud _ hokk).ud _ hok).ud _ hokk
 replace y2 : ∀ c9, c9 < mb.sc.length → smo R6 x c9 (Xf c9) := fun c9 h9 => by rw [eR6, eR5, eR4]; exact (((y2 c9 h9).ud _ hxkk).ud _ hxk).ud _ hxkk
 have hAp6 : Ap R6 := by rw [eR6]; exact hAp.wr hkk5 rfl rfl
 have hk6 := hk
 refine wl_callg 59 [(.tmp 61), (.tmp 62)] _ [pt t 0, pt k 0] (.tuple #[]) rfl rfl (fun _ _ => by kernel_rfl) (mend_n hS hAp6 hk z1 (by omega) (by omega) z2 (by omega) (by omega) hok hxk y1 y2) rfl ?_
 intro w9 hF
 obtain ⟨hS2, hM2⟩ := hF
 replace hS := hS2
 replace M := M.same hM2
 clear hS2 hM2
 obtain ⟨R7, eR7⟩ : ∃ X, X = ud R6 k ⟨(some kk), o, x, (1 + so + sx), i, .slice pq nq cq, (mds mb.sc i Of Xf)⟩ := ⟨_, rfl⟩
 rw [← eR7] at hS
 have hk : R7 k = some ⟨(some kk), o, x, (1 + so + sx), i, .slice pq nq cq, (mds mb.sc i Of Xf)⟩ := by rw [eR7]; exact ud_same _ _ _
 replace hkk : R7 kk = some ⟨u, (some k), y, (s), ii, .slice pk nk ck, c⟩ := by rw [eR7, ud_ne _ _ ne_k_kk.symm]; exact hkk
 have hAp7 : Ap R7 := by rw [eR7]; exact hAp6.wr hk6 rfl rfl
 refine w_nil (xn_then (w_seq (w_reg ?_)))
 refine wl_m (.tmp 7) (pt kk 0) ?_
 refine wl_m (.tmp 64) (pt kk 0) ?_
 refine w_nil (xn_then (w_ret ?_))
 refine w_ret1 _ (pt kk 0) rfl rfl ⟨rfl, R7, root1, hS, eroot, ⟨hk, hkk, fun j r e hr => ?_, fun p q e hq => ?_, fun j h1 h2 h3 h4 => ?_, hAp7⟩, M⟩
 ·have hjk : j ≠ k := fun q => hxk (by rw [e, q])
  have hjkk : j ≠ kk := fun q => hxkk (by rw [e, q])
  have huj : u ≠ some j := fun q => hux q e
  rw [eR7, ud_ne _ _ hjk, eR6, ud_ne _ _ hjkk, eR5, ud_ne _ _ hjk, eR4, ud_ne _ _ hjkk, eR3, hkR_ne (fun q => hjk (Option.some.inj q).symm) (fun q => hjkk (Option.some.inj q).symm), eR2, e]
  exact hkR_self (by rw [eR1, hkR_ne (fun q => hjkk (Option.some.inj q).symm) huj]; exact hr) (fun q => hjk (Option.some.inj q).symm)
 ·have hpk : p ≠ k := fun q => hukk (by rw [e, q])
  have hpkk : p ≠ kk := fun q => huk (by rw [e, q])
  have hxp : x ≠ some p := fun q => hux e q
  rw [eR7, ud_ne _ _ hpk, eR6, ud_ne _ _ hpkk, eR5, ud_ne _ _ hpk, eR4, ud_ne _ _ hpkk, eR3, hkR_ne (fun q => hpk (Option.some.inj q).symm) (fun q => hpkk (Option.some.inj q).symm), eR2, hkR_ne hxp (fun q => hpk (Option.some.inj q).symm), eR1, e]
  exact hkR_par hq (fun q => hpkk (Option.some.inj q).symm)
 ·rw [eR7, ud_ne _ _ h1, eR6, ud_ne _ _ h2, eR5, ud_ne _ _ h1, eR4, ud_ne _ _ h2, eR3, hkR_ne (fun q => h1 (Option.some.inj q).symm) (fun q => h2 (Option.some.inj q).symm), eR2, hkR_ne h3 (fun q => h1 (Option.some.inj q).symm), eR1]
  exact hkR_ne (fun q => h2 (Option.some.inj q).symm) h4
end
end G
end Go.Proofs.Ythfemlhmnjfjiaa
