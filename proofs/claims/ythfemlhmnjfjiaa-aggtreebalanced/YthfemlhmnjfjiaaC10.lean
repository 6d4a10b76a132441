/-
  A part of the proof.
-/
import Derived.Test.YthfemlhmnjfjiaaC9
/-
  part: a column's summary of some rows.
-/
namespace Go.Proofs.Ythfemlhmnjfjiaa
open Go.RowKit
namespace G
theorem two_ok {A B : Sm} (ha : A.ok) (hb : B.ok) : ∀ T ∈ [A, B], T.ok := fun T hT => by
  simp only [List.mem_cons, List.mem_nil_iff, or_false] at hT
  rcases hT with rfl | rfl
  · exact ha
  · exact hb
theorem li5 {a b c d e f g i j k : Value} (h : a = b) (l : c = d) (m : e = f) (p : g = i) (q : j = k) : [a, c, e, g, j] = [b, d, f, i, k] := by rw [h, l, m, p, q]
/-- How many nodes are looked at. -/
def pbd (a b s h : Int) (lk lk' : Int) : Prop := lk' ≤ lk + 1 + 4 * h ∧ (a ≤ 0 ∨ s ≤ b → lk' ≤ lk + 1 + 2 * h) ∧ (b ≤ 0 ∨ s ≤ a ∨ (a ≤ 0 ∧ s ≤ b) → lk' ≤ lk + 1)
section
variable {D : Nat → Prop} {t : Nat} {mb : Hd} {R : Mp} {root : Option Nat} {c : Nat}
theorem prt_nil (c : Nat) (s a b : Int) : prt c s a b [] = sm0 := by unfold prt; rw [List.take_nil, List.drop_nil]; rfl
theorem cnt1 (k : Nat) : cnt [some k] = 1 := rfl
set_option maxHeartbeats 8000000 in
theorem part_n : ∀ (tr : T) {w : World} {u : Option Nat} {lk fa ta : Int}, c < mb.sc.length → HS D w t mb R root lk → Rep mb.sc R u tr → tr.ok → tr.sz ≤ 1024 → (-1000000 + tr.sz ≤ fa ∧ fa ≤ 1000000) → (-1000000 + tr.sz ≤ ta ∧ ta ≤ 1000000) → 0 ≤ lk → lk + 10 * tr.sz ≤ 4000000000000000000 →
    Calls Try.prog 33 #[pt t 0, pp tr.p, .int .i64 (c : Int), .int .i64 fa, .int .i64 ta] w fun e w' => e = .returned (smv (prt c (mb.sc.getD c 0) fa ta tr.ids)) ∧ ∃ lk', HS D w' t mb R root lk' ∧ lk ≤ lk' ∧ pbd fa ta tr.sz tr.ht lk lk' ∧ Mk D w w'
  | .e, w, u, lk, fa, ta, hc, hS, hr, hok, hsz, hf, ht, hl0, hlk => by
    have hDlt : ∀ j, D j → j < w.heap.size := fun j e => hS.lt e
    have hslt : ∀ b, ob mb.h = some b → b < w.heap.size := fun b e => hS.sc.lt e
    simp only [T.sz] at hlk
    refine w_enter 99 Try.func33 Try.ntmps33 rfl rfl ?_
    have M : Mk D w w := Mk.refl _ _
    refine w_seq ?_
    refine w_reg ?_
    refine wl_alloc 42 #[.int .i64 0, .int .i64 0, .int .i64 0, .int .i64 0, .int .i64 0, .int .u64 0, .int .u64 0, .int .u64 0, .int .u64 0, .int .u64 0, .bool false, .bool false, .int .u64 0, .int .u64 0, .int .u64 0, .int .u64 0, .int .i64 0, .bool false, .int .u64 0, .int .u64 0, .int .u64 0, .int .u64 0, .int .i64 0] rfl (fun _ => by kernel_rfl) rfl ?_
    intro k1 w1 hk9 hz hq Q1
    have hMs := M.size
    have N_k1 : w.heap.size ≤ k1 := by omega
    have nd_k1 : ¬ D k1 := fun e => by have := hDlt _ e; omega
    have ns_k1 : ∀ b, ob mb.h = some b → b ≠ k1 := fun b hb => by have := hslt b hb; omega
    replace hS := hS.mo hq
    replace M := M.trans hq
    clear hk9 hz hq hMs
    refine w_nil ?_
    refine xn_then ?_
    refine w_seq ?_
    refine w_reg ?_
    refine wl_mv (.tmp 0) (pt t 0) (fun _ => rfl) rfl rfl ?_
    refine wl_mv (.tmp 1) (pp none) (fun _ => rfl) rfl rfl ?_
    refine wl_bsl [(0, (.tmp 14))] [pp none] 1 rfl rfl (bs1 none) rfl ?_
    intro g2 w2 hk hz hq Q2
    have nd_g2 : ¬ D g2 := fun e => by have := hS.lt e; omega
    replace Q1 := Q1.mo hq
    replace hS := hS.mo hq
    replace M := M.trans hq
    clear hk hz hq
    refine wl_callg 34 [(.tmp 13), (.tmp 15)] _ [pt t 0, .slice (some ⟨g2, 0, none⟩) 1 1] (.tuple #[]) rfl rfl (fun _ _ => by kernel_rfl) (look_n [none] g2 hS Q2 nd_g2 (by simp only [List.length_cons, List.length_nil]; omega)) rfl ?_
    intro w3 hF
    replace Q1 := hF.2.at Q1 nd_k1
    have hc1 := cnt_le [none]
    simp only [List.length_cons, List.length_nil] at hc1
    obtain ⟨hS2, hM2⟩ := hF
    replace hS := hS2
    replace M := M.same hM2
    clear hS2 hM2 Q2 nd_g2
    refine w_nil ?_
    refine xn_then ?_
    refine w_seq ?_
    refine w_seq ?_
    refine w_reg ?_
    refine wl_mv (.tmp 1) (pp none) (fun _ => rfl) rfl rfl ?_
    refine wl_bin (fun x y => do eqGuard .eql 65 (.tmp 17) (.const (.pointer none)) x y; binOp .eql 65 x y) (.tmp 17) (.const (.pointer none)) (pp none) (pp none) (.bool true) (fun _ => rfl) rfl rfl (eqP none _ _ _) rfl ?_
    refine wl_mv (.tmp 18) (.bool true) (fun _ => rfl) rfl rfl ?_
    refine wl_skip rfl ?_
    refine wl_skip rfl ?_
    refine wl_pick (.tmp 19) (.const (.bool true)) (.tmp 21) true (.bool true) (fun _ => rfl) rfl rfl rfl ?_
    refine wl_mv (.tmp 22) (.bool true) (fun _ => rfl) rfl rfl ?_
    refine wl_skip rfl ?_
    refine wl_skip rfl ?_
    refine wl_skip rfl ?_
    refine wl_skip rfl ?_
    refine wl_skip rfl ?_
    refine wl_skip rfl ?_
    refine wl_pick (.tmp 23) (.const (.bool true)) (.tmp 29) true (.bool true) (fun _ => rfl) rfl rfl rfl ?_
    refine w_nil ?_
    refine xn_then ?_
    refine w_condT rfl ?_
    refine w_seq ?_
    refine w_reg ?_
    refine wl_call 49 [(.const (.slice none 0 0))] _ [.slice none 0 0] (smv sm0) rfl rfl (fun _ _ => by kernel_rfl) (join_n [] none 0 (fun _ h => by cases h) (fun _ _ h => by cases h) (by decide)) rfl ?_
    intro w4 hq
    replace Q1 := Q1.mo hq
    replace hS := hS.mo hq
    replace M := M.trans hq
    clear hq
    refine wl_stx2 42 (.tmp 10) (.tmp 31) k1 0 ((sml sm0).toArray) [.int .i64 0, .int .i64 0, .int .i64 0, .int .i64 0, .int .i64 0, .int .u64 0, .int .u64 0, .int .u64 0, .int .u64 0, .int .u64 0, .bool false, .bool false, .int .u64 0, .int .u64 0, .int .u64 0, .int .u64 0, .int .i64 0, .bool false, .int .u64 0, .int .u64 0, .int .u64 0, .int .u64 0, .int .i64 0] (sml sm0) Q1 rfl rfl rfl rfl rfl zs42 rfl rfl rfl ?_
    intro w5 hT Qn
    replace Q1 := Qn
    have hK := Mk.st1 hT
    replace hS := hS.kept hK (fun j e q => nd_k1 (q ▸ e)) (fun b hb q => ns_k1 b hb q)
    replace M := M.tr hK (fun j hj e => absurd e (by omega))
    clear hT hK Qn
    refine w_nil ?_
    refine xn_then ?_
    refine w_ret ?_
    refine xr_then ?_
    exact w_ret1 _ (smv sm0) rfl ⟨k1, rfl, (run_row Q1 42 0 23 (sml sm0) rfl Try.underlying42 rfl zs42)⟩ ⟨by rw [show prt c (mb.sc.getD c 0) fa ta T.e.ids = sm0 from prt_nil _ _ _ _], _, hS, by show lk ≤ lk + 0; omega, by unfold pbd; show lk + 0 ≤ _ ∧ (_ → lk + 0 ≤ _) ∧ (_ → lk + 0 ≤ _); refine ⟨by omega, fun _ => by omega, fun _ => by omega⟩, M⟩
  | .n k i s l r, w, u, lk, fa, ta, hc, hS, hr, hok, hsz, hf, ht, hl0, hlk => by
    have hDlt : ∀ j, D j → j < w.heap.size := fun j e => hS.lt e
    have hslt : ∀ b, ob mb.h = some b → b < w.heap.size := fun b e => hS.sc.lt e
    obtain ⟨hd1, hk⟩ := hr.1
    have hss := hok.1
    have hln := T.sz_nn l
    have hrn := T.sz_nn r
    have hlz := T.sz_ids l
    have hrz := T.sz_ids r
    have hhl := T.ht_le l
    have hhr := T.ht_le r
    have hz9 : ((l.ids ++ i :: r.ids).length : Int) = s := by rw [List.length_append, List.length_cons]; omega
    have hh9 : (T.n k i s l r).ht = 1 + max l.ht r.ht := rfl
    have hs9 : (T.n k i s l r).sz = 1 + l.sz + r.sz := rfl
    have hokl := Rep.oks hS hr.2.1
    have hokr := Rep.oks hS hr.2.2
    have hoki : i.ok := (hS.sv k _ hk).2.2
    have hcl : c < (agg mb.sc (l.ids ++ i :: r.ids)).length := by unfold agg; simp; exact hc
    have hvl : i.vs.length = mb.sc.length := (hS.sv k _ hk).2.1
    obtain ⟨Sn, hSn⟩ : ∃ X, X = col c (mb.sc.getD c 0) (l.ids ++ i :: r.ids) := ⟨_, rfl⟩
    obtain ⟨So, hSo⟩ : ∃ X, X = ofs (i.vs.getD c v0) (mb.sc.getD c 0) := ⟨_, rfl⟩
    have okSo : So.ok := by rw [hSo]; exact (ofs_n _ (hoki.at c) _).1
    have hcv : i.vs[c]? = some (i.vs.getD c v0) := by rw [List.getD_eq_getElem?_getD, List.getElem?_eq_getElem (by omega)]; rfl
    have hsc : mb.sc[c]? = some (mb.sc.getD c 0) := by rw [List.getD_eq_getElem?_getD, List.getElem?_eq_getElem hc]; rfl
    rw [hs9] at hf ht hlk hsz
    have hc1 := cnt1 k
    refine w_enter 99 Try.func33 Try.ntmps33 rfl rfl ?_
    have M : Mk D w w := Mk.refl _ _
    refine w_seq ?_
    refine w_reg ?_
    refine wl_alloc 42 #[.int .i64 0, .int .i64 0, .int .i64 0, .int .i64 0, .int .i64 0, .int .u64 0, .int .u64 0, .int .u64 0, .int .u64 0, .int .u64 0, .bool false, .bool false, .int .u64 0, .int .u64 0, .int .u64 0, .int .u64 0, .int .i64 0, .bool false, .int .u64 0, .int .u64 0, .int .u64 0, .int .u64 0, .int .i64 0] rfl (fun _ => by kernel_rfl) rfl ?_
    intro k1 w1 hk9 hz hq Q1
    have hMs := M.size
    have N_k1 : w.heap.size ≤ k1 := by omega
    have nd_k1 : ¬ D k1 := fun e => by have := hDlt _ e; omega
    have ns_k1 : ∀ b, ob mb.h = some b → b ≠ k1 := fun b hb => by have := hslt b hb; omega
    replace hS := hS.mo hq
    replace M := M.trans hq
    clear hk9 hz hq hMs
    refine w_nil ?_
    refine xn_then ?_
    refine w_seq ?_
    refine w_reg ?_
    refine wl_mv (.tmp 0) (pt t 0) (fun _ => rfl) rfl rfl ?_
    refine wl_mv (.tmp 1) (pt k 0) (fun _ => rfl) rfl rfl ?_
    refine wl_bsl [(0, (.tmp 14))] [pp (some k)] 1 rfl rfl (bs1 (some k)) rfl ?_
    intro g2 w2 hk hz hq Q2
    have nd_g2 : ¬ D g2 := fun e => by have := hS.lt e; omega
    replace Q1 := Q1.mo hq
    replace hS := hS.mo hq
    replace M := M.trans hq
    clear hk hz hq
    refine wl_callg 34 [(.tmp 13), (.tmp 15)] _ [pt t 0, .slice (some ⟨g2, 0, none⟩) 1 1] (.tuple #[]) rfl rfl (fun _ _ => by kernel_rfl) (look_n [(some k)] g2 hS Q2 nd_g2 (by simp only [List.length_cons, List.length_nil]; omega)) rfl ?_
    intro w3 hF
    replace Q1 := hF.2.at Q1 nd_k1
    have hc1 := cnt_le [(some k)]
    simp only [List.length_cons, List.length_nil] at hc1
    obtain ⟨hS2, hM2⟩ := hF
    replace hS := hS2
    replace M := M.same hM2
    clear hS2 hM2 Q2 nd_g2
    refine w_nil ?_
    refine xn_then ?_
    refine w_seq ?_
    refine w_seq ?_
    cases hf0 : decide (ta ≤ 0) with
    | true =>
      have hf0p := of_decide_eq_true hf0
      refine w_reg ?_
      refine wl_mv (.tmp 1) (pt k 0) (fun _ => rfl) rfl rfl ?_
      refine wl_bin (fun x y => do eqGuard .eql 65 (.tmp 17) (.const (.pointer none)) x y; binOp .eql 65 x y) (.tmp 17) (.const (.pointer none)) (pt k 0) (pp none) (.bool false) (fun _ => rfl) rfl rfl (eqP (some k) _ _ _) rfl ?_
      refine wl_mv (.tmp 18) (.bool false) (fun _ => rfl) rfl rfl ?_
      refine wl_mv (.tmp 4) (.int .i64 (ta)) (fun _ => rfl) rfl rfl ?_
      refine wl_bin (fun x y => do eqGuard .leq 3 (.tmp 20) (.const (.int .i64 (0))) x y; binOp .leq 3 x y) (.tmp 20) (.const (.int .i64 (0))) (.int .i64 (ta)) (.int .i64 (0)) (.bool true) (fun _ => rfl) rfl rfl (leI hf0 _ _ _) rfl ?_
      refine wl_pick (.tmp 19) (.const (.bool true)) (.tmp 21) false (.bool true) (fun _ => rfl) rfl rfl rfl ?_
      refine wl_mv (.tmp 22) (.bool true) (fun _ => rfl) rfl rfl ?_
      refine wl_skip rfl ?_
      refine wl_skip rfl ?_
      refine wl_skip rfl ?_
      refine wl_skip rfl ?_
      refine wl_skip rfl ?_
      refine wl_skip rfl ?_
      refine wl_pick (.tmp 23) (.const (.bool true)) (.tmp 29) true (.bool true) (fun _ => rfl) rfl rfl rfl ?_
      refine w_nil ?_
      refine xn_then ?_
      refine w_condT rfl ?_
      refine w_seq ?_
      refine w_reg ?_
      refine wl_call 49 [(.const (.slice none 0 0))] _ [.slice none 0 0] (smv sm0) rfl rfl (fun _ _ => by kernel_rfl) (join_n [] none 0 (fun _ h => by cases h) (fun _ _ h => by cases h) (by decide)) rfl ?_
      intro w4 hq
      replace Q1 := Q1.mo hq
      replace hS := hS.mo hq
      replace M := M.trans hq
      clear hq
      refine wl_stx2 42 (.tmp 10) (.tmp 31) k1 0 ((sml sm0).toArray) [.int .i64 0, .int .i64 0, .int .i64 0, .int .i64 0, .int .i64 0, .int .u64 0, .int .u64 0, .int .u64 0, .int .u64 0, .int .u64 0, .bool false, .bool false, .int .u64 0, .int .u64 0, .int .u64 0, .int .u64 0, .int .i64 0, .bool false, .int .u64 0, .int .u64 0, .int .u64 0, .int .u64 0, .int .i64 0] (sml sm0) Q1 rfl rfl rfl rfl rfl zs42 rfl rfl rfl ?_
      intro w5 hT Qn
      replace Q1 := Qn
      have hK := Mk.st1 hT
      replace hS := hS.kept hK (fun j e q => nd_k1 (q ▸ e)) (fun b hb q => ns_k1 b hb q)
      replace M := M.tr hK (fun j hj e => absurd e (by omega))
      clear hT hK Qn
      refine w_nil ?_
      refine xn_then ?_
      refine w_ret ?_
      refine xr_then ?_
      exact w_ret1 _ (smv sm0) rfl ⟨k1, rfl, (run_row Q1 42 0 23 (sml sm0) rfl Try.underlying42 rfl zs42)⟩ ⟨by show _ = Ending.returned (smv (prt c (mb.sc.getD c 0) fa ta (l.ids ++ i :: r.ids))); rw [(show prt c (mb.sc.getD c 0) fa ta (l.ids ++ i :: r.ids) = sm0 from (prt_lo (by have := of_decide_eq_true hf0; omega)))], _, hS, by have := of_decide_eq_true hf0; omega, by have := of_decide_eq_true hf0; unfold pbd at *; refine ⟨by omega, fun _ => by omega, fun _ => by omega⟩, M⟩
    | false =>
      have hf0p := of_decide_eq_false hf0
      cases hf1 : decide (s ≤ fa) with
      | true =>
        have hf1p := of_decide_eq_true hf1
        refine w_reg ?_
        refine wl_mv (.tmp 1) (pt k 0) (fun _ => rfl) rfl rfl ?_
        refine wl_bin (fun x y => do eqGuard .eql 65 (.tmp 17) (.const (.pointer none)) x y; binOp .eql 65 x y) (.tmp 17) (.const (.pointer none)) (pt k 0) (pp none) (.bool false) (fun _ => rfl) rfl rfl (eqP (some k) _ _ _) rfl ?_
        refine wl_mv (.tmp 18) (.bool false) (fun _ => rfl) rfl rfl ?_
        refine wl_mv (.tmp 4) (.int .i64 (ta)) (fun _ => rfl) rfl rfl ?_
        refine wl_bin (fun x y => do eqGuard .leq 3 (.tmp 20) (.const (.int .i64 (0))) x y; binOp .leq 3 x y) (.tmp 20) (.const (.int .i64 (0))) (.int .i64 (ta)) (.int .i64 (0)) (.bool false) (fun _ => rfl) rfl rfl (leI hf0 _ _ _) rfl ?_
        refine wl_pick (.tmp 19) (.const (.bool true)) (.tmp 21) false (.bool false) (fun _ => rfl) rfl rfl rfl ?_
        refine wl_mv (.tmp 22) (.bool false) (fun _ => rfl) rfl rfl ?_
        refine wl_mv (.tmp 3) (.int .i64 (fa)) (fun _ => rfl) rfl rfl ?_
        refine wl_mv (.tmp 1) (pt k 0) (fun _ => rfl) rfl rfl ?_
        refine wl_nc (.tmp 25) k 0 rfl rfl rfl ?_
        refine wl_un (fun v => Instr.fieldAt 93 v 3) (.tmp 26) (pt k 0) (pt k 5) (fun _ => rfl) rfl (by kernel_rfl) rfl ?_
        refine wl_load 3 (.tmp 27) (pt k 5) (.int .i64 (s)) rfl rfl (run_one (hS.rc k _ hk) 3 5 rfl Try.underlying3 rfl) rfl ?_
        refine wl_bin (fun x y => do eqGuard .geq 3 (.tmp 24) (.tmp 28) x y; binOp .geq 3 x y) (.tmp 24) (.tmp 28) (.int .i64 (fa)) (.int .i64 (s)) (.bool true) (fun _ => rfl) rfl rfl (geI hf1 _ _ _) rfl ?_
        refine wl_pick (.tmp 23) (.const (.bool true)) (.tmp 29) false (.bool true) (fun _ => rfl) rfl rfl rfl ?_
        refine w_nil ?_
        refine xn_then ?_
        refine w_condT rfl ?_
        refine w_seq ?_
        refine w_reg ?_
        refine wl_call 49 [(.const (.slice none 0 0))] _ [.slice none 0 0] (smv sm0) rfl rfl (fun _ _ => by kernel_rfl) (join_n [] none 0 (fun _ h => by cases h) (fun _ _ h => by cases h) (by decide)) rfl ?_
        intro w4 hq
        replace Q1 := Q1.mo hq
        replace hS := hS.mo hq
        replace M := M.trans hq
        clear hq
        refine wl_stx2 42 (.tmp 10) (.tmp 31) k1 0 ((sml sm0).toArray) [.int .i64 0, .int .i64 0, .int .i64 0, .int .i64 0, .int .i64 0, .int .u64 0, .int .u64 0, .int .u64 0, .int .u64 0, .int .u64 0, .bool false, .bool false, .int .u64 0, .int .u64 0, .int .u64 0, .int .u64 0, .int .i64 0, .bool false, .int .u64 0, .int .u64 0, .int .u64 0, .int .u64 0, .int .i64 0] (sml sm0) Q1 rfl rfl rfl rfl rfl zs42 rfl rfl rfl ?_
        intro w5 hT Qn
        replace Q1 := Qn
        have hK := Mk.st1 hT
        replace hS := hS.kept hK (fun j e q => nd_k1 (q ▸ e)) (fun b hb q => ns_k1 b hb q)
        replace M := M.tr hK (fun j hj e => absurd e (by omega))
        clear hT hK Qn
        refine w_nil ?_
        refine xn_then ?_
        refine w_ret ?_
        refine xr_then ?_
        exact w_ret1 _ (smv sm0) rfl ⟨k1, rfl, (run_row Q1 42 0 23 (sml sm0) rfl Try.underlying42 rfl zs42)⟩ ⟨by show _ = Ending.returned (smv (prt c (mb.sc.getD c 0) fa ta (l.ids ++ i :: r.ids))); rw [(show prt c (mb.sc.getD c 0) fa ta (l.ids ++ i :: r.ids) = sm0 from (prt_hi (by have := of_decide_eq_false hf0; have := of_decide_eq_true hf1; omega)))], _, hS, by have := of_decide_eq_false hf0; have := of_decide_eq_true hf1; omega, by have := of_decide_eq_false hf0; have := of_decide_eq_true hf1; unfold pbd at *; refine ⟨by omega, fun _ => by omega, fun _ => by omega⟩, M⟩
      | false =>
        have hf1p := of_decide_eq_false hf1
        refine w_reg ?_
        refine wl_mv (.tmp 1) (pt k 0) (fun _ => rfl) rfl rfl ?_
        refine wl_bin (fun x y => do eqGuard .eql 65 (.tmp 17) (.const (.pointer none)) x y; binOp .eql 65 x y) (.tmp 17) (.const (.pointer none)) (pt k 0) (pp none) (.bool false) (fun _ => rfl) rfl rfl (eqP (some k) _ _ _) rfl ?_
        refine wl_mv (.tmp 18) (.bool false) (fun _ => rfl) rfl rfl ?_
        refine wl_mv (.tmp 4) (.int .i64 (ta)) (fun _ => rfl) rfl rfl ?_
        refine wl_bin (fun x y => do eqGuard .leq 3 (.tmp 20) (.const (.int .i64 (0))) x y; binOp .leq 3 x y) (.tmp 20) (.const (.int .i64 (0))) (.int .i64 (ta)) (.int .i64 (0)) (.bool false) (fun _ => rfl) rfl rfl (leI hf0 _ _ _) rfl ?_
        refine wl_pick (.tmp 19) (.const (.bool true)) (.tmp 21) false (.bool false) (fun _ => rfl) rfl rfl rfl ?_
        refine wl_mv (.tmp 22) (.bool false) (fun _ => rfl) rfl rfl ?_
        refine wl_mv (.tmp 3) (.int .i64 (fa)) (fun _ => rfl) rfl rfl ?_
        refine wl_mv (.tmp 1) (pt k 0) (fun _ => rfl) rfl rfl ?_
        refine wl_nc (.tmp 25) k 0 rfl rfl rfl ?_
        refine wl_un (fun v => Instr.fieldAt 93 v 3) (.tmp 26) (pt k 0) (pt k 5) (fun _ => rfl) rfl (by kernel_rfl) rfl ?_
        refine wl_load 3 (.tmp 27) (pt k 5) (.int .i64 (s)) rfl rfl (run_one (hS.rc k _ hk) 3 5 rfl Try.underlying3 rfl) rfl ?_
        refine wl_bin (fun x y => do eqGuard .geq 3 (.tmp 24) (.tmp 28) x y; binOp .geq 3 x y) (.tmp 24) (.tmp 28) (.int .i64 (fa)) (.int .i64 (s)) (.bool false) (fun _ => rfl) rfl rfl (geI hf1 _ _ _) rfl ?_
        refine wl_pick (.tmp 23) (.const (.bool true)) (.tmp 29) false (.bool false) (fun _ => rfl) rfl rfl rfl ?_
        refine w_nil ?_
        refine xn_then ?_
        refine w_condF rfl ?_
        refine w_skip ?_
        refine xn_then ?_
        refine w_seq ?_
        refine w_seq ?_
        cases hf2 : decide (fa ≤ 0) with
        | true =>
          have hf2p := of_decide_eq_true hf2
          cases hf3 : decide (s ≤ ta) with
          | true =>
            have hf3p := of_decide_eq_true hf3
            refine w_reg ?_
            refine wl_mv (.tmp 3) (.int .i64 (fa)) (fun _ => rfl) rfl rfl ?_
            refine wl_bin (fun x y => do eqGuard .leq 3 (.tmp 32) (.const (.int .i64 (0))) x y; binOp .leq 3 x y) (.tmp 32) (.const (.int .i64 (0))) (.int .i64 (fa)) (.int .i64 (0)) (.bool true) (fun _ => rfl) rfl rfl (leI hf2 _ _ _) rfl ?_
            refine wl_mv (.tmp 33) (.bool true) (fun _ => rfl) rfl rfl ?_
            refine wl_mv (.tmp 4) (.int .i64 (ta)) (fun _ => rfl) rfl rfl ?_
            refine wl_mv (.tmp 1) (pt k 0) (fun _ => rfl) rfl rfl ?_
            refine wl_nc (.tmp 36) k 0 rfl rfl rfl ?_
            refine wl_un (fun v => Instr.fieldAt 93 v 3) (.tmp 37) (pt k 0) (pt k 5) (fun _ => rfl) rfl (by kernel_rfl) rfl ?_
            refine wl_load 3 (.tmp 38) (pt k 5) (.int .i64 (s)) rfl rfl (run_one (hS.rc k _ hk) 3 5 rfl Try.underlying3 rfl) rfl ?_
            refine wl_bin (fun x y => do eqGuard .geq 3 (.tmp 35) (.tmp 39) x y; binOp .geq 3 x y) (.tmp 35) (.tmp 39) (.int .i64 (ta)) (.int .i64 (s)) (.bool true) (fun _ => rfl) rfl rfl (geI hf3 _ _ _) rfl ?_
            refine wl_pick (.tmp 34) (.tmp 40) (.const (.bool false)) true (.bool true) (fun _ => rfl) rfl rfl rfl ?_
            refine w_nil ?_
            refine xn_then ?_
            refine w_condT rfl ?_
            refine w_seq ?_
            refine w_reg ?_
            refine wl_mv (.tmp 1) (pt k 0) (fun _ => rfl) rfl rfl ?_
            refine wl_nc (.tmp 42) k 0 rfl rfl rfl ?_
            refine wl_un (fun v => Instr.fieldAt 93 v 4) (.tmp 43) (pt k 0) (pt k 6) (fun _ => rfl) rfl (by kernel_rfl) rfl ?_
            refine wl_load 47 (.tmp 44) (pt k 6) (hd1) rfl rfl (run_one (hS.rc k _ hk) 47 6 rfl Try.underlying47 rfl) rfl ?_
            refine wl_mv (.tmp 2) (.int .i64 ((c : Nat) : Int)) (fun _ => rfl) rfl rfl ?_
            obtain ⟨b, off, cap, hh, hb9, hf9, hr9, hob⟩ := (hS.ss k _ hk).1.ix (i := c) (cs := sml Sn) (by rw [List.getElem?_map, hSn]; exact congrArg (Option.map sml) (agg_at hc))
            rw [List.length_map] at hh
            refine wl_bin (fun x y => Instr.indexAt 47 x y) (.tmp 45) (.tmp 46) (hd1) (.int .i64 ((c : Nat) : Int)) (pt b (off + c * 23)) (fun _ => rfl) rfl rfl (by show (Instr.indexAt 47 hd1 _).run _ _ = _; rw [show hd1 = _ from hh]; exact ix47 b off c _ _ hcl _) rfl ?_
            refine wl_load 42 (.tmp 47) (pt b (off + c * 23)) (smv Sn) rfl rfl (ld42 hr9) rfl ?_
            refine wl_stx2 42 (.tmp 10) (.tmp 48) k1 0 ((sml Sn).toArray) [.int .i64 0, .int .i64 0, .int .i64 0, .int .i64 0, .int .i64 0, .int .u64 0, .int .u64 0, .int .u64 0, .int .u64 0, .int .u64 0, .bool false, .bool false, .int .u64 0, .int .u64 0, .int .u64 0, .int .u64 0, .int .i64 0, .bool false, .int .u64 0, .int .u64 0, .int .u64 0, .int .u64 0, .int .i64 0] (sml Sn) Q1 rfl rfl rfl rfl rfl zs42 rfl rfl rfl ?_
            intro w4 hT Qn
            replace Q1 := Qn
            have hK := Mk.st1 hT
            replace hS := hS.kept hK (fun j e q => nd_k1 (q ▸ e)) (fun b hb q => ns_k1 b hb q)
            replace M := M.tr hK (fun j hj e => absurd e (by omega))
            clear hT hK Qn
            refine w_nil ?_
            refine xn_then ?_
            refine w_ret ?_
            refine xr_then ?_
            exact w_ret1 _ (smv Sn) rfl ⟨k1, rfl, (run_row Q1 42 0 23 (sml Sn) rfl Try.underlying42 rfl zs42)⟩ ⟨by show _ = Ending.returned (smv (prt c (mb.sc.getD c 0) fa ta (l.ids ++ i :: r.ids))); rw [(show prt c (mb.sc.getD c 0) fa ta (l.ids ++ i :: r.ids) = Sn by rw [hSn]; exact prt_all (by have := of_decide_eq_false hf0; have := of_decide_eq_false hf1; have := of_decide_eq_true hf2; have := of_decide_eq_true hf3; omega) (by have := of_decide_eq_false hf0; have := of_decide_eq_false hf1; have := of_decide_eq_true hf2; have := of_decide_eq_true hf3; omega))], _, hS, by have := of_decide_eq_false hf0; have := of_decide_eq_false hf1; have := of_decide_eq_true hf2; have := of_decide_eq_true hf3; omega, by have := of_decide_eq_false hf0; have := of_decide_eq_false hf1; have := of_decide_eq_true hf2; have := of_decide_eq_true hf3; unfold pbd at *; refine ⟨by omega, fun _ => by omega, fun _ => by omega⟩, M⟩
          | false =>
            have hf3p := of_decide_eq_false hf3
            refine w_reg ?_
            refine wl_mv (.tmp 3) (.int .i64 (fa)) (fun _ => rfl) rfl rfl ?_
            refine wl_bin (fun x y => do eqGuard .leq 3 (.tmp 32) (.const (.int .i64 (0))) x y; binOp .leq 3 x y) (.tmp 32) (.const (.int .i64 (0))) (.int .i64 (fa)) (.int .i64 (0)) (.bool true) (fun _ => rfl) rfl rfl (leI hf2 _ _ _) rfl ?_
            refine wl_mv (.tmp 33) (.bool true) (fun _ => rfl) rfl rfl ?_
            refine wl_mv (.tmp 4) (.int .i64 (ta)) (fun _ => rfl) rfl rfl ?_
            refine wl_mv (.tmp 1) (pt k 0) (fun _ => rfl) rfl rfl ?_
            refine wl_nc (.tmp 36) k 0 rfl rfl rfl ?_
            refine wl_un (fun v => Instr.fieldAt 93 v 3) (.tmp 37) (pt k 0) (pt k 5) (fun _ => rfl) rfl (by kernel_rfl) rfl ?_
            refine wl_load 3 (.tmp 38) (pt k 5) (.int .i64 (s)) rfl rfl (run_one (hS.rc k _ hk) 3 5 rfl Try.underlying3 rfl) rfl ?_
            refine wl_bin (fun x y => do eqGuard .geq 3 (.tmp 35) (.tmp 39) x y; binOp .geq 3 x y) (.tmp 35) (.tmp 39) (.int .i64 (ta)) (.int .i64 (s)) (.bool false) (fun _ => rfl) rfl rfl (geI hf3 _ _ _) rfl ?_
            refine wl_pick (.tmp 34) (.tmp 40) (.const (.bool false)) true (.bool false) (fun _ => rfl) rfl rfl rfl ?_
            refine w_nil ?_
            refine xn_then ?_
            refine w_condF rfl ?_
            refine w_skip ?_
            refine xn_then ?_
            refine w_seq ?_
            refine w_reg ?_
            refine wl_mv (.tmp 0) (pt t 0) (fun _ => rfl) rfl rfl ?_
            refine wl_mv (.tmp 1) (pt k 0) (fun _ => rfl) rfl rfl ?_
            refine wl_nc (.tmp 50) k 0 rfl rfl rfl ?_
            refine wl_un (fun v => Instr.fieldAt 93 v 2) (.tmp 51) (pt k 0) (pt k 3) (fun _ => rfl) rfl (by kernel_rfl) rfl ?_
            refine wl_bin (fun x y => Instr.indexAt 91 x y) (.tmp 52) (.const (.int .i64 (0))) (pt k 3) (.int .i64 (0)) (pt k 3) (fun _ => rfl) rfl rfl (by kernel_rfl) rfl ?_
            refine wl_load 65 (.tmp 53) (pt k 3) (pp l.p) rfl rfl (run_one (hS.rc k _ hk) 65 3 rfl Try.underlying65 rfl) rfl ?_
            refine wl_mv (.tmp 2) (.int .i64 ((c : Nat) : Int)) (fun _ => rfl) rfl rfl ?_
            refine wl_mv (.tmp 3) (.int .i64 (fa)) (fun _ => rfl) rfl rfl ?_
            refine wl_mv (.tmp 4) (.int .i64 (ta)) (fun _ => rfl) rfl rfl ?_
            obtain ⟨Sl, hSl⟩ : ∃ X, X = prt c (mb.sc.getD c 0) fa ta l.ids := ⟨_, rfl⟩
            have okSl : Sl.ok := by rw [hSl]; exact prt_ok hokl
            refine wl_callg 33 [(.tmp 49), (.tmp 54), (.tmp 55), (.tmp 56), (.tmp 57)] _ [pt t 0, pp l.p, .int .i64 ((c : Nat) : Int), .int .i64 (fa), .int .i64 (ta)] (smv Sl) rfl rfl (fun _ _ => by kernel_rfl) (by have h9 := part_n l (fa := fa) (ta := ta) hc hS hr.2.1 hok.2.1 (by omega) ⟨by omega, by omega⟩ ⟨by omega, by omega⟩ (by omega) (by omega); rw [← hSl] at h9; exact h9) rfl ?_
            intro w4 hF
            obtain ⟨lk2, hS2, hl1, hl2, hM2⟩ := hF
            have hl2b := hl2.1
            replace Q1 := hM2.at Q1 nd_k1
            replace hS := hS2
            replace M := M.same hM2
            clear hS2 hM2
            refine wl_alloc 42 #[.int .i64 0, .int .i64 0, .int .i64 0, .int .i64 0, .int .i64 0, .int .u64 0, .int .u64 0, .int .u64 0, .int .u64 0, .int .u64 0, .bool false, .bool false, .int .u64 0, .int .u64 0, .int .u64 0, .int .u64 0, .int .i64 0, .bool false, .int .u64 0, .int .u64 0, .int .u64 0, .int .u64 0, .int .i64 0] rfl (fun _ => by kernel_rfl) rfl ?_
            intro k3 w5 hk9 hz hq Q3
            have hMs := M.size
            have N_k3 : w.heap.size ≤ k3 := by omega
            have nd_k3 : ¬ D k3 := fun e => by have := hDlt _ e; omega
            have ns_k3 : ∀ b, ob mb.h = some b → b ≠ k3 := fun b hb => by have := hslt b hb; omega
            have ne_k1_k3 : k1 ≠ k3 := by have := Q1.lt; omega
            replace Q1 := Q1.mo hq
            replace hS := hS.mo hq
            replace M := M.trans hq
            clear hk9 hz hq hMs
            refine wl_stx2 42 (.tmp 11) (.tmp 58) k3 0 ((sml Sl).toArray) [.int .i64 0, .int .i64 0, .int .i64 0, .int .i64 0, .int .i64 0, .int .u64 0, .int .u64 0, .int .u64 0, .int .u64 0, .int .u64 0, .bool false, .bool false, .int .u64 0, .int .u64 0, .int .u64 0, .int .u64 0, .int .i64 0, .bool false, .int .u64 0, .int .u64 0, .int .u64 0, .int .u64 0, .int .i64 0] (sml Sl) Q3 rfl rfl rfl rfl rfl zs42 rfl rfl rfl ?_
            intro w6 hT Qn
            replace Q3 := Qn
            replace Q1 := hT.other _ _ ne_k1_k3 Q1
            have hK := Mk.st1 hT
            replace hS := hS.kept hK (fun j e q => nd_k3 (q ▸ e)) (fun b hb q => ns_k3 b hb q)
            replace M := M.tr hK (fun j hj e => absurd e (by omega))
            clear hT hK Qn
            refine w_nil ?_
            refine xn_then ?_
            refine w_seq ?_
            refine w_reg ?_
            refine wl_mv (.tmp 1) (pt k 0) (fun _ => rfl) rfl rfl ?_
            refine wl_nc (.tmp 59) k 0 rfl rfl rfl ?_
            refine wl_un (fun v => Instr.fieldAt 93 v 2) (.tmp 60) (pt k 0) (pt k 3) (fun _ => rfl) rfl (by kernel_rfl) rfl ?_
            refine wl_bin (fun x y => Instr.indexAt 91 x y) (.tmp 61) (.const (.int .i64 (0))) (pt k 3) (.int .i64 (0)) (pt k 3) (fun _ => rfl) rfl rfl (by kernel_rfl) rfl ?_
            refine wl_load 65 (.tmp 62) (pt k 3) (pp l.p) rfl rfl (run_one (hS.rc k _ hk) 65 3 rfl Try.underlying65 rfl) rfl ?_
            refine wl_call 46 [(.tmp 63)] _ [pp l.p] (.int .i64 (l.sz)) rfl rfl (fun _ _ => by kernel_rfl) (size_o hS (szo_of hr.2.1 hok.2.1)) rfl ?_
            intro w7 hq
            replace Q1 := Q1.mo hq
            replace Q3 := Q3.mo hq
            replace hS := hS.mo hq
            replace M := M.trans hq
            clear hq
            refine wl_mv (.tmp 64) (.int .i64 (l.sz)) (fun _ => rfl) rfl rfl ?_
            refine w_nil ?_
            refine xn_then ?_
            refine w_seq ?_
            refine w_seq ?_
            cases hf4 : decide (fa ≤ l.sz) with
            | true =>
              have hf4p := of_decide_eq_true hf4
              cases hf5 : decide (l.sz < ta) with
              | true =>
                have hf5p := of_decide_eq_true hf5
                refine w_reg ?_
                refine wl_mv (.tmp 3) (.int .i64 (fa)) (fun _ => rfl) rfl rfl ?_
                refine wl_mv (.tmp 12) (.int .i64 (l.sz)) (fun _ => rfl) rfl rfl ?_
                refine wl_bin (fun x y => do eqGuard .leq 3 (.tmp 65) (.tmp 66) x y; binOp .leq 3 x y) (.tmp 65) (.tmp 66) (.int .i64 (fa)) (.int .i64 (l.sz)) (.bool true) (fun _ => rfl) rfl rfl (leI hf4 _ _ _) rfl ?_
                refine wl_mv (.tmp 67) (.bool true) (fun _ => rfl) rfl rfl ?_
                refine wl_mv (.tmp 12) (.int .i64 (l.sz)) (fun _ => rfl) rfl rfl ?_
                refine wl_mv (.tmp 4) (.int .i64 (ta)) (fun _ => rfl) rfl rfl ?_
                refine wl_bin (fun x y => do eqGuard .lss 3 (.tmp 69) (.tmp 70) x y; binOp .lss 3 x y) (.tmp 69) (.tmp 70) (.int .i64 (l.sz)) (.int .i64 (ta)) (.bool true) (fun _ => rfl) rfl rfl (ltI hf5 _ _ _) rfl ?_
                refine wl_pick (.tmp 68) (.tmp 71) (.const (.bool false)) true (.bool true) (fun _ => rfl) rfl rfl rfl ?_
                refine w_nil ?_
                refine xn_then ?_
                refine w_condT rfl ?_
                refine w_any 5 [.inl (smv Sl), .inl (pt t 0), .inl (pt k 0), .inl (.int .i64 ((c : Nat) : Int)), .inl (smv So)] [] (by kernel_rfl) (by kernel_rfl) (by kernel_rfl) (by kernel_rfl) rfl (by kernel_rfl) (by kernel_rfl) late_nil ?_ ?_ ?_
                · exact Ds.none rfl
                · refine ea_cons ?_ (ea_cons ?_ (ea_cons ?_ (ea_cons ?_ (ea_cons ?_ (ea_nil)))))
                  · exact og_eq (smv Sl) rfl (fun f wf hq hd K hK => have Q3 := Q3.mo hq; go_run rfl (wo_load 42 (.tmp 11) (pt k3 0) (smv Sl) rfl rfl (run_row Q3 42 0 23 (sml Sl) rfl Try.underlying42 rfl zs42) (hK _ (Mo.refl _))))
                  · exact og_eq (pt t 0) rfl (fun f wf hq hd K hK => go_run rfl (wo_mv (.tmp 0) (pt t 0) (fun _ => rfl) rfl (hK _ (Mo.refl _))))
                  · exact og_eq (pt k 0) rfl (fun f wf hq hd K hK => go_run rfl (wo_mv (.tmp 1) (pt k 0) (fun _ => rfl) rfl (hK _ (Mo.refl _))))
                  · exact og_eq (.int .i64 ((c : Nat) : Int)) rfl (fun f wf hq hd K hK => go_run rfl (wo_mv (.tmp 2) (.int .i64 ((c : Nat) : Int)) (fun _ => rfl) rfl (hK _ (Mo.refl _))))
                  · exact og_eq (smv So) rfl (fun f wf hq hd K hK => have hS := hS.mo hq; go_run rfl (wo_call 50 [(.tmp 74), (.tmp 75), (.tmp 76)] _ [pt t 0, pt k 0, .int .i64 ((c : Nat) : Int)] (smv So) rfl (li3 (hd 1 rfl) (hd 2 rfl) (hd 3 rfl)) (fun _ _ => by kernel_rfl) (by have h9 := own_n hS hk hcv hsc; rw [← hSo] at h9; exact h9) hK))
                intro kf8 w8 hq _ _
                replace Q1 := Q1.mo hq
                replace Q3 := Q3.mo hq
                replace hS := hS.mo hq
                replace M := M.trans hq
                clear hq
                refine wl_bs47b (.tmp 73) (.tmp 77) Sl So rfl rfl rfl rfl ?_
                intro g4 w9 hk9 hq S4
                replace Q1 := Q1.mo hq
                replace Q3 := Q3.mo hq
                replace hS := hS.mo hq
                replace M := M.trans hq
                clear hk9 hq
                obtain ⟨Jg4, hJg4⟩ : ∃ X, X = [Sl, So].foldl jn sm0 := ⟨_, rfl⟩
                have okJg4 : Jg4.ok := by rw [hJg4]; exact fold_ok _ sm0_ok (two_ok okSl okSo)
                refine wl_call 49 [(.tmp 78)] _ [.slice (some ⟨g4, 0, none⟩) 2 2] (smv Jg4) rfl rfl (fun _ _ => by kernel_rfl) (by have h9 := join_n [Sl, So] (some ⟨g4, 0, none⟩) 2 (two_ok okSl okSo) S4 (show 2 ≤ 900000000000000000 by decide); rw [← hJg4] at h9; exact h9) rfl ?_
                intro w10 hq
                replace Q1 := Q1.mo hq
                replace Q3 := Q3.mo hq
                replace hS := hS.mo hq
                replace M := M.trans hq
                clear hq
                refine wl_stx2 42 (.tmp 11) (.tmp 79) k3 0 ((sml Jg4).toArray) (sml Sl) (sml Jg4) Q3 rfl rfl rfl rfl rfl zs42 rfl rfl rfl ?_
                intro w11 hT Qn
                replace Q3 := Qn
                replace Q1 := hT.other _ _ ne_k1_k3 Q1
                have hK := Mk.st1 hT
                replace hS := hS.kept hK (fun j e q => nd_k3 (q ▸ e)) (fun b hb q => ns_k3 b hb q)
                replace M := M.tr hK (fun j hj e => absurd e (by omega))
                clear hT hK Qn
                refine w_nil ?_
                refine xn_then ?_
                refine w_seq ?_
                obtain ⟨Sr, hSr⟩ : ∃ X, X = prt c (mb.sc.getD c 0) (fa - l.sz - 1) (ta - l.sz - 1) r.ids := ⟨_, rfl⟩
                have okSr : Sr.ok := by rw [hSr]; exact prt_ok hokr
                have hsm : Smos [vq (smv Jg4), vq (pt t 0), vq (pt k 0), vq (pt k 0), vq (pt k 3), vq (pt k 4), vq (pp r.p), vq (.int .i64 ((c : Nat) : Int)), vq (.int .i64 (fa)), vq (.int .i64 (l.sz)), vq (.int .i64 (fa - l.sz)), vq (.int .i64 (fa - l.sz - 1)), vq (.int .i64 (ta)), vq (.int .i64 (l.sz)), vq (.int .i64 (ta - l.sz)), vq (.int .i64 (ta - l.sz - 1)), vq (smv Sr)] := smos_cons (smo_vq _) (smos_cons (smo_vq _) (smos_cons (smo_vq _) (smos_cons (smo_vq _) (smos_cons (smo_vq _) (smos_cons (smo_vq _) (smos_cons (smo_vq _) (smos_cons (smo_vq _) (smos_cons (smo_vq _) (smos_cons (smo_vq _) (smos_cons (smo_vq _) (smos_cons (smo_vq _) (smos_cons (smo_vq _) (smos_cons (smo_vq _) (smos_cons (smo_vq _) (smos_cons (smo_vq _) (smos_cons (smo_vq _) (smos_nil)))))))))))))))))
                obtain ⟨G, hGd⟩ : ∃ G, G = (fun (L9 : Nat → Bool) (f9 : Nat → Value) (w9 : World) => (L9 16 = false → Mo w11 w9) ∧ (L9 16 = true → ∃ lk9, HS D w9 t mb R root lk9 ∧ (lk2) ≤ lk9 ∧ pbd (fa - l.sz - 1) (ta - l.sz - 1) r.sz r.ht (lk2) lk9 ∧ Mk D w11 w9)) := ⟨_, rfl⟩
                have hgr : ∀ (i : Nat) (v : Value), i ≠ 16 → ∀ (L9 : Nat → Bool) (f9 : Nat → Value) (a b : World), G L9 f9 a → L9 i = false → Mo a b → G (updB L9 i) (upd f9 i v) b := by
                  intro i v h5 L9 f9 a b h _ m
                  rw [hGd] at h ⊢
                  simp only [updB_ne (Ne.symm h5)]
                  exact ⟨fun x => (h.1 x).trans m, fun x => (by obtain ⟨y, q1, q2, q3, q4⟩ := h.2 x; exact ⟨y, q1.mo m, q2, q3, q4.trans m⟩)⟩
                have hsee : ∀ (L9 : Nat → Bool) (f9 : Nat → Value) (a : World), G L9 f9 a → (∃ lk9, HS D a t mb R root lk9) ∧ At a k3 (sml Jg4) := by
                  intro L9 f9 a h
                  rw [hGd] at h
                  cases e9 : L9 16 with
                  | false => exact ⟨⟨_, hS.mo (h.1 e9)⟩, Q3.mo (h.1 e9)⟩
                  | true => obtain ⟨y, q1, q2, q3, q4⟩ := h.2 e9; exact ⟨⟨y, q1⟩, q4.at Q3 nd_k3⟩
                refine w_ogl 17 G [vq (smv Jg4), vq (pt t 0), vq (pt k 0), vq (pt k 0), vq (pt k 3), vq (pt k 4), vq (pp r.p), vq (.int .i64 ((c : Nat) : Int)), vq (.int .i64 (fa)), vq (.int .i64 (l.sz)), vq (.int .i64 (fa - l.sz)), vq (.int .i64 (fa - l.sz - 1)), vq (.int .i64 (ta)), vq (.int .i64 (l.sz)), vq (.int .i64 (ta - l.sz)), vq (.int .i64 (ta - l.sz - 1)), vq (smv Sr)] (by kernel_rfl) (by kernel_rfl) (by kernel_rfl) (by kernel_rfl) rfl (fun f => by rw [hGd]; exact ⟨fun _ => (Mo.refl _).drew, (fun e => by cases e)⟩) ?_ ?_
                · refine ea_cons ?_ (ea_cons ?_ (ea_cons ?_ (ea_cons ?_ (ea_cons ?_ (ea_cons ?_ (ea_cons ?_ (ea_cons ?_ (ea_cons ?_ (ea_cons ?_ (ea_cons ?_ (ea_cons ?_ (ea_cons ?_ (ea_cons ?_ (ea_cons ?_ (ea_cons ?_ (ea_cons ?_ (ea_nil)))))))))))))))))
                  · exact ol_eq (smv Jg4) rfl (hgr 0 _ (by decide)) hsm (fun L9 f wf hG hd K hK => have ⟨⟨_, hS⟩, Q3⟩ := hsee L9 f wf hG; go_run rfl (wo_load 42 (.tmp 11) (pt k3 0) (smv Jg4) rfl rfl (run_row Q3 42 0 23 (sml Jg4) rfl Try.underlying42 rfl zs42) (hK _ (Mo.refl _))))
                  · exact ol_eq (pt t 0) rfl (hgr 1 _ (by decide)) hsm (fun L9 f wf hG hd K hK => go_run rfl (wo_mv (.tmp 0) (pt t 0) (fun _ => rfl) rfl (hK _ (Mo.refl _))))
                  · exact ol_eq (pt k 0) rfl (hgr 2 _ (by decide)) hsm (fun L9 f wf hG hd K hK => go_run rfl (wo_mv (.tmp 1) (pt k 0) (fun _ => rfl) rfl (hK _ (Mo.refl _))))
                  · exact ol_eq (pt k 0) rfl (hgr 3 _ (by decide)) hsm (fun L9 f wf hG hd K hK => go_run rfl (wo_nc (.tmp 82) k 0 rfl (hd 2 rfl) (hK _ (Mo.refl _))))
                  · exact ol_eq (pt k 3) rfl (hgr 4 _ (by decide)) hsm (fun L9 f wf hG hd K hK => go_run rfl (wo_un (fun v => Instr.fieldAt 93 v 2) (.tmp 83) (pt k 0) (pt k 3) (fun _ => rfl) (hd 3 rfl) (by kernel_rfl) (hK _ (Mo.refl _))))
                  · exact ol_eq (pt k 4) rfl (hgr 5 _ (by decide)) hsm (fun L9 f wf hG hd K hK => go_run rfl (wo_bin (fun x y => Instr.indexAt 91 x y) (.tmp 84) (.const (.int .i64 (1))) (pt k 3) (.int .i64 (1)) (pt k 4) (fun _ => rfl) (hd 4 rfl) rfl (by kernel_rfl) (hK _ (Mo.refl _))))
                  · exact ol_eq (pp r.p) rfl (hgr 6 _ (by decide)) hsm (fun L9 f wf hG hd K hK => have ⟨⟨_, hS⟩, Q3⟩ := hsee L9 f wf hG; go_run rfl (wo_load 65 (.tmp 85) (pt k 4) (pp r.p) rfl (hd 5 rfl) (run_one (hS.rc k _ hk) 65 4 rfl Try.underlying65 rfl) (hK _ (Mo.refl _))))
                  · exact ol_eq (.int .i64 ((c : Nat) : Int)) rfl (hgr 7 _ (by decide)) hsm (fun L9 f wf hG hd K hK => go_run rfl (wo_mv (.tmp 2) (.int .i64 ((c : Nat) : Int)) (fun _ => rfl) rfl (hK _ (Mo.refl _))))
                  · exact ol_eq (.int .i64 (fa)) rfl (hgr 8 _ (by decide)) hsm (fun L9 f wf hG hd K hK => go_run rfl (wo_mv (.tmp 3) (.int .i64 (fa)) (fun _ => rfl) rfl (hK _ (Mo.refl _))))
                  · exact ol_eq (.int .i64 (l.sz)) rfl (hgr 9 _ (by decide)) hsm (fun L9 f wf hG hd K hK => go_run rfl (wo_mv (.tmp 12) (.int .i64 (l.sz)) (fun _ => rfl) rfl (hK _ (Mo.refl _))))
                  · exact ol_eq (.int .i64 (fa - l.sz)) rfl (hgr 10 _ (by decide)) hsm (fun L9 f wf hG hd K hK => go_run rfl (wo_bin (fun x y => do eqGuard .sub 3 (.tmp 88) (.tmp 89) x y; binOp .sub 3 x y) (.tmp 88) (.tmp 89) (.int .i64 (fa)) (.int .i64 (l.sz)) (.int .i64 (fa - l.sz)) (fun _ => rfl) (hd 8 rfl) (hd 9 rfl) (subI (by omega) (by omega) _ _ _) (hK _ (Mo.refl _))))
                  · exact ol_eq (.int .i64 (fa - l.sz - 1)) rfl (hgr 11 _ (by decide)) hsm (fun L9 f wf hG hd K hK => go_run rfl (wo_bin (fun x y => do eqGuard .sub 3 (.tmp 90) (.const (.int .i64 (1))) x y; binOp .sub 3 x y) (.tmp 90) (.const (.int .i64 (1))) (.int .i64 (fa - l.sz)) (.int .i64 (1)) (.int .i64 (fa - l.sz - 1)) (fun _ => rfl) (hd 10 rfl) rfl (subI (by omega) (by omega) _ _ _) (hK _ (Mo.refl _))))
                  · exact ol_eq (.int .i64 (ta)) rfl (hgr 12 _ (by decide)) hsm (fun L9 f wf hG hd K hK => go_run rfl (wo_mv (.tmp 4) (.int .i64 (ta)) (fun _ => rfl) rfl (hK _ (Mo.refl _))))
                  · exact ol_eq (.int .i64 (l.sz)) rfl (hgr 13 _ (by decide)) hsm (fun L9 f wf hG hd K hK => go_run rfl (wo_mv (.tmp 12) (.int .i64 (l.sz)) (fun _ => rfl) rfl (hK _ (Mo.refl _))))
                  · exact ol_eq (.int .i64 (ta - l.sz)) rfl (hgr 14 _ (by decide)) hsm (fun L9 f wf hG hd K hK => go_run rfl (wo_bin (fun x y => do eqGuard .sub 3 (.tmp 92) (.tmp 93) x y; binOp .sub 3 x y) (.tmp 92) (.tmp 93) (.int .i64 (ta)) (.int .i64 (l.sz)) (.int .i64 (ta - l.sz)) (fun _ => rfl) (hd 12 rfl) (hd 13 rfl) (subI (by omega) (by omega) _ _ _) (hK _ (Mo.refl _))))
                  · exact ol_eq (.int .i64 (ta - l.sz - 1)) rfl (hgr 15 _ (by decide)) hsm (fun L9 f wf hG hd K hK => go_run rfl (wo_bin (fun x y => do eqGuard .sub 3 (.tmp 94) (.const (.int .i64 (1))) x y; binOp .sub 3 x y) (.tmp 94) (.const (.int .i64 (1))) (.int .i64 (ta - l.sz)) (.int .i64 (1)) (.int .i64 (ta - l.sz - 1)) (fun _ => rfl) (hd 14 rfl) rfl (subI (by omega) (by omega) _ _ _) (hK _ (Mo.refl _))))
                  · refine ⟨fun L9 f wf hG hi hd K9 hK => ?_⟩
                    rw [hGd] at hG
                    have hmo := hG.1 hi
                    have h9 := part_n r (fa := fa - l.sz - 1) (ta := ta - l.sz - 1) hc (hS.mo hmo) hr.2.2 hok.2.2 (by omega) ⟨by omega, by omega⟩ ⟨by omega, by omega⟩ (by omega) (by omega)
                    rw [← hSr] at h9
                    refine go_run rfl (wo_callx 33 [(.tmp 81), (.tmp 86), (.tmp 87), (.tmp 91), (.tmp 95)] _ [pt t 0, pp r.p, .int .i64 ((c : Nat) : Int), .int .i64 (fa - l.sz - 1), .int .i64 (ta - l.sz - 1)] rfl (li5 (hd 1 rfl).2 (hd 6 rfl).2 (hd 7 rfl).2 (hd 11 rfl).2 (hd 15 rfl).2) (fun _ _ => by kernel_rfl) h9 (fun e9 w9 ⟨he, lk9, q1, q2, q3, q4⟩ => ⟨_, he, hK _ w9 ?_ rfl (fun j u hj hr => ?_)⟩))
                    · rw [hGd]
                      simp only [updB_eq]
                      exact ⟨fun e => (by cases e), fun _ => ⟨lk9, q1, q2, q3, (Mk.of D hmo).same q4⟩⟩
                    · match j, hj, hr with
                      | 0, _, hr => exact hr
                      | 1, _, hr => exact hr
                      | 2, _, hr => exact hr
                      | 3, _, hr => exact hr
                      | 4, _, hr => exact hr
                      | 5, _, hr => exact hr
                      | 6, _, hr => exact hr
                      | 7, _, hr => exact hr
                      | 8, _, hr => exact hr
                      | 9, _, hr => exact hr
                      | 10, _, hr => exact hr
                      | 11, _, hr => exact hr
                      | 12, _, hr => exact hr
                      | 13, _, hr => exact hr
                      | 14, _, hr => exact hr
                      | 15, _, hr => exact hr
                      | 16, _, hr => exact hr
                      | j + 17, _, _ => trivial
                intro L9 f w12 hall hG hR
                rw [hGd] at hG
                obtain ⟨lk3, hS3, hl3, hl4, hM9⟩ := hG.2 (hall 16 rfl)
                have e0 := hR 0 rfl
                have e16 := hR 16 rfl
                clear hG hall hR hgr hsm hGd hsee
                replace Q1 := hM9.at Q1 nd_k1
                replace Q3 := hM9.at Q3 nd_k3
                replace hS := hS3
                replace M := M.same hM9
                clear hS3 hM9
                refine wl_bs47b (.tmp 80) (.tmp 96) Jg4 Sr rfl e0 e16 rfl ?_
                intro g5 w13 hk9 hq S5
                replace Q1 := Q1.mo hq
                replace Q3 := Q3.mo hq
                replace hS := hS.mo hq
                replace M := M.trans hq
                clear hk9 hq
                obtain ⟨Jg5, hJg5⟩ : ∃ X, X = [Jg4, Sr].foldl jn sm0 := ⟨_, rfl⟩
                have okJg5 : Jg5.ok := by rw [hJg5]; exact fold_ok _ sm0_ok (two_ok okJg4 okSr)
                refine wl_call 49 [(.tmp 97)] _ [.slice (some ⟨g5, 0, none⟩) 2 2] (smv Jg5) rfl rfl (fun _ _ => by kernel_rfl) (by have h9 := join_n [Jg4, Sr] (some ⟨g5, 0, none⟩) 2 (two_ok okJg4 okSr) S5 (show 2 ≤ 900000000000000000 by decide); rw [← hJg5] at h9; exact h9) rfl ?_
                intro w14 hq
                replace Q1 := Q1.mo hq
                replace Q3 := Q3.mo hq
                replace hS := hS.mo hq
                replace M := M.trans hq
                clear hq
                refine wl_stx2 42 (.tmp 10) (.tmp 98) k1 0 ((sml Jg5).toArray) [.int .i64 0, .int .i64 0, .int .i64 0, .int .i64 0, .int .i64 0, .int .u64 0, .int .u64 0, .int .u64 0, .int .u64 0, .int .u64 0, .bool false, .bool false, .int .u64 0, .int .u64 0, .int .u64 0, .int .u64 0, .int .i64 0, .bool false, .int .u64 0, .int .u64 0, .int .u64 0, .int .u64 0, .int .i64 0] (sml Jg5) Q1 rfl rfl rfl rfl rfl zs42 rfl rfl rfl ?_
                intro w15 hT Qn
                replace Q1 := Qn
                replace Q3 := hT.other _ _ ne_k1_k3.symm Q3
                have hK := Mk.st1 hT
                replace hS := hS.kept hK (fun j e q => nd_k1 (q ▸ e)) (fun b hb q => ns_k1 b hb q)
                replace M := M.tr hK (fun j hj e => absurd e (by omega))
                clear hT hK Qn
                refine w_nil ?_
                refine xn_then ?_
                refine w_ret ?_
                exact w_ret1 _ (smv Jg5) rfl ⟨k1, rfl, (run_row Q1 42 0 23 (sml Jg5) rfl Try.underlying42 rfl zs42)⟩ ⟨by show _ = Ending.returned (smv (prt c (mb.sc.getD c 0) fa ta (l.ids ++ i :: r.ids))); rw [(show prt c (mb.sc.getD c 0) fa ta (l.ids ++ i :: r.ids) = Jg5 by rw [hJg5, hJg4, hSl, hSo, hSr]; exact (prt_mid hlz hokl hoki hokr (by have := of_decide_eq_false hf0; have := of_decide_eq_false hf1; have := of_decide_eq_true hf2; have := of_decide_eq_false hf3; have := of_decide_eq_true hf4; have := of_decide_eq_true hf5; omega) (by have := of_decide_eq_false hf0; have := of_decide_eq_false hf1; have := of_decide_eq_true hf2; have := of_decide_eq_false hf3; have := of_decide_eq_true hf4; have := of_decide_eq_true hf5; omega)).symm)], _, hS, by have := of_decide_eq_false hf0; have := of_decide_eq_false hf1; have := of_decide_eq_true hf2; have := of_decide_eq_false hf3; have := of_decide_eq_true hf4; have := of_decide_eq_true hf5; omega, by have := of_decide_eq_false hf0; have := of_decide_eq_false hf1; have := of_decide_eq_true hf2; have := of_decide_eq_false hf3; have := of_decide_eq_true hf4; have := of_decide_eq_true hf5; unfold pbd at *; refine ⟨by omega, fun _ => by omega, fun _ => by omega⟩, M⟩
              | false =>
                have hf5p := of_decide_eq_false hf5
                refine w_reg ?_
                refine wl_mv (.tmp 3) (.int .i64 (fa)) (fun _ => rfl) rfl rfl ?_
                refine wl_mv (.tmp 12) (.int .i64 (l.sz)) (fun _ => rfl) rfl rfl ?_
                refine wl_bin (fun x y => do eqGuard .leq 3 (.tmp 65) (.tmp 66) x y; binOp .leq 3 x y) (.tmp 65) (.tmp 66) (.int .i64 (fa)) (.int .i64 (l.sz)) (.bool true) (fun _ => rfl) rfl rfl (leI hf4 _ _ _) rfl ?_
                refine wl_mv (.tmp 67) (.bool true) (fun _ => rfl) rfl rfl ?_
                refine wl_mv (.tmp 12) (.int .i64 (l.sz)) (fun _ => rfl) rfl rfl ?_
                refine wl_mv (.tmp 4) (.int .i64 (ta)) (fun _ => rfl) rfl rfl ?_
                refine wl_bin (fun x y => do eqGuard .lss 3 (.tmp 69) (.tmp 70) x y; binOp .lss 3 x y) (.tmp 69) (.tmp 70) (.int .i64 (l.sz)) (.int .i64 (ta)) (.bool false) (fun _ => rfl) rfl rfl (ltI hf5 _ _ _) rfl ?_
                refine wl_pick (.tmp 68) (.tmp 71) (.const (.bool false)) true (.bool false) (fun _ => rfl) rfl rfl rfl ?_
                refine w_nil ?_
                refine xn_then ?_
                refine w_condF rfl ?_
                refine w_skip ?_
                refine xn_then ?_
                refine w_seq ?_
                obtain ⟨Sr, hSr⟩ : ∃ X, X = prt c (mb.sc.getD c 0) (fa - l.sz - 1) (ta - l.sz - 1) r.ids := ⟨_, rfl⟩
                have okSr : Sr.ok := by rw [hSr]; exact prt_ok hokr
                have hsm : Smos [vq (smv Sl), vq (pt t 0), vq (pt k 0), vq (pt k 0), vq (pt k 3), vq (pt k 4), vq (pp r.p), vq (.int .i64 ((c : Nat) : Int)), vq (.int .i64 (fa)), vq (.int .i64 (l.sz)), vq (.int .i64 (fa - l.sz)), vq (.int .i64 (fa - l.sz - 1)), vq (.int .i64 (ta)), vq (.int .i64 (l.sz)), vq (.int .i64 (ta - l.sz)), vq (.int .i64 (ta - l.sz - 1)), vq (smv Sr)] := smos_cons (smo_vq _) (smos_cons (smo_vq _) (smos_cons (smo_vq _) (smos_cons (smo_vq _) (smos_cons (smo_vq _) (smos_cons (smo_vq _) (smos_cons (smo_vq _) (smos_cons (smo_vq _) (smos_cons (smo_vq _) (smos_cons (smo_vq _) (smos_cons (smo_vq _) (smos_cons (smo_vq _) (smos_cons (smo_vq _) (smos_cons (smo_vq _) (smos_cons (smo_vq _) (smos_cons (smo_vq _) (smos_cons (smo_vq _) (smos_nil)))))))))))))))))
                obtain ⟨G, hGd⟩ : ∃ G, G = (fun (L9 : Nat → Bool) (f9 : Nat → Value) (w9 : World) => (L9 16 = false → Mo w7 w9) ∧ (L9 16 = true → ∃ lk9, HS D w9 t mb R root lk9 ∧ (lk2) ≤ lk9 ∧ pbd (fa - l.sz - 1) (ta - l.sz - 1) r.sz r.ht (lk2) lk9 ∧ Mk D w7 w9)) := ⟨_, rfl⟩
                have hgr : ∀ (i : Nat) (v : Value), i ≠ 16 → ∀ (L9 : Nat → Bool) (f9 : Nat → Value) (a b : World), G L9 f9 a → L9 i = false → Mo a b → G (updB L9 i) (upd f9 i v) b := by
                  intro i v h5 L9 f9 a b h _ m
                  rw [hGd] at h ⊢
                  simp only [updB_ne (Ne.symm h5)]
                  exact ⟨fun x => (h.1 x).trans m, fun x => (by obtain ⟨y, q1, q2, q3, q4⟩ := h.2 x; exact ⟨y, q1.mo m, q2, q3, q4.trans m⟩)⟩
                have hsee : ∀ (L9 : Nat → Bool) (f9 : Nat → Value) (a : World), G L9 f9 a → (∃ lk9, HS D a t mb R root lk9) ∧ At a k3 (sml Sl) := by
                  intro L9 f9 a h
                  rw [hGd] at h
                  cases e9 : L9 16 with
                  | false => exact ⟨⟨_, hS.mo (h.1 e9)⟩, Q3.mo (h.1 e9)⟩
                  | true => obtain ⟨y, q1, q2, q3, q4⟩ := h.2 e9; exact ⟨⟨y, q1⟩, q4.at Q3 nd_k3⟩
                refine w_ogl 17 G [vq (smv Sl), vq (pt t 0), vq (pt k 0), vq (pt k 0), vq (pt k 3), vq (pt k 4), vq (pp r.p), vq (.int .i64 ((c : Nat) : Int)), vq (.int .i64 (fa)), vq (.int .i64 (l.sz)), vq (.int .i64 (fa - l.sz)), vq (.int .i64 (fa - l.sz - 1)), vq (.int .i64 (ta)), vq (.int .i64 (l.sz)), vq (.int .i64 (ta - l.sz)), vq (.int .i64 (ta - l.sz - 1)), vq (smv Sr)] (by kernel_rfl) (by kernel_rfl) (by kernel_rfl) (by kernel_rfl) rfl (fun f => by rw [hGd]; exact ⟨fun _ => (Mo.refl _).drew, (fun e => by cases e)⟩) ?_ ?_
                · refine ea_cons ?_ (ea_cons ?_ (ea_cons ?_ (ea_cons ?_ (ea_cons ?_ (ea_cons ?_ (ea_cons ?_ (ea_cons ?_ (ea_cons ?_ (ea_cons ?_ (ea_cons ?_ (ea_cons ?_ (ea_cons ?_ (ea_cons ?_ (ea_cons ?_ (ea_cons ?_ (ea_cons ?_ (ea_nil)))))))))))))))))
                  · exact ol_eq (smv Sl) rfl (hgr 0 _ (by decide)) hsm (fun L9 f wf hG hd K hK => have ⟨⟨_, hS⟩, Q3⟩ := hsee L9 f wf hG; go_run rfl (wo_load 42 (.tmp 11) (pt k3 0) (smv Sl) rfl rfl (run_row Q3 42 0 23 (sml Sl) rfl Try.underlying42 rfl zs42) (hK _ (Mo.refl _))))
                  · exact ol_eq (pt t 0) rfl (hgr 1 _ (by decide)) hsm (fun L9 f wf hG hd K hK => go_run rfl (wo_mv (.tmp 0) (pt t 0) (fun _ => rfl) rfl (hK _ (Mo.refl _))))
                  · exact ol_eq (pt k 0) rfl (hgr 2 _ (by decide)) hsm (fun L9 f wf hG hd K hK => go_run rfl (wo_mv (.tmp 1) (pt k 0) (fun _ => rfl) rfl (hK _ (Mo.refl _))))
                  · exact ol_eq (pt k 0) rfl (hgr 3 _ (by decide)) hsm (fun L9 f wf hG hd K hK => go_run rfl (wo_nc (.tmp 82) k 0 rfl (hd 2 rfl) (hK _ (Mo.refl _))))
                  · exact ol_eq (pt k 3) rfl (hgr 4 _ (by decide)) hsm (fun L9 f wf hG hd K hK => go_run rfl (wo_un (fun v => Instr.fieldAt 93 v 2) (.tmp 83) (pt k 0) (pt k 3) (fun _ => rfl) (hd 3 rfl) (by kernel_rfl) (hK _ (Mo.refl _))))
                  · exact ol_eq (pt k 4) rfl (hgr 5 _ (by decide)) hsm (fun L9 f wf hG hd K hK => go_run rfl (wo_bin (fun x y => Instr.indexAt 91 x y) (.tmp 84) (.const (.int .i64 (1))) (pt k 3) (.int .i64 (1)) (pt k 4) (fun _ => rfl) (hd 4 rfl) rfl (by kernel_rfl) (hK _ (Mo.refl _))))
                  · exact ol_eq (pp r.p) rfl (hgr 6 _ (by decide)) hsm (fun L9 f wf hG hd K hK => have ⟨⟨_, hS⟩, Q3⟩ := hsee L9 f wf hG; go_run rfl (wo_load 65 (.tmp 85) (pt k 4) (pp r.p) rfl (hd 5 rfl) (run_one (hS.rc k _ hk) 65 4 rfl Try.underlying65 rfl) (hK _ (Mo.refl _))))
                  · exact ol_eq (.int .i64 ((c : Nat) : Int)) rfl (hgr 7 _ (by decide)) hsm (fun L9 f wf hG hd K hK => go_run rfl (wo_mv (.tmp 2) (.int .i64 ((c : Nat) : Int)) (fun _ => rfl) rfl (hK _ (Mo.refl _))))
                  · exact ol_eq (.int .i64 (fa)) rfl (hgr 8 _ (by decide)) hsm (fun L9 f wf hG hd K hK => go_run rfl (wo_mv (.tmp 3) (.int .i64 (fa)) (fun _ => rfl) rfl (hK _ (Mo.refl _))))
                  · exact ol_eq (.int .i64 (l.sz)) rfl (hgr 9 _ (by decide)) hsm (fun L9 f wf hG hd K hK => go_run rfl (wo_mv (.tmp 12) (.int .i64 (l.sz)) (fun _ => rfl) rfl (hK _ (Mo.refl _))))
                  · exact ol_eq (.int .i64 (fa - l.sz)) rfl (hgr 10 _ (by decide)) hsm (fun L9 f wf hG hd K hK => go_run rfl (wo_bin (fun x y => do eqGuard .sub 3 (.tmp 88) (.tmp 89) x y; binOp .sub 3 x y) (.tmp 88) (.tmp 89) (.int .i64 (fa)) (.int .i64 (l.sz)) (.int .i64 (fa - l.sz)) (fun _ => rfl) (hd 8 rfl) (hd 9 rfl) (subI (by omega) (by omega) _ _ _) (hK _ (Mo.refl _))))
                  · exact ol_eq (.int .i64 (fa - l.sz - 1)) rfl (hgr 11 _ (by decide)) hsm (fun L9 f wf hG hd K hK => go_run rfl (wo_bin (fun x y => do eqGuard .sub 3 (.tmp 90) (.const (.int .i64 (1))) x y; binOp .sub 3 x y) (.tmp 90) (.const (.int .i64 (1))) (.int .i64 (fa - l.sz)) (.int .i64 (1)) (.int .i64 (fa - l.sz - 1)) (fun _ => rfl) (hd 10 rfl) rfl (subI (by omega) (by omega) _ _ _) (hK _ (Mo.refl _))))
                  · exact ol_eq (.int .i64 (ta)) rfl (hgr 12 _ (by decide)) hsm (fun L9 f wf hG hd K hK => go_run rfl (wo_mv (.tmp 4) (.int .i64 (ta)) (fun _ => rfl) rfl (hK _ (Mo.refl _))))
                  · exact ol_eq (.int .i64 (l.sz)) rfl (hgr 13 _ (by decide)) hsm (fun L9 f wf hG hd K hK => go_run rfl (wo_mv (.tmp 12) (.int .i64 (l.sz)) (fun _ => rfl) rfl (hK _ (Mo.refl _))))
                  · exact ol_eq (.int .i64 (ta - l.sz)) rfl (hgr 14 _ (by decide)) hsm (fun L9 f wf hG hd K hK => go_run rfl (wo_bin (fun x y => do eqGuard .sub 3 (.tmp 92) (.tmp 93) x y; binOp .sub 3 x y) (.tmp 92) (.tmp 93) (.int .i64 (ta)) (.int .i64 (l.sz)) (.int .i64 (ta - l.sz)) (fun _ => rfl) (hd 12 rfl) (hd 13 rfl) (subI (by omega) (by omega) _ _ _) (hK _ (Mo.refl _))))
                  · exact ol_eq (.int .i64 (ta - l.sz - 1)) rfl (hgr 15 _ (by decide)) hsm (fun L9 f wf hG hd K hK => go_run rfl (wo_bin (fun x y => do eqGuard .sub 3 (.tmp 94) (.const (.int .i64 (1))) x y; binOp .sub 3 x y) (.tmp 94) (.const (.int .i64 (1))) (.int .i64 (ta - l.sz)) (.int .i64 (1)) (.int .i64 (ta - l.sz - 1)) (fun _ => rfl) (hd 14 rfl) rfl (subI (by omega) (by omega) _ _ _) (hK _ (Mo.refl _))))
                  · refine ⟨fun L9 f wf hG hi hd K9 hK => ?_⟩
                    rw [hGd] at hG
                    have hmo := hG.1 hi
                    have h9 := part_n r (fa := fa - l.sz - 1) (ta := ta - l.sz - 1) hc (hS.mo hmo) hr.2.2 hok.2.2 (by omega) ⟨by omega, by omega⟩ ⟨by omega, by omega⟩ (by omega) (by omega)
                    rw [← hSr] at h9
                    refine go_run rfl (wo_callx 33 [(.tmp 81), (.tmp 86), (.tmp 87), (.tmp 91), (.tmp 95)] _ [pt t 0, pp r.p, .int .i64 ((c : Nat) : Int), .int .i64 (fa - l.sz - 1), .int .i64 (ta - l.sz - 1)] rfl (li5 (hd 1 rfl).2 (hd 6 rfl).2 (hd 7 rfl).2 (hd 11 rfl).2 (hd 15 rfl).2) (fun _ _ => by kernel_rfl) h9 (fun e9 w9 ⟨he, lk9, q1, q2, q3, q4⟩ => ⟨_, he, hK _ w9 ?_ rfl (fun j u hj hr => ?_)⟩))
                    · rw [hGd]
                      simp only [updB_eq]
                      exact ⟨fun e => (by cases e), fun _ => ⟨lk9, q1, q2, q3, (Mk.of D hmo).same q4⟩⟩
                    · match j, hj, hr with
                      | 0, _, hr => exact hr
                      | 1, _, hr => exact hr
                      | 2, _, hr => exact hr
                      | 3, _, hr => exact hr
                      | 4, _, hr => exact hr
                      | 5, _, hr => exact hr
                      | 6, _, hr => exact hr
                      | 7, _, hr => exact hr
                      | 8, _, hr => exact hr
                      | 9, _, hr => exact hr
                      | 10, _, hr => exact hr
                      | 11, _, hr => exact hr
                      | 12, _, hr => exact hr
                      | 13, _, hr => exact hr
                      | 14, _, hr => exact hr
                      | 15, _, hr => exact hr
                      | 16, _, hr => exact hr
                      | j + 17, _, _ => trivial
                intro L9 f w8 hall hG hR
                rw [hGd] at hG
                obtain ⟨lk3, hS3, hl3, hl4, hM9⟩ := hG.2 (hall 16 rfl)
                have e0 := hR 0 rfl
                have e16 := hR 16 rfl
                clear hG hall hR hgr hsm hGd hsee
                replace Q1 := hM9.at Q1 nd_k1
                replace Q3 := hM9.at Q3 nd_k3
                replace hS := hS3
                replace M := M.same hM9
                clear hS3 hM9
                refine wl_bs47b (.tmp 80) (.tmp 96) Sl Sr rfl e0 e16 rfl ?_
                intro g4 w9 hk9 hq S4
                replace Q1 := Q1.mo hq
                replace Q3 := Q3.mo hq
                replace hS := hS.mo hq
                replace M := M.trans hq
                clear hk9 hq
                obtain ⟨Jg4, hJg4⟩ : ∃ X, X = [Sl, Sr].foldl jn sm0 := ⟨_, rfl⟩
                have okJg4 : Jg4.ok := by rw [hJg4]; exact fold_ok _ sm0_ok (two_ok okSl okSr)
                refine wl_call 49 [(.tmp 97)] _ [.slice (some ⟨g4, 0, none⟩) 2 2] (smv Jg4) rfl rfl (fun _ _ => by kernel_rfl) (by have h9 := join_n [Sl, Sr] (some ⟨g4, 0, none⟩) 2 (two_ok okSl okSr) S4 (show 2 ≤ 900000000000000000 by decide); rw [← hJg4] at h9; exact h9) rfl ?_
                intro w10 hq
                replace Q1 := Q1.mo hq
                replace Q3 := Q3.mo hq
                replace hS := hS.mo hq
                replace M := M.trans hq
                clear hq
                refine wl_stx2 42 (.tmp 10) (.tmp 98) k1 0 ((sml Jg4).toArray) [.int .i64 0, .int .i64 0, .int .i64 0, .int .i64 0, .int .i64 0, .int .u64 0, .int .u64 0, .int .u64 0, .int .u64 0, .int .u64 0, .bool false, .bool false, .int .u64 0, .int .u64 0, .int .u64 0, .int .u64 0, .int .i64 0, .bool false, .int .u64 0, .int .u64 0, .int .u64 0, .int .u64 0, .int .i64 0] (sml Jg4) Q1 rfl rfl rfl rfl rfl zs42 rfl rfl rfl ?_
                intro w11 hT Qn
                replace Q1 := Qn
                replace Q3 := hT.other _ _ ne_k1_k3.symm Q3
                have hK := Mk.st1 hT
                replace hS := hS.kept hK (fun j e q => nd_k1 (q ▸ e)) (fun b hb q => ns_k1 b hb q)
                replace M := M.tr hK (fun j hj e => absurd e (by omega))
                clear hT hK Qn
                refine w_nil ?_
                refine xn_then ?_
                refine w_ret ?_
                exact w_ret1 _ (smv Jg4) rfl ⟨k1, rfl, (run_row Q1 42 0 23 (sml Jg4) rfl Try.underlying42 rfl zs42)⟩ ⟨by show _ = Ending.returned (smv (prt c (mb.sc.getD c 0) fa ta (l.ids ++ i :: r.ids))); rw [(show prt c (mb.sc.getD c 0) fa ta (l.ids ++ i :: r.ids) = Jg4 by rw [hJg4, hSl, hSr]; exact (prt_out hlz hokl hokr (by have := of_decide_eq_false hf0; have := of_decide_eq_false hf1; have := of_decide_eq_true hf2; have := of_decide_eq_false hf3; have := of_decide_eq_true hf4; have := of_decide_eq_false hf5; omega)).symm)], _, hS, by have := of_decide_eq_false hf0; have := of_decide_eq_false hf1; have := of_decide_eq_true hf2; have := of_decide_eq_false hf3; have := of_decide_eq_true hf4; have := of_decide_eq_false hf5; omega, by have := of_decide_eq_false hf0; have := of_decide_eq_false hf1; have := of_decide_eq_true hf2; have := of_decide_eq_false hf3; have := of_decide_eq_true hf4; have := of_decide_eq_false hf5; unfold pbd at *; refine ⟨by omega, fun _ => by omega, fun _ => by omega⟩, M⟩
            | false =>
              have hf4p := of_decide_eq_false hf4
              refine w_reg ?_
              refine wl_mv (.tmp 3) (.int .i64 (fa)) (fun _ => rfl) rfl rfl ?_
              refine wl_mv (.tmp 12) (.int .i64 (l.sz)) (fun _ => rfl) rfl rfl ?_
              refine wl_bin (fun x y => do eqGuard .leq 3 (.tmp 65) (.tmp 66) x y; binOp .leq 3 x y) (.tmp 65) (.tmp 66) (.int .i64 (fa)) (.int .i64 (l.sz)) (.bool false) (fun _ => rfl) rfl rfl (leI hf4 _ _ _) rfl ?_
              refine wl_mv (.tmp 67) (.bool false) (fun _ => rfl) rfl rfl ?_
              refine wl_skip rfl ?_
              refine wl_skip rfl ?_
              refine wl_skip rfl ?_
              refine wl_pick (.tmp 68) (.tmp 71) (.const (.bool false)) false (.bool false) (fun _ => rfl) rfl rfl rfl ?_
              refine w_nil ?_
              refine xn_then ?_
              refine w_condF rfl ?_
              refine w_skip ?_
              refine xn_then ?_
              refine w_seq ?_
              obtain ⟨Sr, hSr⟩ : ∃ X, X = prt c (mb.sc.getD c 0) (fa - l.sz - 1) (ta - l.sz - 1) r.ids := ⟨_, rfl⟩
              have okSr : Sr.ok := by rw [hSr]; exact prt_ok hokr
              have hsm : Smos [vq (smv Sl), vq (pt t 0), vq (pt k 0), vq (pt k 0), vq (pt k 3), vq (pt k 4), vq (pp r.p), vq (.int .i64 ((c : Nat) : Int)), vq (.int .i64 (fa)), vq (.int .i64 (l.sz)), vq (.int .i64 (fa - l.sz)), vq (.int .i64 (fa - l.sz - 1)), vq (.int .i64 (ta)), vq (.int .i64 (l.sz)), vq (.int .i64 (ta - l.sz)), vq (.int .i64 (ta - l.sz - 1)), vq (smv Sr)] := smos_cons (smo_vq _) (smos_cons (smo_vq _) (smos_cons (smo_vq _) (smos_cons (smo_vq _) (smos_cons (smo_vq _) (smos_cons (smo_vq _) (smos_cons (smo_vq _) (smos_cons (smo_vq _) (smos_cons (smo_vq _) (smos_cons (smo_vq _) (smos_cons (smo_vq _) (smos_cons (smo_vq _) (smos_cons (smo_vq _) (smos_cons (smo_vq _) (smos_cons (smo_vq _) (smos_cons (smo_vq _) (smos_cons (smo_vq _) (smos_nil)))))))))))))))))
              obtain ⟨G, hGd⟩ : ∃ G, G = (fun (L9 : Nat → Bool) (f9 : Nat → Value) (w9 : World) => (L9 16 = false → Mo w7 w9) ∧ (L9 16 = true → ∃ lk9, HS D w9 t mb R root lk9 ∧ (lk2) ≤ lk9 ∧ pbd (fa - l.sz - 1) (ta - l.sz - 1) r.sz r.ht (lk2) lk9 ∧ Mk D w7 w9)) := ⟨_, rfl⟩
              have hgr : ∀ (i : Nat) (v : Value), i ≠ 16 → ∀ (L9 : Nat → Bool) (f9 : Nat → Value) (a b : World), G L9 f9 a → L9 i = false → Mo a b → G (updB L9 i) (upd f9 i v) b := by
                intro i v h5 L9 f9 a b h _ m
                rw [hGd] at h ⊢
                simp only [updB_ne (Ne.symm h5)]
                exact ⟨fun x => (h.1 x).trans m, fun x => (by obtain ⟨y, q1, q2, q3, q4⟩ := h.2 x; exact ⟨y, q1.mo m, q2, q3, q4.trans m⟩)⟩
              have hsee : ∀ (L9 : Nat → Bool) (f9 : Nat → Value) (a : World), G L9 f9 a → (∃ lk9, HS D a t mb R root lk9) ∧ At a k3 (sml Sl) := by
                intro L9 f9 a h
                rw [hGd] at h
                cases e9 : L9 16 with
                | false => exact ⟨⟨_, hS.mo (h.1 e9)⟩, Q3.mo (h.1 e9)⟩
                | true => obtain ⟨y, q1, q2, q3, q4⟩ := h.2 e9; exact ⟨⟨y, q1⟩, q4.at Q3 nd_k3⟩
              refine w_ogl 17 G [vq (smv Sl), vq (pt t 0), vq (pt k 0), vq (pt k 0), vq (pt k 3), vq (pt k 4), vq (pp r.p), vq (.int .i64 ((c : Nat) : Int)), vq (.int .i64 (fa)), vq (.int .i64 (l.sz)), vq (.int .i64 (fa - l.sz)), vq (.int .i64 (fa - l.sz - 1)), vq (.int .i64 (ta)), vq (.int .i64 (l.sz)), vq (.int .i64 (ta - l.sz)), vq (.int .i64 (ta - l.sz - 1)), vq (smv Sr)] (by kernel_rfl) (by kernel_rfl) (by kernel_rfl) (by kernel_rfl) rfl (fun f => by rw [hGd]; exact ⟨fun _ => (Mo.refl _).drew, (fun e => by cases e)⟩) ?_ ?_
              · refine ea_cons ?_ (ea_cons ?_ (ea_cons ?_ (ea_cons ?_ (ea_cons ?_ (ea_cons ?_ (ea_cons ?_ (ea_cons ?_ (ea_cons ?_ (ea_cons ?_ (ea_cons ?_ (ea_cons ?_ (ea_cons ?_ (ea_cons ?_ (ea_cons ?_ (ea_cons ?_ (ea_cons ?_ (ea_nil)))))))))))))))))
                · exact ol_eq (smv Sl) rfl (hgr 0 _ (by decide)) hsm (fun L9 f wf hG hd K hK => have ⟨⟨_, hS⟩, Q3⟩ := hsee L9 f wf hG; go_run rfl (wo_load 42 (.tmp 11) (pt k3 0) (smv Sl) rfl rfl (run_row Q3 42 0 23 (sml Sl) rfl Try.underlying42 rfl zs42) (hK _ (Mo.refl _))))
                · exact ol_eq (pt t 0) rfl (hgr 1 _ (by decide)) hsm (fun L9 f wf hG hd K hK => go_run rfl (wo_mv (.tmp 0) (pt t 0) (fun _ => rfl) rfl (hK _ (Mo.refl _))))
                · exact ol_eq (pt k 0) rfl (hgr 2 _ (by decide)) hsm (fun L9 f wf hG hd K hK => go_run rfl (wo_mv (.tmp 1) (pt k 0) (fun _ => rfl) rfl (hK _ (Mo.refl _))))
                · exact ol_eq (pt k 0) rfl (hgr 3 _ (by decide)) hsm (fun L9 f wf hG hd K hK => go_run rfl (wo_nc (.tmp 82) k 0 rfl (hd 2 rfl) (hK _ (Mo.refl _))))
                · exact ol_eq (pt k 3) rfl (hgr 4 _ (by decide)) hsm (fun L9 f wf hG hd K hK => go_run rfl (wo_un (fun v => Instr.fieldAt 93 v 2) (.tmp 83) (pt k 0) (pt k 3) (fun _ => rfl) (hd 3 rfl) (by kernel_rfl) (hK _ (Mo.refl _))))
                · exact ol_eq (pt k 4) rfl (hgr 5 _ (by decide)) hsm (fun L9 f wf hG hd K hK => go_run rfl (wo_bin (fun x y => Instr.indexAt 91 x y) (.tmp 84) (.const (.int .i64 (1))) (pt k 3) (.int .i64 (1)) (pt k 4) (fun _ => rfl) (hd 4 rfl) rfl (by kernel_rfl) (hK _ (Mo.refl _))))
                · exact ol_eq (pp r.p) rfl (hgr 6 _ (by decide)) hsm (fun L9 f wf hG hd K hK => have ⟨⟨_, hS⟩, Q3⟩ := hsee L9 f wf hG; go_run rfl (wo_load 65 (.tmp 85) (pt k 4) (pp r.p) rfl (hd 5 rfl) (run_one (hS.rc k _ hk) 65 4 rfl Try.underlying65 rfl) (hK _ (Mo.refl _))))
                · exact ol_eq (.int .i64 ((c : Nat) : Int)) rfl (hgr 7 _ (by decide)) hsm (fun L9 f wf hG hd K hK => go_run rfl (wo_mv (.tmp 2) (.int .i64 ((c : Nat) : Int)) (fun _ => rfl) rfl (hK _ (Mo.refl _))))
                · exact ol_eq (.int .i64 (fa)) rfl (hgr 8 _ (by decide)) hsm (fun L9 f wf hG hd K hK => go_run rfl (wo_mv (.tmp 3) (.int .i64 (fa)) (fun _ => rfl) rfl (hK _ (Mo.refl _))))
                · exact ol_eq (.int .i64 (l.sz)) rfl (hgr 9 _ (by decide)) hsm (fun L9 f wf hG hd K hK => go_run rfl (wo_mv (.tmp 12) (.int .i64 (l.sz)) (fun _ => rfl) rfl (hK _ (Mo.refl _))))
                · exact ol_eq (.int .i64 (fa - l.sz)) rfl (hgr 10 _ (by decide)) hsm (fun L9 f wf hG hd K hK => go_run rfl (wo_bin (fun x y => do eqGuard .sub 3 (.tmp 88) (.tmp 89) x y; binOp .sub 3 x y) (.tmp 88) (.tmp 89) (.int .i64 (fa)) (.int .i64 (l.sz)) (.int .i64 (fa - l.sz)) (fun _ => rfl) (hd 8 rfl) (hd 9 rfl) (subI (by omega) (by omega) _ _ _) (hK _ (Mo.refl _))))
                · exact ol_eq (.int .i64 (fa - l.sz - 1)) rfl (hgr 11 _ (by decide)) hsm (fun L9 f wf hG hd K hK => go_run rfl (wo_bin (fun x y => do eqGuard .sub 3 (.tmp 90) (.const (.int .i64 (1))) x y; binOp .sub 3 x y) (.tmp 90) (.const (.int .i64 (1))) (.int .i64 (fa - l.sz)) (.int .i64 (1)) (.int .i64 (fa - l.sz - 1)) (fun _ => rfl) (hd 10 rfl) rfl (subI (by omega) (by omega) _ _ _) (hK _ (Mo.refl _))))
                · exact ol_eq (.int .i64 (ta)) rfl (hgr 12 _ (by decide)) hsm (fun L9 f wf hG hd K hK => go_run rfl (wo_mv (.tmp 4) (.int .i64 (ta)) (fun _ => rfl) rfl (hK _ (Mo.refl _))))
                · exact ol_eq (.int .i64 (l.sz)) rfl (hgr 13 _ (by decide)) hsm (fun L9 f wf hG hd K hK => go_run rfl (wo_mv (.tmp 12) (.int .i64 (l.sz)) (fun _ => rfl) rfl (hK _ (Mo.refl _))))
                · exact ol_eq (.int .i64 (ta - l.sz)) rfl (hgr 14 _ (by decide)) hsm (fun L9 f wf hG hd K hK => go_run rfl (wo_bin (fun x y => do eqGuard .sub 3 (.tmp 92) (.tmp 93) x y; binOp .sub 3 x y) (.tmp 92) (.tmp 93) (.int .i64 (ta)) (.int .i64 (l.sz)) (.int .i64 (ta - l.sz)) (fun _ => rfl) (hd 12 rfl) (hd 13 rfl) (subI (by omega) (by omega) _ _ _) (hK _ (Mo.refl _))))
                · exact ol_eq (.int .i64 (ta - l.sz - 1)) rfl (hgr 15 _ (by decide)) hsm (fun L9 f wf hG hd K hK => go_run rfl (wo_bin (fun x y => do eqGuard .sub 3 (.tmp 94) (.const (.int .i64 (1))) x y; binOp .sub 3 x y) (.tmp 94) (.const (.int .i64 (1))) (.int .i64 (ta - l.sz)) (.int .i64 (1)) (.int .i64 (ta - l.sz - 1)) (fun _ => rfl) (hd 14 rfl) rfl (subI (by omega) (by omega) _ _ _) (hK _ (Mo.refl _))))
                · refine ⟨fun L9 f wf hG hi hd K9 hK => ?_⟩
                  rw [hGd] at hG
                  have hmo := hG.1 hi
                  have h9 := part_n r (fa := fa - l.sz - 1) (ta := ta - l.sz - 1) hc (hS.mo hmo) hr.2.2 hok.2.2 (by omega) ⟨by omega, by omega⟩ ⟨by omega, by omega⟩ (by omega) (by omega)
                  rw [← hSr] at h9
                  refine go_run rfl (wo_callx 33 [(.tmp 81), (.tmp 86), (.tmp 87), (.tmp 91), (.tmp 95)] _ [pt t 0, pp r.p, .int .i64 ((c : Nat) : Int), .int .i64 (fa - l.sz - 1), .int .i64 (ta - l.sz - 1)] rfl (li5 (hd 1 rfl).2 (hd 6 rfl).2 (hd 7 rfl).2 (hd 11 rfl).2 (hd 15 rfl).2) (fun _ _ => by kernel_rfl) h9 (fun e9 w9 ⟨he, lk9, q1, q2, q3, q4⟩ => ⟨_, he, hK _ w9 ?_ rfl (fun j u hj hr => ?_)⟩))
                  · rw [hGd]
                    simp only [updB_eq]
                    exact ⟨fun e => (by cases e), fun _ => ⟨lk9, q1, q2, q3, (Mk.of D hmo).same q4⟩⟩
                  · match j, hj, hr with
                    | 0, _, hr => exact hr
                    | 1, _, hr => exact hr
                    | 2, _, hr => exact hr
                    | 3, _, hr => exact hr
                    | 4, _, hr => exact hr
                    | 5, _, hr => exact hr
                    | 6, _, hr => exact hr
                    | 7, _, hr => exact hr
                    | 8, _, hr => exact hr
                    | 9, _, hr => exact hr
                    | 10, _, hr => exact hr
                    | 11, _, hr => exact hr
                    | 12, _, hr => exact hr
                    | 13, _, hr => exact hr
                    | 14, _, hr => exact hr
                    | 15, _, hr => exact hr
                    | 16, _, hr => exact hr
                    | j + 17, _, _ => trivial
              intro L9 f w8 hall hG hR
              rw [hGd] at hG
              obtain ⟨lk3, hS3, hl3, hl4, hM9⟩ := hG.2 (hall 16 rfl)
              have e0 := hR 0 rfl
              have e16 := hR 16 rfl
              clear hG hall hR hgr hsm hGd hsee
              replace Q1 := hM9.at Q1 nd_k1
              replace Q3 := hM9.at Q3 nd_k3
              replace hS := hS3
              replace M := M.same hM9
              clear hS3 hM9
              refine wl_bs47b (.tmp 80) (.tmp 96) Sl Sr rfl e0 e16 rfl ?_
              intro g4 w9 hk9 hq S4
              replace Q1 := Q1.mo hq
              replace Q3 := Q3.mo hq
              replace hS := hS.mo hq
              replace M := M.trans hq
              clear hk9 hq
              obtain ⟨Jg4, hJg4⟩ : ∃ X, X = [Sl, Sr].foldl jn sm0 := ⟨_, rfl⟩
              have okJg4 : Jg4.ok := by rw [hJg4]; exact fold_ok _ sm0_ok (two_ok okSl okSr)
              refine wl_call 49 [(.tmp 97)] _ [.slice (some ⟨g4, 0, none⟩) 2 2] (smv Jg4) rfl rfl (fun _ _ => by kernel_rfl) (by have h9 := join_n [Sl, Sr] (some ⟨g4, 0, none⟩) 2 (two_ok okSl okSr) S4 (show 2 ≤ 900000000000000000 by decide); rw [← hJg4] at h9; exact h9) rfl ?_
              intro w10 hq
              replace Q1 := Q1.mo hq
              replace Q3 := Q3.mo hq
              replace hS := hS.mo hq
              replace M := M.trans hq
              clear hq
              refine wl_stx2 42 (.tmp 10) (.tmp 98) k1 0 ((sml Jg4).toArray) [.int .i64 0, .int .i64 0, .int .i64 0, .int .i64 0, .int .i64 0, .int .u64 0, .int .u64 0, .int .u64 0, .int .u64 0, .int .u64 0, .bool false, .bool false, .int .u64 0, .int .u64 0, .int .u64 0, .int .u64 0, .int .i64 0, .bool false, .int .u64 0, .int .u64 0, .int .u64 0, .int .u64 0, .int .i64 0] (sml Jg4) Q1 rfl rfl rfl rfl rfl zs42 rfl rfl rfl ?_
              intro w11 hT Qn
              replace Q1 := Qn
              replace Q3 := hT.other _ _ ne_k1_k3.symm Q3
              have hK := Mk.st1 hT
              replace hS := hS.kept hK (fun j e q => nd_k1 (q ▸ e)) (fun b hb q => ns_k1 b hb q)
              replace M := M.tr hK (fun j hj e => absurd e (by omega))
              clear hT hK Qn
              refine w_nil ?_
              refine xn_then ?_
              refine w_ret ?_
              exact w_ret1 _ (smv Jg4) rfl ⟨k1, rfl, (run_row Q1 42 0 23 (sml Jg4) rfl Try.underlying42 rfl zs42)⟩ ⟨by show _ = Ending.returned (smv (prt c (mb.sc.getD c 0) fa ta (l.ids ++ i :: r.ids))); rw [(show prt c (mb.sc.getD c 0) fa ta (l.ids ++ i :: r.ids) = Jg4 by rw [hJg4, hSl, hSr]; exact (prt_out hlz hokl hokr (by have := of_decide_eq_false hf0; have := of_decide_eq_false hf1; have := of_decide_eq_true hf2; have := of_decide_eq_false hf3; have := of_decide_eq_false hf4; omega)).symm)], _, hS, by have := of_decide_eq_false hf0; have := of_decide_eq_false hf1; have := of_decide_eq_true hf2; have := of_decide_eq_false hf3; have := of_decide_eq_false hf4; omega, by have := of_decide_eq_false hf0; have := of_decide_eq_false hf1; have := of_decide_eq_true hf2; have := of_decide_eq_false hf3; have := of_decide_eq_false hf4; unfold pbd at *; refine ⟨by omega, fun _ => by omega, fun _ => by omega⟩, M⟩
        | false =>
          have hf2p := of_decide_eq_false hf2
          refine w_reg ?_
          refine wl_mv (.tmp 3) (.int .i64 (fa)) (fun _ => rfl) rfl rfl ?_
          refine wl_bin (fun x y => do eqGuard .leq 3 (.tmp 32) (.const (.int .i64 (0))) x y; binOp .leq 3 x y) (.tmp 32) (.const (.int .i64 (0))) (.int .i64 (fa)) (.int .i64 (0)) (.bool false) (fun _ => rfl) rfl rfl (leI hf2 _ _ _) rfl ?_
          refine wl_mv (.tmp 33) (.bool false) (fun _ => rfl) rfl rfl ?_
          refine wl_skip rfl ?_
          refine wl_skip rfl ?_
          refine wl_skip rfl ?_
          refine wl_skip rfl ?_
          refine wl_skip rfl ?_
          refine wl_skip rfl ?_
          refine wl_pick (.tmp 34) (.tmp 40) (.const (.bool false)) false (.bool false) (fun _ => rfl) rfl rfl rfl ?_
          refine w_nil ?_
          refine xn_then ?_
          refine w_condF rfl ?_
          refine w_skip ?_
          refine xn_then ?_
          refine w_seq ?_
          refine w_reg ?_
          refine wl_mv (.tmp 0) (pt t 0) (fun _ => rfl) rfl rfl ?_
          refine wl_mv (.tmp 1) (pt k 0) (fun _ => rfl) rfl rfl ?_
          refine wl_nc (.tmp 50) k 0 rfl rfl rfl ?_
          refine wl_un (fun v => Instr.fieldAt 93 v 2) (.tmp 51) (pt k 0) (pt k 3) (fun _ => rfl) rfl (by kernel_rfl) rfl ?_
          refine wl_bin (fun x y => Instr.indexAt 91 x y) (.tmp 52) (.const (.int .i64 (0))) (pt k 3) (.int .i64 (0)) (pt k 3) (fun _ => rfl) rfl rfl (by kernel_rfl) rfl ?_
          refine wl_load 65 (.tmp 53) (pt k 3) (pp l.p) rfl rfl (run_one (hS.rc k _ hk) 65 3 rfl Try.underlying65 rfl) rfl ?_
          refine wl_mv (.tmp 2) (.int .i64 ((c : Nat) : Int)) (fun _ => rfl) rfl rfl ?_
          refine wl_mv (.tmp 3) (.int .i64 (fa)) (fun _ => rfl) rfl rfl ?_
          refine wl_mv (.tmp 4) (.int .i64 (ta)) (fun _ => rfl) rfl rfl ?_
          obtain ⟨Sl, hSl⟩ : ∃ X, X = prt c (mb.sc.getD c 0) fa ta l.ids := ⟨_, rfl⟩
          have okSl : Sl.ok := by rw [hSl]; exact prt_ok hokl
          refine wl_callg 33 [(.tmp 49), (.tmp 54), (.tmp 55), (.tmp 56), (.tmp 57)] _ [pt t 0, pp l.p, .int .i64 ((c : Nat) : Int), .int .i64 (fa), .int .i64 (ta)] (smv Sl) rfl rfl (fun _ _ => by kernel_rfl) (by have h9 := part_n l (fa := fa) (ta := ta) hc hS hr.2.1 hok.2.1 (by omega) ⟨by omega, by omega⟩ ⟨by omega, by omega⟩ (by omega) (by omega); rw [← hSl] at h9; exact h9) rfl ?_
          intro w4 hF
          obtain ⟨lk2, hS2, hl1, hl2, hM2⟩ := hF
          have hl2b := hl2.1
          replace Q1 := hM2.at Q1 nd_k1
          replace hS := hS2
          replace M := M.same hM2
          clear hS2 hM2
          refine wl_alloc 42 #[.int .i64 0, .int .i64 0, .int .i64 0, .int .i64 0, .int .i64 0, .int .u64 0, .int .u64 0, .int .u64 0, .int .u64 0, .int .u64 0, .bool false, .bool false, .int .u64 0, .int .u64 0, .int .u64 0, .int .u64 0, .int .i64 0, .bool false, .int .u64 0, .int .u64 0, .int .u64 0, .int .u64 0, .int .i64 0] rfl (fun _ => by kernel_rfl) rfl ?_
          intro k3 w5 hk9 hz hq Q3
          have hMs := M.size
          have N_k3 : w.heap.size ≤ k3 := by omega
          have nd_k3 : ¬ D k3 := fun e => by have := hDlt _ e; omega
          have ns_k3 : ∀ b, ob mb.h = some b → b ≠ k3 := fun b hb => by have := hslt b hb; omega
          have ne_k1_k3 : k1 ≠ k3 := by have := Q1.lt; omega
          replace Q1 := Q1.mo hq
          replace hS := hS.mo hq
          replace M := M.trans hq
          clear hk9 hz hq hMs
          refine wl_stx2 42 (.tmp 11) (.tmp 58) k3 0 ((sml Sl).toArray) [.int .i64 0, .int .i64 0, .int .i64 0, .int .i64 0, .int .i64 0, .int .u64 0, .int .u64 0, .int .u64 0, .int .u64 0, .int .u64 0, .bool false, .bool false, .int .u64 0, .int .u64 0, .int .u64 0, .int .u64 0, .int .i64 0, .bool false, .int .u64 0, .int .u64 0, .int .u64 0, .int .u64 0, .int .i64 0] (sml Sl) Q3 rfl rfl rfl rfl rfl zs42 rfl rfl rfl ?_
          intro w6 hT Qn
          replace Q3 := Qn
          replace Q1 := hT.other _ _ ne_k1_k3 Q1
          have hK := Mk.st1 hT
          replace hS := hS.kept hK (fun j e q => nd_k3 (q ▸ e)) (fun b hb q => ns_k3 b hb q)
          replace M := M.tr hK (fun j hj e => absurd e (by omega))
          clear hT hK Qn
          refine w_nil ?_
          refine xn_then ?_
          refine w_seq ?_
          refine w_reg ?_
          refine wl_mv (.tmp 1) (pt k 0) (fun _ => rfl) rfl rfl ?_
          refine wl_nc (.tmp 59) k 0 rfl rfl rfl ?_
          refine wl_un (fun v => Instr.fieldAt 93 v 2) (.tmp 60) (pt k 0) (pt k 3) (fun _ => rfl) rfl (by kernel_rfl) rfl ?_
          refine wl_bin (fun x y => Instr.indexAt 91 x y) (.tmp 61) (.const (.int .i64 (0))) (pt k 3) (.int .i64 (0)) (pt k 3) (fun _ => rfl) rfl rfl (by kernel_rfl) rfl ?_
          refine wl_load 65 (.tmp 62) (pt k 3) (pp l.p) rfl rfl (run_one (hS.rc k _ hk) 65 3 rfl Try.underlying65 rfl) rfl ?_
          refine wl_call 46 [(.tmp 63)] _ [pp l.p] (.int .i64 (l.sz)) rfl rfl (fun _ _ => by kernel_rfl) (size_o hS (szo_of hr.2.1 hok.2.1)) rfl ?_
          intro w7 hq
          replace Q1 := Q1.mo hq
          replace Q3 := Q3.mo hq
          replace hS := hS.mo hq
          replace M := M.trans hq
          clear hq
          refine wl_mv (.tmp 64) (.int .i64 (l.sz)) (fun _ => rfl) rfl rfl ?_
          refine w_nil ?_
          refine xn_then ?_
          refine w_seq ?_
          refine w_seq ?_
          cases hf3 : decide (fa ≤ l.sz) with
          | true =>
            have hf3p := of_decide_eq_true hf3
            cases hf4 : decide (l.sz < ta) with
            | true =>
              have hf4p := of_decide_eq_true hf4
              refine w_reg ?_
              refine wl_mv (.tmp 3) (.int .i64 (fa)) (fun _ => rfl) rfl rfl ?_
              refine wl_mv (.tmp 12) (.int .i64 (l.sz)) (fun _ => rfl) rfl rfl ?_
              refine wl_bin (fun x y => do eqGuard .leq 3 (.tmp 65) (.tmp 66) x y; binOp .leq 3 x y) (.tmp 65) (.tmp 66) (.int .i64 (fa)) (.int .i64 (l.sz)) (.bool true) (fun _ => rfl) rfl rfl (leI hf3 _ _ _) rfl ?_
              refine wl_mv (.tmp 67) (.bool true) (fun _ => rfl) rfl rfl ?_
              refine wl_mv (.tmp 12) (.int .i64 (l.sz)) (fun _ => rfl) rfl rfl ?_
              refine wl_mv (.tmp 4) (.int .i64 (ta)) (fun _ => rfl) rfl rfl ?_
              refine wl_bin (fun x y => do eqGuard .lss 3 (.tmp 69) (.tmp 70) x y; binOp .lss 3 x y) (.tmp 69) (.tmp 70) (.int .i64 (l.sz)) (.int .i64 (ta)) (.bool true) (fun _ => rfl) rfl rfl (ltI hf4 _ _ _) rfl ?_
              refine wl_pick (.tmp 68) (.tmp 71) (.const (.bool false)) true (.bool true) (fun _ => rfl) rfl rfl rfl ?_
              refine w_nil ?_
              refine xn_then ?_
              refine w_condT rfl ?_
              refine w_any 5 [.inl (smv Sl), .inl (pt t 0), .inl (pt k 0), .inl (.int .i64 ((c : Nat) : Int)), .inl (smv So)] [] (by kernel_rfl) (by kernel_rfl) (by kernel_rfl) (by kernel_rfl) rfl (by kernel_rfl) (by kernel_rfl) late_nil ?_ ?_ ?_
              · exact Ds.none rfl
              · refine ea_cons ?_ (ea_cons ?_ (ea_cons ?_ (ea_cons ?_ (ea_cons ?_ (ea_nil)))))
                · exact og_eq (smv Sl) rfl (fun f wf hq hd K hK => have Q3 := Q3.mo hq; go_run rfl (wo_load 42 (.tmp 11) (pt k3 0) (smv Sl) rfl rfl (run_row Q3 42 0 23 (sml Sl) rfl Try.underlying42 rfl zs42) (hK _ (Mo.refl _))))
                · exact og_eq (pt t 0) rfl (fun f wf hq hd K hK => go_run rfl (wo_mv (.tmp 0) (pt t 0) (fun _ => rfl) rfl (hK _ (Mo.refl _))))
                · exact og_eq (pt k 0) rfl (fun f wf hq hd K hK => go_run rfl (wo_mv (.tmp 1) (pt k 0) (fun _ => rfl) rfl (hK _ (Mo.refl _))))
                · exact og_eq (.int .i64 ((c : Nat) : Int)) rfl (fun f wf hq hd K hK => go_run rfl (wo_mv (.tmp 2) (.int .i64 ((c : Nat) : Int)) (fun _ => rfl) rfl (hK _ (Mo.refl _))))
                · exact og_eq (smv So) rfl (fun f wf hq hd K hK => have hS := hS.mo hq; go_run rfl (wo_call 50 [(.tmp 74), (.tmp 75), (.tmp 76)] _ [pt t 0, pt k 0, .int .i64 ((c : Nat) : Int)] (smv So) rfl (li3 (hd 1 rfl) (hd 2 rfl) (hd 3 rfl)) (fun _ _ => by kernel_rfl) (by have h9 := own_n hS hk hcv hsc; rw [← hSo] at h9; exact h9) hK))
              intro kf8 w8 hq _ _
              replace Q1 := Q1.mo hq
              replace Q3 := Q3.mo hq
              replace hS := hS.mo hq
              replace M := M.trans hq
              clear hq
              refine wl_bs47b (.tmp 73) (.tmp 77) Sl So rfl rfl rfl rfl ?_
              intro g4 w9 hk9 hq S4
              replace Q1 := Q1.mo hq
              replace Q3 := Q3.mo hq
              replace hS := hS.mo hq
              replace M := M.trans hq
              clear hk9 hq
              obtain ⟨Jg4, hJg4⟩ : ∃ X, X = [Sl, So].foldl jn sm0 := ⟨_, rfl⟩
              have okJg4 : Jg4.ok := by rw [hJg4]; exact fold_ok _ sm0_ok (two_ok okSl okSo)
              refine wl_call 49 [(.tmp 78)] _ [.slice (some ⟨g4, 0, none⟩) 2 2] (smv Jg4) rfl rfl (fun _ _ => by kernel_rfl) (by have h9 := join_n [Sl, So] (some ⟨g4, 0, none⟩) 2 (two_ok okSl okSo) S4 (show 2 ≤ 900000000000000000 by decide); rw [← hJg4] at h9; exact h9) rfl ?_
              intro w10 hq
              replace Q1 := Q1.mo hq
              replace Q3 := Q3.mo hq
              replace hS := hS.mo hq
              replace M := M.trans hq
              clear hq
              refine wl_stx2 42 (.tmp 11) (.tmp 79) k3 0 ((sml Jg4).toArray) (sml Sl) (sml Jg4) Q3 rfl rfl rfl rfl rfl zs42 rfl rfl rfl ?_
              intro w11 hT Qn
              replace Q3 := Qn
              replace Q1 := hT.other _ _ ne_k1_k3 Q1
              have hK := Mk.st1 hT
              replace hS := hS.kept hK (fun j e q => nd_k3 (q ▸ e)) (fun b hb q => ns_k3 b hb q)
              replace M := M.tr hK (fun j hj e => absurd e (by omega))
              clear hT hK Qn
              refine w_nil ?_
              refine xn_then ?_
              refine w_seq ?_
              obtain ⟨Sr, hSr⟩ : ∃ X, X = prt c (mb.sc.getD c 0) (fa - l.sz - 1) (ta - l.sz - 1) r.ids := ⟨_, rfl⟩
              have okSr : Sr.ok := by rw [hSr]; exact prt_ok hokr
              have hsm : Smos [vq (smv Jg4), vq (pt t 0), vq (pt k 0), vq (pt k 0), vq (pt k 3), vq (pt k 4), vq (pp r.p), vq (.int .i64 ((c : Nat) : Int)), vq (.int .i64 (fa)), vq (.int .i64 (l.sz)), vq (.int .i64 (fa - l.sz)), vq (.int .i64 (fa - l.sz - 1)), vq (.int .i64 (ta)), vq (.int .i64 (l.sz)), vq (.int .i64 (ta - l.sz)), vq (.int .i64 (ta - l.sz - 1)), vq (smv Sr)] := smos_cons (smo_vq _) (smos_cons (smo_vq _) (smos_cons (smo_vq _) (smos_cons (smo_vq _) (smos_cons (smo_vq _) (smos_cons (smo_vq _) (smos_cons (smo_vq _) (smos_cons (smo_vq _) (smos_cons (smo_vq _) (smos_cons (smo_vq _) (smos_cons (smo_vq _) (smos_cons (smo_vq _) (smos_cons (smo_vq _) (smos_cons (smo_vq _) (smos_cons (smo_vq _) (smos_cons (smo_vq _) (smos_cons (smo_vq _) (smos_nil)))))))))))))))))
              obtain ⟨G, hGd⟩ : ∃ G, G = (fun (L9 : Nat → Bool) (f9 : Nat → Value) (w9 : World) => (L9 16 = false → Mo w11 w9) ∧ (L9 16 = true → ∃ lk9, HS D w9 t mb R root lk9 ∧ (lk2) ≤ lk9 ∧ pbd (fa - l.sz - 1) (ta - l.sz - 1) r.sz r.ht (lk2) lk9 ∧ Mk D w11 w9)) := ⟨_, rfl⟩
              have hgr : ∀ (i : Nat) (v : Value), i ≠ 16 → ∀ (L9 : Nat → Bool) (f9 : Nat → Value) (a b : World), G L9 f9 a → L9 i = false → Mo a b → G (updB L9 i) (upd f9 i v) b := by
                intro i v h5 L9 f9 a b h _ m
                rw [hGd] at h ⊢
                simp only [updB_ne (Ne.symm h5)]
                exact ⟨fun x => (h.1 x).trans m, fun x => (by obtain ⟨y, q1, q2, q3, q4⟩ := h.2 x; exact ⟨y, q1.mo m, q2, q3, q4.trans m⟩)⟩
              have hsee : ∀ (L9 : Nat → Bool) (f9 : Nat → Value) (a : World), G L9 f9 a → (∃ lk9, HS D a t mb R root lk9) ∧ At a k3 (sml Jg4) := by
                intro L9 f9 a h
                rw [hGd] at h
                cases e9 : L9 16 with
                | false => exact ⟨⟨_, hS.mo (h.1 e9)⟩, Q3.mo (h.1 e9)⟩
                | true => obtain ⟨y, q1, q2, q3, q4⟩ := h.2 e9; exact ⟨⟨y, q1⟩, q4.at Q3 nd_k3⟩
              refine w_ogl 17 G [vq (smv Jg4), vq (pt t 0), vq (pt k 0), vq (pt k 0), vq (pt k 3), vq (pt k 4), vq (pp r.p), vq (.int .i64 ((c : Nat) : Int)), vq (.int .i64 (fa)), vq (.int .i64 (l.sz)), vq (.int .i64 (fa - l.sz)), vq (.int .i64 (fa - l.sz - 1)), vq (.int .i64 (ta)), vq (.int .i64 (l.sz)), vq (.int .i64 (ta - l.sz)), vq (.int .i64 (ta - l.sz - 1)), vq (smv Sr)] (by kernel_rfl) (by kernel_rfl) (by kernel_rfl) (by kernel_rfl) rfl (fun f => by rw [hGd]; exact ⟨fun _ => (Mo.refl _).drew, (fun e => by cases e)⟩) ?_ ?_
              · refine ea_cons ?_ (ea_cons ?_ (ea_cons ?_ (ea_cons ?_ (ea_cons ?_ (ea_cons ?_ (ea_cons ?_ (ea_cons ?_ (ea_cons ?_ (ea_cons ?_ (ea_cons ?_ (ea_cons ?_ (ea_cons ?_ (ea_cons ?_ (ea_cons ?_ (ea_cons ?_ (ea_cons ?_ (ea_nil)))))))))))))))))
                · exact ol_eq (smv Jg4) rfl (hgr 0 _ (by decide)) hsm (fun L9 f wf hG hd K hK => have ⟨⟨_, hS⟩, Q3⟩ := hsee L9 f wf hG; go_run rfl (wo_load 42 (.tmp 11) (pt k3 0) (smv Jg4) rfl rfl (run_row Q3 42 0 23 (sml Jg4) rfl Try.underlying42 rfl zs42) (hK _ (Mo.refl _))))
                · exact ol_eq (pt t 0) rfl (hgr 1 _ (by decide)) hsm (fun L9 f wf hG hd K hK => go_run rfl (wo_mv (.tmp 0) (pt t 0) (fun _ => rfl) rfl (hK _ (Mo.refl _))))
                · exact ol_eq (pt k 0) rfl (hgr 2 _ (by decide)) hsm (fun L9 f wf hG hd K hK => go_run rfl (wo_mv (.tmp 1) (pt k 0) (fun _ => rfl) rfl (hK _ (Mo.refl _))))
                · exact ol_eq (pt k 0) rfl (hgr 3 _ (by decide)) hsm (fun L9 f wf hG hd K hK => go_run rfl (wo_nc (.tmp 82) k 0 rfl (hd 2 rfl) (hK _ (Mo.refl _))))
                · exact ol_eq (pt k 3) rfl (hgr 4 _ (by decide)) hsm (fun L9 f wf hG hd K hK => go_run rfl (wo_un (fun v => Instr.fieldAt 93 v 2) (.tmp 83) (pt k 0) (pt k 3) (fun _ => rfl) (hd 3 rfl) (by kernel_rfl) (hK _ (Mo.refl _))))
                · exact ol_eq (pt k 4) rfl (hgr 5 _ (by decide)) hsm (fun L9 f wf hG hd K hK => go_run rfl (wo_bin (fun x y => Instr.indexAt 91 x y) (.tmp 84) (.const (.int .i64 (1))) (pt k 3) (.int .i64 (1)) (pt k 4) (fun _ => rfl) (hd 4 rfl) rfl (by kernel_rfl) (hK _ (Mo.refl _))))
                · exact ol_eq (pp r.p) rfl (hgr 6 _ (by decide)) hsm (fun L9 f wf hG hd K hK => have ⟨⟨_, hS⟩, Q3⟩ := hsee L9 f wf hG; go_run rfl (wo_load 65 (.tmp 85) (pt k 4) (pp r.p) rfl (hd 5 rfl) (run_one (hS.rc k _ hk) 65 4 rfl Try.underlying65 rfl) (hK _ (Mo.refl _))))
                · exact ol_eq (.int .i64 ((c : Nat) : Int)) rfl (hgr 7 _ (by decide)) hsm (fun L9 f wf hG hd K hK => go_run rfl (wo_mv (.tmp 2) (.int .i64 ((c : Nat) : Int)) (fun _ => rfl) rfl (hK _ (Mo.refl _))))
                · exact ol_eq (.int .i64 (fa)) rfl (hgr 8 _ (by decide)) hsm (fun L9 f wf hG hd K hK => go_run rfl (wo_mv (.tmp 3) (.int .i64 (fa)) (fun _ => rfl) rfl (hK _ (Mo.refl _))))
                · exact ol_eq (.int .i64 (l.sz)) rfl (hgr 9 _ (by decide)) hsm (fun L9 f wf hG hd K hK => go_run rfl (wo_mv (.tmp 12) (.int .i64 (l.sz)) (fun _ => rfl) rfl (hK _ (Mo.refl _))))
                · exact ol_eq (.int .i64 (fa - l.sz)) rfl (hgr 10 _ (by decide)) hsm (fun L9 f wf hG hd K hK => go_run rfl (wo_bin (fun x y => do eqGuard .sub 3 (.tmp 88) (.tmp 89) x y; binOp .sub 3 x y) (.tmp 88) (.tmp 89) (.int .i64 (fa)) (.int .i64 (l.sz)) (.int .i64 (fa - l.sz)) (fun _ => rfl) (hd 8 rfl) (hd 9 rfl) (subI (by omega) (by omega) _ _ _) (hK _ (Mo.refl _))))
                · exact ol_eq (.int .i64 (fa - l.sz - 1)) rfl (hgr 11 _ (by decide)) hsm (fun L9 f wf hG hd K hK => go_run rfl (wo_bin (fun x y => do eqGuard .sub 3 (.tmp 90) (.const (.int .i64 (1))) x y; binOp .sub 3 x y) (.tmp 90) (.const (.int .i64 (1))) (.int .i64 (fa - l.sz)) (.int .i64 (1)) (.int .i64 (fa - l.sz - 1)) (fun _ => rfl) (hd 10 rfl) rfl (subI (by omega) (by omega) _ _ _) (hK _ (Mo.refl _))))
                · exact ol_eq (.int .i64 (ta)) rfl (hgr 12 _ (by decide)) hsm (fun L9 f wf hG hd K hK => go_run rfl (wo_mv (.tmp 4) (.int .i64 (ta)) (fun _ => rfl) rfl (hK _ (Mo.refl _))))
                · exact ol_eq (.int .i64 (l.sz)) rfl (hgr 13 _ (by decide)) hsm (fun L9 f wf hG hd K hK => go_run rfl (wo_mv (.tmp 12) (.int .i64 (l.sz)) (fun _ => rfl) rfl (hK _ (Mo.refl _))))
                · exact ol_eq (.int .i64 (ta - l.sz)) rfl (hgr 14 _ (by decide)) hsm (fun L9 f wf hG hd K hK => go_run rfl (wo_bin (fun x y => do eqGuard .sub 3 (.tmp 92) (.tmp 93) x y; binOp .sub 3 x y) (.tmp 92) (.tmp 93) (.int .i64 (ta)) (.int .i64 (l.sz)) (.int .i64 (ta - l.sz)) (fun _ => rfl) (hd 12 rfl) (hd 13 rfl) (subI (by omega) (by omega) _ _ _) (hK _ (Mo.refl _))))
                · exact ol_eq (.int .i64 (ta - l.sz - 1)) rfl (hgr 15 _ (by decide)) hsm (fun L9 f wf hG hd K hK => go_run rfl (wo_bin (fun x y => do eqGuard .sub 3 (.tmp 94) (.const (.int .i64 (1))) x y; binOp .sub 3 x y) (.tmp 94) (.const (.int .i64 (1))) (.int .i64 (ta - l.sz)) (.int .i64 (1)) (.int .i64 (ta - l.sz - 1)) (fun _ => rfl) (hd 14 rfl) rfl (subI (by omega) (by omega) _ _ _) (hK _ (Mo.refl _))))
                · refine ⟨fun L9 f wf hG hi hd K9 hK => ?_⟩
                  rw [hGd] at hG
                  have hmo := hG.1 hi
                  have h9 := part_n r (fa := fa - l.sz - 1) (ta := ta - l.sz - 1) hc (hS.mo hmo) hr.2.2 hok.2.2 (by omega) ⟨by omega, by omega⟩ ⟨by omega, by omega⟩ (by omega) (by omega)
                  rw [← hSr] at h9
                  refine go_run rfl (wo_callx 33 [(.tmp 81), (.tmp 86), (.tmp 87), (.tmp 91), (.tmp 95)] _ [pt t 0, pp r.p, .int .i64 ((c : Nat) : Int), .int .i64 (fa - l.sz - 1), .int .i64 (ta - l.sz - 1)] rfl (li5 (hd 1 rfl).2 (hd 6 rfl).2 (hd 7 rfl).2 (hd 11 rfl).2 (hd 15 rfl).2) (fun _ _ => by kernel_rfl) h9 (fun e9 w9 ⟨he, lk9, q1, q2, q3, q4⟩ => ⟨_, he, hK _ w9 ?_ rfl (fun j u hj hr => ?_)⟩))
                  · rw [hGd]
                    simp only [updB_eq]
                    exact ⟨fun e => (by cases e), fun _ => ⟨lk9, q1, q2, q3, (Mk.of D hmo).same q4⟩⟩
                  · match j, hj, hr with
                    | 0, _, hr => exact hr
                    | 1, _, hr => exact hr
                    | 2, _, hr => exact hr
                    | 3, _, hr => exact hr
                    | 4, _, hr => exact hr
                    | 5, _, hr => exact hr
                    | 6, _, hr => exact hr
                    | 7, _, hr => exact hr
                    | 8, _, hr => exact hr
                    | 9, _, hr => exact hr
                    | 10, _, hr => exact hr
                    | 11, _, hr => exact hr
                    | 12, _, hr => exact hr
                    | 13, _, hr => exact hr
                    | 14, _, hr => exact hr
                    | 15, _, hr => exact hr
                    | 16, _, hr => exact hr
                    | j + 17, _, _ => trivial
              intro L9 f w12 hall hG hR
              rw [hGd] at hG
              obtain ⟨lk3, hS3, hl3, hl4, hM9⟩ := hG.2 (hall 16 rfl)
              have e0 := hR 0 rfl
              have e16 := hR 16 rfl
              clear hG hall hR hgr hsm hGd hsee
              replace Q1 := hM9.at Q1 nd_k1
              replace Q3 := hM9.at Q3 nd_k3
              replace hS := hS3
              replace M := M.same hM9
              clear hS3 hM9
              refine wl_bs47b (.tmp 80) (.tmp 96) Jg4 Sr rfl e0 e16 rfl ?_
              intro g5 w13 hk9 hq S5
              replace Q1 := Q1.mo hq
              replace Q3 := Q3.mo hq
              replace hS := hS.mo hq
              replace M := M.trans hq
              clear hk9 hq
              obtain ⟨Jg5, hJg5⟩ : ∃ X, X = [Jg4, Sr].foldl jn sm0 := ⟨_, rfl⟩
              have okJg5 : Jg5.ok := by rw [hJg5]; exact fold_ok _ sm0_ok (two_ok okJg4 okSr)
              refine wl_call 49 [(.tmp 97)] _ [.slice (some ⟨g5, 0, none⟩) 2 2] (smv Jg5) rfl rfl (fun _ _ => by kernel_rfl) (by have h9 := join_n [Jg4, Sr] (some ⟨g5, 0, none⟩) 2 (two_ok okJg4 okSr) S5 (show 2 ≤ 900000000000000000 by decide); rw [← hJg5] at h9; exact h9) rfl ?_
              intro w14 hq
              replace Q1 := Q1.mo hq
              replace Q3 := Q3.mo hq
              replace hS := hS.mo hq
              replace M := M.trans hq
              clear hq
              refine wl_stx2 42 (.tmp 10) (.tmp 98) k1 0 ((sml Jg5).toArray) [.int .i64 0, .int .i64 0, .int .i64 0, .int .i64 0, .int .i64 0, .int .u64 0, .int .u64 0, .int .u64 0, .int .u64 0, .int .u64 0, .bool false, .bool false, .int .u64 0, .int .u64 0, .int .u64 0, .int .u64 0, .int .i64 0, .bool false, .int .u64 0, .int .u64 0, .int .u64 0, .int .u64 0, .int .i64 0] (sml Jg5) Q1 rfl rfl rfl rfl rfl zs42 rfl rfl rfl ?_
              intro w15 hT Qn
              replace Q1 := Qn
              replace Q3 := hT.other _ _ ne_k1_k3.symm Q3
              have hK := Mk.st1 hT
              replace hS := hS.kept hK (fun j e q => nd_k1 (q ▸ e)) (fun b hb q => ns_k1 b hb q)
              replace M := M.tr hK (fun j hj e => absurd e (by omega))
              clear hT hK Qn
              refine w_nil ?_
              refine xn_then ?_
              refine w_ret ?_
              exact w_ret1 _ (smv Jg5) rfl ⟨k1, rfl, (run_row Q1 42 0 23 (sml Jg5) rfl Try.underlying42 rfl zs42)⟩ ⟨by show _ = Ending.returned (smv (prt c (mb.sc.getD c 0) fa ta (l.ids ++ i :: r.ids))); rw [(show prt c (mb.sc.getD c 0) fa ta (l.ids ++ i :: r.ids) = Jg5 by rw [hJg5, hJg4, hSl, hSo, hSr]; exact (prt_mid hlz hokl hoki hokr (by have := of_decide_eq_false hf0; have := of_decide_eq_false hf1; have := of_decide_eq_false hf2; have := of_decide_eq_true hf3; have := of_decide_eq_true hf4; omega) (by have := of_decide_eq_false hf0; have := of_decide_eq_false hf1; have := of_decide_eq_false hf2; have := of_decide_eq_true hf3; have := of_decide_eq_true hf4; omega)).symm)], _, hS, by have := of_decide_eq_false hf0; have := of_decide_eq_false hf1; have := of_decide_eq_false hf2; have := of_decide_eq_true hf3; have := of_decide_eq_true hf4; omega, by have := of_decide_eq_false hf0; have := of_decide_eq_false hf1; have := of_decide_eq_false hf2; have := of_decide_eq_true hf3; have := of_decide_eq_true hf4; unfold pbd at *; refine ⟨by omega, fun _ => by omega, fun _ => by omega⟩, M⟩
            | false =>
              have hf4p := of_decide_eq_false hf4
              refine w_reg ?_
              refine wl_mv (.tmp 3) (.int .i64 (fa)) (fun _ => rfl) rfl rfl ?_
              refine wl_mv (.tmp 12) (.int .i64 (l.sz)) (fun _ => rfl) rfl rfl ?_
              refine wl_bin (fun x y => do eqGuard .leq 3 (.tmp 65) (.tmp 66) x y; binOp .leq 3 x y) (.tmp 65) (.tmp 66) (.int .i64 (fa)) (.int .i64 (l.sz)) (.bool true) (fun _ => rfl) rfl rfl (leI hf3 _ _ _) rfl ?_
              refine wl_mv (.tmp 67) (.bool true) (fun _ => rfl) rfl rfl ?_
              refine wl_mv (.tmp 12) (.int .i64 (l.sz)) (fun _ => rfl) rfl rfl ?_
              refine wl_mv (.tmp 4) (.int .i64 (ta)) (fun _ => rfl) rfl rfl ?_
              refine wl_bin (fun x y => do eqGuard .lss 3 (.tmp 69) (.tmp 70) x y; binOp .lss 3 x y) (.tmp 69) (.tmp 70) (.int .i64 (l.sz)) (.int .i64 (ta)) (.bool false) (fun _ => rfl) rfl rfl (ltI hf4 _ _ _) rfl ?_
              refine wl_pick (.tmp 68) (.tmp 71) (.const (.bool false)) true (.bool false) (fun _ => rfl) rfl rfl rfl ?_
              refine w_nil ?_
              refine xn_then ?_
              refine w_condF rfl ?_
              refine w_skip ?_
              refine xn_then ?_
              refine w_seq ?_
              obtain ⟨Sr, hSr⟩ : ∃ X, X = prt c (mb.sc.getD c 0) (fa - l.sz - 1) (ta - l.sz - 1) r.ids := ⟨_, rfl⟩
              have okSr : Sr.ok := by rw [hSr]; exact prt_ok hokr
              have hsm : Smos [vq (smv Sl), vq (pt t 0), vq (pt k 0), vq (pt k 0), vq (pt k 3), vq (pt k 4), vq (pp r.p), vq (.int .i64 ((c : Nat) : Int)), vq (.int .i64 (fa)), vq (.int .i64 (l.sz)), vq (.int .i64 (fa - l.sz)), vq (.int .i64 (fa - l.sz - 1)), vq (.int .i64 (ta)), vq (.int .i64 (l.sz)), vq (.int .i64 (ta - l.sz)), vq (.int .i64 (ta - l.sz - 1)), vq (smv Sr)] := smos_cons (smo_vq _) (smos_cons (smo_vq _) (smos_cons (smo_vq _) (smos_cons (smo_vq _) (smos_cons (smo_vq _) (smos_cons (smo_vq _) (smos_cons (smo_vq _) (smos_cons (smo_vq _) (smos_cons (smo_vq _) (smos_cons (smo_vq _) (smos_cons (smo_vq _) (smos_cons (smo_vq _) (smos_cons (smo_vq _) (smos_cons (smo_vq _) (smos_cons (smo_vq _) (smos_cons (smo_vq _) (smos_cons (smo_vq _) (smos_nil)))))))))))))))))
              obtain ⟨G, hGd⟩ : ∃ G, G = (fun (L9 : Nat → Bool) (f9 : Nat → Value) (w9 : World) => (L9 16 = false → Mo w7 w9) ∧ (L9 16 = true → ∃ lk9, HS D w9 t mb R root lk9 ∧ (lk2) ≤ lk9 ∧ pbd (fa - l.sz - 1) (ta - l.sz - 1) r.sz r.ht (lk2) lk9 ∧ Mk D w7 w9)) := ⟨_, rfl⟩
              have hgr : ∀ (i : Nat) (v : Value), i ≠ 16 → ∀ (L9 : Nat → Bool) (f9 : Nat → Value) (a b : World), G L9 f9 a → L9 i = false → Mo a b → G (updB L9 i) (upd f9 i v) b := by
                intro i v h5 L9 f9 a b h _ m
                rw [hGd] at h ⊢
                simp only [updB_ne (Ne.symm h5)]
                exact ⟨fun x => (h.1 x).trans m, fun x => (by obtain ⟨y, q1, q2, q3, q4⟩ := h.2 x; exact ⟨y, q1.mo m, q2, q3, q4.trans m⟩)⟩
              have hsee : ∀ (L9 : Nat → Bool) (f9 : Nat → Value) (a : World), G L9 f9 a → (∃ lk9, HS D a t mb R root lk9) ∧ At a k3 (sml Sl) := by
                intro L9 f9 a h
                rw [hGd] at h
                cases e9 : L9 16 with
                | false => exact ⟨⟨_, hS.mo (h.1 e9)⟩, Q3.mo (h.1 e9)⟩
                | true => obtain ⟨y, q1, q2, q3, q4⟩ := h.2 e9; exact ⟨⟨y, q1⟩, q4.at Q3 nd_k3⟩
              refine w_ogl 17 G [vq (smv Sl), vq (pt t 0), vq (pt k 0), vq (pt k 0), vq (pt k 3), vq (pt k 4), vq (pp r.p), vq (.int .i64 ((c : Nat) : Int)), vq (.int .i64 (fa)), vq (.int .i64 (l.sz)), vq (.int .i64 (fa - l.sz)), vq (.int .i64 (fa - l.sz - 1)), vq (.int .i64 (ta)), vq (.int .i64 (l.sz)), vq (.int .i64 (ta - l.sz)), vq (.int .i64 (ta - l.sz - 1)), vq (smv Sr)] (by kernel_rfl) (by kernel_rfl) (by kernel_rfl) (by kernel_rfl) rfl (fun f => by rw [hGd]; exact ⟨fun _ => (Mo.refl _).drew, (fun e => by cases e)⟩) ?_ ?_
              · refine ea_cons ?_ (ea_cons ?_ (ea_cons ?_ (ea_cons ?_ (ea_cons ?_ (ea_cons ?_ (ea_cons ?_ (ea_cons ?_ (ea_cons ?_ (ea_cons ?_ (ea_cons ?_ (ea_cons ?_ (ea_cons ?_ (ea_cons ?_ (ea_cons ?_ (ea_cons ?_ (ea_cons ?_ (ea_nil)))))))))))))))))
                · exact ol_eq (smv Sl) rfl (hgr 0 _ (by decide)) hsm (fun L9 f wf hG hd K hK => have ⟨⟨_, hS⟩, Q3⟩ := hsee L9 f wf hG; go_run rfl (wo_load 42 (.tmp 11) (pt k3 0) (smv Sl) rfl rfl (run_row Q3 42 0 23 (sml Sl) rfl Try.underlying42 rfl zs42) (hK _ (Mo.refl _))))
                · exact ol_eq (pt t 0) rfl (hgr 1 _ (by decide)) hsm (fun L9 f wf hG hd K hK => go_run rfl (wo_mv (.tmp 0) (pt t 0) (fun _ => rfl) rfl (hK _ (Mo.refl _))))
                · exact ol_eq (pt k 0) rfl (hgr 2 _ (by decide)) hsm (fun L9 f wf hG hd K hK => go_run rfl (wo_mv (.tmp 1) (pt k 0) (fun _ => rfl) rfl (hK _ (Mo.refl _))))
                · exact ol_eq (pt k 0) rfl (hgr 3 _ (by decide)) hsm (fun L9 f wf hG hd K hK => go_run rfl (wo_nc (.tmp 82) k 0 rfl (hd 2 rfl) (hK _ (Mo.refl _))))
                · exact ol_eq (pt k 3) rfl (hgr 4 _ (by decide)) hsm (fun L9 f wf hG hd K hK => go_run rfl (wo_un (fun v => Instr.fieldAt 93 v 2) (.tmp 83) (pt k 0) (pt k 3) (fun _ => rfl) (hd 3 rfl) (by kernel_rfl) (hK _ (Mo.refl _))))
                · exact ol_eq (pt k 4) rfl (hgr 5 _ (by decide)) hsm (fun L9 f wf hG hd K hK => go_run rfl (wo_bin (fun x y => Instr.indexAt 91 x y) (.tmp 84) (.const (.int .i64 (1))) (pt k 3) (.int .i64 (1)) (pt k 4) (fun _ => rfl) (hd 4 rfl) rfl (by kernel_rfl) (hK _ (Mo.refl _))))
                · exact ol_eq (pp r.p) rfl (hgr 6 _ (by decide)) hsm (fun L9 f wf hG hd K hK => have ⟨⟨_, hS⟩, Q3⟩ := hsee L9 f wf hG; go_run rfl (wo_load 65 (.tmp 85) (pt k 4) (pp r.p) rfl (hd 5 rfl) (run_one (hS.rc k _ hk) 65 4 rfl Try.underlying65 rfl) (hK _ (Mo.refl _))))
                · exact ol_eq (.int .i64 ((c : Nat) : Int)) rfl (hgr 7 _ (by decide)) hsm (fun L9 f wf hG hd K hK => go_run rfl (wo_mv (.tmp 2) (.int .i64 ((c : Nat) : Int)) (fun _ => rfl) rfl (hK _ (Mo.refl _))))
                · exact ol_eq (.int .i64 (fa)) rfl (hgr 8 _ (by decide)) hsm (fun L9 f wf hG hd K hK => go_run rfl (wo_mv (.tmp 3) (.int .i64 (fa)) (fun _ => rfl) rfl (hK _ (Mo.refl _))))
                · exact ol_eq (.int .i64 (l.sz)) rfl (hgr 9 _ (by decide)) hsm (fun L9 f wf hG hd K hK => go_run rfl (wo_mv (.tmp 12) (.int .i64 (l.sz)) (fun _ => rfl) rfl (hK _ (Mo.refl _))))
                · exact ol_eq (.int .i64 (fa - l.sz)) rfl (hgr 10 _ (by decide)) hsm (fun L9 f wf hG hd K hK => go_run rfl (wo_bin (fun x y => do eqGuard .sub 3 (.tmp 88) (.tmp 89) x y; binOp .sub 3 x y) (.tmp 88) (.tmp 89) (.int .i64 (fa)) (.int .i64 (l.sz)) (.int .i64 (fa - l.sz)) (fun _ => rfl) (hd 8 rfl) (hd 9 rfl) (subI (by omega) (by omega) _ _ _) (hK _ (Mo.refl _))))
                · exact ol_eq (.int .i64 (fa - l.sz - 1)) rfl (hgr 11 _ (by decide)) hsm (fun L9 f wf hG hd K hK => go_run rfl (wo_bin (fun x y => do eqGuard .sub 3 (.tmp 90) (.const (.int .i64 (1))) x y; binOp .sub 3 x y) (.tmp 90) (.const (.int .i64 (1))) (.int .i64 (fa - l.sz)) (.int .i64 (1)) (.int .i64 (fa - l.sz - 1)) (fun _ => rfl) (hd 10 rfl) rfl (subI (by omega) (by omega) _ _ _) (hK _ (Mo.refl _))))
                · exact ol_eq (.int .i64 (ta)) rfl (hgr 12 _ (by decide)) hsm (fun L9 f wf hG hd K hK => go_run rfl (wo_mv (.tmp 4) (.int .i64 (ta)) (fun _ => rfl) rfl (hK _ (Mo.refl _))))
                · exact ol_eq (.int .i64 (l.sz)) rfl (hgr 13 _ (by decide)) hsm (fun L9 f wf hG hd K hK => go_run rfl (wo_mv (.tmp 12) (.int .i64 (l.sz)) (fun _ => rfl) rfl (hK _ (Mo.refl _))))
                · exact ol_eq (.int .i64 (ta - l.sz)) rfl (hgr 14 _ (by decide)) hsm (fun L9 f wf hG hd K hK => go_run rfl (wo_bin (fun x y => do eqGuard .sub 3 (.tmp 92) (.tmp 93) x y; binOp .sub 3 x y) (.tmp 92) (.tmp 93) (.int .i64 (ta)) (.int .i64 (l.sz)) (.int .i64 (ta - l.sz)) (fun _ => rfl) (hd 12 rfl) (hd 13 rfl) (subI (by omega) (by omega) _ _ _) (hK _ (Mo.refl _))))
                · exact ol_eq (.int .i64 (ta - l.sz - 1)) rfl (hgr 15 _ (by decide)) hsm (fun L9 f wf hG hd K hK => go_run rfl (wo_bin (fun x y => do eqGuard .sub 3 (.tmp 94) (.const (.int .i64 (1))) x y; binOp .sub 3 x y) (.tmp 94) (.const (.int .i64 (1))) (.int .i64 (ta - l.sz)) (.int .i64 (1)) (.int .i64 (ta - l.sz - 1)) (fun _ => rfl) (hd 14 rfl) rfl (subI (by omega) (by omega) _ _ _) (hK _ (Mo.refl _))))
                · refine ⟨fun L9 f wf hG hi hd K9 hK => ?_⟩
                  rw [hGd] at hG
                  have hmo := hG.1 hi
                  have h9 := part_n r (fa := fa - l.sz - 1) (ta := ta - l.sz - 1) hc (hS.mo hmo) hr.2.2 hok.2.2 (by omega) ⟨by omega, by omega⟩ ⟨by omega, by omega⟩ (by omega) (by omega)
                  rw [← hSr] at h9
                  refine go_run rfl (wo_callx 33 [(.tmp 81), (.tmp 86), (.tmp 87), (.tmp 91), (.tmp 95)] _ [pt t 0, pp r.p, .int .i64 ((c : Nat) : Int), .int .i64 (fa - l.sz - 1), .int .i64 (ta - l.sz - 1)] rfl (li5 (hd 1 rfl).2 (hd 6 rfl).2 (hd 7 rfl).2 (hd 11 rfl).2 (hd 15 rfl).2) (fun _ _ => by kernel_rfl) h9 (fun e9 w9 ⟨he, lk9, q1, q2, q3, q4⟩ => ⟨_, he, hK _ w9 ?_ rfl (fun j u hj hr => ?_)⟩))
                  · rw [hGd]
                    simp only [updB_eq]
                    exact ⟨fun e => (by cases e), fun _ => ⟨lk9, q1, q2, q3, (Mk.of D hmo).same q4⟩⟩
                  · match j, hj, hr with
                    | 0, _, hr => exact hr
                    | 1, _, hr => exact hr
                    | 2, _, hr => exact hr
                    | 3, _, hr => exact hr
                    | 4, _, hr => exact hr
                    | 5, _, hr => exact hr
                    | 6, _, hr => exact hr
                    | 7, _, hr => exact hr
                    | 8, _, hr => exact hr
                    | 9, _, hr => exact hr
                    | 10, _, hr => exact hr
                    | 11, _, hr => exact hr
                    | 12, _, hr => exact hr
                    | 13, _, hr => exact hr
                    | 14, _, hr => exact hr
                    | 15, _, hr => exact hr
                    | 16, _, hr => exact hr
                    | j + 17, _, _ => trivial
              intro L9 f w8 hall hG hR
              rw [hGd] at hG
              obtain ⟨lk3, hS3, hl3, hl4, hM9⟩ := hG.2 (hall 16 rfl)
              have e0 := hR 0 rfl
              have e16 := hR 16 rfl
              clear hG hall hR hgr hsm hGd hsee
              replace Q1 := hM9.at Q1 nd_k1
              replace Q3 := hM9.at Q3 nd_k3
              replace hS := hS3
              replace M := M.same hM9
              clear hS3 hM9
              refine wl_bs47b (.tmp 80) (.tmp 96) Sl Sr rfl e0 e16 rfl ?_
              intro g4 w9 hk9 hq S4
              replace Q1 := Q1.mo hq
              replace Q3 := Q3.mo hq
              replace hS := hS.mo hq
              replace M := M.trans hq
              clear hk9 hq
              obtain ⟨Jg4, hJg4⟩ : ∃ X, X = [Sl, Sr].foldl jn sm0 := ⟨_, rfl⟩
              have okJg4 : Jg4.ok := by rw [hJg4]; exact fold_ok _ sm0_ok (two_ok okSl okSr)
              refine wl_call 49 [(.tmp 97)] _ [.slice (some ⟨g4, 0, none⟩) 2 2] (smv Jg4) rfl rfl (fun _ _ => by kernel_rfl) (by have h9 := join_n [Sl, Sr] (some ⟨g4, 0, none⟩) 2 (two_ok okSl okSr) S4 (show 2 ≤ 900000000000000000 by decide); rw [← hJg4] at h9; exact h9) rfl ?_
              intro w10 hq
              replace Q1 := Q1.mo hq
              replace Q3 := Q3.mo hq
              replace hS := hS.mo hq
              replace M := M.trans hq
              clear hq
              refine wl_stx2 42 (.tmp 10) (.tmp 98) k1 0 ((sml Jg4).toArray) [.int .i64 0, .int .i64 0, .int .i64 0, .int .i64 0, .int .i64 0, .int .u64 0, .int .u64 0, .int .u64 0, .int .u64 0, .int .u64 0, .bool false, .bool false, .int .u64 0, .int .u64 0, .int .u64 0, .int .u64 0, .int .i64 0, .bool false, .int .u64 0, .int .u64 0, .int .u64 0, .int .u64 0, .int .i64 0] (sml Jg4) Q1 rfl rfl rfl rfl rfl zs42 rfl rfl rfl ?_
              intro w11 hT Qn
              replace Q1 := Qn
              replace Q3 := hT.other _ _ ne_k1_k3.symm Q3
              have hK := Mk.st1 hT
              replace hS := hS.kept hK (fun j e q => nd_k1 (q ▸ e)) (fun b hb q => ns_k1 b hb q)
              replace M := M.tr hK (fun j hj e => absurd e (by omega))
              clear hT hK Qn
              refine w_nil ?_
              refine xn_then ?_
              refine w_ret ?_
              exact w_ret1 _ (smv Jg4) rfl ⟨k1, rfl, (run_row Q1 42 0 23 (sml Jg4) rfl Try.underlying42 rfl zs42)⟩ ⟨by show _ = Ending.returned (smv (prt c (mb.sc.getD c 0) fa ta (l.ids ++ i :: r.ids))); rw [(show prt c (mb.sc.getD c 0) fa ta (l.ids ++ i :: r.ids) = Jg4 by rw [hJg4, hSl, hSr]; exact (prt_out hlz hokl hokr (by have := of_decide_eq_false hf0; have := of_decide_eq_false hf1; have := of_decide_eq_false hf2; have := of_decide_eq_true hf3; have := of_decide_eq_false hf4; omega)).symm)], _, hS, by have := of_decide_eq_false hf0; have := of_decide_eq_false hf1; have := of_decide_eq_false hf2; have := of_decide_eq_true hf3; have := of_decide_eq_false hf4; omega, by have := of_decide_eq_false hf0; have := of_decide_eq_false hf1; have := of_decide_eq_false hf2; have := of_decide_eq_true hf3; have := of_decide_eq_false hf4; unfold pbd at *; refine ⟨by omega, fun _ => by omega, fun _ => by omega⟩, M⟩
          | false =>
            have hf3p := of_decide_eq_false hf3
            refine w_reg ?_
            refine wl_mv (.tmp 3) (.int .i64 (fa)) (fun _ => rfl) rfl rfl ?_
            refine wl_mv (.tmp 12) (.int .i64 (l.sz)) (fun _ => rfl) rfl rfl ?_
            refine wl_bin (fun x y => do eqGuard .leq 3 (.tmp 65) (.tmp 66) x y; binOp .leq 3 x y) (.tmp 65) (.tmp 66) (.int .i64 (fa)) (.int .i64 (l.sz)) (.bool false) (fun _ => rfl) rfl rfl (leI hf3 _ _ _) rfl ?_
            refine wl_mv (.tmp 67) (.bool false) (fun _ => rfl) rfl rfl ?_
            refine wl_skip rfl ?_
            refine wl_skip rfl ?_
            refine wl_skip rfl ?_
            refine wl_pick (.tmp 68) (.tmp 71) (.const (.bool false)) false (.bool false) (fun _ => rfl) rfl rfl rfl ?_
            refine w_nil ?_
            refine xn_then ?_
            refine w_condF rfl ?_
            refine w_skip ?_
            refine xn_then ?_
            refine w_seq ?_
            obtain ⟨Sr, hSr⟩ : ∃ X, X = prt c (mb.sc.getD c 0) (fa - l.sz - 1) (ta - l.sz - 1) r.ids := ⟨_, rfl⟩
            have okSr : Sr.ok := by rw [hSr]; exact prt_ok hokr
            have hsm : Smos [vq (smv Sl), vq (pt t 0), vq (pt k 0), vq (pt k 0), vq (pt k 3), vq (pt k 4), vq (pp r.p), vq (.int .i64 ((c : Nat) : Int)), vq (.int .i64 (fa)), vq (.int .i64 (l.sz)), vq (.int .i64 (fa - l.sz)), vq (.int .i64 (fa - l.sz - 1)), vq (.int .i64 (ta)), vq (.int .i64 (l.sz)), vq (.int .i64 (ta - l.sz)), vq (.int .i64 (ta - l.sz - 1)), vq (smv Sr)] := smos_cons (smo_vq _) (smos_cons (smo_vq _) (smos_cons (smo_vq _) (smos_cons (smo_vq _) (smos_cons (smo_vq _) (smos_cons (smo_vq _) (smos_cons (smo_vq _) (smos_cons (smo_vq _) (smos_cons (smo_vq _) (smos_cons (smo_vq _) (smos_cons (smo_vq _) (smos_cons (smo_vq _) (smos_cons (smo_vq _) (smos_cons (smo_vq _) (smos_cons (smo_vq _) (smos_cons (smo_vq _) (smos_cons (smo_vq _) (smos_nil)))))))))))))))))
            obtain ⟨G, hGd⟩ : ∃ G, G = (fun (L9 : Nat → Bool) (f9 : Nat → Value) (w9 : World) => (L9 16 = false → Mo w7 w9) ∧ (L9 16 = true → ∃ lk9, HS D w9 t mb R root lk9 ∧ (lk2) ≤ lk9 ∧ pbd (fa - l.sz - 1) (ta - l.sz - 1) r.sz r.ht (lk2) lk9 ∧ Mk D w7 w9)) := ⟨_, rfl⟩
            have hgr : ∀ (i : Nat) (v : Value), i ≠ 16 → ∀ (L9 : Nat → Bool) (f9 : Nat → Value) (a b : World), G L9 f9 a → L9 i = false → Mo a b → G (updB L9 i) (upd f9 i v) b := by
              intro i v h5 L9 f9 a b h _ m
              rw [hGd] at h ⊢
              simp only [updB_ne (Ne.symm h5)]
              exact ⟨fun x => (h.1 x).trans m, fun x => (by obtain ⟨y, q1, q2, q3, q4⟩ := h.2 x; exact ⟨y, q1.mo m, q2, q3, q4.trans m⟩)⟩
            have hsee : ∀ (L9 : Nat → Bool) (f9 : Nat → Value) (a : World), G L9 f9 a → (∃ lk9, HS D a t mb R root lk9) ∧ At a k3 (sml Sl) := by
              intro L9 f9 a h
              rw [hGd] at h
              cases e9 : L9 16 with
              | false => exact ⟨⟨_, hS.mo (h.1 e9)⟩, Q3.mo (h.1 e9)⟩
              | true => obtain ⟨y, q1, q2, q3, q4⟩ := h.2 e9; exact ⟨⟨y, q1⟩, q4.at Q3 nd_k3⟩
            refine w_ogl 17 G [vq (smv Sl), vq (pt t 0), vq (pt k 0), vq (pt k 0), vq (pt k 3), vq (pt k 4), vq (pp r.p), vq (.int .i64 ((c : Nat) : Int)), vq (.int .i64 (fa)), vq (.int .i64 (l.sz)), vq (.int .i64 (fa - l.sz)), vq (.int .i64 (fa - l.sz - 1)), vq (.int .i64 (ta)), vq (.int .i64 (l.sz)), vq (.int .i64 (ta - l.sz)), vq (.int .i64 (ta - l.sz - 1)), vq (smv Sr)] (by kernel_rfl) (by kernel_rfl) (by kernel_rfl) (by kernel_rfl) rfl (fun f => by rw [hGd]; exact ⟨fun _ => (Mo.refl _).drew, (fun e => by cases e)⟩) ?_ ?_
            · refine ea_cons ?_ (ea_cons ?_ (ea_cons ?_ (ea_cons ?_ (ea_cons ?_ (ea_cons ?_ (ea_cons ?_ (ea_cons ?_ (ea_cons ?_ (ea_cons ?_ (ea_cons ?_ (ea_cons ?_ (ea_cons ?_ (ea_cons ?_ (ea_cons ?_ (ea_cons ?_ (ea_cons ?_ (ea_nil)))))))))))))))))
              · exact ol_eq (smv Sl) rfl (hgr 0 _ (by decide)) hsm (fun L9 f wf hG hd K hK => have ⟨⟨_, hS⟩, Q3⟩ := hsee L9 f wf hG; go_run rfl (wo_load 42 (.tmp 11) (pt k3 0) (smv Sl) rfl rfl (run_row Q3 42 0 23 (sml Sl) rfl Try.underlying42 rfl zs42) (hK _ (Mo.refl _))))
              · exact ol_eq (pt t 0) rfl (hgr 1 _ (by decide)) hsm (fun L9 f wf hG hd K hK => go_run rfl (wo_mv (.tmp 0) (pt t 0) (fun _ => rfl) rfl (hK _ (Mo.refl _))))
              · exact ol_eq (pt k 0) rfl (hgr 2 _ (by decide)) hsm (fun L9 f wf hG hd K hK => go_run rfl (wo_mv (.tmp 1) (pt k 0) (fun _ => rfl) rfl (hK _ (Mo.refl _))))
              · exact ol_eq (pt k 0) rfl (hgr 3 _ (by decide)) hsm (fun L9 f wf hG hd K hK => go_run rfl (wo_nc (.tmp 82) k 0 rfl (hd 2 rfl) (hK _ (Mo.refl _))))
              · exact ol_eq (pt k 3) rfl (hgr 4 _ (by decide)) hsm (fun L9 f wf hG hd K hK => go_run rfl (wo_un (fun v => Instr.fieldAt 93 v 2) (.tmp 83) (pt k 0) (pt k 3) (fun _ => rfl) (hd 3 rfl) (by kernel_rfl) (hK _ (Mo.refl _))))
              · exact ol_eq (pt k 4) rfl (hgr 5 _ (by decide)) hsm (fun L9 f wf hG hd K hK => go_run rfl (wo_bin (fun x y => Instr.indexAt 91 x y) (.tmp 84) (.const (.int .i64 (1))) (pt k 3) (.int .i64 (1)) (pt k 4) (fun _ => rfl) (hd 4 rfl) rfl (by kernel_rfl) (hK _ (Mo.refl _))))
              · exact ol_eq (pp r.p) rfl (hgr 6 _ (by decide)) hsm (fun L9 f wf hG hd K hK => have ⟨⟨_, hS⟩, Q3⟩ := hsee L9 f wf hG; go_run rfl (wo_load 65 (.tmp 85) (pt k 4) (pp r.p) rfl (hd 5 rfl) (run_one (hS.rc k _ hk) 65 4 rfl Try.underlying65 rfl) (hK _ (Mo.refl _))))
              · exact ol_eq (.int .i64 ((c : Nat) : Int)) rfl (hgr 7 _ (by decide)) hsm (fun L9 f wf hG hd K hK => go_run rfl (wo_mv (.tmp 2) (.int .i64 ((c : Nat) : Int)) (fun _ => rfl) rfl (hK _ (Mo.refl _))))
              · exact ol_eq (.int .i64 (fa)) rfl (hgr 8 _ (by decide)) hsm (fun L9 f wf hG hd K hK => go_run rfl (wo_mv (.tmp 3) (.int .i64 (fa)) (fun _ => rfl) rfl (hK _ (Mo.refl _))))
              · exact ol_eq (.int .i64 (l.sz)) rfl (hgr 9 _ (by decide)) hsm (fun L9 f wf hG hd K hK => go_run rfl (wo_mv (.tmp 12) (.int .i64 (l.sz)) (fun _ => rfl) rfl (hK _ (Mo.refl _))))
              · exact ol_eq (.int .i64 (fa - l.sz)) rfl (hgr 10 _ (by decide)) hsm (fun L9 f wf hG hd K hK => go_run rfl (wo_bin (fun x y => do eqGuard .sub 3 (.tmp 88) (.tmp 89) x y; binOp .sub 3 x y) (.tmp 88) (.tmp 89) (.int .i64 (fa)) (.int .i64 (l.sz)) (.int .i64 (fa - l.sz)) (fun _ => rfl) (hd 8 rfl) (hd 9 rfl) (subI (by omega) (by omega) _ _ _) (hK _ (Mo.refl _))))
              · exact ol_eq (.int .i64 (fa - l.sz - 1)) rfl (hgr 11 _ (by decide)) hsm (fun L9 f wf hG hd K hK => go_run rfl (wo_bin (fun x y => do eqGuard .sub 3 (.tmp 90) (.const (.int .i64 (1))) x y; binOp .sub 3 x y) (.tmp 90) (.const (.int .i64 (1))) (.int .i64 (fa - l.sz)) (.int .i64 (1)) (.int .i64 (fa - l.sz - 1)) (fun _ => rfl) (hd 10 rfl) rfl (subI (by omega) (by omega) _ _ _) (hK _ (Mo.refl _))))
              · exact ol_eq (.int .i64 (ta)) rfl (hgr 12 _ (by decide)) hsm (fun L9 f wf hG hd K hK => go_run rfl (wo_mv (.tmp 4) (.int .i64 (ta)) (fun _ => rfl) rfl (hK _ (Mo.refl _))))
              · exact ol_eq (.int .i64 (l.sz)) rfl (hgr 13 _ (by decide)) hsm (fun L9 f wf hG hd K hK => go_run rfl (wo_mv (.tmp 12) (.int .i64 (l.sz)) (fun _ => rfl) rfl (hK _ (Mo.refl _))))
              · exact ol_eq (.int .i64 (ta - l.sz)) rfl (hgr 14 _ (by decide)) hsm (fun L9 f wf hG hd K hK => go_run rfl (wo_bin (fun x y => do eqGuard .sub 3 (.tmp 92) (.tmp 93) x y; binOp .sub 3 x y) (.tmp 92) (.tmp 93) (.int .i64 (ta)) (.int .i64 (l.sz)) (.int .i64 (ta - l.sz)) (fun _ => rfl) (hd 12 rfl) (hd 13 rfl) (subI (by omega) (by omega) _ _ _) (hK _ (Mo.refl _))))
              · exact ol_eq (.int .i64 (ta - l.sz - 1)) rfl (hgr 15 _ (by decide)) hsm (fun L9 f wf hG hd K hK => go_run rfl (wo_bin (fun x y => do eqGuard .sub 3 (.tmp 94) (.const (.int .i64 (1))) x y; binOp .sub 3 x y) (.tmp 94) (.const (.int .i64 (1))) (.int .i64 (ta - l.sz)) (.int .i64 (1)) (.int .i64 (ta - l.sz - 1)) (fun _ => rfl) (hd 14 rfl) rfl (subI (by omega) (by omega) _ _ _) (hK _ (Mo.refl _))))
              · refine ⟨fun L9 f wf hG hi hd K9 hK => ?_⟩
                rw [hGd] at hG
                have hmo := hG.1 hi
                have h9 := part_n r (fa := fa - l.sz - 1) (ta := ta - l.sz - 1) hc (hS.mo hmo) hr.2.2 hok.2.2 (by omega) ⟨by omega, by omega⟩ ⟨by omega, by omega⟩ (by omega) (by omega)
                rw [← hSr] at h9
                refine go_run rfl (wo_callx 33 [(.tmp 81), (.tmp 86), (.tmp 87), (.tmp 91), (.tmp 95)] _ [pt t 0, pp r.p, .int .i64 ((c : Nat) : Int), .int .i64 (fa - l.sz - 1), .int .i64 (ta - l.sz - 1)] rfl (li5 (hd 1 rfl).2 (hd 6 rfl).2 (hd 7 rfl).2 (hd 11 rfl).2 (hd 15 rfl).2) (fun _ _ => by kernel_rfl) h9 (fun e9 w9 ⟨he, lk9, q1, q2, q3, q4⟩ => ⟨_, he, hK _ w9 ?_ rfl (fun j u hj hr => ?_)⟩))
                · rw [hGd]
                  simp only [updB_eq]
                  exact ⟨fun e => (by cases e), fun _ => ⟨lk9, q1, q2, q3, (Mk.of D hmo).same q4⟩⟩
                · match j, hj, hr with
                  | 0, _, hr => exact hr
                  | 1, _, hr => exact hr
                  | 2, _, hr => exact hr
                  | 3, _, hr => exact hr
                  | 4, _, hr => exact hr
                  | 5, _, hr => exact hr
                  | 6, _, hr => exact hr
                  | 7, _, hr => exact hr
                  | 8, _, hr => exact hr
                  | 9, _, hr => exact hr
                  | 10, _, hr => exact hr
                  | 11, _, hr => exact hr
                  | 12, _, hr => exact hr
                  | 13, _, hr => exact hr
                  | 14, _, hr => exact hr
                  | 15, _, hr => exact hr
                  | 16, _, hr => exact hr
                  | j + 17, _, _ => trivial
            intro L9 f w8 hall hG hR
            rw [hGd] at hG
            obtain ⟨lk3, hS3, hl3, hl4, hM9⟩ := hG.2 (hall 16 rfl)
            have e0 := hR 0 rfl
            have e16 := hR 16 rfl
            clear hG hall hR hgr hsm hGd hsee
            replace Q1 := hM9.at Q1 nd_k1
            replace Q3 := hM9.at Q3 nd_k3
            replace hS := hS3
            replace M := M.same hM9
            clear hS3 hM9
            refine wl_bs47b (.tmp 80) (.tmp 96) Sl Sr rfl e0 e16 rfl ?_
            intro g4 w9 hk9 hq S4
            replace Q1 := Q1.mo hq
            replace Q3 := Q3.mo hq
            replace hS := hS.mo hq
            replace M := M.trans hq
            clear hk9 hq
            obtain ⟨Jg4, hJg4⟩ : ∃ X, X = [Sl, Sr].foldl jn sm0 := ⟨_, rfl⟩
            have okJg4 : Jg4.ok := by rw [hJg4]; exact fold_ok _ sm0_ok (two_ok okSl okSr)
            refine wl_call 49 [(.tmp 97)] _ [.slice (some ⟨g4, 0, none⟩) 2 2] (smv Jg4) rfl rfl (fun _ _ => by kernel_rfl) (by have h9 := join_n [Sl, Sr] (some ⟨g4, 0, none⟩) 2 (two_ok okSl okSr) S4 (show 2 ≤ 900000000000000000 by decide); rw [← hJg4] at h9; exact h9) rfl ?_
            intro w10 hq
            replace Q1 := Q1.mo hq
            replace Q3 := Q3.mo hq
            replace hS := hS.mo hq
            replace M := M.trans hq
            clear hq
            refine wl_stx2 42 (.tmp 10) (.tmp 98) k1 0 ((sml Jg4).toArray) [.int .i64 0, .int .i64 0, .int .i64 0, .int .i64 0, .int .i64 0, .int .u64 0, .int .u64 0, .int .u64 0, .int .u64 0, .int .u64 0, .bool false, .bool false, .int .u64 0, .int .u64 0, .int .u64 0, .int .u64 0, .int .i64 0, .bool false, .int .u64 0, .int .u64 0, .int .u64 0, .int .u64 0, .int .i64 0] (sml Jg4) Q1 rfl rfl rfl rfl rfl zs42 rfl rfl rfl ?_
            intro w11 hT Qn
            replace Q1 := Qn
            replace Q3 := hT.other _ _ ne_k1_k3.symm Q3
            have hK := Mk.st1 hT
            replace hS := hS.kept hK (fun j e q => nd_k1 (q ▸ e)) (fun b hb q => ns_k1 b hb q)
            replace M := M.tr hK (fun j hj e => absurd e (by omega))
            clear hT hK Qn
            refine w_nil ?_
            refine xn_then ?_
            refine w_ret ?_
            exact w_ret1 _ (smv Jg4) rfl ⟨k1, rfl, (run_row Q1 42 0 23 (sml Jg4) rfl Try.underlying42 rfl zs42)⟩ ⟨by show _ = Ending.returned (smv (prt c (mb.sc.getD c 0) fa ta (l.ids ++ i :: r.ids))); rw [(show prt c (mb.sc.getD c 0) fa ta (l.ids ++ i :: r.ids) = Jg4 by rw [hJg4, hSl, hSr]; exact (prt_out hlz hokl hokr (by have := of_decide_eq_false hf0; have := of_decide_eq_false hf1; have := of_decide_eq_false hf2; have := of_decide_eq_false hf3; omega)).symm)], _, hS, by have := of_decide_eq_false hf0; have := of_decide_eq_false hf1; have := of_decide_eq_false hf2; have := of_decide_eq_false hf3; omega, by have := of_decide_eq_false hf0; have := of_decide_eq_false hf1; have := of_decide_eq_false hf2; have := of_decide_eq_false hf3; unfold pbd at *; refine ⟨by omega, fun _ => by omega, fun _ => by omega⟩, M⟩
end
end G
end Go.Proofs.Ythfemlhmnjfjiaa
/-
  Another value in a row: what is to be reckoned anew.
-/
namespace Go.Proofs.Ythfemlhmnjfjiaa
open Go.RowKit
namespace G
/-- One of a record's values is written. -/
theorem HS.val {D : Nat → Prop} {w : World} {t : Nat} {mb : Hd} {M : Mp} {root : Option Nat} {lk : Int} (h : HS D w t mb M root lk) (A : Ap M) {k : Nat} {r : Rc} (e : M k = some r) {c b off cap : Nat} (hc : c < r.i.vs.length) (x : V10) (hx : x.n.ok) (hh : r.i.v = .slice (some ⟨b, off, none⟩) r.i.vs.length cap) :
    HS D (w.setCells b (off + c * 10) x.cells) t mb (ud M k ⟨r.u, r.l, r.r, r.s, ⟨r.i.i, r.i.v, r.i.vs.set c x⟩, r.h, r.c⟩) root lk := by
  have s := St2.mk2 w b (off + c * 10) x.cells
  have hK := Mk.st1 s
  have hob : ob r.i.v = some b := by rw [hh]; exact ob_slice (by omega)
  obtain ⟨db, bt, Mb⟩ := h.ds e (Or.inl hob)
  have hne : ∀ {j q}, M j = some q → j ≠ b := fun hj q => by rw [q, Mb] at hj; cases hj
  have hMb : ∀ {y}, M y = none → ud M k ⟨r.u, r.l, r.r, r.s, ⟨r.i.i, r.i.v, r.i.vs.set c x⟩, r.h, r.c⟩ y = none := fun {y} hb => by
    rw [ud_ne _ _ (fun q => by rw [q, e] at hb; cases hb)]; exact hb
  refine ⟨s.other t _ (Ne.symm bt) h.tr, h.sc.kept hK (fun b' hb' q => h.sd b' hb' (by rw [q]; exact db)), h.sd, fun j q hj => ?_, fun j q hj => ?_, fun j q hj => ?_, fun j q hj => ?_, hMb h.mt, h.dt, fun {j q} hj => ?_, fun {j q b'} hj hb => ?_, fun e => by rw [s.size]; exact h.lt e, h.nb, h.nc⟩
  · rcases ud_or hj with ⟨rfl, rfl⟩ | ⟨hn, hj⟩
    · exact s.other j _ (hne e) (h.rc j r e)
    · exact s.other j _ (hne hj) (h.rc j q hj)
  · rcases ud_or hj with ⟨rfl, rfl⟩ | ⟨hn, hj⟩
    · exact s.cb _ (h.cb _ r e)
    · exact s.cb _ (h.cb j q hj)
  · rcases ud_or hj with ⟨rfl, rfl⟩ | ⟨hn, hj⟩
    · obtain ⟨a1, a2, a3⟩ := h.sv j r e
      refine ⟨?_, by rw [List.length_set]; exact a2, fun X hX => ?_⟩
      · have := a1.set (i := c) (by rw [List.length_map]; exact hh) (by rw [List.length_map]; exact hc) x.cells rfl (fun z hz => by obtain ⟨y, _, rfl⟩ := List.mem_map.1 hz; rfl)
        rw [← List.map_set] at this
        exact this
      · rcases List.mem_or_eq_of_mem_set hX with hX | rfl
        · exact a3 X hX
        · exact hx
    · exact ⟨(h.sv j q hj).1.kept hK (fun b' hb' z => A.vv e hj (Ne.symm hn) hob (z ▸ hb')), (h.sv j q hj).2⟩
  · rcases ud_or hj with ⟨rfl, rfl⟩ | ⟨hn, hj⟩
    · exact ⟨(h.ss _ r e).1.kept hK (fun b' hb' q => A.hv e e (q ▸ hb') hob), (h.ss _ r e).2⟩
    · exact ⟨(h.ss j q hj).1.kept hK (fun b' hb' z => A.hv hj e (z ▸ hb') hob), (h.ss j q hj).2⟩
  · rcases ud_or hj with ⟨rfl, rfl⟩ | ⟨hn, hj⟩
    · exact h.dk e
    · exact h.dk hj
  · rcases ud_or hj with ⟨rfl, rfl⟩ | ⟨hn, hj⟩
    · obtain ⟨a1, a2, a3⟩ := h.ds e hb; exact ⟨a1, a2, hMb a3⟩
    · obtain ⟨a1, a2, a3⟩ := h.ds hj hb; exact ⟨a1, a2, hMb a3⟩
/-- Trees alike in all but values. -/
def Sim : T → T → Prop
  | .e, .e => True
  | .n k i s l r, .n k' i' s' l' r' => k = k' ∧ i.i = i'.i ∧ s = s' ∧ Sim l l' ∧ Sim r r'
  | .e, .n _ _ _ _ _ => False
  | .n _ _ _ _ _, .e => False
theorem Sim.same : ∀ a : T, Sim a a
  | .e => trivial
  | .n _ _ _ l r => ⟨rfl, rfl, rfl, Sim.same l, Sim.same r⟩
theorem Sim.plug : ∀ (C : Cx) {a b : T}, Sim a b → Sim (plug C a) (plug C b)
  | [], _, _, h => h
  | f :: C, a, b, h => Sim.plug C (a := f.jn a) (b := f.jn b) (by
    unfold Fr.jn
    split
    · exact ⟨rfl, rfl, rfl, Sim.same _, h⟩
    · exact ⟨rfl, rfl, rfl, h, Sim.same _⟩)
theorem Sim.all : ∀ {a b : T}, Sim a b → a.p = b.p ∧ a.ad = b.ad ∧ a.sz = b.sz ∧ a.ht = b.ht ∧ a.kv = b.kv ∧ (a.ok → b.ok) ∧ (a.bw → b.bw)
  | .e, .e, _ => ⟨rfl, rfl, rfl, rfl, rfl, fun h => h, fun h => h⟩
  | .n k i s l r, .n k' i' s' l' r', h => by
    obtain ⟨rfl, hi, rfl, h1, h2⟩ := h
    obtain ⟨a1, a2, a3, a4, a5, a6, a7⟩ := h1.all
    obtain ⟨b1, b2, b3, b4, b5, b6, b7⟩ := h2.all
    refine ⟨rfl, by unfold T.ad; rw [a2, b2], by unfold T.sz; rw [a3, b3], by unfold T.ht; rw [a4, b4], by unfold T.kv; rw [a5, b5, hi], fun h => ?_, fun h => ?_⟩
    · exact ⟨by rw [← a3, ← b3]; exact h.1, a6 h.2.1, b6 h.2.2⟩
    · exact ⟨by rw [← a3, ← b3]; exact h.1, by rw [← a3, ← b3]; exact h.2.1, a7 h.2.2.1, b7 h.2.2.2⟩
/-- Right in all columns but one. -/
def Alm (sc : List Int) (c : Nat) (cs : List Sm) (L : List Py) : Prop := cs.length = sc.length ∧ ∀ d, d < sc.length → d ≠ c → cs[d]? = some (col d (sc.getD d 0) L)
def RepU (sc : List Int) (c : Nat) (R : Mp) (root : Option Nat) : Cx → T → Prop
  | [], tr => root = tr.p
  | f :: C, tr => (∃ h cs, R f.k = some (f.rc (top C) tr.p h cs) ∧ Alm sc c cs (f.jn tr).ids) ∧ Rep sc R (some f.k) f.o ∧ RepU sc c R root C (f.jn tr)
/-- From a place upwards one column is still to be reckoned. -/
def Mu (sc : List Int) (c : Nat) (R : Mp) (root : Option Nat) (T' : T) (m : Nat) (x : Option Nat) : Prop := match x with
  | none => root = T'.p ∧ Rep sc R none T' ∧ m = 0
  | some k => ∃ C i s l r h cs, plug C (.n k i s l r) = T' ∧ m = C.length + 1 ∧ R k = some ⟨top C, l.p, r.p, s, i, h, cs⟩ ∧ Alm sc c cs (l.ids ++ i :: r.ids) ∧ Rep sc R (some k) l ∧ Rep sc R (some k) r ∧ RepU sc c R root C (.n k i s l r) ∧ (adC C ++ (T.n k i s l r).ad).Nodup
theorem RepU.ud {sc : List Int} {c : Nat} {R : Mp} {root : Option Nat} {k : Nat} {q : Rc} : ∀ {C : Cx} {tr : T}, k ∉ adC C → RepU sc c R root C tr → RepU sc c (ud R k q) root C tr
  | [], _, _, h => h
  | f :: C, tr, hk, h => by
    obtain ⟨⟨hh, cs, e, a⟩, h2, h3⟩ := h
    unfold adC at hk
    simp only [List.mem_cons, List.mem_append, not_or] at hk
    exact ⟨⟨hh, cs, (ud_ne _ _ (Ne.symm hk.1)).trans e, a⟩, h2.ud hk.2.1, RepU.ud hk.2.2 h3⟩
theorem Alm.done {sc : List Int} {c : Nat} {cs : List Sm} {L : List Py} (h : Alm sc c cs L) (hc : c < sc.length) : cs.set c (col c (sc.getD c 0) L) = agg sc L := by
  apply List.ext_getElem?
  intro d
  by_cases hd : d < sc.length
  · rw [agg_at hd]
    by_cases e : c = d
    · subst e; exact List.getElem?_set_self (by rw [h.1]; exact hc)
    · rw [List.getElem?_set_ne e]; exact h.2 d hd (Ne.symm e)
  · rw [List.getElem?_eq_none (by rw [List.length_set, h.1]; omega), List.getElem?_eq_none (by unfold agg; simp; omega)]
theorem Mu.step {sc : List Int} {c : Nat} {R : Mp} {root : Option Nat} {C : Cx} {k : Nat} {i : Py} {s : Int} {l r : T} {h : Value} {cs : List Sm} (hc : c < sc.length) (ha : Alm sc c cs (l.ids ++ i :: r.ids)) (hl : Rep sc R (some k) l) (hr : Rep sc R (some k) r) (hU : RepU sc c R root C (.n k i s l r)) (hn : (adC C ++ (T.n k i s l r).ad).Nodup) :
    Mu sc c (ud R k ⟨top C, l.p, r.p, s, i, h, cs.set c (col c (sc.getD c 0) (l.ids ++ i :: r.ids))⟩) root (plug C (.n k i s l r)) C.length (top C) := by
  obtain ⟨n1, n2, n3⟩ := nd_pos hn
  have hkC : k ∉ adC C := fun m => n3 k m (by unfold T.ad; simp)
  have hkl : k ∉ l.ad ∧ k ∉ r.ad := by
    unfold T.ad at n2
    have := (List.nodup_cons.1 n2).1
    simp only [List.mem_append, not_or] at this
    exact this
  rw [ha.done hc]
  have hR' : Rep sc (G.ud R k ⟨top C, l.p, r.p, s, i, h, agg sc (l.ids ++ i :: r.ids)⟩) (top C) (.n k i s l r) := ⟨⟨h, ud_same _ _ _⟩, hl.ud hkl.1, hr.ud hkl.2⟩
  have hU' := hU.ud (q := ⟨top C, l.p, r.p, s, i, h, agg sc (l.ids ++ i :: r.ids)⟩) hkC
  cases C with
  | nil => exact ⟨hU', hR', rfl⟩
  | cons f C =>
    obtain ⟨⟨hh, cs2, e, a⟩, h2, h3⟩ := hU'
    have hp := (ad_up f C (.n k i s l r)).nodup_iff.1 hn
    unfold Fr.rc at e
    unfold Fr.jn at a h3 hp
    cases hd : f.d with
    | true =>
      rw [hd] at e a h3 hp
      exact ⟨C, f.i, f.s, f.o, .n k i s l r, hh, cs2, by show plug C _ = plug C (f.jn _); unfold Fr.jn; rw [hd]; rfl, rfl, e, a, h2, hR', h3, hp⟩
    | false =>
      rw [hd] at e a h3 hp
      exact ⟨C, f.i, f.s, .n k i s l r, f.o, hh, cs2, by show plug C _ = plug C (f.jn _); unfold Fr.jn; rw [hd]; rfl, rfl, e, a, hR', h2, h3, hp⟩
theorem col_ext {d : Nat} {s : Int} {A B : List Py} {y z : Py} (h : y.vs.getD d v0 = z.vs.getD d v0) : col d s (A ++ y :: B) = col d s (A ++ z :: B) := by
  unfold col; rw [List.map_append, List.map_append, List.map_cons, List.map_cons, h]
theorem Alm.of {sc : List Int} {c : Nat} {A B : List Py} {y z : Py} (h : ∀ d, d ≠ c → y.vs.getD d v0 = z.vs.getD d v0) : Alm sc c (agg sc (A ++ y :: B)) (A ++ z :: B) :=
  ⟨by unfold agg; simp, fun d hd hn => by rw [agg_at hd, col_ext (h d hn)]⟩
/-- The rows of a place and of what is above. -/
theorem jn_mid (f : Fr) {tr : T} {A B : List Py} {y : Py} (h : tr.ids = A ++ y :: B) : ∃ A' B', (f.jn tr).ids = A' ++ y :: B' ∧ ∀ (tr' : T) (z : Py), tr'.ids = A ++ z :: B → (f.jn tr').ids = A' ++ z :: B' := by
  unfold Fr.jn
  cases f.d with
  | true => exact ⟨f.o.ids ++ f.i :: A, B, by simp [T.ids, h], fun tr' z h' => by simp [T.ids, h']⟩
  | false => exact ⟨A, B ++ f.i :: f.o.ids, by simp [T.ids, h], fun tr' z h' => by simp [T.ids, h']⟩
theorem Fr.jn_ud {sc : List Int} {R : Mp} {u : Option Nat} {f : Fr} {tr : T} (h : Rep sc R u (f.jn tr)) : ∃ hh, R f.k = some (f.rc u tr.p hh (agg sc (f.jn tr).ids)) := by
  unfold Fr.rc
  unfold Fr.jn at h ⊢
  cases hd : f.d with
  | true => rw [hd] at h; exact h.1
  | false => rw [hd] at h; exact h.1
/-- Another row at a place, that is alike in all columns but one. -/
theorem RepU.of {sc : List Int} {c : Nat} {R : Mp} {root : Option Nat} {k : Nat} {q : Rc} {y z : Py} (hyz : ∀ d, d ≠ c → y.vs.getD d v0 = z.vs.getD d v0) : ∀ (C : Cx) {tr tr' : T} {A B : List Py}, root = (plug C tr).p → Rep sc R none (plug C tr) → tr.p = tr'.p → tr.ids = A ++ y :: B → tr'.ids = A ++ z :: B → k ∉ adC C → RepU sc c (G.ud R k q) root C tr'
  | [], tr, tr', A, B, h0, _, hp, _, _, _ => h0.trans hp
  | f :: C, tr, tr', A, B, h0, hR, hp, h1, h2, hk => by
    obtain ⟨A', B', e1, e2⟩ := jn_mid f h1
    unfold adC at hk
    simp only [List.mem_cons, List.mem_append, not_or] at hk
    have hsub : ∀ (C : Cx) {tr : T}, Rep sc R none (plug C tr) → Rep sc R (top C) tr := fun C => by
      induction C with
      | nil => intro tr h; exact h
      | cons g C ih =>
        intro tr h
        have := ih (tr := g.jn tr) h
        unfold Fr.jn at this
        cases hd : g.d with
        | true => rw [hd] at this; exact this.2.2
        | false => rw [hd] at this; exact this.2.1
    have hj : Rep sc R (top C) (f.jn tr) := hsub C hR
    obtain ⟨hh, e⟩ := Fr.jn_ud hj
    have ho : Rep sc R (some f.k) f.o := by
      unfold Fr.jn at hj
      cases hd : f.d with
      | true => rw [hd] at hj; exact hj.2.1
      | false => rw [hd] at hj; exact hj.2.2
    refine ⟨⟨hh, _, (ud_ne _ _ (Ne.symm hk.1)).trans (by rw [← hp]; exact e), ?_⟩, ho.ud hk.2.1, ?_⟩
    · rw [e1, e2 tr' z h2]; exact Alm.of hyz
    · exact RepU.of hyz C (tr := f.jn tr) (tr' := f.jn tr') h0 hR (by rw [f.jn_p, f.jn_p]) e1 (e2 tr' z h2) hk.2.2
end G
end Go.Proofs.Ythfemlhmnjfjiaa
/-
  mendUp: one column is reckoned anew up to the root.
-/
namespace Go.Proofs.Ythfemlhmnjfjiaa
open Go.RowKit
namespace G
section
variable {D : Nat → Prop} {t : Nat} {mb : Hd} {R : Mp} {root : Option Nat} {c : Nat} {lk : Int} {T' : T}
theorem mendUp_n {w : World} (x : Option Nat) {m0 : Nat} (hS : HS D w t mb R root lk) (hA : Ap R) (hU : Mu mb.sc c R root T' m0 x) (hc : c < mb.sc.length) (h0 : 0 ≤ lk) (hlk : lk + 3 * m0 ≤ 4000000000000000000) : Calls Try.prog 39 #[pt t 0, pp x, .int .i64 (c : Int)] w fun e w' => e = .returned (.tuple #[]) ∧ ∃ R' lk', HS D w' t mb R' root lk' ∧ Ap R' ∧ Mu mb.sc c R' root T' 0 none ∧ lk ≤ lk' ∧ lk' ≤ lk + 3 * m0 ∧ (0 < m0 → lk < lk') ∧ Mk D w w' := by
  have hsc : mb.sc[c]? = some (mb.sc.getD c 0) := by rw [List.getD_eq_getElem?_getD, List.getElem?_eq_getElem hc]; rfl
  refine w_enter 30 Try.func39 Try.ntmps39 rfl rfl ?_
  have M : Mk D w w := Mk.refl _ _
  refine w_block ?_
  refine w_loop (fun m l w1 => ∃ (x : Option Nat) (R : Mp) (lk1 : Int), look l 0 = pt t 0 ∧ look l 1 = pp x ∧ look l 2 = .int .i64 (c : Int) ∧ HS D w1 t mb R root lk1 ∧ Ap R ∧ Mu mb.sc c R root T' m x ∧ lk ≤ lk1 ∧ lk1 + 3 * m ≤ lk + 3 * m0 ∧ (m < m0 → lk < lk1) ∧ m ≤ m0 ∧ Mk D w w1) m0 ⟨x, R, lk, rfl, rfl, rfl, hS, hA, hU, by omega, by omega, fun h => absurd h (Nat.lt_irrefl _), by omega, M⟩ ?_
  clear M hS hA hU
  rintro m l wl ⟨x1, R, lk1, g0, g1, g2, hS, hA, hU, hl1, hl2, hl3, hm, M⟩
  cases x1 with
  | none =>
    refine w_seq ?_
    refine w_seq ?_
    refine w_reg ?_
    refine wl_mv (.tmp 1) (pp none) (fun _ => rfl) g1 rfl ?_
    refine wl_bin (fun x y => do eqGuard .neq 65 (.tmp 6) (.const (.pointer none)) x y; binOp .neq 65 x y) (.tmp 6) (.const (.pointer none)) (pp none) (pp none) (.bool false) (fun _ => rfl) rfl rfl (neP none _ _ _) rfl ?_
    refine w_nil ?_
    refine xn_then ?_
    refine w_condF rfl ?_
    refine w_exit ?_
    refine xx_then ?_
    refine xx_then ?_
    refine xx_blk ?_
    exact w_end0 rfl ⟨rfl, R, lk1, hS, hA, ⟨hU.1, hU.2.1, rfl⟩, hl1, by omega, fun h => hl3 (by have := hU.2.2; omega), M⟩
  | some k =>
    obtain ⟨C, i, s, lT, rT, hd1, cs, hT, hmC, hk, ha, hl, hr, hUc, hn⟩ := hU
    have hoks := Rep.oks hS hl
    have hokr := Rep.oks hS hr
    have hoki : i.ok := (hS.sv k _ hk).2.2
    have hvl : i.vs.length = mb.sc.length := (hS.sv k _ hk).2.1
    have hcv : i.vs[c]? = some (i.vs.getD c v0) := by rw [List.getD_eq_getElem?_getD, List.getElem?_eq_getElem (by omega)]; rfl
    refine w_seq ?_
    refine w_seq ?_
    refine w_reg ?_
    refine wl_mv (.tmp 1) (pt k 0) (fun _ => rfl) g1 rfl ?_
    refine wl_bin (fun x y => do eqGuard .neq 65 (.tmp 6) (.const (.pointer none)) x y; binOp .neq 65 x y) (.tmp 6) (.const (.pointer none)) (pt k 0) (pp none) (.bool true) (fun _ => rfl) rfl rfl (neP (some k) _ _ _) rfl ?_
    refine w_nil ?_
    refine xn_then ?_
    refine w_condT rfl ?_
    refine w_skip ?_
    refine xn_then ?_
    refine w_block ?_
    refine w_seq ?_
    refine w_any 12 [.inl (pt t 0), .inl (pt k 0), .inl (pt k 0), .inl (pt k 0), .inl (pt k 3), .inl (pt k 3), .inl (pp lT.p), .inl (pt k 0), .inl (pt k 0), .inl (pt k 3), .inl (pt k 4), .inl (pp rT.p)] [0] (by kernel_rfl) (by kernel_rfl) (by kernel_rfl) (by kernel_rfl) rfl (by kernel_rfl) (by kernel_rfl) (late_cons ⟨_, _, rfl, rfl, fun _ _ _ _ h => h, fun f hd => ⟨rfl, la_mv (.tmp 0) (pt t 0) (fun _ => rfl) g0⟩⟩ late_nil) ?_ ?_ ?_
    · exact Ds.none rfl
    · refine ea_cons ?_ (ea_cons ?_ (ea_cons ?_ (ea_cons ?_ (ea_cons ?_ (ea_cons ?_ (ea_cons ?_ (ea_cons ?_ (ea_cons ?_ (ea_cons ?_ (ea_cons ?_ (ea_cons ?_ (ea_nil))))))))))))
      · exact og_eq (pt t 0) rfl (fun f wf hq hd K hK => go_run rfl (wo_mv (.tmp 0) (pt t 0) (fun _ => rfl) g0 (hK _ (Mo.refl _))))
      · exact og_eq (pt k 0) rfl (fun f wf hq hd K hK => go_run rfl (wo_mv (.tmp 1) (pt k 0) (fun _ => rfl) g1 (hK _ (Mo.refl _))))
      · exact og_eq (pt k 0) rfl (fun f wf hq hd K hK => go_run rfl (wo_mv (.tmp 1) (pt k 0) (fun _ => rfl) g1 (hK _ (Mo.refl _))))
      · exact og_eq (pt k 0) rfl (fun f wf hq hd K hK => go_run rfl (wo_nc (.tmp 10) k 0 rfl (hd 2 rfl) (hK _ (Mo.refl _))))
      · exact og_eq (pt k 3) rfl (fun f wf hq hd K hK => go_run rfl (wo_un (fun v => Instr.fieldAt 93 v 2) (.tmp 11) (pt k 0) (pt k 3) (fun _ => rfl) (hd 3 rfl) (by kernel_rfl) (hK _ (Mo.refl _))))
      · exact og_eq (pt k 3) rfl (fun f wf hq hd K hK => go_run rfl (wo_bin (fun x y => Instr.indexAt 91 x y) (.tmp 12) (.const (.int .i64 (0))) (pt k 3) (.int .i64 (0)) (pt k 3) (fun _ => rfl) (hd 4 rfl) rfl (by kernel_rfl) (hK _ (Mo.refl _))))
      · exact og_eq (pp lT.p) rfl (fun f wf hq hd K hK => have hS := hS.mo hq; go_run rfl (wo_load 65 (.tmp 13) (pt k 3) (pp lT.p) rfl (hd 5 rfl) (run_one (hS.rc k _ hk) 65 3 rfl Try.underlying65 rfl) (hK _ (Mo.refl _))))
      · exact og_eq (pt k 0) rfl (fun f wf hq hd K hK => go_run rfl (wo_mv (.tmp 1) (pt k 0) (fun _ => rfl) g1 (hK _ (Mo.refl _))))
      · exact og_eq (pt k 0) rfl (fun f wf hq hd K hK => go_run rfl (wo_nc (.tmp 15) k 0 rfl (hd 7 rfl) (hK _ (Mo.refl _))))
      · exact og_eq (pt k 3) rfl (fun f wf hq hd K hK => go_run rfl (wo_un (fun v => Instr.fieldAt 93 v 2) (.tmp 16) (pt k 0) (pt k 3) (fun _ => rfl) (hd 8 rfl) (by kernel_rfl) (hK _ (Mo.refl _))))
      · exact og_eq (pt k 4) rfl (fun f wf hq hd K hK => go_run rfl (wo_bin (fun x y => Instr.indexAt 91 x y) (.tmp 17) (.const (.int .i64 (1))) (pt k 3) (.int .i64 (1)) (pt k 4) (fun _ => rfl) (hd 9 rfl) rfl (by kernel_rfl) (hK _ (Mo.refl _))))
      · exact og_eq (pp rT.p) rfl (fun f wf hq hd K hK => have hS := hS.mo hq; go_run rfl (wo_load 65 (.tmp 18) (pt k 4) (pp rT.p) rfl (hd 10 rfl) (run_one (hS.rc k _ hk) 65 4 rfl Try.underlying65 rfl) (hK _ (Mo.refl _))))
    intro kf21 w21 hq _ _
    replace hS := hS.mo hq
    replace M := M.trans hq
    clear hq
    refine wl_bsl [(0, (.tmp 9)), (1, (.tmp 14)), (2, (.tmp 19))] [pp (some k), pp lT.p, pp rT.p] 3 rfl rfl (bs3 (some k) lT.p rT.p) rfl ?_
    intro g21 w22 hk hz hq Q21
    have nd_g21 : ¬ D g21 := fun e => by have := hS.lt e; omega
    replace hS := hS.mo hq
    replace M := M.trans hq
    clear hk hz hq
    refine wl_callg 34 [(.tmp 8), (.tmp 20)] _ [pt t 0, .slice (some ⟨g21, 0, none⟩) 3 3] (.tuple #[]) rfl rfl (fun _ _ => by kernel_rfl) (look_n [(some k), lT.p, rT.p] g21 hS Q21 nd_g21 (by simp only [List.length_cons, List.length_nil]; omega)) rfl ?_
    intro w23 hF
    obtain ⟨hS2, hM2⟩ := hF
    replace hS := hS2
    replace M := M.same hM2
    clear hS2 hM2 Q21 nd_g21
    refine w_nil ?_
    refine xn_then ?_
    refine w_seq ?_
    refine w_reg ?_
    refine wl_mv (.tmp 0) (pt t 0) (fun _ => rfl) g0 rfl ?_
    refine wl_mv (.tmp 1) (pt k 0) (fun _ => rfl) g1 rfl ?_
    refine wl_mv (.tmp 2) (.int .i64 ((c : Nat) : Int)) (fun _ => rfl) g2 rfl ?_
    refine wl_callg 55 [(.tmp 22), (.tmp 23), (.tmp 24)] _ [pt t 0, pt k 0, .int .i64 ((c : Nat) : Int)] (.tuple #[]) rfl rfl (fun _ _ => by kernel_rfl) (mendc_n hS hA hk (x := i.vs.getD c v0) (s := mb.sc.getD c 0) hcv hsc (smo_of hl hc) (smo_of hr hc)) rfl ?_
    intro w24 hF
    obtain ⟨hS2, hM2⟩ := hF
    rw [col_mid hoks hoki hokr] at hS2
    replace hS := hS2
    replace M := M.same hM2
    clear hS2 hM2
    replace hA := hA.wr hk (r' := ⟨top C, lT.p, rT.p, s, i, hd1, cs.set c (col c (mb.sc.getD c 0) (lT.ids ++ i :: rT.ids))⟩) rfl rfl
    have hU := Mu.step (h := hd1) hc ha hl hr hUc hn
    rw [hT] at hU
    clear ha hl hr hUc
    replace hk := ud_same R k ⟨top C, lT.p, rT.p, s, i, hd1, cs.set c (col c (mb.sc.getD c 0) (lT.ids ++ i :: rT.ids))⟩
    refine w_nil ?_
    refine xn_then ?_
    refine w_reg ?_
    refine wl_mv (.tmp 1) (pt k 0) (fun _ => rfl) g1 rfl ?_
    refine wl_nc (.tmp 26) k 0 rfl rfl rfl ?_
    refine wl_un (fun v => Instr.fieldAt 93 v 1) (.tmp 27) (pt k 0) (pt k 2) (fun _ => rfl) rfl (by kernel_rfl) rfl ?_
    refine wl_load 65 (.tmp 28) (pt k 2) (pp ((top C))) rfl rfl (run_one (hS.rc k _ hk) 65 2 rfl Try.underlying65 rfl) rfl ?_
    refine wl_mv (.tmp 29) (pp ((top C))) (fun _ => rfl) rfl rfl ?_
    refine w_nil ?_
    refine xn_blk ?_
    have hcn := cnt_le [some k, lT.p, rT.p]
    have hc1 : 1 ≤ cnt [some k, lT.p, rT.p] := by unfold cnt; have := (cnt_bd [lT.p, rT.p] 1).1; exact this
    simp only [List.length_cons, List.length_nil] at hcn
    exact xn_loop (m - 1) (by omega) ⟨top C, _, _, g0, rfl, g2, hS, hA, by rw [show m - 1 = C.length by omega]; exact hU, by omega, by omega, fun _ => by omega, by omega, M⟩
end
end G
end Go.Proofs.Ythfemlhmnjfjiaa
