/-
  A part of the proof.
-/
import Derived.Test.YthfemlhmnjfjiaaC9
/-
  part: a column's summary of some rows.
-/
namespace Go.Proofs.Ythfemlhmnjfjiaa
open Go.RowKit
namespace G
theorem two_ok {A B : Sm} (ha : A.ok) (hb : B.ok) : ∀ T ∈ [A, B], T.ok := fun T hT => by
  simp only [List.mem_cons, List.mem_nil_iff, or_false] at hT
  rcases hT with rfl | rfl
  · exact ha
  · exact hb
theorem li5 {a b c d e f g i j k : Value} (h : a = b) (l : c = d) (m : e = f) (p : g = i) (q : j = k) : [a, c, e, g, j] = [b, d, f, i, k] := by rw [h, l, m, p, q]
/-- How many nodes are looked at. -/
def pbd (a b s h : Int) (lk lk' : Int) : Prop := lk' ≤ lk + 1 + 4 * h ∧ (a ≤ 0 ∨ s ≤ b → lk' ≤ lk + 1 + 2 * h) ∧ (b ≤ 0 ∨ s ≤ a ∨ (a ≤ 0 ∧ s ≤ b) → lk' ≤ lk + 1)
section
variable {D : Nat → Prop} {t : Nat} {mb : Hd} {R : Mp} {root : Option Nat} {c : Nat}
theorem prt_nil (c : Nat) (s a b : Int) : prt c s a b [] = sm0 := by unfold prt; rw [List.take_nil, List.drop_nil]; rfl
theorem cnt1 (k : Nat) : cnt [some k] = 1 := rfl
set_option maxHeartbeats 8000000 in
theorem part_n : ∀ (tr : T) {w : World} {u : Option Nat} {lk fa ta : Int}, c < mb.sc.length → HS D w t mb R root lk → Rep mb.sc R u tr → tr.ok → tr.sz ≤ 1024 → (-1000000 + tr.sz ≤ fa ∧ fa ≤ 1000000) → (-1000000 + tr.sz ≤ ta ∧ ta ≤ 1000000) → 0 ≤ lk → lk + 10 * tr.sz ≤ 4000000000000000000 →
    Calls Try.prog 33 #[pt t 0, pp tr.p, .int .i64 (c : Int), .int .i64 fa, .int .i64 ta] w fun e w' => e = .returned (smv (prt c (mb.sc.getD c 0) fa ta tr.ids)) ∧ ∃ lk', HS D w' t mb R root lk' ∧ lk ≤ lk' ∧ pbd fa ta tr.sz tr.ht lk lk' ∧ Mk D w w'
  | .e, w, u, lk, fa, ta, hc, hS, hr, hok, hsz, hf, ht, hl0, hlk => by
    have hDlt : ∀ j, D j → j < w.heap.size := fun j e => hS.lt e
    have hslt : ∀ b, ob mb.h = some b → b < w.heap.size := fun b e => hS.sc.lt e
    simp only [T.sz] at hlk
    refine w_enter 99 Try.func33 Try.ntmps33 rfl rfl ?_
    have M : Mk D w w := Mk.refl _ _
    refine w_seq ?_
    refine w_reg ?_
    refine wl_alloc 42 #[.int .i64 0, .int .i64 0, .int .i64 0, .int .i64 0, .int .i64 0, .int .u64 0, .int .u64 0, .int .u64 0, .int .u64 0, .int .u64 0, .bool false, .bool false, .int .u64 0, .int .u64 0, .int .u64 0, .int .u64 0, .int .i64 0, .bool false, .int .u64 0, .int .u64 0, .int .u64 0, .int .u64 0, .int .i64 0] rfl (fun _ => by kernel_rfl) rfl ?_
    intro k1 w1 hk9 hz hq Q1
    have hMs := M.size
    have N_k1 : w.heap.size ≤ k1 := by omega
    have nd_k1 : ¬ D k1 := fun e => by have := hDlt _ e; omega
    have ns_k1 : ∀ b, ob mb.h = some b → b ≠ k1 := fun b hb => by have := hslt b hb; omega
    replace hS := hS.mo hq
    replace M := M.trans hq
    clear hk9 hz hq hMs
    refine w_nil ?_
    refine xn_then ?_
    refine w_seq ?_
    refine w_reg ?_
    refine wl_mv (.tmp 0) (pt t 0) (fun _ => rfl) rfl rfl ?_
    refine wl_mv (.tmp 1) (pp none) (fun _ => rfl) rfl rfl ?_
    refine wl_bsl [(0, (.tmp 14))] [pp none] 1 rfl rfl (bs1 none) rfl ?_
    intro g2 w2 hk hz hq Q2
    have nd_g2 : ¬ D g2 := fun e => by have := hS.lt e; omega
    replace Q1 := Q1.mo hq
    replace hS := hS.mo hq
    replace M := M.trans hq
    clear hk hz hq
    refine wl_callg 34 [(.tmp 13), (.tmp 15)] _ [pt t 0, .slice (some ⟨g2, 0, none⟩) 1 1] (.tuple #[]) rfl rfl (fun _ _ => by kernel_rfl) (look_n [none] g2 hS Q2 nd_g2 (by simp only [List.length_cons, List.length_nil]; omega)) rfl ?_
    intro w3 hF
    replace Q1 := hF.2.at Q1 nd_k1
    have hc1 := cnt_le [none]
    simp only [List.length_cons, List.length_nil] at hc1
    obtain ⟨hS2, hM2⟩ := hF
    replace hS := hS2
    replace M := M.same hM2
    clear hS2 hM2 Q2 nd_g2
    refine w_nil ?_
    refine xn_then ?_
    refine w_seq ?_
    refine w_seq ?_
    refine w_reg ?_
    refine wl_mv (.tmp 1) (pp none) (fun _ => rfl) rfl rfl ?_
    refine wl_bin (fun x y => do eqGuard .eql 65 (.tmp 17) (.const (.pointer none)) x y; binOp .eql 65 x y) (.tmp 17) (.const (.pointer none)) (pp none) (pp none) (.bool true) (fun _ => rfl) rfl rfl (eqP none _ _ _) rfl ?_
    refine wl_mv (.tmp 18) (.bool true) (fun _ => rfl) rfl rfl ?_
    refine wl_skip rfl ?_
    refine wl_skip rfl ?_
    refine wl_pick (.tmp 19) (.const (.bool true)) (.tmp 21) true (.bool true) (fun _ => rfl) rfl rfl rfl ?_
    refine wl_mv (.tmp 22) (.bool true) (fun _ => rfl) rfl rfl ?_
    refine wl_skip rfl ?_
    refine wl_skip rfl ?_
    refine wl_skip rfl ?_
    refine wl_skip rfl ?_
    refine wl_skip rfl ?_
    refine wl_skip rfl ?_
    refine wl_pick (.tmp 23) (.const (.bool true)) (.tmp 29) true (.bool true) (fun _ => rfl) rfl rfl rfl ?_
    refine w_nil ?_
    refine xn_then ?_
    refine w_condT rfl ?_
    refine w_seq ?_
    refine w_reg ?_
    refine wl_call 49 [(.const (.slice none 0 0))] _ [.slice none 0 0] (.agg #[.int .i64 (sm0).r, .int .i64 (sm0).f, .int .i64 (sm0).k, .int .i64 (sm0).d, .int .i64 (sm0).e, .int .u64 (l0 (sm0).tt), .int .u64 (l1 (sm0).tt), .int .u64 (l2 (sm0).tt), .int .u64 (l3 (sm0).tt), .int .u64 (l4 (sm0).tt), .bool (sm0).so, .bool (sm0).mn.b, .int .u64 (l0 (sm0).mn.n), .int .u64 (l1 (sm0).mn.n), .int .u64 (l2 (sm0).mn.n), .int .u64 (l3 (sm0).mn.n), .int .i64 (sm0).mn.s, .bool (sm0).mx.b, .int .u64 (l0 (sm0).mx.n), .int .u64 (l1 (sm0).mx.n), .int .u64 (l2 (sm0).mx.n), .int .u64 (l3 (sm0).mx.n), .int .i64 (sm0).mx.s]) rfl rfl (fun _ _ => by kernel_rfl) (join_n [] none 0 (fun _ h => by cases h) (fun _ _ h => by cases h) (by decide)) rfl ?_
    intro w4 hq
    replace Q1 := Q1.mo hq
    replace hS := hS.mo hq
    replace M := M.trans hq
    clear hq
    refine wl_stx2 42 (.tmp 10) (.tmp 31) k1 0 #[.int .i64 (sm0).r, .int .i64 (sm0).f, .int .i64 (sm0).k, .int .i64 (sm0).d, .int .i64 (sm0).e, .int .u64 (l0 (sm0).tt), .int .u64 (l1 (sm0).tt), .int .u64 (l2 (sm0).tt), .int .u64 (l3 (sm0).tt), .int .u64 (l4 (sm0).tt), .bool (sm0).so, .bool (sm0).mn.b, .int .u64 (l0 (sm0).mn.n), .int .u64 (l1 (sm0).mn.n), .int .u64 (l2 (sm0).mn.n), .int .u64 (l3 (sm0).mn.n), .int .i64 (sm0).mn.s, .bool (sm0).mx.b, .int .u64 (l0 (sm0).mx.n), .int .u64 (l1 (sm0).mx.n), .int .u64 (l2 (sm0).mx.n), .int .u64 (l3 (sm0).mx.n), .int .i64 (sm0).mx.s] [.int .i64 0, .int .i64 0, .int .i64 0, .int .i64 0, .int .i64 0, .int .u64 0, .int .u64 0, .int .u64 0, .int .u64 0, .int .u64 0, .bool false, .bool false, .int .u64 0, .int .u64 0, .int .u64 0, .int .u64 0, .int .i64 0, .bool false, .int .u64 0, .int .u64 0, .int .u64 0, .int .u64 0, .int .i64 0] [.int .i64 (sm0).r, .int .i64 (sm0).f, .int .i64 (sm0).k, .int .i64 (sm0).d, .int .i64 (sm0).e, .int .u64 (l0 (sm0).tt), .int .u64 (l1 (sm0).tt), .int .u64 (l2 (sm0).tt), .int .u64 (l3 (sm0).tt), .int .u64 (l4 (sm0).tt), .bool (sm0).so, .bool (sm0).mn.b, .int .u64 (l0 (sm0).mn.n), .int .u64 (l1 (sm0).mn.n), .int .u64 (l2 (sm0).mn.n), .int .u64 (l3 (sm0).mn.n), .int .i64 (sm0).mn.s, .bool (sm0).mx.b, .int .u64 (l0 (sm0).mx.n), .int .u64 (l1 (sm0).mx.n), .int .u64 (l2 (sm0).mx.n), .int .u64 (l3 (sm0).mx.n), .int .i64 (sm0).mx.s] Q1 rfl rfl rfl rfl rfl zs42 rfl rfl rfl ?_
    intro w5 hT Qn
    replace Q1 := Qn
    have hK := Mk.st1 hT
    replace hS := hS.kept hK (fun j e q => nd_k1 (q ▸ e)) (fun b hb q => ns_k1 b hb q)
    replace M := M.tr hK (fun j hj e => absurd e (by omega))
    clear hT hK Qn
    refine w_nil ?_
    refine xn_then ?_
    refine w_ret ?_
    refine xr_then ?_
    exact w_ret1 _ (.agg #[.int .i64 (sm0).r, .int .i64 (sm0).f, .int .i64 (sm0).k, .int .i64 (sm0).d, .int .i64 (sm0).e, .int .u64 (l0 (sm0).tt), .int .u64 (l1 (sm0).tt), .int .u64 (l2 (sm0).tt), .int .u64 (l3 (sm0).tt), .int .u64 (l4 (sm0).tt), .bool (sm0).so, .bool (sm0).mn.b, .int .u64 (l0 (sm0).mn.n), .int .u64 (l1 (sm0).mn.n), .int .u64 (l2 (sm0).mn.n), .int .u64 (l3 (sm0).mn.n), .int .i64 (sm0).mn.s, .bool (sm0).mx.b, .int .u64 (l0 (sm0).mx.n), .int .u64 (l1 (sm0).mx.n), .int .u64 (l2 (sm0).mx.n), .int .u64 (l3 (sm0).mx.n), .int .i64 (sm0).mx.s]) rfl ⟨k1, rfl, (run_row Q1 42 0 23 [.int .i64 (sm0).r, .int .i64 (sm0).f, .int .i64 (sm0).k, .int .i64 (sm0).d, .int .i64 (sm0).e, .int .u64 (l0 (sm0).tt), .int .u64 (l1 (sm0).tt), .int .u64 (l2 (sm0).tt), .int .u64 (l3 (sm0).tt), .int .u64 (l4 (sm0).tt), .bool (sm0).so, .bool (sm0).mn.b, .int .u64 (l0 (sm0).mn.n), .int .u64 (l1 (sm0).mn.n), .int .u64 (l2 (sm0).mn.n), .int .u64 (l3 (sm0).mn.n), .int .i64 (sm0).mn.s, .bool (sm0).mx.b, .int .u64 (l0 (sm0).mx.n), .int .u64 (l1 (sm0).mx.n), .int .u64 (l2 (sm0).mx.n), .int .u64 (l3 (sm0).mx.n), .int .i64 (sm0).mx.s] rfl Try.underlying42 rfl zs42)⟩ ⟨by rw [show prt c (mb.sc.getD c 0) fa ta T.e.ids = sm0 from prt_nil _ _ _ _], _, hS, by show lk ≤ lk + 0; omega, by unfold pbd; show lk + 0 ≤ _ ∧ (_ → lk + 0 ≤ _) ∧ (_ → lk + 0 ≤ _); refine ⟨by omega, fun _ => by omega, fun _ => by omega⟩, M⟩
  | .n k i s l r, w, u, lk, fa, ta, hc, hS, hr, hok, hsz, hf, ht, hl0, hlk => by
    have hDlt : ∀ j, D j → j < w.heap.size := fun j e => hS.lt e
    have hslt : ∀ b, ob mb.h = some b → b < w.heap.size := fun b e => hS.sc.lt e
    obtain ⟨hd1, hk⟩ := hr.1
    have hss := hok.1
    have hln := T.sz_nn l
    have hrn := T.sz_nn r
    have hlz := T.sz_ids l
    have hrz := T.sz_ids r
    have hhl := T.ht_le l
    have hhr := T.ht_le r
    have hz9 : ((l.ids ++ i :: r.ids).length : Int) = s := by rw [List.length_append, List.length_cons]; omega
    have hh9 : (T.n k i s l r).ht = 1 + max l.ht r.ht := rfl
    have hs9 : (T.n k i s l r).sz = 1 + l.sz + r.sz := rfl
    have hokl := Rep.oks hS hr.2.1
    have hokr := Rep.oks hS hr.2.2
    have hoki : i.ok := (hS.sv k _ hk).2.2
    have hcl : c < (agg mb.sc (l.ids ++ i :: r.ids)).length := by unfold agg; simp; exact hc
    have hvl : i.vs.length = mb.sc.length := (hS.sv k _ hk).2.1
    obtain ⟨Sn, hSn⟩ : ∃ X, X = col c (mb.sc.getD c 0) (l.ids ++ i :: r.ids) := ⟨_, rfl⟩
    obtain ⟨So, hSo⟩ : ∃ X, X = ofs (i.vs.getD c v0) (mb.sc.getD c 0) := ⟨_, rfl⟩
    have okSo : So.ok := by rw [hSo]; exact (ofs_n _ (hoki.at c) _).1
    have hcv : i.vs[c]? = some (i.vs.getD c v0) := by rw [List.getD_eq_getElem?_getD, List.getElem?_eq_getElem (by omega)]; rfl
    have hsc : mb.sc[c]? = some (mb.sc.getD c 0) := by rw [List.getD_eq_getElem?_getD, List.getElem?_eq_getElem hc]; rfl
    rw [hs9] at hf ht hlk hsz
    have hc1 := cnt1 k
    refine w_enter 99 Try.func33 Try.ntmps33 rfl rfl ?_
    have M : Mk D w w := Mk.refl _ _
    refine w_seq ?_
    refine w_reg ?_
    refine wl_alloc 42 #[.int .i64 0, .int .i64 0, .int .i64 0, .int .i64 0, .int .i64 0, .int .u64 0, .int .u64 0, .int .u64 0, .int .u64 0, .int .u64 0, .bool false, .bool false, .int .u64 0, .int .u64 0, .int .u64 0, .int .u64 0, .int .i64 0, .bool false, .int .u64 0, .int .u64 0, .int .u64 0, .int .u64 0, .int .i64 0] rfl (fun _ => by kernel_rfl) rfl ?_
    intro k1 w1 hk9 hz hq Q1
    have hMs := M.size
    have N_k1 : w.heap.size ≤ k1 := by omega
    have nd_k1 : ¬ D k1 := fun e => by have := hDlt _ e; omega
    have ns_k1 : ∀ b, ob mb.h = some b → b ≠ k1 := fun b hb => by have := hslt b hb; omega
    replace hS := hS.mo hq
    replace M := M.trans hq
    clear hk9 hz hq hMs
    refine w_nil ?_
    refine xn_then ?_
    refine w_seq ?_
    refine w_reg ?_
    refine wl_mv (.tmp 0) (pt t 0) (fun _ => rfl) rfl rfl ?_
    refine wl_mv (.tmp 1) (pt k 0) (fun _ => rfl) rfl rfl ?_
    refine wl_bsl [(0, (.tmp 14))] [pp (some k)] 1 rfl rfl (bs1 (some k)) rfl ?_
    intro g2 w2 hk hz hq Q2
    have nd_g2 : ¬ D g2 := fun e => by have := hS.lt e; omega
    replace Q1 := Q1.mo hq
    replace hS := hS.mo hq
    replace M := M.trans hq
    clear hk hz hq
    refine wl_callg 34 [(.tmp 13), (.tmp 15)] _ [pt t 0, .slice (some ⟨g2, 0, none⟩) 1 1] (.tuple #[]) rfl rfl (fun _ _ => by kernel_rfl) (look_n [(some k)] g2 hS Q2 nd_g2 (by simp only [List.length_cons, List.length_nil]; omega)) rfl ?_
    intro w3 hF
    replace Q1 := hF.2.at Q1 nd_k1
    have hc1 := cnt_le [(some k)]
    simp only [List.length_cons, List.length_nil] at hc1
    obtain ⟨hS2, hM2⟩ := hF
    replace hS := hS2
    replace M := M.same hM2
    clear hS2 hM2 Q2 nd_g2
    refine w_nil ?_
    refine xn_then ?_
    refine w_seq ?_
    refine w_seq ?_
    cases hf0 : decide (ta ≤ 0) with
    | true =>
      have hf0p := of_decide_eq_true hf0
      refine w_reg ?_
      refine wl_mv (.tmp 1) (pt k 0) (fun _ => rfl) rfl rfl ?_
      refine wl_bin (fun x y => do eqGuard .eql 65 (.tmp 17) (.const (.pointer none)) x y; binOp .eql 65 x y) (.tmp 17) (.const (.pointer none)) (pt k 0) (pp none) (.bool false) (fun _ => rfl) rfl rfl (eqP (some k) _ _ _) rfl ?_
      refine wl_mv (.tmp 18) (.bool false) (fun _ => rfl) rfl rfl ?_
      refine wl_mv (.tmp 4) (.int .i64 (ta)) (fun _ => rfl) rfl rfl ?_
      refine wl_bin (fun x y => do eqGuard .leq 3 (.tmp 20) (.const (.int .i64 (0))) x y; binOp .leq 3 x y) (.tmp 20) (.const (.int .i64 (0))) (.int .i64 (ta)) (.int .i64 (0)) (.bool true) (fun _ => rfl) rfl rfl (leI hf0 _ _ _) rfl ?_
      refine wl_pick (.tmp 19) (.const (.bool true)) (.tmp 21) false (.bool true) (fun _ => rfl) rfl rfl rfl ?_
      refine wl_mv (.tmp 22) (.bool true) (fun _ => rfl) rfl rfl ?_
      refine wl_skip rfl ?_
      refine wl_skip rfl ?_
      refine wl_skip rfl ?_
      refine wl_skip rfl ?_
      refine wl_skip rfl ?_
      refine wl_skip rfl ?_
      refine wl_pick (.tmp 23) (.const (.bool true)) (.tmp 29) true (.bool true) (fun _ => rfl) rfl rfl rfl ?_
      refine w_nil ?_
      refine xn_then ?_
      refine w_condT rfl ?_
      refine w_seq ?_
      refine w_reg ?_
      refine wl_call 49 [(.const (.slice none 0 0))] _ [.slice none 0 0] (.agg #[.int .i64 (sm0).r, .int .i64 (sm0).f, .int .i64 (sm0).k, .int .i64 (sm0).d, .int .i64 (sm0).e, .int .u64 (l0 (sm0).tt), .int .u64 (l1 (sm0).tt), .int .u64 (l2 (sm0).tt), .int .u64 (l3 (sm0).tt), .int .u64 (l4 (sm0).tt), .bool (sm0).so, .bool (sm0).mn.b, .int .u64 (l0 (sm0).mn.n), .int .u64 (l1 (sm0).mn.n), .int .u64 (l2 (sm0).mn.n), .int .u64 (l3 (sm0).mn.n), .int .i64 (sm0).mn.s, .bool (sm0).mx.b, .int .u64 (l0 (sm0).mx.n), .int .u64 (l1 (sm0).mx.n), .int .u64 (l2 (sm0).mx.n), .int .u64 (l3 (sm0).mx.n), .int .i64 (sm0).mx.s]) rfl rfl (fun _ _ => by kernel_rfl) (join_n [] none 0 (fun _ h => by cases h) (fun _ _ h => by cases h) (by decide)) rfl ?_
      intro w4 hq
      replace Q1 := Q1.mo hq
      replace hS := hS.mo hq
      replace M := M.trans hq
      clear hq
      refine wl_stx2 42 (.tmp 10) (.tmp 31) k1 0 #[.int .i64 (sm0).r, .int .i64 (sm0).f, .int .i64 (sm0).k, .int .i64 (sm0).d, .int .i64 (sm0).e, .int .u64 (l0 (sm0).tt), .int .u64 (l1 (sm0).tt), .int .u64 (l2 (sm0).tt), .int .u64 (l3 (sm0).tt), .int .u64 (l4 (sm0).tt), .bool (sm0).so, .bool (sm0).mn.b, .int .u64 (l0 (sm0).mn.n), .int .u64 (l1 (sm0).mn.n), .int .u64 (l2 (sm0).mn.n), .int .u64 (l3 (sm0).mn.n), .int .i64 (sm0).mn.s, .bool (sm0).mx.b, .int .u64 (l0 (sm0).mx.n), .int .u64 (l1 (sm0).mx.n), .int .u64 (l2 (sm0).mx.n), .int .u64 (l3 (sm0).mx.n), .int .i64 (sm0).mx.s] [.int .i64 0, .int .i64 0, .int .i64 0, .int .i64 0, .int .i64 0, .int .u64 0, .int .u64 0, .int .u64 0, .int .u64 0, .int .u64 0, .bool false, .bool false, .int .u64 0, .int .u64 0, .int .u64 0, .int .u64 0, .int .i64 0, .bool false, .int .u64 0, .int .u64 0, .int .u64 0, .int .u64 0, .int .i64 0] [.int .i64 (sm0).r, .int .i64 (sm0).f, .int .i64 (sm0).k, .int .i64 (sm0).d, .int .i64 (sm0).e, .int .u64 (l0 (sm0).tt), .int .u64 (l1 (sm0).tt), .int .u64 (l2 (sm0).tt), .int .u64 (l3 (sm0).tt), .int .u64 (l4 (sm0).tt), .bool (sm0).so, .bool (sm0).mn.b, .int .u64 (l0 (sm0).mn.n), .int .u64 (l1 (sm0).mn.n), .int .u64 (l2 (sm0).mn.n), .int .u64 (l3 (sm0).mn.n), .int .i64 (sm0).mn.s, .bool (sm0).mx.b, .int .u64 (l0 (sm0).mx.n), .int .u64 (l1 (sm0).mx.n), .int .u64 (l2 (sm0).mx.n), .int .u64 (l3 (sm0).mx.n), .int .i64 (sm0).mx.s] Q1 rfl rfl rfl rfl rfl zs42 rfl rfl rfl ?_
      intro w5 hT Qn
      replace Q1 := Qn
      have hK := Mk.st1 hT
      replace hS := hS.kept hK (fun j e q => nd_k1 (q ▸ e)) (fun b hb q => ns_k1 b hb q)
      replace M := M.tr hK (fun j hj e => absurd e (by omega))
      clear hT hK Qn
      refine w_nil ?_
      refine xn_then ?_
      refine w_ret ?_
      refine xr_then ?_
      exact w_ret1 _ (.agg #[.int .i64 (sm0).r, .int .i64 (sm0).f, .int .i64 (sm0).k, .int .i64 (sm0).d, .int .i64 (sm0).e, .int .u64 (l0 (sm0).tt), .int .u64 (l1 (sm0).tt), .int .u64 (l2 (sm0).tt), .int .u64 (l3 (sm0).tt), .int .u64 (l4 (sm0).tt), .bool (sm0).so, .bool (sm0).mn.b, .int .u64 (l0 (sm0).mn.n), .int .u64 (l1 (sm0).mn.n), .int .u64 (l2 (sm0).mn.n), .int .u64 (l3 (sm0).mn.n), .int .i64 (sm0).mn.s, .bool (sm0).mx.b, .int .u64 (l0 (sm0).mx.n), .int .u64 (l1 (sm0).mx.n), .int .u64 (l2 (sm0).mx.n), .int .u64 (l3 (sm0).mx.n), .int .i64 (sm0).mx.s]) rfl ⟨k1, rfl, (run_row Q1 42 0 23 [.int .i64 (sm0).r, .int .i64 (sm0).f, .int .i64 (sm0).k, .int .i64 (sm0).d, .int .i64 (sm0).e, .int .u64 (l0 (sm0).tt), .int .u64 (l1 (sm0).tt), .int .u64 (l2 (sm0).tt), .int .u64 (l3 (sm0).tt), .int .u64 (l4 (sm0).tt), .bool (sm0).so, .bool (sm0).mn.b, .int .u64 (l0 (sm0).mn.n), .int .u64 (l1 (sm0).mn.n), .int .u64 (l2 (sm0).mn.n), .int .u64 (l3 (sm0).mn.n), .int .i64 (sm0).mn.s, .bool (sm0).mx.b, .int .u64 (l0 (sm0).mx.n), .int .u64 (l1 (sm0).mx.n), .int .u64 (l2 (sm0).mx.n), .int .u64 (l3 (sm0).mx.n), .int .i64 (sm0).mx.s] rfl Try.underlying42 rfl zs42)⟩ ⟨by show _ = Ending.returned (smv (prt c (mb.sc.getD c 0) fa ta (l.ids ++ i :: r.ids))); rw [(show prt c (mb.sc.getD c 0) fa ta (l.ids ++ i :: r.ids) = sm0 from (prt_lo (by have := of_decide_eq_true hf0; omega)))], _, hS, by have := of_decide_eq_true hf0; omega, by have := of_decide_eq_true hf0; unfold pbd at *; refine ⟨by omega, fun _ => by omega, fun _ => by omega⟩, M⟩
    | false =>
      have hf0p := of_decide_eq_false hf0
      cases hf1 : decide (s ≤ fa) with
      | true =>
        have hf1p := of_decide_eq_true hf1
        refine w_reg ?_
        refine wl_mv (.tmp 1) (pt k 0) (fun _ => rfl) rfl rfl ?_
        refine wl_bin (fun x y => do eqGuard .eql 65 (.tmp 17) (.const (.pointer none)) x y; binOp .eql 65 x y) (.tmp 17) (.const (.pointer none)) (pt k 0) (pp none) (.bool false) (fun _ => rfl) rfl rfl (eqP (some k) _ _ _) rfl ?_
        refine wl_mv (.tmp 18) (.bool false) (fun _ => rfl) rfl rfl ?_
        refine wl_mv (.tmp 4) (.int .i64 (ta)) (fun _ => rfl) rfl rfl ?_
        refine wl_bin (fun x y => do eqGuard .leq 3 (.tmp 20) (.const (.int .i64 (0))) x y; binOp .leq 3 x y) (.tmp 20) (.const (.int .i64 (0))) (.int .i64 (ta)) (.int .i64 (0)) (.bool false) (fun _ => rfl) rfl rfl (leI hf0 _ _ _) rfl ?_
        refine wl_pick (.tmp 19) (.const (.bool true)) (.tmp 21) false (.bool false) (fun _ => rfl) rfl rfl rfl ?_
        refine wl_mv (.tmp 22) (.bool false) (fun _ => rfl) rfl rfl ?_
        refine wl_mv (.tmp 3) (.int .i64 (fa)) (fun _ => rfl) rfl rfl ?_
        refine wl_mv (.tmp 1) (pt k 0) (fun _ => rfl) rfl rfl ?_
        refine wl_nc (.tmp 25) k 0 rfl rfl rfl ?_
        refine wl_un (fun v => Instr.fieldAt 93 v 3) (.tmp 26) (pt k 0) (pt k 5) (fun _ => rfl) rfl (by kernel_rfl) rfl ?_
        refine wl_load 3 (.tmp 27) (pt k 5) (.int .i64 (s)) rfl rfl (run_one (hS.rc k _ hk) 3 5 rfl Try.underlying3 rfl) rfl ?_
        refine wl_bin (fun x y => do eqGuard .geq 3 (.tmp 24) (.tmp 28) x y; binOp .geq 3 x y) (.tmp 24) (.tmp 28) (.int .i64 (fa)) (.int .i64 (s)) (.bool true) (fun _ => rfl) rfl rfl (geI hf1 _ _ _) rfl ?_
        refine wl_pick (.tmp 23) (.const (.bool true)) (.tmp 29) false (.bool true) (fun _ => rfl) rfl rfl rfl ?_
        refine w_nil ?_
        refine xn_then ?_
        refine w_condT rfl ?_
        refine w_seq ?_
        refine w_reg ?_
        refine wl_call 49 [(.const (.slice none 0 0))] _ [.slice none 0 0] (.agg #[.int .i64 (sm0).r, .int .i64 (sm0).f, .int .i64 (sm0).k, .int .i64 (sm0).d, .int .i64 (sm0).e, .int .u64 (l0 (sm0).tt), .int .u64 (l1 (sm0).tt), .int .u64 (l2 (sm0).tt), .int .u64 (l3 (sm0).tt), .int .u64 (l4 (sm0).tt), .bool (sm0).so, .bool (sm0).mn.b, .int .u64 (l0 (sm0).mn.n), .int .u64 (l1 (sm0).mn.n), .int .u64 (l2 (sm0).mn.n), .int .u64 (l3 (sm0).mn.n), .int .i64 (sm0).mn.s, .bool (sm0).mx.b, .int .u64 (l0 (sm0).mx.n), .int .u64 (l1 (sm0).mx.n), .int .u64 (l2 (sm0).mx.n), .int .u64 (l3 (sm0).mx.n), .int .i64 (sm0).mx.s]) rfl rfl (fun _ _ => by kernel_rfl) (join_n [] none 0 (fun _ h => by cases h) (fun _ _ h => by cases h) (by decide)) rfl ?_
        intro w4 hq
        replace Q1 := Q1.mo hq
        replace hS := hS.mo hq
        replace M := M.trans hq
        clear hq
        refine wl_stx2 42 (.tmp 10) (.tmp 31) k1 0 #[.int .i64 (sm0).r, .int .i64 (sm0).f, .int .i64 (sm0).k, .int .i64 (sm0).d, .int .i64 (sm0).e, .int .u64 (l0 (sm0).tt), .int .u64 (l1 (sm0).tt), .int .u64 (l2 (sm0).tt), .int .u64 (l3 (sm0).tt), .int .u64 (l4 (sm0).tt), .bool (sm0).so, .bool (sm0).mn.b, .int .u64 (l0 (sm0).mn.n), .int .u64 (l1 (sm0).mn.n), .int .u64 (l2 (sm0).mn.n), .int .u64 (l3 (sm0).mn.n), .int .i64 (sm0).mn.s, .bool (sm0).mx.b, .int .u64 (l0 (sm0).mx.n), .int .u64 (l1 (sm0).mx.n), .int .u64 (l2 (sm0).mx.n), .int .u64 (l3 (sm0).mx.n), .int .i64 (sm0).mx.s] [.int .i64 0, .int .i64 0, .int .i64 0, .int .i64 0, .int .i64 0, .int .u64 0, .int .u64 0, .int .u64 0, .int .u64 0, .int .u64 0, .bool false, .bool false, .int .u64 0, .int .u64 0, .int .u64 0, .int .u64 0, .int .i64 0, .bool false, .int .u64 0, .int .u64 0, .int .u64 0, .int .u64 0, .int .i64 0] [.int .i64 (sm0).r, .int .i64 (sm0).f, .int .i64 (sm0).k, .int .i64 (sm0).d, .int .i64 (sm0).e, .int .u64 (l0 (sm0).tt), .int .u64 (l1 (sm0).tt), .int .u64 (l2 (sm0).tt), .int .u64 (l3 (sm0).tt), .int .u64 (l4 (sm0).tt), .bool (sm0).so, .bool (sm0).mn.b, .int .u64 (l0 (sm0).mn.n), .int .u64 (l1 (sm0).mn.n), .int .u64 (l2 (sm0).mn.n), .int .u64 (l3 (sm0).mn.n), .int .i64 (sm0).mn.s, .bool (sm0).mx.b, .int .u64 (l0 (sm0).mx.n), .int .u64 (l1 (sm0).mx.n), .int .u64 (l2 (sm0).mx.n), .int .u64 (l3 (sm0).mx.n), .int .i64 (sm0).mx.s] Q1 rfl rfl rfl rfl rfl zs42 rfl rfl rfl ?_
        intro w5 hT Qn
        replace Q1 := Qn
        have hK := Mk.st1 hT
        replace hS := hS.kept hK (fun j e q => nd_k1 (q ▸ e)) (fun b hb q => ns_k1 b hb q)
        replace M := M.tr hK (fun j hj e => absurd e (by omega))
        clear hT hK Qn
        refine w_nil ?_
        refine xn_then ?_
        refine w_ret ?_
        refine xr_then ?_
        exact w_ret1 _ (.agg #[.int .i64 (sm0).r, .int .i64 (sm0).f, .int .i64 (sm0).k, .int .i64 (sm0).d, .int .i64 (sm0).e, .int .u64 (l0 (sm0).tt), .int .u64 (l1 (sm0).tt), .int .u64 (l2 (sm0).tt), .int .u64 (l3 (sm0).tt), .int .u64 (l4 (sm0).tt), .bool (sm0).so, .bool (sm0).mn.b, .int .u64 (l0 (sm0).mn.n), .int .u64 (l1 (sm0).mn.n), .int .u64 (l2 (sm0).mn.n), .int .u64 (l3 (sm0).mn.n), .int .i64 (sm0).mn.s, .bool (sm0).mx.b, .int .u64 (l0 (sm0).mx.n), .int .u64 (l1 (sm0).mx.n), .int .u64 (l2 (sm0).mx.n), .int .u64 (l3 (sm0).mx.n), .int .i64 (sm0).mx.s]) rfl ⟨k1, rfl, (run_row Q1 42 0 23 [.int .i64 (sm0).r, .int .i64 (sm0).f, .int .i64 (sm0).k, .int .i64 (sm0).d, .int .i64 (sm0).e, .int .u64 (l0 (sm0).tt), .int .u64 (l1 (sm0).tt), .int .u64 (l2 (sm0).tt), .int .u64 (l3 (sm0).tt), .int .u64 (l4 (sm0).tt), .bool (sm0).so, .bool (sm0).mn.b, .int .u64 (l0 (sm0).mn.n), .int .u64 (l1 (sm0).mn.n), .int .u64 (l2 (sm0).mn.n), .int .u64 (l3 (sm0).mn.n), .int .i64 (sm0).mn.s, .bool (sm0).mx.b, .int .u64 (l0 (sm0).mx.n), .int .u64 (l1 (sm0).mx.n), .int .u64 (l2 (sm0).mx.n), .int .u64 (l3 (sm0).mx.n), .int .i64 (sm0).mx.s] rfl Try.underlying42 rfl zs42)⟩ ⟨by show _ = Ending.returned (smv (prt c (mb.sc.getD c 0) fa ta (l.ids ++ i :: r.ids))); rw [(show prt c (mb.sc.getD c 0) fa ta (l.ids ++ i :: r.ids) = sm0 from (prt_hi (by have := of_decide_eq_false hf0; have := of_decide_eq_true hf1; omega)))], _, hS, by have := of_decide_eq_false hf0; have := of_decide_eq_true hf1; omega, by have := of_decide_eq_false hf0; have := of_decide_eq_true hf1; unfold pbd at *; refine ⟨by omega, fun _ => by omega, fun _ => by omega⟩, M⟩
      | false =>
        have hf1p := of_decide_eq_false hf1
        refine w_reg ?_
        refine wl_mv (.tmp 1) (pt k 0) (fun _ => rfl) rfl rfl ?_
        refine wl_bin (fun x y => do eqGuard .eql 65 (.tmp 17) (.const (.pointer none)) x y; binOp .eql 65 x y) (.tmp 17) (.const (.pointer none)) (pt k 0) (pp none) (.bool false) (fun _ => rfl) rfl rfl (eqP (some k) _ _ _) rfl ?_
        refine wl_mv (.tmp 18) (.bool false) (fun _ => rfl) rfl rfl ?_
        refine wl_mv (.tmp 4) (.int .i64 (ta)) (fun _ => rfl) rfl rfl ?_
        refine wl_bin (fun x y => do eqGuard .leq 3 (.tmp 20) (.const (.int .i64 (0))) x y; binOp .leq 3 x y) (.tmp 20) (.const (.int .i64 (0))) (.int .i64 (ta)) (.int .i64 (0)) (.bool false) (fun _ => rfl) rfl rfl (leI hf0 _ _ _) rfl ?_
        refine wl_pick (.tmp 19) (.const (.bool true)) (.tmp 21) false (.bool false) (fun _ => rfl) rfl rfl rfl ?_
        refine wl_mv (.tmp 22) (.bool false) (fun _ => rfl) rfl rfl ?_
        refine wl_mv (.tmp 3) (.int .i64 (fa)) (fun _ => rfl) rfl rfl ?_
        refine wl_mv (.tmp 1) (pt k 0) (fun _ => rfl) rfl rfl ?_
        refine wl_nc (.tmp 25) k 0 rfl rfl rfl ?_
        refine wl_un (fun v => Instr.fieldAt 93 v 3) (.tmp 26) (pt k 0) (pt k 5) (fun _ => rfl) rfl (by kernel_rfl) rfl ?_
        refine wl_load 3 (.tmp 27) (pt k 5) (.int .i64 (s)) rfl rfl (run_one (hS.rc k _ hk) 3 5 rfl Try.underlying3 rfl) rfl ?_
        refine wl_bin (fun x y => do eqGuard .geq 3 (.tmp 24) (.tmp 28) x y; binOp .geq 3 x y) (.tmp 24) (.tmp 28) (.int .i64 (fa)) (.int .i64 (s)) (.bool false) (fun _ => rfl) rfl rfl (geI hf1 _ _ _) rfl ?_
        refine wl_pick (.tmp 23) (.const (.bool true)) (.tmp 29) false (.bool false) (fun _ => rfl) rfl rfl rfl ?_
        refine w_nil ?_
        refine xn_then ?_
        refine w_condF rfl ?_
        refine w_skip ?_
        refine xn_then ?_
        refine w_seq ?_
        refine w_seq ?_
        cases hf2 : decide (fa ≤ 0) with
        | true =>
          have hf2p := of_decide_eq_true hf2
          cases hf3 : decide (s ≤ ta) with
          | true =>
            have hf3p := of_decide_eq_true hf3
            refine w_reg ?_
            refine wl_mv (.tmp 3) (.int .i64 (fa)) (fun _ => rfl) rfl rfl ?_
            refine wl_bin (fun x y => do eqGuard .leq 3 (.tmp 32) (.const (.int .i64 (0))) x y; binOp .leq 3 x y) (.tmp 32) (.const (.int .i64 (0))) (.int .i64 (fa)) (.int .i64 (0)) (.bool true) (fun _ => rfl) rfl rfl (leI hf2 _ _ _) rfl ?_
            refine wl_mv (.tmp 33) (.bool true) (fun _ => rfl) rfl rfl ?_
            refine wl_mv (.tmp 4) (.int .i64 (ta)) (fun _ => rfl) rfl rfl ?_
            refine wl_mv (.tmp 1) (pt k 0) (fun _ => rfl) rfl rfl ?_
            refine wl_nc (.tmp 36) k 0 rfl rfl rfl ?_
            refine wl_un (fun v => Instr.fieldAt 93 v 3) (.tmp 37) (pt k 0) (pt k 5) (fun _ => rfl) rfl (by kernel_rfl) rfl ?_
            refine wl_load 3 (.tmp 38) (pt k 5) (.int .i64 (s)) rfl rfl (run_one (hS.rc k _ hk) 3 5 rfl Try.underlying3 rfl) rfl ?_
            refine wl_bin (fun x y => do eqGuard .geq 3 (.tmp 35) (.tmp 39) x y; binOp .geq 3 x y) (.tmp 35) (.tmp 39) (.int .i64 (ta)) (.int .i64 (s)) (.bool true) (fun _ => rfl) rfl rfl (geI hf3 _ _ _) rfl ?_
            refine wl_pick (.tmp 34) (.tmp 40) (.const (.bool false)) true (.bool true) (fun _ => rfl) rfl rfl rfl ?_
            refine w_nil ?_
            refine xn_then ?_
            refine w_condT rfl ?_
            refine w_seq ?_
            refine w_reg ?_
            refine wl_mv (.tmp 1) (pt k 0) (fun _ => rfl) rfl rfl ?_
            refine wl_nc (.tmp 42) k 0 rfl rfl rfl ?_
            refine wl_un (fun v => Instr.fieldAt 93 v 4) (.tmp 43) (pt k 0) (pt k 6) (fun _ => rfl) rfl (by kernel_rfl) rfl ?_
            refine wl_load 47 (.tmp 44) (pt k 6) (hd1) rfl rfl (run_one (hS.rc k _ hk) 47 6 rfl Try.underlying47 rfl) rfl ?_
            refine wl_mv (.tmp 2) (.int .i64 ((c : Nat) : Int)) (fun _ => rfl) rfl rfl ?_
            obtain ⟨b, off, cap, hh, hb9, hf9, hr9, hob⟩ := (hS.ss k _ hk).1.ix (i := c) (cs := sml Sn) (by rw [List.getElem?_map, hSn]; exact congrArg (Option.map sml) (agg_at hc))
            rw [List.length_map] at hh
            refine wl_bin (fun x y => Instr.indexAt 47 x y) (.tmp 45) (.tmp 46) (hd1) (.int .i64 ((c : Nat) : Int)) (pt b (off + c * 23)) (fun _ => rfl) rfl rfl (by show (Instr.indexAt 47 hd1 _).run _ _ = _; rw [show hd1 = _ from hh]; exact ix47 b off c _ _ hcl _) rfl ?_
            refine wl_load 42 (.tmp 47) (pt b (off + c * 23)) (.agg #[.int .i64 (Sn).r, .int .i64 (Sn).f, .int .i64 (Sn).k, .int .i64 (Sn).d, .int .i64 (Sn).e, .int .u64 (l0 (Sn).tt), .int .u64 (l1 (Sn).tt), .int .u64 (l2 (Sn).tt), .int .u64 (l3 (Sn).tt), .int .u64 (l4 (Sn).tt), .bool (Sn).so, .bool (Sn).mn.b, .int .u64 (l0 (Sn).mn.n), .int .u64 (l1 (Sn).mn.n), .int .u64 (l2 (Sn).mn.n), .int .u64 (l3 (Sn).mn.n), .int .i64 (Sn).mn.s, .bool (Sn).mx.b, .int .u64 (l0 (Sn).mx.n), .int .u64 (l1 (Sn).mx.n), .int .u64 (l2 (Sn).mx.n), .int .u64 (l3 (Sn).mx.n), .int .i64 (Sn).mx.s]) rfl rfl (ld42 hr9) rfl ?_
            refine wl_stx2 42 (.tmp 10) (.tmp 48) k1 0 #[.int .i64 (Sn).r, .int .i64 (Sn).f, .int .i64 (Sn).k, .int .i64 (Sn).d, .int .i64 (Sn).e, .int .u64 (l0 (Sn).tt), .int .u64 (l1 (Sn).tt), .int .u64 (l2 (Sn).tt), .int .u64 (l3 (Sn).tt), .int .u64 (l4 (Sn).tt), .bool (Sn).so, .bool (Sn).mn.b, .int .u64 (l0 (Sn).mn.n), .int .u64 (l1 (Sn).mn.n), .int .u64 (l2 (Sn).mn.n), .int .u64 (l3 (Sn).mn.n), .int .i64 (Sn).mn.s, .bool (Sn).mx.b, .int .u64 (l0 (Sn).mx.n), .int .u64 (l1 (Sn).mx.n), .int .u64 (l2 (Sn).mx.n), .int .u64 (l3 (Sn).mx.n), .int .i64 (Sn).mx.s] [.int .i64 0, .int .i64 0, .int .i64 0, .int .i64 0, .int .i64 0, .int .u64 0, .int .u64 0, .int .u64 0, .int .u64 0, .int .u64 0, .bool false, .bool false, .int .u64 0, .int .u64 0, .int .u64 0, .int .u64 0, .int .i64 0, .bool false, .int .u64 0, .int .u64 0, .int .u64 0, .int .u64 0, .int .i64 0] [.int .i64 (Sn).r, .int .i64 (Sn).f, .int .i64 (Sn).k, .int .i64 (Sn).d, .int .i64 (Sn).e, .int .u64 (l0 (Sn).tt), .int .u64 (l1 (Sn).tt), .int .u64 (l2 (Sn).tt), .int .u64 (l3 (Sn).tt), .int .u64 (l4 (Sn).tt), .bool (Sn).so, .bool (Sn).mn.b, .int .u64 (l0 (Sn).mn.n), .int .u64 (l1 (Sn).mn.n), .int .u64 (l2 (Sn).mn.n), .int .u64 (l3 (Sn).mn.n), .int .i64 (Sn).mn.s, .bool (Sn).mx.b, .int .u64 (l0 (Sn).mx.n), .int .u64 (l1 (Sn).mx.n), .int .u64 (l2 (Sn).mx.n), .int .u64 (l3 (Sn).mx.n), .int .i64 (Sn).mx.s] Q1 rfl rfl rfl rfl rfl zs42 rfl rfl rfl ?_
            intro w4 hT Qn
            replace Q1 := Qn
            have hK := Mk.st1 hT
            replace hS := hS.kept hK (fun j e q => nd_k1 (q ▸ e)) (fun b hb q => ns_k1 b hb q)
            replace M := M.tr hK (fun j hj e => absurd e (by omega))
            clear hT hK Qn
            refine w_nil ?_
            refine xn_then ?_
            refine w_ret ?_
            refine xr_then ?_
            exact w_ret1 _ (.agg #[.int .i64 (Sn).r, .int .i64 (Sn).f, .int .i64 (Sn).k, .int .i64 (Sn).d, .int .i64 (Sn).e, .int .u64 (l0 (Sn).tt), .int .u64 (l1 (Sn).tt), .int .u64 (l2 (Sn).tt), .int .u64 (l3 (Sn).tt), .int .u64 (l4 (Sn).tt), .bool (Sn).so, .bool (Sn).mn.b, .int .u64 (l0 (Sn).mn.n), .int .u64 (l1 (Sn).mn.n), .int .u64 (l2 (Sn).mn.n), .int .u64 (l3 (Sn).mn.n), .int .i64 (Sn).mn.s, .bool (Sn).mx.b, .int .u64 (l0 (Sn).mx.n), .int .u64 (l1 (Sn).mx.n), .int .u64 (l2 (Sn).mx.n), .int .u64 (l3 (Sn).mx.n), .int .i64 (Sn).mx.s]) rfl ⟨k1, rfl, (run_row Q1 42 0 23 [.int .i64 (Sn).r, .int .i64 (Sn).f, .int .i64 (Sn).k, .int .i64 (Sn).d, .int .i64 (Sn).e, .int .u64 (l0 (Sn).tt), .int .u64 (l1 (Sn).tt), .int .u64 (l2 (Sn).tt), .int .u64 (l3 (Sn).tt), .int .u64 (l4 (Sn).tt), .bool (Sn).so, .bool (Sn).mn.b, .int .u64 (l0 (Sn).mn.n), .int .u64 (l1 (Sn).mn.n), .int .u64 (l2 (Sn).mn.n), .int .u64 (l3 (Sn).mn.n), .int .i64 (Sn).mn.s, .bool (Sn).mx.b, .int .u64 (l0 (Sn).mx.n), .int .u64 (l1 (Sn).mx.n), .int .u64 (l2 (Sn).mx.n), .int .u64 (l3 (Sn).mx.n), .int .i64 (Sn).mx.s] rfl Try.underlying42 rfl zs42)⟩ ⟨by show _ = Ending.returned (smv (prt c (mb.sc.getD c 0) fa ta (l.ids ++ i :: r.ids))); rw [(show prt c (mb.sc.getD c 0) fa ta (l.ids ++ i :: r.ids) = Sn by rw [hSn]; exact prt_all (by have := of_decide_eq_false hf0; have := of_decide_eq_false hf1; have := of_decide_eq_true hf2; have := of_decide_eq_true hf3; omega) (by have := of_decide_eq_false hf0; have := of_decide_eq_false hf1; have := of_decide_eq_true hf2; have := of_decide_eq_true hf3; omega))], _, hS, by have := of_decide_eq_false hf0; have := of_decide_eq_false hf1; have := of_decide_eq_true hf2; have := of_decide_eq_true hf3; omega, by have := of_decide_eq_false hf0; have := of_decide_eq_false hf1; have := of_decide_eq_true hf2; have := of_decide_eq_true hf3; unfold pbd at *; refine ⟨by omega, fun _ => by omega, fun _ => by omega⟩, M⟩
          | false =>
            have hf3p := of_decide_eq_false hf3
            refine w_reg ?_
            refine wl_mv (.tmp 3) (.int .i64 (fa)) (fun _ => rfl) rfl rfl ?_
            refine wl_bin (fun x y => do eqGuard .leq 3 (.tmp 32) (.const (.int .i64 (0))) x y; binOp .leq 3 x y) (.tmp 32) (.const (.int .i64 (0))) (.int .i64 (fa)) (.int .i64 (0)) (.bool true) (fun _ => rfl) rfl rfl (leI hf2 _ _ _) rfl ?_
            refine wl_mv (.tmp 33) (.bool true) (fun _ => rfl) rfl rfl ?_
            refine wl_mv (.tmp 4) (.int .i64 (ta)) (fun _ => rfl) rfl rfl ?_
            refine wl_mv (.tmp 1) (pt k 0) (fun _ => rfl) rfl rfl ?_
            refine wl_nc (.tmp 36) k 0 rfl rfl rfl ?_
            refine wl_un (fun v => Instr.fieldAt 93 v 3) (.tmp 37) (pt k 0) (pt k 5) (fun _ => rfl) rfl (by kernel_rfl) rfl ?_
            refine wl_load 3 (.tmp 38) (pt k 5) (.int .i64 (s)) rfl rfl (run_one (hS.rc k _ hk) 3 5 rfl Try.underlying3 rfl) rfl ?_
            refine wl_bin (fun x y => do eqGuard .geq 3 (.tmp 35) (.tmp 39) x y; binOp .geq 3 x y) (.tmp 35) (.tmp 39) (.int .i64 (ta)) (.int .i64 (s)) (.bool false) (fun _ => rfl) rfl rfl (geI hf3 _ _ _) rfl ?_
            refine wl_pick (.tmp 34) (.tmp 40) (.const (.bool false)) true (.bool false) (fun _ => rfl) rfl rfl rfl ?_
            refine w_nil ?_
            refine xn_then ?_
            refine w_condF rfl ?_
            refine w_skip ?_
            refine xn_then ?_
            refine w_seq ?_
            refine w_reg ?_
            refine wl_mv (.tmp 0) (pt t 0) (fun _ => rfl) rfl rfl ?_
            refine wl_mv (.tmp 1) (pt k 0) (fun _ => rfl) rfl rfl ?_
            refine wl_nc (.tmp 50) k 0 rfl rfl rfl ?_
            refine wl_un (fun v => Instr.fieldAt 93 v 2) (.tmp 51) (pt k 0) (pt k 3) (fun _ => rfl) rfl (by kernel_rfl) rfl ?_
            refine wl_bin (fun x y => Instr.indexAt 91 x y) (.tmp 52) (.const (.int .i64 (0))) (pt k 3) (.int .i64 (0)) (pt k 3) (fun _ => rfl) rfl rfl (by kernel_rfl) rfl ?_
            refine wl_load 65 (.tmp 53) (pt k 3) (pp l.p) rfl rfl (run_one (hS.rc k _ hk) 65 3 rfl Try.underlying65 rfl) rfl ?_
            refine wl_mv (.tmp 2) (.int .i64 ((c : Nat) : Int)) (fun _ => rfl) rfl rfl ?_
            refine wl_mv (.tmp 3) (.int .i64 (fa)) (fun _ => rfl) rfl rfl ?_
            refine wl_mv (.tmp 4) (.int .i64 (ta)) (fun _ => rfl) rfl rfl ?_
            obtain ⟨Sl, hSl⟩ : ∃ X, X = prt c (mb.sc.getD c 0) fa ta l.ids := ⟨_, rfl⟩
            have okSl : Sl.ok := by rw [hSl]; exact prt_ok hokl
            refine wl_callg 33 [(.tmp 49), (.tmp 54), (.tmp 55), (.tmp 56), (.tmp 57)] _ [pt t 0, pp l.p, .int .i64 ((c : Nat) : Int), .int .i64 (fa), .int .i64 (ta)] (.agg #[.int .i64 (Sl).r, .int .i64 (Sl).f, .int .i64 (Sl).k, .int .i64 (Sl).d, .int .i64 (Sl).e, .int .u64 (l0 (Sl).tt), .int .u64 (l1 (Sl).tt), .int .u64 (l2 (Sl).tt), .int .u64 (l3 (Sl).tt), .int .u64 (l4 (Sl).tt), .bool (Sl).so, .bool (Sl).mn.b, .int .u64 (l0 (Sl).mn.n), .int .u64 (l1 (Sl).mn.n), .int .u64 (l2 (Sl).mn.n), .int .u64 (l3 (Sl).mn.n), .int .i64 (Sl).mn.s, .bool (Sl).mx.b, .int .u64 (l0 (Sl).mx.n), .int .u64 (l1 (Sl).mx.n), .int .u64 (l2 (Sl).mx.n), .int .u64 (l3 (Sl).mx.n), .int .i64 (Sl).mx.s]) rfl rfl (fun _ _ => by kernel_rfl) (by have h9 := part_n l (fa := fa) (ta := ta) hc hS hr.2.1 hok.2.1 (by omega) ⟨by omega, by omega⟩ ⟨by omega, by omega⟩ (by omega) (by omega); rw [← hSl] at h9; exact h9) rfl ?_
            intro w4 hF
            obtain ⟨lk2, hS2, hl1, hl2, hM2⟩ := hF
            have hl2b := hl2.1
            replace Q1 := hM2.at Q1 nd_k1
            replace hS := hS2
            replace M := M.same hM2
            clear hS2 hM2
            refine wl_alloc 42 #[.int .i64 0, .int .i64 0, .int .i64 0, .int .i64 0, .int .i64 0, .int .u64 0, .int .u64 0, .int .u64 0, .int .u64 0, .int .u64 0, .bool false, .bool false, .int .u64 0, .int .u64 0, .int .u64 0, .int .u64 0, .int .i64 0, .bool false, .int .u64 0, .int .u64 0, .int .u64 0, .int .u64 0, .int .i64 0] rfl (fun _ => by kernel_rfl) rfl ?_
            intro k3 w5 hk9 hz hq Q3
            have hMs := M.size
            have N_k3 : w.heap.size ≤ k3 := by omega
            have nd_k3 : ¬ D k3 := fun e => by have := hDlt _ e; omega
            have ns_k3 : ∀ b, ob mb.h = some b → b ≠ k3 := fun b hb => by have := hslt b hb; omega
            have ne_k1_k3 : k1 ≠ k3 := by have := Q1.lt; omega
            replace Q1 := Q1.mo hq
            replace hS := hS.mo hq
            replace M := M.trans hq
            clear hk9 hz hq hMs
            refine wl_stx2 42 (.tmp 11) (.tmp 58) k3 0 #[.int .i64 (Sl).r, .int .i64 (Sl).f, .int .i64 (Sl).k, .int .i64 (Sl).d, .int .i64 (Sl).e, .int .u64 (l0 (Sl).tt), .int .u64 (l1 (Sl).tt), .int .u64 (l2 (Sl).tt), .int .u64 (l3 (Sl).tt), .int .u64 (l4 (Sl).tt), .bool (Sl).so, .bool (Sl).mn.b, .int .u64 (l0 (Sl).mn.n), .int .u64 (l1 (Sl).mn.n), .int .u64 (l2 (Sl).mn.n), .int .u64 (l3 (Sl).mn.n), .int .i64 (Sl).mn.s, .bool (Sl).mx.b, .int .u64 (l0 (Sl).mx.n), .int .u64 (l1 (Sl).mx.n), .int .u64 (l2 (Sl).mx.n), .int .u64 (l3 (Sl).mx.n), .int .i64 (Sl).mx.s] [.int .i64 0, .int .i64 0, .int .i64 0, .int .i64 0, .int .i64 0, .int .u64 0, .int .u64 0, .int .u64 0, .int .u64 0, .int .u64 0, .bool false, .bool false, .int .u64 0, .int .u64 0, .int .u64 0, .int .u64 0, .int .i64 0, .bool false, .int .u64 0, .int .u64 0, .int .u64 0, .int .u64 0, .int .i64 0] [.int .i64 (Sl).r, .int .i64 (Sl).f, .int .i64 (Sl).k, .int .i64 (Sl).d, .int .i64 (Sl).e, .int .u64 (l0 (Sl).tt), .int .u64 (l1 (Sl).tt), .int .u64 (l2 (Sl).tt), .int .u64 (l3 (Sl).tt), .int .u64 (l4 (Sl).tt), .bool (Sl).so, .bool (Sl).mn.b, .int .u64 (l0 (Sl).mn.n), .int .u64 (l1 (Sl).mn.n), .int .u64 (l2 (Sl).mn.n), .int .u64 (l3 (Sl).mn.n), .int .i64 (Sl).mn.s, .bool (Sl).mx.b, .int .u64 (l0 (Sl).mx.n), .int .u64 (l1 (Sl).mx.n), .int .u64 (l2 (Sl).mx.n), .int .u64 (l3 (Sl).mx.n), .int .i64 (Sl).mx.s] Q3 rfl rfl rfl rfl rfl zs42 rfl rfl rfl ?_
            intro w6 hT Qn
            replace Q3 := Qn
            replace Q1 := hT.other _ _ ne_k1_k3 Q1
            have hK := Mk.st1 hT
            replace hS := hS.kept hK (fun j e q => nd_k3 (q ▸ e)) (fun b hb q => ns_k3 b hb q)
            replace M := M.tr hK (fun j hj e => absurd e (by omega))
            clear hT hK Qn
            refine w_nil ?_
            refine xn_then ?_
            refine w_seq ?_
            refine w_reg ?_
            refine wl_mv (.tmp 1) (pt k 0) (fun _ => rfl) rfl rfl ?_
            refine wl_nc (.tmp 59) k 0 rfl rfl rfl ?_
            refine wl_un (fun v => Instr.fieldAt 93 v 2) (.tmp 60) (pt k 0) (pt k 3) (fun _ => rfl) rfl (by kernel_rfl) rfl ?_
            refine wl_bin (fun x y => Instr.indexAt 91 x y) (.tmp 61) (.const (.int .i64 (0))) (pt k 3) (.int .i64 (0)) (pt k 3) (fun _ => rfl) rfl rfl (by kernel_rfl) rfl ?_
            refine wl_load 65 (.tmp 62) (pt k 3) (pp l.p) rfl rfl (run_one (hS.rc k _ hk) 65 3 rfl Try.underlying65 rfl) rfl ?_
            refine wl_call 46 [(.tmp 63)] _ [pp l.p] (.int .i64 (l.sz)) rfl rfl (fun _ _ => by kernel_rfl) (size_o hS (szo_of hr.2.1 hok.2.1)) rfl ?_
            intro w7 hq
            replace Q1 := Q1.mo hq
            replace Q3 := Q3.mo hq
            replace hS := hS.mo hq
            replace M := M.trans hq
            clear hq
            refine wl_mv (.tmp 64) (.int .i64 (l.sz)) (fun _ => rfl) rfl rfl ?_
            refine w_nil ?_
            refine xn_then ?_
            refine w_seq ?_
            refine w_seq ?_
            cases hf4 : decide (fa ≤ l.sz) with
            | true =>
              have hf4p := of_decide_eq_true hf4
              cases hf5 : decide (l.sz < ta) with
              | true =>
                have hf5p := of_decide_eq_true hf5
                refine w_reg ?_
                refine wl_mv (.tmp 3) (.int .i64 (fa)) (fun _ => rfl) rfl rfl ?_
                refine wl_mv (.tmp 12) (.int .i64 (l.sz)) (fun _ => rfl) rfl rfl ?_
                refine wl_bin (fun x y => do eqGuard .leq 3 (.tmp 65) (.tmp 66) x y; binOp .leq 3 x y) (.tmp 65) (.tmp 66) (.int .i64 (fa)) (.int .i64 (l.sz)) (.bool true) (fun _ => rfl) rfl rfl (leI hf4 _ _ _) rfl ?_
                refine wl_mv (.tmp 67) (.bool true) (fun _ => rfl) rfl rfl ?_
                refine wl_mv (.tmp 12) (.int .i64 (l.sz)) (fun _ => rfl) rfl rfl ?_
                refine wl_mv (.tmp 4) (.int .i64 (ta)) (fun _ => rfl) rfl rfl ?_
                refine wl_bin (fun x y => do eqGuard .lss 3 (.tmp 69) (.tmp 70) x y; binOp .lss 3 x y) (.tmp 69) (.tmp 70) (.int .i64 (l.sz)) (.int .i64 (ta)) (.bool true) (fun _ => rfl) rfl rfl (ltI hf5 _ _ _) rfl ?_
                refine wl_pick (.tmp 68) (.tmp 71) (.const (.bool false)) true (.bool true) (fun _ => rfl) rfl rfl rfl ?_
                refine w_nil ?_
                refine xn_then ?_
                refine w_condT rfl ?_
                refine w_any 5 [.inl (.agg #[.int .i64 (Sl).r, .int .i64 (Sl).f, .int .i64 (Sl).k, .int .i64 (Sl).d, .int .i64 (Sl).e, .int .u64 (l0 (Sl).tt), .int .u64 (l1 (Sl).tt), .int .u64 (l2 (Sl).tt), .int .u64 (l3 (Sl).tt), .int .u64 (l4 (Sl).tt), .bool (Sl).so, .bool (Sl).mn.b, .int .u64 (l0 (Sl).mn.n), .int .u64 (l1 (Sl).mn.n), .int .u64 (l2 (Sl).mn.n), .int .u64 (l3 (Sl).mn.n), .int .i64 (Sl).mn.s, .bool (Sl).mx.b, .int .u64 (l0 (Sl).mx.n), .int .u64 (l1 (Sl).mx.n), .int .u64 (l2 (Sl).mx.n), .int .u64 (l3 (Sl).mx.n), .int .i64 (Sl).mx.s]), .inl (pt t 0), .inl (pt k 0), .inl (.int .i64 ((c : Nat) : Int)), .inl (.agg #[.int .i64 (So).r, .int .i64 (So).f, .int .i64 (So).k, .int .i64 (So).d, .int .i64 (So).e, .int .u64 (l0 (So).tt), .int .u64 (l1 (So).tt), .int .u64 (l2 (So).tt), .int .u64 (l3 (So).tt), .int .u64 (l4 (So).tt), .bool (So).so, .bool (So).mn.b, .int .u64 (l0 (So).mn.n), .int .u64 (l1 (So).mn.n), .int .u64 (l2 (So).mn.n), .int .u64 (l3 (So).mn.n), .int .i64 (So).mn.s, .bool (So).mx.b, .int .u64 (l0 (So).mx.n), .int .u64 (l1 (So).mx.n), .int .u64 (l2 (So).mx.n), .int .u64 (l3 (So).mx.n), .int .i64 (So).mx.s])] [] (by kernel_rfl) (by kernel_rfl) (by kernel_rfl) (by kernel_rfl) rfl (by kernel_rfl) (by kernel_rfl) late_nil ?_ ?_ ?_
                · exact Ds.none rfl
                · refine ea_cons ?_ (ea_cons ?_ (ea_cons ?_ (ea_cons ?_ (ea_cons ?_ (ea_nil)))))
                  · exact og_eq (.agg #[.int .i64 (Sl).r, .int .i64 (Sl).f, .int .i64 (Sl).k, .int .i64 (Sl).d, .int .i64 (Sl).e, .int .u64 (l0 (Sl).tt), .int .u64 (l1 (Sl).tt), .int .u64 (l2 (Sl).tt), .int .u64 (l3 (Sl).tt), .int .u64 (l4 (Sl).tt), .bool (Sl).so, .bool (Sl).mn.b, .int .u64 (l0 (Sl).mn.n), .int .u64 (l1 (Sl).mn.n), .int .u64 (l2 (Sl).mn.n), .int .u64 (l3 (Sl).mn.n), .int .i64 (Sl).mn.s, .bool (Sl).mx.b, .int .u64 (l0 (Sl).mx.n), .int .u64 (l1 (Sl).mx.n), .int .u64 (l2 (Sl).mx.n), .int .u64 (l3 (Sl).mx.n), .int .i64 (Sl).mx.s]) rfl (fun f wf hq hd K hK => have Q3 := Q3.mo hq; go_run rfl (wo_load 42 (.tmp 11) (pt k3 0) (.agg #[.int .i64 (Sl).r, .int .i64 (Sl).f, .int .i64 (Sl).k, .int .i64 (Sl).d, .int .i64 (Sl).e, .int .u64 (l0 (Sl).tt), .int .u64 (l1 (Sl).tt), .int .u64 (l2 (Sl).tt), .int .u64 (l3 (Sl).tt), .int .u64 (l4 (Sl).tt), .bool (Sl).so, .bool (Sl).mn.b, .int .u64 (l0 (Sl).mn.n), .int .u64 (l1 (Sl).mn.n), .int .u64 (l2 (Sl).mn.n), .int .u64 (l3 (Sl).mn.n), .int .i64 (Sl).mn.s, .bool (Sl).mx.b, .int .u64 (l0 (Sl).mx.n), .int .u64 (l1 (Sl).mx.n), .int .u64 (l2 (Sl).mx.n), .int .u64 (l3 (Sl).mx.n), .int .i64 (Sl).mx.s]) rfl rfl (run_row Q3 42 0 23 [.int .i64 (Sl).r, .int .i64 (Sl).f, .int .i64 (Sl).k, .int .i64 (Sl).d, .int .i64 (Sl).e, .int .u64 (l0 (Sl).tt), .int .u64 (l1 (Sl).tt), .int .u64 (l2 (Sl).tt), .int .u64 (l3 (Sl).tt), .int .u64 (l4 (Sl).tt), .bool (Sl).so, .bool (Sl).mn.b, .int .u64 (l0 (Sl).mn.n), .int .u64 (l1 (Sl).mn.n), .int .u64 (l2 (Sl).mn.n), .int .u64 (l3 (Sl).mn.n), .int .i64 (Sl).mn.s, .bool (Sl).mx.b, .int .u64 (l0 (Sl).mx.n), .int .u64 (l1 (Sl).mx.n), .int .u64 (l2 (Sl).mx.n), .int .u64 (l3 (Sl).mx.n), .int .i64 (Sl).mx.s] rfl Try.underlying42 rfl zs42) (hK _ (Mo.refl _))))
                  · exact og_eq (pt t 0) rfl (fun f wf hq hd K hK => go_run rfl (wo_mv (.tmp 0) (pt t 0) (fun _ => rfl) rfl (hK _ (Mo.refl _))))
                  · exact og_eq (pt k 0) rfl (fun f wf hq hd K hK => go_run rfl (wo_mv (.tmp 1) (pt k 0) (fun _ => rfl) rfl (hK _ (Mo.refl _))))
                  · exact og_eq (.int .i64 ((c : Nat) : Int)) rfl (fun f wf hq hd K hK => go_run rfl (wo_mv (.tmp 2) (.int .i64 ((c : Nat) : Int)) (fun _ => rfl) rfl (hK _ (Mo.refl _))))
                  · exact og_eq (.agg #[.int .i64 (So).r, .int .i64 (So).f, .int .i64 (So).k, .int .i64 (So).d, .int .i64 (So).e, .int .u64 (l0 (So).tt), .int .u64 (l1 (So).tt), .int .u64 (l2 (So).tt), .int .u64 (l3 (So).tt), .int .u64 (l4 (So).tt), .bool (So).so, .bool (So).mn.b, .int .u64 (l0 (So).mn.n), .int .u64 (l1 (So).mn.n), .int .u64 (l2 (So).mn.n), .int .u64 (l3 (So).mn.n), .int .i64 (So).mn.s, .bool (So).mx.b, .int .u64 (l0 (So).mx.n), .int .u64 (l1 (So).mx.n), .int .u64 (l2 (So).mx.n), .int .u64 (l3 (So).mx.n), .int .i64 (So).mx.s]) rfl (fun f wf hq hd K hK => have hS := hS.mo hq; go_run rfl (wo_call 50 [(.tmp 74), (.tmp 75), (.tmp 76)] _ [pt t 0, pt k 0, .int .i64 ((c : Nat) : Int)] (.agg #[.int .i64 (So).r, .int .i64 (So).f, .int .i64 (So).k, .int .i64 (So).d, .int .i64 (So).e, .int .u64 (l0 (So).tt), .int .u64 (l1 (So).tt), .int .u64 (l2 (So).tt), .int .u64 (l3 (So).tt), .int .u64 (l4 (So).tt), .bool (So).so, .bool (So).mn.b, .int .u64 (l0 (So).mn.n), .int .u64 (l1 (So).mn.n), .int .u64 (l2 (So).mn.n), .int .u64 (l3 (So).mn.n), .int .i64 (So).mn.s, .bool (So).mx.b, .int .u64 (l0 (So).mx.n), .int .u64 (l1 (So).mx.n), .int .u64 (l2 (So).mx.n), .int .u64 (l3 (So).mx.n), .int .i64 (So).mx.s]) rfl (li3 (hd 1 rfl) (hd 2 rfl) (hd 3 rfl)) (fun _ _ => by kernel_rfl) (by have h9 := own_n hS hk hcv hsc; rw [← hSo] at h9; exact h9) hK))
                intro kf8 w8 hq _ _
                replace Q1 := Q1.mo hq
                replace Q3 := Q3.mo hq
                replace hS := hS.mo hq
                replace M := M.trans hq
                clear hq
                refine wl_bs47b (.tmp 73) (.tmp 77) Sl So rfl rfl rfl rfl ?_
                intro g4 w9 hk9 hq S4
                replace Q1 := Q1.mo hq
                replace Q3 := Q3.mo hq
                replace hS := hS.mo hq
                replace M := M.trans hq
                clear hk9 hq
                obtain ⟨Jg4, hJg4⟩ : ∃ X, X = [Sl, So].foldl jn sm0 := ⟨_, rfl⟩
                have okJg4 : Jg4.ok := by rw [hJg4]; exact fold_ok _ sm0_ok (two_ok okSl okSo)
                refine wl_call 49 [(.tmp 78)] _ [.slice (some ⟨g4, 0, none⟩) 2 2] (.agg #[.int .i64 (Jg4).r, .int .i64 (Jg4).f, .int .i64 (Jg4).k, .int .i64 (Jg4).d, .int .i64 (Jg4).e, .int .u64 (l0 (Jg4).tt), .int .u64 (l1 (Jg4).tt), .int .u64 (l2 (Jg4).tt), .int .u64 (l3 (Jg4).tt), .int .u64 (l4 (Jg4).tt), .bool (Jg4).so, .bool (Jg4).mn.b, .int .u64 (l0 (Jg4).mn.n), .int .u64 (l1 (Jg4).mn.n), .int .u64 (l2 (Jg4).mn.n), .int .u64 (l3 (Jg4).mn.n), .int .i64 (Jg4).mn.s, .bool (Jg4).mx.b, .int .u64 (l0 (Jg4).mx.n), .int .u64 (l1 (Jg4).mx.n), .int .u64 (l2 (Jg4).mx.n), .int .u64 (l3 (Jg4).mx.n), .int .i64 (Jg4).mx.s]) rfl rfl (fun _ _ => by kernel_rfl) (by have h9 := join_n [Sl, So] (some ⟨g4, 0, none⟩) 2 (two_ok okSl okSo) S4 (show 2 ≤ 900000000000000000 by decide); rw [← hJg4] at h9; exact h9) rfl ?_
                intro w10 hq
                replace Q1 := Q1.mo hq
                replace Q3 := Q3.mo hq
                replace hS := hS.mo hq
                replace M := M.trans hq
                clear hq
                refine wl_stx2 42 (.tmp 11) (.tmp 79) k3 0 #[.int .i64 (Jg4).r, .int .i64 (Jg4).f, .int .i64 (Jg4).k, .int .i64 (Jg4).d, .int .i64 (Jg4).e, .int .u64 (l0 (Jg4).tt), .int .u64 (l1 (Jg4).tt), .int .u64 (l2 (Jg4).tt), .int .u64 (l3 (Jg4).tt), .int .u64 (l4 (Jg4).tt), .bool (Jg4).so, .bool (Jg4).mn.b, .int .u64 (l0 (Jg4).mn.n), .int .u64 (l1 (Jg4).mn.n), .int .u64 (l2 (Jg4).mn.n), .int .u64 (l3 (Jg4).mn.n), .int .i64 (Jg4).mn.s, .bool (Jg4).mx.b, .int .u64 (l0 (Jg4).mx.n), .int .u64 (l1 (Jg4).mx.n), .int .u64 (l2 (Jg4).mx.n), .int .u64 (l3 (Jg4).mx.n), .int .i64 (Jg4).mx.s] [.int .i64 (Sl).r, .int .i64 (Sl).f, .int .i64 (Sl).k, .int .i64 (Sl).d, .int .i64 (Sl).e, .int .u64 (l0 (Sl).tt), .int .u64 (l1 (Sl).tt), .int .u64 (l2 (Sl).tt), .int .u64 (l3 (Sl).tt), .int .u64 (l4 (Sl).tt), .bool (Sl).so, .bool (Sl).mn.b, .int .u64 (l0 (Sl).mn.n), .int .u64 (l1 (Sl).mn.n), .int .u64 (l2 (Sl).mn.n), .int .u64 (l3 (Sl).mn.n), .int .i64 (Sl).mn.s, .bool (Sl).mx.b, .int .u64 (l0 (Sl).mx.n), .int .u64 (l1 (Sl).mx.n), .int .u64 (l2 (Sl).mx.n), .int .u64 (l3 (Sl).mx.n), .int .i64 (Sl).mx.s] [.int .i64 (Jg4).r, .int .i64 (Jg4).f, .int .i64 (Jg4).k, .int .i64 (Jg4).d, .int .i64 (Jg4).e, .int .u64 (l0 (Jg4).tt), .int .u64 (l1 (Jg4).tt), .int .u64 (l2 (Jg4).tt), .int .u64 (l3 (Jg4).tt), .int .u64 (l4 (Jg4).tt), .bool (Jg4).so, .bool (Jg4).mn.b, .int .u64 (l0 (Jg4).mn.n), .int .u64 (l1 (Jg4).mn.n), .int .u64 (l2 (Jg4).mn.n), .int .u64 (l3 (Jg4).mn.n), .int .i64 (Jg4).mn.s, .bool (Jg4).mx.b, .int .u64 (l0 (Jg4).mx.n), .int .u64 (l1 (Jg4).mx.n), .int .u64 (l2 (Jg4).mx.n), .int .u64 (l3 (Jg4).mx.n), .int .i64 (Jg4).mx.s] Q3 rfl rfl rfl rfl rfl zs42 rfl rfl rfl ?_
                intro w11 hT Qn
                replace Q3 := Qn
                replace Q1 := hT.other _ _ ne_k1_k3 Q1
                have hK := Mk.st1 hT
                replace hS := hS.kept hK (fun j e q => nd_k3 (q ▸ e)) (fun b hb q => ns_k3 b hb q)
                replace M := M.tr hK (fun j hj e => absurd e (by omega))
                clear hT hK Qn
                refine w_nil ?_
                refine xn_then ?_
                refine w_seq ?_
                obtain ⟨Sr, hSr⟩ : ∃ X, X = prt c (mb.sc.getD c 0) (fa - l.sz - 1) (ta - l.sz - 1) r.ids := ⟨_, rfl⟩
                have okSr : Sr.ok := by rw [hSr]; exact prt_ok hokr
                have hsm : Smos [vq (.agg #[.int .i64 (Jg4).r, .int .i64 (Jg4).f, .int .i64 (Jg4).k, .int .i64 (Jg4).d, .int .i64 (Jg4).e, .int .u64 (l0 (Jg4).tt), .int .u64 (l1 (Jg4).tt), .int .u64 (l2 (Jg4).tt), .int .u64 (l3 (Jg4).tt), .int .u64 (l4 (Jg4).tt), .bool (Jg4).so, .bool (Jg4).mn.b, .int .u64 (l0 (Jg4).mn.n), .int .u64 (l1 (Jg4).mn.n), .int .u64 (l2 (Jg4).mn.n), .int .u64 (l3 (Jg4).mn.n), .int .i64 (Jg4).mn.s, .bool (Jg4).mx.b, .int .u64 (l0 (Jg4).mx.n), .int .u64 (l1 (Jg4).mx.n), .int .u64 (l2 (Jg4).mx.n), .int .u64 (l3 (Jg4).mx.n), .int .i64 (Jg4).mx.s]), vq (pt t 0), vq (pt k 0), vq (pt k 0), vq (pt k 3), vq (pt k 4), vq (pp r.p), vq (.int .i64 ((c : Nat) : Int)), vq (.int .i64 (fa)), vq (.int .i64 (l.sz)), vq (.int .i64 (fa - l.sz)), vq (.int .i64 (fa - l.sz - 1)), vq (.int .i64 (ta)), vq (.int .i64 (l.sz)), vq (.int .i64 (ta - l.sz)), vq (.int .i64 (ta - l.sz - 1)), vq (.agg #[.int .i64 (Sr).r, .int .i64 (Sr).f, .int .i64 (Sr).k, .int .i64 (Sr).d, .int .i64 (Sr).e, .int .u64 (l0 (Sr).tt), .int .u64 (l1 (Sr).tt), .int .u64 (l2 (Sr).tt), .int .u64 (l3 (Sr).tt), .int .u64 (l4 (Sr).tt), .bool (Sr).so, .bool (Sr).mn.b, .int .u64 (l0 (Sr).mn.n), .int .u64 (l1 (Sr).mn.n), .int .u64 (l2 (Sr).mn.n), .int .u64 (l3 (Sr).mn.n), .int .i64 (Sr).mn.s, .bool (Sr).mx.b, .int .u64 (l0 (Sr).mx.n), .int .u64 (l1 (Sr).mx.n), .int .u64 (l2 (Sr).mx.n), .int .u64 (l3 (Sr).mx.n), .int .i64 (Sr).mx.s])] := smos_cons (smo_vq _) (smos_cons (smo_vq _) (smos_cons (smo_vq _) (smos_cons (smo_vq _) (smos_cons (smo_vq _) (smos_cons (smo_vq _) (smos_cons (smo_vq _) (smos_cons (smo_vq _) (smos_cons (smo_vq _) (smos_cons (smo_vq _) (smos_cons (smo_vq _) (smos_cons (smo_vq _) (smos_cons (smo_vq _) (smos_cons (smo_vq _) (smos_cons (smo_vq _) (smos_cons (smo_vq _) (smos_cons (smo_vq _) (smos_nil)))))))))))))))))
                obtain ⟨G, hGd⟩ : ∃ G, G = (fun (L9 : Nat → Bool) (f9 : Nat → Value) (w9 : World) => (L9 16 = false → Mo w11 w9) ∧ (L9 16 = true → ∃ lk9, HS D w9 t mb R root lk9 ∧ (lk2) ≤ lk9 ∧ pbd (fa - l.sz - 1) (ta - l.sz - 1) r.sz r.ht (lk2) lk9 ∧ Mk D w11 w9)) := ⟨_, rfl⟩
                have hgr : ∀ (i : Nat) (v : Value), i ≠ 16 → ∀ (L9 : Nat → Bool) (f9 : Nat → Value) (a b : World), G L9 f9 a → L9 i = false → Mo a b → G (updB L9 i) (upd f9 i v) b := by
                  intro i v h5 L9 f9 a b h _ m
                  rw [hGd] at h ⊢
                  simp only [updB_ne (Ne.symm h5)]
                  exact ⟨fun x => (h.1 x).trans m, fun x => (by obtain ⟨y, q1, q2, q3, q4⟩ := h.2 x; exact ⟨y, q1.mo m, q2, q3, q4.trans m⟩)⟩
                have hsee : ∀ (L9 : Nat → Bool) (f9 : Nat → Value) (a : World), G L9 f9 a → (∃ lk9, HS D a t mb R root lk9) ∧ At a k3 [.int .i64 (Jg4).r, .int .i64 (Jg4).f, .int .i64 (Jg4).k, .int .i64 (Jg4).d, .int .i64 (Jg4).e, .int .u64 (l0 (Jg4).tt), .int .u64 (l1 (Jg4).tt), .int .u64 (l2 (Jg4).tt), .int .u64 (l3 (Jg4).tt), .int .u64 (l4 (Jg4).tt), .bool (Jg4).so, .bool (Jg4).mn.b, .int .u64 (l0 (Jg4).mn.n), .int .u64 (l1 (Jg4).mn.n), .int .u64 (l2 (Jg4).mn.n), .int .u64 (l3 (Jg4).mn.n), .int .i64 (Jg4).mn.s, .bool (Jg4).mx.b, .int .u64 (l0 (Jg4).mx.n), .int .u64 (l1 (Jg4).mx.n), .int .u64 (l2 (Jg4).mx.n), .int .u64 (l3 (Jg4).mx.n), .int .i64 (Jg4).mx.s] := by
                  intro L9 f9 a h
                  rw [hGd] at h
                  cases e9 : L9 16 with
                  | false => exact ⟨⟨_, hS.mo (h.1 e9)⟩, Q3.mo (h.1 e9)⟩
                  | true => obtain ⟨y, q1, q2, q3, q4⟩ := h.2 e9; exact ⟨⟨y, q1⟩, q4.at Q3 nd_k3⟩
                refine w_ogl 17 G [vq (.agg #[.int .i64 (Jg4).r, .int .i64 (Jg4).f, .int .i64 (Jg4).k, .int .i64 (Jg4).d, .int .i64 (Jg4).e, .int .u64 (l0 (Jg4).tt), .int .u64 (l1 (Jg4).tt), .int .u64 (l2 (Jg4).tt), .int .u64 (l3 (Jg4).tt), .int .u64 (l4 (Jg4).tt), .bool (Jg4).so, .bool (Jg4).mn.b, .int .u64 (l0 (Jg4).mn.n), .int .u64 (l1 (Jg4).mn.n), .int .u64 (l2 (Jg4).mn.n), .int .u64 (l3 (Jg4).mn.n), .int .i64 (Jg4).mn.s, .bool (Jg4).mx.b, .int .u64 (l0 (Jg4).mx.n), .int .u64 (l1 (Jg4).mx.n), .int .u64 (l2 (Jg4).mx.n), .int .u64 (l3 (Jg4).mx.n), .int .i64 (Jg4).mx.s]), vq (pt t 0), vq (pt k 0), vq (pt k 0), vq (pt k 3), vq (pt k 4), vq (pp r.p), vq (.int .i64 ((c : Nat) : Int)), vq (.int .i64 (fa)), vq (.int .i64 (l.sz)), vq (.int .i64 (fa - l.sz)), vq (.int .i64 (fa - l.sz - 1)), vq (.int .i64 (ta)), vq (.int .i64 (l.sz)), vq (.int .i64 (ta - l.sz)), vq (.int .i64 (ta - l.sz - 1)), vq (.agg #[.int .i64 (Sr).r, .int .i64 (Sr).f, .int .i64 (Sr).k, .int .i64 (Sr).d, .int .i64 (Sr).e, .int .u64 (l0 (Sr).tt), .int .u64 (l1 (Sr).tt), .int .u64 (l2 (Sr).tt), .int .u64 (l3 (Sr).tt), .int .u64 (l4 (Sr).tt), .bool (Sr).so, .bool (Sr).mn.b, .int .u64 (l0 (Sr).mn.n), .int .u64 (l1 (Sr).mn.n), .int .u64 (l2 (Sr).mn.n), .int .u64 (l3 (Sr).mn.n), .int .i64 (Sr).mn.s, .bool (Sr).mx.b, .int .u64 (l0 (Sr).mx.n), .int .u64 (l1 (Sr).mx.n), .int .u64 (l2 (Sr).mx.n), .int .u64 (l3 (Sr).mx.n), .int .i64 (Sr).mx.s])] (by kernel_rfl) (by kernel_rfl) (by kernel_rfl) (by kernel_rfl) rfl (fun f => by rw [hGd]; exact ⟨fun _ => (Mo.refl _).drew, (fun e => by cases e)⟩) ?_ ?_
                · refine ea_cons ?_ (ea_cons ?_ (ea_cons ?_ (ea_cons ?_ (ea_cons ?_ (ea_cons ?_ (ea_cons ?_ (ea_cons ?_ (ea_cons ?_ (ea_cons ?_ (ea_cons ?_ (ea_cons ?_ (ea_cons ?_ (ea_cons ?_ (ea_cons ?_ (ea_cons ?_ (ea_cons ?_ (ea_nil)))))))))))))))))
                  · exact ol_eq (.agg #[.int .i64 (Jg4).r, .int .i64 (Jg4).f, .int .i64 (Jg4).k, .int .i64 (Jg4).d, .int .i64 (Jg4).e, .int .u64 (l0 (Jg4).tt), .int .u64 (l1 (Jg4).tt), .int .u64 (l2 (Jg4).tt), .int .u64 (l3 (Jg4).tt), .int .u64 (l4 (Jg4).tt), .bool (Jg4).so, .bool (Jg4).mn.b, .int .u64 (l0 (Jg4).mn.n), .int .u64 (l1 (Jg4).mn.n), .int .u64 (l2 (Jg4).mn.n), .int .u64 (l3 (Jg4).mn.n), .int .i64 (Jg4).mn.s, .bool (Jg4).mx.b, .int .u64 (l0 (Jg4).mx.n), .int .u64 (l1 (Jg4).mx.n), .int .u64 (l2 (Jg4).mx.n), .int .u64 (l3 (Jg4).mx.n), .int .i64 (Jg4).mx.s]) rfl (hgr 0 _ (by decide)) hsm (fun L9 f wf hG hd K hK => have ⟨⟨_, hS⟩, Q3⟩ := hsee L9 f wf hG; go_run rfl (wo_load 42 (.tmp 11) (pt k3 0) (.agg #[.int .i64 (Jg4).r, .int .i64 (Jg4).f, .int .i64 (Jg4).k, .int .i64 (Jg4).d, .int .i64 (Jg4).e, .int .u64 (l0 (Jg4).tt), .int .u64 (l1 (Jg4).tt), .int .u64 (l2 (Jg4).tt), .int .u64 (l3 (Jg4).tt), .int .u64 (l4 (Jg4).tt), .bool (Jg4).so, .bool (Jg4).mn.b, .int .u64 (l0 (Jg4).mn.n), .int .u64 (l1 (Jg4).mn.n), .int .u64 (l2 (Jg4).mn.n), .int .u64 (l3 (Jg4).mn.n), .int .i64 (Jg4).mn.s, .bool (Jg4).mx.b, .int .u64 (l0 (Jg4).mx.n), .int .u64 (l1 (Jg4).mx.n), .int .u64 (l2 (Jg4).mx.n), .int .u64 (l3 (Jg4).mx.n), .int .i64 (Jg4).mx.s]) rfl rfl (run_row Q3 42 0 23 [.int .i64 (Jg4).r, .int .i64 (Jg4).f, .int .i64 (Jg4).k, .int .i64 (Jg4).d, .int .i64 (Jg4).e, .int .u64 (l0 (Jg4).tt), .int .u64 (l1 (Jg4).tt), .int .u64 (l2 (Jg4).tt), .int .u64 (l3 (Jg4).tt), .int .u64 (l4 (Jg4).tt), .bool (Jg4).so, .bool (Jg4).mn.b, .int .u64 (l0 (Jg4).mn.n), .int .u64 (l1 (Jg4).mn.n), .int .u64 (l2 (Jg4).mn.n), .int .u64 (l3 (Jg4).mn.n), .int .i64 (Jg4).mn.s, .bool (Jg4).mx.b, .int .u64 (l0 (Jg4).mx.n), .int .u64 (l1 (Jg4).mx.n), .int .u64 (l2 (Jg4).mx.n), .int .u64 (l3 (Jg4).mx.n), .int .i64 (Jg4).mx.s] rfl Try.underlying42 rfl zs42) (hK _ (Mo.refl _))))
                  · exact ol_eq (pt t 0) rfl (hgr 1 _ (by decide)) hsm (fun L9 f wf hG hd K hK => go_run rfl (wo_mv (.tmp 0) (pt t 0) (fun _ => rfl) rfl (hK _ (Mo.refl _))))
                  · exact ol_eq (pt k 0) rfl (hgr 2 _ (by decide)) hsm (fun L9 f wf hG hd K hK => go_run rfl (wo_mv (.tmp 1) (pt k 0) (fun _ => rfl) rfl (hK _ (Mo.refl _))))
                  · exact ol_eq (pt k 0) rfl (hgr 3 _ (by decide)) hsm (fun L9 f wf hG hd K hK => go_run rfl (wo_nc (.tmp 82) k 0 rfl (hd 2 rfl) (hK _ (Mo.refl _))))
                  · exact ol_eq (pt k 3) rfl (hgr 4 _ (by decide)) hsm (fun L9 f wf hG hd K hK => go_run rfl (wo_un (fun v => Instr.fieldAt 93 v 2) (.tmp 83) (pt k 0) (pt k 3) (fun _ => rfl) (hd 3 rfl) (by kernel_rfl) (hK _ (Mo.refl _))))
                  · exact ol_eq (pt k 4) rfl (hgr 5 _ (by decide)) hsm (fun L9 f wf hG hd K hK => go_run rfl (wo_bin (fun x y => Instr.indexAt 91 x y) (.tmp 84) (.const (.int .i64 (1))) (pt k 3) (.int .i64 (1)) (pt k 4) (fun _ => rfl) (hd 4 rfl) rfl (by kernel_rfl) (hK _ (Mo.refl _))))
                  · exact ol_eq (pp r.p) rfl (hgr 6 _ (by decide)) hsm (fun L9 f wf hG hd K hK => have ⟨⟨_, hS⟩, Q3⟩ := hsee L9 f wf hG; go_run rfl (wo_load 65 (.tmp 85) (pt k 4) (pp r.p) rfl (hd 5 rfl) (run_one (hS.rc k _ hk) 65 4 rfl Try.underlying65 rfl) (hK _ (Mo.refl _))))
                  · exact ol_eq (.int .i64 ((c : Nat) : Int)) rfl (hgr 7 _ (by decide)) hsm (fun L9 f wf hG hd K hK => go_run rfl (wo_mv (.tmp 2) (.int .i64 ((c : Nat) : Int)) (fun _ => rfl) rfl (hK _ (Mo.refl _))))
                  · exact ol_eq (.int .i64 (fa)) rfl (hgr 8 _ (by decide)) hsm (fun L9 f wf hG hd K hK => go_run rfl (wo_mv (.tmp 3) (.int .i64 (fa)) (fun _ => rfl) rfl (hK _ (Mo.refl _))))
                  · exact ol_eq (.int .i64 (l.sz)) rfl (hgr 9 _ (by decide)) hsm (fun L9 f wf hG hd K hK => go_run rfl (wo_mv (.tmp 12) (.int .i64 (l.sz)) (fun _ => rfl) rfl (hK _ (Mo.refl _))))
                  · exact ol_eq (.int .i64 (fa - l.sz)) rfl (hgr 10 _ (by decide)) hsm (fun L9 f wf hG hd K hK => go_run rfl (wo_bin (fun x y => do eqGuard .sub 3 (.tmp 88) (.tmp 89) x y; binOp .sub 3 x y) (.tmp 88) (.tmp 89) (.int .i64 (fa)) (.int .i64 (l.sz)) (.int .i64 (fa - l.sz)) (fun _ => rfl) (hd 8 rfl) (hd 9 rfl) (subI (by omega) (by omega) _ _ _) (hK _ (Mo.refl _))))
                  · exact ol_eq (.int .i64 (fa - l.sz - 1)) rfl (hgr 11 _ (by decide)) hsm (fun L9 f wf hG hd K hK => go_run rfl (wo_bin (fun x y => do eqGuard .sub 3 (.tmp 90) (.const (.int .i64 (1))) x y; binOp .sub 3 x y) (.tmp 90) (.const (.int .i64 (1))) (.int .i64 (fa - l.sz)) (.int .i64 (1)) (.int .i64 (fa - l.sz - 1)) (fun _ => rfl) (hd 10 rfl) rfl (subI (by omega) (by omega) _ _ _) (hK _ (Mo.refl _))))
                  · exact ol_eq (.int .i64 (ta)) rfl (hgr 12 _ (by decide)) hsm (fun L9 f wf hG hd K hK => go_run rfl (wo_mv (.tmp 4) (.int .i64 (ta)) (fun _ => rfl) rfl (hK _ (Mo.refl _))))
                  · exact ol_eq (.int .i64 (l.sz)) rfl (hgr 13 _ (by decide)) hsm (fun L9 f wf hG hd K hK => go_run rfl (wo_mv (.tmp 12) (.int .i64 (l.sz)) (fun _ => rfl) rfl (hK _ (Mo.refl _))))
                  · exact ol_eq (.int .i64 (ta - l.sz)) rfl (hgr 14 _ (by decide)) hsm (fun L9 f wf hG hd K hK => go_run rfl (wo_bin (fun x y => do eqGuard .sub 3 (.tmp 92) (.tmp 93) x y; binOp .sub 3 x y) (.tmp 92) (.tmp 93) (.int .i64 (ta)) (.int .i64 (l.sz)) (.int .i64 (ta - l.sz)) (fun _ => rfl) (hd 12 rfl) (hd 13 rfl) (subI (by omega) (by omega) _ _ _) (hK _ (Mo.refl _))))
                  · exact ol_eq (.int .i64 (ta - l.sz - 1)) rfl (hgr 15 _ (by decide)) hsm (fun L9 f wf hG hd K hK => go_run rfl (wo_bin (fun x y => do eqGuard .sub 3 (.tmp 94) (.const (.int .i64 (1))) x y; binOp .sub 3 x y) (.tmp 94) (.const (.int .i64 (1))) (.int .i64 (ta - l.sz)) (.int .i64 (1)) (.int .i64 (ta - l.sz - 1)) (fun _ => rfl) (hd 14 rfl) rfl (subI (by omega) (by omega) _ _ _) (hK _ (Mo.refl _))))
                  · refine ⟨fun L9 f wf hG hi hd K9 hK => ?_⟩
                    rw [hGd] at hG
                    have hmo := hG.1 hi
                    have h9 := part_n r (fa := fa - l.sz - 1) (ta := ta - l.sz - 1) hc (hS.mo hmo) hr.2.2 hok.2.2 (by omega) ⟨by omega, by omega⟩ ⟨by omega, by omega⟩ (by omega) (by omega)
                    rw [← hSr] at h9
                    refine go_run rfl (wo_callx 33 [(.tmp 81), (.tmp 86), (.tmp 87), (.tmp 91), (.tmp 95)] _ [pt t 0, pp r.p, .int .i64 ((c : Nat) : Int), .int .i64 (fa - l.sz - 1), .int .i64 (ta - l.sz - 1)] rfl (li5 (hd 1 rfl).2 (hd 6 rfl).2 (hd 7 rfl).2 (hd 11 rfl).2 (hd 15 rfl).2) (fun _ _ => by kernel_rfl) h9 (fun e9 w9 ⟨he, lk9, q1, q2, q3, q4⟩ => ⟨_, he, hK _ w9 ?_ rfl (fun j u hj hr => ?_)⟩))
                    · rw [hGd]
                      simp only [updB_eq]
                      exact ⟨fun e => (by cases e), fun _ => ⟨lk9, q1, q2, q3, (Mk.of D hmo).same q4⟩⟩
                    · match j, hj, hr with
                      | 0, _, hr => exact hr
                      | 1, _, hr => exact hr
                      | 2, _, hr => exact hr
                      | 3, _, hr => exact hr
                      | 4, _, hr => exact hr
                      | 5, _, hr => exact hr
                      | 6, _, hr => exact hr
                      | 7, _, hr => exact hr
                      | 8, _, hr => exact hr
                      | 9, _, hr => exact hr
                      | 10, _, hr => exact hr
                      | 11, _, hr => exact hr
                      | 12, _, hr => exact hr
                      | 13, _, hr => exact hr
                      | 14, _, hr => exact hr
                      | 15, _, hr => exact hr
                      | 16, _, hr => exact hr
                      | j + 17, _, _ => trivial
                intro L9 f w12 hall hG hR
                rw [hGd] at hG
                obtain ⟨lk3, hS3, hl3, hl4, hM9⟩ := hG.2 (hall 16 rfl)
                have e0 := hR 0 rfl
                have e16 := hR 16 rfl
                clear hG hall hR hgr hsm hGd hsee
                replace Q1 := hM9.at Q1 nd_k1
                replace Q3 := hM9.at Q3 nd_k3
                replace hS := hS3
                replace M := M.same hM9
                clear hS3 hM9
                refine wl_bs47b (.tmp 80) (.tmp 96) Jg4 Sr rfl e0 e16 rfl ?_
                intro g5 w13 hk9 hq S5
                replace Q1 := Q1.mo hq
                replace Q3 := Q3.mo hq
                replace hS := hS.mo hq
                replace M := M.trans hq
                clear hk9 hq
                obtain ⟨Jg5, hJg5⟩ : ∃ X, X = [Jg4, Sr].foldl jn sm0 := ⟨_, rfl⟩
                have okJg5 : Jg5.ok := by rw [hJg5]; exact fold_ok _ sm0_ok (two_ok okJg4 okSr)
                refine wl_call 49 [(.tmp 97)] _ [.slice (some ⟨g5, 0, none⟩) 2 2] (.agg #[.int .i64 (Jg5).r, .int .i64 (Jg5).f, .int .i64 (Jg5).k, .int .i64 (Jg5).d, .int .i64 (Jg5).e, .int .u64 (l0 (Jg5).tt), .int .u64 (l1 (Jg5).tt), .int .u64 (l2 (Jg5).tt), .int .u64 (l3 (Jg5).tt), .int .u64 (l4 (Jg5).tt), .bool (Jg5).so, .bool (Jg5).mn.b, .int .u64 (l0 (Jg5).mn.n), .int .u64 (l1 (Jg5).mn.n), .int .u64 (l2 (Jg5).mn.n), .int .u64 (l3 (Jg5).mn.n), .int .i64 (Jg5).mn.s, .bool (Jg5).mx.b, .int .u64 (l0 (Jg5).mx.n), .int .u64 (l1 (Jg5).mx.n), .int .u64 (l2 (Jg5).mx.n), .int .u64 (l3 (Jg5).mx.n), .int .i64 (Jg5).mx.s]) rfl rfl (fun _ _ => by kernel_rfl) (by have h9 := join_n [Jg4, Sr] (some ⟨g5, 0, none⟩) 2 (two_ok okJg4 okSr) S5 (show 2 ≤ 900000000000000000 by decide); rw [← hJg5] at h9; exact h9) rfl ?_
                intro w14 hq
                replace Q1 := Q1.mo hq
                replace Q3 := Q3.mo hq
                replace hS := hS.mo hq
                replace M := M.trans hq
                clear hq
                refine wl_stx2 42 (.tmp 10) (.tmp 98) k1 0 #[.int .i64 (Jg5).r, .int .i64 (Jg5).f, .int .i64 (Jg5).k, .int .i64 (Jg5).d, .int .i64 (Jg5).e, .int .u64 (l0 (Jg5).tt), .int .u64 (l1 (Jg5).tt), .int .u64 (l2 (Jg5).tt), .int .u64 (l3 (Jg5).tt), .int .u64 (l4 (Jg5).tt), .bool (Jg5).so, .bool (Jg5).mn.b, .int .u64 (l0 (Jg5).mn.n), .int .u64 (l1 (Jg5).mn.n), .int .u64 (l2 (Jg5).mn.n), .int .u64 (l3 (Jg5).mn.n), .int .i64 (Jg5).mn.s, .bool (Jg5).mx.b, .int .u64 (l0 (Jg5).mx.n), .int .u64 (l1 (Jg5).mx.n), .int .u64 (l2 (Jg5).mx.n), .int .u64 (l3 (Jg5).mx.n), .int .i64 (Jg5).mx.s] [.int .i64 0, .int .i64 0, .int .i64 0, .int .i64 0, .int .i64 0, .int .u64 0, .int .u64 0, .int .u64 0, .int .u64 0, .int .u64 0, .bool false, .bool false, .int .u64 0, .int .u64 0, .int .u64 0, .int .u64 0, .int .i64 0, .bool false, .int .u64 0, .int .u64 0, .int .u64 0, .int .u64 0, .int .i64 0] [.int .i64 (Jg5).r, .int .i64 (Jg5).f, .int .i64 (Jg5).k, .int .i64 (Jg5).d, .int .i64 (Jg5).e, .int .u64 (l0 (Jg5).tt), .int .u64 (l1 (Jg5).tt), .int .u64 (l2 (Jg5).tt), .int .u64 (l3 (Jg5).tt), .int .u64 (l4 (Jg5).tt), .bool (Jg5).so, .bool (Jg5).mn.b, .int .u64 (l0 (Jg5).mn.n), .int .u64 (l1 (Jg5).mn.n), .int .u64 (l2 (Jg5).mn.n), .int .u64 (l3 (Jg5).mn.n), .int .i64 (Jg5).mn.s, .bool (Jg5).mx.b, .int .u64 (l0 (Jg5).mx.n), .int .u64 (l1 (Jg5).mx.n), .int .u64 (l2 (Jg5).mx.n), .int .u64 (l3 (Jg5).mx.n), .int .i64 (Jg5).mx.s] Q1 rfl rfl rfl rfl rfl zs42 rfl rfl rfl ?_
                intro w15 hT Qn
                replace Q1 := Qn
                replace Q3 := hT.other _ _ ne_k1_k3.symm Q3
                have hK := Mk.st1 hT
                replace hS := hS.kept hK (fun j e q => nd_k1 (q ▸ e)) (fun b hb q => ns_k1 b hb q)
                replace M := M.tr hK (fun j hj e => absurd e (by omega))
                clear hT hK Qn
                refine w_nil ?_
                refine xn_then ?_
                refine w_ret ?_
                exact w_ret1 _ (.agg #[.int .i64 (Jg5).r, .int .i64 (Jg5).f, .int .i64 (Jg5).k, .int .i64 (Jg5).d, .int .i64 (Jg5).e, .int .u64 (l0 (Jg5).tt), .int .u64 (l1 (Jg5).tt), .int .u64 (l2 (Jg5).tt), .int .u64 (l3 (Jg5).tt), .int .u64 (l4 (Jg5).tt), .bool (Jg5).so, .bool (Jg5).mn.b, .int .u64 (l0 (Jg5).mn.n), .int .u64 (l1 (Jg5).mn.n), .int .u64 (l2 (Jg5).mn.n), .int .u64 (l3 (Jg5).mn.n), .int .i64 (Jg5).mn.s, .bool (Jg5).mx.b, .int .u64 (l0 (Jg5).mx.n), .int .u64 (l1 (Jg5).mx.n), .int .u64 (l2 (Jg5).mx.n), .int .u64 (l3 (Jg5).mx.n), .int .i64 (Jg5).mx.s]) rfl ⟨k1, rfl, (run_row Q1 42 0 23 [.int .i64 (Jg5).r, .int .i64 (Jg5).f, .int .i64 (Jg5).k, .int .i64 (Jg5).d, .int .i64 (Jg5).e, .int .u64 (l0 (Jg5).tt), .int .u64 (l1 (Jg5).tt), .int .u64 (l2 (Jg5).tt), .int .u64 (l3 (Jg5).tt), .int .u64 (l4 (Jg5).tt), .bool (Jg5).so, .bool (Jg5).mn.b, .int .u64 (l0 (Jg5).mn.n), .int .u64 (l1 (Jg5).mn.n), .int .u64 (l2 (Jg5).mn.n), .int .u64 (l3 (Jg5).mn.n), .int .i64 (Jg5).mn.s, .bool (Jg5).mx.b, .int .u64 (l0 (Jg5).mx.n), .int .u64 (l1 (Jg5).mx.n), .int .u64 (l2 (Jg5).mx.n), .int .u64 (l3 (Jg5).mx.n), .int .i64 (Jg5).mx.s] rfl Try.underlying42 rfl zs42)⟩ ⟨by show _ = Ending.returned (smv (prt c (mb.sc.getD c 0) fa ta (l.ids ++ i :: r.ids))); rw [(show prt c (mb.sc.getD c 0) fa ta (l.ids ++ i :: r.ids) = Jg5 by rw [hJg5, hJg4, hSl, hSo, hSr]; exact (prt_mid hlz hokl hoki hokr (by have := of_decide_eq_false hf0; have := of_decide_eq_false hf1; have := of_decide_eq_true hf2; have := of_decide_eq_false hf3; have := of_decide_eq_true hf4; have := of_decide_eq_true hf5; omega) (by have := of_decide_eq_false hf0; have := of_decide_eq_false hf1; have := of_decide_eq_true hf2; have := of_decide_eq_false hf3; have := of_decide_eq_true hf4; have := of_decide_eq_true hf5; omega)).symm)], _, hS, by have := of_decide_eq_false hf0; have := of_decide_eq_false hf1; have := of_decide_eq_true hf2; have := of_decide_eq_false hf3; have := of_decide_eq_true hf4; have := of_decide_eq_true hf5; omega, by have := of_decide_eq_false hf0; have := of_decide_eq_false hf1; have := of_decide_eq_true hf2; have := of_decide_eq_false hf3; have := of_decide_eq_true hf4; have := of_decide_eq_true hf5; unfold pbd at *; refine ⟨by omega, fun _ => by omega, fun _ => by omega⟩, M⟩
              | false =>
                have hf5p := of_decide_eq_false hf5
                refine w_reg ?_
                refine wl_mv (.tmp 3) (.int .i64 (fa)) (fun _ => rfl) rfl rfl ?_
                refine wl_mv (.tmp 12) (.int .i64 (l.sz)) (fun _ => rfl) rfl rfl ?_
                refine wl_bin (fun x y => do eqGuard .leq 3 (.tmp 65) (.tmp 66) x y; binOp .leq 3 x y) (.tmp 65) (.tmp 66) (.int .i64 (fa)) (.int .i64 (l.sz)) (.bool true) (fun _ => rfl) rfl rfl (leI hf4 _ _ _) rfl ?_
                refine wl_mv (.tmp 67) (.bool true) (fun _ => rfl) rfl rfl ?_
                refine wl_mv (.tmp 12) (.int .i64 (l.sz)) (fun _ => rfl) rfl rfl ?_
                refine wl_mv (.tmp 4) (.int .i64 (ta)) (fun _ => rfl) rfl rfl ?_
                refine wl_bin (fun x y => do eqGuard .lss 3 (.tmp 69) (.tmp 70) x y; binOp .lss 3 x y) (.tmp 69) (.tmp 70) (.int .i64 (l.sz)) (.int .i64 (ta)) (.bool false) (fun _ => rfl) rfl rfl (ltI hf5 _ _ _) rfl ?_
                refine wl_pick (.tmp 68) (.tmp 71) (.const (.bool false)) true (.bool false) (fun _ => rfl) rfl rfl rfl ?_
                refine w_nil ?_
                refine xn_then ?_
                refine w_condF rfl ?_
                refine w_skip ?_
                refine xn_then ?_
                refine w_seq ?_
                obtain ⟨Sr, hSr⟩ : ∃ X, X = prt c (mb.sc.getD c 0) (fa - l.sz - 1) (ta - l.sz - 1) r.ids := ⟨_, rfl⟩
                have okSr : Sr.ok := by rw [hSr]; exact prt_ok hokr
                have hsm : Smos [vq (.agg #[.int .i64 (Sl).r, .int .i64 (Sl).f, .int .i64 (Sl).k, .int .i64 (Sl).d, .int .i64 (Sl).e, .int .u64 (l0 (Sl).tt), .int .u64 (l1 (Sl).tt), .int .u64 (l2 (Sl).tt), .int .u64 (l3 (Sl).tt), .int .u64 (l4 (Sl).tt), .bool (Sl).so, .bool (Sl).mn.b, .int .u64 (l0 (Sl).mn.n), .int .u64 (l1 (Sl).mn.n), .int .u64 (l2 (Sl).mn.n), .int .u64 (l3 (Sl).mn.n), .int .i64 (Sl).mn.s, .bool (Sl).mx.b, .int .u64 (l0 (Sl).mx.n), .int .u64 (l1 (Sl).mx.n), .int .u64 (l2 (Sl).mx.n), .int .u64 (l3 (Sl).mx.n), .int .i64 (Sl).mx.s]), vq (pt t 0), vq (pt k 0), vq (pt k 0), vq (pt k 3), vq (pt k 4), vq (pp r.p), vq (.int .i64 ((c : Nat) : Int)), vq (.int .i64 (fa)), vq (.int .i64 (l.sz)), vq (.int .i64 (fa - l.sz)), vq (.int .i64 (fa - l.sz - 1)), vq (.int .i64 (ta)), vq (.int .i64 (l.sz)), vq (.int .i64 (ta - l.sz)), vq (.int .i64 (ta - l.sz - 1)), vq (.agg #[.int .i64 (Sr).r, .int .i64 (Sr).f, .int .i64 (Sr).k, .int .i64 (Sr).d, .int .i64 (Sr).e, .int .u64 (l0 (Sr).tt), .int .u64 (l1 (Sr).tt), .int .u64 (l2 (Sr).tt), .int .u64 (l3 (Sr).tt), .int .u64 (l4 (Sr).tt), .bool (Sr).so, .bool (Sr).mn.b, .int .u64 (l0 (Sr).mn.n), .int .u64 (l1 (Sr).mn.n), .int .u64 (l2 (Sr).mn.n), .int .u64 (l3 (Sr).mn.n), .int .i64 (Sr).mn.s, .bool (Sr).mx.b, .int .u64 (l0 (Sr).mx.n), .int .u64 (l1 (Sr).mx.n), .int .u64 (l2 (Sr).mx.n), .int .u64 (l3 (Sr).mx.n), .int .i64 (Sr).mx.s])] := smos_cons (smo_vq _) (smos_cons (smo_vq _) (smos_cons (smo_vq _) (smos_cons (smo_vq _) (smos_cons (smo_vq _) (smos_cons (smo_vq _) (smos_cons (smo_vq _) (smos_cons (smo_vq _) (smos_cons (smo_vq _) (smos_cons (smo_vq _) (smos_cons (smo_vq _) (smos_cons (smo_vq _) (smos_cons (smo_vq _) (smos_cons (smo_vq _) (smos_cons (smo_vq _) (smos_cons (smo_vq _) (smos_cons (smo_vq _) (smos_nil)))))))))))))))))
                obtain ⟨G, hGd⟩ : ∃ G, G = (fun (L9 : Nat → Bool) (f9 : Nat → Value) (w9 : World) => (L9 16 = false → Mo w7 w9) ∧ (L9 16 = true → ∃ lk9, HS D w9 t mb R root lk9 ∧ (lk2) ≤ lk9 ∧ pbd (fa - l.sz - 1) (ta - l.sz - 1) r.sz r.ht (lk2) lk9 ∧ Mk D w7 w9)) := ⟨_, rfl⟩
                have hgr : ∀ (i : Nat) (v : Value), i ≠ 16 → ∀ (L9 : Nat → Bool) (f9 : Nat → Value) (a b : World), G L9 f9 a → L9 i = false → Mo a b → G (updB L9 i) (upd f9 i v) b := by
                  intro i v h5 L9 f9 a b h _ m
                  rw [hGd] at h ⊢
                  simp only [updB_ne (Ne.symm h5)]
                  exact ⟨fun x => (h.1 x).trans m, fun x => (by obtain ⟨y, q1, q2, q3, q4⟩ := h.2 x; exact ⟨y, q1.mo m, q2, q3, q4.trans m⟩)⟩
                have hsee : ∀ (L9 : Nat → Bool) (f9 : Nat → Value) (a : World), G L9 f9 a → (∃ lk9, HS D a t mb R root lk9) ∧ At a k3 [.int .i64 (Sl).r, .int .i64 (Sl).f, .int .i64 (Sl).k, .int .i64 (Sl).d, .int .i64 (Sl).e, .int .u64 (l0 (Sl).tt), .int .u64 (l1 (Sl).tt), .int .u64 (l2 (Sl).tt), .int .u64 (l3 (Sl).tt), .int .u64 (l4 (Sl).tt), .bool (Sl).so, .bool (Sl).mn.b, .int .u64 (l0 (Sl).mn.n), .int .u64 (l1 (Sl).mn.n), .int .u64 (l2 (Sl).mn.n), .int .u64 (l3 (Sl).mn.n), .int .i64 (Sl).mn.s, .bool (Sl).mx.b, .int .u64 (l0 (Sl).mx.n), .int .u64 (l1 (Sl).mx.n), .int .u64 (l2 (Sl).mx.n), .int .u64 (l3 (Sl).mx.n), .int .i64 (Sl).mx.s] := by
                  intro L9 f9 a h
                  rw [hGd] at h
                  cases e9 : L9 16 with
                  | false => exact ⟨⟨_, hS.mo (h.1 e9)⟩, Q3.mo (h.1 e9)⟩
                  | true => obtain ⟨y, q1, q2, q3, q4⟩ := h.2 e9; exact ⟨⟨y, q1⟩, q4.at Q3 nd_k3⟩
                refine w_ogl 17 G [vq (.agg #[.int .i64 (Sl).r, .int .i64 (Sl).f, .int .i64 (Sl).k, .int .i64 (Sl).d, .int .i64 (Sl).e, .int .u64 (l0 (Sl).tt), .int .u64 (l1 (Sl).tt), .int .u64 (l2 (Sl).tt), .int .u64 (l3 (Sl).tt), .int .u64 (l4 (Sl).tt), .bool (Sl).so, .bool (Sl).mn.b, .int .u64 (l0 (Sl).mn.n), .int .u64 (l1 (Sl).mn.n), .int .u64 (l2 (Sl).mn.n), .int .u64 (l3 (Sl).mn.n), .int .i64 (Sl).mn.s, .bool (Sl).mx.b, .int .u64 (l0 (Sl).mx.n), .int .u64 (l1 (Sl).mx.n), .int .u64 (l2 (Sl).mx.n), .int .u64 (l3 (Sl).mx.n), .int .i64 (Sl).mx.s]), vq (pt t 0), vq (pt k 0), vq (pt k 0), vq (pt k 3), vq (pt k 4), vq (pp r.p), vq (.int .i64 ((c : Nat) : Int)), vq (.int .i64 (fa)), vq (.int .i64 (l.sz)), vq (.int .i64 (fa - l.sz)), vq (.int .i64 (fa - l.sz - 1)), vq (.int .i64 (ta)), vq (.int .i64 (l.sz)), vq (.int .i64 (ta - l.sz)), vq (.int .i64 (ta - l.sz - 1)), vq (.agg #[.int .i64 (Sr).r, .int .i64 (Sr).f, .int .i64 (Sr).k, .int .i64 (Sr).d, .int .i64 (Sr).e, .int .u64 (l0 (Sr).tt), .int .u64 (l1 (Sr).tt), .int .u64 (l2 (Sr).tt), .int .u64 (l3 (Sr).tt), .int .u64 (l4 (Sr).tt), .bool (Sr).so, .bool (Sr).mn.b, .int .u64 (l0 (Sr).mn.n), .int .u64 (l1 (Sr).mn.n), .int .u64 (l2 (Sr).mn.n), .int .u64 (l3 (Sr).mn.n), .int .i64 (Sr).mn.s, .bool (Sr).mx.b, .int .u64 (l0 (Sr).mx.n), .int .u64 (l1 (Sr).mx.n), .int .u64 (l2 (Sr).mx.n), .int .u64 (l3 (Sr).mx.n), .int .i64 (Sr).mx.s])] (by kernel_rfl) (by kernel_rfl) (by kernel_rfl) (by kernel_rfl) rfl (fun f => by rw [hGd]; exact ⟨fun _ => (Mo.refl _).drew, (fun e => by cases e)⟩) ?_ ?_
                · refine ea_cons ?_ (ea_cons ?_ (ea_cons ?_ (ea_cons ?_ (ea_cons ?_ (ea_cons ?_ (ea_cons ?_ (ea_cons ?_ (ea_cons ?_ (ea_cons ?_ (ea_cons ?_ (ea_cons ?_ (ea_cons ?_ (ea_cons ?_ (ea_cons ?_ (ea_cons ?_ (ea_cons ?_ (ea_nil)))))))))))))))))
                  · exact ol_eq (.agg #[.int .i64 (Sl).r, .int .i64 (Sl).f, .int .i64 (Sl).k, .int .i64 (Sl).d, .int .i64 (Sl).e, .int .u64 (l0 (Sl).tt), .int .u64 (l1 (Sl).tt), .int .u64 (l2 (Sl).tt), .int .u64 (l3 (Sl).tt), .int .u64 (l4 (Sl).tt), .bool (Sl).so, .bool (Sl).mn.b, .int .u64 (l0 (Sl).mn.n), .int .u64 (l1 (Sl).mn.n), .int .u64 (l2 (Sl).mn.n), .int .u64 (l3 (Sl).mn.n), .int .i64 (Sl).mn.s, .bool (Sl).mx.b, .int .u64 (l0 (Sl).mx.n), .int .u64 (l1 (Sl).mx.n), .int .u64 (l2 (Sl).mx.n), .int .u64 (l3 (Sl).mx.n), .int .i64 (Sl).mx.s]) rfl (hgr 0 _ (by decide)) hsm (fun L9 f wf hG hd K hK => have ⟨⟨_, hS⟩, Q3⟩ := hsee L9 f wf hG; go_run rfl (wo_load 42 (.tmp 11) (pt k3 0) (.agg #[.int .i64 (Sl).r, .int .i64 (Sl).f, .int .i64 (Sl).k, .int .i64 (Sl).d, .int .i64 (Sl).e, .int .u64 (l0 (Sl).tt), .int .u64 (l1 (Sl).tt), .int .u64 (l2 (Sl).tt), .int .u64 (l3 (Sl).tt), .int .u64 (l4 (Sl).tt), .bool (Sl).so, .bool (Sl).mn.b, .int .u64 (l0 (Sl).mn.n), .int .u64 (l1 (Sl).mn.n), .int .u64 (l2 (Sl).mn.n), .int .u64 (l3 (Sl).mn.n), .int .i64 (Sl).mn.s, .bool (Sl).mx.b, .int .u64 (l0 (Sl).mx.n), .int .u64 (l1 (Sl).mx.n), .int .u64 (l2 (Sl).mx.n), .int .u64 (l3 (Sl).mx.n), .int .i64 (Sl).mx.s]) rfl rfl (run_row Q3 42 0 23 [.int .i64 (Sl).r, .int .i64 (Sl).f, .int .i64 (Sl).k, .int .i64 (Sl).d, .int .i64 (Sl).e, .int .u64 (l0 (Sl).tt), .int .u64 (l1 (Sl).tt), .int .u64 (l2 (Sl).tt), .int .u64 (l3 (Sl).tt), .int .u64 (l4 (Sl).tt), .bool (Sl).so, .bool (Sl).mn.b, .int .u64 (l0 (Sl).mn.n), .int .u64 (l1 (Sl).mn.n), .int .u64 (l2 (Sl).mn.n), .int .u64 (l3 (Sl).mn.n), .int .i64 (Sl).mn.s, .bool (Sl).mx.b, .int .u64 (l0 (Sl).mx.n), .int .u64 (l1 (Sl).mx.n), .int .u64 (l2 (Sl).mx.n), .int .u64 (l3 (Sl).mx.n), .int .i64 (Sl).mx.s] rfl Try.underlying42 rfl zs42) (hK _ (Mo.refl _))))
                  · exact ol_eq (pt t 0) rfl (hgr 1 _ (by decide)) hsm (fun L9 f wf hG hd K hK => go_run rfl (wo_mv (.tmp 0) (pt t 0) (fun _ => rfl) rfl (hK _ (Mo.refl _))))
                  · exact ol_eq (pt k 0) rfl (hgr 2 _ (by decide)) hsm (fun L9 f wf hG hd K hK => go_run rfl (wo_mv (.tmp 1) (pt k 0) (fun _ => rfl) rfl (hK _ (Mo.refl _))))
                  · exact ol_eq (pt k 0) rfl (hgr 3 _ (by decide)) hsm (fun L9 f wf hG hd K hK => go_run rfl (wo_nc (.tmp 82) k 0 rfl (hd 2 rfl) (hK _ (Mo.refl _))))
                  · exact ol_eq (pt k 3) rfl (hgr 4 _ (by decide)) hsm (fun L9 f wf hG hd K hK => go_run rfl (wo_un (fun v => Instr.fieldAt 93 v 2) (.tmp 83) (pt k 0) (pt k 3) (fun _ => rfl) (hd 3 rfl) (by kernel_rfl) (hK _ (Mo.refl _))))
                  · exact ol_eq (pt k 4) rfl (hgr 5 _ (by decide)) hsm (fun L9 f wf hG hd K hK => go_run rfl (wo_bin (fun x y => Instr.indexAt 91 x y) (.tmp 84) (.const (.int .i64 (1))) (pt k 3) (.int .i64 (1)) (pt k 4) (fun _ => rfl) (hd 4 rfl) rfl (by kernel_rfl) (hK _ (Mo.refl _))))
                  · exact ol_eq (pp r.p) rfl (hgr 6 _ (by decide)) hsm (fun L9 f wf hG hd K hK => have ⟨⟨_, hS⟩, Q3⟩ := hsee L9 f wf hG; go_run rfl (wo_load 65 (.tmp 85) (pt k 4) (pp r.p) rfl (hd 5 rfl) (run_one (hS.rc k _ hk) 65 4 rfl Try.underlying65 rfl) (hK _ (Mo.refl _))))
                  · exact ol_eq (.int .i64 ((c : Nat) : Int)) rfl (hgr 7 _ (by decide)) hsm (fun L9 f wf hG hd K hK => go_run rfl (wo_mv (.tmp 2) (.int .i64 ((c : Nat) : Int)) (fun _ => rfl) rfl (hK _ (Mo.refl _))))
                  · exact ol_eq (.int .i64 (fa)) rfl (hgr 8 _ (by decide)) hsm (fun L9 f wf hG hd K hK => go_run rfl (wo_mv (.tmp 3) (.int .i64 (fa)) (fun _ => rfl) rfl (hK _ (Mo.refl _))))
                  · exact ol_eq (.int .i64 (l.sz)) rfl (hgr 9 _ (by decide)) hsm (fun L9 f wf hG hd K hK => go_run rfl (wo_mv (.tmp 12) (.int .i64 (l.sz)) (fun _ => rfl) rfl (hK _ (Mo.refl _))))
                  · exact ol_eq (.int .i64 (fa - l.sz)) rfl (hgr 10 _ (by decide)) hsm (fun L9 f wf hG hd K hK => go_run rfl (wo_bin (fun x y => do eqGuard .sub 3 (.tmp 88) (.tmp 89) x y; binOp .sub 3 x y) (.tmp 88) (.tmp 89) (.int .i64 (fa)) (.int .i64 (l.sz)) (.int .i64 (fa - l.sz)) (fun _ => rfl) (hd 8 rfl) (hd 9 rfl) (subI (by omega) (by omega) _ _ _) (hK _ (Mo.refl _))))
                  · exact ol_eq (.int .i64 (fa - l.sz - 1)) rfl (hgr 11 _ (by decide)) hsm (fun L9 f wf hG hd K hK => go_run rfl (wo_bin (fun x y => do eqGuard .sub 3 (.tmp 90) (.const (.int .i64 (1))) x y; binOp .sub 3 x y) (.tmp 90) (.const (.int .i64 (1))) (.int .i64 (fa - l.sz)) (.int .i64 (1)) (.int .i64 (fa - l.sz - 1)) (fun _ => rfl) (hd 10 rfl) rfl (subI (by omega) (by omega) _ _ _) (hK _ (Mo.refl _))))
                  · exact ol_eq (.int .i64 (ta)) rfl (hgr 12 _ (by decide)) hsm (fun L9 f wf hG hd K hK => go_run rfl (wo_mv (.tmp 4) (.int .i64 (ta)) (fun _ => rfl) rfl (hK _ (Mo.refl _))))
                  · exact ol_eq (.int .i64 (l.sz)) rfl (hgr 13 _ (by decide)) hsm (fun L9 f wf hG hd K hK => go_run rfl (wo_mv (.tmp 12) (.int .i64 (l.sz)) (fun _ => rfl) rfl (hK _ (Mo.refl _))))
                  · exact ol_eq (.int .i64 (ta - l.sz)) rfl (hgr 14 _ (by decide)) hsm (fun L9 f wf hG hd K hK => go_run rfl (wo_bin (fun x y => do eqGuard .sub 3 (.tmp 92) (.tmp 93) x y; binOp .sub 3 x y) (.tmp 92) (.tmp 93) (.int .i64 (ta)) (.int .i64 (l.sz)) (.int .i64 (ta - l.sz)) (fun _ => rfl) (hd 12 rfl) (hd 13 rfl) (subI (by omega) (by omega) _ _ _) (hK _ (Mo.refl _))))
                  · exact ol_eq (.int .i64 (ta - l.sz - 1)) rfl (hgr 15 _ (by decide)) hsm (fun L9 f wf hG hd K hK => go_run rfl (wo_bin (fun x y => do eqGuard .sub 3 (.tmp 94) (.const (.int .i64 (1))) x y; binOp .sub 3 x y) (.tmp 94) (.const (.int .i64 (1))) (.int .i64 (ta - l.sz)) (.int .i64 (1)) (.int .i64 (ta - l.sz - 1)) (fun _ => rfl) (hd 14 rfl) rfl (subI (by omega) (by omega) _ _ _) (hK _ (Mo.refl _))))
                  · refine ⟨fun L9 f wf hG hi hd K9 hK => ?_⟩
                    rw [hGd] at hG
                    have hmo := hG.1 hi
                    have h9 := part_n r (fa := fa - l.sz - 1) (ta := ta - l.sz - 1) hc (hS.mo hmo) hr.2.2 hok.2.2 (by omega) ⟨by omega, by omega⟩ ⟨by omega, by omega⟩ (by omega) (by omega)
                    rw [← hSr] at h9
                    refine go_run rfl (wo_callx 33 [(.tmp 81), (.tmp 86), (.tmp 87), (.tmp 91), (.tmp 95)] _ [pt t 0, pp r.p, .int .i64 ((c : Nat) : Int), .int .i64 (fa - l.sz - 1), .int .i64 (ta - l.sz - 1)] rfl (li5 (hd 1 rfl).2 (hd 6 rfl).2 (hd 7 rfl).2 (hd 11 rfl).2 (hd 15 rfl).2) (fun _ _ => by kernel_rfl) h9 (fun e9 w9 ⟨he, lk9, q1, q2, q3, q4⟩ => ⟨_, he, hK _ w9 ?_ rfl (fun j u hj hr => ?_)⟩))
                    · rw [hGd]
                      simp only [updB_eq]
                      exact ⟨fun e => (by cases e), fun _ => ⟨lk9, q1, q2, q3, (Mk.of D hmo).same q4⟩⟩
                    · match j, hj, hr with
                      | 0, _, hr => exact hr
                      | 1, _, hr => exact hr
                      | 2, _, hr => exact hr
                      | 3, _, hr => exact hr
                      | 4, _, hr => exact hr
                      | 5, _, hr => exact hr
                      | 6, _, hr => exact hr
                      | 7, _, hr => exact hr
                      | 8, _, hr => exact hr
                      | 9, _, hr => exact hr
                      | 10, _, hr => exact hr
                      | 11, _, hr => exact hr
                      | 12, _, hr => exact hr
                      | 13, _, hr => exact hr
                      | 14, _, hr => exact hr
                      | 15, _, hr => exact hr
                      | 16, _, hr => exact hr
                      | j + 17, _, _ => trivial
                intro L9 f w8 hall hG hR
                rw [hGd] at hG
                obtain ⟨lk3, hS3, hl3, hl4, hM9⟩ := hG.2 (hall 16 rfl)
                have e0 := hR 0 rfl
                have e16 := hR 16 rfl
                clear hG hall hR hgr hsm hGd hsee
                replace Q1 := hM9.at Q1 nd_k1
                replace Q3 := hM9.at Q3 nd_k3
                replace hS := hS3
                replace M := M.same hM9
                clear hS3 hM9
                refine wl_bs47b (.tmp 80) (.tmp 96) Sl Sr rfl e0 e16 rfl ?_
                intro g4 w9 hk9 hq S4
                replace Q1 := Q1.mo hq
                replace Q3 := Q3.mo hq
                replace hS := hS.mo hq
                replace M := M.trans hq
                clear hk9 hq
                obtain ⟨Jg4, hJg4⟩ : ∃ X, X = [Sl, Sr].foldl jn sm0 := ⟨_, rfl⟩
                have okJg4 : Jg4.ok := by rw [hJg4]; exact fold_ok _ sm0_ok (two_ok okSl okSr)
                refine wl_call 49 [(.tmp 97)] _ [.slice (some ⟨g4, 0, none⟩) 2 2] (.agg #[.int .i64 (Jg4).r, .int .i64 (Jg4).f, .int .i64 (Jg4).k, .int .i64 (Jg4).d, .int .i64 (Jg4).e, .int .u64 (l0 (Jg4).tt), .int .u64 (l1 (Jg4).tt), .int .u64 (l2 (Jg4).tt), .int .u64 (l3 (Jg4).tt), .int .u64 (l4 (Jg4).tt), .bool (Jg4).so, .bool (Jg4).mn.b, .int .u64 (l0 (Jg4).mn.n), .int .u64 (l1 (Jg4).mn.n), .int .u64 (l2 (Jg4).mn.n), .int .u64 (l3 (Jg4).mn.n), .int .i64 (Jg4).mn.s, .bool (Jg4).mx.b, .int .u64 (l0 (Jg4).mx.n), .int .u64 (l1 (Jg4).mx.n), .int .u64 (l2 (Jg4).mx.n), .int .u64 (l3 (Jg4).mx.n), .int .i64 (Jg4).mx.s]) rfl rfl (fun _ _ => by kernel_rfl) (by have h9 := join_n [Sl, Sr] (some ⟨g4, 0, none⟩) 2 (two_ok okSl okSr) S4 (show 2 ≤ 900000000000000000 by decide); rw [← hJg4] at h9; exact h9) rfl ?_
                intro w10 hq
                replace Q1 := Q1.mo hq
                replace Q3 := Q3.mo hq
                replace hS := hS.mo hq
                replace M := M.trans hq
                clear hq
                refine wl_stx2 42 (.tmp 10) (.tmp 98) k1 0 #[.int .i64 (Jg4).r, .int .i64 (Jg4).f, .int .i64 (Jg4).k, .int .i64 (Jg4).d, .int .i64 (Jg4).e, .int .u64 (l0 (Jg4).tt), .int .u64 (l1 (Jg4).tt), .int .u64 (l2 (Jg4).tt), .int .u64 (l3 (Jg4).tt), .int .u64 (l4 (Jg4).tt), .bool (Jg4).so, .bool (Jg4).mn.b, .int .u64 (l0 (Jg4).mn.n), .int .u64 (l1 (Jg4).mn.n), .int .u64 (l2 (Jg4).mn.n), .int .u64 (l3 (Jg4).mn.n), .int .i64 (Jg4).mn.s, .bool (Jg4).mx.b, .int .u64 (l0 (Jg4).mx.n), .int .u64 (l1 (Jg4).mx.n), .int .u64 (l2 (Jg4).mx.n), .int .u64 (l3 (Jg4).mx.n), .int .i64 (Jg4).mx.s] [.int .i64 0, .int .i64 0, .int .i64 0, .int .i64 0, .int .i64 0, .int .u64 0, .int .u64 0, .int .u64 0, .int .u64 0, .int .u64 0, .bool false, .bool false, .int .u64 0, .int .u64 0, .int .u64 0, .int .u64 0, .int .i64 0, .bool false, .int .u64 0, .int .u64 0, .int .u64 0, .int .u64 0, .int .i64 0] [.int .i64 (Jg4).r, .int .i64 (Jg4).f, .int .i64 (Jg4).k, .int .i64 (Jg4).d, .int .i64 (Jg4).e, .int .u64 (l0 (Jg4).tt), .int .u64 (l1 (Jg4).tt), .int .u64 (l2 (Jg4).tt), .int .u64 (l3 (Jg4).tt), .int .u64 (l4 (Jg4).tt), .bool (Jg4).so, .bool (Jg4).mn.b, .int .u64 (l0 (Jg4).mn.n), .int .u64 (l1 (Jg4).mn.n), .int .u64 (l2 (Jg4).mn.n), .int .u64 (l3 (Jg4).mn.n), .int .i64 (Jg4).mn.s, .bool (Jg4).mx.b, .int .u64 (l0 (Jg4).mx.n), .int .u64 (l1 (Jg4).mx.n), .int .u64 (l2 (Jg4).mx.n), .int .u64 (l3 (Jg4).mx.n), .int .i64 (Jg4).mx.s] Q1 rfl rfl rfl rfl rfl zs42 rfl rfl rfl ?_
                intro w11 hT Qn
                replace Q1 := Qn
                replace Q3 := hT.other _ _ ne_k1_k3.symm Q3
                have hK := Mk.st1 hT
                replace hS := hS.kept hK (fun j e q => nd_k1 (q ▸ e)) (fun b hb q => ns_k1 b hb q)
                replace M := M.tr hK (fun j hj e => absurd e (by omega))
                clear hT hK Qn
                refine w_nil ?_
                refine xn_then ?_
                refine w_ret ?_
                exact w_ret1 _ (.agg #[.int .i64 (Jg4).r, .int .i64 (Jg4).f, .int .i64 (Jg4).k, .int .i64 (Jg4).d, .int .i64 (Jg4).e, .int .u64 (l0 (Jg4).tt), .int .u64 (l1 (Jg4).tt), .int .u64 (l2 (Jg4).tt), .int .u64 (l3 (Jg4).tt), .int .u64 (l4 (Jg4).tt), .bool (Jg4).so, .bool (Jg4).mn.b, .int .u64 (l0 (Jg4).mn.n), .int .u64 (l1 (Jg4).mn.n), .int .u64 (l2 (Jg4).mn.n), .int .u64 (l3 (Jg4).mn.n), .int .i64 (Jg4).mn.s, .bool (Jg4).mx.b, .int .u64 (l0 (Jg4).mx.n), .int .u64 (l1 (Jg4).mx.n), .int .u64 (l2 (Jg4).mx.n), .int .u64 (l3 (Jg4).mx.n), .int .i64 (Jg4).mx.s]) rfl ⟨k1, rfl, (run_row Q1 42 0 23 [.int .i64 (Jg4).r, .int .i64 (Jg4).f, .int .i64 (Jg4).k, .int .i64 (Jg4).d, .int .i64 (Jg4).e, .int .u64 (l0 (Jg4).tt), .int .u64 (l1 (Jg4).tt), .int .u64 (l2 (Jg4).tt), .int .u64 (l3 (Jg4).tt), .int .u64 (l4 (Jg4).tt), .bool (Jg4).so, .bool (Jg4).mn.b, .int .u64 (l0 (Jg4).mn.n), .int .u64 (l1 (Jg4).mn.n), .int .u64 (l2 (Jg4).mn.n), .int .u64 (l3 (Jg4).mn.n), .int .i64 (Jg4).mn.s, .bool (Jg4).mx.b, .int .u64 (l0 (Jg4).mx.n), .int .u64 (l1 (Jg4).mx.n), .int .u64 (l2 (Jg4).mx.n), .int .u64 (l3 (Jg4).mx.n), .int .i64 (Jg4).mx.s] rfl Try.underlying42 rfl zs42)⟩ ⟨by show _ = Ending.returned (smv (prt c (mb.sc.getD c 0) fa ta (l.ids ++ i :: r.ids))); rw [(show prt c (mb.sc.getD c 0) fa ta (l.ids ++ i :: r.ids) = Jg4 by rw [hJg4, hSl, hSr]; exact (prt_out hlz hokl hokr (by have := of_decide_eq_false hf0; have := of_decide_eq_false hf1; have := of_decide_eq_true hf2; have := of_decide_eq_false hf3; have := of_decide_eq_true hf4; have := of_decide_eq_false hf5; omega)).symm)], _, hS, by have := of_decide_eq_false hf0; have := of_decide_eq_false hf1; have := of_decide_eq_true hf2; have := of_decide_eq_false hf3; have := of_decide_eq_true hf4; have := of_decide_eq_false hf5; omega, by have := of_decide_eq_false hf0; have := of_decide_eq_false hf1; have := of_decide_eq_true hf2; have := of_decide_eq_false hf3; have := of_decide_eq_true hf4; have := of_decide_eq_false hf5; unfold pbd at *; refine ⟨by omega, fun _ => by omega, fun _ => by omega⟩, M⟩
            | false =>
              have hf4p := of_decide_eq_false hf4
              refine w_reg ?_
              refine wl_mv (.tmp 3) (.int .i64 (fa)) (fun _ => rfl) rfl rfl ?_
              refine wl_mv (.tmp 12) (.int .i64 (l.sz)) (fun _ => rfl) rfl rfl ?_
              refine wl_bin (fun x y => do eqGuard .leq 3 (.tmp 65) (.tmp 66) x y; binOp .leq 3 x y) (.tmp 65) (.tmp 66) (.int .i64 (fa)) (.int .i64 (l.sz)) (.bool false) (fun _ => rfl) rfl rfl (leI hf4 _ _ _) rfl ?_
              refine wl_mv (.tmp 67) (.bool false) (fun _ => rfl) rfl rfl ?_
              refine wl_skip rfl ?_
              refine wl_skip rfl ?_
              refine wl_skip rfl ?_
              refine wl_pick (.tmp 68) (.tmp 71) (.const (.bool false)) false (.bool false) (fun _ => rfl) rfl rfl rfl ?_
              refine w_nil ?_
              refine xn_then ?_
              refine w_condF rfl ?_
              refine w_skip ?_
              refine xn_then ?_
              refine w_seq ?_
              obtain ⟨Sr, hSr⟩ : ∃ X, X = prt c (mb.sc.getD c 0) (fa - l.sz - 1) (ta - l.sz - 1) r.ids := ⟨_, rfl⟩
              have okSr : Sr.ok := by rw [hSr]; exact prt_ok hokr
              have hsm : Smos [vq (.agg #[.int .i64 (Sl).r, .int .i64 (Sl).f, .int .i64 (Sl).k, .int .i64 (Sl).d, .int .i64 (Sl).e, .int .u64 (l0 (Sl).tt), .int .u64 (l1 (Sl).tt), .int .u64 (l2 (Sl).tt), .int .u64 (l3 (Sl).tt), .int .u64 (l4 (Sl).tt), .bool (Sl).so, .bool (Sl).mn.b, .int .u64 (l0 (Sl).mn.n), .int .u64 (l1 (Sl).mn.n), .int .u64 (l2 (Sl).mn.n), .int .u64 (l3 (Sl).mn.n), .int .i64 (Sl).mn.s, .bool (Sl).mx.b, .int .u64 (l0 (Sl).mx.n), .int .u64 (l1 (Sl).mx.n), .int .u64 (l2 (Sl).mx.n), .int .u64 (l3 (Sl).mx.n), .int .i64 (Sl).mx.s]), vq (pt t 0), vq (pt k 0), vq (pt k 0), vq (pt k 3), vq (pt k 4), vq (pp r.p), vq (.int .i64 ((c : Nat) : Int)), vq (.int .i64 (fa)), vq (.int .i64 (l.sz)), vq (.int .i64 (fa - l.sz)), vq (.int .i64 (fa - l.sz - 1)), vq (.int .i64 (ta)), vq (.int .i64 (l.sz)), vq (.int .i64 (ta - l.sz)), vq (.int .i64 (ta - l.sz - 1)), vq (.agg #[.int .i64 (Sr).r, .int .i64 (Sr).f, .int .i64 (Sr).k, .int .i64 (Sr).d, .int .i64 (Sr).e, .int .u64 (l0 (Sr).tt), .int .u64 (l1 (Sr).tt), .int .u64 (l2 (Sr).tt), .int .u64 (l3 (Sr).tt), .int .u64 (l4 (Sr).tt), .bool (Sr).so, .bool (Sr).mn.b, .int .u64 (l0 (Sr).mn.n), .int .u64 (l1 (Sr).mn.n), .int .u64 (l2 (Sr).mn.n), .int .u64 (l3 (Sr).mn.n), .int .i64 (Sr).mn.s, .bool (Sr).mx.b, .int .u64 (l0 (Sr).mx.n), .int .u64 (l1 (Sr).mx.n), .int .u64 (l2 (Sr).mx.n), .int .u64 (l3 (Sr).mx.n), .int .i64 (Sr).mx.s])] := smos_cons (smo_vq _) (smos_cons (smo_vq _) (smos_cons (smo_vq _) (smos_cons (smo_vq _) (smos_cons (smo_vq _) (smos_cons (smo_vq _) (smos_cons (smo_vq _) (smos_cons (smo_vq _) (smos_cons (smo_vq _) (smos_cons (smo_vq _) (smos_cons (smo_vq _) (smos_cons (smo_vq _) (smos_cons (smo_vq _) (smos_cons (smo_vq _) (smos_cons (smo_vq _) (smos_cons (smo_vq _) (smos_cons (smo_vq _) (smos_nil)))))))))))))))))
              obtain ⟨G, hGd⟩ : ∃ G, G = (fun (L9 : Nat → Bool) (f9 : Nat → Value) (w9 : World) => (L9 16 = false → Mo w7 w9) ∧ (L9 16 = true → ∃ lk9, HS D w9 t mb R root lk9 ∧ (lk2) ≤ lk9 ∧ pbd (fa - l.sz - 1) (ta - l.sz - 1) r.sz r.ht (lk2) lk9 ∧ Mk D w7 w9)) := ⟨_, rfl⟩
              have hgr : ∀ (i : Nat) (v : Value), i ≠ 16 → ∀ (L9 : Nat → Bool) (f9 : Nat → Value) (a b : World), G L9 f9 a → L9 i = false → Mo a b → G (updB L9 i) (upd f9 i v) b := by
                intro i v h5 L9 f9 a b h _ m
                rw [hGd] at h ⊢
                simp only [updB_ne (Ne.symm h5)]
                exact ⟨fun x => (h.1 x).trans m, fun x => (by obtain ⟨y, q1, q2, q3, q4⟩ := h.2 x; exact ⟨y, q1.mo m, q2, q3, q4.trans m⟩)⟩
              have hsee : ∀ (L9 : Nat → Bool) (f9 : Nat → Value) (a : World), G L9 f9 a → (∃ lk9, HS D a t mb R root lk9) ∧ At a k3 [.int .i64 (Sl).r, .int .i64 (Sl).f, .int .i64 (Sl).k, .int .i64 (Sl).d, .int .i64 (Sl).e, .int .u64 (l0 (Sl).tt), .int .u64 (l1 (Sl).tt), .int .u64 (l2 (Sl).tt), .int .u64 (l3 (Sl).tt), .int .u64 (l4 (Sl).tt), .bool (Sl).so, .bool (Sl).mn.b, .int .u64 (l0 (Sl).mn.n), .int .u64 (l1 (Sl).mn.n), .int .u64 (l2 (Sl).mn.n), .int .u64 (l3 (Sl).mn.n), .int .i64 (Sl).mn.s, .bool (Sl).mx.b, .int .u64 (l0 (Sl).mx.n), .int .u64 (l1 (Sl).mx.n), .int .u64 (l2 (Sl).mx.n), .int .u64 (l3 (Sl).mx.n), .int .i64 (Sl).mx.s] := by
                intro L9 f9 a h
                rw [hGd] at h
                cases e9 : L9 16 with
                | false => exact ⟨⟨_, hS.mo (h.1 e9)⟩, Q3.mo (h.1 e9)⟩
                | true => obtain ⟨y, q1, q2, q3, q4⟩ := h.2 e9; exact ⟨⟨y, q1⟩, q4.at Q3 nd_k3⟩
              refine w_ogl 17 G [vq (.agg #[.int .i64 (Sl).r, .int .i64 (Sl).f, .int .i64 (Sl).k, .int .i64 (Sl).d, .int .i64 (Sl).e, .int .u64 (l0 (Sl).tt), .int .u64 (l1 (Sl).tt), .int .u64 (l2 (Sl).tt), .int .u64 (l3 (Sl).tt), .int .u64 (l4 (Sl).tt), .bool (Sl).so, .bool (Sl).mn.b, .int .u64 (l0 (Sl).mn.n), .int .u64 (l1 (Sl).mn.n), .int .u64 (l2 (Sl).mn.n), .int .u64 (l3 (Sl).mn.n), .int .i64 (Sl).mn.s, .bool (Sl).mx.b, .int .u64 (l0 (Sl).mx.n), .int .u64 (l1 (Sl).mx.n), .int .u64 (l2 (Sl).mx.n), .int .u64 (l3 (Sl).mx.n), .int .i64 (Sl).mx.s]), vq (pt t 0), vq (pt k 0), vq (pt k 0), vq (pt k 3), vq (pt k 4), vq (pp r.p), vq (.int .i64 ((c : Nat) : Int)), vq (.int .i64 (fa)), vq (.int .i64 (l.sz)), vq (.int .i64 (fa - l.sz)), vq (.int .i64 (fa - l.sz - 1)), vq (.int .i64 (ta)), vq (.int .i64 (l.sz)), vq (.int .i64 (ta - l.sz)), vq (.int .i64 (ta - l.sz - 1)), vq (.agg #[.int .i64 (Sr).r, .int .i64 (Sr).f, .int .i64 (Sr).k, .int .i64 (Sr).d, .int .i64 (Sr).e, .int .u64 (l0 (Sr).tt), .int .u64 (l1 (Sr).tt), .int .u64 (l2 (Sr).tt), .int .u64 (l3 (Sr).tt), .int .u64 (l4 (Sr).tt), .bool (Sr).so, .bool (Sr).mn.b, .int .u64 (l0 (Sr).mn.n), .int .u64 (l1 (Sr).mn.n), .int .u64 (l2 (Sr).mn.n), .int .u64 (l3 (Sr).mn.n), .int .i64 (Sr).mn.s, .bool (Sr).mx.b, .int .u64 (l0 (Sr).mx.n), .int .u64 (l1 (Sr).mx.n), .int .u64 (l2 (Sr).mx.n), .int .u64 (l3 (Sr).mx.n), .int .i64 (Sr).mx.s])] (by kernel_rfl) (by kernel_rfl) (by kernel_rfl) (by kernel_rfl) rfl (fun f => by rw [hGd]; exact ⟨fun _ => (Mo.refl _).drew, (fun e => by cases e)⟩) ?_ ?_
              · refine ea_cons ?_ (ea_cons ?_ (ea_cons ?_ (ea_cons ?_ (ea_cons ?_ (ea_cons ?_ (ea_cons ?_ (ea_cons ?_ (ea_cons ?_ (ea_cons ?_ (ea_cons ?_ (ea_cons ?_ (ea_cons ?_ (ea_cons ?_ (ea_cons ?_ (ea_cons ?_ (ea_cons ?_ (ea_nil)))))))))))))))))
                · exact ol_eq (.agg #[.int .i64 (Sl).r, .int .i64 (Sl).f, .int .i64 (Sl).k, .int .i64 (Sl).d, .int .i64 (Sl).e, .int .u64 (l0 (Sl).tt), .int .u64 (l1 (Sl).tt), .int .u64 (l2 (Sl).tt), .int .u64 (l3 (Sl).tt), .int .u64 (l4 (Sl).tt), .bool (Sl).so, .bool (Sl).mn.b, .int .u64 (l0 (Sl).mn.n), .int .u64 (l1 (Sl).mn.n), .int .u64 (l2 (Sl).mn.n), .int .u64 (l3 (Sl).mn.n), .int .i64 (Sl).mn.s, .bool (Sl).mx.b, .int .u64 (l0 (Sl).mx.n), .int .u64 (l1 (Sl).mx.n), .int .u64 (l2 (Sl).mx.n), .int .u64 (l3 (Sl).mx.n), .int .i64 (Sl).mx.s]) rfl (hgr 0 _ (by decide)) hsm (fun L9 f wf hG hd K hK => have ⟨⟨_, hS⟩, Q3⟩ := hsee L9 f wf hG; go_run rfl (wo_load 42 (.tmp 11) (pt k3 0) (.agg #[.int .i64 (Sl).r, .int .i64 (Sl).f, .int .i64 (Sl).k, .int .i64 (Sl).d, .int .i64 (Sl).e, .int .u64 (l0 (Sl).tt), .int .u64 (l1 (Sl).tt), .int .u64 (l2 (Sl).tt), .int .u64 (l3 (Sl).tt), .int .u64 (l4 (Sl).tt), .bool (Sl).so, .bool (Sl).mn.b, .int .u64 (l0 (Sl).mn.n), .int .u64 (l1 (Sl).mn.n), .int .u64 (l2 (Sl).mn.n), .int .u64 (l3 (Sl).mn.n), .int .i64 (Sl).mn.s, .bool (Sl).mx.b, .int .u64 (l0 (Sl).mx.n), .int .u64 (l1 (Sl).mx.n), .int .u64 (l2 (Sl).mx.n), .int .u64 (l3 (Sl).mx.n), .int .i64 (Sl).mx.s]) rfl rfl (run_row Q3 42 0 23 [.int .i64 (Sl).r, .int .i64 (Sl).f, .int .i64 (Sl).k, .int .i64 (Sl).d, .int .i64 (Sl).e, .int .u64 (l0 (Sl).tt), .int .u64 (l1 (Sl).tt), .int .u64 (l2 (Sl).tt), .int .u64 (l3 (Sl).tt), .int .u64 (l4 (Sl).tt), .bool (Sl).so, .bool (Sl).mn.b, .int .u64 (l0 (Sl).mn.n), .int .u64 (l1 (Sl).mn.n), .int .u64 (l2 (Sl).mn.n), .int .u64 (l3 (Sl).mn.n), .int .i64 (Sl).mn.s, .bool (Sl).mx.b, .int .u64 (l0 (Sl).mx.n), .int .u64 (l1 (Sl).mx.n), .int .u64 (l2 (Sl).mx.n), .int .u64 (l3 (Sl).mx.n), .int .i64 (Sl).mx.s] rfl Try.underlying42 rfl zs42) (hK _ (Mo.refl _))))
                · exact ol_eq (pt t 0) rfl (hgr 1 _ (by decide)) hsm (fun L9 f wf hG hd K hK => go_run rfl (wo_mv (.tmp 0) (pt t 0) (fun _ => rfl) rfl (hK _ (Mo.refl _))))
                · exact ol_eq (pt k 0) rfl (hgr 2 _ (by decide)) hsm (fun L9 f wf hG hd K hK => go_run rfl (wo_mv (.tmp 1) (pt k 0) (fun _ => rfl) rfl (hK _ (Mo.refl _))))
                · exact ol_eq (pt k 0) rfl (hgr 3 _ (by decide)) hsm (fun L9 f wf hG hd K hK => go_run rfl (wo_nc (.tmp 82) k 0 rfl (hd 2 rfl) (hK _ (Mo.refl _))))
                · exact ol_eq (pt k 3) rfl (hgr 4 _ (by decide)) hsm (fun L9 f wf hG hd K hK => go_run rfl (wo_un (fun v => Instr.fieldAt 93 v 2) (.tmp 83) (pt k 0) (pt k 3) (fun _ => rfl) (hd 3 rfl) (by kernel_rfl) (hK _ (Mo.refl _))))
                · exact ol_eq (pt k 4) rfl (hgr 5 _ (by decide)) hsm (fun L9 f wf hG hd K hK => go_run rfl (wo_bin (fun x y => Instr.indexAt 91 x y) (.tmp 84) (.const (.int .i64 (1))) (pt k 3) (.int .i64 (1)) (pt k 4) (fun _ => rfl) (hd 4 rfl) rfl (by kernel_rfl) (hK _ (Mo.refl _))))
                · exact ol_eq (pp r.p) rfl (hgr 6 _ (by decide)) hsm (fun L9 f wf hG hd K hK => have ⟨⟨_, hS⟩, Q3⟩ := hsee L9 f wf hG; go_run rfl (wo_load 65 (.tmp 85) (pt k 4) (pp r.p) rfl (hd 5 rfl) (run_one (hS.rc k _ hk) 65 4 rfl Try.underlying65 rfl) (hK _ (Mo.refl _))))
                · exact ol_eq (.int .i64 ((c : Nat) : Int)) rfl (hgr 7 _ (by decide)) hsm (fun L9 f wf hG hd K hK => go_run rfl (wo_mv (.tmp 2) (.int .i64 ((c : Nat) : Int)) (fun _ => rfl) rfl (hK _ (Mo.refl _))))
                · exact ol_eq (.int .i64 (fa)) rfl (hgr 8 _ (by decide)) hsm (fun L9 f wf hG hd K hK => go_run rfl (wo_mv (.tmp 3) (.int .i64 (fa)) (fun _ => rfl) rfl (hK _ (Mo.refl _))))
                · exact ol_eq (.int .i64 (l.sz)) rfl (hgr 9 _ (by decide)) hsm (fun L9 f wf hG hd K hK => go_run rfl (wo_mv (.tmp 12) (.int .i64 (l.sz)) (fun _ => rfl) rfl (hK _ (Mo.refl _))))
                · exact ol_eq (.int .i64 (fa - l.sz)) rfl (hgr 10 _ (by decide)) hsm (fun L9 f wf hG hd K hK => go_run rfl (wo_bin (fun x y => do eqGuard .sub 3 (.tmp 88) (.tmp 89) x y; binOp .sub 3 x y) (.tmp 88) (.tmp 89) (.int .i64 (fa)) (.int .i64 (l.sz)) (.int .i64 (fa - l.sz)) (fun _ => rfl) (hd 8 rfl) (hd 9 rfl) (subI (by omega) (by omega) _ _ _) (hK _ (Mo.refl _))))
                · exact ol_eq (.int .i64 (fa - l.sz - 1)) rfl (hgr 11 _ (by decide)) hsm (fun L9 f wf hG hd K hK => go_run rfl (wo_bin (fun x y => do eqGuard .sub 3 (.tmp 90) (.const (.int .i64 (1))) x y; binOp .sub 3 x y) (.tmp 90) (.const (.int .i64 (1))) (.int .i64 (fa - l.sz)) (.int .i64 (1)) (.int .i64 (fa - l.sz - 1)) (fun _ => rfl) (hd 10 rfl) rfl (subI (by omega) (by omega) _ _ _) (hK _ (Mo.refl _))))
                · exact ol_eq (.int .i64 (ta)) rfl (hgr 12 _ (by decide)) hsm (fun L9 f wf hG hd K hK => go_run rfl (wo_mv (.tmp 4) (.int .i64 (ta)) (fun _ => rfl) rfl (hK _ (Mo.refl _))))
                · exact ol_eq (.int .i64 (l.sz)) rfl (hgr 13 _ (by decide)) hsm (fun L9 f wf hG hd K hK => go_run rfl (wo_mv (.tmp 12) (.int .i64 (l.sz)) (fun _ => rfl) rfl (hK _ (Mo.refl _))))
                · exact ol_eq (.int .i64 (ta - l.sz)) rfl (hgr 14 _ (by decide)) hsm (fun L9 f wf hG hd K hK => go_run rfl (wo_bin (fun x y => do eqGuard .sub 3 (.tmp 92) (.tmp 93) x y; binOp .sub 3 x y) (.tmp 92) (.tmp 93) (.int .i64 (ta)) (.int .i64 (l.sz)) (.int .i64 (ta - l.sz)) (fun _ => rfl) (hd 12 rfl) (hd 13 rfl) (subI (by omega) (by omega) _ _ _) (hK _ (Mo.refl _))))
                · exact ol_eq (.int .i64 (ta - l.sz - 1)) rfl (hgr 15 _ (by decide)) hsm (fun L9 f wf hG hd K hK => go_run rfl (wo_bin (fun x y => do eqGuard .sub 3 (.tmp 94) (.const (.int .i64 (1))) x y; binOp .sub 3 x y) (.tmp 94) (.const (.int .i64 (1))) (.int .i64 (ta - l.sz)) (.int .i64 (1)) (.int .i64 (ta - l.sz - 1)) (fun _ => rfl) (hd 14 rfl) rfl (subI (by omega) (by omega) _ _ _) (hK _ (Mo.refl _))))
                · refine ⟨fun L9 f wf hG hi hd K9 hK => ?_⟩
                  rw [hGd] at hG
                  have hmo := hG.1 hi
                  have h9 := part_n r (fa := fa - l.sz - 1) (ta := ta - l.sz - 1) hc (hS.mo hmo) hr.2.2 hok.2.2 (by omega) ⟨by omega, by omega⟩ ⟨by omega, by omega⟩ (by omega) (by omega)
                  rw [← hSr] at h9
                  refine go_run rfl (wo_callx 33 [(.tmp 81), (.tmp 86), (.tmp 87), (.tmp 91), (.tmp 95)] _ [pt t 0, pp r.p, .int .i64 ((c : Nat) : Int), .int .i64 (fa - l.sz - 1), .int .i64 (ta - l.sz - 1)] rfl (li5 (hd 1 rfl).2 (hd 6 rfl).2 (hd 7 rfl).2 (hd 11 rfl).2 (hd 15 rfl).2) (fun _ _ => by kernel_rfl) h9 (fun e9 w9 ⟨he, lk9, q1, q2, q3, q4⟩ => ⟨_, he, hK _ w9 ?_ rfl (fun j u hj hr => ?_)⟩))
                  · rw [hGd]
                    simp only [updB_eq]
                    exact ⟨fun e => (by cases e), fun _ => ⟨lk9, q1, q2, q3, (Mk.of D hmo).same q4⟩⟩
                  · match j, hj, hr with
                    | 0, _, hr => exact hr
                    | 1, _, hr => exact hr
                    | 2, _, hr => exact hr
                    | 3, _, hr => exact hr
                    | 4, _, hr => exact hr
                    | 5, _, hr => exact hr
                    | 6, _, hr => exact hr
                    | 7, _, hr => exact hr
                    | 8, _, hr => exact hr
                    | 9, _, hr => exact hr
                    | 10, _, hr => exact hr
                    | 11, _, hr => exact hr
                    | 12, _, hr => exact hr
                    | 13, _, hr => exact hr
                    | 14, _, hr => exact hr
                    | 15, _, hr => exact hr
                    | 16, _, hr => exact hr
                    | j + 17, _, _ => trivial
              intro L9 f w8 hall hG hR
              rw [hGd] at hG
              obtain ⟨lk3, hS3, hl3, hl4, hM9⟩ := hG.2 (hall 16 rfl)
              have e0 := hR 0 rfl
              have e16 := hR 16 rfl
              clear hG hall hR hgr hsm hGd hsee
              replace Q1 := hM9.at Q1 nd_k1
              replace Q3 := hM9.at Q3 nd_k3
              replace hS := hS3
              replace M := M.same hM9
              clear hS3 hM9
              refine wl_bs47b (.tmp 80) (.tmp 96) Sl Sr rfl e0 e16 rfl ?_
              intro g4 w9 hk9 hq S4
              replace Q1 := Q1.mo hq
              replace Q3 := Q3.mo hq
              replace hS := hS.mo hq
              replace M := M.trans hq
              clear hk9 hq
              obtain ⟨Jg4, hJg4⟩ : ∃ X, X = [Sl, Sr].foldl jn sm0 := ⟨_, rfl⟩
              have okJg4 : Jg4.ok := by rw [hJg4]; exact fold_ok _ sm0_ok (two_ok okSl okSr)
              refine wl_call 49 [(.tmp 97)] _ [.slice (some ⟨g4, 0, none⟩) 2 2] (.agg #[.int .i64 (Jg4).r, .int .i64 (Jg4).f, .int .i64 (Jg4).k, .int .i64 (Jg4).d, .int .i64 (Jg4).e, .int .u64 (l0 (Jg4).tt), .int .u64 (l1 (Jg4).tt), .int .u64 (l2 (Jg4).tt), .int .u64 (l3 (Jg4).tt), .int .u64 (l4 (Jg4).tt), .bool (Jg4).so, .bool (Jg4).mn.b, .int .u64 (l0 (Jg4).mn.n), .int .u64 (l1 (Jg4).mn.n), .int .u64 (l2 (Jg4).mn.n), .int .u64 (l3 (Jg4).mn.n), .int .i64 (Jg4).mn.s, .bool (Jg4).mx.b, .int .u64 (l0 (Jg4).mx.n), .int .u64 (l1 (Jg4).mx.n), .int .u64 (l2 (Jg4).mx.n), .int .u64 (l3 (Jg4).mx.n), .int .i64 (Jg4).mx.s]) rfl rfl (fun _ _ => by kernel_rfl) (by have h9 := join_n [Sl, Sr] (some ⟨g4, 0, none⟩) 2 (two_ok okSl okSr) S4 (show 2 ≤ 900000000000000000 by decide); rw [← hJg4] at h9; exact h9) rfl ?_
              intro w10 hq
              replace Q1 := Q1.mo hq
              replace Q3 := Q3.mo hq
              replace hS := hS.mo hq
              replace M := M.trans hq
              clear hq
              refine wl_stx2 42 (.tmp 10) (.tmp 98) k1 0 #[.int .i64 (Jg4).r, .int .i64 (Jg4).f, .int .i64 (Jg4).k, .int .i64 (Jg4).d, .int .i64 (Jg4).e, .int .u64 (l0 (Jg4).tt), .int .u64 (l1 (Jg4).tt), .int .u64 (l2 (Jg4).tt), .int .u64 (l3 (Jg4).tt), .int .u64 (l4 (Jg4).tt), .bool (Jg4).so, .bool (Jg4).mn.b, .int .u64 (l0 (Jg4).mn.n), .int .u64 (l1 (Jg4).mn.n), .int .u64 (l2 (Jg4).mn.n), .int .u64 (l3 (Jg4).mn.n), .int .i64 (Jg4).mn.s, .bool (Jg4).mx.b, .int .u64 (l0 (Jg4).mx.n), .int .u64 (l1 (Jg4).mx.n), .int .u64 (l2 (Jg4).mx.n), .int .u64 (l3 (Jg4).mx.n), .int .i64 (Jg4).mx.s] [.int .i64 0, .int .i64 0, .int .i64 0, .int .i64 0, .int .i64 0, .int .u64 0, .int .u64 0, .int .u64 0, .int .u64 0, .int .u64 0, .bool false, .bool false, .int .u64 0, .int .u64 0, .int .u64 0, .int .u64 0, .int .i64 0, .bool false, .int .u64 0, .int .u64 0, .int .u64 0, .int .u64 0, .int .i64 0] [.int .i64 (Jg4).r, .int .i64 (Jg4).f, .int .i64 (Jg4).k, .int .i64 (Jg4).d, .int .i64 (Jg4).e, .int .u64 (l0 (Jg4).tt), .int .u64 (l1 (Jg4).tt), .int .u64 (l2 (Jg4).tt), .int .u64 (l3 (Jg4).tt), .int .u64 (l4 (Jg4).tt), .bool (Jg4).so, .bool (Jg4).mn.b, .int .u64 (l0 (Jg4).mn.n), .int .u64 (l1 (Jg4).mn.n), .int .u64 (l2 (Jg4).mn.n), .int .u64 (l3 (Jg4).mn.n), .int .i64 (Jg4).mn.s, .bool (Jg4).mx.b, .int .u64 (l0 (Jg4).mx.n), .int .u64 (l1 (Jg4).mx.n), .int .u64 (l2 (Jg4).mx.n), .int .u64 (l3 (Jg4).mx.n), .int .i64 (Jg4).mx.s] Q1 rfl rfl rfl rfl rfl zs42 rfl rfl rfl ?_
              intro w11 hT Qn
              replace Q1 := Qn
              replace Q3 := hT.other _ _ ne_k1_k3.symm Q3
              have hK := Mk.st1 hT
              replace hS := hS.kept hK (fun j e q => nd_k1 (q ▸ e)) (fun b hb q => ns_k1 b hb q)
              replace M := M.tr hK (fun j hj e => absurd e (by omega))
              clear hT hK Qn
              refine w_nil ?_
              refine xn_then ?_
              refine w_ret ?_
              exact w_ret1 _ (.agg #[.int .i64 (Jg4).r, .int .i64 (Jg4).f, .int .i64 (Jg4).k, .int .i64 (Jg4).d, .int .i64 (Jg4).e, .int .u64 (l0 (Jg4).tt), .int .u64 (l1 (Jg4).tt), .int .u64 (l2 (Jg4).tt), .int .u64 (l3 (Jg4).tt), .int .u64 (l4 (Jg4).tt), .bool (Jg4).so, .bool (Jg4).mn.b, .int .u64 (l0 (Jg4).mn.n), .int .u64 (l1 (Jg4).mn.n), .int .u64 (l2 (Jg4).mn.n), .int .u64 (l3 (Jg4).mn.n), .int .i64 (Jg4).mn.s, .bool (Jg4).mx.b, .int .u64 (l0 (Jg4).mx.n), .int .u64 (l1 (Jg4).mx.n), .int .u64 (l2 (Jg4).mx.n), .int .u64 (l3 (Jg4).mx.n), .int .i64 (Jg4).mx.s]) rfl ⟨k1, rfl, (run_row Q1 42 0 23 [.int .i64 (Jg4).r, .int .i64 (Jg4).f, .int .i64 (Jg4).k, .int .i64 (Jg4).d, .int .i64 (Jg4).e, .int .u64 (l0 (Jg4).tt), .int .u64 (l1 (Jg4).tt), .int .u64 (l2 (Jg4).tt), .int .u64 (l3 (Jg4).tt), .int .u64 (l4 (Jg4).tt), .bool (Jg4).so, .bool (Jg4).mn.b, .int .u64 (l0 (Jg4).mn.n), .int .u64 (l1 (Jg4).mn.n), .int .u64 (l2 (Jg4).mn.n), .int .u64 (l3 (Jg4).mn.n), .int .i64 (Jg4).mn.s, .bool (Jg4).mx.b, .int .u64 (l0 (Jg4).mx.n), .int .u64 (l1 (Jg4).mx.n), .int .u64 (l2 (Jg4).mx.n), .int .u64 (l3 (Jg4).mx.n), .int .i64 (Jg4).mx.s] rfl Try.underlying42 rfl zs42)⟩ ⟨by show _ = Ending.returned (smv (prt c (mb.sc.getD c 0) fa ta (l.ids ++ i :: r.ids))); rw [(show prt c (mb.sc.getD c 0) fa ta (l.ids ++ i :: r.ids) = Jg4 by rw [hJg4, hSl, hSr]; exact (prt_out hlz hokl hokr (by have := of_decide_eq_false hf0; have := of_decide_eq_false hf1; have := of_decide_eq_true hf2; have := of_decide_eq_false hf3; have := of_decide_eq_false hf4; omega)).symm)], _, hS, by have := of_decide_eq_false hf0; have := of_decide_eq_false hf1; have := of_decide_eq_true hf2; have := of_decide_eq_false hf3; have := of_decide_eq_false hf4; omega, by have := of_decide_eq_false hf0; have := of_decide_eq_false hf1; have := of_decide_eq_true hf2; have := of_decide_eq_false hf3; have := of_decide_eq_false hf4; unfold pbd at *; refine ⟨by omega, fun _ => by omega, fun _ => by omega⟩, M⟩
        | false =>
          have hf2p := of_decide_eq_false hf2
          refine w_reg ?_
          refine wl_mv (.tmp 3) (.int .i64 (fa)) (fun _ => rfl) rfl rfl ?_
          refine wl_bin (fun x y => do eqGuard .leq 3 (.tmp 32) (.const (.int .i64 (0))) x y; binOp .leq 3 x y) (.tmp 32) (.const (.int .i64 (0))) (.int .i64 (fa)) (.int .i64 (0)) (.bool false) (fun _ => rfl) rfl rfl (leI hf2 _ _ _) rfl ?_
          refine wl_mv (.tmp 33) (.bool false) (fun _ => rfl) rfl rfl ?_
          refine wl_skip rfl ?_
          refine wl_skip rfl ?_
          refine wl_skip rfl ?_
          refine wl_skip rfl ?_
          refine wl_skip rfl ?_
          refine wl_skip rfl ?_
          refine wl_pick (.tmp 34) (.tmp 40) (.const (.bool false)) false (.bool false) (fun _ => rfl) rfl rfl rfl ?_
          refine w_nil ?_
          refine xn_then ?_
          refine w_condF rfl ?_
          refine w_skip ?_
          refine xn_then ?_
          refine w_seq ?_
          refine w_reg ?_
          refine wl_mv (.tmp 0) (pt t 0) (fun _ => rfl) rfl rfl ?_
          refine wl_mv (.tmp 1) (pt k 0) (fun _ => rfl) rfl rfl ?_
          refine wl_nc (.tmp 50) k 0 rfl rfl rfl ?_
          refine wl_un (fun v => Instr.fieldAt 93 v 2) (.tmp 51) (pt k 0) (pt k 3) (fun _ => rfl) rfl (by kernel_rfl) rfl ?_
          refine wl_bin (fun x y => Instr.indexAt 91 x y) (.tmp 52) (.const (.int .i64 (0))) (pt k 3) (.int .i64 (0)) (pt k 3) (fun _ => rfl) rfl rfl (by kernel_rfl) rfl ?_
          refine wl_load 65 (.tmp 53) (pt k 3) (pp l.p) rfl rfl (run_one (hS.rc k _ hk) 65 3 rfl Try.underlying65 rfl) rfl ?_
          refine wl_mv (.tmp 2) (.int .i64 ((c : Nat) : Int)) (fun _ => rfl) rfl rfl ?_
          refine wl_mv (.tmp 3) (.int .i64 (fa)) (fun _ => rfl) rfl rfl ?_
          refine wl_mv (.tmp 4) (.int .i64 (ta)) (fun _ => rfl) rfl rfl ?_
          obtain ⟨Sl, hSl⟩ : ∃ X, X = prt c (mb.sc.getD c 0) fa ta l.ids := ⟨_, rfl⟩
          have okSl : Sl.ok := by rw [hSl]; exact prt_ok hokl
          refine wl_callg 33 [(.tmp 49), (.tmp 54), (.tmp 55), (.tmp 56), (.tmp 57)] _ [pt t 0, pp l.p, .int .i64 ((c : Nat) : Int), .int .i64 (fa), .int .i64 (ta)] (.agg #[.int .i64 (Sl).r, .int .i64 (Sl).f, .int .i64 (Sl).k, .int .i64 (Sl).d, .int .i64 (Sl).e, .int .u64 (l0 (Sl).tt), .int .u64 (l1 (Sl).tt), .int .u64 (l2 (Sl).tt), .int .u64 (l3 (Sl).tt), .int .u64 (l4 (Sl).tt), .bool (Sl).so, .bool (Sl).mn.b, .int .u64 (l0 (Sl).mn.n), .int .u64 (l1 (Sl).mn.n), .int .u64 (l2 (Sl).mn.n), .int .u64 (l3 (Sl).mn.n), .int .i64 (Sl).mn.s, .bool (Sl).mx.b, .int .u64 (l0 (Sl).mx.n), .int .u64 (l1 (Sl).mx.n), .int .u64 (l2 (Sl).mx.n), .int .u64 (l3 (Sl).mx.n), .int .i64 (Sl).mx.s]) rfl rfl (fun _ _ => by kernel_rfl) (by have h9 := part_n l (fa := fa) (ta := ta) hc hS hr.2.1 hok.2.1 (by omega) ⟨by omega, by omega⟩ ⟨by omega, by omega⟩ (by omega) (by omega); rw [← hSl] at h9; exact h9) rfl ?_
          intro w4 hF
          obtain ⟨lk2, hS2, hl1, hl2, hM2⟩ := hF
          have hl2b := hl2.1
          replace Q1 := hM2.at Q1 nd_k1
          replace hS := hS2
          replace M := M.same hM2
          clear hS2 hM2
          refine wl_alloc 42 #[.int .i64 0, .int .i64 0, .int .i64 0, .int .i64 0, .int .i64 0, .int .u64 0, .int .u64 0, .int .u64 0, .int .u64 0, .int .u64 0, .bool false, .bool false, .int .u64 0, .int .u64 0, .int .u64 0, .int .u64 0, .int .i64 0, .bool false, .int .u64 0, .int .u64 0, .int .u64 0, .int .u64 0, .int .i64 0] rfl (fun _ => by kernel_rfl) rfl ?_
          intro k3 w5 hk9 hz hq Q3
          have hMs := M.size
          have N_k3 : w.heap.size ≤ k3 := by omega
          have nd_k3 : ¬ D k3 := fun e => by have := hDlt _ e; omega
          have ns_k3 : ∀ b, ob mb.h = some b → b ≠ k3 := fun b hb => by have := hslt b hb; omega
          have ne_k1_k3 : k1 ≠ k3 := by have := Q1.lt; omega
          replace Q1 := Q1.mo hq
          replace hS := hS.mo hq
          replace M := M.trans hq
          clear hk9 hz hq hMs
          refine wl_stx2 42 (.tmp 11) (.tmp 58) k3 0 #[.int .i64 (Sl).r, .int .i64 (Sl).f, .int .i64 (Sl).k, .int .i64 (Sl).d, .int .i64 (Sl).e, .int .u64 (l0 (Sl).tt), .int .u64 (l1 (Sl).tt), .int .u64 (l2 (Sl).tt), .int .u64 (l3 (Sl).tt), .int .u64 (l4 (Sl).tt), .bool (Sl).so, .bool (Sl).mn.b, .int .u64 (l0 (Sl).mn.n), .int .u64 (l1 (Sl).mn.n), .int .u64 (l2 (Sl).mn.n), .int .u64 (l3 (Sl).mn.n), .int .i64 (Sl).mn.s, .bool (Sl).mx.b, .int .u64 (l0 (Sl).mx.n), .int .u64 (l1 (Sl).mx.n), .int .u64 (l2 (Sl).mx.n), .int .u64 (l3 (Sl).mx.n), .int .i64 (Sl).mx.s] [.int .i64 0, .int .i64 0, .int .i64 0, .int .i64 0, .int .i64 0, .int .u64 0, .int .u64 0, .int .u64 0, .int .u64 0, .int .u64 0, .bool false, .bool false, .int .u64 0, .int .u64 0, .int .u64 0, .int .u64 0, .int .i64 0, .bool false, .int .u64 0, .int .u64 0, .int .u64 0, .int .u64 0, .int .i64 0] [.int .i64 (Sl).r, .int .i64 (Sl).f, .int .i64 (Sl).k, .int .i64 (Sl).d, .int .i64 (Sl).e, .int .u64 (l0 (Sl).tt), .int .u64 (l1 (Sl).tt), .int .u64 (l2 (Sl).tt), .int .u64 (l3 (Sl).tt), .int .u64 (l4 (Sl).tt), .bool (Sl).so, .bool (Sl).mn.b, .int .u64 (l0 (Sl).mn.n), .int .u64 (l1 (Sl).mn.n), .int .u64 (l2 (Sl).mn.n), .int .u64 (l3 (Sl).mn.n), .int .i64 (Sl).mn.s, .bool (Sl).mx.b, .int .u64 (l0 (Sl).mx.n), .int .u64 (l1 (Sl).mx.n), .int .u64 (l2 (Sl).mx.n), .int .u64 (l3 (Sl).mx.n), .int .i64 (Sl).mx.s] Q3 rfl rfl rfl rfl rfl zs42 rfl rfl rfl ?_
          intro w6 hT Qn
          replace Q3 := Qn
          replace Q1 := hT.other _ _ ne_k1_k3 Q1
          have hK := Mk.st1 hT
          replace hS := hS.kept hK (fun j e q => nd_k3 (q ▸ e)) (fun b hb q => ns_k3 b hb q)
          replace M := M.tr hK (fun j hj e => absurd e (by omega))
          clear hT hK Qn
          refine w_nil ?_
          refine xn_then ?_
          refine w_seq ?_
          refine w_reg ?_
          refine wl_mv (.tmp 1) (pt k 0) (fun _ => rfl) rfl rfl ?_
          refine wl_nc (.tmp 59) k 0 rfl rfl rfl ?_
          refine wl_un (fun v => Instr.fieldAt 93 v 2) (.tmp 60) (pt k 0) (pt k 3) (fun _ => rfl) rfl (by kernel_rfl) rfl ?_
          refine wl_bin (fun x y => Instr.indexAt 91 x y) (.tmp 61) (.const (.int .i64 (0))) (pt k 3) (.int .i64 (0)) (pt k 3) (fun _ => rfl) rfl rfl (by kernel_rfl) rfl ?_
          refine wl_load 65 (.tmp 62) (pt k 3) (pp l.p) rfl rfl (run_one (hS.rc k _ hk) 65 3 rfl Try.underlying65 rfl) rfl ?_
          refine wl_call 46 [(.tmp 63)] _ [pp l.p] (.int .i64 (l.sz)) rfl rfl (fun _ _ => by kernel_rfl) (size_o hS (szo_of hr.2.1 hok.2.1)) rfl ?_
          intro w7 hq
          replace Q1 := Q1.mo hq
          replace Q3 := Q3.mo hq
          replace hS := hS.mo hq
          replace M := M.trans hq
          clear hq
          refine wl_mv (.tmp 64) (.int .i64 (l.sz)) (fun _ => rfl) rfl rfl ?_
          refine w_nil ?_
          refine xn_then ?_
          refine w_seq ?_
          refine w_seq ?_
          cases hf3 : decide (fa ≤ l.sz) with
          | true =>
            have hf3p := of_decide_eq_true hf3
            cases hf4 : decide (l.sz < ta) with
            | true =>
              have hf4p := of_decide_eq_true hf4
              refine w_reg ?_
              refine wl_mv (.tmp 3) (.int .i64 (fa)) (fun _ => rfl) rfl rfl ?_
              refine wl_mv (.tmp 12) (.int .i64 (l.sz)) (fun _ => rfl) rfl rfl ?_
              refine wl_bin (fun x y => do eqGuard .leq 3 (.tmp 65) (.tmp 66) x y; binOp .leq 3 x y) (.tmp 65) (.tmp 66) (.int .i64 (fa)) (.int .i64 (l.sz)) (.bool true) (fun _ => rfl) rfl rfl (leI hf3 _ _ _) rfl ?_
              refine wl_mv (.tmp 67) (.bool true) (fun _ => rfl) rfl rfl ?_
              refine wl_mv (.tmp 12) (.int .i64 (l.sz)) (fun _ => rfl) rfl rfl ?_
              refine wl_mv (.tmp 4) (.int .i64 (ta)) (fun _ => rfl) rfl rfl ?_
              refine wl_bin (fun x y => do eqGuard .lss 3 (.tmp 69) (.tmp 70) x y; binOp .lss 3 x y) (.tmp 69) (.tmp 70) (.int .i64 (l.sz)) (.int .i64 (ta)) (.bool true) (fun _ => rfl) rfl rfl (ltI hf4 _ _ _) rfl ?_
              refine wl_pick (.tmp 68) (.tmp 71) (.const (.bool false)) true (.bool true) (fun _ => rfl) rfl rfl rfl ?_
              refine w_nil ?_
              refine xn_then ?_
              refine w_condT rfl ?_
              refine w_any 5 [.inl (.agg #[.int .i64 (Sl).r, .int .i64 (Sl).f, .int .i64 (Sl).k, .int .i64 (Sl).d, .int .i64 (Sl).e, .int .u64 (l0 (Sl).tt), .int .u64 (l1 (Sl).tt), .int .u64 (l2 (Sl).tt), .int .u64 (l3 (Sl).tt), .int .u64 (l4 (Sl).tt), .bool (Sl).so, .bool (Sl).mn.b, .int .u64 (l0 (Sl).mn.n), .int .u64 (l1 (Sl).mn.n), .int .u64 (l2 (Sl).mn.n), .int .u64 (l3 (Sl).mn.n), .int .i64 (Sl).mn.s, .bool (Sl).mx.b, .int .u64 (l0 (Sl).mx.n), .int .u64 (l1 (Sl).mx.n), .int .u64 (l2 (Sl).mx.n), .int .u64 (l3 (Sl).mx.n), .int .i64 (Sl).mx.s]), .inl (pt t 0), .inl (pt k 0), .inl (.int .i64 ((c : Nat) : Int)), .inl (.agg #[.int .i64 (So).r, .int .i64 (So).f, .int .i64 (So).k, .int .i64 (So).d, .int .i64 (So).e, .int .u64 (l0 (So).tt), .int .u64 (l1 (So).tt), .int .u64 (l2 (So).tt), .int .u64 (l3 (So).tt), .int .u64 (l4 (So).tt), .bool (So).so, .bool (So).mn.b, .int .u64 (l0 (So).mn.n), .int .u64 (l1 (So).mn.n), .int .u64 (l2 (So).mn.n), .int .u64 (l3 (So).mn.n), .int .i64 (So).mn.s, .bool (So).mx.b, .int .u64 (l0 (So).mx.n), .int .u64 (l1 (So).mx.n), .int .u64 (l2 (So).mx.n), .int .u64 (l3 (So).mx.n), .int .i64 (So).mx.s])] [] (by kernel_rfl) (by kernel_rfl) (by kernel_rfl) (by kernel_rfl) rfl (by kernel_rfl) (by kernel_rfl) late_nil ?_ ?_ ?_
              · exact Ds.none rfl
              · refine ea_cons ?_ (ea_cons ?_ (ea_cons ?_ (ea_cons ?_ (ea_cons ?_ (ea_nil)))))
                · exact og_eq (.agg #[.int .i64 (Sl).r, .int .i64 (Sl).f, .int .i64 (Sl).k, .int .i64 (Sl).d, .int .i64 (Sl).e, .int .u64 (l0 (Sl).tt), .int .u64 (l1 (Sl).tt), .int .u64 (l2 (Sl).tt), .int .u64 (l3 (Sl).tt), .int .u64 (l4 (Sl).tt), .bool (Sl).so, .bool (Sl).mn.b, .int .u64 (l0 (Sl).mn.n), .int .u64 (l1 (Sl).mn.n), .int .u64 (l2 (Sl).mn.n), .int .u64 (l3 (Sl).mn.n), .int .i64 (Sl).mn.s, .bool (Sl).mx.b, .int .u64 (l0 (Sl).mx.n), .int .u64 (l1 (Sl).mx.n), .int .u64 (l2 (Sl).mx.n), .int .u64 (l3 (Sl).mx.n), .int .i64 (Sl).mx.s]) rfl (fun f wf hq hd K hK => have Q3 := Q3.mo hq; go_run rfl (wo_load 42 (.tmp 11) (pt k3 0) (.agg #[.int .i64 (Sl).r, .int .i64 (Sl).f, .int .i64 (Sl).k, .int .i64 (Sl).d, .int .i64 (Sl).e, .int .u64 (l0 (Sl).tt), .int .u64 (l1 (Sl).tt), .int .u64 (l2 (Sl).tt), .int .u64 (l3 (Sl).tt), .int .u64 (l4 (Sl).tt), .bool (Sl).so, .bool (Sl).mn.b, .int .u64 (l0 (Sl).mn.n), .int .u64 (l1 (Sl).mn.n), .int .u64 (l2 (Sl).mn.n), .int .u64 (l3 (Sl).mn.n), .int .i64 (Sl).mn.s, .bool (Sl).mx.b, .int .u64 (l0 (Sl).mx.n), .int .u64 (l1 (Sl).mx.n), .int .u64 (l2 (Sl).mx.n), .int .u64 (l3 (Sl).mx.n), .int .i64 (Sl).mx.s]) rfl rfl (run_row Q3 42 0 23 [.int .i64 (Sl).r, .int .i64 (Sl).f, .int .i64 (Sl).k, .int .i64 (Sl).d, .int .i64 (Sl).e, .int .u64 (l0 (Sl).tt), .int .u64 (l1 (Sl).tt), .int .u64 (l2 (Sl).tt), .int .u64 (l3 (Sl).tt), .int .u64 (l4 (Sl).tt), .bool (Sl).so, .bool (Sl).mn.b, .int .u64 (l0 (Sl).mn.n), .int .u64 (l1 (Sl).mn.n), .int .u64 (l2 (Sl).mn.n), .int .u64 (l3 (Sl).mn.n), .int .i64 (Sl).mn.s, .bool (Sl).mx.b, .int .u64 (l0 (Sl).mx.n), .int .u64 (l1 (Sl).mx.n), .int .u64 (l2 (Sl).mx.n), .int .u64 (l3 (Sl).mx.n), .int .i64 (Sl).mx.s] rfl Try.underlying42 rfl zs42) (hK _ (Mo.refl _))))
                · exact og_eq (pt t 0) rfl (fun f wf hq hd K hK => go_run rfl (wo_mv (.tmp 0) (pt t 0) (fun _ => rfl) rfl (hK _ (Mo.refl _))))
                · exact og_eq (pt k 0) rfl (fun f wf hq hd K hK => go_run rfl (wo_mv (.tmp 1) (pt k 0) (fun _ => rfl) rfl (hK _ (Mo.refl _))))
                · exact og_eq (.int .i64 ((c : Nat) : Int)) rfl (fun f wf hq hd K hK => go_run rfl (wo_mv (.tmp 2) (.int .i64 ((c : Nat) : Int)) (fun _ => rfl) rfl (hK _ (Mo.refl _))))
                · exact og_eq (.agg #[.int .i64 (So).r, .int .i64 (So).f, .int .i64 (So).k, .int .i64 (So).d, .int .i64 (So).e, .int .u64 (l0 (So).tt), .int .u64 (l1 (So).tt), .int .u64 (l2 (So).tt), .int .u64 (l3 (So).tt), .int .u64 (l4 (So).tt), .bool (So).so, .bool (So).mn.b, .int .u64 (l0 (So).mn.n), .int .u64 (l1 (So).mn.n), .int .u64 (l2 (So).mn.n), .int .u64 (l3 (So).mn.n), .int .i64 (So).mn.s, .bool (So).mx.b, .int .u64 (l0 (So).mx.n), .int .u64 (l1 (So).mx.n), .int .u64 (l2 (So).mx.n), .int .u64 (l3 (So).mx.n), .int .i64 (So).mx.s]) rfl (fun f wf hq hd K hK => have hS := hS.mo hq; go_run rfl (wo_call 50 [(.tmp 74), (.tmp 75), (.tmp 76)] _ [pt t 0, pt k 0, .int .i64 ((c : Nat) : Int)] (.agg #[.int .i64 (So).r, .int .i64 (So).f, .int .i64 (So).k, .int .i64 (So).d, .int .i64 (So).e, .int .u64 (l0 (So).tt), .int .u64 (l1 (So).tt), .int .u64 (l2 (So).tt), .int .u64 (l3 (So).tt), .int .u64 (l4 (So).tt), .bool (So).so, .bool (So).mn.b, .int .u64 (l0 (So).mn.n), .int .u64 (l1 (So).mn.n), .int .u64 (l2 (So).mn.n), .int .u64 (l3 (So).mn.n), .int .i64 (So).mn.s, .bool (So).mx.b, .int .u64 (l0 (So).mx.n), .int .u64 (l1 (So).mx.n), .int .u64 (l2 (So).mx.n), .int .u64 (l3 (So).mx.n), .int .i64 (So).mx.s]) rfl (li3 (hd 1 rfl) (hd 2 rfl) (hd 3 rfl)) (fun _ _ => by kernel_rfl) (by have h9 := own_n hS hk hcv hsc; rw [← hSo] at h9; exact h9) hK))
              intro kf8 w8 hq _ _
              replace Q1 := Q1.mo hq
              replace Q3 := Q3.mo hq
              replace hS := hS.mo hq
              replace M := M.trans hq
              clear hq
              refine wl_bs47b (.tmp 73) (.tmp 77) Sl So rfl rfl rfl rfl ?_
              intro g4 w9 hk9 hq S4
              replace Q1 := Q1.mo hq
              replace Q3 := Q3.mo hq
              replace hS := hS.mo hq
              replace M := M.trans hq
              clear hk9 hq
              obtain ⟨Jg4, hJg4⟩ : ∃ X, X = [Sl, So].foldl jn sm0 := ⟨_, rfl⟩
              have okJg4 : Jg4.ok := by rw [hJg4]; exact fold_ok _ sm0_ok (two_ok okSl okSo)
              refine wl_call 49 [(.tmp 78)] _ [.slice (some ⟨g4, 0, none⟩) 2 2] (.agg #[.int .i64 (Jg4).r, .int .i64 (Jg4).f, .int .i64 (Jg4).k, .int .i64 (Jg4).d, .int .i64 (Jg4).e, .int .u64 (l0 (Jg4).tt), .int .u64 (l1 (Jg4).tt), .int .u64 (l2 (Jg4).tt), .int .u64 (l3 (Jg4).tt), .int .u64 (l4 (Jg4).tt), .bool (Jg4).so, .bool (Jg4).mn.b, .int .u64 (l0 (Jg4).mn.n), .int .u64 (l1 (Jg4).mn.n), .int .u64 (l2 (Jg4).mn.n), .int .u64 (l3 (Jg4).mn.n), .int .i64 (Jg4).mn.s, .bool (Jg4).mx.b, .int .u64 (l0 (Jg4).mx.n), .int .u64 (l1 (Jg4).mx.n), .int .u64 (l2 (Jg4).mx.n), .int .u64 (l3 (Jg4).mx.n), .int .i64 (Jg4).mx.s]) rfl rfl (fun _ _ => by kernel_rfl) (by have h9 := join_n [Sl, So] (some ⟨g4, 0, none⟩) 2 (two_ok okSl okSo) S4 (show 2 ≤ 900000000000000000 by decide); rw [← hJg4] at h9; exact h9) rfl ?_
              intro w10 hq
              replace Q1 := Q1.mo hq
              replace Q3 := Q3.mo hq
              replace hS := hS.mo hq
              replace M := M.trans hq
              clear hq
              refine wl_stx2 42 (.tmp 11) (.tmp 79) k3 0 #[.int .i64 (Jg4).r, .int .i64 (Jg4).f, .int .i64 (Jg4).k, .int .i64 (Jg4).d, .int .i64 (Jg4).e, .int .u64 (l0 (Jg4).tt), .int .u64 (l1 (Jg4).tt), .int .u64 (l2 (Jg4).tt), .int .u64 (l3 (Jg4).tt), .int .u64 (l4 (Jg4).tt), .bool (Jg4).so, .bool (Jg4).mn.b, .int .u64 (l0 (Jg4).mn.n), .int .u64 (l1 (Jg4).mn.n), .int .u64 (l2 (Jg4).mn.n), .int .u64 (l3 (Jg4).mn.n), .int .i64 (Jg4).mn.s, .bool (Jg4).mx.b, .int .u64 (l0 (Jg4).mx.n), .int .u64 (l1 (Jg4).mx.n), .int .u64 (l2 (Jg4).mx.n), .int .u64 (l3 (Jg4).mx.n), .int .i64 (Jg4).mx.s] [.int .i64 (Sl).r, .int .i64 (Sl).f, .int .i64 (Sl).k, .int .i64 (Sl).d, .int .i64 (Sl).e, .int .u64 (l0 (Sl).tt), .int .u64 (l1 (Sl).tt), .int .u64 (l2 (Sl).tt), .int .u64 (l3 (Sl).tt), .int .u64 (l4 (Sl).tt), .bool (Sl).so, .bool (Sl).mn.b, .int .u64 (l0 (Sl).mn.n), .int .u64 (l1 (Sl).mn.n), .int .u64 (l2 (Sl).mn.n), .int .u64 (l3 (Sl).mn.n), .int .i64 (Sl).mn.s, .bool (Sl).mx.b, .int .u64 (l0 (Sl).mx.n), .int .u64 (l1 (Sl).mx.n), .int .u64 (l2 (Sl).mx.n), .int .u64 (l3 (Sl).mx.n), .int .i64 (Sl).mx.s] [.int .i64 (Jg4).r, .int .i64 (Jg4).f, .int .i64 (Jg4).k, .int .i64 (Jg4).d, .int .i64 (Jg4).e, .int .u64 (l0 (Jg4).tt), .int .u64 (l1 (Jg4).tt), .int .u64 (l2 (Jg4).tt), .int .u64 (l3 (Jg4).tt), .int .u64 (l4 (Jg4).tt), .bool (Jg4).so, .bool (Jg4).mn.b, .int .u64 (l0 (Jg4).mn.n), .int .u64 (l1 (Jg4).mn.n), .int .u64 (l2 (Jg4).mn.n), .int .u64 (l3 (Jg4).mn.n), .int .i64 (Jg4).mn.s, .bool (Jg4).mx.b, .int .u64 (l0 (Jg4).mx.n), .int .u64 (l1 (Jg4).mx.n), .int .u64 (l2 (Jg4).mx.n), .int .u64 (l3 (Jg4).mx.n), .int .i64 (Jg4).mx.s] Q3 rfl rfl rfl rfl rfl zs42 rfl rfl rfl ?_
              intro w11 hT Qn
              replace Q3 := Qn
              replace Q1 := hT.other _ _ ne_k1_k3 Q1
              have hK := Mk.st1 hT
              replace hS := hS.kept hK (fun j e q => nd_k3 (q ▸ e)) (fun b hb q => ns_k3 b hb q)
              replace M := M.tr hK (fun j hj e => absurd e (by omega))
              clear hT hK Qn
              refine w_nil ?_
              refine xn_then ?_
              refine w_seq ?_
              obtain ⟨Sr, hSr⟩ : ∃ X, X = prt c (mb.sc.getD c 0) (fa - l.sz - 1) (ta - l.sz - 1) r.ids := ⟨_, rfl⟩
              have okSr : Sr.ok := by rw [hSr]; exact prt_ok hokr
              have hsm : Smos [vq (.agg #[.int .i64 (Jg4).r, .int .i64 (Jg4).f, .int .i64 (Jg4).k, .int .i64 (Jg4).d, .int .i64 (Jg4).e, .int .u64 (l0 (Jg4).tt), .int .u64 (l1 (Jg4).tt), .int .u64 (l2 (Jg4).tt), .int .u64 (l3 (Jg4).tt), .int .u64 (l4 (Jg4).tt), .bool (Jg4).so, .bool (Jg4).mn.b, .int .u64 (l0 (Jg4).mn.n), .int .u64 (l1 (Jg4).mn.n), .int .u64 (l2 (Jg4).mn.n), .int .u64 (l3 (Jg4).mn.n), .int .i64 (Jg4).mn.s, .bool (Jg4).mx.b, .int .u64 (l0 (Jg4).mx.n), .int .u64 (l1 (Jg4).mx.n), .int .u64 (l2 (Jg4).mx.n), .int .u64 (l3 (Jg4).mx.n), .int .i64 (Jg4).mx.s]), vq (pt t 0), vq (pt k 0), vq (pt k 0), vq (pt k 3), vq (pt k 4), vq (pp r.p), vq (.int .i64 ((c : Nat) : Int)), vq (.int .i64 (fa)), vq (.int .i64 (l.sz)), vq (.int .i64 (fa - l.sz)), vq (.int .i64 (fa - l.sz - 1)), vq (.int .i64 (ta)), vq (.int .i64 (l.sz)), vq (.int .i64 (ta - l.sz)), vq (.int .i64 (ta - l.sz - 1)), vq (.agg #[.int .i64 (Sr).r, .int .i64 (Sr).f, .int .i64 (Sr).k, .int .i64 (Sr).d, .int .i64 (Sr).e, .int .u64 (l0 (Sr).tt), .int .u64 (l1 (Sr).tt), .int .u64 (l2 (Sr).tt), .int .u64 (l3 (Sr).tt), .int .u64 (l4 (Sr).tt), .bool (Sr).so, .bool (Sr).mn.b, .int .u64 (l0 (Sr).mn.n), .int .u64 (l1 (Sr).mn.n), .int .u64 (l2 (Sr).mn.n), .int .u64 (l3 (Sr).mn.n), .int .i64 (Sr).mn.s, .bool (Sr).mx.b, .int .u64 (l0 (Sr).mx.n), .int .u64 (l1 (Sr).mx.n), .int .u64 (l2 (Sr).mx.n), .int .u64 (l3 (Sr).mx.n), .int .i64 (Sr).mx.s])] := smos_cons (smo_vq _) (smos_cons (smo_vq _) (smos_cons (smo_vq _) (smos_cons (smo_vq _) (smos_cons (smo_vq _) (smos_cons (smo_vq _) (smos_cons (smo_vq _) (smos_cons (smo_vq _) (smos_cons (smo_vq _) (smos_cons (smo_vq _) (smos_cons (smo_vq _) (smos_cons (smo_vq _) (smos_cons (smo_vq _) (smos_cons (smo_vq _) (smos_cons (smo_vq _) (smos_cons (smo_vq _) (smos_cons (smo_vq _) (smos_nil)))))))))))))))))
              obtain ⟨G, hGd⟩ : ∃ G, G = (fun (L9 : Nat → Bool) (f9 : Nat → Value) (w9 : World) => (L9 16 = false → Mo w11 w9) ∧ (L9 16 = true → ∃ lk9, HS D w9 t mb R root lk9 ∧ (lk2) ≤ lk9 ∧ pbd (fa - l.sz - 1) (ta - l.sz - 1) r.sz r.ht (lk2) lk9 ∧ Mk D w11 w9)) := ⟨_, rfl⟩
              have hgr : ∀ (i : Nat) (v : Value), i ≠ 16 → ∀ (L9 : Nat → Bool) (f9 : Nat → Value) (a b : World), G L9 f9 a → L9 i = false → Mo a b → G (updB L9 i) (upd f9 i v) b := by
                intro i v h5 L9 f9 a b h _ m
                rw [hGd] at h ⊢
                simp only [updB_ne (Ne.symm h5)]
                exact ⟨fun x => (h.1 x).trans m, fun x => (by obtain ⟨y, q1, q2, q3, q4⟩ := h.2 x; exact ⟨y, q1.mo m, q2, q3, q4.trans m⟩)⟩
              have hsee : ∀ (L9 : Nat → Bool) (f9 : Nat → Value) (a : World), G L9 f9 a → (∃ lk9, HS D a t mb R root lk9) ∧ At a k3 [.int .i64 (Jg4).r, .int .i64 (Jg4).f, .int .i64 (Jg4).k, .int .i64 (Jg4).d, .int .i64 (Jg4).e, .int .u64 (l0 (Jg4).tt), .int .u64 (l1 (Jg4).tt), .int .u64 (l2 (Jg4).tt), .int .u64 (l3 (Jg4).tt), .int .u64 (l4 (Jg4).tt), .bool (Jg4).so, .bool (Jg4).mn.b, .int .u64 (l0 (Jg4).mn.n), .int .u64 (l1 (Jg4).mn.n), .int .u64 (l2 (Jg4).mn.n), .int .u64 (l3 (Jg4).mn.n), .int .i64 (Jg4).mn.s, .bool (Jg4).mx.b, .int .u64 (l0 (Jg4).mx.n), .int .u64 (l1 (Jg4).mx.n), .int .u64 (l2 (Jg4).mx.n), .int .u64 (l3 (Jg4).mx.n), .int .i64 (Jg4).mx.s] := by
                intro L9 f9 a h
                rw [hGd] at h
                cases e9 : L9 16 with
                | false => exact ⟨⟨_, hS.mo (h.1 e9)⟩, Q3.mo (h.1 e9)⟩
                | true => obtain ⟨y, q1, q2, q3, q4⟩ := h.2 e9; exact ⟨⟨y, q1⟩, q4.at Q3 nd_k3⟩
              refine w_ogl 17 G [vq (.agg #[.int .i64 (Jg4).r, .int .i64 (Jg4).f, .int .i64 (Jg4).k, .int .i64 (Jg4).d, .int .i64 (Jg4).e, .int .u64 (l0 (Jg4).tt), .int .u64 (l1 (Jg4).tt), .int .u64 (l2 (Jg4).tt), .int .u64 (l3 (Jg4).tt), .int .u64 (l4 (Jg4).tt), .bool (Jg4).so, .bool (Jg4).mn.b, .int .u64 (l0 (Jg4).mn.n), .int .u64 (l1 (Jg4).mn.n), .int .u64 (l2 (Jg4).mn.n), .int .u64 (l3 (Jg4).mn.n), .int .i64 (Jg4).mn.s, .bool (Jg4).mx.b, .int .u64 (l0 (Jg4).mx.n), .int .u64 (l1 (Jg4).mx.n), .int .u64 (l2 (Jg4).mx.n), .int .u64 (l3 (Jg4).mx.n), .int .i64 (Jg4).mx.s]), vq (pt t 0), vq (pt k 0), vq (pt k 0), vq (pt k 3), vq (pt k 4), vq (pp r.p), vq (.int .i64 ((c : Nat) : Int)), vq (.int .i64 (fa)), vq (.int .i64 (l.sz)), vq (.int .i64 (fa - l.sz)), vq (.int .i64 (fa - l.sz - 1)), vq (.int .i64 (ta)), vq (.int .i64 (l.sz)), vq (.int .i64 (ta - l.sz)), vq (.int .i64 (ta - l.sz - 1)), vq (.agg #[.int .i64 (Sr).r, .int .i64 (Sr).f, .int .i64 (Sr).k, .int .i64 (Sr).d, .int .i64 (Sr).e, .int .u64 (l0 (Sr).tt), .int .u64 (l1 (Sr).tt), .int .u64 (l2 (Sr).tt), .int .u64 (l3 (Sr).tt), .int .u64 (l4 (Sr).tt), .bool (Sr).so, .bool (Sr).mn.b, .int .u64 (l0 (Sr).mn.n), .int .u64 (l1 (Sr).mn.n), .int .u64 (l2 (Sr).mn.n), .int .u64 (l3 (Sr).mn.n), .int .i64 (Sr).mn.s, .bool (Sr).mx.b, .int .u64 (l0 (Sr).mx.n), .int .u64 (l1 (Sr).mx.n), .int .u64 (l2 (Sr).mx.n), .int .u64 (l3 (Sr).mx.n), .int .i64 (Sr).mx.s])] (by kernel_rfl) (by kernel_rfl) (by kernel_rfl) (by kernel_rfl) rfl (fun f => by rw [hGd]; exact ⟨fun _ => (Mo.refl _).drew, (fun e => by cases e)⟩) ?_ ?_
              · refine ea_cons ?_ (ea_cons ?_ (ea_cons ?_ (ea_cons ?_ (ea_cons ?_ (ea_cons ?_ (ea_cons ?_ (ea_cons ?_ (ea_cons ?_ (ea_cons ?_ (ea_cons ?_ (ea_cons ?_ (ea_cons ?_ (ea_cons ?_ (ea_cons ?_ (ea_cons ?_ (ea_cons ?_ (ea_nil)))))))))))))))))
                · exact ol_eq (.agg #[.int .i64 (Jg4).r, .int .i64 (Jg4).f, .int .i64 (Jg4).k, .int .i64 (Jg4).d, .int .i64 (Jg4).e, .int .u64 (l0 (Jg4).tt), .int .u64 (l1 (Jg4).tt), .int .u64 (l2 (Jg4).tt), .int .u64 (l3 (Jg4).tt), .int .u64 (l4 (Jg4).tt), .bool (Jg4).so, .bool (Jg4).mn.b, .int .u64 (l0 (Jg4).mn.n), .int .u64 (l1 (Jg4).mn.n), .int .u64 (l2 (Jg4).mn.n), .int .u64 (l3 (Jg4).mn.n), .int .i64 (Jg4).mn.s, .bool (Jg4).mx.b, .int .u64 (l0 (Jg4).mx.n), .int .u64 (l1 (Jg4).mx.n), .int .u64 (l2 (Jg4).mx.n), .int .u64 (l3 (Jg4).mx.n), .int .i64 (Jg4).mx.s]) rfl (hgr 0 _ (by decide)) hsm (fun L9 f wf hG hd K hK => have ⟨⟨_, hS⟩, Q3⟩ := hsee L9 f wf hG; go_run rfl (wo_load 42 (.tmp 11) (pt k3 0) (.agg #[.int .i64 (Jg4).r, .int .i64 (Jg4).f, .int .i64 (Jg4).k, .int .i64 (Jg4).d, .int .i64 (Jg4).e, .int .u64 (l0 (Jg4).tt), .int .u64 (l1 (Jg4).tt), .int .u64 (l2 (Jg4).tt), .int .u64 (l3 (Jg4).tt), .int .u64 (l4 (Jg4).tt), .bool (Jg4).so, .bool (Jg4).mn.b, .int .u64 (l0 (Jg4).mn.n), .int .u64 (l1 (Jg4).mn.n), .int .u64 (l2 (Jg4).mn.n), .int .u64 (l3 (Jg4).mn.n), .int .i64 (Jg4).mn.s, .bool (Jg4).mx.b, .int .u64 (l0 (Jg4).mx.n), .int .u64 (l1 (Jg4).mx.n), .int .u64 (l2 (Jg4).mx.n), .int .u64 (l3 (Jg4).mx.n), .int .i64 (Jg4).mx.s]) rfl rfl (run_row Q3 42 0 23 [.int .i64 (Jg4).r, .int .i64 (Jg4).f, .int .i64 (Jg4).k, .int .i64 (Jg4).d, .int .i64 (Jg4).e, .int .u64 (l0 (Jg4).tt), .int .u64 (l1 (Jg4).tt), .int .u64 (l2 (Jg4).tt), .int .u64 (l3 (Jg4).tt), .int .u64 (l4 (Jg4).tt), .bool (Jg4).so, .bool (Jg4).mn.b, .int .u64 (l0 (Jg4).mn.n), .int .u64 (l1 (Jg4).mn.n), .int .u64 (l2 (Jg4).mn.n), .int .u64 (l3 (Jg4).mn.n), .int .i64 (Jg4).mn.s, .bool (Jg4).mx.b, .int .u64 (l0 (Jg4).mx.n), .int .u64 (l1 (Jg4).mx.n), .int .u64 (l2 (Jg4).mx.n), .int .u64 (l3 (Jg4).mx.n), .int .i64 (Jg4).mx.s] rfl Try.underlying42 rfl zs42) (hK _ (Mo.refl _))))
                · exact ol_eq (pt t 0) rfl (hgr 1 _ (by decide)) hsm (fun L9 f wf hG hd K hK => go_run rfl (wo_mv (.tmp 0) (pt t 0) (fun _ => rfl) rfl (hK _ (Mo.refl _))))
                · exact ol_eq (pt k 0) rfl (hgr 2 _ (by decide)) hsm (fun L9 f wf hG hd K hK => go_run rfl (wo_mv (.tmp 1) (pt k 0) (fun _ => rfl) rfl (hK _ (Mo.refl _))))
                · exact ol_eq (pt k 0) rfl (hgr 3 _ (by decide)) hsm (fun L9 f wf hG hd K hK => go_run rfl (wo_nc (.tmp 82) k 0 rfl (hd 2 rfl) (hK _ (Mo.refl _))))
                · exact ol_eq (pt k 3) rfl (hgr 4 _ (by decide)) hsm (fun L9 f wf hG hd K hK => go_run rfl (wo_un (fun v => Instr.fieldAt 93 v 2) (.tmp 83) (pt k 0) (pt k 3) (fun _ => rfl) (hd 3 rfl) (by kernel_rfl) (hK _ (Mo.refl _))))
                · exact ol_eq (pt k 4) rfl (hgr 5 _ (by decide)) hsm (fun L9 f wf hG hd K hK => go_run rfl (wo_bin (fun x y => Instr.indexAt 91 x y) (.tmp 84) (.const (.int .i64 (1))) (pt k 3) (.int .i64 (1)) (pt k 4) (fun _ => rfl) (hd 4 rfl) rfl (by kernel_rfl) (hK _ (Mo.refl _))))
                · exact ol_eq (pp r.p) rfl (hgr 6 _ (by decide)) hsm (fun L9 f wf hG hd K hK => have ⟨⟨_, hS⟩, Q3⟩ := hsee L9 f wf hG; go_run rfl (wo_load 65 (.tmp 85) (pt k 4) (pp r.p) rfl (hd 5 rfl) (run_one (hS.rc k _ hk) 65 4 rfl Try.underlying65 rfl) (hK _ (Mo.refl _))))
                · exact ol_eq (.int .i64 ((c : Nat) : Int)) rfl (hgr 7 _ (by decide)) hsm (fun L9 f wf hG hd K hK => go_run rfl (wo_mv (.tmp 2) (.int .i64 ((c : Nat) : Int)) (fun _ => rfl) rfl (hK _ (Mo.refl _))))
                · exact ol_eq (.int .i64 (fa)) rfl (hgr 8 _ (by decide)) hsm (fun L9 f wf hG hd K hK => go_run rfl (wo_mv (.tmp 3) (.int .i64 (fa)) (fun _ => rfl) rfl (hK _ (Mo.refl _))))
                · exact ol_eq (.int .i64 (l.sz)) rfl (hgr 9 _ (by decide)) hsm (fun L9 f wf hG hd K hK => go_run rfl (wo_mv (.tmp 12) (.int .i64 (l.sz)) (fun _ => rfl) rfl (hK _ (Mo.refl _))))
                · exact ol_eq (.int .i64 (fa - l.sz)) rfl (hgr 10 _ (by decide)) hsm (fun L9 f wf hG hd K hK => go_run rfl (wo_bin (fun x y => do eqGuard .sub 3 (.tmp 88) (.tmp 89) x y; binOp .sub 3 x y) (.tmp 88) (.tmp 89) (.int .i64 (fa)) (.int .i64 (l.sz)) (.int .i64 (fa - l.sz)) (fun _ => rfl) (hd 8 rfl) (hd 9 rfl) (subI (by omega) (by omega) _ _ _) (hK _ (Mo.refl _))))
                · exact ol_eq (.int .i64 (fa - l.sz - 1)) rfl (hgr 11 _ (by decide)) hsm (fun L9 f wf hG hd K hK => go_run rfl (wo_bin (fun x y => do eqGuard .sub 3 (.tmp 90) (.const (.int .i64 (1))) x y; binOp .sub 3 x y) (.tmp 90) (.const (.int .i64 (1))) (.int .i64 (fa - l.sz)) (.int .i64 (1)) (.int .i64 (fa - l.sz - 1)) (fun _ => rfl) (hd 10 rfl) rfl (subI (by omega) (by omega) _ _ _) (hK _ (Mo.refl _))))
                · exact ol_eq (.int .i64 (ta)) rfl (hgr 12 _ (by decide)) hsm (fun L9 f wf hG hd K hK => go_run rfl (wo_mv (.tmp 4) (.int .i64 (ta)) (fun _ => rfl) rfl (hK _ (Mo.refl _))))
                · exact ol_eq (.int .i64 (l.sz)) rfl (hgr 13 _ (by decide)) hsm (fun L9 f wf hG hd K hK => go_run rfl (wo_mv (.tmp 12) (.int .i64 (l.sz)) (fun _ => rfl) rfl (hK _ (Mo.refl _))))
                · exact ol_eq (.int .i64 (ta - l.sz)) rfl (hgr 14 _ (by decide)) hsm (fun L9 f wf hG hd K hK => go_run rfl (wo_bin (fun x y => do eqGuard .sub 3 (.tmp 92) (.tmp 93) x y; binOp .sub 3 x y) (.tmp 92) (.tmp 93) (.int .i64 (ta)) (.int .i64 (l.sz)) (.int .i64 (ta - l.sz)) (fun _ => rfl) (hd 12 rfl) (hd 13 rfl) (subI (by omega) (by omega) _ _ _) (hK _ (Mo.refl _))))
                · exact ol_eq (.int .i64 (ta - l.sz - 1)) rfl (hgr 15 _ (by decide)) hsm (fun L9 f wf hG hd K hK => go_run rfl (wo_bin (fun x y => do eqGuard .sub 3 (.tmp 94) (.const (.int .i64 (1))) x y; binOp .sub 3 x y) (.tmp 94) (.const (.int .i64 (1))) (.int .i64 (ta - l.sz)) (.int .i64 (1)) (.int .i64 (ta - l.sz - 1)) (fun _ => rfl) (hd 14 rfl) rfl (subI (by omega) (by omega) _ _ _) (hK _ (Mo.refl _))))
                · refine ⟨fun L9 f wf hG hi hd K9 hK => ?_⟩
                  rw [hGd] at hG
                  have hmo := hG.1 hi
                  have h9 := part_n r (fa := fa - l.sz - 1) (ta := ta - l.sz - 1) hc (hS.mo hmo) hr.2.2 hok.2.2 (by omega) ⟨by omega, by omega⟩ ⟨by omega, by omega⟩ (by omega) (by omega)
                  rw [← hSr] at h9
                  refine go_run rfl (wo_callx 33 [(.tmp 81), (.tmp 86), (.tmp 87), (.tmp 91), (.tmp 95)] _ [pt t 0, pp r.p, .int .i64 ((c : Nat) : Int), .int .i64 (fa - l.sz - 1), .int .i64 (ta - l.sz - 1)] rfl (li5 (hd 1 rfl).2 (hd 6 rfl).2 (hd 7 rfl).2 (hd 11 rfl).2 (hd 15 rfl).2) (fun _ _ => by kernel_rfl) h9 (fun e9 w9 ⟨he, lk9, q1, q2, q3, q4⟩ => ⟨_, he, hK _ w9 ?_ rfl (fun j u hj hr => ?_)⟩))
                  · rw [hGd]
                    simp only [updB_eq]
                    exact ⟨fun e => (by cases e), fun _ => ⟨lk9, q1, q2, q3, (Mk.of D hmo).same q4⟩⟩
                  · match j, hj, hr with
                    | 0, _, hr => exact hr
                    | 1, _, hr => exact hr
                    | 2, _, hr => exact hr
                    | 3, _, hr => exact hr
                    | 4, _, hr => exact hr
                    | 5, _, hr => exact hr
                    | 6, _, hr => exact hr
                    | 7, _, hr => exact hr
                    | 8, _, hr => exact hr
                    | 9, _, hr => exact hr
                    | 10, _, hr => exact hr
                    | 11, _, hr => exact hr
                    | 12, _, hr => exact hr
                    | 13, _, hr => exact hr
                    | 14, _, hr => exact hr
                    | 15, _, hr => exact hr
                    | 16, _, hr => exact hr
                    | j + 17, _, _ => trivial
              intro L9 f w12 hall hG hR
              rw [hGd] at hG
              obtain ⟨lk3, hS3, hl3, hl4, hM9⟩ := hG.2 (hall 16 rfl)
              have e0 := hR 0 rfl
              have e16 := hR 16 rfl
              clear hG hall hR hgr hsm hGd hsee
              replace Q1 := hM9.at Q1 nd_k1
              replace Q3 := hM9.at Q3 nd_k3
              replace hS := hS3
              replace M := M.same hM9
              clear hS3 hM9
              refine wl_bs47b (.tmp 80) (.tmp 96) Jg4 Sr rfl e0 e16 rfl ?_
              intro g5 w13 hk9 hq S5
              replace Q1 := Q1.mo hq
              replace Q3 := Q3.mo hq
              replace hS := hS.mo hq
              replace M := M.trans hq
              clear hk9 hq
              obtain ⟨Jg5, hJg5⟩ : ∃ X, X = [Jg4, Sr].foldl jn sm0 := ⟨_, rfl⟩
              have okJg5 : Jg5.ok := by rw [hJg5]; exact fold_ok _ sm0_ok (two_ok okJg4 okSr)
              refine wl_call 49 [(.tmp 97)] _ [.slice (some ⟨g5, 0, none⟩) 2 2] (.agg #[.int .i64 (Jg5).r, .int .i64 (Jg5).f, .int .i64 (Jg5).k, .int .i64 (Jg5).d, .int .i64 (Jg5).e, .int .u64 (l0 (Jg5).tt), .int .u64 (l1 (Jg5).tt), .int .u64 (l2 (Jg5).tt), .int .u64 (l3 (Jg5).tt), .int .u64 (l4 (Jg5).tt), .bool (Jg5).so, .bool (Jg5).mn.b, .int .u64 (l0 (Jg5).mn.n), .int .u64 (l1 (Jg5).mn.n), .int .u64 (l2 (Jg5).mn.n), .int .u64 (l3 (Jg5).mn.n), .int .i64 (Jg5).mn.s, .bool (Jg5).mx.b, .int .u64 (l0 (Jg5).mx.n), .int .u64 (l1 (Jg5).mx.n), .int .u64 (l2 (Jg5).mx.n), .int .u64 (l3 (Jg5).mx.n), .int .i64 (Jg5).mx.s]) rfl rfl (fun _ _ => by kernel_rfl) (by have h9 := join_n [Jg4, Sr] (some ⟨g5, 0, none⟩) 2 (two_ok okJg4 okSr) S5 (show 2 ≤ 900000000000000000 by decide); rw [← hJg5] at h9; exact h9) rfl ?_
              intro w14 hq
              replace Q1 := Q1.mo hq
              replace Q3 := Q3.mo hq
              replace hS := hS.mo hq
              replace M := M.trans hq
              clear hq
              refine wl_stx2 42 (.tmp 10) (.tmp 98) k1 0 #[.int .i64 (Jg5).r, .int .i64 (Jg5).f, .int .i64 (Jg5).k, .int .i64 (Jg5).d, .int .i64 (Jg5).e, .int .u64 (l0 (Jg5).tt), .int .u64 (l1 (Jg5).tt), .int .u64 (l2 (Jg5).tt), .int .u64 (l3 (Jg5).tt), .int .u64 (l4 (Jg5).tt), .bool (Jg5).so, .bool (Jg5).mn.b, .int .u64 (l0 (Jg5).mn.n), .int .u64 (l1 (Jg5).mn.n), .int .u64 (l2 (Jg5).mn.n), .int .u64 (l3 (Jg5).mn.n), .int .i64 (Jg5).mn.s, .bool (Jg5).mx.b, .int .u64 (l0 (Jg5).mx.n), .int .u64 (l1 (Jg5).mx.n), .int .u64 (l2 (Jg5).mx.n), .int .u64 (l3 (Jg5).mx.n), .int .i64 (Jg5).mx.s] [.int .i64 0, .int .i64 0, .int .i64 0, .int .i64 0, .int .i64 0, .int .u64 0, .int .u64 0, .int .u64 0, .int .u64 0, .int .u64 0, .bool false, .bool false, .int .u64 0, .int .u64 0, .int .u64 0, .int .u64 0, .int .i64 0, .bool false, .int .u64 0, .int .u64 0, .int .u64 0, .int .u64 0, .int .i64 0] [.int .i64 (Jg5).r, .int .i64 (Jg5).f, .int .i64 (Jg5).k, .int .i64 (Jg5).d, .int .i64 (Jg5).e, .int .u64 (l0 (Jg5).tt), .int .u64 (l1 (Jg5).tt), .int .u64 (l2 (Jg5).tt), .int .u64 (l3 (Jg5).tt), .int .u64 (l4 (Jg5).tt), .bool (Jg5).so, .bool (Jg5).mn.b, .int .u64 (l0 (Jg5).mn.n), .int .u64 (l1 (Jg5).mn.n), .int .u64 (l2 (Jg5).mn.n), .int .u64 (l3 (Jg5).mn.n), .int .i64 (Jg5).mn.s, .bool (Jg5).mx.b, .int .u64 (l0 (Jg5).mx.n), .int .u64 (l1 (Jg5).mx.n), .int .u64 (l2 (Jg5).mx.n), .int .u64 (l3 (Jg5).mx.n), .int .i64 (Jg5).mx.s] Q1 rfl rfl rfl rfl rfl zs42 rfl rfl rfl ?_
              intro w15 hT Qn
              replace Q1 := Qn
              replace Q3 := hT.other _ _ ne_k1_k3.symm Q3
              have hK := Mk.st1 hT
              replace hS := hS.kept hK (fun j e q => nd_k1 (q ▸ e)) (fun b hb q => ns_k1 b hb q)
              replace M := M.tr hK (fun j hj e => absurd e (by omega))
              clear hT hK Qn
              refine w_nil ?_
              refine xn_then ?_
              refine w_ret ?_
              exact w_ret1 _ (.agg #[.int .i64 (Jg5).r, .int .i64 (Jg5).f, .int .i64 (Jg5).k, .int .i64 (Jg5).d, .int .i64 (Jg5).e, .int .u64 (l0 (Jg5).tt), .int .u64 (l1 (Jg5).tt), .int .u64 (l2 (Jg5).tt), .int .u64 (l3 (Jg5).tt), .int .u64 (l4 (Jg5).tt), .bool (Jg5).so, .bool (Jg5).mn.b, .int .u64 (l0 (Jg5).mn.n), .int .u64 (l1 (Jg5).mn.n), .int .u64 (l2 (Jg5).mn.n), .int .u64 (l3 (Jg5).mn.n), .int .i64 (Jg5).mn.s, .bool (Jg5).mx.b, .int .u64 (l0 (Jg5).mx.n), .int .u64 (l1 (Jg5).mx.n), .int .u64 (l2 (Jg5).mx.n), .int .u64 (l3 (Jg5).mx.n), .int .i64 (Jg5).mx.s]) rfl ⟨k1, rfl, (run_row Q1 42 0 23 [.int .i64 (Jg5).r, .int .i64 (Jg5).f, .int .i64 (Jg5).k, .int .i64 (Jg5).d, .int .i64 (Jg5).e, .int .u64 (l0 (Jg5).tt), .int .u64 (l1 (Jg5).tt), .int .u64 (l2 (Jg5).tt), .int .u64 (l3 (Jg5).tt), .int .u64 (l4 (Jg5).tt), .bool (Jg5).so, .bool (Jg5).mn.b, .int .u64 (l0 (Jg5).mn.n), .int .u64 (l1 (Jg5).mn.n), .int .u64 (l2 (Jg5).mn.n), .int .u64 (l3 (Jg5).mn.n), .int .i64 (Jg5).mn.s, .bool (Jg5).mx.b, .int .u64 (l0 (Jg5).mx.n), .int .u64 (l1 (Jg5).mx.n), .int .u64 (l2 (Jg5).mx.n), .int .u64 (l3 (Jg5).mx.n), .int .i64 (Jg5).mx.s] rfl Try.underlying42 rfl zs42)⟩ ⟨by show _ = Ending.returned (smv (prt c (mb.sc.getD c 0) fa ta (l.ids ++ i :: r.ids))); rw [(show prt c (mb.sc.getD c 0) fa ta (l.ids ++ i :: r.ids) = Jg5 by rw [hJg5, hJg4, hSl, hSo, hSr]; exact (prt_mid hlz hokl hoki hokr (by have := of_decide_eq_false hf0; have := of_decide_eq_false hf1; have := of_decide_eq_false hf2; have := of_decide_eq_true hf3; have := of_decide_eq_true hf4; omega) (by have := of_decide_eq_false hf0; have := of_decide_eq_false hf1; have := of_decide_eq_false hf2; have := of_decide_eq_true hf3; have := of_decide_eq_true hf4; omega)).symm)], _, hS, by have := of_decide_eq_false hf0; have := of_decide_eq_false hf1; have := of_decide_eq_false hf2; have := of_decide_eq_true hf3; have := of_decide_eq_true hf4; omega, by have := of_decide_eq_false hf0; have := of_decide_eq_false hf1; have := of_decide_eq_false hf2; have := of_decide_eq_true hf3; have := of_decide_eq_true hf4; unfold pbd at *; refine ⟨by omega, fun _ => by omega, fun _ => by omega⟩, M⟩
            | false =>
              have hf4p := of_decide_eq_false hf4
              refine w_reg ?_
              refine wl_mv (.tmp 3) (.int .i64 (fa)) (fun _ => rfl) rfl rfl ?_
              refine wl_mv (.tmp 12) (.int .i64 (l.sz)) (fun _ => rfl) rfl rfl ?_
              refine wl_bin (fun x y => do eqGuard .leq 3 (.tmp 65) (.tmp 66) x y; binOp .leq 3 x y) (.tmp 65) (.tmp 66) (.int .i64 (fa)) (.int .i64 (l.sz)) (.bool true) (fun _ => rfl) rfl rfl (leI hf3 _ _ _) rfl ?_
              refine wl_mv (.tmp 67) (.bool true) (fun _ => rfl) rfl rfl ?_
              refine wl_mv (.tmp 12) (.int .i64 (l.sz)) (fun _ => rfl) rfl rfl ?_
              refine wl_mv (.tmp 4) (.int .i64 (ta)) (fun _ => rfl) rfl rfl ?_
              refine wl_bin (fun x y => do eqGuard .lss 3 (.tmp 69) (.tmp 70) x y; binOp .lss 3 x y) (.tmp 69) (.tmp 70) (.int .i64 (l.sz)) (.int .i64 (ta)) (.bool false) (fun _ => rfl) rfl rfl (ltI hf4 _ _ _) rfl ?_
              refine wl_pick (.tmp 68) (.tmp 71) (.const (.bool false)) true (.bool false) (fun _ => rfl) rfl rfl rfl ?_
              refine w_nil ?_
              refine xn_then ?_
              refine w_condF rfl ?_
              refine w_skip ?_
              refine xn_then ?_
              refine w_seq ?_
              obtain ⟨Sr, hSr⟩ : ∃ X, X = prt c (mb.sc.getD c 0) (fa - l.sz - 1) (ta - l.sz - 1) r.ids := ⟨_, rfl⟩
              have okSr : Sr.ok := by rw [hSr]; exact prt_ok hokr
              have hsm : Smos [vq (.agg #[.int .i64 (Sl).r, .int .i64 (Sl).f, .int .i64 (Sl).k, .int .i64 (Sl).d, .int .i64 (Sl).e, .int .u64 (l0 (Sl).tt), .int .u64 (l1 (Sl).tt), .int .u64 (l2 (Sl).tt), .int .u64 (l3 (Sl).tt), .int .u64 (l4 (Sl).tt), .bool (Sl).so, .bool (Sl).mn.b, .int .u64 (l0 (Sl).mn.n), .int .u64 (l1 (Sl).mn.n), .int .u64 (l2 (Sl).mn.n), .int .u64 (l3 (Sl).mn.n), .int .i64 (Sl).mn.s, .bool (Sl).mx.b, .int .u64 (l0 (Sl).mx.n), .int .u64 (l1 (Sl).mx.n), .int .u64 (l2 (Sl).mx.n), .int .u64 (l3 (Sl).mx.n), .int .i64 (Sl).mx.s]), vq (pt t 0), vq (pt k 0), vq (pt k 0), vq (pt k 3), vq (pt k 4), vq (pp r.p), vq (.int .i64 ((c : Nat) : Int)), vq (.int .i64 (fa)), vq (.int .i64 (l.sz)), vq (.int .i64 (fa - l.sz)), vq (.int .i64 (fa - l.sz - 1)), vq (.int .i64 (ta)), vq (.int .i64 (l.sz)), vq (.int .i64 (ta - l.sz)), vq (.int .i64 (ta - l.sz - 1)), vq (.agg #[.int .i64 (Sr).r, .int .i64 (Sr).f, .int .i64 (Sr).k, .int .i64 (Sr).d, .int .i64 (Sr).e, .int .u64 (l0 (Sr).tt), .int .u64 (l1 (Sr).tt), .int .u64 (l2 (Sr).tt), .int .u64 (l3 (Sr).tt), .int .u64 (l4 (Sr).tt), .bool (Sr).so, .bool (Sr).mn.b, .int .u64 (l0 (Sr).mn.n), .int .u64 (l1 (Sr).mn.n), .int .u64 (l2 (Sr).mn.n), .int .u64 (l3 (Sr).mn.n), .int .i64 (Sr).mn.s, .bool (Sr).mx.b, .int .u64 (l0 (Sr).mx.n), .int .u64 (l1 (Sr).mx.n), .int .u64 (l2 (Sr).mx.n), .int .u64 (l3 (Sr).mx.n), .int .i64 (Sr).mx.s])] := smos_cons (smo_vq _) (smos_cons (smo_vq _) (smos_cons (smo_vq _) (smos_cons (smo_vq _) (smos_cons (smo_vq _) (smos_cons (smo_vq _) (smos_cons (smo_vq _) (smos_cons (smo_vq _) (smos_cons (smo_vq _) (smos_cons (smo_vq _) (smos_cons (smo_vq _) (smos_cons (smo_vq _) (smos_cons (smo_vq _) (smos_cons (smo_vq _) (smos_cons (smo_vq _) (smos_cons (smo_vq _) (smos_cons (smo_vq _) (smos_nil)))))))))))))))))
              obtain ⟨G, hGd⟩ : ∃ G, G = (fun (L9 : Nat → Bool) (f9 : Nat → Value) (w9 : World) => (L9 16 = false → Mo w7 w9) ∧ (L9 16 = true → ∃ lk9, HS D w9 t mb R root lk9 ∧ (lk2) ≤ lk9 ∧ pbd (fa - l.sz - 1) (ta - l.sz - 1) r.sz r.ht (lk2) lk9 ∧ Mk D w7 w9)) := ⟨_, rfl⟩
              have hgr : ∀ (i : Nat) (v : Value), i ≠ 16 → ∀ (L9 : Nat → Bool) (f9 : Nat → Value) (a b : World), G L9 f9 a → L9 i = false → Mo a b → G (updB L9 i) (upd f9 i v) b := by
                intro i v h5 L9 f9 a b h _ m
                rw [hGd] at h ⊢
                simp only [updB_ne (Ne.symm h5)]
                exact ⟨fun x => (h.1 x).trans m, fun x => (by obtain ⟨y, q1, q2, q3, q4⟩ := h.2 x; exact ⟨y, q1.mo m, q2, q3, q4.trans m⟩)⟩
              have hsee : ∀ (L9 : Nat → Bool) (f9 : Nat → Value) (a : World), G L9 f9 a → (∃ lk9, HS D a t mb R root lk9) ∧ At a k3 [.int .i64 (Sl).r, .int .i64 (Sl).f, .int .i64 (Sl).k, .int .i64 (Sl).d, .int .i64 (Sl).e, .int .u64 (l0 (Sl).tt), .int .u64 (l1 (Sl).tt), .int .u64 (l2 (Sl).tt), .int .u64 (l3 (Sl).tt), .int .u64 (l4 (Sl).tt), .bool (Sl).so, .bool (Sl).mn.b, .int .u64 (l0 (Sl).mn.n), .int .u64 (l1 (Sl).mn.n), .int .u64 (l2 (Sl).mn.n), .int .u64 (l3 (Sl).mn.n), .int .i64 (Sl).mn.s, .bool (Sl).mx.b, .int .u64 (l0 (Sl).mx.n), .int .u64 (l1 (Sl).mx.n), .int .u64 (l2 (Sl).mx.n), .int .u64 (l3 (Sl).mx.n), .int .i64 (Sl).mx.s] := by
                intro L9 f9 a h
                rw [hGd] at h
                cases e9 : L9 16 with
                | false => exact ⟨⟨_, hS.mo (h.1 e9)⟩, Q3.mo (h.1 e9)⟩
                | true => obtain ⟨y, q1, q2, q3, q4⟩ := h.2 e9; exact ⟨⟨y, q1⟩, q4.at Q3 nd_k3⟩
              refine w_ogl 17 G [vq (.agg #[.int .i64 (Sl).r, .int .i64 (Sl).f, .int .i64 (Sl).k, .int .i64 (Sl).d, .int .i64 (Sl).e, .int .u64 (l0 (Sl).tt), .int .u64 (l1 (Sl).tt), .int .u64 (l2 (Sl).tt), .int .u64 (l3 (Sl).tt), .int .u64 (l4 (Sl).tt), .bool (Sl).so, .bool (Sl).mn.b, .int .u64 (l0 (Sl).mn.n), .int .u64 (l1 (Sl).mn.n), .int .u64 (l2 (Sl).mn.n), .int .u64 (l3 (Sl).mn.n), .int .i64 (Sl).mn.s, .bool (Sl).mx.b, .int .u64 (l0 (Sl).mx.n), .int .u64 (l1 (Sl).mx.n), .int .u64 (l2 (Sl).mx.n), .int .u64 (l3 (Sl).mx.n), .int .i64 (Sl).mx.s]), vq (pt t 0), vq (pt k 0), vq (pt k 0), vq (pt k 3), vq (pt k 4), vq (pp r.p), vq (.int .i64 ((c : Nat) : Int)), vq (.int .i64 (fa)), vq (.int .i64 (l.sz)), vq (.int .i64 (fa - l.sz)), vq (.int .i64 (fa - l.sz - 1)), vq (.int .i64 (ta)), vq (.int .i64 (l.sz)), vq (.int .i64 (ta - l.sz)), vq (.int .i64 (ta - l.sz - 1)), vq (.agg #[.int .i64 (Sr).r, .int .i64 (Sr).f, .int .i64 (Sr).k, .int .i64 (Sr).d, .int .i64 (Sr).e, .int .u64 (l0 (Sr).tt), .int .u64 (l1 (Sr).tt), .int .u64 (l2 (Sr).tt), .int .u64 (l3 (Sr).tt), .int .u64 (l4 (Sr).tt), .bool (Sr).so, .bool (Sr).mn.b, .int .u64 (l0 (Sr).mn.n), .int .u64 (l1 (Sr).mn.n), .int .u64 (l2 (Sr).mn.n), .int .u64 (l3 (Sr).mn.n), .int .i64 (Sr).mn.s, .bool (Sr).mx.b, .int .u64 (l0 (Sr).mx.n), .int .u64 (l1 (Sr).mx.n), .int .u64 (l2 (Sr).mx.n), .int .u64 (l3 (Sr).mx.n), .int .i64 (Sr).mx.s])] (by kernel_rfl) (by kernel_rfl) (by kernel_rfl) (by kernel_rfl) rfl (fun f => by rw [hGd]; exact ⟨fun _ => (Mo.refl _).drew, (fun e => by cases e)⟩) ?_ ?_
              · refine ea_cons ?_ (ea_cons ?_ (ea_cons ?_ (ea_cons ?_ (ea_cons ?_ (ea_cons ?_ (ea_cons ?_ (ea_cons ?_ (ea_cons ?_ (ea_cons ?_ (ea_cons ?_ (ea_cons ?_ (ea_cons ?_ (ea_cons ?_ (ea_cons ?_ (ea_cons ?_ (ea_cons ?_ (ea_nil)))))))))))))))))
                · exact ol_eq (.agg #[.int .i64 (Sl).r, .int .i64 (Sl).f, .int .i64 (Sl).k, .int .i64 (Sl).d, .int .i64 (Sl).e, .int .u64 (l0 (Sl).tt), .int .u64 (l1 (Sl).tt), .int .u64 (l2 (Sl).tt), .int .u64 (l3 (Sl).tt), .int .u64 (l4 (Sl).tt), .bool (Sl).so, .bool (Sl).mn.b, .int .u64 (l0 (Sl).mn.n), .int .u64 (l1 (Sl).mn.n), .int .u64 (l2 (Sl).mn.n), .int .u64 (l3 (Sl).mn.n), .int .i64 (Sl).mn.s, .bool (Sl).mx.b, .int .u64 (l0 (Sl).mx.n), .int .u64 (l1 (Sl).mx.n), .int .u64 (l2 (Sl).mx.n), .int .u64 (l3 (Sl).mx.n), .int .i64 (Sl).mx.s]) rfl (hgr 0 _ (by decide)) hsm (fun L9 f wf hG hd K hK => have ⟨⟨_, hS⟩, Q3⟩ := hsee L9 f wf hG; go_run rfl (wo_load 42 (.tmp 11) (pt k3 0) (.agg #[.int .i64 (Sl).r, .int .i64 (Sl).f, .int .i64 (Sl).k, .int .i64 (Sl).d, .int .i64 (Sl).e, .int .u64 (l0 (Sl).tt), .int .u64 (l1 (Sl).tt), .int .u64 (l2 (Sl).tt), .int .u64 (l3 (Sl).tt), .int .u64 (l4 (Sl).tt), .bool (Sl).so, .bool (Sl).mn.b, .int .u64 (l0 (Sl).mn.n), .int .u64 (l1 (Sl).mn.n), .int .u64 (l2 (Sl).mn.n), .int .u64 (l3 (Sl).mn.n), .int .i64 (Sl).mn.s, .bool (Sl).mx.b, .int .u64 (l0 (Sl).mx.n), .int .u64 (l1 (Sl).mx.n), .int .u64 (l2 (Sl).mx.n), .int .u64 (l3 (Sl).mx.n), .int .i64 (Sl).mx.s]) rfl rfl (run_row Q3 42 0 23 [.int .i64 (Sl).r, .int .i64 (Sl).f, .int .i64 (Sl).k, .int .i64 (Sl).d, .int .i64 (Sl).e, .int .u64 (l0 (Sl).tt), .int .u64 (l1 (Sl).tt), .int .u64 (l2 (Sl).tt), .int .u64 (l3 (Sl).tt), .int .u64 (l4 (Sl).tt), .bool (Sl).so, .bool (Sl).mn.b, .int .u64 (l0 (Sl).mn.n), .int .u64 (l1 (Sl).mn.n), .int .u64 (l2 (Sl).mn.n), .int .u64 (l3 (Sl).mn.n), .int .i64 (Sl).mn.s, .bool (Sl).mx.b, .int .u64 (l0 (Sl).mx.n), .int .u64 (l1 (Sl).mx.n), .int .u64 (l2 (Sl).mx.n), .int .u64 (l3 (Sl).mx.n), .int .i64 (Sl).mx.s] rfl Try.underlying42 rfl zs42) (hK _ (Mo.refl _))))
                · exact ol_eq (pt t 0) rfl (hgr 1 _ (by decide)) hsm (fun L9 f wf hG hd K hK => go_run rfl (wo_mv (.tmp 0) (pt t 0) (fun _ => rfl) rfl (hK _ (Mo.refl _))))
                · exact ol_eq (pt k 0) rfl (hgr 2 _ (by decide)) hsm (fun L9 f wf hG hd K hK => go_run rfl (wo_mv (.tmp 1) (pt k 0) (fun _ => rfl) rfl (hK _ (Mo.refl _))))
                · exact ol_eq (pt k 0) rfl (hgr 3 _ (by decide)) hsm (fun L9 f wf hG hd K hK => go_run rfl (wo_nc (.tmp 82) k 0 rfl (hd 2 rfl) (hK _ (Mo.refl _))))
                · exact ol_eq (pt k 3) rfl (hgr 4 _ (by decide)) hsm (fun L9 f wf hG hd K hK => go_run rfl (wo_un (fun v => Instr.fieldAt 93 v 2) (.tmp 83) (pt k 0) (pt k 3) (fun _ => rfl) (hd 3 rfl) (by kernel_rfl) (hK _ (Mo.refl _))))
                · exact ol_eq (pt k 4) rfl (hgr 5 _ (by decide)) hsm (fun L9 f wf hG hd K hK => go_run rfl (wo_bin (fun x y => Instr.indexAt 91 x y) (.tmp 84) (.const (.int .i64 (1))) (pt k 3) (.int .i64 (1)) (pt k 4) (fun _ => rfl) (hd 4 rfl) rfl (by kernel_rfl) (hK _ (Mo.refl _))))
                · exact ol_eq (pp r.p) rfl (hgr 6 _ (by decide)) hsm (fun L9 f wf hG hd K hK => have ⟨⟨_, hS⟩, Q3⟩ := hsee L9 f wf hG; go_run rfl (wo_load 65 (.tmp 85) (pt k 4) (pp r.p) rfl (hd 5 rfl) (run_one (hS.rc k _ hk) 65 4 rfl Try.underlying65 rfl) (hK _ (Mo.refl _))))
                · exact ol_eq (.int .i64 ((c : Nat) : Int)) rfl (hgr 7 _ (by decide)) hsm (fun L9 f wf hG hd K hK => go_run rfl (wo_mv (.tmp 2) (.int .i64 ((c : Nat) : Int)) (fun _ => rfl) rfl (hK _ (Mo.refl _))))
                · exact ol_eq (.int .i64 (fa)) rfl (hgr 8 _ (by decide)) hsm (fun L9 f wf hG hd K hK => go_run rfl (wo_mv (.tmp 3) (.int .i64 (fa)) (fun _ => rfl) rfl (hK _ (Mo.refl _))))
                · exact ol_eq (.int .i64 (l.sz)) rfl (hgr 9 _ (by decide)) hsm (fun L9 f wf hG hd K hK => go_run rfl (wo_mv (.tmp 12) (.int .i64 (l.sz)) (fun _ => rfl) rfl (hK _ (Mo.refl _))))
                · exact ol_eq (.int .i64 (fa - l.sz)) rfl (hgr 10 _ (by decide)) hsm (fun L9 f wf hG hd K hK => go_run rfl (wo_bin (fun x y => do eqGuard .sub 3 (.tmp 88) (.tmp 89) x y; binOp .sub 3 x y) (.tmp 88) (.tmp 89) (.int .i64 (fa)) (.int .i64 (l.sz)) (.int .i64 (fa - l.sz)) (fun _ => rfl) (hd 8 rfl) (hd 9 rfl) (subI (by omega) (by omega) _ _ _) (hK _ (Mo.refl _))))
                · exact ol_eq (.int .i64 (fa - l.sz - 1)) rfl (hgr 11 _ (by decide)) hsm (fun L9 f wf hG hd K hK => go_run rfl (wo_bin (fun x y => do eqGuard .sub 3 (.tmp 90) (.const (.int .i64 (1))) x y; binOp .sub 3 x y) (.tmp 90) (.const (.int .i64 (1))) (.int .i64 (fa - l.sz)) (.int .i64 (1)) (.int .i64 (fa - l.sz - 1)) (fun _ => rfl) (hd 10 rfl) rfl (subI (by omega) (by omega) _ _ _) (hK _ (Mo.refl _))))
                · exact ol_eq (.int .i64 (ta)) rfl (hgr 12 _ (by decide)) hsm (fun L9 f wf hG hd K hK => go_run rfl (wo_mv (.tmp 4) (.int .i64 (ta)) (fun _ => rfl) rfl (hK _ (Mo.refl _))))
                · exact ol_eq (.int .i64 (l.sz)) rfl (hgr 13 _ (by decide)) hsm (fun L9 f wf hG hd K hK => go_run rfl (wo_mv (.tmp 12) (.int .i64 (l.sz)) (fun _ => rfl) rfl (hK _ (Mo.refl _))))
                · exact ol_eq (.int .i64 (ta - l.sz)) rfl (hgr 14 _ (by decide)) hsm (fun L9 f wf hG hd K hK => go_run rfl (wo_bin (fun x y => do eqGuard .sub 3 (.tmp 92) (.tmp 93) x y; binOp .sub 3 x y) (.tmp 92) (.tmp 93) (.int .i64 (ta)) (.int .i64 (l.sz)) (.int .i64 (ta - l.sz)) (fun _ => rfl) (hd 12 rfl) (hd 13 rfl) (subI (by omega) (by omega) _ _ _) (hK _ (Mo.refl _))))
                · exact ol_eq (.int .i64 (ta - l.sz - 1)) rfl (hgr 15 _ (by decide)) hsm (fun L9 f wf hG hd K hK => go_run rfl (wo_bin (fun x y => do eqGuard .sub 3 (.tmp 94) (.const (.int .i64 (1))) x y; binOp .sub 3 x y) (.tmp 94) (.const (.int .i64 (1))) (.int .i64 (ta - l.sz)) (.int .i64 (1)) (.int .i64 (ta - l.sz - 1)) (fun _ => rfl) (hd 14 rfl) rfl (subI (by omega) (by omega) _ _ _) (hK _ (Mo.refl _))))
                · refine ⟨fun L9 f wf hG hi hd K9 hK => ?_⟩
                  rw [hGd] at hG
                  have hmo := hG.1 hi
                  have h9 := part_n r (fa := fa - l.sz - 1) (ta := ta - l.sz - 1) hc (hS.mo hmo) hr.2.2 hok.2.2 (by omega) ⟨by omega, by omega⟩ ⟨by omega, by omega⟩ (by omega) (by omega)
                  rw [← hSr] at h9
                  refine go_run rfl (wo_callx 33 [(.tmp 81), (.tmp 86), (.tmp 87), (.tmp 91), (.tmp 95)] _ [pt t 0, pp r.p, .int .i64 ((c : Nat) : Int), .int .i64 (fa - l.sz - 1), .int .i64 (ta - l.sz - 1)] rfl (li5 (hd 1 rfl).2 (hd 6 rfl).2 (hd 7 rfl).2 (hd 11 rfl).2 (hd 15 rfl).2) (fun _ _ => by kernel_rfl) h9 (fun e9 w9 ⟨he, lk9, q1, q2, q3, q4⟩ => ⟨_, he, hK _ w9 ?_ rfl (fun j u hj hr => ?_)⟩))
                  · rw [hGd]
                    simp only [updB_eq]
                    exact ⟨fun e => (by cases e), fun _ => ⟨lk9, q1, q2, q3, (Mk.of D hmo).same q4⟩⟩
                  · match j, hj, hr with
                    | 0, _, hr => exact hr
                    | 1, _, hr => exact hr
                    | 2, _, hr => exact hr
                    | 3, _, hr => exact hr
                    | 4, _, hr => exact hr
                    | 5, _, hr => exact hr
                    | 6, _, hr => exact hr
                    | 7, _, hr => exact hr
                    | 8, _, hr => exact hr
                    | 9, _, hr => exact hr
                    | 10, _, hr => exact hr
                    | 11, _, hr => exact hr
                    | 12, _, hr => exact hr
                    | 13, _, hr => exact hr
                    | 14, _, hr => exact hr
                    | 15, _, hr => exact hr
                    | 16, _, hr => exact hr
                    | j + 17, _, _ => trivial
              intro L9 f w8 hall hG hR
              rw [hGd] at hG
              obtain ⟨lk3, hS3, hl3, hl4, hM9⟩ := hG.2 (hall 16 rfl)
              have e0 := hR 0 rfl
              have e16 := hR 16 rfl
              clear hG hall hR hgr hsm hGd hsee
              replace Q1 := hM9.at Q1 nd_k1
              replace Q3 := hM9.at Q3 nd_k3
              replace hS := hS3
              replace M := M.same hM9
              clear hS3 hM9
              refine wl_bs47b (.tmp 80) (.tmp 96) Sl Sr rfl e0 e16 rfl ?_
              intro g4 w9 hk9 hq S4
              replace Q1 := Q1.mo hq
              replace Q3 := Q3.mo hq
              replace hS := hS.mo hq
              replace M := M.trans hq
              clear hk9 hq
              obtain ⟨Jg4, hJg4⟩ : ∃ X, X = [Sl, Sr].foldl jn sm0 := ⟨_, rfl⟩
              have okJg4 : Jg4.ok := by rw [hJg4]; exact fold_ok _ sm0_ok (two_ok okSl okSr)
              refine wl_call 49 [(.tmp 97)] _ [.slice (some ⟨g4, 0, none⟩) 2 2] (.agg #[.int .i64 (Jg4).r, .int .i64 (Jg4).f, .int .i64 (Jg4).k, .int .i64 (Jg4).d, .int .i64 (Jg4).e, .int .u64 (l0 (Jg4).tt), .int .u64 (l1 (Jg4).tt), .int .u64 (l2 (Jg4).tt), .int .u64 (l3 (Jg4).tt), .int .u64 (l4 (Jg4).tt), .bool (Jg4).so, .bool (Jg4).mn.b, .int .u64 (l0 (Jg4).mn.n), .int .u64 (l1 (Jg4).mn.n), .int .u64 (l2 (Jg4).mn.n), .int .u64 (l3 (Jg4).mn.n), .int .i64 (Jg4).mn.s, .bool (Jg4).mx.b, .int .u64 (l0 (Jg4).mx.n), .int .u64 (l1 (Jg4).mx.n), .int .u64 (l2 (Jg4).mx.n), .int .u64 (l3 (Jg4).mx.n), .int .i64 (Jg4).mx.s]) rfl rfl (fun _ _ => by kernel_rfl) (by have h9 := join_n [Sl, Sr] (some ⟨g4, 0, none⟩) 2 (two_ok okSl okSr) S4 (show 2 ≤ 900000000000000000 by decide); rw [← hJg4] at h9; exact h9) rfl ?_
              intro w10 hq
              replace Q1 := Q1.mo hq
              replace Q3 := Q3.mo hq
              replace hS := hS.mo hq
              replace M := M.trans hq
              clear hq
              refine wl_stx2 42 (.tmp 10) (.tmp 98) k1 0 #[.int .i64 (Jg4).r, .int .i64 (Jg4).f, .int .i64 (Jg4).k, .int .i64 (Jg4).d, .int .i64 (Jg4).e, .int .u64 (l0 (Jg4).tt), .int .u64 (l1 (Jg4).tt), .int .u64 (l2 (Jg4).tt), .int .u64 (l3 (Jg4).tt), .int .u64 (l4 (Jg4).tt), .bool (Jg4).so, .bool (Jg4).mn.b, .int .u64 (l0 (Jg4).mn.n), .int .u64 (l1 (Jg4).mn.n), .int .u64 (l2 (Jg4).mn.n), .int .u64 (l3 (Jg4).mn.n), .int .i64 (Jg4).mn.s, .bool (Jg4).mx.b, .int .u64 (l0 (Jg4).mx.n), .int .u64 (l1 (Jg4).mx.n), .int .u64 (l2 (Jg4).mx.n), .int .u64 (l3 (Jg4).mx.n), .int .i64 (Jg4).mx.s] [.int .i64 0, .int .i64 0, .int .i64 0, .int .i64 0, .int .i64 0, .int .u64 0, .int .u64 0, .int .u64 0, .int .u64 0, .int .u64 0, .bool false, .bool false, .int .u64 0, .int .u64 0, .int .u64 0, .int .u64 0, .int .i64 0, .bool false, .int .u64 0, .int .u64 0, .int .u64 0, .int .u64 0, .int .i64 0] [.int .i64 (Jg4).r, .int .i64 (Jg4).f, .int .i64 (Jg4).k, .int .i64 (Jg4).d, .int .i64 (Jg4).e, .int .u64 (l0 (Jg4).tt), .int .u64 (l1 (Jg4).tt), .int .u64 (l2 (Jg4).tt), .int .u64 (l3 (Jg4).tt), .int .u64 (l4 (Jg4).tt), .bool (Jg4).so, .bool (Jg4).mn.b, .int .u64 (l0 (Jg4).mn.n), .int .u64 (l1 (Jg4).mn.n), .int .u64 (l2 (Jg4).mn.n), .int .u64 (l3 (Jg4).mn.n), .int .i64 (Jg4).mn.s, .bool (Jg4).mx.b, .int .u64 (l0 (Jg4).mx.n), .int .u64 (l1 (Jg4).mx.n), .int .u64 (l2 (Jg4).mx.n), .int .u64 (l3 (Jg4).mx.n), .int .i64 (Jg4).mx.s] Q1 rfl rfl rfl rfl rfl zs42 rfl rfl rfl ?_
              intro w11 hT Qn
              replace Q1 := Qn
              replace Q3 := hT.other _ _ ne_k1_k3.symm Q3
              have hK := Mk.st1 hT
              replace hS := hS.kept hK (fun j e q => nd_k1 (q ▸ e)) (fun b hb q => ns_k1 b hb q)
              replace M := M.tr hK (fun j hj e => absurd e (by omega))
              clear hT hK Qn
              refine w_nil ?_
              refine xn_then ?_
              refine w_ret ?_
              exact w_ret1 _ (.agg #[.int .i64 (Jg4).r, .int .i64 (Jg4).f, .int .i64 (Jg4).k, .int .i64 (Jg4).d, .int .i64 (Jg4).e, .int .u64 (l0 (Jg4).tt), .int .u64 (l1 (Jg4).tt), .int .u64 (l2 (Jg4).tt), .int .u64 (l3 (Jg4).tt), .int .u64 (l4 (Jg4).tt), .bool (Jg4).so, .bool (Jg4).mn.b, .int .u64 (l0 (Jg4).mn.n), .int .u64 (l1 (Jg4).mn.n), .int .u64 (l2 (Jg4).mn.n), .int .u64 (l3 (Jg4).mn.n), .int .i64 (Jg4).mn.s, .bool (Jg4).mx.b, .int .u64 (l0 (Jg4).mx.n), .int .u64 (l1 (Jg4).mx.n), .int .u64 (l2 (Jg4).mx.n), .int .u64 (l3 (Jg4).mx.n), .int .i64 (Jg4).mx.s]) rfl ⟨k1, rfl, (run_row Q1 42 0 23 [.int .i64 (Jg4).r, .int .i64 (Jg4).f, .int .i64 (Jg4).k, .int .i64 (Jg4).d, .int .i64 (Jg4).e, .int .u64 (l0 (Jg4).tt), .int .u64 (l1 (Jg4).tt), .int .u64 (l2 (Jg4).tt), .int .u64 (l3 (Jg4).tt), .int .u64 (l4 (Jg4).tt), .bool (Jg4).so, .bool (Jg4).mn.b, .int .u64 (l0 (Jg4).mn.n), .int .u64 (l1 (Jg4).mn.n), .int .u64 (l2 (Jg4).mn.n), .int .u64 (l3 (Jg4).mn.n), .int .i64 (Jg4).mn.s, .bool (Jg4).mx.b, .int .u64 (l0 (Jg4).mx.n), .int .u64 (l1 (Jg4).mx.n), .int .u64 (l2 (Jg4).mx.n), .int .u64 (l3 (Jg4).mx.n), .int .i64 (Jg4).mx.s] rfl Try.underlying42 rfl zs42)⟩ ⟨by show _ = Ending.returned (smv (prt c (mb.sc.getD c 0) fa ta (l.ids ++ i :: r.ids))); rw [(show prt c (mb.sc.getD c 0) fa ta (l.ids ++ i :: r.ids) = Jg4 by rw [hJg4, hSl, hSr]; exact (prt_out hlz hokl hokr (by have := of_decide_eq_false hf0; have := of_decide_eq_false hf1; have := of_decide_eq_false hf2; have := of_decide_eq_true hf3; have := of_decide_eq_false hf4; omega)).symm)], _, hS, by have := of_decide_eq_false hf0; have := of_decide_eq_false hf1; have := of_decide_eq_false hf2; have := of_decide_eq_true hf3; have := of_decide_eq_false hf4; omega, by have := of_decide_eq_false hf0; have := of_decide_eq_false hf1; have := of_decide_eq_false hf2; have := of_decide_eq_true hf3; have := of_decide_eq_false hf4; unfold pbd at *; refine ⟨by omega, fun _ => by omega, fun _ => by omega⟩, M⟩
          | false =>
            have hf3p := of_decide_eq_false hf3
            refine w_reg ?_
            refine wl_mv (.tmp 3) (.int .i64 (fa)) (fun _ => rfl) rfl rfl ?_
            refine wl_mv (.tmp 12) (.int .i64 (l.sz)) (fun _ => rfl) rfl rfl ?_
            refine wl_bin (fun x y => do eqGuard .leq 3 (.tmp 65) (.tmp 66) x y; binOp .leq 3 x y) (.tmp 65) (.tmp 66) (.int .i64 (fa)) (.int .i64 (l.sz)) (.bool false) (fun _ => rfl) rfl rfl (leI hf3 _ _ _) rfl ?_
            refine wl_mv (.tmp 67) (.bool false) (fun _ => rfl) rfl rfl ?_
            refine wl_skip rfl ?_
            refine wl_skip rfl ?_
            refine wl_skip rfl ?_
            refine wl_pick (.tmp 68) (.tmp 71) (.const (.bool false)) false (.bool false) (fun _ => rfl) rfl rfl rfl ?_
            refine w_nil ?_
            refine xn_then ?_
            refine w_condF rfl ?_
            refine w_skip ?_
            refine xn_then ?_
            refine w_seq ?_
            obtain ⟨Sr, hSr⟩ : ∃ X, X = prt c (mb.sc.getD c 0) (fa - l.sz - 1) (ta - l.sz - 1) r.ids := ⟨_, rfl⟩
            have okSr : Sr.ok := by rw [hSr]; exact prt_ok hokr
            have hsm : Smos [vq (.agg #[.int .i64 (Sl).r, .int .i64 (Sl).f, .int .i64 (Sl).k, .int .i64 (Sl).d, .int .i64 (Sl).e, .int .u64 (l0 (Sl).tt), .int .u64 (l1 (Sl).tt), .int .u64 (l2 (Sl).tt), .int .u64 (l3 (Sl).tt), .int .u64 (l4 (Sl).tt), .bool (Sl).so, .bool (Sl).mn.b, .int .u64 (l0 (Sl).mn.n), .int .u64 (l1 (Sl).mn.n), .int .u64 (l2 (Sl).mn.n), .int .u64 (l3 (Sl).mn.n), .int .i64 (Sl).mn.s, .bool (Sl).mx.b, .int .u64 (l0 (Sl).mx.n), .int .u64 (l1 (Sl).mx.n), .int .u64 (l2 (Sl).mx.n), .int .u64 (l3 (Sl).mx.n), .int .i64 (Sl).mx.s]), vq (pt t 0), vq (pt k 0), vq (pt k 0), vq (pt k 3), vq (pt k 4), vq (pp r.p), vq (.int .i64 ((c : Nat) : Int)), vq (.int .i64 (fa)), vq (.int .i64 (l.sz)), vq (.int .i64 (fa - l.sz)), vq (.int .i64 (fa - l.sz - 1)), vq (.int .i64 (ta)), vq (.int .i64 (l.sz)), vq (.int .i64 (ta - l.sz)), vq (.int .i64 (ta - l.sz - 1)), vq (.agg #[.int .i64 (Sr).r, .int .i64 (Sr).f, .int .i64 (Sr).k, .int .i64 (Sr).d, .int .i64 (Sr).e, .int .u64 (l0 (Sr).tt), .int .u64 (l1 (Sr).tt), .int .u64 (l2 (Sr).tt), .int .u64 (l3 (Sr).tt), .int .u64 (l4 (Sr).tt), .bool (Sr).so, .bool (Sr).mn.b, .int .u64 (l0 (Sr).mn.n), .int .u64 (l1 (Sr).mn.n), .int .u64 (l2 (Sr).mn.n), .int .u64 (l3 (Sr).mn.n), .int .i64 (Sr).mn.s, .bool (Sr).mx.b, .int .u64 (l0 (Sr).mx.n), .int .u64 (l1 (Sr).mx.n), .int .u64 (l2 (Sr).mx.n), .int .u64 (l3 (Sr).mx.n), .int .i64 (Sr).mx.s])] := smos_cons (smo_vq _) (smos_cons (smo_vq _) (smos_cons (smo_vq _) (smos_cons (smo_vq _) (smos_cons (smo_vq _) (smos_cons (smo_vq _) (smos_cons (smo_vq _) (smos_cons (smo_vq _) (smos_cons (smo_vq _) (smos_cons (smo_vq _) (smos_cons (smo_vq _) (smos_cons (smo_vq _) (smos_cons (smo_vq _) (smos_cons (smo_vq _) (smos_cons (smo_vq _) (smos_cons (smo_vq _) (smos_cons (smo_vq _) (smos_nil)))))))))))))))))
            obtain ⟨G, hGd⟩ : ∃ G, G = (fun (L9 : Nat → Bool) (f9 : Nat → Value) (w9 : World) => (L9 16 = false → Mo w7 w9) ∧ (L9 16 = true → ∃ lk9, HS D w9 t mb R root lk9 ∧ (lk2) ≤ lk9 ∧ pbd (fa - l.sz - 1) (ta - l.sz - 1) r.sz r.ht (lk2) lk9 ∧ Mk D w7 w9)) := ⟨_, rfl⟩
            have hgr : ∀ (i : Nat) (v : Value), i ≠ 16 → ∀ (L9 : Nat → Bool) (f9 : Nat → Value) (a b : World), G L9 f9 a → L9 i = false → Mo a b → G (updB L9 i) (upd f9 i v) b := by
              intro i v h5 L9 f9 a b h _ m
              rw [hGd] at h ⊢
              simp only [updB_ne (Ne.symm h5)]
              exact ⟨fun x => (h.1 x).trans m, fun x => (by obtain ⟨y, q1, q2, q3, q4⟩ := h.2 x; exact ⟨y, q1.mo m, q2, q3, q4.trans m⟩)⟩
            have hsee : ∀ (L9 : Nat → Bool) (f9 : Nat → Value) (a : World), G L9 f9 a → (∃ lk9, HS D a t mb R root lk9) ∧ At a k3 [.int .i64 (Sl).r, .int .i64 (Sl).f, .int .i64 (Sl).k, .int .i64 (Sl).d, .int .i64 (Sl).e, .int .u64 (l0 (Sl).tt), .int .u64 (l1 (Sl).tt), .int .u64 (l2 (Sl).tt), .int .u64 (l3 (Sl).tt), .int .u64 (l4 (Sl).tt), .bool (Sl).so, .bool (Sl).mn.b, .int .u64 (l0 (Sl).mn.n), .int .u64 (l1 (Sl).mn.n), .int .u64 (l2 (Sl).mn.n), .int .u64 (l3 (Sl).mn.n), .int .i64 (Sl).mn.s, .bool (Sl).mx.b, .int .u64 (l0 (Sl).mx.n), .int .u64 (l1 (Sl).mx.n), .int .u64 (l2 (Sl).mx.n), .int .u64 (l3 (Sl).mx.n), .int .i64 (Sl).mx.s] := by
              intro L9 f9 a h
              rw [hGd] at h
              cases e9 : L9 16 with
              | false => exact ⟨⟨_, hS.mo (h.1 e9)⟩, Q3.mo (h.1 e9)⟩
              | true => obtain ⟨y, q1, q2, q3, q4⟩ := h.2 e9; exact ⟨⟨y, q1⟩, q4.at Q3 nd_k3⟩
            refine w_ogl 17 G [vq (.agg #[.int .i64 (Sl).r, .int .i64 (Sl).f, .int .i64 (Sl).k, .int .i64 (Sl).d, .int .i64 (Sl).e, .int .u64 (l0 (Sl).tt), .int .u64 (l1 (Sl).tt), .int .u64 (l2 (Sl).tt), .int .u64 (l3 (Sl).tt), .int .u64 (l4 (Sl).tt), .bool (Sl).so, .bool (Sl).mn.b, .int .u64 (l0 (Sl).mn.n), .int .u64 (l1 (Sl).mn.n), .int .u64 (l2 (Sl).mn.n), .int .u64 (l3 (Sl).mn.n), .int .i64 (Sl).mn.s, .bool (Sl).mx.b, .int .u64 (l0 (Sl).mx.n), .int .u64 (l1 (Sl).mx.n), .int .u64 (l2 (Sl).mx.n), .int .u64 (l3 (Sl).mx.n), .int .i64 (Sl).mx.s]), vq (pt t 0), vq (pt k 0), vq (pt k 0), vq (pt k 3), vq (pt k 4), vq (pp r.p), vq (.int .i64 ((c : Nat) : Int)), vq (.int .i64 (fa)), vq (.int .i64 (l.sz)), vq (.int .i64 (fa - l.sz)), vq (.int .i64 (fa - l.sz - 1)), vq (.int .i64 (ta)), vq (.int .i64 (l.sz)), vq (.int .i64 (ta - l.sz)), vq (.int .i64 (ta - l.sz - 1)), vq (.agg #[.int .i64 (Sr).r, .int .i64 (Sr).f, .int .i64 (Sr).k, .int .i64 (Sr).d, .int .i64 (Sr).e, .int .u64 (l0 (Sr).tt), .int .u64 (l1 (Sr).tt), .int .u64 (l2 (Sr).tt), .int .u64 (l3 (Sr).tt), .int .u64 (l4 (Sr).tt), .bool (Sr).so, .bool (Sr).mn.b, .int .u64 (l0 (Sr).mn.n), .int .u64 (l1 (Sr).mn.n), .int .u64 (l2 (Sr).mn.n), .int .u64 (l3 (Sr).mn.n), .int .i64 (Sr).mn.s, .bool (Sr).mx.b, .int .u64 (l0 (Sr).mx.n), .int .u64 (l1 (Sr).mx.n), .int .u64 (l2 (Sr).mx.n), .int .u64 (l3 (Sr).mx.n), .int .i64 (Sr).mx.s])] (by kernel_rfl) (by kernel_rfl) (by kernel_rfl) (by kernel_rfl) rfl (fun f => by rw [hGd]; exact ⟨fun _ => (Mo.refl _).drew, (fun e => by cases e)⟩) ?_ ?_
            · refine ea_cons ?_ (ea_cons ?_ (ea_cons ?_ (ea_cons ?_ (ea_cons ?_ (ea_cons ?_ (ea_cons ?_ (ea_cons ?_ (ea_cons ?_ (ea_cons ?_ (ea_cons ?_ (ea_cons ?_ (ea_cons ?_ (ea_cons ?_ (ea_cons ?_ (ea_cons ?_ (ea_cons ?_ (ea_nil)))))))))))))))))
              · exact ol_eq (.agg #[.int .i64 (Sl).r, .int .i64 (Sl).f, .int .i64 (Sl).k, .int .i64 (Sl).d, .int .i64 (Sl).e, .int .u64 (l0 (Sl).tt), .int .u64 (l1 (Sl).tt), .int .u64 (l2 (Sl).tt), .int .u64 (l3 (Sl).tt), .int .u64 (l4 (Sl).tt), .bool (Sl).so, .bool (Sl).mn.b, .int .u64 (l0 (Sl).mn.n), .int .u64 (l1 (Sl).mn.n), .int .u64 (l2 (Sl).mn.n), .int .u64 (l3 (Sl).mn.n), .int .i64 (Sl).mn.s, .bool (Sl).mx.b, .int .u64 (l0 (Sl).mx.n), .int .u64 (l1 (Sl).mx.n), .int .u64 (l2 (Sl).mx.n), .int .u64 (l3 (Sl).mx.n), .int .i64 (Sl).mx.s]) rfl (hgr 0 _ (by decide)) hsm (fun L9 f wf hG hd K hK => have ⟨⟨_, hS⟩, Q3⟩ := hsee L9 f wf hG; go_run rfl (wo_load 42 (.tmp 11) (pt k3 0) (.agg #[.int .i64 (Sl).r, .int .i64 (Sl).f, .int .i64 (Sl).k, .int .i64 (Sl).d, .int .i64 (Sl).e, .int .u64 (l0 (Sl).tt), .int .u64 (l1 (Sl).tt), .int .u64 (l2 (Sl).tt), .int .u64 (l3 (Sl).tt), .int .u64 (l4 (Sl).tt), .bool (Sl).so, .bool (Sl).mn.b, .int .u64 (l0 (Sl).mn.n), .int .u64 (l1 (Sl).mn.n), .int .u64 (l2 (Sl).mn.n), .int .u64 (l3 (Sl).mn.n), .int .i64 (Sl).mn.s, .bool (Sl).mx.b, .int .u64 (l0 (Sl).mx.n), .int .u64 (l1 (Sl).mx.n), .int .u64 (l2 (Sl).mx.n), .int .u64 (l3 (Sl).mx.n), .int .i64 (Sl).mx.s]) rfl rfl (run_row Q3 42 0 23 [.int .i64 (Sl).r, .int .i64 (Sl).f, .int .i64 (Sl).k, .int .i64 (Sl).d, .int .i64 (Sl).e, .int .u64 (l0 (Sl).tt), .int .u64 (l1 (Sl).tt), .int .u64 (l2 (Sl).tt), .int .u64 (l3 (Sl).tt), .int .u64 (l4 (Sl).tt), .bool (Sl).so, .bool (Sl).mn.b, .int .u64 (l0 (Sl).mn.n), .int .u64 (l1 (Sl).mn.n), .int .u64 (l2 (Sl).mn.n), .int .u64 (l3 (Sl).mn.n), .int .i64 (Sl).mn.s, .bool (Sl).mx.b, .int .u64 (l0 (Sl).mx.n), .int .u64 (l1 (Sl).mx.n), .int .u64 (l2 (Sl).mx.n), .int .u64 (l3 (Sl).mx.n), .int .i64 (Sl).mx.s] rfl Try.underlying42 rfl zs42) (hK _ (Mo.refl _))))
              · exact ol_eq (pt t 0) rfl (hgr 1 _ (by decide)) hsm (fun L9 f wf hG hd K hK => go_run rfl (wo_mv (.tmp 0) (pt t 0) (fun _ => rfl) rfl (hK _ (Mo.refl _))))
              · exact ol_eq (pt k 0) rfl (hgr 2 _ (by decide)) hsm (fun L9 f wf hG hd K hK => go_run rfl (wo_mv (.tmp 1) (pt k 0) (fun _ => rfl) rfl (hK _ (Mo.refl _))))
              · exact ol_eq (pt k 0) rfl (hgr 3 _ (by decide)) hsm (fun L9 f wf hG hd K hK => go_run rfl (wo_nc (.tmp 82) k 0 rfl (hd 2 rfl) (hK _ (Mo.refl _))))
              · exact ol_eq (pt k 3) rfl (hgr 4 _ (by decide)) hsm (fun L9 f wf hG hd K hK => go_run rfl (wo_un (fun v => Instr.fieldAt 93 v 2) (.tmp 83) (pt k 0) (pt k 3) (fun _ => rfl) (hd 3 rfl) (by kernel_rfl) (hK _ (Mo.refl _))))
              · exact ol_eq (pt k 4) rfl (hgr 5 _ (by decide)) hsm (fun L9 f wf hG hd K hK => go_run rfl (wo_bin (fun x y => Instr.indexAt 91 x y) (.tmp 84) (.const (.int .i64 (1))) (pt k 3) (.int .i64 (1)) (pt k 4) (fun _ => rfl) (hd 4 rfl) rfl (by kernel_rfl) (hK _ (Mo.refl _))))
              · exact ol_eq (pp r.p) rfl (hgr 6 _ (by decide)) hsm (fun L9 f wf hG hd K hK => have ⟨⟨_, hS⟩, Q3⟩ := hsee L9 f wf hG; go_run rfl (wo_load 65 (.tmp 85) (pt k 4) (pp r.p) rfl (hd 5 rfl) (run_one (hS.rc k _ hk) 65 4 rfl Try.underlying65 rfl) (hK _ (Mo.refl _))))
              · exact ol_eq (.int .i64 ((c : Nat) : Int)) rfl (hgr 7 _ (by decide)) hsm (fun L9 f wf hG hd K hK => go_run rfl (wo_mv (.tmp 2) (.int .i64 ((c : Nat) : Int)) (fun _ => rfl) rfl (hK _ (Mo.refl _))))
              · exact ol_eq (.int .i64 (fa)) rfl (hgr 8 _ (by decide)) hsm (fun L9 f wf hG hd K hK => go_run rfl (wo_mv (.tmp 3) (.int .i64 (fa)) (fun _ => rfl) rfl (hK _ (Mo.refl _))))
              · exact ol_eq (.int .i64 (l.sz)) rfl (hgr 9 _ (by decide)) hsm (fun L9 f wf hG hd K hK => go_run rfl (wo_mv (.tmp 12) (.int .i64 (l.sz)) (fun _ => rfl) rfl (hK _ (Mo.refl _))))
              · exact ol_eq (.int .i64 (fa - l.sz)) rfl (hgr 10 _ (by decide)) hsm (fun L9 f wf hG hd K hK => go_run rfl (wo_bin (fun x y => do eqGuard .sub 3 (.tmp 88) (.tmp 89) x y; binOp .sub 3 x y) (.tmp 88) (.tmp 89) (.int .i64 (fa)) (.int .i64 (l.sz)) (.int .i64 (fa - l.sz)) (fun _ => rfl) (hd 8 rfl) (hd 9 rfl) (subI (by omega) (by omega) _ _ _) (hK _ (Mo.refl _))))
              · exact ol_eq (.int .i64 (fa - l.sz - 1)) rfl (hgr 11 _ (by decide)) hsm (fun L9 f wf hG hd K hK => go_run rfl (wo_bin (fun x y => do eqGuard .sub 3 (.tmp 90) (.const (.int .i64 (1))) x y; binOp .sub 3 x y) (.tmp 90) (.const (.int .i64 (1))) (.int .i64 (fa - l.sz)) (.int .i64 (1)) (.int .i64 (fa - l.sz - 1)) (fun _ => rfl) (hd 10 rfl) rfl (subI (by omega) (by omega) _ _ _) (hK _ (Mo.refl _))))
              · exact ol_eq (.int .i64 (ta)) rfl (hgr 12 _ (by decide)) hsm (fun L9 f wf hG hd K hK => go_run rfl (wo_mv (.tmp 4) (.int .i64 (ta)) (fun _ => rfl) rfl (hK _ (Mo.refl _))))
              · exact ol_eq (.int .i64 (l.sz)) rfl (hgr 13 _ (by decide)) hsm (fun L9 f wf hG hd K hK => go_run rfl (wo_mv (.tmp 12) (.int .i64 (l.sz)) (fun _ => rfl) rfl (hK _ (Mo.refl _))))
              · exact ol_eq (.int .i64 (ta - l.sz)) rfl (hgr 14 _ (by decide)) hsm (fun L9 f wf hG hd K hK => go_run rfl (wo_bin (fun x y => do eqGuard .sub 3 (.tmp 92) (.tmp 93) x y; binOp .sub 3 x y) (.tmp 92) (.tmp 93) (.int .i64 (ta)) (.int .i64 (l.sz)) (.int .i64 (ta - l.sz)) (fun _ => rfl) (hd 12 rfl) (hd 13 rfl) (subI (by omega) (by omega) _ _ _) (hK _ (Mo.refl _))))
              · exact ol_eq (.int .i64 (ta - l.sz - 1)) rfl (hgr 15 _ (by decide)) hsm (fun L9 f wf hG hd K hK => go_run rfl (wo_bin (fun x y => do eqGuard .sub 3 (.tmp 94) (.const (.int .i64 (1))) x y; binOp .sub 3 x y) (.tmp 94) (.const (.int .i64 (1))) (.int .i64 (ta - l.sz)) (.int .i64 (1)) (.int .i64 (ta - l.sz - 1)) (fun _ => rfl) (hd 14 rfl) rfl (subI (by omega) (by omega) _ _ _) (hK _ (Mo.refl _))))
              · refine ⟨fun L9 f wf hG hi hd K9 hK => ?_⟩
                rw [hGd] at hG
                have hmo := hG.1 hi
                have h9 := part_n r (fa := fa - l.sz - 1) (ta := ta - l.sz - 1) hc (hS.mo hmo) hr.2.2 hok.2.2 (by omega) ⟨by omega, by omega⟩ ⟨by omega, by omega⟩ (by omega) (by omega)
                rw [← hSr] at h9
                refine go_run rfl (wo_callx 33 [(.tmp 81), (.tmp 86), (.tmp 87), (.tmp 91), (.tmp 95)] _ [pt t 0, pp r.p, .int .i64 ((c : Nat) : Int), .int .i64 (fa - l.sz - 1), .int .i64 (ta - l.sz - 1)] rfl (li5 (hd 1 rfl).2 (hd 6 rfl).2 (hd 7 rfl).2 (hd 11 rfl).2 (hd 15 rfl).2) (fun _ _ => by kernel_rfl) h9 (fun e9 w9 ⟨he, lk9, q1, q2, q3, q4⟩ => ⟨_, he, hK _ w9 ?_ rfl (fun j u hj hr => ?_)⟩))
                · rw [hGd]
                  simp only [updB_eq]
                  exact ⟨fun e => (by cases e), fun _ => ⟨lk9, q1, q2, q3, (Mk.of D hmo).same q4⟩⟩
                · match j, hj, hr with
                  | 0, _, hr => exact hr
                  | 1, _, hr => exact hr
                  | 2, _, hr => exact hr
                  | 3, _, hr => exact hr
                  | 4, _, hr => exact hr
                  | 5, _, hr => exact hr
                  | 6, _, hr => exact hr
                  | 7, _, hr => exact hr
                  | 8, _, hr => exact hr
                  | 9, _, hr => exact hr
                  | 10, _, hr => exact hr
                  | 11, _, hr => exact hr
                  | 12, _, hr => exact hr
                  | 13, _, hr => exact hr
                  | 14, _, hr => exact hr
                  | 15, _, hr => exact hr
                  | 16, _, hr => exact hr
                  | j + 17, _, _ => trivial
            intro L9 f w8 hall hG hR
            rw [hGd] at hG
            obtain ⟨lk3, hS3, hl3, hl4, hM9⟩ := hG.2 (hall 16 rfl)
            have e0 := hR 0 rfl
            have e16 := hR 16 rfl
            clear hG hall hR hgr hsm hGd hsee
            replace Q1 := hM9.at Q1 nd_k1
            replace Q3 := hM9.at Q3 nd_k3
            replace hS := hS3
            replace M := M.same hM9
            clear hS3 hM9
            refine wl_bs47b (.tmp 80) (.tmp 96) Sl Sr rfl e0 e16 rfl ?_
            intro g4 w9 hk9 hq S4
            replace Q1 := Q1.mo hq
            replace Q3 := Q3.mo hq
            replace hS := hS.mo hq
            replace M := M.trans hq
            clear hk9 hq
            obtain ⟨Jg4, hJg4⟩ : ∃ X, X = [Sl, Sr].foldl jn sm0 := ⟨_, rfl⟩
            have okJg4 : Jg4.ok := by rw [hJg4]; exact fold_ok _ sm0_ok (two_ok okSl okSr)
            refine wl_call 49 [(.tmp 97)] _ [.slice (some ⟨g4, 0, none⟩) 2 2] (.agg #[.int .i64 (Jg4).r, .int .i64 (Jg4).f, .int .i64 (Jg4).k, .int .i64 (Jg4).d, .int .i64 (Jg4).e, .int .u64 (l0 (Jg4).tt), .int .u64 (l1 (Jg4).tt), .int .u64 (l2 (Jg4).tt), .int .u64 (l3 (Jg4).tt), .int .u64 (l4 (Jg4).tt), .bool (Jg4).so, .bool (Jg4).mn.b, .int .u64 (l0 (Jg4).mn.n), .int .u64 (l1 (Jg4).mn.n), .int .u64 (l2 (Jg4).mn.n), .int .u64 (l3 (Jg4).mn.n), .int .i64 (Jg4).mn.s, .bool (Jg4).mx.b, .int .u64 (l0 (Jg4).mx.n), .int .u64 (l1 (Jg4).mx.n), .int .u64 (l2 (Jg4).mx.n), .int .u64 (l3 (Jg4).mx.n), .int .i64 (Jg4).mx.s]) rfl rfl (fun _ _ => by kernel_rfl) (by have h9 := join_n [Sl, Sr] (some ⟨g4, 0, none⟩) 2 (two_ok okSl okSr) S4 (show 2 ≤ 900000000000000000 by decide); rw [← hJg4] at h9; exact h9) rfl ?_
            intro w10 hq
            replace Q1 := Q1.mo hq
            replace Q3 := Q3.mo hq
            replace hS := hS.mo hq
            replace M := M.trans hq
            clear hq
            refine wl_stx2 42 (.tmp 10) (.tmp 98) k1 0 #[.int .i64 (Jg4).r, .int .i64 (Jg4).f, .int .i64 (Jg4).k, .int .i64 (Jg4).d, .int .i64 (Jg4).e, .int .u64 (l0 (Jg4).tt), .int .u64 (l1 (Jg4).tt), .int .u64 (l2 (Jg4).tt), .int .u64 (l3 (Jg4).tt), .int .u64 (l4 (Jg4).tt), .bool (Jg4).so, .bool (Jg4).mn.b, .int .u64 (l0 (Jg4).mn.n), .int .u64 (l1 (Jg4).mn.n), .int .u64 (l2 (Jg4).mn.n), .int .u64 (l3 (Jg4).mn.n), .int .i64 (Jg4).mn.s, .bool (Jg4).mx.b, .int .u64 (l0 (Jg4).mx.n), .int .u64 (l1 (Jg4).mx.n), .int .u64 (l2 (Jg4).mx.n), .int .u64 (l3 (Jg4).mx.n), .int .i64 (Jg4).mx.s] [.int .i64 0, .int .i64 0, .int .i64 0, .int .i64 0, .int .i64 0, .int .u64 0, .int .u64 0, .int .u64 0, .int .u64 0, .int .u64 0, .bool false, .bool false, .int .u64 0, .int .u64 0, .int .u64 0, .int .u64 0, .int .i64 0, .bool false, .int .u64 0, .int .u64 0, .int .u64 0, .int .u64 0, .int .i64 0] [.int .i64 (Jg4).r, .int .i64 (Jg4).f, .int .i64 (Jg4).k, .int .i64 (Jg4).d, .int .i64 (Jg4).e, .int .u64 (l0 (Jg4).tt), .int .u64 (l1 (Jg4).tt), .int .u64 (l2 (Jg4).tt), .int .u64 (l3 (Jg4).tt), .int .u64 (l4 (Jg4).tt), .bool (Jg4).so, .bool (Jg4).mn.b, .int .u64 (l0 (Jg4).mn.n), .int .u64 (l1 (Jg4).mn.n), .int .u64 (l2 (Jg4).mn.n), .int .u64 (l3 (Jg4).mn.n), .int .i64 (Jg4).mn.s, .bool (Jg4).mx.b, .int .u64 (l0 (Jg4).mx.n), .int .u64 (l1 (Jg4).mx.n), .int .u64 (l2 (Jg4).mx.n), .int .u64 (l3 (Jg4).mx.n), .int .i64 (Jg4).mx.s] Q1 rfl rfl rfl rfl rfl zs42 rfl rfl rfl ?_
            intro w11 hT Qn
            replace Q1 := Qn
            replace Q3 := hT.other _ _ ne_k1_k3.symm Q3
            have hK := Mk.st1 hT
            replace hS := hS.kept hK (fun j e q => nd_k1 (q ▸ e)) (fun b hb q => ns_k1 b hb q)
            replace M := M.tr hK (fun j hj e => absurd e (by omega))
            clear hT hK Qn
            refine w_nil ?_
            refine xn_then ?_
            refine w_ret ?_
            exact w_ret1 _ (.agg #[.int .i64 (Jg4).r, .int .i64 (Jg4).f, .int .i64 (Jg4).k, .int .i64 (Jg4).d, .int .i64 (Jg4).e, .int .u64 (l0 (Jg4).tt), .int .u64 (l1 (Jg4).tt), .int .u64 (l2 (Jg4).tt), .int .u64 (l3 (Jg4).tt), .int .u64 (l4 (Jg4).tt), .bool (Jg4).so, .bool (Jg4).mn.b, .int .u64 (l0 (Jg4).mn.n), .int .u64 (l1 (Jg4).mn.n), .int .u64 (l2 (Jg4).mn.n), .int .u64 (l3 (Jg4).mn.n), .int .i64 (Jg4).mn.s, .bool (Jg4).mx.b, .int .u64 (l0 (Jg4).mx.n), .int .u64 (l1 (Jg4).mx.n), .int .u64 (l2 (Jg4).mx.n), .int .u64 (l3 (Jg4).mx.n), .int .i64 (Jg4).mx.s]) rfl ⟨k1, rfl, (run_row Q1 42 0 23 [.int .i64 (Jg4).r, .int .i64 (Jg4).f, .int .i64 (Jg4).k, .int .i64 (Jg4).d, .int .i64 (Jg4).e, .int .u64 (l0 (Jg4).tt), .int .u64 (l1 (Jg4).tt), .int .u64 (l2 (Jg4).tt), .int .u64 (l3 (Jg4).tt), .int .u64 (l4 (Jg4).tt), .bool (Jg4).so, .bool (Jg4).mn.b, .int .u64 (l0 (Jg4).mn.n), .int .u64 (l1 (Jg4).mn.n), .int .u64 (l2 (Jg4).mn.n), .int .u64 (l3 (Jg4).mn.n), .int .i64 (Jg4).mn.s, .bool (Jg4).mx.b, .int .u64 (l0 (Jg4).mx.n), .int .u64 (l1 (Jg4).mx.n), .int .u64 (l2 (Jg4).mx.n), .int .u64 (l3 (Jg4).mx.n), .int .i64 (Jg4).mx.s] rfl Try.underlying42 rfl zs42)⟩ ⟨by show _ = Ending.returned (smv (prt c (mb.sc.getD c 0) fa ta (l.ids ++ i :: r.ids))); rw [(show prt c (mb.sc.getD c 0) fa ta (l.ids ++ i :: r.ids) = Jg4 by rw [hJg4, hSl, hSr]; exact (prt_out hlz hokl hokr (by have := of_decide_eq_false hf0; have := of_decide_eq_false hf1; have := of_decide_eq_false hf2; have := of_decide_eq_false hf3; omega)).symm)], _, hS, by have := of_decide_eq_false hf0; have := of_decide_eq_false hf1; have := of_decide_eq_false hf2; have := of_decide_eq_false hf3; omega, by have := of_decide_eq_false hf0; have := of_decide_eq_false hf1; have := of_decide_eq_false hf2; have := of_decide_eq_false hf3; unfold pbd at *; refine ⟨by omega, fun _ => by omega, fun _ => by omega⟩, M⟩
end
end G
end Go.Proofs.Ythfemlhmnjfjiaa
