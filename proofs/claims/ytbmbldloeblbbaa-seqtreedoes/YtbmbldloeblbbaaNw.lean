/-
  The tree's New; the document's Bits.
-/
import Derived.Test.YtbmbldloeblbbaaBw
namespace Go.Proofs.Ytbmbldloeblbbaa
open Go.RowKit
theorem Mo.allocm (w : World) : Mo w (w.alloc (.map #[] 0)) := ⟨(Below.refl _ _).alloc (Nat.le_refl _) _, fun a => frozen?_alloc_map w #[] 0 a⟩
section
variable {o : Oper} {n : Nat} {l : List (Nat × Value)} {w : World} {ops : Array Oper} {rest : List Oper} {Q : Exit → Act → World → Prop}
theorem wl_mkm (ho : o.op = .makeMap 57 none) (hg : wnt n l ops o = true)
    (hk : ∀ b w', w.heap.size = b → w'.heap.size = b + 1 → Mo w w' → OM w' b (fun _ => none) 0 → WL Try.prog ops Q rest n (ext l o.dst (.map (some b))) w') : WL Try.prog ops Q (o :: rest) n l w :=
  ⟨l_step hg (o_val (.map (some w.heap.size)) (w' := w.alloc (.map #[] 0)) (by
    have h57 := run_makeMap (P := Try.prog) 57 w
    simp [execOp, ho, h57]) (hk _ _ rfl (by simp) (Mo.allocm w) (OM.new w)).out)⟩
end
section
variable {w : World}
theorem new_n (w : World) : Calls Try.prog 8 #[] w fun e w' => ∃ (t mb : Nat) (D : Nat → Prop), e = .returned (pt t 0) ∧ FT D w' t mb .e 0 ∧ (∀ j, D j → w.heap.size ≤ j) ∧ w.heap.size ≤ mb ∧ Mo w w' := by
  refine w_enter 4 Try.func8 Try.ntmps8 rfl rfl ?_
  have M : Mo w w := Mo.refl _
  refine w_seq ?_
  refine w_reg ?_
  refine wl_mv (.const (.pointer none)) (pp none) (fun _ => rfl) rfl rfl ?_
  refine w_nil ?_
  refine xn_then ?_
  refine w_seq ?_
  refine w_reg ?_
  refine wl_mkm rfl rfl ?_
  intro mb w1 hb hz hq hM
  have hmb : w.heap.size ≤ mb := by have := M.size; omega
  replace M := M.trans hq
  clear hz hq
  refine wl_build 59 [(1, (.tmp 1))] [(1, .map (some mb))] (.agg #[.pointer none, .map (some mb), .int .i64 0]) rfl rfl (by kernel_rfl) rfl ?_
  refine wl_boxc 59 (.tmp 2) (.agg #[.pointer none, .map (some mb), .int .i64 0]) (#[.pointer none, .map (some mb), .int .i64 0]) rfl rfl (fun _ => by kernel_rfl) rfl ?_
  intro t w2 hk hz hq hA hcb
  have hmt : mb < t := by have := hM.lt; omega
  replace hM := hM.mo hq
  replace M := M.trans hq
  refine wl_mv (.tmp 3) (pt t 0) (fun _ => rfl) rfl rfl ?_
  refine w_nil ?_
  refine xn_then ?_
  refine w_ret ?_
  exact w_ret1 _ (pt t 0) rfl rfl ⟨t, mb, fun j => j = t, rfl, ⟨⟨fun _ => none, none, ⟨hA, fun _ _ e => (by cases e), fun _ _ e => (by cases e), rfl, fun j => (by simp), fun e => (by omega)⟩, rfl, trivial, by simp [adC, T.ad]⟩, hM, trivial, by simp [T.ids], fun _ m => (by cases m), by simp [T.sz], Int.le_refl _⟩, fun j e => (by omega), hmb, M⟩
theorem quo2 {n : Nat} (h : n ≤ 9223372036854775807) (x y : Operand) (w : World) : (do eqGuard .quo 3 x y (.int .i64 (n : Int)) (.int .i64 2); binOp .quo 3 (.int .i64 (n : Int)) (.int .i64 2)).run Try.prog w = .ok (.int .i64 ((n / 2 : Nat) : Int)) w := by
  have e : (do eqGuard .quo 3 x y (.int .i64 (n : Int)) (.int .i64 2); binOp .quo 3 (.int .i64 (n : Int)) (.int .i64 2)).run Try.prog w = .ok (.int .i64 (IntKind.i64.wrap (Int.tdiv (n : Int) 2))) w := by kernel_rfl
  have h2 : IntKind.i64.wrap (Int.tdiv (n : Int) 2) = ((n / 2 : Nat) : Int) := by
    rw [Int.tdiv_eq_ediv_of_nonneg (by omega), IntKind.wrap_i64]; omega
  rw [e, h2]
theorem bits_n (n : Nat) (w : World) (hn : n ≤ 1000000) (hb : bitc n ≤ 100000) : Calls Try.prog 23 #[.int .i64 (n : Int)] w fun e w' => e = .returned (.int .i64 (bitc n : Int)) ∧ Mo w w' := by
  refine w_enter 11 Try.func23 Try.ntmps23 rfl rfl ?_
  have M : Mo w w := Mo.refl _
  refine w_seq ?_
  refine w_reg ?_
  refine wl_mv (.const (.int .i64 (0))) (.int .i64 (0)) (fun _ => rfl) rfl rfl ?_
  refine w_nil ?_
  refine xn_then ?_
  refine w_seq ?_
  refine w_reg ?_
  refine wl_mv (.const (.int .i64 (0))) (.int .i64 (0)) (fun _ => rfl) rfl rfl ?_
  refine w_nil ?_
  refine xn_then ?_
  refine w_seq ?_
  refine w_block ?_
  refine w_loop (fun m l w1 => ∃ k : Nat, look l 0 = .int .i64 (m : Int) ∧ look l 3 = .int .i64 (k : Int) ∧ k + bitc m = bitc n ∧ m ≤ n ∧ Mo w w1) n ⟨0, rfl, rfl, by omega, Nat.le_refl _, M⟩ ?_
  clear M
  rintro m l wl ⟨k, e0, e3, hk, hm, M⟩
  refine w_seq ?_
  refine w_seq ?_
  cases hf0 : decide (0 < m) with
  | true =>
    have hf0p := of_decide_eq_true hf0
    refine w_reg ?_
    refine wl_mv (.tmp 0) (.int .i64 ((m : Nat) : Int)) (fun _ => rfl) e0 rfl ?_
    refine wl_bin (fun x y => do eqGuard .gtr 3 (.tmp 4) (.const (.int .i64 (0))) x y; binOp .gtr 3 x y) (.tmp 4) (.const (.int .i64 (0))) (.int .i64 ((m : Nat) : Int)) (.int .i64 (0)) (.bool true) (fun _ => rfl) rfl rfl (gtI (by rw [← hf0]; exact decide_eq_decide.2 (by omega)) _ _ _) rfl ?_
    refine w_nil ?_
    refine xn_then ?_
    refine w_condT rfl ?_
    refine w_skip ?_
    refine xn_then ?_
    refine w_block ?_
    refine w_seq ?_
    refine w_reg ?_
    refine wl_mv (.tmp 0) (.int .i64 ((m : Nat) : Int)) (fun _ => rfl) e0 rfl ?_
    refine wl_bin (fun x y => do eqGuard .quo 3 (.tmp 6) (.const (.int .i64 (2))) x y; binOp .quo 3 x y) (.tmp 6) (.const (.int .i64 (2))) (.int .i64 ((m : Nat) : Int)) (.int .i64 (2)) (.int .i64 ((m / 2 : Nat) : Int)) (fun _ => rfl) rfl rfl (quo2 (by omega) _ _ _) rfl ?_
    refine wl_mv (.tmp 7) (.int .i64 ((m / 2 : Nat) : Int)) (fun _ => rfl) rfl rfl ?_
    refine w_nil ?_
    refine xn_then ?_
    refine w_reg ?_
    refine wl_mv (.tmp 3) (.int .i64 ((k : Nat) : Int)) (fun _ => rfl) e3 rfl ?_
    refine wl_bin (fun x y => do eqGuard .add 3 (.tmp 8) (.const (.int .i64 (1))) x y; binOp .add 3 x y) (.tmp 8) (.const (.int .i64 (1))) (.int .i64 ((k : Nat) : Int)) (.int .i64 (1)) (.int .i64 ((k + 1 : Nat) : Int)) (fun _ => rfl) rfl rfl (add1r (k := k) (by omega) _ _ _) rfl ?_
    refine wl_mv (.tmp 9) (.int .i64 ((k + 1 : Nat) : Int)) (fun _ => rfl) rfl rfl ?_
    refine w_nil ?_
    refine xn_blk ?_
    exact xn_loop (m / 2) (by omega) ⟨k + 1, rfl, rfl, by rw [bitc_s (show m ≠ 0 by omega)] at hk; omega, by omega, M⟩
  | false =>
    have hf0p := of_decide_eq_false hf0
    refine w_reg ?_
    refine wl_mv (.tmp 0) (.int .i64 ((m : Nat) : Int)) (fun _ => rfl) e0 rfl ?_
    refine wl_bin (fun x y => do eqGuard .gtr 3 (.tmp 4) (.const (.int .i64 (0))) x y; binOp .gtr 3 x y) (.tmp 4) (.const (.int .i64 (0))) (.int .i64 ((m : Nat) : Int)) (.int .i64 (0)) (.bool false) (fun _ => rfl) rfl rfl (gtI (by rw [← hf0]; exact decide_eq_decide.2 (by omega)) _ _ _) rfl ?_
    refine w_nil ?_
    refine xn_then ?_
    refine w_condF rfl ?_
    refine w_exit ?_
    refine xx_then ?_
    refine xx_then ?_
    refine xx_blk ?_
    refine xn_then ?_
    refine w_seq ?_
    refine w_reg ?_
    refine wl_mv (.tmp 3) (.int .i64 ((k : Nat) : Int)) (fun _ => rfl) e3 rfl ?_
    refine wl_mv (.tmp 10) (.int .i64 ((k : Nat) : Int)) (fun _ => rfl) rfl rfl ?_
    refine w_nil ?_
    refine xn_then ?_
    refine w_ret ?_
    have hm0 : m = 0 := by omega
    rw [hm0, bitc_0] at hk
    have hkn : k = bitc n := by omega
    exact w_ret1 _ (.int .i64 ((k : Nat) : Int)) rfl rfl ⟨by rw [hkn], M⟩
end
end Go.Proofs.Ytbmbldloeblbbaa
