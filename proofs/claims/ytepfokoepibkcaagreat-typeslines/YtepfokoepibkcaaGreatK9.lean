/-
  Kind.
-/
import Derived.Test.YtepfokoepibkcaaGreatK8
namespace Go.Proofs.YtepfokoepibkcaaGreat
open Go.RowKit D
/-- What copies of a definition's sections want: no list is longer than memory. -/
def FB (d : Df) : Prop := ∀ x ∈ fla d, x.items.length ≤ 606627104962 ∧ ∀ y ∈ x.items, AB y.ex
theorem knd_no {d : Df} {s : Int} {x : Ex} (h : s < 0 ∨ ((fla d).length : Int) ≤ s) : knd d s x = (0, 4) := by unfold knd; rw [if_pos h]
theorem knd_of {d : Df} {n : Nat} {x : Ex} (h : n < (fla d).length) : knd d ((n : Nat) : Int) x = kdK d (fla d) n x := by unfold knd; rw [if_neg (by omega)]; rfl
theorem Wf3.wf {L : List S5} (h : Wf3 L) : Wf L := fun i x hx => ⟨(h i x hx).1, (h i x hx).2.1⟩
theorem kind_p {d : Df} {x : Ex} {w : World} (hD : LDf w d) (hL : LEx w x) (hB : FB d) (hA : AB x) (n : Nat) : Calls Tryz.prog 9 #[.agg (d.cells).toArray, .int .i64 ((n : Nat) : Int), .agg (x.cells).toArray] w fun e w' => e = .returned (tu2 (knd d n x)) ∧ Mo w w' := by
  refine w_enter 27 Tryz.func9 Tryz.ntmps9 rfl rfl ?_
  have M : Mo w w := Mo.refl _
  refine w_seq ?_
  refine w_reg ?_
  refine wl_box 29 (.tmp 0) (.agg (d.cells).toArray) (((d.cells).toArray)) rfl rfl (fun _ => by kernel_rfl) rfl ?_
  intro k1 u1 hk hz hq Q1
  have N_k1 : w.heap.size ≤ k1 := by have := M.size; omega
  replace M := M.trans hq
  clear hk hz hq
  refine wl_box 52 (.tmp 2) (.agg (x.cells).toArray) (((x.cells).toArray)) rfl rfl (fun _ => by kernel_rfl) rfl ?_
  intro k2 u2 hk hz hq Q2
  have ne_k1_k2 : k1 ≠ k2 := by have := Q1.lt; omega
  have N_k2 : w.heap.size ≤ k2 := by have := M.size; omega
  replace Q1 := Q1.mo hq
  replace M := M.trans hq
  clear hk hz hq
  refine wl_mv (.const (.int .i64 (0))) (.int .i64 (0)) (fun _ => rfl) rfl rfl ?_
  refine wl_mv (.const (.int .i64 (0))) (.int .i64 (0)) (fun _ => rfl) rfl rfl ?_
  refine w_nil ?_
  refine xn_then ?_
  refine w_seq ?_
  refine w_reg ?_
  refine wl_load 29 (.tmp 3) (pt k1 0) (.agg (d.cells).toArray) rfl rfl (run_row Q1 29 0 7 (d.cells) rfl Tryz.underlying29 rfl sz29) rfl ?_
  refine wl_callx 11 [(.tmp 9)] _ [.agg (d.cells).toArray] rfl rfl (fun _ _ => by kernel_rfl) (pflat_n d (hD.kp M.kp) hB) rfl ?_
  rintro e9 u3 ⟨pa, cap, R, rfl, hkey6, hSR, hIR, hq⟩
  have hkey := keys56 hkey6
  refine ⟨_, rfl, ?_⟩
  replace Q1 := Q1.mo hq
  replace Q2 := Q2.mo hq
  replace M := M.trans hq
  clear hq
  have hlen := key_len hkey
  refine wl_mv (.tmp 10) (.slice pa R.length cap) (fun _ => rfl) rfl rfl ?_
  refine w_nil ?_
  refine xn_then ?_
  refine w_seq ?_
  refine w_seq ?_
  refine w_reg ?_
  refine wl_mv (.tmp 1) (.int .i64 ((n : Nat) : Int)) (fun _ => rfl) rfl rfl ?_
  refine wl_bin (fun x y => do eqGuard .lss 3 (.tmp 11) (.const (.int .i64 (0))) x y; binOp .lss 3 x y) (.tmp 11) (.const (.int .i64 (0))) (.int .i64 ((n : Nat) : Int)) (.int .i64 (0)) (.bool false) (fun _ => rfl) rfl rfl (ltN (decide_eq_false (Nat.not_lt_zero n)) _ _ _) rfl ?_
  refine wl_mv (.tmp 12) (.bool false) (fun _ => rfl) rfl rfl ?_
  refine wl_mv (.tmp 1) (.int .i64 ((n : Nat) : Int)) (fun _ => rfl) rfl rfl ?_
  refine wl_mv (.tmp 8) (.slice pa R.length cap) (fun _ => rfl) rfl rfl ?_
  refine wl_val (.int .i64 ((R.length : Nat) : Int)) (len37 _ _ _ _ _ (by exact rfl) _ _ _ _ _ _) rfl ?_
  cases hf0 : decide (((R.length : Nat) : Int) ≤ ((n : Nat) : Int)) with
  | true =>
    have hf0p := of_decide_eq_true hf0
    refine wl_bin (fun x y => do eqGuard .geq 3 (.tmp 14) (.tmp 16) x y; binOp .geq 3 x y) (.tmp 14) (.tmp 16) (.int .i64 ((n : Nat) : Int)) (.int .i64 ((R.length : Nat) : Int)) (.bool true) (fun _ => rfl) rfl rfl (ge3 hf0 _ _ _) rfl ?_
    refine wl_pick (.tmp 13) (.const (.bool true)) (.tmp 17) false (.bool true) (fun _ => rfl) rfl rfl rfl ?_
    refine w_nil ?_
    refine xn_then ?_
    refine w_condT rfl ?_
    refine w_seq ?_
    refine w_reg ?_
    refine wl_mv (.const (.int .i64 (0))) (.int .i64 (0)) (fun _ => rfl) rfl rfl ?_
    refine wl_mv (.const (.int .i64 (4))) (.int .i64 (4)) (fun _ => rfl) rfl rfl ?_
    refine w_nil ?_
    refine xn_then ?_
    refine w_ret ?_
    refine xr_then ?_
    exact w_ret2 _ _ (.int .i64 (0)) (.int .i64 (4)) rfl rfl rfl ⟨by rw [knd_no (Or.inr (by omega))], M⟩
  | false =>
    have hf0p := of_decide_eq_false hf0
    refine wl_bin (fun x y => do eqGuard .geq 3 (.tmp 14) (.tmp 16) x y; binOp .geq 3 x y) (.tmp 14) (.tmp 16) (.int .i64 ((n : Nat) : Int)) (.int .i64 ((R.length : Nat) : Int)) (.bool false) (fun _ => rfl) rfl rfl (ge3 hf0 _ _ _) rfl ?_
    refine wl_pick (.tmp 13) (.const (.bool true)) (.tmp 17) false (.bool false) (fun _ => rfl) rfl rfl rfl ?_
    refine w_nil ?_
    refine xn_then ?_
    refine w_condF rfl ?_
    refine w_skip ?_
    refine xn_then ?_
    refine w_seq ?_
    refine w_reg ?_
    refine wl_load 29 (.tmp 3) (pt k1 0) (.agg (d.cells).toArray) rfl rfl (run_row Q1 29 0 7 (d.cells) rfl Tryz.underlying29 rfl sz29) rfl ?_
    refine wl_mv (.tmp 8) (.slice pa R.length cap) (fun _ => rfl) rfl rfl ?_
    refine wl_mv (.tmp 1) (.int .i64 ((n : Nat) : Int)) (fun _ => rfl) rfl rfl ?_
    refine wl_build 65 [(0, (.tmp 19)), (1, (.tmp 20)), (2, (.tmp 21))] [(0, .agg (d.cells).toArray), (1, .slice pa R.length cap), (2, .int .i64 ((n : Nat) : Int))] (.agg #[.string d.nm, .string d.rt.nm, .int .i64 d.rt.mx, .slice d.rt.pi d.rt.items.length d.rt.ci, .slice d.rt.pk d.rt.kids.length d.rt.ck, .slice d.pt d.tb.length d.ct, .slice d.pp d.pg.length d.cp, .slice pa R.length cap, .int .i64 ((n : Nat) : Int)]) rfl rfl (by kernel_rfl) rfl ?_
    refine wl_load 52 (.tmp 5) (pt k2 0) (.agg (x.cells).toArray) rfl rfl (run_row Q2 52 0 17 (x.cells) rfl Tryz.underlying52 rfl sz52) rfl ?_
    refine wl_call 21 [(.tmp 22), (.tmp 23)] _ [.agg #[.string d.nm, .string d.rt.nm, .int .i64 d.rt.mx, .slice d.rt.pi d.rt.items.length d.rt.ci, .slice d.rt.pk d.rt.kids.length d.rt.ck, .slice d.pt d.tb.length d.ct, .slice d.pp d.pg.length d.cp, .slice pa R.length cap, .int .i64 ((n : Nat) : Int)], .agg (x.cells).toArray] (.tuple #[.int .i64 ((kdK d R n x).1), .int .i64 ((kdK d R n x).2)]) rfl rfl (fun _ _ => by kernel_rfl) (kdK_n cap x (hL.kp M.kp) ⟨hD.kp M.kp, hSR, fun x hx => (hIR x hx).it, (fla_wf d).wf.key hkey, by have := fla_len d; omega, by omega⟩ hA) rfl ?_
    intro u4 hq
    replace Q1 := Q1.mo hq
    replace Q2 := Q2.mo hq
    replace M := M.trans hq
    clear hq
    refine wl_un (fun v => Instr.extract v 0) (.tmp 24) (.tuple #[.int .i64 ((kdK d R n x).1), .int .i64 ((kdK d R n x).2)]) (.int .i64 ((kdK d R n x).1)) (fun _ => rfl) rfl (by kernel_rfl) rfl ?_
    refine wl_un (fun v => Instr.extract v 1) (.tmp 24) (.tuple #[.int .i64 ((kdK d R n x).1), .int .i64 ((kdK d R n x).2)]) (.int .i64 ((kdK d R n x).2)) (fun _ => rfl) rfl (by kernel_rfl) rfl ?_
    refine wl_mv (.tmp 25) (.int .i64 ((kdK d R n x).1)) (fun _ => rfl) rfl rfl ?_
    refine wl_mv (.tmp 26) (.int .i64 ((kdK d R n x).2)) (fun _ => rfl) rfl rfl ?_
    refine w_nil ?_
    refine xn_then ?_
    refine w_ret ?_
    exact w_ret2 _ _ (.int .i64 ((kdK d R n x).1)) (.int .i64 ((kdK d R n x).2)) rfl rfl rfl ⟨by rw [knd_of (by omega), ← kdK_key hkey], M⟩
theorem kind_m {d : Df} {x : Ex} {w : World} (hD : LDf w d) (hB : FB d) (s : Int) (hs : s < 0) : Calls Tryz.prog 9 #[.agg (d.cells).toArray, .int .i64 s, .agg (x.cells).toArray] w fun e w' => e = .returned (tu2 (knd d s x)) ∧ Mo w w' := by
  refine w_enter 27 Tryz.func9 Tryz.ntmps9 rfl rfl ?_
  have M : Mo w w := Mo.refl _
  refine w_seq ?_
  refine w_reg ?_
  refine wl_box 29 (.tmp 0) (.agg (d.cells).toArray) (((d.cells).toArray)) rfl rfl (fun _ => by kernel_rfl) rfl ?_
  intro k1 u1 hk hz hq Q1
  have N_k1 : w.heap.size ≤ k1 := by have := M.size; omega
  replace M := M.trans hq
  clear hk hz hq
  refine wl_box 52 (.tmp 2) (.agg (x.cells).toArray) (((x.cells).toArray)) rfl rfl (fun _ => by kernel_rfl) rfl ?_
  intro k2 u2 hk hz hq Q2
  have ne_k1_k2 : k1 ≠ k2 := by have := Q1.lt; omega
  have N_k2 : w.heap.size ≤ k2 := by have := M.size; omega
  replace Q1 := Q1.mo hq
  replace M := M.trans hq
  clear hk hz hq
  refine wl_mv (.const (.int .i64 (0))) (.int .i64 (0)) (fun _ => rfl) rfl rfl ?_
  refine wl_mv (.const (.int .i64 (0))) (.int .i64 (0)) (fun _ => rfl) rfl rfl ?_
  refine w_nil ?_
  refine xn_then ?_
  refine w_seq ?_
  refine w_reg ?_
  refine wl_load 29 (.tmp 3) (pt k1 0) (.agg (d.cells).toArray) rfl rfl (run_row Q1 29 0 7 (d.cells) rfl Tryz.underlying29 rfl sz29) rfl ?_
  refine wl_callx 11 [(.tmp 9)] _ [.agg (d.cells).toArray] rfl rfl (fun _ _ => by kernel_rfl) (pflat_n d (hD.kp M.kp) hB) rfl ?_
  rintro e9 u3 ⟨pa, cap, R, rfl, hkey6, hSR, hIR, hq⟩
  have hkey := keys56 hkey6
  refine ⟨_, rfl, ?_⟩
  replace Q1 := Q1.mo hq
  replace Q2 := Q2.mo hq
  replace M := M.trans hq
  clear hq
  refine wl_mv (.tmp 10) (.slice pa R.length cap) (fun _ => rfl) rfl rfl ?_
  refine w_nil ?_
  refine xn_then ?_
  refine w_seq ?_
  refine w_seq ?_
  refine w_reg ?_
  refine wl_mv (.tmp 1) (.int .i64 (s)) (fun _ => rfl) rfl rfl ?_
  refine wl_bin (fun x y => do eqGuard .lss 3 (.tmp 11) (.const (.int .i64 (0))) x y; binOp .lss 3 x y) (.tmp 11) (.const (.int .i64 (0))) (.int .i64 (s)) (.int .i64 (0)) (.bool true) (fun _ => rfl) rfl rfl (lt3 (decide_eq_true hs) _ _ _) rfl ?_
  refine wl_mv (.tmp 12) (.bool true) (fun _ => rfl) rfl rfl ?_
  refine wl_skip rfl ?_
  refine wl_skip rfl ?_
  refine wl_skip rfl ?_
  refine wl_skip rfl ?_
  refine wl_pick (.tmp 13) (.const (.bool true)) (.tmp 17) true (.bool true) (fun _ => rfl) rfl rfl rfl ?_
  refine w_nil ?_
  refine xn_then ?_
  refine w_condT rfl ?_
  refine w_seq ?_
  refine w_reg ?_
  refine wl_mv (.const (.int .i64 (0))) (.int .i64 (0)) (fun _ => rfl) rfl rfl ?_
  refine wl_mv (.const (.int .i64 (4))) (.int .i64 (4)) (fun _ => rfl) rfl rfl ?_
  refine w_nil ?_
  refine xn_then ?_
  refine w_ret ?_
  refine xr_then ?_
  exact w_ret2 _ _ (.int .i64 (0)) (.int .i64 (4)) rfl rfl rfl ⟨by rw [knd_no (Or.inl hs)], M⟩
/-- Kind, whatever the section. -/
theorem kind_n {d : Df} {x : Ex} {w : World} (hD : LDf w d) (hL : LEx w x) (hB : FB d) (hA : AB x) (s : Int) : Calls Tryz.prog 9 #[.agg (d.cells).toArray, .int .i64 s, .agg (x.cells).toArray] w fun e w' => e = .returned (tu2 (knd d s x)) ∧ Mo w w' := by
  rcases Int.lt_or_le s 0 with h | h
  · exact kind_m hD hB s h
  · obtain ⟨n, rfl⟩ : ∃ n : Nat, s = n := ⟨s.toNat, by omega⟩
    exact kind_p hD hL hB hA n
end Go.Proofs.YtepfokoepibkcaaGreat
