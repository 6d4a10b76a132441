/-
  begun: three ids put in, and one moved.
-/
import Derived.Test.YtbmbldloeblbbaaGt
namespace Go.Proofs.Ytbmbldloeblbbaa
open Go.RowKit
theorem GT.st {n0 : Nat} {ks : List Nat} {w w' : World} {t mb : Nat} {tr : T} {lk : Int} (h : GT n0 ks w t mb tr lk) {k : Nat} (s : St2 k w w') (hk : k ∈ ks) : GT n0 ks w' t mb tr lk := by
  obtain ⟨h1, h2, D, h3, h4⟩ := h
  have hK : Mk (fun j => j = k) w w' := (Mk.refl _ _).st s rfl
  obtain ⟨R, root, hS, hC, hR, hn⟩ := h3.ts
  have hD : ∀ j, D j → j ≠ k := fun j e q => (h4 j (Or.inl e)).2 (by rw [q]; exact hk)
  exact ⟨Nat.le_trans h1 hK.size, fun j e => Nat.lt_of_lt_of_le (h2 j e) hK.size, D, ⟨⟨R, root, hS.kept hK hD, hC, hR, hn⟩, h3.om.mk hK (fun q => (h4 mb (Or.inr rfl)).2 (by rw [q]; exact hk)), h3.ok, h3.nd, h3.rg, h3.le, h3.l0⟩, h4⟩
section
variable {w : World}
theorem begun_n (w : World) : Calls Try.prog 9 #[] w fun e w' => e = .returned (.bool true) ∧ Mo w w' := by
  refine w_enter 57 Try.func9 Try.ntmps9 rfl rfl ?_
  have M : Mo w w := Mo.refl _
  refine w_seq ?_
  refine w_reg ?_
  refine wl_mv (.const (.bool false)) (.bool false) (fun _ => rfl) rfl rfl ?_
  refine w_nil ?_
  refine xn_then ?_
  refine w_seq ?_
  refine w_reg ?_
  refine wl_callx 8 [] _ [] rfl rfl (fun _ _ => by kernel_rfl) (new_g (n0 := w.heap.size) (ks := []) _ M.size (fun _ e => by cases e)) rfl ?_
  rintro _ w1 ⟨t, mb, rfl, hG, hq⟩
  refine ⟨_, rfl, ?_⟩
  replace M := M.trans hq
  clear hq
  refine wl_mv (.tmp 6) (pt t 0) (fun _ => rfl) rfl rfl ?_
  refine w_nil ?_
  refine xn_then ?_
  refine w_seq ?_
  refine w_seq ?_
  refine w_reg ?_
  refine wl_mv (.tmp 1) (pt t 0) (fun _ => rfl) rfl rfl ?_
  refine wl_bin (fun x y => do eqGuard .eql 23 (.tmp 7) (.const (.pointer none)) x y; binOp .eql 23 x y) (.tmp 7) (.const (.pointer none)) (pt t 0) (pp none) (.bool false) (fun _ => rfl) rfl rfl (by kernel_rfl) rfl ?_
  refine wl_mv (.tmp 8) (.bool false) (fun _ => rfl) rfl rfl ?_
  refine wl_mv (.tmp 1) (pt t 0) (fun _ => rfl) rfl rfl ?_
  refine wl_callx 19 [(.tmp 10), (.const (.int .i64 (0))), (.const (.int .i64 (7)))] _ [pt t 0, .int .i64 (0), .int .i64 (7)] rfl rfl (fun _ _ => by kernel_rfl) (insert_g hG (by show _ ∉ ([] : List Int); decide) (by decide) (by decide) (by show (0 : Int) < 1024; decide) (by decide) (by show (0 : Int) ≤ 0; decide) (by omega)) rfl ?_
  rintro _ w2 ⟨rfl, kn1, tr1, lk1, hI1, hG, hn1, hl1, hu1, hM2⟩
  refine ⟨_, rfl, ?_⟩
  replace hu1 : lk1 ≤ 0 + 10 * ((0 : Nat) : Int) + 1 := hu1
  have e1 := hI1.fn
  replace e1 : tr1 = .n kn1 7 1 .e .e := e1.trans (by kernel_rfl)
  subst e1
  clear hI1 hn1
  replace M := Wr.mo hM2 M (Nat.le_refl _)
  clear hM2
  refine wl_bin (fun x y => do eqGuard .neq 46 (.tmp 11) (.const (.int .i64 (0))) x y; binOp .neq 46 x y) (.tmp 11) (.const (.int .i64 (0))) (.int .i64 (0)) (.int .i64 (0)) (.bool false) (fun _ => rfl) rfl rfl (by kernel_rfl) rfl ?_
  refine wl_pick (.tmp 9) (.const (.bool true)) (.tmp 12) false (.bool false) (fun _ => rfl) rfl rfl rfl ?_
  refine wl_mv (.tmp 13) (.bool false) (fun _ => rfl) rfl rfl ?_
  refine wl_mv (.tmp 1) (pt t 0) (fun _ => rfl) rfl rfl ?_
  refine wl_callx 19 [(.tmp 15), (.const (.int .i64 (0))), (.const (.int .i64 (9)))] _ [pt t 0, .int .i64 (0), .int .i64 (9)] rfl rfl (fun _ _ => by kernel_rfl) (insert_g hG (by show _ ∉ ([7] : List Int); decide) (by decide) (by decide) (by show (1 : Int) < 1024; decide) (by decide) (by show (0 : Int) ≤ 1; decide) (by omega)) rfl ?_
  rintro _ w3 ⟨rfl, kn2, tr2, lk2, hI2, hG, hn2, hl2, hu2, hM2⟩
  refine ⟨_, rfl, ?_⟩
  replace hu2 : lk2 ≤ lk1 + 10 * ((1 : Nat) : Int) + 1 := hu2
  have e2 := hI2.fn
  replace e2 : tr2 = .n kn1 7 2 (.n kn2 9 1 .e .e) .e := e2.trans (by kernel_rfl)
  subst e2
  clear hI2 hn2
  replace M := Wr.mo hM2 M (Nat.le_refl _)
  clear hM2
  refine wl_bin (fun x y => do eqGuard .neq 46 (.tmp 16) (.const (.int .i64 (0))) x y; binOp .neq 46 x y) (.tmp 16) (.const (.int .i64 (0))) (.int .i64 (0)) (.int .i64 (0)) (.bool false) (fun _ => rfl) rfl rfl (by kernel_rfl) rfl ?_
  refine wl_pick (.tmp 14) (.const (.bool true)) (.tmp 17) false (.bool false) (fun _ => rfl) rfl rfl rfl ?_
  refine wl_mv (.tmp 18) (.bool false) (fun _ => rfl) rfl rfl ?_
  refine wl_mv (.tmp 1) (pt t 0) (fun _ => rfl) rfl rfl ?_
  refine wl_callx 19 [(.tmp 20), (.const (.int .i64 (1))), (.const (.int .i64 (8)))] _ [pt t 0, .int .i64 (1), .int .i64 (8)] rfl rfl (fun _ _ => by kernel_rfl) (insert_g hG (by show _ ∉ ([9, 7] : List Int); decide) (by decide) (by decide) (by show (2 : Int) < 1024; decide) (by decide) (by show (1 : Int) ≤ 2; decide) (by omega)) rfl ?_
  rintro _ w4 ⟨rfl, kn3, tr3, lk3, hI3, hG, hn3, hl3, hu3, hM2⟩
  refine ⟨_, rfl, ?_⟩
  replace hu3 : lk3 ≤ lk2 + 10 * ((2 : Nat) : Int) + 1 := hu3
  have e3 := hI3.fn
  replace e3 : tr3 = .n kn1 7 3 (.n kn2 9 2 .e (.n kn3 8 1 .e .e)) .e := e3.trans (by kernel_rfl)
  subst e3
  clear hI3 hn3
  replace M := Wr.mo hM2 M (Nat.le_refl _)
  clear hM2
  refine wl_bin (fun x y => do eqGuard .neq 46 (.tmp 21) (.const (.int .i64 (0))) x y; binOp .neq 46 x y) (.tmp 21) (.const (.int .i64 (0))) (.int .i64 (0)) (.int .i64 (0)) (.bool false) (fun _ => rfl) rfl rfl (by kernel_rfl) rfl ?_
  refine wl_pick (.tmp 19) (.const (.bool true)) (.tmp 22) false (.bool false) (fun _ => rfl) rfl rfl rfl ?_
  refine w_nil ?_
  refine xn_then ?_
  refine w_condF rfl ?_
  refine w_skip ?_
  refine xn_then ?_
  refine w_seq ?_
  refine w_reg ?_
  refine wl_mv (.tmp 1) (pt t 0) (fun _ => rfl) rfl rfl ?_
  refine wl_callx 21 [(.tmp 25), (.const (.int .i64 (9))), (.const (.int .i64 (2)))] _ [pt t 0, .int .i64 (9), .int .i64 (2)] rfl rfl (fun _ _ => by kernel_rfl) (move_g hG (by show _ ∈ ([9, 8, 7] : List Int); decide) (by decide) (by show (2 : Int) < 3; decide) (by omega)) rfl ?_
  rintro _ w5 ⟨p4, kn5, tr4, tr5, lk5, rfl, hp, hi4, hD4, hI5, hG, hl5, hu5, hM2⟩
  refine ⟨_, rfl, ?_⟩
  obtain ⟨X4, Y4, hX1, hX2, hX3⟩ := hD4.ids
  have hp4 : p4 = 0 := by
    have h9 : ([9, 8, 7] : List Int)[p4.toNat]? = some 9 := hi4
    have hlt := (List.getElem?_eq_some_iff.1 h9).1
    simp only [List.length_cons, List.length_nil] at hlt
    have hc : p4.toNat = 0 ∨ p4.toNat = 1 ∨ p4.toNat = 2 := by omega
    rcases hc with hc | hc | hc
    · omega
    · rw [hc] at h9; simp at h9
    · rw [hc] at h9; simp at h9
  subst hp4
  have e4 := hD4.fn
  replace e4 : tr4 = .n kn1 7 2 (.n kn3 8 1 .e .e) .e := e4.trans (by kernel_rfl)
  subst e4
  have e5 := hI5.fn
  replace e5 : tr5 = .n kn1 7 3 (.n kn3 8 1 .e .e) (.n kn5 9 1 .e .e) := e5.trans (by kernel_rfl)
  subst e5
  replace hu5 : lk5 ≤ lk3 + 4 + 11 * ((3 : Nat) : Int) + 10 * ((2 : Nat) : Int) := hu5
  clear hX1 hX2 hX3 hD4 hI5 hi4 hp
  replace M := Wr.mo hM2 M (Nat.le_refl _)
  clear hM2
  refine wl_mv (.tmp 26) (.tuple #[.int .i64 (0), .int .i64 (0)]) (fun _ => rfl) rfl rfl ?_
  refine wl_un (fun v => Instr.extract v 0) (.tmp 24) (.tuple #[.int .i64 (0), .int .i64 (0)]) (.int .i64 (0)) (fun _ => rfl) rfl (by kernel_rfl) rfl ?_
  refine wl_un (fun v => Instr.extract v 1) (.tmp 24) (.tuple #[.int .i64 (0), .int .i64 (0)]) (.int .i64 (0)) (fun _ => rfl) rfl (by kernel_rfl) rfl ?_
  refine wl_mv (.tmp 27) (.int .i64 (0)) (fun _ => rfl) rfl rfl ?_
  refine wl_mv (.tmp 28) (.int .i64 (0)) (fun _ => rfl) rfl rfl ?_
  refine w_nil ?_
  refine xn_then ?_
  refine w_seq ?_
  refine w_reg ?_
  refine wl_mv (.tmp 1) (pt t 0) (fun _ => rfl) rfl rfl ?_
  refine wl_callx 13 [(.tmp 30), (.const (.int .i64 (9)))] _ [pt t 0, .int .i64 (9)] rfl rfl (fun _ _ => by kernel_rfl) (index_g hG (by show _ ∈ ([8, 7, 9] : List Int); decide) (by omega)) rfl ?_
  rintro _ w6 ⟨p6, lk6, rfl, hp, hi6, hG, hl6, hu6, hM2⟩
  refine ⟨_, rfl, ?_⟩
  have hp6 : p6 = 2 := by
    have h9 : ([8, 7, 9] : List Int)[p6.toNat]? = some 9 := hi6
    have hlt := (List.getElem?_eq_some_iff.1 h9).1
    simp only [List.length_cons, List.length_nil] at hlt
    have hc : p6.toNat = 0 ∨ p6.toNat = 1 ∨ p6.toNat = 2 := by omega
    rcases hc with hc | hc | hc
    · rw [hc] at h9; simp at h9
    · rw [hc] at h9; simp at h9
    · omega
  subst hp6
  clear hi6 hp
  replace M := Wr.mo hM2 M (Nat.le_refl _)
  clear hM2
  refine wl_mv (.tmp 31) (.tuple #[.int .i64 (2), .bool true]) (fun _ => rfl) rfl rfl ?_
  refine wl_un (fun v => Instr.extract v 0) (.tmp 29) (.tuple #[.int .i64 (2), .bool true]) (.int .i64 (2)) (fun _ => rfl) rfl (by kernel_rfl) rfl ?_
  refine wl_un (fun v => Instr.extract v 1) (.tmp 29) (.tuple #[.int .i64 (2), .bool true]) (.bool true) (fun _ => rfl) rfl (by kernel_rfl) rfl ?_
  refine wl_mv (.tmp 32) (.int .i64 (2)) (fun _ => rfl) rfl rfl ?_
  refine wl_mv (.tmp 33) (.bool true) (fun _ => rfl) rfl rfl ?_
  refine w_nil ?_
  refine xn_then ?_
  refine w_seq ?_
  refine w_reg ?_
  refine wl_mv (.tmp 2) (.int .i64 (0)) (fun _ => rfl) rfl rfl ?_
  refine wl_bin (fun x y => do eqGuard .eql 3 (.tmp 34) (.const (.int .i64 (0))) x y; binOp .eql 3 x y) (.tmp 34) (.const (.int .i64 (0))) (.int .i64 (0)) (.int .i64 (0)) (.bool true) (fun _ => rfl) rfl rfl (by kernel_rfl) rfl ?_
  refine wl_mv (.tmp 35) (.bool true) (fun _ => rfl) rfl rfl ?_
  refine wl_mv (.tmp 3) (.int .i64 (0)) (fun _ => rfl) rfl rfl ?_
  refine wl_bin (fun x y => do eqGuard .eql 46 (.tmp 37) (.const (.int .i64 (0))) x y; binOp .eql 46 x y) (.tmp 37) (.const (.int .i64 (0))) (.int .i64 (0)) (.int .i64 (0)) (.bool true) (fun _ => rfl) rfl rfl (by kernel_rfl) rfl ?_
  refine wl_pick (.tmp 36) (.tmp 38) (.const (.bool false)) true (.bool true) (fun _ => rfl) rfl rfl rfl ?_
  refine wl_mv (.tmp 39) (.bool true) (fun _ => rfl) rfl rfl ?_
  refine wl_mv (.tmp 4) (.int .i64 (2)) (fun _ => rfl) rfl rfl ?_
  refine wl_bin (fun x y => do eqGuard .eql 3 (.tmp 41) (.const (.int .i64 (2))) x y; binOp .eql 3 x y) (.tmp 41) (.const (.int .i64 (2))) (.int .i64 (2)) (.int .i64 (2)) (.bool true) (fun _ => rfl) rfl rfl (by kernel_rfl) rfl ?_
  refine wl_pick (.tmp 40) (.tmp 42) (.const (.bool false)) true (.bool true) (fun _ => rfl) rfl rfl rfl ?_
  refine wl_mv (.tmp 43) (.bool true) (fun _ => rfl) rfl rfl ?_
  refine wl_mv (.tmp 5) (.bool true) (fun _ => rfl) rfl rfl ?_
  refine wl_pick (.tmp 44) (.tmp 45) (.const (.bool false)) true (.bool true) (fun _ => rfl) rfl rfl rfl ?_
  refine wl_mv (.tmp 46) (.bool true) (fun _ => rfl) rfl rfl ?_
  refine wl_mv (.tmp 1) (pt t 0) (fun _ => rfl) rfl rfl ?_
  refine wl_call 15 [(.tmp 48)] _ [pt t 0] (.int .i64 (3)) rfl rfl (fun _ _ => by kernel_rfl) (len_g hG) rfl ?_
  intro w7 hq
  replace hG := hG.mo hq
  replace M := M.trans hq
  clear hq
  refine wl_bin (fun x y => do eqGuard .eql 3 (.tmp 49) (.const (.int .i64 (3))) x y; binOp .eql 3 x y) (.tmp 49) (.const (.int .i64 (3))) (.int .i64 (3)) (.int .i64 (3)) (.bool true) (fun _ => rfl) rfl rfl (by kernel_rfl) rfl ?_
  refine wl_pick (.tmp 47) (.tmp 50) (.const (.bool false)) true (.bool true) (fun _ => rfl) rfl rfl rfl ?_
  refine wl_mv (.tmp 51) (.bool true) (fun _ => rfl) rfl rfl ?_
  refine wl_mv (.tmp 1) (pt t 0) (fun _ => rfl) rfl rfl ?_
  refine wl_call 22 [(.tmp 53)] _ [pt t 0] (.int .i64 (2)) rfl rfl (fun _ _ => by kernel_rfl) (depth_g hG) rfl ?_
  intro w8 hq
  replace hG := hG.mo hq
  replace M := M.trans hq
  clear hq
  refine wl_bin (fun x y => do eqGuard .eql 3 (.tmp 54) (.const (.int .i64 (2))) x y; binOp .eql 3 x y) (.tmp 54) (.const (.int .i64 (2))) (.int .i64 (2)) (.int .i64 (2)) (.bool true) (fun _ => rfl) rfl rfl (by kernel_rfl) rfl ?_
  refine wl_pick (.tmp 52) (.tmp 55) (.const (.bool false)) true (.bool true) (fun _ => rfl) rfl rfl rfl ?_
  refine wl_mv (.tmp 56) (.bool true) (fun _ => rfl) rfl rfl ?_
  refine w_nil ?_
  refine xn_then ?_
  refine w_ret ?_
  exact w_ret1 _ (.bool true) rfl rfl ⟨rfl, M⟩
end
end Go.Proofs.Ytbmbldloeblbbaa
