/-
  Reserved words, names; a map asked for a name.
-/
import Derived.Test.YtbanldffohopiaaSp
namespace Go.Proofs.Ytbanldffohopiaa
open Go.RowKit D
theorem cbr_n (k : Int) (w : World) : Calls Try.prog 41 #[.int .i64 k] w fun e w' => e = .returned (.bool (cbr k)) ∧ Mo w w' := by
  refine w_enter 9 Try.func41 Try.ntmps41 rfl rfl ?_
  have M : Mo w w := Mo.refl _
  refine w_seq ?_
  refine w_reg ?_
  refine wl_mv (.const (.bool false)) (.bool false) (fun _ => rfl) rfl rfl ?_
  refine w_nil ?_
  refine xn_then ?_
  refine w_seq ?_
  refine w_reg ?_
  refine wl_mv (.tmp 0) (.int .i64 (k)) (fun _ => rfl) rfl rfl ?_
  cases hf0 : decide (k = 1) with
  | true =>
    have hf0p := of_decide_eq_true hf0
    refine wl_bin (fun x y => do eqGuard .eql 3 (.tmp 3) (.const (.int .i64 (1))) x y; binOp .eql 3 x y) (.tmp 3) (.const (.int .i64 (1))) (.int .i64 (k)) (.int .i64 (1)) (.bool true) (fun _ => rfl) rfl rfl (eq3 hf0 _ _ _) rfl ?_
    refine wl_mv (.tmp 4) (.bool true) (fun _ => rfl) rfl rfl ?_
    refine wl_skip rfl ?_
    refine wl_skip rfl ?_
    refine wl_pick (.tmp 5) (.const (.bool true)) (.tmp 7) true (.bool true) (fun _ => rfl) rfl rfl rfl ?_
    refine wl_mv (.tmp 8) (.bool true) (fun _ => rfl) rfl rfl ?_
    refine w_nil ?_
    refine xn_then ?_
    refine w_ret ?_
    exact w_ret1 _ (.bool true) rfl rfl ⟨by unfold cbr; rw [hf0]; rfl, M⟩
  | false =>
    have hf0p := of_decide_eq_false hf0
    refine wl_bin (fun x y => do eqGuard .eql 3 (.tmp 3) (.const (.int .i64 (1))) x y; binOp .eql 3 x y) (.tmp 3) (.const (.int .i64 (1))) (.int .i64 (k)) (.int .i64 (1)) (.bool false) (fun _ => rfl) rfl rfl (eq3 hf0 _ _ _) rfl ?_
    refine wl_mv (.tmp 4) (.bool false) (fun _ => rfl) rfl rfl ?_
    refine wl_mv (.tmp 0) (.int .i64 (k)) (fun _ => rfl) rfl rfl ?_
    cases hf1 : decide (k = 2) with
    | true =>
      have hf1p := of_decide_eq_true hf1
      refine wl_bin (fun x y => do eqGuard .eql 3 (.tmp 6) (.const (.int .i64 (2))) x y; binOp .eql 3 x y) (.tmp 6) (.const (.int .i64 (2))) (.int .i64 (k)) (.int .i64 (2)) (.bool true) (fun _ => rfl) rfl rfl (eq3 hf1 _ _ _) rfl ?_
      refine wl_pick (.tmp 5) (.const (.bool true)) (.tmp 7) false (.bool true) (fun _ => rfl) rfl rfl rfl ?_
      refine wl_mv (.tmp 8) (.bool true) (fun _ => rfl) rfl rfl ?_
      refine w_nil ?_
      refine xn_then ?_
      refine w_ret ?_
      exact w_ret1 _ (.bool true) rfl rfl ⟨by unfold cbr; rw [hf0, hf1]; rfl, M⟩
    | false =>
      have hf1p := of_decide_eq_false hf1
      refine wl_bin (fun x y => do eqGuard .eql 3 (.tmp 6) (.const (.int .i64 (2))) x y; binOp .eql 3 x y) (.tmp 6) (.const (.int .i64 (2))) (.int .i64 (k)) (.int .i64 (2)) (.bool false) (fun _ => rfl) rfl rfl (eq3 hf1 _ _ _) rfl ?_
      refine wl_pick (.tmp 5) (.const (.bool true)) (.tmp 7) false (.bool false) (fun _ => rfl) rfl rfl rfl ?_
      refine wl_mv (.tmp 8) (.bool false) (fun _ => rfl) rfl rfl ?_
      refine w_nil ?_
      refine xn_then ?_
      refine w_ret ?_
      exact w_ret1 _ (.bool false) rfl rfl ⟨by unfold cbr; rw [hf0, hf1]; rfl, M⟩
theorem has_n {b : Nat} {al : List (ByteArray × Int)} {w : World} (hM : OM w b al) (s : ByteArray) (hz : s.size ≤ maxLen) : Calls Try.prog 65 #[.map (some b), .string s] w fun e w' => e = .returned (.bool (lk al s).isSome) ∧ Mo w w' := by
  refine w_enter 14 Try.func65 Try.ntmps65 rfl rfl ?_
  have M : Mo w w := Mo.refl _
  refine w_seq ?_
  refine w_reg ?_
  refine wl_mv (.const (.bool false)) (.bool false) (fun _ => rfl) rfl rfl ?_
  refine w_nil ?_
  refine xn_then ?_
  refine w_seq ?_
  refine w_reg ?_
  refine wl_mv (.tmp 0) (.map (some b)) (fun _ => rfl) rfl rfl ?_
  refine wl_mv (.tmp 1) (.string s) (fun _ => rfl) rfl rfl ?_
  cases hf0 : (lk al s).isSome with
  | true =>
    refine wl_val (.tuple #[.int .i64 ((lk al s).getD 0), .bool true]) (lkp 91 (.tmp 8) (.tmp 9) true (.map (some b)) (.string s) (.tuple #[.int .i64 ((lk al s).getD 0), .bool true]) rfl rfl rfl (by rw [(hM.mo M).looks hz, hf0])) rfl ?_
    refine wl_mv (.tmp 10) (.tuple #[.int .i64 ((lk al s).getD 0), .bool true]) (fun _ => rfl) rfl rfl ?_
    refine wl_un (fun v => Instr.extract v 0) (.tmp 7) (.tuple #[.int .i64 ((lk al s).getD 0), .bool true]) (.int .i64 ((lk al s).getD 0)) (fun _ => rfl) rfl (by kernel_rfl) rfl ?_
    refine wl_un (fun v => Instr.extract v 1) (.tmp 7) (.tuple #[.int .i64 ((lk al s).getD 0), .bool true]) (.bool true) (fun _ => rfl) rfl (by kernel_rfl) rfl ?_
    refine wl_mv (.tmp 11) (.int .i64 ((lk al s).getD 0)) (fun _ => rfl) rfl rfl ?_
    refine wl_mv (.tmp 12) (.bool true) (fun _ => rfl) rfl rfl ?_
    refine w_nil ?_
    refine xn_then ?_
    refine w_seq ?_
    refine w_reg ?_
    refine wl_mv (.tmp 6) (.bool true) (fun _ => rfl) rfl rfl ?_
    refine wl_mv (.tmp 13) (.bool true) (fun _ => rfl) rfl rfl ?_
    refine w_nil ?_
    refine xn_then ?_
    refine w_ret ?_
    exact w_ret1 _ (.bool true) rfl rfl ⟨rfl, M⟩
  | false =>
    refine wl_val (.tuple #[.int .i64 ((lk al s).getD 0), .bool false]) (lkp 91 (.tmp 8) (.tmp 9) true (.map (some b)) (.string s) (.tuple #[.int .i64 ((lk al s).getD 0), .bool false]) rfl rfl rfl (by rw [(hM.mo M).looks hz, hf0])) rfl ?_
    refine wl_mv (.tmp 10) (.tuple #[.int .i64 ((lk al s).getD 0), .bool false]) (fun _ => rfl) rfl rfl ?_
    refine wl_un (fun v => Instr.extract v 0) (.tmp 7) (.tuple #[.int .i64 ((lk al s).getD 0), .bool false]) (.int .i64 ((lk al s).getD 0)) (fun _ => rfl) rfl (by kernel_rfl) rfl ?_
    refine wl_un (fun v => Instr.extract v 1) (.tmp 7) (.tuple #[.int .i64 ((lk al s).getD 0), .bool false]) (.bool false) (fun _ => rfl) rfl (by kernel_rfl) rfl ?_
    refine wl_mv (.tmp 11) (.int .i64 ((lk al s).getD 0)) (fun _ => rfl) rfl rfl ?_
    refine wl_mv (.tmp 12) (.bool false) (fun _ => rfl) rfl rfl ?_
    refine w_nil ?_
    refine xn_then ?_
    refine w_seq ?_
    refine w_reg ?_
    refine wl_mv (.tmp 6) (.bool false) (fun _ => rfl) rfl rfl ?_
    refine wl_mv (.tmp 13) (.bool false) (fun _ => rfl) rfl rfl ?_
    refine w_nil ?_
    refine xn_then ?_
    refine w_ret ?_
    exact w_ret1 _ (.bool false) rfl rfl ⟨rfl, M⟩
theorem flat_get {α : Type} {cells : α → List Value} {n : Nat} (hl : ∀ x, (cells x).length = n) : ∀ (L : List α) (i : Nat) (o : α) (j : Nat) (v : Value), L[i]? = some o → (cells o)[j]? = some v → (L.flatMap cells)[i * n + j]? = some v
  | [], i, o, j, v, h, _ => by simp at h
  | x :: L, 0, o, j, v, h, hv => by
    simp at h; subst h
    rw [List.flatMap_cons, Nat.zero_mul, Nat.zero_add, List.getElem?_append_left (lt_of_get hv)]; exact hv
  | x :: L, i + 1, o, j, v, h, hv => by
    simp at h
    have e : (i + 1) * n + j = n + (i * n + j) := by rw [Nat.add_mul]; omega
    rw [List.flatMap_cons, e, List.getElem?_append_right (by rw [hl]; omega), hl, Nat.add_sub_cancel_left]
    exact flat_get hl L i o j v h hv
theorem SL.of_range {w : World} {k off n : Nat} {α : Type} {cells : α → List Value} (hl : ∀ x, (cells x).length = n) {L : List α} (hz : L.length ≤ maxLen) (hk : k < w.heap.size) (h : w.rangeAt k off (L.flatMap cells)) : SL w n cells (some ⟨k, off, none⟩) L := ⟨hz, fun i o e => ⟨k, off, rfl, hk, fun j v hv => by
  have := h (i * n + j) v (flat_get hl L i o j v e hv)
  rw [show off + i * n + j = off + (i * n + j) by omega]; exact this⟩⟩
theorem SL.of_at {w : World} {k n : Nat} {α : Type} {cells : α → List Value} (hl : ∀ x, (cells x).length = n) {L : List α} (hz : L.length ≤ maxLen) (h : At w k (L.flatMap cells)) : SL w n cells (some ⟨k, 0, none⟩) L := SL.of_range hl hz h.2.2 h.1
abbrev stc (s : ByteArray) : List Value := [.string s]
theorem words_n (w : World) : Calls Try.prog 19 #[] w fun e w' => ∃ k, e = .returned (.slice (some ⟨k, 0, none⟩) 33 33) ∧ Mo w w' ∧ SL w' 1 stc (some ⟨k, 0, none⟩) wds := by
  refine w_enter 2 Try.func19 Try.ntmps19 rfl rfl ?_
  have M : Mo w w := Mo.refl _
  refine w_seq ?_
  refine w_reg ?_
  refine wl_mv (.const (.slice none 0 0)) (.slice none 0 0) (fun _ => rfl) rfl rfl ?_
  refine w_nil ?_
  refine xn_then ?_
  refine w_seq ?_
  refine w_reg ?_
  refine wl_bs 45 33 [(0, (.const (.string ⟨#[114, 101, 116, 117, 114, 110]⟩))), (1, (.const (.string ⟨#[102, 105, 101, 108, 100]⟩))), (2, (.const (.string ⟨#[108, 105, 110, 101]⟩))), (3, (.const (.string ⟨#[99, 104, 101, 99, 107]⟩))), (4, (.const (.string ⟨#[115, 101, 99, 116, 105, 111, 110]⟩))), (5, (.const (.string ⟨#[116, 97, 98, 108, 101]⟩))), (6, (.const (.string ⟨#[112, 97, 103, 101]⟩))), (7, (.const (.string ⟨#[119, 104, 101, 110]⟩))), (8, (.const (.string ⟨#[109, 97, 120]⟩))), (9, (.const (.string ⟨#[102, 114, 111, 109]⟩))), (10, (.const (.string ⟨#[98, 97, 115, 101]⟩))), (11, (.const (.string ⟨#[114, 97, 116, 101]⟩))), (12, (.const (.string ⟨#[110, 101, 101, 100, 101, 100]⟩))), (13, (.const (.string ⟨#[97, 109, 111, 117, 110, 116]⟩))), (14, (.const (.string ⟨#[102, 108, 97, 103]⟩))), (15, (.const (.string ⟨#[116, 101, 120, 116]⟩))), (16, (.const (.string ⟨#[105, 102]⟩))), (17, (.const (.string ⟨#[114, 111, 117, 110, 100]⟩))), (18, (.const (.string ⟨#[98, 108, 97, 110, 107]⟩))), (19, (.const (.string ⟨#[114, 111, 119, 115]⟩))), (20, (.const (.string ⟨#[115, 117, 109]⟩))), (21, (.const (.string ⟨#[99, 111, 117, 110, 116]⟩))), (22, (.const (.string ⟨#[109, 105, 110]⟩))), (23, (.const (.string ⟨#[97, 110, 100]⟩))), (24, (.const (.string ⟨#[111, 114]⟩))), (25, (.const (.string ⟨#[110, 111, 116]⟩))), (26, (.const (.string ⟨#[116, 114, 117, 101]⟩))), (27, (.const (.string ⟨#[102, 97, 108, 115, 101]⟩))), (28, (.const (.string ⟨#[104, 97, 108, 102, 95, 117, 112]⟩))), (29, (.const (.string ⟨#[104, 97, 108, 102, 95, 101, 118, 101, 110]⟩))), (30, (.const (.string ⟨#[100, 111, 119, 110]⟩))), (31, (.const (.string ⟨#[117, 112]⟩))), (32, (.const (.string ⟨#[102, 108, 111, 111, 114]⟩)))] [(0, .string (⟨#[114, 101, 116, 117, 114, 110]⟩)), (1, .string (⟨#[102, 105, 101, 108, 100]⟩)), (2, .string (⟨#[108, 105, 110, 101]⟩)), (3, .string (⟨#[99, 104, 101, 99, 107]⟩)), (4, .string (⟨#[115, 101, 99, 116, 105, 111, 110]⟩)), (5, .string (⟨#[116, 97, 98, 108, 101]⟩)), (6, .string (⟨#[112, 97, 103, 101]⟩)), (7, .string (⟨#[119, 104, 101, 110]⟩)), (8, .string (⟨#[109, 97, 120]⟩)), (9, .string (⟨#[102, 114, 111, 109]⟩)), (10, .string (⟨#[98, 97, 115, 101]⟩)), (11, .string (⟨#[114, 97, 116, 101]⟩)), (12, .string (⟨#[110, 101, 101, 100, 101, 100]⟩)), (13, .string (⟨#[97, 109, 111, 117, 110, 116]⟩)), (14, .string (⟨#[102, 108, 97, 103]⟩)), (15, .string (⟨#[116, 101, 120, 116]⟩)), (16, .string (⟨#[105, 102]⟩)), (17, .string (⟨#[114, 111, 117, 110, 100]⟩)), (18, .string (⟨#[98, 108, 97, 110, 107]⟩)), (19, .string (⟨#[114, 111, 119, 115]⟩)), (20, .string (⟨#[115, 117, 109]⟩)), (21, .string (⟨#[99, 111, 117, 110, 116]⟩)), (22, .string (⟨#[109, 105, 110]⟩)), (23, .string (⟨#[97, 110, 100]⟩)), (24, .string (⟨#[111, 114]⟩)), (25, .string (⟨#[110, 111, 116]⟩)), (26, .string (⟨#[116, 114, 117, 101]⟩)), (27, .string (⟨#[102, 97, 108, 115, 101]⟩)), (28, .string (⟨#[104, 97, 108, 102, 95, 117, 112]⟩)), (29, .string (⟨#[104, 97, 108, 102, 95, 101, 118, 101, 110]⟩)), (30, .string (⟨#[100, 111, 119, 110]⟩)), (31, .string (⟨#[117, 112]⟩)), (32, .string (⟨#[102, 108, 111, 111, 114]⟩))] #[.string (⟨#[114, 101, 116, 117, 114, 110]⟩), .string (⟨#[102, 105, 101, 108, 100]⟩), .string (⟨#[108, 105, 110, 101]⟩), .string (⟨#[99, 104, 101, 99, 107]⟩), .string (⟨#[115, 101, 99, 116, 105, 111, 110]⟩), .string (⟨#[116, 97, 98, 108, 101]⟩), .string (⟨#[112, 97, 103, 101]⟩), .string (⟨#[119, 104, 101, 110]⟩), .string (⟨#[109, 97, 120]⟩), .string (⟨#[102, 114, 111, 109]⟩), .string (⟨#[98, 97, 115, 101]⟩), .string (⟨#[114, 97, 116, 101]⟩), .string (⟨#[110, 101, 101, 100, 101, 100]⟩), .string (⟨#[97, 109, 111, 117, 110, 116]⟩), .string (⟨#[102, 108, 97, 103]⟩), .string (⟨#[116, 101, 120, 116]⟩), .string (⟨#[105, 102]⟩), .string (⟨#[114, 111, 117, 110, 100]⟩), .string (⟨#[98, 108, 97, 110, 107]⟩), .string (⟨#[114, 111, 119, 115]⟩), .string (⟨#[115, 117, 109]⟩), .string (⟨#[99, 111, 117, 110, 116]⟩), .string (⟨#[109, 105, 110]⟩), .string (⟨#[97, 110, 100]⟩), .string (⟨#[111, 114]⟩), .string (⟨#[110, 111, 116]⟩), .string (⟨#[116, 114, 117, 101]⟩), .string (⟨#[102, 97, 108, 115, 101]⟩), .string (⟨#[104, 97, 108, 102, 95, 117, 112]⟩), .string (⟨#[104, 97, 108, 102, 95, 101, 118, 101, 110]⟩), .string (⟨#[100, 111, 119, 110]⟩), .string (⟨#[117, 112]⟩), .string (⟨#[102, 108, 111, 111, 114]⟩)] 9 rfl rfl (fun _ => by kernel_rfl) rfl ?_
  intro k1 w1 hk hz hq Q1
  have N_k1 : w.heap.size ≤ k1 := by have := M.size; omega
  replace M := M.trans hq
  clear hk hz hq
  refine wl_mv (.tmp 1) (.slice (some ⟨k1, 0, none⟩) 33 33) (fun _ => rfl) rfl rfl ?_
  refine w_nil ?_
  refine xn_then ?_
  refine w_ret ?_
  exact w_ret1 _ (.slice (some ⟨k1, 0, none⟩) 33 33) rfl rfl ⟨k1, rfl, M, SL.of_at (n := 1) (cells := stc) (L := wds) (fun _ => rfl) (by decide) (by exact Q1)⟩
theorem rwords_n (w : World) : Calls Try.prog 20 #[] w fun e w' => ∃ k, e = .returned (.slice (some ⟨k, 0, none⟩) 33 33) ∧ Mo w w' ∧ SL w' 1 stc (some ⟨k, 0, none⟩) wds := by
  refine w_enter 2 Try.func20 Try.ntmps20 rfl rfl ?_
  have M : Mo w w := Mo.refl _
  refine w_seq ?_
  refine w_reg ?_
  refine wl_mv (.const (.slice none 0 0)) (.slice none 0 0) (fun _ => rfl) rfl rfl ?_
  refine w_nil ?_
  refine xn_then ?_
  refine w_seq ?_
  refine w_reg ?_
  refine wl_bs 45 33 [(0, (.const (.string ⟨#[114, 101, 116, 117, 114, 110]⟩))), (1, (.const (.string ⟨#[102, 105, 101, 108, 100]⟩))), (2, (.const (.string ⟨#[108, 105, 110, 101]⟩))), (3, (.const (.string ⟨#[99, 104, 101, 99, 107]⟩))), (4, (.const (.string ⟨#[115, 101, 99, 116, 105, 111, 110]⟩))), (5, (.const (.string ⟨#[116, 97, 98, 108, 101]⟩))), (6, (.const (.string ⟨#[112, 97, 103, 101]⟩))), (7, (.const (.string ⟨#[119, 104, 101, 110]⟩))), (8, (.const (.string ⟨#[109, 97, 120]⟩))), (9, (.const (.string ⟨#[102, 114, 111, 109]⟩))), (10, (.const (.string ⟨#[98, 97, 115, 101]⟩))), (11, (.const (.string ⟨#[114, 97, 116, 101]⟩))), (12, (.const (.string ⟨#[110, 101, 101, 100, 101, 100]⟩))), (13, (.const (.string ⟨#[97, 109, 111, 117, 110, 116]⟩))), (14, (.const (.string ⟨#[102, 108, 97, 103]⟩))), (15, (.const (.string ⟨#[116, 101, 120, 116]⟩))), (16, (.const (.string ⟨#[105, 102]⟩))), (17, (.const (.string ⟨#[114, 111, 117, 110, 100]⟩))), (18, (.const (.string ⟨#[98, 108, 97, 110, 107]⟩))), (19, (.const (.string ⟨#[114, 111, 119, 115]⟩))), (20, (.const (.string ⟨#[115, 117, 109]⟩))), (21, (.const (.string ⟨#[99, 111, 117, 110, 116]⟩))), (22, (.const (.string ⟨#[109, 105, 110]⟩))), (23, (.const (.string ⟨#[97, 110, 100]⟩))), (24, (.const (.string ⟨#[111, 114]⟩))), (25, (.const (.string ⟨#[110, 111, 116]⟩))), (26, (.const (.string ⟨#[116, 114, 117, 101]⟩))), (27, (.const (.string ⟨#[102, 97, 108, 115, 101]⟩))), (28, (.const (.string ⟨#[104, 97, 108, 102, 95, 117, 112]⟩))), (29, (.const (.string ⟨#[104, 97, 108, 102, 95, 101, 118, 101, 110]⟩))), (30, (.const (.string ⟨#[100, 111, 119, 110]⟩))), (31, (.const (.string ⟨#[117, 112]⟩))), (32, (.const (.string ⟨#[102, 108, 111, 111, 114]⟩)))] [(0, .string (⟨#[114, 101, 116, 117, 114, 110]⟩)), (1, .string (⟨#[102, 105, 101, 108, 100]⟩)), (2, .string (⟨#[108, 105, 110, 101]⟩)), (3, .string (⟨#[99, 104, 101, 99, 107]⟩)), (4, .string (⟨#[115, 101, 99, 116, 105, 111, 110]⟩)), (5, .string (⟨#[116, 97, 98, 108, 101]⟩)), (6, .string (⟨#[112, 97, 103, 101]⟩)), (7, .string (⟨#[119, 104, 101, 110]⟩)), (8, .string (⟨#[109, 97, 120]⟩)), (9, .string (⟨#[102, 114, 111, 109]⟩)), (10, .string (⟨#[98, 97, 115, 101]⟩)), (11, .string (⟨#[114, 97, 116, 101]⟩)), (12, .string (⟨#[110, 101, 101, 100, 101, 100]⟩)), (13, .string (⟨#[97, 109, 111, 117, 110, 116]⟩)), (14, .string (⟨#[102, 108, 97, 103]⟩)), (15, .string (⟨#[116, 101, 120, 116]⟩)), (16, .string (⟨#[105, 102]⟩)), (17, .string (⟨#[114, 111, 117, 110, 100]⟩)), (18, .string (⟨#[98, 108, 97, 110, 107]⟩)), (19, .string (⟨#[114, 111, 119, 115]⟩)), (20, .string (⟨#[115, 117, 109]⟩)), (21, .string (⟨#[99, 111, 117, 110, 116]⟩)), (22, .string (⟨#[109, 105, 110]⟩)), (23, .string (⟨#[97, 110, 100]⟩)), (24, .string (⟨#[111, 114]⟩)), (25, .string (⟨#[110, 111, 116]⟩)), (26, .string (⟨#[116, 114, 117, 101]⟩)), (27, .string (⟨#[102, 97, 108, 115, 101]⟩)), (28, .string (⟨#[104, 97, 108, 102, 95, 117, 112]⟩)), (29, .string (⟨#[104, 97, 108, 102, 95, 101, 118, 101, 110]⟩)), (30, .string (⟨#[100, 111, 119, 110]⟩)), (31, .string (⟨#[117, 112]⟩)), (32, .string (⟨#[102, 108, 111, 111, 114]⟩))] #[.string (⟨#[114, 101, 116, 117, 114, 110]⟩), .string (⟨#[102, 105, 101, 108, 100]⟩), .string (⟨#[108, 105, 110, 101]⟩), .string (⟨#[99, 104, 101, 99, 107]⟩), .string (⟨#[115, 101, 99, 116, 105, 111, 110]⟩), .string (⟨#[116, 97, 98, 108, 101]⟩), .string (⟨#[112, 97, 103, 101]⟩), .string (⟨#[119, 104, 101, 110]⟩), .string (⟨#[109, 97, 120]⟩), .string (⟨#[102, 114, 111, 109]⟩), .string (⟨#[98, 97, 115, 101]⟩), .string (⟨#[114, 97, 116, 101]⟩), .string (⟨#[110, 101, 101, 100, 101, 100]⟩), .string (⟨#[97, 109, 111, 117, 110, 116]⟩), .string (⟨#[102, 108, 97, 103]⟩), .string (⟨#[116, 101, 120, 116]⟩), .string (⟨#[105, 102]⟩), .string (⟨#[114, 111, 117, 110, 100]⟩), .string (⟨#[98, 108, 97, 110, 107]⟩), .string (⟨#[114, 111, 119, 115]⟩), .string (⟨#[115, 117, 109]⟩), .string (⟨#[99, 111, 117, 110, 116]⟩), .string (⟨#[109, 105, 110]⟩), .string (⟨#[97, 110, 100]⟩), .string (⟨#[111, 114]⟩), .string (⟨#[110, 111, 116]⟩), .string (⟨#[116, 114, 117, 101]⟩), .string (⟨#[102, 97, 108, 115, 101]⟩), .string (⟨#[104, 97, 108, 102, 95, 117, 112]⟩), .string (⟨#[104, 97, 108, 102, 95, 101, 118, 101, 110]⟩), .string (⟨#[100, 111, 119, 110]⟩), .string (⟨#[117, 112]⟩), .string (⟨#[102, 108, 111, 111, 114]⟩)] 9 rfl rfl (fun _ => by kernel_rfl) rfl ?_
  intro k1 w1 hk hz hq Q1
  have N_k1 : w.heap.size ≤ k1 := by have := M.size; omega
  replace M := M.trans hq
  clear hk hz hq
  refine wl_mv (.tmp 1) (.slice (some ⟨k1, 0, none⟩) 33 33) (fun _ => rfl) rfl rfl ?_
  refine w_nil ?_
  refine xn_then ?_
  refine w_ret ?_
  exact w_ret1 _ (.slice (some ⟨k1, 0, none⟩) 33 33) rfl rfl ⟨k1, rfl, M, SL.of_at (n := 1) (cells := stc) (L := wds) (fun _ => rfl) (by decide) (by exact Q1)⟩
theorem any_take {α : Type} {f : α → Bool} {L : List α} {i : Nat} {x : α} (h : (L.take i).any f = false) (hx : L[i]? = some x) (hf : f x = false) : (L.take (i + 1)).any f = false := by
  rw [List.take_add_one, hx, List.any_append, h]
  simp [hf]
theorem any_hit {α : Type} {f : α → Bool} {L : List α} {i : Nat} {x : α} (hx : L[i]? = some x) (hf : f x = true) : L.any f = true := List.any_eq_true.2 ⟨x, List.mem_of_getElem? hx, hf⟩
theorem any_all {α : Type} {f : α → Bool} {L : List α} {i : Nat} (h : (L.take i).any f = false) (hi : i = L.length) : L.any f = false := by rw [hi, List.take_length] at h; exact h
theorem index_n {w : World} {pa : Option Addr} {c : Nat} {L : List ByteArray} (hS : SL w 1 stc pa L) (s : ByteArray) : Calls Try.prog 61 #[.slice pa L.length c, .string s] w fun e w' => ∃ r : Int, e = .returned (.int .i64 r) ∧ decide (0 ≤ r) = L.any (fun x => decide (s = x)) ∧ Mo w w' := by
  refine w_enter 19 Try.func61 Try.ntmps61 rfl rfl ?_
  have M : Mo w w := Mo.refl _
  refine w_seq ?_
  refine w_reg ?_
  refine wl_mv (.const (.int .i64 (0))) (.int .i64 (0)) (fun _ => rfl) rfl rfl ?_
  refine w_nil ?_
  refine xn_then ?_
  refine w_seq ?_
  refine w_seq ?_
  refine w_reg ?_
  refine wl_mv (.tmp 0) (.slice pa L.length c) (fun _ => rfl) rfl rfl ?_
  refine wl_val (.int .i64 ((L.length : Nat) : Int)) (len45 _ _ _ _ _ (by exact rfl) _ _ _ _ _ _) rfl ?_
  refine wl_mv (.const (.int .i64 (0))) (.int .i64 (0)) (fun _ => rfl) rfl rfl ?_
  refine w_nil ?_
  refine xn_then ?_
  refine w_block ?_
  have hz := hS.1
  unfold maxLen at hz
  refine w_loop (fun m l w1 => ∃ i : Nat, m = L.length - i ∧ i ≤ L.length ∧ look l 0 = .slice pa L.length c ∧ look l 1 = .string s ∧ look l 7 = .int .i64 ((L.length : Nat) : Int) ∧ look l 8 = .int .i64 ((i : Nat) : Int) ∧ (L.take i).any (fun x => decide (s = x)) = false ∧ Mo w w1) _ ⟨0, rfl, Nat.zero_le _, rfl, rfl, rfl, rfl, rfl, M⟩ ?_
  clear M
  rintro m l40 wl40 ⟨i, rfl, hi, e40_0, e40_1, e40_7, e40_i, hT, M⟩
  by_cases hil : i < L.length
  · skip
    have hid : decide (i < L.length) = true := decide_eq_true hil
    obtain ⟨x, hx⟩ := get_of_lt hil
    obtain ⟨b1, o1, hp1, hR1⟩ := D.SL.rw hS hx
    refine w_seq ?_
    refine w_reg ?_
    refine wl_bin (fun x y => do eqGuard .lss 3 (.tmp 8) (.tmp 7) x y; binOp .lss 3 x y) (.tmp 8) (.tmp 7) (.int .i64 ((i : Nat) : Int)) (.int .i64 ((L.length : Nat) : Int)) (.bool true) (fun _ => rfl) e40_i e40_7 (ltN hid _ _ _) rfl ?_
    refine w_nil ?_
    refine xn_then ?_
    refine w_seq ?_
    refine w_condT rfl ?_
    refine w_skip ?_
    refine xn_then ?_
    refine w_seq ?_
    refine w_block ?_
    refine w_seq ?_
    refine w_reg ?_
    refine wl_mv (.tmp 8) (.int .i64 ((i : Nat) : Int)) (fun _ => rfl) e40_i rfl ?_
    refine wl_mv (.tmp 10) (.int .i64 ((i : Nat) : Int)) (fun _ => rfl) rfl rfl ?_
    refine w_nil ?_
    refine xn_then ?_
    refine w_seq ?_
    refine w_reg ?_
    refine wl_mv (.tmp 1) (.string s) (fun _ => rfl) e40_1 rfl ?_
    refine wl_mv (.tmp 0) (.slice pa L.length c) (fun _ => rfl) e40_0 rfl ?_
    refine wl_mv (.tmp 5) (.int .i64 ((i : Nat) : Int)) (fun _ => rfl) rfl rfl ?_
    refine wl_bin (fun x y => Instr.indexAt 45 x y) (.tmp 12) (.tmp 13) (.slice pa L.length c) (.int .i64 ((i : Nat) : Int)) (pt b1 (o1 + i * 1)) (fun _ => rfl) rfl rfl (ix45 (i := i) hp1 hil _) rfl ?_
    refine wl_load 9 (.tmp 14) (pt b1 (o1 + i * 1)) (.string x) rfl rfl (D.run_oneR (hR1.mo M).at' 9 0 rfl Try.underlying9 rfl) rfl ?_
    cases hf30 : decide (s = x) with
    | true =>
      have hf30p := of_decide_eq_true hf30
      refine wl_bin (fun x y => do eqGuard .eql 9 (.tmp 11) (.tmp 15) x y; binOp .eql 9 x y) (.tmp 11) (.tmp 15) (.string s) (.string x) (.bool true) (fun _ => rfl) rfl rfl (s9 hf30 _ _ _) rfl ?_
      refine w_nil ?_
      refine xn_then ?_
      refine w_condT rfl ?_
      refine w_seq ?_
      refine w_reg ?_
      refine wl_mv (.tmp 5) (.int .i64 ((i : Nat) : Int)) (fun _ => rfl) rfl rfl ?_
      refine wl_mv (.tmp 17) (.int .i64 ((i : Nat) : Int)) (fun _ => rfl) rfl rfl ?_
      refine w_nil ?_
      refine xn_then ?_
      refine w_ret ?_
      refine xr_blk ?_
      refine xr_then ?_
      refine xr_then ?_
      refine xr_blk ?_
      refine xr_then ?_
      exact w_ret1 _ (.int .i64 ((i : Nat) : Int)) rfl rfl ⟨_, rfl, (decide_eq_true (by omega)).trans (any_hit (f := fun x => decide (s = x)) hx hf30).symm, M⟩
    | false =>
      have hf30p := of_decide_eq_false hf30
      refine wl_bin (fun x y => do eqGuard .eql 9 (.tmp 11) (.tmp 15) x y; binOp .eql 9 x y) (.tmp 11) (.tmp 15) (.string s) (.string x) (.bool false) (fun _ => rfl) rfl rfl (s9 hf30 _ _ _) rfl ?_
      refine w_nil ?_
      refine xn_then ?_
      refine w_condF rfl ?_
      refine w_skip ?_
      refine xn_blk ?_
      refine xn_then ?_
      refine w_reg ?_
      refine wl_bin (fun x y => do eqGuard .add 3 (.tmp 8) (.const (.int .i64 (1))) x y; binOp .add 3 x y) (.tmp 8) (.const (.int .i64 (1))) (.int .i64 ((i : Nat) : Int)) (.int .i64 (1)) (.int .i64 ((i + 1 : Nat) : Int)) (fun _ => rfl) e40_i rfl (add1r (k := i) (by omega) _ _ _) rfl ?_
      refine wl_mv (.tmp 18) (.int .i64 ((i + 1 : Nat) : Int)) (fun _ => rfl) rfl rfl ?_
      refine w_nil ?_
      exact xn_loop (L.length - (i + 1)) (by omega) ⟨i + 1, rfl, by omega, e40_0, e40_1, e40_7, rfl, any_take hT hx hf30, M⟩
  · skip
    have hid : decide (i < L.length) = false := decide_eq_false hil
    have hie : i = L.length := by omega
    refine w_seq ?_
    refine w_reg ?_
    refine wl_bin (fun x y => do eqGuard .lss 3 (.tmp 8) (.tmp 7) x y; binOp .lss 3 x y) (.tmp 8) (.tmp 7) (.int .i64 ((i : Nat) : Int)) (.int .i64 ((L.length : Nat) : Int)) (.bool false) (fun _ => rfl) e40_i e40_7 (ltN hid _ _ _) rfl ?_
    refine w_nil ?_
    refine xn_then ?_
    refine w_seq ?_
    refine w_condF rfl ?_
    refine w_exit ?_
    refine xx_then ?_
    refine xx_then ?_
    refine xx_blk ?_
    refine xn_then ?_
    refine w_seq ?_
    refine w_reg ?_
    refine wl_mv (.const (.int .i64 (-1))) (.int .i64 (-1)) (fun _ => rfl) rfl rfl ?_
    refine w_nil ?_
    refine xn_then ?_
    refine w_ret ?_
    exact w_ret1 _ (.int .i64 (-1)) rfl rfl ⟨_, rfl, (any_all hT hie).symm, M⟩
theorem contains_n {w : World} {pa : Option Addr} {c : Nat} {L : List ByteArray} (hS : SL w 1 stc pa L) (s : ByteArray) : Calls Try.prog 44 #[.slice pa L.length c, .string s] w fun e w' => e = .returned (.bool (L.any (fun x => decide (s = x)))) ∧ Mo w w' := by
  refine w_enter 9 Try.func44 Try.ntmps44 rfl rfl ?_
  have M : Mo w w := Mo.refl _
  refine w_seq ?_
  refine w_reg ?_
  refine wl_mv (.const (.bool false)) (.bool false) (fun _ => rfl) rfl rfl ?_
  refine w_nil ?_
  refine xn_then ?_
  refine w_seq ?_
  refine w_reg ?_
  refine wl_mv (.tmp 0) (.slice pa L.length c) (fun _ => rfl) rfl rfl ?_
  refine wl_mv (.tmp 1) (.string s) (fun _ => rfl) rfl rfl ?_
  refine wl_callx 61 [(.tmp 5), (.tmp 6)] _ [.slice pa L.length c, .string s] rfl rfl (fun _ _ => by kernel_rfl) (index_n hS s) rfl ?_
  rintro e9 w1 ⟨r, rfl, hr, hq⟩
  refine ⟨_, rfl, ?_⟩
  replace M := M.trans hq
  cases hf0 : decide (0 ≤ r) with
  | true =>
    have hf0p := of_decide_eq_true hf0
    refine wl_bin (fun x y => do eqGuard .geq 3 (.tmp 7) (.const (.int .i64 (0))) x y; binOp .geq 3 x y) (.tmp 7) (.const (.int .i64 (0))) (.int .i64 (r)) (.int .i64 (0)) (.bool true) (fun _ => rfl) rfl rfl (ge3 hf0 _ _ _) rfl ?_
    refine wl_mv (.tmp 8) (.bool true) (fun _ => rfl) rfl rfl ?_
    refine w_nil ?_
    refine xn_then ?_
    refine w_ret ?_
    exact w_ret1 _ (.bool true) rfl rfl ⟨by rw [← hr, hf0], M⟩
  | false =>
    have hf0p := of_decide_eq_false hf0
    refine wl_bin (fun x y => do eqGuard .geq 3 (.tmp 7) (.const (.int .i64 (0))) x y; binOp .geq 3 x y) (.tmp 7) (.const (.int .i64 (0))) (.int .i64 (r)) (.int .i64 (0)) (.bool false) (fun _ => rfl) rfl rfl (ge3 hf0 _ _ _) rfl ?_
    refine wl_mv (.tmp 8) (.bool false) (fun _ => rfl) rfl rfl ?_
    refine w_nil ?_
    refine xn_then ?_
    refine w_ret ?_
    exact w_ret1 _ (.bool false) rfl rfl ⟨by rw [← hr, hf0], M⟩
theorem reserved_n (s : ByteArray) (w : World) : Calls Try.prog 21 #[.string s] w fun e w' => e = .returned (.bool (rsv s)) ∧ Mo w w' := by
  refine w_enter 6 Try.func21 Try.ntmps21 rfl rfl ?_
  have M : Mo w w := Mo.refl _
  refine w_seq ?_
  refine w_reg ?_
  refine wl_mv (.const (.bool false)) (.bool false) (fun _ => rfl) rfl rfl ?_
  refine w_nil ?_
  refine xn_then ?_
  refine w_seq ?_
  refine w_reg ?_
  refine wl_callx 19 [] _ [] rfl rfl (fun _ _ => by kernel_rfl) (words_n _) rfl ?_
  rintro e9 w1 ⟨kw, rfl, hq, hSw⟩
  refine ⟨_, rfl, ?_⟩
  replace M := M.trans hq
  refine wl_mv (.tmp 0) (.string s) (fun _ => rfl) rfl rfl ?_
  cases hf0 : rsv s with
  | true =>
    refine wl_call 44 [(.tmp 3), (.tmp 4)] _ [.slice (some ⟨kw, 0, none⟩) 33 33, .string s] (.bool true) rfl rfl (fun _ _ => by kernel_rfl) (cB hf0 (contains_n (L := wds) (by exact hSw) s)) rfl ?_
    intro w2 hq
    replace M := M.trans hq
    clear hq
    refine wl_mv (.tmp 5) (.bool true) (fun _ => rfl) rfl rfl ?_
    refine w_nil ?_
    refine xn_then ?_
    refine w_ret ?_
    exact w_ret1 _ (.bool true) rfl rfl ⟨rfl, M⟩
  | false =>
    refine wl_call 44 [(.tmp 3), (.tmp 4)] _ [.slice (some ⟨kw, 0, none⟩) 33 33, .string s] (.bool false) rfl rfl (fun _ _ => by kernel_rfl) (cB hf0 (contains_n (L := wds) (by exact hSw) s)) rfl ?_
    intro w2 hq
    replace M := M.trans hq
    clear hq
    refine wl_mv (.tmp 5) (.bool false) (fun _ => rfl) rfl rfl ?_
    refine w_nil ?_
    refine xn_then ?_
    refine w_ret ?_
    exact w_ret1 _ (.bool false) rfl rfl ⟨rfl, M⟩
theorem may_n (s : ByteArray) (w : World) : Calls Try.prog 48 #[.string s] w fun e w' => e = .returned (.bool (may s)) ∧ Mo w w' := by
  refine w_enter 10 Try.func48 Try.ntmps48 rfl rfl ?_
  have M : Mo w w := Mo.refl _
  refine w_seq ?_
  refine w_reg ?_
  refine wl_mv (.const (.bool false)) (.bool false) (fun _ => rfl) rfl rfl ?_
  refine w_nil ?_
  refine xn_then ?_
  refine w_seq ?_
  refine w_reg ?_
  refine wl_mv (.tmp 0) (.string s) (fun _ => rfl) rfl rfl ?_
  cases hf0 : nam s with
  | true =>
    refine wl_call 64 [(.tmp 3)] _ [.string s] (.bool true) rfl rfl (fun _ _ => by kernel_rfl) (cB hf0 (name_n s _)) rfl ?_
    intro w1 hq
    replace M := M.trans hq
    clear hq
    refine wl_mv (.tmp 4) (.bool true) (fun _ => rfl) rfl rfl ?_
    refine wl_mv (.tmp 0) (.string s) (fun _ => rfl) rfl rfl ?_
    cases hf1 : rsv s with
    | true =>
      refine wl_call 21 [(.tmp 6)] _ [.string s] (.bool true) rfl rfl (fun _ _ => by kernel_rfl) (cB hf1 (reserved_n s _)) rfl ?_
      intro w2 hq
      replace M := M.trans hq
      clear hq
      refine wl_un (fun v => Op.unary .not v) (.tmp 7) (.bool true) (.bool false) (fun _ => rfl) rfl (by kernel_rfl) rfl ?_
      refine wl_pick (.tmp 5) (.tmp 8) (.const (.bool false)) true (.bool false) (fun _ => rfl) rfl rfl rfl ?_
      refine wl_mv (.tmp 9) (.bool false) (fun _ => rfl) rfl rfl ?_
      refine w_nil ?_
      refine xn_then ?_
      refine w_ret ?_
      exact w_ret1 _ (.bool false) rfl rfl ⟨by unfold may; rw [hf0, hf1]; rfl, M⟩
    | false =>
      refine wl_call 21 [(.tmp 6)] _ [.string s] (.bool false) rfl rfl (fun _ _ => by kernel_rfl) (cB hf1 (reserved_n s _)) rfl ?_
      intro w2 hq
      replace M := M.trans hq
      clear hq
      refine wl_un (fun v => Op.unary .not v) (.tmp 7) (.bool false) (.bool true) (fun _ => rfl) rfl (by kernel_rfl) rfl ?_
      refine wl_pick (.tmp 5) (.tmp 8) (.const (.bool false)) true (.bool true) (fun _ => rfl) rfl rfl rfl ?_
      refine wl_mv (.tmp 9) (.bool true) (fun _ => rfl) rfl rfl ?_
      refine w_nil ?_
      refine xn_then ?_
      refine w_ret ?_
      exact w_ret1 _ (.bool true) rfl rfl ⟨by unfold may; rw [hf0, hf1]; rfl, M⟩
  | false =>
    refine wl_call 64 [(.tmp 3)] _ [.string s] (.bool false) rfl rfl (fun _ _ => by kernel_rfl) (cB hf0 (name_n s _)) rfl ?_
    intro w1 hq
    replace M := M.trans hq
    clear hq
    refine wl_mv (.tmp 4) (.bool false) (fun _ => rfl) rfl rfl ?_
    refine wl_skip rfl ?_
    refine wl_skip rfl ?_
    refine wl_skip rfl ?_
    refine wl_pick (.tmp 5) (.tmp 8) (.const (.bool false)) false (.bool false) (fun _ => rfl) rfl rfl rfl ?_
    refine wl_mv (.tmp 9) (.bool false) (fun _ => rfl) rfl rfl ?_
    refine w_nil ?_
    refine xn_then ?_
    refine w_ret ?_
    exact w_ret1 _ (.bool false) rfl rfl ⟨by unfold may; rw [hf0]; rfl, M⟩
theorem may_sz {s : ByteArray} (h : may s = true) : s.size ≤ 32 := by
  unfold may nam at h
  simp at h
  omega
end Go.Proofs.Ytbanldffohopiaa
