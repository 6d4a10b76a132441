/-
  SeqtreeLong: the law's walk.
-/
import Derived.Test.YtbmbldloeblbbaaBg
namespace Go.Proofs.Ytbmbldloeblbbaa
open Go.RowKit
theorem bitc_le : ∀ n : Nat, bitc n ≤ n := by
  intro n
  induction n using Nat.strongRecOn with
  | ind n ih =>
    by_cases h : n = 0
    · rw [h, bitc_0]; omega
    · rw [bitc_s h]; have := ih (n / 2) (by omega); omega
def idsUp (i : Nat) : List Int := (List.range i).map (fun k : Nat => (k : Int) + 1)
theorem idsUp_s (i : Nat) : idsUp (i + 1) = idsUp i ++ [(i : Int) + 1] := by simp [idsUp, List.range_succ]
theorem idsUp_at {i k : Nat} (h : k < i) : (idsUp i)[k]? = some ((k : Int) + 1) := by simp [idsUp, h]
theorem idsUp_len (i : Nat) : (idsUp i).length = i := by simp [idsUp]
theorem idsDn_at {i k : Nat} (h : k < i) : (idsUp i).reverse[k]? = some ((i : Int) - k) := by
  rw [List.getElem?_reverse (by rw [idsUp_len]; exact h), idsUp_len, idsUp_at (by omega)]
  congr 1; omega
/-- Which ids stand there, by the way that they were put in. -/
def WY (c : Int) (i : Nat) (l : List Int) : Prop := (∀ j ∈ l, 1 ≤ j ∧ j ≤ i) ∧ (c = 0 → l = idsUp i) ∧ (c = 1 → l = (idsUp i).reverse)
def atw (c : Int) (i : Nat) : Int := if c = 0 then (i : Int) else if c = 1 then 0 else ((i / 2 : Nat) : Int)
theorem atw_le (c : Int) (i : Nat) : 0 ≤ atw c i ∧ atw c i ≤ i := by unfold atw; split; omega; split; omega; omega
theorem WY.ins {c : Int} {i : Nat} {tr tr' : T} {kn : Nat} (h : WY c i tr.ids) (hI : Ins tr (atw c i) ((i : Int) + 1) kn tr') (hs : tr.sz = i) : WY c (i + 1) tr'.ids ∧ tr'.sz = ((i + 1 : Nat) : Int) := by
  obtain ⟨A, B, h1, h2, h3⟩ := hI.ids
  have hz := tr.sz_ids
  have hz' := tr'.sz_ids
  rw [h1, List.length_append] at hz
  rw [h3, List.length_append, List.length_cons] at hz'
  refine ⟨⟨fun j hj => ?_, fun hc => ?_, fun hc => ?_⟩, by omega⟩
  · rw [h3] at hj
    have := h.1 j
    rw [h1] at this
    simp only [List.mem_append, List.mem_cons] at hj this
    rcases hj with hj | rfl | hj
    · have := this (Or.inl hj); omega
    · omega
    · have := this (Or.inr hj); omega
  · have hB : B = [] := by
      simp only [atw, if_pos hc] at h2
      exact List.eq_nil_of_length_eq_zero (by omega)
    subst hB
    rw [h3, idsUp_s, ← h.2.1 hc, h1, List.append_nil]
  · have hA : A = [] := by
      simp only [atw, hc] at h2
      exact List.eq_nil_of_length_eq_zero (by simpa using h2)
    subst hA
    rw [h3, idsUp_s, List.reverse_append, ← h.2.2 hc, h1]
    rfl
theorem nd_at {l : List Int} (h : l.Nodup) {p q : Nat} {x : Int} (h1 : l[p]? = some x) (h2 : l[q]? = some x) : p = q := by
  obtain ⟨a, ha⟩ := List.getElem?_eq_some_iff.1 h1
  obtain ⟨b, hb⟩ := List.getElem?_eq_some_iff.1 h2
  rcases Nat.lt_trichotomy p q with c | c | c
  · exact absurd (ha.trans hb.symm) (List.pairwise_iff_getElem.1 h p q a b c)
  · exact c
  · exact absurd (hb.trans ha.symm) (List.pairwise_iff_getElem.1 h q p b a c)
theorem cv52 {m : Nat} (h : m ≤ 65535) (w : World) : (convert 52 3 (.int .u16 (m : Int))).run Try.prog w = .ok (.int .i64 (m : Int)) w := by
  have e : (convert 52 3 (.int .u16 (m : Int))).run Try.prog w = .ok (.int .i64 (IntKind.i64.wrap (m : Int))) w := by kernel_rfl
  have h2 : IntKind.i64.wrap (m : Int) = m := by rw [IntKind.wrap_i64]; omega
  rw [e, h2]
theorem rm3 {m : Nat} (h : m ≤ 65535) (x y : Operand) (w : World) : (do eqGuard .rem 3 x y (.int .i64 (m : Int)) (.int .i64 1025); binOp .rem 3 (.int .i64 (m : Int)) (.int .i64 1025)).run Try.prog w = .ok (.int .i64 ((m % 1025 : Nat) : Int)) w := by
  have e : (do eqGuard .rem 3 x y (.int .i64 (m : Int)) (.int .i64 1025); binOp .rem 3 (.int .i64 (m : Int)) (.int .i64 1025)).run Try.prog w = .ok (.int .i64 (Int.tmod (m : Int) 1025)) w := by kernel_rfl
  have h2 : Int.tmod (m : Int) 1025 = ((m % 1025 : Nat) : Int) := by
    rw [Int.tmod_eq_emod_of_nonneg (by omega)]; omega
  rw [e, h2]
theorem rm5 {y : Nat} (h : y ≤ 255) (a b : Operand) (w : World) : (do eqGuard .rem 5 a b (.int .u8 (y : Int)) (.int .u8 3); binOp .rem 5 (.int .u8 (y : Int)) (.int .u8 3)).run Try.prog w = .ok (.int .u8 ((y % 3 : Nat) : Int)) w := by
  have e : (do eqGuard .rem 5 a b (.int .u8 (y : Int)) (.int .u8 3); binOp .rem 5 (.int .u8 (y : Int)) (.int .u8 3)).run Try.prog w = .ok (.int .u8 (Int.tmod (y : Int) 3)) w := by kernel_rfl
  have h2 : Int.tmod (y : Int) 3 = ((y % 3 : Nat) : Int) := by
    rw [Int.tmod_eq_emod_of_nonneg (by omega)]; omega
  rw [e, h2]
theorem ix53_0 (i : Nat) (w : World) : (Instr.index 53 (.agg #[.int .i64 (i : Int), .int .i64 0, .int .i64 ((i / 2 : Nat) : Int)]) (.int .u8 0)).run Try.prog w = .ok (.int .i64 (i : Int)) w := by kernel_rfl
theorem ix53_1 (i : Nat) (w : World) : (Instr.index 53 (.agg #[.int .i64 (i : Int), .int .i64 0, .int .i64 ((i / 2 : Nat) : Int)]) (.int .u8 1)).run Try.prog w = .ok (.int .i64 0) w := by kernel_rfl
theorem ix53_2 (i : Nat) (w : World) : (Instr.index 53 (.agg #[.int .i64 (i : Int), .int .i64 0, .int .i64 ((i / 2 : Nat) : Int)]) (.int .u8 2)).run Try.prog w = .ok (.int .i64 ((i / 2 : Nat) : Int)) w := by kernel_rfl
theorem ix53 {c : Nat} (hc : c < 3) (i : Nat) (w : World) : (Instr.index 53 (.agg #[.int .i64 (i : Int), .int .i64 0, .int .i64 ((i / 2 : Nat) : Int)]) (.int .u8 (c : Int))).run Try.prog w = .ok (.int .i64 (atw c i)) w := by
  have : c = 0 ∨ c = 1 ∨ c = 2 := by omega
  rcases this with rfl | rfl | rfl
  · exact ix53_0 i w
  · exact ix53_1 i w
  · exact ix53_2 i w
theorem neI {a b : Int} {r : Bool} (h : decide (a = b) = r) (x y : Operand) (w : World) : (do eqGuard .neq 3 x y (.int .i64 a) (.int .i64 b); binOp .neq 3 (.int .i64 a) (.int .i64 b)).run Try.prog w = .ok (.bool !r) w := by
  have e : (do eqGuard .neq 3 x y (.int .i64 a) (.int .i64 b); binOp .neq 3 (.int .i64 a) (.int .i64 b)).run Try.prog w = .ok (.bool (a != b)) w := by kernel_rfl
  rw [e, ← h]; rfl
theorem neL {a b : Int} {r : Bool} (h : decide (a = b) = r) (x y : Operand) (w : World) : (do eqGuard .neq 2 x y (.int .i64 a) (.int .i64 b); binOp .neq 2 (.int .i64 a) (.int .i64 b)).run Try.prog w = .ok (.bool !r) w := by
  have e : (do eqGuard .neq 2 x y (.int .i64 a) (.int .i64 b); binOp .neq 2 (.int .i64 a) (.int .i64 b)).run Try.prog w = .ok (.bool (a != b)) w := by kernel_rfl
  rw [e, ← h]; rfl
theorem eqU {a b : Int} {r : Bool} (h : decide (a = b) = r) (x y : Operand) (w : World) : (do eqGuard .eql 5 x y (.int .u8 a) (.int .u8 b); binOp .eql 5 (.int .u8 a) (.int .u8 b)).run Try.prog w = .ok (.bool r) w := by
  have e : (do eqGuard .eql 5 x y (.int .u8 a) (.int .u8 b); binOp .eql 5 (.int .u8 a) (.int .u8 b)).run Try.prog w = .ok (.bool (a == b)) w := by kernel_rfl
  rw [e, ← h]; rfl
section
variable {w : World}
theorem long_n (m y : Nat) (hm : m ≤ 65535) (hy : y ≤ 255) : Calls Try.prog 5 #[.int .u16 (m : Int), .int .u8 (y : Int)] w fun e w' => e = .returned (.bool true) ∧ Mo w w' := by
  refine w_enter 112 Try.func5 Try.ntmps5 rfl rfl ?_
  have M : Mo w w := Mo.refl _
  refine w_seq ?_
  refine w_reg ?_
  refine wl_mv (.const (.bool false)) (.bool false) (fun _ => rfl) rfl rfl ?_
  refine w_nil ?_
  refine xn_then ?_
  refine w_seq ?_
  refine w_reg ?_
  refine wl_callx 8 [] _ [] rfl rfl (fun _ _ => by kernel_rfl) (new_g (n0 := w.heap.size) (ks := []) _ M.size (fun _ e => by cases e)) rfl ?_
  rintro _ w1 ⟨t, mb, rfl, hG, hq⟩
  refine ⟨_, rfl, ?_⟩
  replace M := M.trans hq
  clear hq
  refine wl_mv (.tmp 14) (pt t 0) (fun _ => rfl) rfl rfl ?_
  refine w_nil ?_
  refine xn_then ?_
  refine w_seq ?_
  refine w_reg ?_
  refine wl_mv (.tmp 0) (.int .u16 (m : Int)) (fun _ => rfl) rfl rfl ?_
  refine wl_un (fun v => convert 52 3 v) (.tmp 15) (.int .u16 (m : Int)) (.int .i64 ((m : Nat) : Int)) (fun _ => rfl) rfl (cv52 hm _) rfl ?_
  refine wl_bin (fun x y => do eqGuard .rem 3 (.tmp 16) (.const (.int .i64 (1025))) x y; binOp .rem 3 x y) (.tmp 16) (.const (.int .i64 (1025))) (.int .i64 ((m : Nat) : Int)) (.int .i64 (1025)) (.int .i64 ((m % 1025 : Nat) : Int)) (fun _ => rfl) rfl rfl (rm3 hm _ _ _) rfl ?_
  refine wl_mv (.tmp 17) (.int .i64 ((m % 1025 : Nat) : Int)) (fun _ => rfl) rfl rfl ?_
  refine w_nil ?_
  refine xn_then ?_
  refine w_seq ?_
  refine w_seq ?_
  refine w_reg ?_
  refine wl_call 9 [] _ [] (.bool true) rfl rfl (fun _ _ => by kernel_rfl) (begun_n _) rfl ?_
  intro w2 hq
  replace hG := hG.mo hq
  replace M := M.trans hq
  clear hq
  refine wl_un (fun v => Op.unary .not v) (.tmp 18) (.bool true) (.bool false) (fun _ => rfl) rfl (by kernel_rfl) rfl ?_
  refine wl_mv (.tmp 19) (.bool false) (fun _ => rfl) rfl rfl ?_
  refine wl_mv (.tmp 5) (pt t 0) (fun _ => rfl) rfl rfl ?_
  refine wl_bin (fun x y => do eqGuard .eql 23 (.tmp 21) (.const (.pointer none)) x y; binOp .eql 23 x y) (.tmp 21) (.const (.pointer none)) (pt t 0) (pp none) (.bool false) (fun _ => rfl) rfl rfl (by kernel_rfl) rfl ?_
  refine wl_pick (.tmp 20) (.const (.bool true)) (.tmp 22) false (.bool false) (fun _ => rfl) rfl rfl rfl ?_
  refine w_nil ?_
  refine xn_then ?_
  refine w_condF rfl ?_
  refine w_skip ?_
  refine xn_then ?_
  refine w_seq ?_
  refine w_seq ?_
  refine w_reg ?_
  refine wl_mv (.tmp 6) (.int .i64 ((m % 1025 : Nat) : Int)) (fun _ => rfl) rfl rfl ?_
  refine wl_mv (.const (.int .i64 (0))) (.int .i64 (0)) (fun _ => rfl) rfl rfl ?_
  refine w_nil ?_
  refine xn_then ?_
  refine w_block ?_
  refine w_loop (fun r l w1 => ∃ (i : Nat) (tr : T) (lk : Int), r + i = m % 1025 ∧ look l 1 = .int .u8 (y : Int) ∧ look l 5 = pt t 0 ∧ look l 6 = .int .i64 (((m % 1025 : Nat) : Int)) ∧ look l 24 = .int .i64 (((m % 1025 : Nat) : Int)) ∧ look l 25 = .int .i64 (i : Int) ∧ GT w.heap.size [] w1 t mb tr lk ∧ tr.bw ∧ tr.sz = i ∧ lk ≤ 1000 * i ∧ WY ((y % 3 : Nat) : Int) i tr.ids ∧ Mo w w1) (m % 1025) ⟨0, .e, 0, by omega, rfl, rfl, rfl, rfl, rfl, hG, trivial, rfl, by decide, ⟨fun _ e => (by cases e), fun _ => rfl, fun _ => rfl⟩, M⟩ ?_
  clear M hG
  rintro r l wl ⟨i, tr, lk, hr, e1, e5, e6, e24, e25, hG, hb, hsz, hlk, hW, M⟩
  have hht := ht_21 hb hG.le
  have hkl := tr.kv_len
  have hn : m % 1025 < 1025 := Nat.mod_lt _ (by decide)
  refine w_seq ?_
  cases hf0 : decide ((i : Int) < ((m % 1025 : Nat) : Int)) with
  | true =>
    have hf0p := of_decide_eq_true hf0
    refine w_reg ?_
    refine wl_bin (fun x y => do eqGuard .lss 3 (.tmp 25) (.tmp 24) x y; binOp .lss 3 x y) (.tmp 25) (.tmp 24) (.int .i64 (i : Int)) (.int .i64 (((m % 1025 : Nat) : Int))) (.bool true) (fun _ => rfl) e25 e24 (ltI hf0 _ _ _) rfl ?_
    refine w_nil ?_
    refine xn_then ?_
    refine w_seq ?_
    refine w_condT rfl ?_
    refine w_skip ?_
    refine xn_then ?_
    refine w_seq ?_
    refine w_block ?_
    refine w_seq ?_
    refine w_reg ?_
    refine wl_mv (.tmp 25) (.int .i64 (i : Int)) (fun _ => rfl) e25 rfl ?_
    refine wl_mv (.tmp 27) (.int .i64 (i : Int)) (fun _ => rfl) rfl rfl ?_
    refine w_nil ?_
    refine xn_then ?_
    refine w_seq ?_
    refine w_reg ?_
    refine wl_mv (.tmp 7) (.int .i64 (i : Int)) (fun _ => rfl) rfl rfl ?_
    refine wl_mv (.tmp 7) (.int .i64 (i : Int)) (fun _ => rfl) rfl rfl ?_
    refine wl_bin (fun x y => do eqGuard .quo 3 (.tmp 29) (.const (.int .i64 (2))) x y; binOp .quo 3 x y) (.tmp 29) (.const (.int .i64 (2))) (.int .i64 (i : Int)) (.int .i64 (2)) (.int .i64 ((i / 2 : Nat) : Int)) (fun _ => rfl) rfl rfl (quo2 (by omega) _ _ _) rfl ?_
    refine wl_build 53 [(0, (.tmp 28)), (1, (.const (.int .i64 (0)))), (2, (.tmp 30))] [(0, .int .i64 (i : Int)), (1, .int .i64 (0)), (2, .int .i64 ((i / 2 : Nat) : Int))] (.agg #[.int .i64 (i : Int), .int .i64 (0), .int .i64 ((i / 2 : Nat) : Int)]) rfl rfl (by kernel_rfl) rfl ?_
    refine wl_mv (.tmp 1) (.int .u8 (y : Int)) (fun _ => rfl) e1 rfl ?_
    refine wl_bin (fun x y => do eqGuard .rem 5 (.tmp 32) (.const (.int .u8 (3))) x y; binOp .rem 5 x y) (.tmp 32) (.const (.int .u8 (3))) (.int .u8 (y : Int)) (.int .u8 (3)) (.int .u8 (((y % 3 : Nat) : Int))) (fun _ => rfl) rfl rfl (rm5 hy _ _ _) rfl ?_
    refine wl_bin (fun x y => Instr.index 53 x y) (.tmp 31) (.tmp 33) (.agg #[.int .i64 (i : Int), .int .i64 (0), .int .i64 ((i / 2 : Nat) : Int)]) (.int .u8 (((y % 3 : Nat) : Int))) (.int .i64 (atw ((y % 3 : Nat) : Int) i)) (fun _ => rfl) rfl rfl (ix53 (Nat.mod_lt _ (by decide)) _ _) rfl ?_
    refine wl_mv (.tmp 34) (.int .i64 (atw ((y % 3 : Nat) : Int) i)) (fun _ => rfl) rfl rfl ?_
    refine w_nil ?_
    refine xn_then ?_
    refine w_seq ?_
    refine w_reg ?_
    refine wl_mv (.tmp 5) (pt t 0) (fun _ => rfl) e5 rfl ?_
    refine wl_mv (.tmp 8) (.int .i64 (atw ((y % 3 : Nat) : Int) i)) (fun _ => rfl) rfl rfl ?_
    refine wl_mv (.tmp 7) (.int .i64 (i : Int)) (fun _ => rfl) rfl rfl ?_
    refine wl_bin (fun x y => do eqGuard .add 3 (.tmp 37) (.const (.int .i64 (1))) x y; binOp .add 3 x y) (.tmp 37) (.const (.int .i64 (1))) (.int .i64 (i : Int)) (.int .i64 (1)) (.int .i64 ((i : Int) + 1)) (fun _ => rfl) rfl rfl (addI (by omega) (by omega) _ _ _) rfl ?_
    refine wl_callx 19 [(.tmp 35), (.tmp 36), (.tmp 38)] _ [pt t 0, .int .i64 (atw ((y % 3 : Nat) : Int) i), .int .i64 ((i : Int) + 1)] rfl rfl (fun _ _ => by kernel_rfl) (insert_g hG (fun e => by have := hW.1 _ e; omega) (by omega) (by omega) (by omega) (atw_le _ _).1 (by have := (atw_le ((y % 3 : Nat) : Int) i).2; omega) (by omega)) rfl ?_
    rintro _ w11 ⟨rfl, kn, tr2, lk2, hI, hG, hkn, hl, hu, hM2⟩
    refine ⟨_, rfl, ?_⟩
    obtain ⟨hW2, hs2⟩ := hW.ins hI hsz
    replace hb := hI.bw hb
    replace M := Wr.mo hM2 M (Nat.le_refl _)
    clear hM2
    refine wl_bin (fun x y => do eqGuard .neq 46 (.tmp 39) (.const (.int .i64 (0))) x y; binOp .neq 46 x y) (.tmp 39) (.const (.int .i64 (0))) (.int .i64 (0)) (.int .i64 (0)) (.bool false) (fun _ => rfl) rfl rfl (by kernel_rfl) rfl ?_
    refine w_nil ?_
    refine xn_then ?_
    refine w_condF rfl ?_
    refine w_skip ?_
    refine xn_blk ?_
    refine xn_then ?_
    refine w_reg ?_
    refine wl_bin (fun x y => do eqGuard .add 3 (.tmp 25) (.const (.int .i64 (1))) x y; binOp .add 3 x y) (.tmp 25) (.const (.int .i64 (1))) (.int .i64 (i : Int)) (.int .i64 (1)) (.int .i64 ((i : Int) + 1)) (fun _ => rfl) e25 rfl (addI (by omega) (by omega) _ _ _) rfl ?_
    refine wl_mv (.tmp 41) (.int .i64 ((i : Int) + 1)) (fun _ => rfl) rfl rfl ?_
    refine w_nil ?_
    exact xn_loop (r - 1) (by omega) ⟨i + 1, tr2, lk2, by omega, e1, e5, e6, e24, rfl, hG, hb, hs2, by omega, hW2, M⟩
  | false =>
    have hf0p := of_decide_eq_false hf0
    refine w_reg ?_
    refine wl_bin (fun x y => do eqGuard .lss 3 (.tmp 25) (.tmp 24) x y; binOp .lss 3 x y) (.tmp 25) (.tmp 24) (.int .i64 (i : Int)) (.int .i64 (((m % 1025 : Nat) : Int))) (.bool false) (fun _ => rfl) e25 e24 (ltI hf0 _ _ _) rfl ?_
    refine w_nil ?_
    refine xn_then ?_
    refine w_seq ?_
    refine w_condF rfl ?_
    refine w_exit ?_
    refine xx_then ?_
    refine xx_then ?_
    have hi : i = m % 1025 := by omega
    subst hi
    have hbits := ht_bits hb hG.le
    have hbl := bitc_le (m % 1025)
    have hsn : tr.sz.toNat = m % 1025 := by omega
    rw [hsn] at hbits
    refine xx_blk ?_
    refine xn_then ?_
    refine w_seq ?_
    refine w_seq ?_
    refine w_reg ?_
    refine wl_mv (.tmp 5) (pt t 0) (fun _ => rfl) e5 rfl ?_
    refine wl_call 15 [(.tmp 42)] _ [pt t 0] (.int .i64 ((tr.kv.length : Int))) rfl rfl (fun _ _ => by kernel_rfl) (len_g hG) rfl ?_
    intro w11 hq
    replace hG := hG.mo hq
    replace M := M.trans hq
    clear hq
    refine wl_mv (.tmp 6) (.int .i64 (((m % 1025 : Nat) : Int))) (fun _ => rfl) e6 rfl ?_
    refine wl_bin (fun x y => do eqGuard .neq 3 (.tmp 43) (.tmp 44) x y; binOp .neq 3 x y) (.tmp 43) (.tmp 44) (.int .i64 ((tr.kv.length : Int))) (.int .i64 (((m % 1025 : Nat) : Int))) (.bool false) (fun _ => rfl) rfl rfl (neI (decide_eq_true (by omega)) _ _ _) rfl ?_
    refine wl_mv (.tmp 45) (.bool false) (fun _ => rfl) rfl rfl ?_
    refine wl_mv (.tmp 5) (pt t 0) (fun _ => rfl) e5 rfl ?_
    refine wl_call 22 [(.tmp 47)] _ [pt t 0] (.int .i64 ((tr.ht : Int))) rfl rfl (fun _ _ => by kernel_rfl) (depth_g hG) rfl ?_
    intro w12 hq
    replace hG := hG.mo hq
    replace M := M.trans hq
    clear hq
    refine wl_mv (.tmp 6) (.int .i64 (((m % 1025 : Nat) : Int))) (fun _ => rfl) e6 rfl ?_
    refine wl_call 23 [(.tmp 49)] _ [.int .i64 (((m % 1025 : Nat) : Int))] (.int .i64 ((bitc (m % 1025) : Int))) rfl rfl (fun _ _ => by kernel_rfl) (bits_n (m % 1025) _ (by omega) (by omega)) rfl ?_
    intro w13 hq
    replace hG := hG.mo hq
    replace M := M.trans hq
    clear hq
    refine wl_bin (fun x y => do eqGuard .mul 3 (.const (.int .i64 (3))) (.tmp 50) x y; binOp .mul 3 x y) (.const (.int .i64 (3))) (.tmp 50) (.int .i64 (3)) (.int .i64 ((bitc (m % 1025) : Int))) (.int .i64 (3 * (bitc (m % 1025) : Int))) (fun _ => rfl) rfl rfl (mulI (by omega) (by omega) _ _ _) rfl ?_
    refine wl_bin (fun x y => do eqGuard .gtr 3 (.tmp 48) (.tmp 51) x y; binOp .gtr 3 x y) (.tmp 48) (.tmp 51) (.int .i64 ((tr.ht : Int))) (.int .i64 (3 * (bitc (m % 1025) : Int))) (.bool false) (fun _ => rfl) rfl rfl (gtI (decide_eq_false (by omega)) _ _ _) rfl ?_
    refine wl_pick (.tmp 46) (.const (.bool true)) (.tmp 52) false (.bool false) (fun _ => rfl) rfl rfl rfl ?_
    refine w_nil ?_
    refine xn_then ?_
    refine w_condF rfl ?_
    refine w_skip ?_
    refine xn_then ?_
    refine w_seq ?_
    refine w_seq ?_
    refine w_reg ?_
    refine wl_mv (.tmp 6) (.int .i64 (((m % 1025 : Nat) : Int))) (fun _ => rfl) e6 rfl ?_
    refine wl_mv (.const (.int .i64 (0))) (.int .i64 (0)) (fun _ => rfl) rfl rfl ?_
    refine w_nil ?_
    refine xn_then ?_
    refine w_block ?_
    refine w_loop (fun r l w1 => ∃ (i : Nat) (lk : Int), r + i = m % 1025 ∧ look l 1 = .int .u8 (y : Int) ∧ look l 5 = pt t 0 ∧ look l 6 = .int .i64 (((m % 1025 : Nat) : Int)) ∧ look l 54 = .int .i64 (((m % 1025 : Nat) : Int)) ∧ look l 55 = .int .i64 (i : Int) ∧ GT w.heap.size [] w1 t mb tr lk ∧ lk ≤ 1000 * 1025 + 1000 * i ∧ Mo w w1) (m % 1025) ⟨0, lk, by omega, e1, e5, e6, rfl, rfl, hG, by omega, M⟩ ?_
    clear M hG hlk
    rintro r2 l2 wl2 ⟨i2, lk3, hr2, e1, e5, e6, e54, e55, hG, hlk, M⟩
    refine w_seq ?_
    cases hf1 : decide ((i2 : Int) < ((m % 1025 : Nat) : Int)) with
    | true =>
      have hf1p := of_decide_eq_true hf1
      refine w_reg ?_
      refine wl_bin (fun x y => do eqGuard .lss 3 (.tmp 55) (.tmp 54) x y; binOp .lss 3 x y) (.tmp 55) (.tmp 54) (.int .i64 (i2 : Int)) (.int .i64 (((m % 1025 : Nat) : Int))) (.bool true) (fun _ => rfl) e55 e54 (ltI hf1 _ _ _) rfl ?_
      refine w_nil ?_
      refine xn_then ?_
      refine w_seq ?_
      refine w_condT rfl ?_
      refine w_skip ?_
      refine xn_then ?_
      refine w_seq ?_
      refine w_block ?_
      refine w_seq ?_
      refine w_reg ?_
      refine wl_mv (.tmp 55) (.int .i64 (i2 : Int)) (fun _ => rfl) e55 rfl ?_
      refine wl_mv (.tmp 57) (.int .i64 (i2 : Int)) (fun _ => rfl) rfl rfl ?_
      refine w_nil ?_
      refine xn_then ?_
      refine w_seq ?_
      refine w_reg ?_
      refine wl_mv (.tmp 5) (pt t 0) (fun _ => rfl) e5 rfl ?_
      refine wl_mv (.tmp 9) (.int .i64 (i2 : Int)) (fun _ => rfl) rfl rfl ?_
      refine wl_callx 11 [(.tmp 59), (.tmp 60)] _ [pt t 0, .int .i64 (i2 : Int)] rfl rfl (fun _ _ => by kernel_rfl) (at_g hG (by omega) (by omega) (by omega)) rfl ?_
      rintro _ w31 ⟨x, lk4, rfl, hx, hG, hl4, hu4, hM2⟩
      refine ⟨_, rfl, ?_⟩
      replace M := Wr.mo hM2 M (Nat.le_refl _)
      clear hM2
      refine wl_mv (.tmp 61) (.tuple #[.int .i64 (x), .bool true]) (fun _ => rfl) rfl rfl ?_
      refine wl_un (fun v => Instr.extract v 0) (.tmp 58) (.tuple #[.int .i64 (x), .bool true]) (.int .i64 (x)) (fun _ => rfl) rfl (by kernel_rfl) rfl ?_
      refine wl_un (fun v => Instr.extract v 1) (.tmp 58) (.tuple #[.int .i64 (x), .bool true]) (.bool true) (fun _ => rfl) rfl (by kernel_rfl) rfl ?_
      refine wl_mv (.tmp 62) (.int .i64 (x)) (fun _ => rfl) rfl rfl ?_
      refine wl_mv (.tmp 63) (.bool true) (fun _ => rfl) rfl rfl ?_
      refine w_nil ?_
      refine xn_then ?_
      refine w_seq ?_
      refine w_reg ?_
      refine wl_mv (.tmp 5) (pt t 0) (fun _ => rfl) e5 rfl ?_
      refine wl_mv (.tmp 10) (.int .i64 (x)) (fun _ => rfl) rfl rfl ?_
      refine wl_callx 13 [(.tmp 65), (.tmp 66)] _ [pt t 0, .int .i64 (x)] rfl rfl (fun _ _ => by kernel_rfl) (index_g hG (List.mem_of_getElem? hx) (by omega)) rfl ?_
      rintro _ w32 ⟨p, lk5, rfl, hp, hp2, hG, hl5, hu5, hM2⟩
      refine ⟨_, rfl, ?_⟩
      replace hx : tr.ids[i2]? = some x := hx
      have hpi : p = (i2 : Int) := by have := nd_at hG.nd hp2 hx; omega
      subst hpi
      have hw0 : ((y % 3 : Nat) : Int) = 0 → x = (i2 : Int) + 1 := fun hc => by rw [hW.2.1 hc, idsUp_at (by omega)] at hx; exact (Option.some.inj hx).symm
      have hw1 : ((y % 3 : Nat) : Int) = 1 → x = ((m % 1025 : Nat) : Int) - (i2 : Int) := fun hc => by rw [hW.2.2 hc, idsDn_at (by omega)] at hx; exact (Option.some.inj hx).symm
      replace M := Wr.mo hM2 M (Nat.le_refl _)
      clear hM2
      refine wl_mv (.tmp 67) (.tuple #[.int .i64 ((i2 : Int)), .bool true]) (fun _ => rfl) rfl rfl ?_
      refine wl_un (fun v => Instr.extract v 0) (.tmp 64) (.tuple #[.int .i64 ((i2 : Int)), .bool true]) (.int .i64 ((i2 : Int))) (fun _ => rfl) rfl (by kernel_rfl) rfl ?_
      refine wl_un (fun v => Instr.extract v 1) (.tmp 64) (.tuple #[.int .i64 ((i2 : Int)), .bool true]) (.bool true) (fun _ => rfl) rfl (by kernel_rfl) rfl ?_
      refine wl_mv (.tmp 68) (.int .i64 ((i2 : Int))) (fun _ => rfl) rfl rfl ?_
      refine wl_mv (.tmp 69) (.bool true) (fun _ => rfl) rfl rfl ?_
      refine w_nil ?_
      refine xn_then ?_
      refine w_seq ?_
      cases hf2 : decide (((y % 3 : Nat) : Int) = 0) with
      | true =>
        have hf2p := of_decide_eq_true hf2
        cases hf3 : decide (((y % 3 : Nat) : Int) = 1) with
        | true =>
          have hf3p := of_decide_eq_true hf3
          refine w_reg ?_
          refine wl_mv (.tmp 11) (.bool true) (fun _ => rfl) rfl rfl ?_
          refine wl_un (fun v => Op.unary .not v) (.tmp 70) (.bool true) (.bool false) (fun _ => rfl) rfl (by kernel_rfl) rfl ?_
          refine wl_mv (.tmp 71) (.bool false) (fun _ => rfl) rfl rfl ?_
          refine wl_mv (.tmp 13) (.bool true) (fun _ => rfl) rfl rfl ?_
          refine wl_un (fun v => Op.unary .not v) (.tmp 73) (.bool true) (.bool false) (fun _ => rfl) rfl (by kernel_rfl) rfl ?_
          refine wl_pick (.tmp 72) (.const (.bool true)) (.tmp 74) false (.bool false) (fun _ => rfl) rfl rfl rfl ?_
          refine wl_mv (.tmp 75) (.bool false) (fun _ => rfl) rfl rfl ?_
          refine wl_mv (.tmp 12) (.int .i64 ((i2 : Int))) (fun _ => rfl) rfl rfl ?_
          refine wl_mv (.tmp 9) (.int .i64 (i2 : Int)) (fun _ => rfl) rfl rfl ?_
          refine wl_bin (fun x y => do eqGuard .neq 3 (.tmp 77) (.tmp 78) x y; binOp .neq 3 x y) (.tmp 77) (.tmp 78) (.int .i64 ((i2 : Int))) (.int .i64 (i2 : Int)) (.bool false) (fun _ => rfl) rfl rfl (neI (decide_eq_true rfl) _ _ _) rfl ?_
          refine wl_pick (.tmp 76) (.const (.bool true)) (.tmp 79) false (.bool false) (fun _ => rfl) rfl rfl rfl ?_
          refine wl_mv (.tmp 80) (.bool false) (fun _ => rfl) rfl rfl ?_
          refine wl_mv (.tmp 1) (.int .u8 (y : Int)) (fun _ => rfl) e1 rfl ?_
          refine wl_bin (fun x y => do eqGuard .rem 5 (.tmp 82) (.const (.int .u8 (3))) x y; binOp .rem 5 x y) (.tmp 82) (.const (.int .u8 (3))) (.int .u8 (y : Int)) (.int .u8 (3)) (.int .u8 (((y % 3 : Nat) : Int))) (fun _ => rfl) rfl rfl (rm5 hy _ _ _) rfl ?_
          refine wl_bin (fun x y => do eqGuard .eql 5 (.tmp 83) (.const (.int .u8 (0))) x y; binOp .eql 5 x y) (.tmp 83) (.const (.int .u8 (0))) (.int .u8 (((y % 3 : Nat) : Int))) (.int .u8 (0)) (.bool true) (fun _ => rfl) rfl rfl (eqU hf2 _ _ _) rfl ?_
          refine wl_mv (.tmp 84) (.bool true) (fun _ => rfl) rfl rfl ?_
          refine wl_mv (.tmp 10) (.int .i64 (x)) (fun _ => rfl) rfl rfl ?_
          refine wl_mv (.tmp 9) (.int .i64 (i2 : Int)) (fun _ => rfl) rfl rfl ?_
          refine wl_bin (fun x y => do eqGuard .add 3 (.tmp 87) (.const (.int .i64 (1))) x y; binOp .add 3 x y) (.tmp 87) (.const (.int .i64 (1))) (.int .i64 (i2 : Int)) (.int .i64 (1)) (.int .i64 ((i2 : Int) + 1)) (fun _ => rfl) rfl rfl (addI (by omega) (by omega) _ _ _) rfl ?_
          refine wl_bin (fun x y => do eqGuard .neq 2 (.tmp 86) (.tmp 88) x y; binOp .neq 2 x y) (.tmp 86) (.tmp 88) (.int .i64 (x)) (.int .i64 ((i2 : Int) + 1)) (.bool false) (fun _ => rfl) rfl rfl (neL (decide_eq_true (hw0 (of_decide_eq_true hf2))) _ _ _) rfl ?_
          refine wl_pick (.tmp 85) (.tmp 89) (.const (.bool false)) true (.bool false) (fun _ => rfl) rfl rfl rfl ?_
          refine wl_pick (.tmp 81) (.const (.bool true)) (.tmp 90) false (.bool false) (fun _ => rfl) rfl rfl rfl ?_
          refine wl_mv (.tmp 91) (.bool false) (fun _ => rfl) rfl rfl ?_
          refine wl_mv (.tmp 1) (.int .u8 (y : Int)) (fun _ => rfl) e1 rfl ?_
          refine wl_bin (fun x y => do eqGuard .rem 5 (.tmp 93) (.const (.int .u8 (3))) x y; binOp .rem 5 x y) (.tmp 93) (.const (.int .u8 (3))) (.int .u8 (y : Int)) (.int .u8 (3)) (.int .u8 (((y % 3 : Nat) : Int))) (fun _ => rfl) rfl rfl (rm5 hy _ _ _) rfl ?_
          refine wl_bin (fun x y => do eqGuard .eql 5 (.tmp 94) (.const (.int .u8 (1))) x y; binOp .eql 5 x y) (.tmp 94) (.const (.int .u8 (1))) (.int .u8 (((y % 3 : Nat) : Int))) (.int .u8 (1)) (.bool true) (fun _ => rfl) rfl rfl (eqU hf3 _ _ _) rfl ?_
          refine wl_mv (.tmp 95) (.bool true) (fun _ => rfl) rfl rfl ?_
          refine wl_mv (.tmp 10) (.int .i64 (x)) (fun _ => rfl) rfl rfl ?_
          refine wl_mv (.tmp 6) (.int .i64 (((m % 1025 : Nat) : Int))) (fun _ => rfl) e6 rfl ?_
          refine wl_mv (.tmp 9) (.int .i64 (i2 : Int)) (fun _ => rfl) rfl rfl ?_
          refine wl_bin (fun x y => do eqGuard .sub 3 (.tmp 98) (.tmp 99) x y; binOp .sub 3 x y) (.tmp 98) (.tmp 99) (.int .i64 (((m % 1025 : Nat) : Int))) (.int .i64 (i2 : Int)) (.int .i64 (((m % 1025 : Nat) : Int) - (i2 : Int))) (fun _ => rfl) rfl rfl (subI (by omega) (by omega) _ _ _) rfl ?_
          refine wl_bin (fun x y => do eqGuard .neq 2 (.tmp 97) (.tmp 100) x y; binOp .neq 2 x y) (.tmp 97) (.tmp 100) (.int .i64 (x)) (.int .i64 (((m % 1025 : Nat) : Int) - (i2 : Int))) (.bool false) (fun _ => rfl) rfl rfl (neL (decide_eq_true (hw1 (of_decide_eq_true hf3))) _ _ _) rfl ?_
          refine wl_pick (.tmp 96) (.tmp 101) (.const (.bool false)) true (.bool false) (fun _ => rfl) rfl rfl rfl ?_
          refine wl_pick (.tmp 92) (.const (.bool true)) (.tmp 102) false (.bool false) (fun _ => rfl) rfl rfl rfl ?_
          refine w_nil ?_
          refine xn_then ?_
          refine w_condF rfl ?_
          refine w_skip ?_
          refine xn_blk ?_
          refine xn_then ?_
          refine w_reg ?_
          refine wl_bin (fun x y => do eqGuard .add 3 (.tmp 55) (.const (.int .i64 (1))) x y; binOp .add 3 x y) (.tmp 55) (.const (.int .i64 (1))) (.int .i64 (i2 : Int)) (.int .i64 (1)) (.int .i64 ((i2 : Int) + 1)) (fun _ => rfl) e55 rfl (addI (by omega) (by omega) _ _ _) rfl ?_
          refine wl_mv (.tmp 104) (.int .i64 ((i2 : Int) + 1)) (fun _ => rfl) rfl rfl ?_
          refine w_nil ?_
          exact xn_loop (r2 - 1) (by omega) ⟨i2 + 1, lk5, by omega, e1, e5, e6, e54, rfl, hG, by omega, M⟩
        | false =>
          have hf3p := of_decide_eq_false hf3
          refine w_reg ?_
          refine wl_mv (.tmp 11) (.bool true) (fun _ => rfl) rfl rfl ?_
          refine wl_un (fun v => Op.unary .not v) (.tmp 70) (.bool true) (.bool false) (fun _ => rfl) rfl (by kernel_rfl) rfl ?_
          refine wl_mv (.tmp 71) (.bool false) (fun _ => rfl) rfl rfl ?_
          refine wl_mv (.tmp 13) (.bool true) (fun _ => rfl) rfl rfl ?_
          refine wl_un (fun v => Op.unary .not v) (.tmp 73) (.bool true) (.bool false) (fun _ => rfl) rfl (by kernel_rfl) rfl ?_
          refine wl_pick (.tmp 72) (.const (.bool true)) (.tmp 74) false (.bool false) (fun _ => rfl) rfl rfl rfl ?_
          refine wl_mv (.tmp 75) (.bool false) (fun _ => rfl) rfl rfl ?_
          refine wl_mv (.tmp 12) (.int .i64 ((i2 : Int))) (fun _ => rfl) rfl rfl ?_
          refine wl_mv (.tmp 9) (.int .i64 (i2 : Int)) (fun _ => rfl) rfl rfl ?_
          refine wl_bin (fun x y => do eqGuard .neq 3 (.tmp 77) (.tmp 78) x y; binOp .neq 3 x y) (.tmp 77) (.tmp 78) (.int .i64 ((i2 : Int))) (.int .i64 (i2 : Int)) (.bool false) (fun _ => rfl) rfl rfl (neI (decide_eq_true rfl) _ _ _) rfl ?_
          refine wl_pick (.tmp 76) (.const (.bool true)) (.tmp 79) false (.bool false) (fun _ => rfl) rfl rfl rfl ?_
          refine wl_mv (.tmp 80) (.bool false) (fun _ => rfl) rfl rfl ?_
          refine wl_mv (.tmp 1) (.int .u8 (y : Int)) (fun _ => rfl) e1 rfl ?_
          refine wl_bin (fun x y => do eqGuard .rem 5 (.tmp 82) (.const (.int .u8 (3))) x y; binOp .rem 5 x y) (.tmp 82) (.const (.int .u8 (3))) (.int .u8 (y : Int)) (.int .u8 (3)) (.int .u8 (((y % 3 : Nat) : Int))) (fun _ => rfl) rfl rfl (rm5 hy _ _ _) rfl ?_
          refine wl_bin (fun x y => do eqGuard .eql 5 (.tmp 83) (.const (.int .u8 (0))) x y; binOp .eql 5 x y) (.tmp 83) (.const (.int .u8 (0))) (.int .u8 (((y % 3 : Nat) : Int))) (.int .u8 (0)) (.bool true) (fun _ => rfl) rfl rfl (eqU hf2 _ _ _) rfl ?_
          refine wl_mv (.tmp 84) (.bool true) (fun _ => rfl) rfl rfl ?_
          refine wl_mv (.tmp 10) (.int .i64 (x)) (fun _ => rfl) rfl rfl ?_
          refine wl_mv (.tmp 9) (.int .i64 (i2 : Int)) (fun _ => rfl) rfl rfl ?_
          refine wl_bin (fun x y => do eqGuard .add 3 (.tmp 87) (.const (.int .i64 (1))) x y; binOp .add 3 x y) (.tmp 87) (.const (.int .i64 (1))) (.int .i64 (i2 : Int)) (.int .i64 (1)) (.int .i64 ((i2 : Int) + 1)) (fun _ => rfl) rfl rfl (addI (by omega) (by omega) _ _ _) rfl ?_
          refine wl_bin (fun x y => do eqGuard .neq 2 (.tmp 86) (.tmp 88) x y; binOp .neq 2 x y) (.tmp 86) (.tmp 88) (.int .i64 (x)) (.int .i64 ((i2 : Int) + 1)) (.bool false) (fun _ => rfl) rfl rfl (neL (decide_eq_true (hw0 (of_decide_eq_true hf2))) _ _ _) rfl ?_
          refine wl_pick (.tmp 85) (.tmp 89) (.const (.bool false)) true (.bool false) (fun _ => rfl) rfl rfl rfl ?_
          refine wl_pick (.tmp 81) (.const (.bool true)) (.tmp 90) false (.bool false) (fun _ => rfl) rfl rfl rfl ?_
          refine wl_mv (.tmp 91) (.bool false) (fun _ => rfl) rfl rfl ?_
          refine wl_mv (.tmp 1) (.int .u8 (y : Int)) (fun _ => rfl) e1 rfl ?_
          refine wl_bin (fun x y => do eqGuard .rem 5 (.tmp 93) (.const (.int .u8 (3))) x y; binOp .rem 5 x y) (.tmp 93) (.const (.int .u8 (3))) (.int .u8 (y : Int)) (.int .u8 (3)) (.int .u8 (((y % 3 : Nat) : Int))) (fun _ => rfl) rfl rfl (rm5 hy _ _ _) rfl ?_
          refine wl_bin (fun x y => do eqGuard .eql 5 (.tmp 94) (.const (.int .u8 (1))) x y; binOp .eql 5 x y) (.tmp 94) (.const (.int .u8 (1))) (.int .u8 (((y % 3 : Nat) : Int))) (.int .u8 (1)) (.bool false) (fun _ => rfl) rfl rfl (eqU hf3 _ _ _) rfl ?_
          refine wl_mv (.tmp 95) (.bool false) (fun _ => rfl) rfl rfl ?_
          refine wl_skip rfl ?_
          refine wl_skip rfl ?_
          refine wl_skip rfl ?_
          refine wl_skip rfl ?_
          refine wl_skip rfl ?_
          refine wl_pick (.tmp 96) (.tmp 101) (.const (.bool false)) false (.bool false) (fun _ => rfl) rfl rfl rfl ?_
          refine wl_pick (.tmp 92) (.const (.bool true)) (.tmp 102) false (.bool false) (fun _ => rfl) rfl rfl rfl ?_
          refine w_nil ?_
          refine xn_then ?_
          refine w_condF rfl ?_
          refine w_skip ?_
          refine xn_blk ?_
          refine xn_then ?_
          refine w_reg ?_
          refine wl_bin (fun x y => do eqGuard .add 3 (.tmp 55) (.const (.int .i64 (1))) x y; binOp .add 3 x y) (.tmp 55) (.const (.int .i64 (1))) (.int .i64 (i2 : Int)) (.int .i64 (1)) (.int .i64 ((i2 : Int) + 1)) (fun _ => rfl) e55 rfl (addI (by omega) (by omega) _ _ _) rfl ?_
          refine wl_mv (.tmp 104) (.int .i64 ((i2 : Int) + 1)) (fun _ => rfl) rfl rfl ?_
          refine w_nil ?_
          exact xn_loop (r2 - 1) (by omega) ⟨i2 + 1, lk5, by omega, e1, e5, e6, e54, rfl, hG, by omega, M⟩
      | false =>
        have hf2p := of_decide_eq_false hf2
        cases hf3 : decide (((y % 3 : Nat) : Int) = 1) with
        | true =>
          have hf3p := of_decide_eq_true hf3
          refine w_reg ?_
          refine wl_mv (.tmp 11) (.bool true) (fun _ => rfl) rfl rfl ?_
          refine wl_un (fun v => Op.unary .not v) (.tmp 70) (.bool true) (.bool false) (fun _ => rfl) rfl (by kernel_rfl) rfl ?_
          refine wl_mv (.tmp 71) (.bool false) (fun _ => rfl) rfl rfl ?_
          refine wl_mv (.tmp 13) (.bool true) (fun _ => rfl) rfl rfl ?_
          refine wl_un (fun v => Op.unary .not v) (.tmp 73) (.bool true) (.bool false) (fun _ => rfl) rfl (by kernel_rfl) rfl ?_
          refine wl_pick (.tmp 72) (.const (.bool true)) (.tmp 74) false (.bool false) (fun _ => rfl) rfl rfl rfl ?_
          refine wl_mv (.tmp 75) (.bool false) (fun _ => rfl) rfl rfl ?_
          refine wl_mv (.tmp 12) (.int .i64 ((i2 : Int))) (fun _ => rfl) rfl rfl ?_
          refine wl_mv (.tmp 9) (.int .i64 (i2 : Int)) (fun _ => rfl) rfl rfl ?_
          refine wl_bin (fun x y => do eqGuard .neq 3 (.tmp 77) (.tmp 78) x y; binOp .neq 3 x y) (.tmp 77) (.tmp 78) (.int .i64 ((i2 : Int))) (.int .i64 (i2 : Int)) (.bool false) (fun _ => rfl) rfl rfl (neI (decide_eq_true rfl) _ _ _) rfl ?_
          refine wl_pick (.tmp 76) (.const (.bool true)) (.tmp 79) false (.bool false) (fun _ => rfl) rfl rfl rfl ?_
          refine wl_mv (.tmp 80) (.bool false) (fun _ => rfl) rfl rfl ?_
          refine wl_mv (.tmp 1) (.int .u8 (y : Int)) (fun _ => rfl) e1 rfl ?_
          refine wl_bin (fun x y => do eqGuard .rem 5 (.tmp 82) (.const (.int .u8 (3))) x y; binOp .rem 5 x y) (.tmp 82) (.const (.int .u8 (3))) (.int .u8 (y : Int)) (.int .u8 (3)) (.int .u8 (((y % 3 : Nat) : Int))) (fun _ => rfl) rfl rfl (rm5 hy _ _ _) rfl ?_
          refine wl_bin (fun x y => do eqGuard .eql 5 (.tmp 83) (.const (.int .u8 (0))) x y; binOp .eql 5 x y) (.tmp 83) (.const (.int .u8 (0))) (.int .u8 (((y % 3 : Nat) : Int))) (.int .u8 (0)) (.bool false) (fun _ => rfl) rfl rfl (eqU hf2 _ _ _) rfl ?_
          refine wl_mv (.tmp 84) (.bool false) (fun _ => rfl) rfl rfl ?_
          refine wl_skip rfl ?_
          refine wl_skip rfl ?_
          refine wl_skip rfl ?_
          refine wl_skip rfl ?_
          refine wl_pick (.tmp 85) (.tmp 89) (.const (.bool false)) false (.bool false) (fun _ => rfl) rfl rfl rfl ?_
          refine wl_pick (.tmp 81) (.const (.bool true)) (.tmp 90) false (.bool false) (fun _ => rfl) rfl rfl rfl ?_
          refine wl_mv (.tmp 91) (.bool false) (fun _ => rfl) rfl rfl ?_
          refine wl_mv (.tmp 1) (.int .u8 (y : Int)) (fun _ => rfl) e1 rfl ?_
          refine wl_bin (fun x y => do eqGuard .rem 5 (.tmp 93) (.const (.int .u8 (3))) x y; binOp .rem 5 x y) (.tmp 93) (.const (.int .u8 (3))) (.int .u8 (y : Int)) (.int .u8 (3)) (.int .u8 (((y % 3 : Nat) : Int))) (fun _ => rfl) rfl rfl (rm5 hy _ _ _) rfl ?_
          refine wl_bin (fun x y => do eqGuard .eql 5 (.tmp 94) (.const (.int .u8 (1))) x y; binOp .eql 5 x y) (.tmp 94) (.const (.int .u8 (1))) (.int .u8 (((y % 3 : Nat) : Int))) (.int .u8 (1)) (.bool true) (fun _ => rfl) rfl rfl (eqU hf3 _ _ _) rfl ?_
          refine wl_mv (.tmp 95) (.bool true) (fun _ => rfl) rfl rfl ?_
          refine wl_mv (.tmp 10) (.int .i64 (x)) (fun _ => rfl) rfl rfl ?_
          refine wl_mv (.tmp 6) (.int .i64 (((m % 1025 : Nat) : Int))) (fun _ => rfl) e6 rfl ?_
          refine wl_mv (.tmp 9) (.int .i64 (i2 : Int)) (fun _ => rfl) rfl rfl ?_
          refine wl_bin (fun x y => do eqGuard .sub 3 (.tmp 98) (.tmp 99) x y; binOp .sub 3 x y) (.tmp 98) (.tmp 99) (.int .i64 (((m % 1025 : Nat) : Int))) (.int .i64 (i2 : Int)) (.int .i64 (((m % 1025 : Nat) : Int) - (i2 : Int))) (fun _ => rfl) rfl rfl (subI (by omega) (by omega) _ _ _) rfl ?_
          refine wl_bin (fun x y => do eqGuard .neq 2 (.tmp 97) (.tmp 100) x y; binOp .neq 2 x y) (.tmp 97) (.tmp 100) (.int .i64 (x)) (.int .i64 (((m % 1025 : Nat) : Int) - (i2 : Int))) (.bool false) (fun _ => rfl) rfl rfl (neL (decide_eq_true (hw1 (of_decide_eq_true hf3))) _ _ _) rfl ?_
          refine wl_pick (.tmp 96) (.tmp 101) (.const (.bool false)) true (.bool false) (fun _ => rfl) rfl rfl rfl ?_
          refine wl_pick (.tmp 92) (.const (.bool true)) (.tmp 102) false (.bool false) (fun _ => rfl) rfl rfl rfl ?_
          refine w_nil ?_
          refine xn_then ?_
          refine w_condF rfl ?_
          refine w_skip ?_
          refine xn_blk ?_
          refine xn_then ?_
          refine w_reg ?_
          refine wl_bin (fun x y => do eqGuard .add 3 (.tmp 55) (.const (.int .i64 (1))) x y; binOp .add 3 x y) (.tmp 55) (.const (.int .i64 (1))) (.int .i64 (i2 : Int)) (.int .i64 (1)) (.int .i64 ((i2 : Int) + 1)) (fun _ => rfl) e55 rfl (addI (by omega) (by omega) _ _ _) rfl ?_
          refine wl_mv (.tmp 104) (.int .i64 ((i2 : Int) + 1)) (fun _ => rfl) rfl rfl ?_
          refine w_nil ?_
          exact xn_loop (r2 - 1) (by omega) ⟨i2 + 1, lk5, by omega, e1, e5, e6, e54, rfl, hG, by omega, M⟩
        | false =>
          have hf3p := of_decide_eq_false hf3
          refine w_reg ?_
          refine wl_mv (.tmp 11) (.bool true) (fun _ => rfl) rfl rfl ?_
          refine wl_un (fun v => Op.unary .not v) (.tmp 70) (.bool true) (.bool false) (fun _ => rfl) rfl (by kernel_rfl) rfl ?_
          refine wl_mv (.tmp 71) (.bool false) (fun _ => rfl) rfl rfl ?_
          refine wl_mv (.tmp 13) (.bool true) (fun _ => rfl) rfl rfl ?_
          refine wl_un (fun v => Op.unary .not v) (.tmp 73) (.bool true) (.bool false) (fun _ => rfl) rfl (by kernel_rfl) rfl ?_
          refine wl_pick (.tmp 72) (.const (.bool true)) (.tmp 74) false (.bool false) (fun _ => rfl) rfl rfl rfl ?_
          refine wl_mv (.tmp 75) (.bool false) (fun _ => rfl) rfl rfl ?_
          refine wl_mv (.tmp 12) (.int .i64 ((i2 : Int))) (fun _ => rfl) rfl rfl ?_
          refine wl_mv (.tmp 9) (.int .i64 (i2 : Int)) (fun _ => rfl) rfl rfl ?_
          refine wl_bin (fun x y => do eqGuard .neq 3 (.tmp 77) (.tmp 78) x y; binOp .neq 3 x y) (.tmp 77) (.tmp 78) (.int .i64 ((i2 : Int))) (.int .i64 (i2 : Int)) (.bool false) (fun _ => rfl) rfl rfl (neI (decide_eq_true rfl) _ _ _) rfl ?_
          refine wl_pick (.tmp 76) (.const (.bool true)) (.tmp 79) false (.bool false) (fun _ => rfl) rfl rfl rfl ?_
          refine wl_mv (.tmp 80) (.bool false) (fun _ => rfl) rfl rfl ?_
          refine wl_mv (.tmp 1) (.int .u8 (y : Int)) (fun _ => rfl) e1 rfl ?_
          refine wl_bin (fun x y => do eqGuard .rem 5 (.tmp 82) (.const (.int .u8 (3))) x y; binOp .rem 5 x y) (.tmp 82) (.const (.int .u8 (3))) (.int .u8 (y : Int)) (.int .u8 (3)) (.int .u8 (((y % 3 : Nat) : Int))) (fun _ => rfl) rfl rfl (rm5 hy _ _ _) rfl ?_
          refine wl_bin (fun x y => do eqGuard .eql 5 (.tmp 83) (.const (.int .u8 (0))) x y; binOp .eql 5 x y) (.tmp 83) (.const (.int .u8 (0))) (.int .u8 (((y % 3 : Nat) : Int))) (.int .u8 (0)) (.bool false) (fun _ => rfl) rfl rfl (eqU hf2 _ _ _) rfl ?_
          refine wl_mv (.tmp 84) (.bool false) (fun _ => rfl) rfl rfl ?_
          refine wl_skip rfl ?_
          refine wl_skip rfl ?_
          refine wl_skip rfl ?_
          refine wl_skip rfl ?_
          refine wl_pick (.tmp 85) (.tmp 89) (.const (.bool false)) false (.bool false) (fun _ => rfl) rfl rfl rfl ?_
          refine wl_pick (.tmp 81) (.const (.bool true)) (.tmp 90) false (.bool false) (fun _ => rfl) rfl rfl rfl ?_
          refine wl_mv (.tmp 91) (.bool false) (fun _ => rfl) rfl rfl ?_
          refine wl_mv (.tmp 1) (.int .u8 (y : Int)) (fun _ => rfl) e1 rfl ?_
          refine wl_bin (fun x y => do eqGuard .rem 5 (.tmp 93) (.const (.int .u8 (3))) x y; binOp .rem 5 x y) (.tmp 93) (.const (.int .u8 (3))) (.int .u8 (y : Int)) (.int .u8 (3)) (.int .u8 (((y % 3 : Nat) : Int))) (fun _ => rfl) rfl rfl (rm5 hy _ _ _) rfl ?_
          refine wl_bin (fun x y => do eqGuard .eql 5 (.tmp 94) (.const (.int .u8 (1))) x y; binOp .eql 5 x y) (.tmp 94) (.const (.int .u8 (1))) (.int .u8 (((y % 3 : Nat) : Int))) (.int .u8 (1)) (.bool false) (fun _ => rfl) rfl rfl (eqU hf3 _ _ _) rfl ?_
          refine wl_mv (.tmp 95) (.bool false) (fun _ => rfl) rfl rfl ?_
          refine wl_skip rfl ?_
          refine wl_skip rfl ?_
          refine wl_skip rfl ?_
          refine wl_skip rfl ?_
          refine wl_skip rfl ?_
          refine wl_pick (.tmp 96) (.tmp 101) (.const (.bool false)) false (.bool false) (fun _ => rfl) rfl rfl rfl ?_
          refine wl_pick (.tmp 92) (.const (.bool true)) (.tmp 102) false (.bool false) (fun _ => rfl) rfl rfl rfl ?_
          refine w_nil ?_
          refine xn_then ?_
          refine w_condF rfl ?_
          refine w_skip ?_
          refine xn_blk ?_
          refine xn_then ?_
          refine w_reg ?_
          refine wl_bin (fun x y => do eqGuard .add 3 (.tmp 55) (.const (.int .i64 (1))) x y; binOp .add 3 x y) (.tmp 55) (.const (.int .i64 (1))) (.int .i64 (i2 : Int)) (.int .i64 (1)) (.int .i64 ((i2 : Int) + 1)) (fun _ => rfl) e55 rfl (addI (by omega) (by omega) _ _ _) rfl ?_
          refine wl_mv (.tmp 104) (.int .i64 ((i2 : Int) + 1)) (fun _ => rfl) rfl rfl ?_
          refine w_nil ?_
          exact xn_loop (r2 - 1) (by omega) ⟨i2 + 1, lk5, by omega, e1, e5, e6, e54, rfl, hG, by omega, M⟩
    | false =>
      have hf1p := of_decide_eq_false hf1
      refine w_reg ?_
      refine wl_bin (fun x y => do eqGuard .lss 3 (.tmp 55) (.tmp 54) x y; binOp .lss 3 x y) (.tmp 55) (.tmp 54) (.int .i64 (i2 : Int)) (.int .i64 (((m % 1025 : Nat) : Int))) (.bool false) (fun _ => rfl) e55 e54 (ltI hf1 _ _ _) rfl ?_
      refine w_nil ?_
      refine xn_then ?_
      refine w_seq ?_
      refine w_condF rfl ?_
      refine w_exit ?_
      refine xx_then ?_
      refine xx_then ?_
      have hi2 : i2 = m % 1025 := by omega
      refine xx_blk ?_
      refine xn_then ?_
      refine w_seq ?_
      cases hf2 : decide (((m % 1025 : Nat) : Int) < 1024) with
      | true =>
        have hf2p := of_decide_eq_true hf2
        refine w_reg ?_
        refine wl_mv (.tmp 6) (.int .i64 (((m % 1025 : Nat) : Int))) (fun _ => rfl) e6 rfl ?_
        refine wl_bin (fun x y => do eqGuard .lss 3 (.tmp 105) (.const (.int .i64 (1024))) x y; binOp .lss 3 x y) (.tmp 105) (.const (.int .i64 (1024))) (.int .i64 (((m % 1025 : Nat) : Int))) (.int .i64 (1024)) (.bool true) (fun _ => rfl) rfl rfl (ltI hf2 _ _ _) rfl ?_
        refine wl_mv (.tmp 106) (.bool true) (fun _ => rfl) rfl rfl ?_
        refine wl_skip rfl ?_
        refine wl_skip rfl ?_
        refine wl_skip rfl ?_
        refine wl_pick (.tmp 107) (.const (.bool true)) (.tmp 110) true (.bool true) (fun _ => rfl) rfl rfl rfl ?_
        refine wl_mv (.tmp 111) (.bool true) (fun _ => rfl) rfl rfl ?_
        refine w_nil ?_
        refine xn_then ?_
        refine w_ret ?_
        exact w_ret1 _ (.bool true) rfl rfl ⟨rfl, M⟩
      | false =>
        have hf2p := of_decide_eq_false hf2
        refine w_reg ?_
        refine wl_mv (.tmp 6) (.int .i64 (((m % 1025 : Nat) : Int))) (fun _ => rfl) e6 rfl ?_
        refine wl_bin (fun x y => do eqGuard .lss 3 (.tmp 105) (.const (.int .i64 (1024))) x y; binOp .lss 3 x y) (.tmp 105) (.const (.int .i64 (1024))) (.int .i64 (((m % 1025 : Nat) : Int))) (.int .i64 (1024)) (.bool false) (fun _ => rfl) rfl rfl (ltI hf2 _ _ _) rfl ?_
        refine wl_mv (.tmp 106) (.bool false) (fun _ => rfl) rfl rfl ?_
        refine wl_mv (.tmp 5) (pt t 0) (fun _ => rfl) e5 rfl ?_
        have hE : insE tr 0 9007199254740992 = 6 := by
          unfold insE
          rw [if_neg (by omega), if_neg (fun e => by have := hW.1 _ e; omega), if_pos (by omega)]
        refine wl_call 19 [(.tmp 108), (.const (.int .i64 (0))), (.const (.int .i64 (9007199254740992)))] _ [pt t 0, .int .i64 (0), .int .i64 (9007199254740992)] (.int .i64 (insE tr 0 9007199254740992)) rfl rfl (fun _ _ => by kernel_rfl) (insert_no hG ⟨by decide, by decide⟩ (by rw [hE]; decide)) rfl ?_
        intro w31 hq
        replace hG := hG.mo hq
        replace M := M.trans hq
        clear hq
        refine wl_bin (fun x y => do eqGuard .eql 46 (.tmp 109) (.const (.int .i64 (6))) x y; binOp .eql 46 x y) (.tmp 109) (.const (.int .i64 (6))) (.int .i64 (insE tr 0 9007199254740992)) (.int .i64 (6)) (.bool true) (fun _ => rfl) rfl rfl (by rw [hE]; kernel_rfl) rfl ?_
        refine wl_pick (.tmp 107) (.const (.bool true)) (.tmp 110) false (.bool true) (fun _ => rfl) rfl rfl rfl ?_
        refine wl_mv (.tmp 111) (.bool true) (fun _ => rfl) rfl rfl ?_
        refine w_nil ?_
        refine xn_then ?_
        refine w_ret ?_
        exact w_ret1 _ (.bool true) rfl rfl ⟨rfl, M⟩
end
end Go.Proofs.Ytbmbldloeblbbaa
