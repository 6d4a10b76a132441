/-
  A part of the proof.
-/
import Derived.Test.YthgknegocfhdbaaDoorC8
import Derived.Test.YthgknegocfhdbaaDoorC5
/-
 The document's hex, Quote and Unquote.
-/
namespace Go.Proofs.YthgknegocfhdbaaDoor.V
open Go.RowKit
theorem ge5 {c d : Int} {r : Bool} (h : decide (d ≤ c) = r) (x y : Operand) (w : World) : (do eqGuard .geq 5 x y (.int .u8 c) (.int .u8 d); binOp .geq 5 (.int .u8 c) (.int .u8 d)).run Tryd.prog w = .ok (.bool r) w := by
 subst h; simp [go_sem]
theorem sub5 {c d r : Int} (h : IntKind.u8.wrap (c - d) = r) (x y : Operand) (w : World) : (do eqGuard .sub 5 x y (.int .u8 c) (.int .u8 d); binOp .sub 5 (.int .u8 c) (.int .u8 d)).run Tryd.prog w = .ok (.int .u8 r) w := by
 subst h; kernel_rfl
theorem add5 {c d r : Int} (h : IntKind.u8.wrap (c + d) = r) (x y : Operand) (w : World) : (do eqGuard .add 5 x y (.int .u8 c) (.int .u8 d); binOp .add 5 (.int .u8 c) (.int .u8 d)).run Tryd.prog w = .ok (.int .u8 r) w := by
 subst h; kernel_rfl
theorem mul5 {c d r : Int} (h : IntKind.u8.wrap (c * d) = r) (x y : Operand) (w : World) : (do eqGuard .mul 5 x y (.int .u8 c) (.int .u8 d); binOp .mul 5 (.int .u8 c) (.int .u8 d)).run Tryd.prog w = .ok (.int .u8 r) w := by
 subst h; kernel_rfl
theorem rhex_n (c : Int) (w : World) (hc : 0 ≤ c ∧ c ≤ 255) : Calls Tryd.prog 42 #[.int .u8 c] w fun e w' => e = .returned (.int .u8 (dhx c)) ∧ Mw w w' := by
 refine w_enter 10 Tryd.func42 Tryd.ntmps42 rfl rfl ?_
 have M : Mw w w := Mw.refl _
 refine w_seq (w_reg ?_)
 refine wl_m (.const (.int .u8 (0))) (.int .u8 (0)) ?_
 refine w_nil (xn_then (w_seq (w_seq ?_)))
 cases hf0 : decide (97 ≤ c) with
 | true =>
  have hf0p := of_decide_eq_true hf0
  refine w_reg ?_
  refine wl_m (.tmp 0) (.int .u8 (c)) ?_
  refine wl_b .geq 5 (.tmp 3) (.const (.int .u8 (97))) (.int .u8 (c)) (.int .u8 (97)) (.bool true) (ge5 hf0 _ _ _) ?_
  refine w_nil (xn_then (w_condT rfl (w_seq (w_reg ?_))))
  refine wl_m (.tmp 0) (.int .u8 (c)) ?_
  refine wl_b .sub 5 (.tmp 5) (.const (.int .u8 (97))) (.int .u8 (c)) (.int .u8 (97)) (.int .u8 (c - 97)) (sub5 (by rw [IntKind.wrap_u8]; omega) _ _ _) ?_
  refine wl_b .add 5 (.tmp 6) (.const (.int .u8 (10))) (.int .u8 (c - 97)) (.int .u8 (10)) (.int .u8 (c - 87)) (add5 (by rw [IntKind.wrap_u8]; omega) _ _ _) ?_
  refine wl_m (.tmp 7) (.int .u8 (c - 87)) ?_
  refine w_nil (xn_then (w_ret (xr_then ?_)))
  exact w_ret1 _ (.int .u8 (c - 87)) rfl rfl ⟨by unfold dhx; rw [if_pos hf0p], M⟩
 | false =>
  have hf0p := of_decide_eq_false hf0
  refine w_reg ?_
  refine wl_m (.tmp 0) (.int .u8 (c)) ?_
  refine wl_b .geq 5 (.tmp 3) (.const (.int .u8 (97))) (.int .u8 (c)) (.int .u8 (97)) (.bool false) (ge5 hf0 _ _ _) ?_
  refine w_nil (xn_then (w_condF rfl (w_skip (xn_then (w_seq (w_reg ?_))))))
  refine wl_m (.tmp 0) (.int .u8 (c)) ?_
  refine wl_b .sub 5 (.tmp 8) (.const (.int .u8 (48))) (.int .u8 (c)) (.int .u8 (48)) (.int .u8 ((c - 48) % 256)) (sub5 (by rw [IntKind.wrap_u8]) _ _ _) ?_
  refine wl_m (.tmp 9) (.int .u8 ((c - 48) % 256)) ?_
  refine w_nil (xn_then (w_ret ?_))
  exact w_ret1 _ (.int .u8 ((c - 48) % 256)) rfl rfl ⟨by unfold dhx; rw [if_neg hf0p], M⟩
theorem ixh : ∀ {a : Nat} (_ : a < 16) (w : World), (Instr.index 9 (.string ⟨#[48, 49, 50, 51, 52, 53, 54, 55, 56, 57, 97, 98, 99, 100, 101, 102]⟩) (.int .u8 (a : Int))).run Tryd.prog w = .ok (.int .u8 (((hx a).toNat : Nat) : Int)) w
 | 0, _, _ => by kernel_rfl
 | 1, _, _ => by kernel_rfl
 | 2, _, _ => by kernel_rfl
 | 3, _, _ => by kernel_rfl
 | 4, _, _ => by kernel_rfl
 | 5, _, _ => by kernel_rfl
 | 6, _, _ => by kernel_rfl
 | 7, _, _ => by kernel_rfl
 | 8, _, _ => by kernel_rfl
 | 9, _, _ => by kernel_rfl
 | 10, _, _ => by kernel_rfl
 | 11, _, _ => by kernel_rfl
 | 12, _, _ => by kernel_rfl
 | 13, _, _ => by kernel_rfl
 | 14, _, _ => by kernel_rfl
 | 15, _, _ => by kernel_rfl
 | a + 16, h, _ => absurd h (by omega)
theorem quo16 {b : Nat} (h : b < 256) (x y : Operand) (w : World) : (do eqGuard .quo 5 x y (.int .u8 (b : Int)) (.int .u8 16); binOp .quo 5 (.int .u8 (b : Int)) (.int .u8 16)).run Tryd.prog w = .ok (.int .u8 ((b / 16 : Nat) : Int)) w := by
 have e : (do eqGuard .quo 5 x y (.int .u8 (b : Int)) (.int .u8 16); binOp .quo 5 (.int .u8 (b : Int)) (.int .u8 16)).run Tryd.prog w = .ok (.int .u8 (IntKind.u8.wrap (Int.tdiv (b : Int) 16))) w := by kernel_rfl
 have h2 : IntKind.u8.wrap (Int.tdiv (b : Int) 16) = ((b / 16 : Nat) : Int) := by
  rw [IntKind.wrap_u8, Int.tdiv_eq_ediv_of_nonneg (by omega)]; omega
 rw [e, h2]
theorem rem16 {b : Nat} (h : b < 256) (x y : Operand) (w : World) : (do eqGuard .rem 5 x y (.int .u8 (b : Int)) (.int .u8 16); binOp .rem 5 (.int .u8 (b : Int)) (.int .u8 16)).run Tryd.prog w = .ok (.int .u8 ((b % 16 : Nat) : Int)) w := by
 have e : (do eqGuard .rem 5 x y (.int .u8 (b : Int)) (.int .u8 16); binOp .rem 5 (.int .u8 (b : Int)) (.int .u8 16)).run Tryd.prog w = .ok (.int .u8 (Int.tmod (b : Int) 16)) w := by kernel_rfl
 have h2 : Int.tmod (b : Int) 16 = ((b % 16 : Nat) : Int) := by
  rw [Int.tmod_eq_emod_of_nonneg (by omega)]; omega
 rw [e, h2]
theorem eq5d {b c : Nat} {r : Bool} (h : decide (b = c) = r) (x y : Operand) (w : World) : (do eqGuard .eql 5 x y (.int .u8 (b : Int)) (.int .u8 (c : Int)); binOp .eql 5 (.int .u8 (b : Int)) (.int .u8 (c : Int))).run Tryd.prog w = .ok (.bool r) w := by
 have e : (do eqGuard .eql 5 x y (.int .u8 (b : Int)) (.int .u8 (c : Int)); binOp .eql 5 (.int .u8 (b : Int)) (.int .u8 (c : Int))).run Tryd.prog w = .ok (.bool ((b : Int) == (c : Int))) w := by kernel_rfl
 rw [e, ← h]
 congr 2
 rw [Bool.eq_iff_iff, beq_iff_eq, decide_eq_true_iff]; omega
theorem lt5d {b c : Nat} {r : Bool} (h : decide (b < c) = r) (x y : Operand) (w : World) : (do eqGuard .lss 5 x y (.int .u8 (b : Int)) (.int .u8 (c : Int)); binOp .lss 5 (.int .u8 (b : Int)) (.int .u8 (c : Int))).run Tryd.prog w = .ok (.bool r) w := by
 subst h; simp [go_sem]
theorem gt5d {b c : Nat} {r : Bool} (h : decide (c < b) = r) (x y : Operand) (w : World) : (do eqGuard .gtr 5 x y (.int .u8 (b : Int)) (.int .u8 (c : Int)); binOp .gtr 5 (.int .u8 (b : Int)) (.int .u8 (c : Int))).run Tryd.prog w = .ok (.bool r) w := by
 subst h; simp [go_sem]
theorem idx_bb {s : ByteArray} {k b : Nat} (hb : bt s k = (b : Int)) (h : k < s.size) (w : World) : (Instr.index 9 (.string s) (.int .i64 (k : Int))).run Tryd.prog w = .ok (.int .u8 (b : Int)) w := hb ▸ idx_b h w
theorem tu8 {b : Nat} (h : b < 256) : (b.toUInt8).toNat = b := by rw [Nat.toUInt8, UInt8.toNat_ofNat']; omega
theorem qb_1 {b : Nat} (h : b = 34 ∨ b = 92) : qb b.toUInt8 = [92, b.toUInt8] := by rcases h with rfl | rfl <;> rfl
theorem qb_2 {b : Nat} (hb : b < 256) (h : b < 32 ∨ 126 < b) : qb b.toUInt8 = [92, 120, hx (b / 16), hx (b % 16)] := by
 have e := tu8 hb
 have n34 : ¬ b.toUInt8 = 34 := fun h => by rw [h] at e; have : (34 : UInt8).toNat = 34 := rfl; omega
 have n92 : ¬ b.toUInt8 = 92 := fun h => by rw [h] at e; have : (92 : UInt8).toNat = 92 := rfl; omega
 unfold qb
 rw [if_neg (fun h => h.elim n34 n92), if_pos (by rw [UInt8.lt_iff_toNat_lt, UInt8.lt_iff_toNat_lt, e]; exact h), e]
theorem qb_3 {b : Nat} (hb : b < 256) (h1 : ¬ b = 34) (h2 : ¬ b = 92) (h3 : ¬ b < 32) (h4 : ¬ 126 < b) : qb b.toUInt8 = [b.toUInt8] := by
 have e := tu8 hb
 have n34 : ¬ b.toUInt8 = 34 := fun h => by rw [h] at e; have : (34 : UInt8).toNat = 34 := rfl; omega
 have n92 : ¬ b.toUInt8 = 92 := fun h => by rw [h] at e; have : (92 : UInt8).toNat = 92 := rfl; omega
 refine qb_self n34 n92 ?_
 unfold prn; rw [e]; simp; omega
theorem qi_step {s : ByteArray} {k b : Nat} {L : List UInt8} (hk : k < s.size) (hb : bt s k = (b : Int)) (hq : qb b.toUInt8 = L) : 34 :: qi ((by8 s).take k) ++ L = 34 :: qi ((by8 s).take (k + 1)) := by
 have e : s[k] = b.toUInt8 := by
  rw [bt_in hk] at hb
  refine UInt8.toNat_inj.1 ?_
  have hl := UInt8.toNat_lt s[k]
  rw [tu8 (by omega)]; omega
 have h : (by8 s).take (k + 1) = (by8 s).take k ++ [b.toUInt8] := by
  rw [List.take_add_one, List.getElem?_eq_getElem (by rw [by8_len]; exact hk)]
  rw [← e]; rfl
 rw [h, qi_app, ← hq]
 simp [qi]
theorem bt_nat (s : ByteArray) (k : Nat) : ∃ b : Nat, bt s k = (b : Int) ∧ b < 256 := by
 have h := bt_rg s k
 exact ⟨(bt s k).toNat, by omega, by omega⟩
theorem OB.new1 {N : Nat} {w : World} (c : Nat) (hc : c < 256) (hN : N ≤ w.heap.size) : OB N (.slice (some ⟨w.heap.size, 0, none⟩) 1 1) [c.toUInt8] (w.alloc (.cells #[.int .u8 (c : Int)] 5)) := by
 refine ⟨rfl, .inr ⟨w.heap.size, 1, #[.int .u8 (c : Int)], rfl, hN, by show (w.heap.push _)[w.heap.size]? = _; rw [Array.getElem?_push, if_pos rfl], Nat.le_refl 1, by decide, rfl, ?_⟩⟩
 simp [Lib.byteCells, tu8 hc]
section
variable {o : Oper} {n : Nat} {l : List (Nat × Value)} {w : World} {ops : Array Oper} {rest : List Oper} {Q : Exit → Act → World → Prop}
theorem wl_new1 (x : Operand) (c : Nat) (N : Nat) (hc : c < 256) (ho : o.op = .buildSlice 62 1 #[(0, x)]) (hx : evl n l x = .int .u8 (c : Int)) (hN : N ≤ w.heap.size) (hg : wnt n l ops o = true)
  (hk : ∀ v w', OB N v [c.toUInt8] w' → Mw w w' → WL Tryd.prog ops Q rest n (ext l o.dst v) w') : WL Tryd.prog ops Q (o :: rest) n l w :=
 ⟨l_step hg (o_val (.slice (some ⟨w.heap.size, 0, none⟩) 1 1) (w' := w.alloc (.cells #[.int .u8 (c : Int)] 5)) (by
  have h := bs62_1 (c : Int) w
  simp [execOp, ho, hx, h]) (hk _ _ (OB.new1 c hc hN) ((Mw.refl _).alloc _ _)).out)⟩
end
theorem rquote_n (s : ByteArray) (w : World) (hs : s.size ≤ 1000000000000) : Calls Tryd.prog 23 #[.string s] w fun e w' => e = .returned (.string ⟨(qt (by8 s)).toArray⟩) ∧ Mw w w' := by
 refine w_enter 51 Tryd.func23 Tryd.ntmps23 rfl rfl ?_
 have M : Mw w w := Mw.refl _
 refine w_seq (w_reg ?_)
 refine wl_m (.const (.string ⟨#[]⟩)) (.string ⟨#[]⟩) ?_
 refine w_nil (xn_then (w_seq (w_reg ?_)))
 refine wl_new1 (.const (.int .u8 (34))) 34 w.heap.size (by decide) rfl rfl M.size rfl ?_
 intro vo1 w1 hown hq
 replace M := M.trans hq
 clear hq
 refine wl_m (.tmp 6) (vo1) ?_
 refine w_nil (xn_then (w_seq (w_seq (w_reg ?_))))
 refine wl_m (.const (.int .i64 (0))) (.int .i64 (0)) ?_
 refine w_nil (xn_then (w_block ?_))
 refine w_loop (fun m l w1 => ∃ (k : Nat) (v : Value), m = s.size - k ∧ look l 0 = .string s ∧ look l 3 = v ∧ look l 4 = .int .i64 ((k : Nat) : Int) ∧ k ≤ s.size ∧ OB w.heap.size v (34 :: qi ((by8 s).take k)) w1 ∧ Mw w w1) _ ⟨0, _, rfl, rfl, rfl, rfl, Nat.zero_le _, hown, M⟩ ?_
 clear M hown
 rintro m l wl ⟨k, v, rfl, e0, e3, e4, hk, hown, M⟩
 obtain ⟨b, hb, hb2⟩ := bt_nat s k
 refine w_seq (w_seq ?_)
 cases hf20 : decide (k < s.size) with
 | true =>
  have hf20p := of_decide_eq_true hf20
  refine w_reg ?_
  refine wl_mv (.tmp 4) (.int .i64 ((k : Nat) : Int)) (fun _ => rfl) e4 rfl ?_
  refine wl_mv (.tmp 0) (.string s) (fun _ => rfl) e0 rfl ?_
  refine wl_val (.int .i64 ((s.size : Nat) : Int)) (len_s _ _ s (by exact rfl) _ _ _ _ _ _) rfl ?_
  refine wl_b .lss 3 (.tmp 7) (.tmp 9) (.int .i64 ((k : Nat) : Int)) (.int .i64 ((s.size : Nat) : Int)) (.bool true) (ltN hf20 _ _ _) ?_
  refine w_nil (xn_then (w_condT rfl (w_skip (xn_then (w_seq (w_block (w_seq (w_reg ?_))))))))
  refine wl_mv (.tmp 0) (.string s) (fun _ => rfl) e0 rfl ?_
  refine wl_mv (.tmp 4) (.int .i64 ((k : Nat) : Int)) (fun _ => rfl) e4 rfl ?_
  refine wl_bin (fun x y => Instr.index 9 x y) (.tmp 13) (.tmp 14) (.string s) (.int .i64 ((k : Nat) : Int)) (.int .u8 (b : Int)) (fun _ => rfl) rfl rfl (idx_bb hb (by omega) _) rfl ?_
  refine wl_m (.tmp 15) (.int .u8 (b : Int)) ?_
  refine w_nil (xn_then (w_block (w_seq ?_)))
  cases hf21 : decide (b = 34) with
  | true =>
   have hf21p := of_decide_eq_true hf21
   refine w_reg ?_
   refine wl_m (.tmp 5) (.int .u8 (b : Int)) ?_
   refine wl_b .eql 5 (.tmp 21) (.const (.int .u8 (34))) (.int .u8 (b : Int)) (.int .u8 (34)) (.bool true) (eq5d hf21 _ _ _) ?_
   refine wl_m (.tmp 22) (.bool true) ?_
   refine wl_skip rfl (wl_skip rfl ?_)
   refine wl_pick (.tmp 23) (.const (.bool true)) (.tmp 25) true (.bool true) (fun _ => rfl) rfl rfl rfl ?_
   refine wl_m (.tmp 26) (.bool true) ?_
   refine w_nil (xn_then (w_condT rfl (w_reg ?_)))
   refine wl_mv (.tmp 3) (v) (fun _ => rfl) e3 rfl ?_
   refine wl_m (.tmp 5) (.int .u8 (b : Int)) ?_
   refine wl_put2 _ (.const (.int .u8 (92))) (.tmp 28) (.tmp 27) 29 ((92)) ((b : Int)) w.heap.size v (34 :: qi ((by8 s).take k)) rfl rfl rfl rfl rfl rfl rfl rfl rfl hown (by omega) (by omega) (by have hql := qi_len ((by8 s).take k); simp only [List.length_cons, List.length_take, by8_len] at hql ⊢; omega) M.size ?_
   intro vo11 w11 hOn hMn hAn
   replace M := hMn w rfl M
   replace hown := hOn
   clear hOn hMn hAn
   refine wl_m (.tmp 30) (vo11) ?_
   refine w_nil (xn_blk (xn_blk (xn_then (w_reg ?_))))
   refine wl_mv (.tmp 4) (.int .i64 ((k : Nat) : Int)) (fun _ => rfl) e4 rfl ?_
   refine wl_b .add 3 (.tmp 11) (.const (.int .i64 (1))) (.int .i64 ((k : Nat) : Int)) (.int .i64 (1)) (.int .i64 ((k + 1 : Nat) : Int)) (addk (a := k) (b := 1) rfl (by omega) _ _ _) ?_
   refine wl_m (.tmp 12) (.int .i64 ((k + 1 : Nat) : Int)) ?_
   refine w_nil ?_
   exact xn_loop (s.size - (k + 1)) (by omega) ⟨k + 1, _, rfl, e0, rfl, rfl, by omega, by rw [← qi_step (by omega) hb (qb_1 (Or.inl hf21p))]; exact hown, M⟩
  | false =>
   have hf21p := of_decide_eq_false hf21
   cases hf22 : decide (b = 92) with
   | true =>
    have hf22p := of_decide_eq_true hf22
    refine w_reg ?_
    refine wl_m (.tmp 5) (.int .u8 (b : Int)) ?_
    refine wl_b .eql 5 (.tmp 21) (.const (.int .u8 (34))) (.int .u8 (b : Int)) (.int .u8 (34)) (.bool false) (eq5d hf21 _ _ _) ?_
    refine wl_m (.tmp 22) (.bool false) ?_
    refine wl_m (.tmp 5) (.int .u8 (b : Int)) ?_
    refine wl_b .eql 5 (.tmp 24) (.const (.int .u8 (92))) (.int .u8 (b : Int)) (.int .u8 (92)) (.bool true) (eq5d hf22 _ _ _) ?_
    refine wl_pick (.tmp 23) (.const (.bool true)) (.tmp 25) false (.bool true) (fun _ => rfl) rfl rfl rfl ?_
    refine wl_m (.tmp 26) (.bool true) ?_
    refine w_nil (xn_then (w_condT rfl (w_reg ?_)))
    refine wl_mv (.tmp 3) (v) (fun _ => rfl) e3 rfl ?_
    refine wl_m (.tmp 5) (.int .u8 (b : Int)) ?_
    refine wl_put2 _ (.const (.int .u8 (92))) (.tmp 28) (.tmp 27) 29 ((92)) ((b : Int)) w.heap.size v (34 :: qi ((by8 s).take k)) rfl rfl rfl rfl rfl rfl rfl rfl rfl hown (by omega) (by omega) (by have hql := qi_len ((by8 s).take k); simp only [List.length_cons, List.length_take, by8_len] at hql ⊢; omega) M.size ?_
    intro vo11 w11 hOn hMn hAn
    replace M := hMn w rfl M
    replace hown := hOn
    clear hOn hMn hAn
    refine wl_m (.tmp 30) (vo11) ?_
    refine w_nil (xn_blk (xn_blk (xn_then (w_reg ?_))))
    refine wl_mv (.tmp 4) (.int .i64 ((k : Nat) : Int)) (fun _ => rfl) e4 rfl ?_
    refine wl_b .add 3 (.tmp 11) (.const (.int .i64 (1))) (.int .i64 ((k : Nat) : Int)) (.int .i64 (1)) (.int .i64 ((k + 1 : Nat) : Int)) (addk (a := k) (b := 1) rfl (by omega) _ _ _) ?_
    refine wl_m (.tmp 12) (.int .i64 ((k + 1 : Nat) : Int)) ?_
    refine w_nil ?_
    exact xn_loop (s.size - (k + 1)) (by omega) ⟨k + 1, _, rfl, e0, rfl, rfl, by omega, by rw [← qi_step (by omega) hb (qb_1 (Or.inr hf22p))]; exact hown, M⟩
   | false =>
    have hf22p := of_decide_eq_false hf22
    refine w_reg ?_
    refine wl_m (.tmp 5) (.int .u8 (b : Int)) ?_
    refine wl_b .eql 5 (.tmp 21) (.const (.int .u8 (34))) (.int .u8 (b : Int)) (.int .u8 (34)) (.bool false) (eq5d hf21 _ _ _) ?_
    refine wl_m (.tmp 22) (.bool false) ?_
    refine wl_m (.tmp 5) (.int .u8 (b : Int)) ?_
    refine wl_b .eql 5 (.tmp 24) (.const (.int .u8 (92))) (.int .u8 (b : Int)) (.int .u8 (92)) (.bool false) (eq5d hf22 _ _ _) ?_
    refine wl_pick (.tmp 23) (.const (.bool true)) (.tmp 25) false (.bool false) (fun _ => rfl) rfl rfl rfl ?_
    refine wl_m (.tmp 26) (.bool false) ?_
    refine w_nil (xn_then (w_condF rfl (w_seq ?_)))
    cases hf23 : decide (b < 32) with
    | true =>
     have hf23p := of_decide_eq_true hf23
     refine w_reg ?_
     refine wl_m (.tmp 5) (.int .u8 (b : Int)) ?_
     refine wl_b .lss 5 (.tmp 32) (.const (.int .u8 (32))) (.int .u8 (b : Int)) (.int .u8 (32)) (.bool true) (lt5d hf23 _ _ _) ?_
     refine wl_m (.tmp 33) (.bool true) ?_
     refine wl_skip rfl (wl_skip rfl ?_)
     refine wl_pick (.tmp 34) (.const (.bool true)) (.tmp 36) true (.bool true) (fun _ => rfl) rfl rfl rfl ?_
     refine wl_m (.tmp 37) (.bool true) ?_
     refine w_nil (xn_then (w_condT rfl ?_))
     refine w_any 7 [.inl (v), .inl (.int .u8 (b : Int)), .inl (.int .u8 ((b / 16 : Nat) : Int)), .inl (.int .u8 (((hx (b / 16)).toNat : Nat) : Int)), .inl (.int .u8 (b : Int)), .inl (.int .u8 ((b % 16 : Nat) : Int)), .inl (.int .u8 (((hx (b % 16)).toNat : Nat) : Int))] [0] (by kernel_rfl) (by kernel_rfl) (by kernel_rfl) (by kernel_rfl) rfl (by kernel_rfl) (by kernel_rfl) (late_cons ⟨_, _, rfl, rfl, fun _ _ _ _ h => h, fun f hd => ⟨rfl, la_mv (.tmp 3) (v) (fun _ => rfl) e3⟩⟩ late_nil) ?_ ?_ ?_
     ·exact Ds.none rfl
     ·refine ea_cons ?_ (ea_cons ?_ (ea_cons ?_ (ea_cons ?_ (ea_cons ?_ (ea_cons ?_ (ea_cons ?_ (ea_nil)))))))
      ·exact og_eq _ rfl (fun f wf hq hd K hK => go_run rfl (wo_mv (.tmp 3) (v) (fun _ => rfl) e3 (hK _ (Mw.refl _))))
      ·exact og_eq _ rfl (fun f wf hq hd K hK => go_run rfl (wo_mv (.tmp 5) (.int .u8 (b : Int)) (fun _ => rfl) rfl (hK _ (Mw.refl _))))
      ·exact og_eq _ rfl (fun f wf hq hd K hK => go_run rfl (wo_bin (fun x y => do eqGuard .quo 5 (.tmp 39) (.const (.int .u8 (16))) x y; binOp .quo 5 x y) (.tmp 39) (.const (.int .u8 (16))) (.int .u8 (b : Int)) (.int .u8 (16)) (.int .u8 ((b / 16 : Nat) : Int)) (fun _ => rfl) (hd 1 rfl) rfl (quo16 hb2 _ _ _) (hK _ (Mw.refl _))))
      ·exact og_eq _ rfl (fun f wf hq hd K hK => go_run rfl (wo_bin (fun x y => Instr.index 9 x y) (.const (.string ⟨#[48, 49, 50, 51, 52, 53, 54, 55, 56, 57, 97, 98, 99, 100, 101, 102]⟩)) (.tmp 40) (.string ⟨#[48, 49, 50, 51, 52, 53, 54, 55, 56, 57, 97, 98, 99, 100, 101, 102]⟩) (.int .u8 ((b / 16 : Nat) : Int)) (.int .u8 (((hx (b / 16)).toNat : Nat) : Int)) (fun _ => rfl) rfl (hd 2 rfl) (ixh (by omega) _) (hK _ (Mw.refl _))))
      ·exact og_eq _ rfl (fun f wf hq hd K hK => go_run rfl (wo_mv (.tmp 5) (.int .u8 (b : Int)) (fun _ => rfl) rfl (hK _ (Mw.refl _))))
      ·exact og_eq _ rfl (fun f wf hq hd K hK => go_run rfl (wo_bin (fun x y => do eqGuard .rem 5 (.tmp 42) (.const (.int .u8 (16))) x y; binOp .rem 5 x y) (.tmp 42) (.const (.int .u8 (16))) (.int .u8 (b : Int)) (.int .u8 (16)) (.int .u8 ((b % 16 : Nat) : Int)) (fun _ => rfl) (hd 4 rfl) rfl (rem16 hb2 _ _ _) (hK _ (Mw.refl _))))
      ·exact og_eq _ rfl (fun f wf hq hd K hK => go_run rfl (wo_bin (fun x y => Instr.index 9 x y) (.const (.string ⟨#[48, 49, 50, 51, 52, 53, 54, 55, 56, 57, 97, 98, 99, 100, 101, 102]⟩)) (.tmp 43) (.string ⟨#[48, 49, 50, 51, 52, 53, 54, 55, 56, 57, 97, 98, 99, 100, 101, 102]⟩) (.int .u8 ((b % 16 : Nat) : Int)) (.int .u8 (((hx (b % 16)).toNat : Nat) : Int)) (fun _ => rfl) rfl (hd 5 rfl) (ixh (by omega) _) (hK _ (Mw.refl _))))
     intro kf11 w11 hq hR hne
     replace hown := OB.mw hown hq
     replace M := M.trans hq
     clear hq hR hne
     refine wl_put4 _ (.const (.int .u8 (92))) (.const (.int .u8 (120))) (.tmp 41) (.tmp 44) (.tmp 38) 45 ((92)) ((120)) ((((hx (b / 16)).toNat : Nat) : Int)) ((((hx (b % 16)).toNat : Nat) : Int)) w.heap.size v (34 :: qi ((by8 s).take k)) rfl rfl rfl rfl rfl rfl rfl rfl rfl rfl rfl hown (by omega) (by omega) (by have := UInt8.toNat_lt (hx (b / 16)); omega) (by have := UInt8.toNat_lt (hx (b % 16)); omega) (by have hql := qi_len ((by8 s).take k); simp only [List.length_cons, List.length_take, by8_len] at hql ⊢; omega) M.size ?_
     intro vo12 w12 hOn hMn hAn
     replace M := hMn w rfl M
     replace hown := hOn
     clear hOn hMn hAn
     refine wl_m (.tmp 46) (vo12) ?_
     refine w_nil (xn_blk (xn_blk (xn_then (w_reg ?_))))
     refine wl_mv (.tmp 4) (.int .i64 ((k : Nat) : Int)) (fun _ => rfl) e4 rfl ?_
     refine wl_b .add 3 (.tmp 11) (.const (.int .i64 (1))) (.int .i64 ((k : Nat) : Int)) (.int .i64 (1)) (.int .i64 ((k + 1 : Nat) : Int)) (addk (a := k) (b := 1) rfl (by omega) _ _ _) ?_
     refine wl_m (.tmp 12) (.int .i64 ((k + 1 : Nat) : Int)) ?_
     refine w_nil ?_
     have hqq := qb_2 hb2 (Or.inl hf23p)
     rw [← u8_id (hx (b / 16)), ← u8_id (hx (b % 16))] at hqq
     exact xn_loop (s.size - (k + 1)) (by omega) ⟨k + 1, _, rfl, e0, rfl, rfl, by omega, by rw [← qi_step (by omega) hb (hqq)]; exact hown, M⟩
    | false =>
     have hf23p := of_decide_eq_false hf23
     cases hf24 : decide (126 < b) with
     | true =>
      have hf24p := of_decide_eq_true hf24
      refine w_reg ?_
      refine wl_m (.tmp 5) (.int .u8 (b : Int)) ?_
      refine wl_b .lss 5 (.tmp 32) (.const (.int .u8 (32))) (.int .u8 (b : Int)) (.int .u8 (32)) (.bool false) (lt5d hf23 _ _ _) ?_
      refine wl_m (.tmp 33) (.bool false) ?_
      refine wl_m (.tmp 5) (.int .u8 (b : Int)) ?_
      refine wl_b .gtr 5 (.tmp 35) (.const (.int .u8 (126))) (.int .u8 (b : Int)) (.int .u8 (126)) (.bool true) (gt5d hf24 _ _ _) ?_
      refine wl_pick (.tmp 34) (.const (.bool true)) (.tmp 36) false (.bool true) (fun _ => rfl) rfl rfl rfl ?_
      refine wl_m (.tmp 37) (.bool true) ?_
      refine w_nil (xn_then (w_condT rfl ?_))
      refine w_any 7 [.inl (v), .inl (.int .u8 (b : Int)), .inl (.int .u8 ((b / 16 : Nat) : Int)), .inl (.int .u8 (((hx (b / 16)).toNat : Nat) : Int)), .inl (.int .u8 (b : Int)), .inl (.int .u8 ((b % 16 : Nat) : Int)), .inl (.int .u8 (((hx (b % 16)).toNat : Nat) : Int))] [0] (by kernel_rfl) (by kernel_rfl) (by kernel_rfl) (by kernel_rfl) rfl (by kernel_rfl) (by kernel_rfl) (late_cons ⟨_, _, rfl, rfl, fun _ _ _ _ h => h, fun f hd => ⟨rfl, la_mv (.tmp 3) (v) (fun _ => rfl) e3⟩⟩ late_nil) ?_ ?_ ?_
      ·exact Ds.none rfl
      ·refine ea_cons ?_ (ea_cons ?_ (ea_cons ?_ (ea_cons ?_ (ea_cons ?_ (ea_cons ?_ (ea_cons ?_ (ea_nil)))))))
       ·exact og_eq _ rfl (fun f wf hq hd K hK => go_run rfl (wo_mv (.tmp 3) (v) (fun _ => rfl) e3 (hK _ (Mw.refl _))))
       ·exact og_eq _ rfl (fun f wf hq hd K hK => go_run rfl (wo_mv (.tmp 5) (.int .u8 (b : Int)) (fun _ => rfl) rfl (hK _ (Mw.refl _))))
       ·exact og_eq _ rfl (fun f wf hq hd K hK => go_run rfl (wo_bin (fun x y => do eqGuard .quo 5 (.tmp 39) (.const (.int .u8 (16))) x y; binOp .quo 5 x y) (.tmp 39) (.const (.int .u8 (16))) (.int .u8 (b : Int)) (.int .u8 (16)) (.int .u8 ((b / 16 : Nat) : Int)) (fun _ => rfl) (hd 1 rfl) rfl (quo16 hb2 _ _ _) (hK _ (Mw.refl _))))
       ·exact og_eq _ rfl (fun f wf hq hd K hK => go_run rfl (wo_bin (fun x y => Instr.index 9 x y) (.const (.string ⟨#[48, 49, 50, 51, 52, 53, 54, 55, 56, 57, 97, 98, 99, 100, 101, 102]⟩)) (.tmp 40) (.string ⟨#[48, 49, 50, 51, 52, 53, 54, 55, 56, 57, 97, 98, 99, 100, 101, 102]⟩) (.int .u8 ((b / 16 : Nat) : Int)) (.int .u8 (((hx (b / 16)).toNat : Nat) : Int)) (fun _ => rfl) rfl (hd 2 rfl) (ixh (by omega) _) (hK _ (Mw.refl _))))
       ·exact og_eq _ rfl (fun f wf hq hd K hK => go_run rfl (wo_mv (.tmp 5) (.int .u8 (b : Int)) (fun _ => rfl) rfl (hK _ (Mw.refl _))))
       ·exact og_eq _ rfl (fun f wf hq hd K hK => go_run rfl (wo_bin (fun x y => do eqGuard .rem 5 (.tmp 42) (.const (.int .u8 (16))) x y; binOp .rem 5 x y) (.tmp 42) (.const (.int .u8 (16))) (.int .u8 (b : Int)) (.int .u8 (16)) (.int .u8 ((b % 16 : Nat) : Int)) (fun _ => rfl) (hd 4 rfl) rfl (rem16 hb2 _ _ _) (hK _ (Mw.refl _))))
       ·exact og_eq _ rfl (fun f wf hq hd K hK => go_run rfl (wo_bin (fun x y => Instr.index 9 x y) (.const (.string ⟨#[48, 49, 50, 51, 52, 53, 54, 55, 56, 57, 97, 98, 99, 100, 101, 102]⟩)) (.tmp 43) (.string ⟨#[48, 49, 50, 51, 52, 53, 54, 55, 56, 57, 97, 98, 99, 100, 101, 102]⟩) (.int .u8 ((b % 16 : Nat) : Int)) (.int .u8 (((hx (b % 16)).toNat : Nat) : Int)) (fun _ => rfl) rfl (hd 5 rfl) (ixh (by omega) _) (hK _ (Mw.refl _))))
      intro kf11 w11 hq hR hne
      replace hown := OB.mw hown hq
      replace M := M.trans hq
      clear hq hR hne
      refine wl_put4 _ (.const (.int .u8 (92))) (.const (.int .u8 (120))) (.tmp 41) (.tmp 44) (.tmp 38) 45 ((92)) ((120)) ((((hx (b / 16)).toNat : Nat) : Int)) ((((hx (b % 16)).toNat : Nat) : Int)) w.heap.size v (34 :: qi ((by8 s).take k)) rfl rfl rfl rfl rfl rfl rfl rfl rfl rfl rfl hown (by omega) (by omega) (by have := UInt8.toNat_lt (hx (b / 16)); omega) (by have := UInt8.toNat_lt (hx (b % 16)); omega) (by have hql := qi_len ((by8 s).take k); simp only [List.length_cons, List.length_take, by8_len] at hql ⊢; omega) M.size ?_
      intro vo12 w12 hOn hMn hAn
      replace M := hMn w rfl M
      replace hown := hOn
      clear hOn hMn hAn
      refine wl_m (.tmp 46) (vo12) ?_
      refine w_nil (xn_blk (xn_blk (xn_then (w_reg ?_))))
      refine wl_mv (.tmp 4) (.int .i64 ((k : Nat) : Int)) (fun _ => rfl) e4 rfl ?_
      refine wl_b .add 3 (.tmp 11) (.const (.int .i64 (1))) (.int .i64 ((k : Nat) : Int)) (.int .i64 (1)) (.int .i64 ((k + 1 : Nat) : Int)) (addk (a := k) (b := 1) rfl (by omega) _ _ _) ?_
      refine wl_m (.tmp 12) (.int .i64 ((k + 1 : Nat) : Int)) ?_
      refine w_nil ?_
      have hqq := qb_2 hb2 (Or.inr hf24p)
      rw [← u8_id (hx (b / 16)), ← u8_id (hx (b % 16))] at hqq
      exact xn_loop (s.size - (k + 1)) (by omega) ⟨k + 1, _, rfl, e0, rfl, rfl, by omega, by rw [← qi_step (by omega) hb (hqq)]; exact hown, M⟩
     | false =>
      have hf24p := of_decide_eq_false hf24
      refine w_reg ?_
      refine wl_m (.tmp 5) (.int .u8 (b : Int)) ?_
      refine wl_b .lss 5 (.tmp 32) (.const (.int .u8 (32))) (.int .u8 (b : Int)) (.int .u8 (32)) (.bool false) (lt5d hf23 _ _ _) ?_
      refine wl_m (.tmp 33) (.bool false) ?_
      refine wl_m (.tmp 5) (.int .u8 (b : Int)) ?_
      refine wl_b .gtr 5 (.tmp 35) (.const (.int .u8 (126))) (.int .u8 (b : Int)) (.int .u8 (126)) (.bool false) (gt5d hf24 _ _ _) ?_
      refine wl_pick (.tmp 34) (.const (.bool true)) (.tmp 36) false (.bool false) (fun _ => rfl) rfl rfl rfl ?_
      refine wl_m (.tmp 37) (.bool false) ?_
      refine w_nil (xn_then (w_condF rfl (w_reg ?_)))
      refine wl_mv (.tmp 3) (v) (fun _ => rfl) e3 rfl ?_
      refine wl_m (.tmp 5) (.int .u8 (b : Int)) ?_
      refine wl_put1 _ (.tmp 17) (.tmp 16) 18 ((b : Int)) w.heap.size v (34 :: qi ((by8 s).take k)) rfl rfl rfl rfl rfl rfl rfl rfl hown (by omega) (by have hql := qi_len ((by8 s).take k); simp only [List.length_cons, List.length_take, by8_len] at hql ⊢; omega) M.size ?_
      intro vo11 w11 hOn hMn hAn
      replace M := hMn w rfl M
      replace hown := hOn
      clear hOn hMn hAn
      refine wl_m (.tmp 19) (vo11) ?_
      refine w_nil (xn_blk (xn_blk (xn_then (w_reg ?_))))
      refine wl_mv (.tmp 4) (.int .i64 ((k : Nat) : Int)) (fun _ => rfl) e4 rfl ?_
      refine wl_b .add 3 (.tmp 11) (.const (.int .i64 (1))) (.int .i64 ((k : Nat) : Int)) (.int .i64 (1)) (.int .i64 ((k + 1 : Nat) : Int)) (addk (a := k) (b := 1) rfl (by omega) _ _ _) ?_
      refine wl_m (.tmp 12) (.int .i64 ((k + 1 : Nat) : Int)) ?_
      refine w_nil ?_
      exact xn_loop (s.size - (k + 1)) (by omega) ⟨k + 1, _, rfl, e0, rfl, rfl, by omega, by rw [← qi_step (by omega) hb (qb_3 hb2 hf21p hf22p hf23p hf24p)]; exact hown, M⟩
 | false =>
  have hf20p := of_decide_eq_false hf20
  refine w_reg ?_
  refine wl_mv (.tmp 4) (.int .i64 ((k : Nat) : Int)) (fun _ => rfl) e4 rfl ?_
  refine wl_mv (.tmp 0) (.string s) (fun _ => rfl) e0 rfl ?_
  refine wl_val (.int .i64 ((s.size : Nat) : Int)) (len_s _ _ s (by exact rfl) _ _ _ _ _ _) rfl ?_
  refine wl_b .lss 3 (.tmp 7) (.tmp 9) (.int .i64 ((k : Nat) : Int)) (.int .i64 ((s.size : Nat) : Int)) (.bool false) (ltN hf20 _ _ _) ?_
  refine w_nil (xn_then (w_condF rfl (w_exit (xx_then (xx_then (xx_blk (xn_then (w_seq (w_reg ?_)))))))))
  refine wl_mv (.tmp 3) (v) (fun _ => rfl) e3 rfl ?_
  refine wl_put1 _ (.const (.int .u8 (34))) (.tmp 47) 48 ((34)) w.heap.size v (34 :: qi ((by8 s).take k)) rfl rfl rfl rfl rfl rfl rfl rfl hown (by omega) (by have hql := qi_len ((by8 s).take k); simp only [List.length_cons, List.length_take, by8_len] at hql ⊢; omega) M.size ?_
  intro vo11 w11 hOn hMn hAn
  replace M := hMn w rfl M
  replace hown := hOn
  clear hOn hMn hAn
  refine wl_un (fun v => convert 62 9 v) (.tmp 49) (vo11) (.string ⟨(34 :: qi ((by8 s).take k) ++ [((34) : Int).toNat.toUInt8]).toArray⟩) (fun _ => rfl) rfl (str_own hown) rfl ?_
  refine wl_m (.tmp 50) (.string ⟨(34 :: qi ((by8 s).take k) ++ [((34) : Int).toNat.toUInt8]).toArray⟩) ?_
  refine w_nil (xn_then (w_ret ?_))
  exact w_ret1 _ (.string ⟨(34 :: qi ((by8 s).take k) ++ [((34) : Int).toNat.toUInt8]).toArray⟩) rfl rfl ⟨by rw [show k = s.size by omega, List.take_of_length_le (by rw [by8_len]; omega)]; rfl, M⟩
end Go.Proofs.YthgknegocfhdbaaDoor.V
/-
 The document's Unquote.
-/
namespace Go.Proofs.YthgknegocfhdbaaDoor.V
open Go.RowKit
theorem subS (s : ByteArray) (h : s.size ≤ 1000000000000) (x y : Operand) (w : World) : (do eqGuard .sub 3 x y (.int .i64 ((s.size : Nat) : Int)) (.int .i64 1); binOp .sub 3 (.int .i64 ((s.size : Nat) : Int)) (.int .i64 1)).run Tryd.prog w = .ok (.int .i64 (((s.size : Nat) : Int) - 1)) w := by
 have e : (do eqGuard .sub 3 x y (.int .i64 ((s.size : Nat) : Int)) (.int .i64 1); binOp .sub 3 (.int .i64 ((s.size : Nat) : Int)) (.int .i64 1)).run Tryd.prog w = .ok (.int .i64 (IntKind.i64.wrap (((s.size : Nat) : Int) - 1))) w := by kernel_rfl
 have h3 : IntKind.i64.wrap (((s.size : Nat) : Int) - 1) = ((s.size : Nat) : Int) - 1 := by rw [IntKind.wrap_i64]; omega
 rw [e, h3]
theorem ltS {s : ByteArray} {a : Nat} {r : Bool} (ha : 1 ≤ a) (h : decide (a < s.size - 1) = r) (x y : Operand) (w : World) : (do eqGuard .lss 3 x y (.int .i64 ((a : Nat) : Int)) (.int .i64 (((s.size : Nat) : Int) - 1)); binOp .lss 3 (.int .i64 ((a : Nat) : Int)) (.int .i64 (((s.size : Nat) : Int) - 1))).run Tryd.prog w = .ok (.bool r) w := by
 refine lt3_run (r := r) ?_ _ _ _
 rw [← h, decide_eq_decide]; omega
theorem du_len1 (s : ByteArray) : (du s 1).length ≤ s.size := by
 rcases du_len s _ 1 (Nat.le_refl _) with h | h
 ·omega
 ·rw [h]; exact Nat.zero_le _
theorem dh2_rg (a b : Int) : 0 ≤ dh2 a b ∧ dh2 a b ≤ 255 := by unfold dh2; omega
theorem ne9g {a b : ByteArray} {r : Bool} (h : (a.toList == b.toList) = r) (x y : Operand) (w : World) : (do eqGuard .neq 9 x y (.string a) (.string b); binOp .neq 9 (.string a) (.string b)).run Tryd.prog w = .ok (.bool (!r)) w := by
 subst h; kernel_rfl
theorem ne9q {a : ByteArray} {s : ByteArray} {r : Bool} (h : decide (by8 a = by8 s) = r) (x y : Operand) (w : World) : (do eqGuard .neq 9 x y (.string a) (.string s); binOp .neq 9 (.string a) (.string s)).run Tryd.prog w = .ok (.bool (!r)) w := by
 refine ne9g (r := r) ?_ _ _ _
 rw [← h, Lib.toList_data, Lib.toList_data, Bool.eq_iff_iff, beq_iff_eq, decide_eq_true_iff]
theorem runquote_n (s : ByteArray) (w : World) (hs : s.size ≤ 1000000000000) : Calls Tryd.prog 21 #[.string s] w fun e w' => e = .returned (.tuple #[.string (unq s).1, .bool (unq s).2]) ∧ Mw w w' := by
 have hrq : ∀ w, Calls Tryd.prog 23 #[.string ⟨(du s 1).toArray⟩] w fun e w' => e = .returned (.string ⟨(qt (du s 1)).toArray⟩) ∧ Mw w w' := fun w => rquote_n ⟨(du s 1).toArray⟩ w (by rw [sz_l]; have := du_len1 s; omega)
 refine w_enter 74 Tryd.func21 Tryd.ntmps21 rfl rfl ?_
 have M : Mw w w := Mw.refl _
 refine w_seq (w_reg ?_)
 refine wl_m (.const (.string ⟨#[]⟩)) (.string ⟨#[]⟩) ?_
 refine wl_m (.const (.bool false)) (.bool false) ?_
 refine w_nil (xn_then (w_seq (w_reg ?_)))
 refine wl_m (.const (.slice none 0 0)) (.slice none 0 0) ?_
 refine w_nil (xn_then (w_seq (w_seq (w_reg ?_))))
 refine wl_m (.const (.int .i64 (1))) (.int .i64 (1)) ?_
 refine w_nil (xn_then (w_block ?_))
 refine w_loop (fun m l w1 => ∃ (k : Nat) (v : Value) (L : List UInt8), m = s.size + 8 - k ∧ look l 0 = .string s ∧ look l 4 = v ∧ look l 5 = .int .i64 ((k : Nat) : Int) ∧ 1 ≤ k ∧ k ≤ s.size + 4 ∧ L.length ≤ k ∧ OB w.heap.size v L w1 ∧ L ++ du s k = du s 1 ∧ Mw w w1) _ ⟨1, .slice none 0 0, [], rfl, rfl, rfl, rfl, Nat.le_refl _, by omega, Nat.zero_le _, OB.nil _ _, rfl, M⟩ ?_
 clear M
 rintro m l wl ⟨k, v, L, rfl, e0, e4, e5, hk1, hk, hLk, hown, hdu, M⟩
 refine w_seq (w_seq ?_)
 cases hf20 : decide (k < s.size - 1) with
 | true =>
  have hf20p := of_decide_eq_true hf20
  refine w_reg ?_
  refine wl_mv (.tmp 5) (.int .i64 ((k : Nat) : Int)) (fun _ => rfl) e5 rfl ?_
  refine wl_mv (.tmp 0) (.string s) (fun _ => rfl) e0 rfl ?_
  refine wl_val (.int .i64 ((s.size : Nat) : Int)) (len_s _ _ s (by exact rfl) _ _ _ _ _ _) rfl ?_
  refine wl_b .sub 3 (.tmp 9) (.const (.int .i64 (1))) (.int .i64 ((s.size : Nat) : Int)) (.int .i64 (1)) (.int .i64 (((s.size : Nat) : Int) - 1)) (subS s hs _ _ _) ?_
  refine wl_b .lss 3 (.tmp 7) (.tmp 10) (.int .i64 ((k : Nat) : Int)) (.int .i64 (((s.size : Nat) : Int) - 1)) (.bool true) (ltS (by omega) hf20 _ _ _) ?_
  refine w_nil (xn_then (w_condT rfl (w_skip (xn_then (w_seq (w_block (w_seq (w_reg ?_))))))))
  refine wl_mv (.tmp 0) (.string s) (fun _ => rfl) e0 rfl ?_
  refine wl_mv (.tmp 5) (.int .i64 ((k : Nat) : Int)) (fun _ => rfl) e5 rfl ?_
  refine wl_bin (fun x y => Instr.index 9 x y) (.tmp 14) (.tmp 15) (.string s) (.int .i64 ((k : Nat) : Int)) (.int .u8 (bt s (k))) (fun _ => rfl) rfl rfl (idx_b (k := k) (by omega) _) rfl ?_
  refine wl_m (.tmp 16) (.int .u8 (bt s (k))) ?_
  refine w_nil (xn_then (w_seq (w_seq ?_)))
  cases hf21 : (bt s (k) == 92) with
  | true =>
   cases hf22 : decide (k + 1 < s.size - 1) with
   | true =>
    have hf22p := of_decide_eq_true hf22
    cases hf23 : (bt s (k + 1) == 120) with
    | true =>
     refine w_reg ?_
     refine wl_m (.tmp 6) (.int .u8 (bt s (k))) ?_
     refine wl_b .eql 5 (.tmp 17) (.const (.int .u8 (92))) (.int .u8 (bt s (k))) (.int .u8 (92)) (.bool true) (eq5r hf21 _ _ _) ?_
     refine wl_m (.tmp 18) (.bool true) ?_
     refine wl_mv (.tmp 5) (.int .i64 ((k : Nat) : Int)) (fun _ => rfl) e5 rfl ?_
     refine wl_b .add 3 (.tmp 20) (.const (.int .i64 (1))) (.int .i64 ((k : Nat) : Int)) (.int .i64 (1)) (.int .i64 ((k + 1 : Nat) : Int)) (addk (a := k) (b := 1) rfl (by omega) _ _ _) ?_
     refine wl_mv (.tmp 0) (.string s) (fun _ => rfl) e0 rfl ?_
     refine wl_val (.int .i64 ((s.size : Nat) : Int)) (len_s _ _ s (by exact rfl) _ _ _ _ _ _) rfl ?_
     refine wl_b .sub 3 (.tmp 23) (.const (.int .i64 (1))) (.int .i64 ((s.size : Nat) : Int)) (.int .i64 (1)) (.int .i64 (((s.size : Nat) : Int) - 1)) (subS s hs _ _ _) ?_
     refine wl_b .lss 3 (.tmp 21) (.tmp 24) (.int .i64 ((k + 1 : Nat) : Int)) (.int .i64 (((s.size : Nat) : Int) - 1)) (.bool true) (ltS (by omega) hf22 _ _ _) ?_
     refine wl_pick (.tmp 19) (.tmp 25) (.const (.bool false)) true (.bool true) (fun _ => rfl) rfl rfl rfl ?_
     refine wl_m (.tmp 26) (.bool true) ?_
     refine wl_mv (.tmp 0) (.string s) (fun _ => rfl) e0 rfl ?_
     refine wl_mv (.tmp 5) (.int .i64 ((k : Nat) : Int)) (fun _ => rfl) e5 rfl ?_
     refine wl_b .add 3 (.tmp 29) (.const (.int .i64 (1))) (.int .i64 ((k : Nat) : Int)) (.int .i64 (1)) (.int .i64 ((k + 1 : Nat) : Int)) (addk (a := k) (b := 1) rfl (by omega) _ _ _) ?_
     refine wl_bin (fun x y => Instr.index 9 x y) (.tmp 28) (.tmp 30) (.string s) (.int .i64 ((k + 1 : Nat) : Int)) (.int .u8 (bt s (k + 1))) (fun _ => rfl) rfl rfl (idx_b (k := k + 1) (by omega) _) rfl ?_
     refine wl_b .neq 5 (.tmp 31) (.const (.int .u8 (120))) (.int .u8 (bt s (k + 1))) (.int .u8 (120)) (.bool false) (ne5r hf23 _ _ _) ?_
     refine wl_pick (.tmp 27) (.tmp 32) (.const (.bool false)) true (.bool false) (fun _ => rfl) rfl rfl rfl ?_
     refine w_nil (xn_then (w_condF rfl (w_seq ?_)))
     cases hf24 : decide (k + 3 < s.size - 1) with
     | true =>
      have hf24p := of_decide_eq_true hf24
      refine w_reg ?_
      refine wl_m (.tmp 6) (.int .u8 (bt s (k))) ?_
      refine wl_b .eql 5 (.tmp 39) (.const (.int .u8 (92))) (.int .u8 (bt s (k))) (.int .u8 (92)) (.bool true) (eq5r hf21 _ _ _) ?_
      refine wl_m (.tmp 40) (.bool true) ?_
      refine wl_mv (.tmp 5) (.int .i64 ((k : Nat) : Int)) (fun _ => rfl) e5 rfl ?_
      refine wl_b .add 3 (.tmp 42) (.const (.int .i64 (3))) (.int .i64 ((k : Nat) : Int)) (.int .i64 (3)) (.int .i64 ((k + 3 : Nat) : Int)) (addk (a := k) (b := 3) rfl (by omega) _ _ _) ?_
      refine wl_mv (.tmp 0) (.string s) (fun _ => rfl) e0 rfl ?_
      refine wl_val (.int .i64 ((s.size : Nat) : Int)) (len_s _ _ s (by exact rfl) _ _ _ _ _ _) rfl ?_
      refine wl_b .sub 3 (.tmp 45) (.const (.int .i64 (1))) (.int .i64 ((s.size : Nat) : Int)) (.int .i64 (1)) (.int .i64 (((s.size : Nat) : Int) - 1)) (subS s hs _ _ _) ?_
      refine wl_b .lss 3 (.tmp 43) (.tmp 46) (.int .i64 ((k + 3 : Nat) : Int)) (.int .i64 (((s.size : Nat) : Int) - 1)) (.bool true) (ltS (by omega) hf24 _ _ _) ?_
      refine wl_pick (.tmp 41) (.tmp 47) (.const (.bool false)) true (.bool true) (fun _ => rfl) rfl rfl rfl ?_
      refine w_nil (xn_then (w_condT rfl (w_seq ?_)))
      refine w_any 11 [.inl (.string s), .inl (.int .i64 ((k : Nat) : Int)), .inl (.int .i64 ((k + 2 : Nat) : Int)), .inl (.int .u8 (bt s (k + 2))), .inl (.int .u8 (dhx (bt s (k + 2)))), .inl (.int .u8 (16 * dhx (bt s (k + 2)) % 256)), .inl (.string s), .inl (.int .i64 ((k : Nat) : Int)), .inl (.int .i64 ((k + 3 : Nat) : Int)), .inl (.int .u8 (bt s (k + 3))), .inl (.int .u8 (dhx (bt s (k + 3))))] [] (by kernel_rfl) (by kernel_rfl) (by kernel_rfl) (by kernel_rfl) rfl (by kernel_rfl) (by kernel_rfl) late_nil ?_ ?_ ?_
      ·exact Ds.none rfl
      ·refine ea_cons ?_ (ea_cons ?_ (ea_cons ?_ (ea_cons ?_ (ea_cons ?_ (ea_cons ?_ (ea_cons ?_ (ea_cons ?_ (ea_cons ?_ (ea_cons ?_ (ea_cons ?_ (ea_nil)))))))))))
       ·exact og_eq _ rfl (fun f wf hq hd K hK => go_run rfl (wo_mv (.tmp 0) (.string s) (fun _ => rfl) e0 (hK _ (Mw.refl _))))
       ·exact og_eq _ rfl (fun f wf hq hd K hK => go_run rfl (wo_mv (.tmp 5) (.int .i64 ((k : Nat) : Int)) (fun _ => rfl) e5 (hK _ (Mw.refl _))))
       ·exact og_eq _ rfl (fun f wf hq hd K hK => go_run rfl (wo_bin (fun x y => do eqGuard .add 3 (.tmp 50) (.const (.int .i64 (2))) x y; binOp .add 3 x y) (.tmp 50) (.const (.int .i64 (2))) (.int .i64 ((k : Nat) : Int)) (.int .i64 (2)) (.int .i64 ((k + 2 : Nat) : Int)) (fun _ => rfl) (hd 1 rfl) rfl (addk (a := k) (b := 2) rfl (by omega) _ _ _) (hK _ (Mw.refl _))))
       ·exact og_eq _ rfl (fun f wf hq hd K hK => go_run rfl (wo_bin (fun x y => Instr.index 9 x y) (.tmp 49) (.tmp 51) (.string s) (.int .i64 ((k + 2 : Nat) : Int)) (.int .u8 (bt s (k + 2))) (fun _ => rfl) (hd 0 rfl) (hd 2 rfl) (idx_b (k := k + 2) (by omega) _) (hK _ (Mw.refl _))))
       ·exact og_eq _ rfl (fun f wf hq hd K hK => go_run rfl (wo_call 42 [(.tmp 52)] _ [.int .u8 (bt s (k + 2))] (.int .u8 (dhx (bt s (k + 2)))) rfl (li1 (hd 3 rfl)) (fun _ _ => by kernel_rfl) (rhex_n (bt s (k + 2)) _ (bt_rg s (k + 2))) hK))
       ·exact og_eq _ rfl (fun f wf hq hd K hK => go_run rfl (wo_bin (fun x y => do eqGuard .mul 5 (.const (.int .u8 (16))) (.tmp 53) x y; binOp .mul 5 x y) (.const (.int .u8 (16))) (.tmp 53) (.int .u8 (16)) (.int .u8 (dhx (bt s (k + 2)))) (.int .u8 (16 * dhx (bt s (k + 2)) % 256)) (fun _ => rfl) rfl (hd 4 rfl) (mul5 (by rw [IntKind.wrap_u8]) _ _ _) (hK _ (Mw.refl _))))
       ·exact og_eq _ rfl (fun f wf hq hd K hK => go_run rfl (wo_mv (.tmp 0) (.string s) (fun _ => rfl) e0 (hK _ (Mw.refl _))))
       ·exact og_eq _ rfl (fun f wf hq hd K hK => go_run rfl (wo_mv (.tmp 5) (.int .i64 ((k : Nat) : Int)) (fun _ => rfl) e5 (hK _ (Mw.refl _))))
       ·exact og_eq _ rfl (fun f wf hq hd K hK => go_run rfl (wo_bin (fun x y => do eqGuard .add 3 (.tmp 56) (.const (.int .i64 (3))) x y; binOp .add 3 x y) (.tmp 56) (.const (.int .i64 (3))) (.int .i64 ((k : Nat) : Int)) (.int .i64 (3)) (.int .i64 ((k + 3 : Nat) : Int)) (fun _ => rfl) (hd 7 rfl) rfl (addk (a := k) (b := 3) rfl (by omega) _ _ _) (hK _ (Mw.refl _))))
       ·exact og_eq _ rfl (fun f wf hq hd K hK => go_run rfl (wo_bin (fun x y => Instr.index 9 x y) (.tmp 55) (.tmp 57) (.string s) (.int .i64 ((k + 3 : Nat) : Int)) (.int .u8 (bt s (k + 3))) (fun _ => rfl) (hd 6 rfl) (hd 8 rfl) (idx_b (k := k + 3) (by omega) _) (hK _ (Mw.refl _))))
       ·exact og_eq _ rfl (fun f wf hq hd K hK => go_run rfl (wo_call 42 [(.tmp 58)] _ [.int .u8 (bt s (k + 3))] (.int .u8 (dhx (bt s (k + 3)))) rfl (li1 (hd 9 rfl)) (fun _ _ => by kernel_rfl) (rhex_n (bt s (k + 3)) _ (bt_rg s (k + 3))) hK))
      intro kf11 w11 hq hR hne
      replace hown := OB.mw hown hq
      replace M := M.trans hq
      clear hq hR hne
      refine wl_b .add 5 (.tmp 54) (.tmp 59) (.int .u8 (16 * dhx (bt s (k + 2)) % 256)) (.int .u8 (dhx (bt s (k + 3)))) (.int .u8 (dh2 (bt s (k + 2)) (bt s (k + 3)))) (add5 (by rw [IntKind.wrap_u8]; rfl) _ _ _) ?_
      refine wl_m (.tmp 60) (.int .u8 (dh2 (bt s (k + 2)) (bt s (k + 3)))) ?_
      refine w_nil (xn_then (w_reg ?_))
      refine wl_mv (.tmp 5) (.int .i64 ((k : Nat) : Int)) (fun _ => rfl) e5 rfl ?_
      refine wl_b .add 3 (.tmp 61) (.const (.int .i64 (3))) (.int .i64 ((k : Nat) : Int)) (.int .i64 (3)) (.int .i64 ((k + 3 : Nat) : Int)) (addk (a := k) (b := 3) rfl (by omega) _ _ _) ?_
      refine wl_m (.tmp 62) (.int .i64 ((k + 3 : Nat) : Int)) ?_
      refine w_nil (xn_then (w_reg ?_))
      refine wl_mv (.tmp 4) (v) (fun _ => rfl) e4 rfl ?_
      refine wl_m (.tmp 6) (.int .u8 (dh2 (bt s (k + 2)) (bt s (k + 3)))) ?_
      refine wl_put1 _ (.tmp 64) (.tmp 63) 65 ((dh2 (bt s (k + 2)) (bt s (k + 3)))) w.heap.size v (L) rfl rfl rfl rfl rfl rfl rfl rfl hown (dh2_rg _ _) (by omega) M.size ?_
      intro vo12 w12 hOn hMn hAn
      replace M := hMn w rfl M
      replace hown := hOn
      clear hOn hMn hAn
      refine wl_m (.tmp 66) (vo12) ?_
      refine w_nil (xn_blk (xn_then (w_reg ?_)))
      refine wl_m (.tmp 5) (.int .i64 ((k + 3 : Nat) : Int)) ?_
      refine wl_b .add 3 (.tmp 12) (.const (.int .i64 (1))) (.int .i64 ((k + 3 : Nat) : Int)) (.int .i64 (1)) (.int .i64 ((k + 4 : Nat) : Int)) (addk (a := k + 3) (b := 1) (c := k + 4) rfl (by omega) _ _ _) ?_
      refine wl_m (.tmp 13) (.int .i64 ((k + 4 : Nat) : Int)) ?_
      refine w_nil ?_
      rw [du_2 hf20p (fun h => by rw [hf23] at h; cases h.2.2) ⟨hf21, hf24p⟩] at hdu
      exact xn_loop (s.size + 8 - (k + 4)) (by omega) ⟨k + 4, _, _, rfl, e0, rfl, rfl, by omega, by omega, by rw [List.length_append]; simp only [List.length_singleton]; omega, hown, by rw [List.append_assoc]; exact hdu, M⟩
     | false =>
      have hf24p := of_decide_eq_false hf24
      refine w_reg ?_
      refine wl_m (.tmp 6) (.int .u8 (bt s (k))) ?_
      refine wl_b .eql 5 (.tmp 39) (.const (.int .u8 (92))) (.int .u8 (bt s (k))) (.int .u8 (92)) (.bool true) (eq5r hf21 _ _ _) ?_
      refine wl_m (.tmp 40) (.bool true) ?_
      refine wl_mv (.tmp 5) (.int .i64 ((k : Nat) : Int)) (fun _ => rfl) e5 rfl ?_
      refine wl_b .add 3 (.tmp 42) (.const (.int .i64 (3))) (.int .i64 ((k : Nat) : Int)) (.int .i64 (3)) (.int .i64 ((k + 3 : Nat) : Int)) (addk (a := k) (b := 3) rfl (by omega) _ _ _) ?_
      refine wl_mv (.tmp 0) (.string s) (fun _ => rfl) e0 rfl ?_
      refine wl_val (.int .i64 ((s.size : Nat) : Int)) (len_s _ _ s (by exact rfl) _ _ _ _ _ _) rfl ?_
      refine wl_b .sub 3 (.tmp 45) (.const (.int .i64 (1))) (.int .i64 ((s.size : Nat) : Int)) (.int .i64 (1)) (.int .i64 (((s.size : Nat) : Int) - 1)) (subS s hs _ _ _) ?_
      refine wl_b .lss 3 (.tmp 43) (.tmp 46) (.int .i64 ((k + 3 : Nat) : Int)) (.int .i64 (((s.size : Nat) : Int) - 1)) (.bool false) (ltS (by omega) hf24 _ _ _) ?_
      refine wl_pick (.tmp 41) (.tmp 47) (.const (.bool false)) true (.bool false) (fun _ => rfl) rfl rfl rfl ?_
      refine w_nil (xn_then (w_condF rfl (w_skip (xn_then (w_reg ?_)))))
      refine wl_mv (.tmp 4) (v) (fun _ => rfl) e4 rfl ?_
      refine wl_m (.tmp 6) (.int .u8 (bt s (k))) ?_
      refine wl_put1 _ (.tmp 64) (.tmp 63) 65 ((bt s (k))) w.heap.size v (L) rfl rfl rfl rfl rfl rfl rfl rfl hown (bt_rg _ _) (by omega) M.size ?_
      intro vo11 w11 hOn hMn hAn
      replace M := hMn w rfl M
      replace hown := hOn
      clear hOn hMn hAn
      refine wl_m (.tmp 66) (vo11) ?_
      refine w_nil (xn_blk (xn_then (w_reg ?_)))
      refine wl_mv (.tmp 5) (.int .i64 ((k : Nat) : Int)) (fun _ => rfl) e5 rfl ?_
      refine wl_b .add 3 (.tmp 12) (.const (.int .i64 (1))) (.int .i64 ((k : Nat) : Int)) (.int .i64 (1)) (.int .i64 ((k + 1 : Nat) : Int)) (addk (a := k) (b := 1) rfl (by omega) _ _ _) ?_
      refine wl_m (.tmp 13) (.int .i64 ((k + 1 : Nat) : Int)) ?_
      refine w_nil ?_
      rw [du_3 hf20p (fun h => by rw [hf23] at h; cases h.2.2) (fun h => hf24p h.2)] at hdu
      exact xn_loop (s.size + 8 - (k + 1)) (by omega) ⟨k + 1, _, _, rfl, e0, rfl, rfl, by omega, by omega, by rw [List.length_append]; simp only [List.length_singleton]; omega, hown, by rw [List.append_assoc]; exact hdu, M⟩
    | false =>
     refine w_reg ?_
     refine wl_m (.tmp 6) (.int .u8 (bt s (k))) ?_
     refine wl_b .eql 5 (.tmp 17) (.const (.int .u8 (92))) (.int .u8 (bt s (k))) (.int .u8 (92)) (.bool true) (eq5r hf21 _ _ _) ?_
     refine wl_m (.tmp 18) (.bool true) ?_
     refine wl_mv (.tmp 5) (.int .i64 ((k : Nat) : Int)) (fun _ => rfl) e5 rfl ?_
     refine wl_b .add 3 (.tmp 20) (.const (.int .i64 (1))) (.int .i64 ((k : Nat) : Int)) (.int .i64 (1)) (.int .i64 ((k + 1 : Nat) : Int)) (addk (a := k) (b := 1) rfl (by omega) _ _ _) ?_
     refine wl_mv (.tmp 0) (.string s) (fun _ => rfl) e0 rfl ?_
     refine wl_val (.int .i64 ((s.size : Nat) : Int)) (len_s _ _ s (by exact rfl) _ _ _ _ _ _) rfl ?_
     refine wl_b .sub 3 (.tmp 23) (.const (.int .i64 (1))) (.int .i64 ((s.size : Nat) : Int)) (.int .i64 (1)) (.int .i64 (((s.size : Nat) : Int) - 1)) (subS s hs _ _ _) ?_
     refine wl_b .lss 3 (.tmp 21) (.tmp 24) (.int .i64 ((k + 1 : Nat) : Int)) (.int .i64 (((s.size : Nat) : Int) - 1)) (.bool true) (ltS (by omega) hf22 _ _ _) ?_
     refine wl_pick (.tmp 19) (.tmp 25) (.const (.bool false)) true (.bool true) (fun _ => rfl) rfl rfl rfl ?_
     refine wl_m (.tmp 26) (.bool true) ?_
     refine wl_mv (.tmp 0) (.string s) (fun _ => rfl) e0 rfl ?_
     refine wl_mv (.tmp 5) (.int .i64 ((k : Nat) : Int)) (fun _ => rfl) e5 rfl ?_
     refine wl_b .add 3 (.tmp 29) (.const (.int .i64 (1))) (.int .i64 ((k : Nat) : Int)) (.int .i64 (1)) (.int .i64 ((k + 1 : Nat) : Int)) (addk (a := k) (b := 1) rfl (by omega) _ _ _) ?_
     refine wl_bin (fun x y => Instr.index 9 x y) (.tmp 28) (.tmp 30) (.string s) (.int .i64 ((k + 1 : Nat) : Int)) (.int .u8 (bt s (k + 1))) (fun _ => rfl) rfl rfl (idx_b (k := k + 1) (by omega) _) rfl ?_
     refine wl_b .neq 5 (.tmp 31) (.const (.int .u8 (120))) (.int .u8 (bt s (k + 1))) (.int .u8 (120)) (.bool true) (ne5r hf23 _ _ _) ?_
     refine wl_pick (.tmp 27) (.tmp 32) (.const (.bool false)) true (.bool true) (fun _ => rfl) rfl rfl rfl ?_
     refine w_nil (xn_then (w_condT rfl (w_seq (w_reg ?_))))
     refine wl_mv (.tmp 5) (.int .i64 ((k : Nat) : Int)) (fun _ => rfl) e5 rfl ?_
     refine wl_b .add 3 (.tmp 34) (.const (.int .i64 (1))) (.int .i64 ((k : Nat) : Int)) (.int .i64 (1)) (.int .i64 ((k + 1 : Nat) : Int)) (addk (a := k) (b := 1) rfl (by omega) _ _ _) ?_
     refine wl_m (.tmp 35) (.int .i64 ((k + 1 : Nat) : Int)) ?_
     refine w_nil (xn_then (w_reg ?_))
     refine wl_mv (.tmp 0) (.string s) (fun _ => rfl) e0 rfl ?_
     refine wl_m (.tmp 5) (.int .i64 ((k + 1 : Nat) : Int)) ?_
     refine wl_bin (fun x y => Instr.index 9 x y) (.tmp 36) (.tmp 37) (.string s) (.int .i64 ((k + 1 : Nat) : Int)) (.int .u8 (bt s (k + 1))) (fun _ => rfl) rfl rfl (idx_b (k := k + 1) (by omega) _) rfl ?_
     refine wl_m (.tmp 38) (.int .u8 (bt s (k + 1))) ?_
     refine w_nil (xn_then (w_reg ?_))
     refine wl_mv (.tmp 4) (v) (fun _ => rfl) e4 rfl ?_
     refine wl_m (.tmp 6) (.int .u8 (bt s (k + 1))) ?_
     refine wl_put1 _ (.tmp 64) (.tmp 63) 65 ((bt s (k + 1))) w.heap.size v (L) rfl rfl rfl rfl rfl rfl rfl rfl hown (bt_rg _ _) (by omega) M.size ?_
     intro vo11 w11 hOn hMn hAn
     replace M := hMn w rfl M
     replace hown := hOn
     clear hOn hMn hAn
     refine wl_m (.tmp 66) (vo11) ?_
     refine w_nil (xn_blk (xn_then (w_reg ?_)))
     refine wl_m (.tmp 5) (.int .i64 ((k + 1 : Nat) : Int)) ?_
     refine wl_b .add 3 (.tmp 12) (.const (.int .i64 (1))) (.int .i64 ((k + 1 : Nat) : Int)) (.int .i64 (1)) (.int .i64 ((k + 2 : Nat) : Int)) (addk (a := k + 1) (b := 1) (c := k + 2) rfl (by omega) _ _ _) ?_
     refine wl_m (.tmp 13) (.int .i64 ((k + 2 : Nat) : Int)) ?_
     refine w_nil ?_
     rw [du_1 hf20p ⟨hf21, hf22p, hf23⟩] at hdu
     exact xn_loop (s.size + 8 - (k + 2)) (by omega) ⟨k + 2, _, _, rfl, e0, rfl, rfl, by omega, by omega, by rw [List.length_append]; simp only [List.length_singleton]; omega, hown, by rw [List.append_assoc]; exact hdu, M⟩
   | false =>
    have hf22p := of_decide_eq_false hf22
    refine w_reg ?_
    refine wl_m (.tmp 6) (.int .u8 (bt s (k))) ?_
    refine wl_b .eql 5 (.tmp 17) (.const (.int .u8 (92))) (.int .u8 (bt s (k))) (.int .u8 (92)) (.bool true) (eq5r hf21 _ _ _) ?_
    refine wl_m (.tmp 18) (.bool true) ?_
    refine wl_mv (.tmp 5) (.int .i64 ((k : Nat) : Int)) (fun _ => rfl) e5 rfl ?_
    refine wl_b .add 3 (.tmp 20) (.const (.int .i64 (1))) (.int .i64 ((k : Nat) : Int)) (.int .i64 (1)) (.int .i64 ((k + 1 : Nat) : Int)) (addk (a := k) (b := 1) rfl (by omega) _ _ _) ?_
    refine wl_mv (.tmp 0) (.string s) (fun _ => rfl) e0 rfl ?_
    refine wl_val (.int .i64 ((s.size : Nat) : Int)) (len_s _ _ s (by exact rfl) _ _ _ _ _ _) rfl ?_
    refine wl_b .sub 3 (.tmp 23) (.const (.int .i64 (1))) (.int .i64 ((s.size : Nat) : Int)) (.int .i64 (1)) (.int .i64 (((s.size : Nat) : Int) - 1)) (subS s hs _ _ _) ?_
    refine wl_b .lss 3 (.tmp 21) (.tmp 24) (.int .i64 ((k + 1 : Nat) : Int)) (.int .i64 (((s.size : Nat) : Int) - 1)) (.bool false) (ltS (by omega) hf22 _ _ _) ?_
    refine wl_pick (.tmp 19) (.tmp 25) (.const (.bool false)) true (.bool false) (fun _ => rfl) rfl rfl rfl ?_
    refine wl_m (.tmp 26) (.bool false) ?_
    refine wl_skip rfl (wl_skip rfl (wl_skip rfl (wl_skip rfl (wl_skip rfl ?_))))
    refine wl_pick (.tmp 27) (.tmp 32) (.const (.bool false)) false (.bool false) (fun _ => rfl) rfl rfl rfl ?_
    refine w_nil (xn_then (w_condF rfl (w_seq ?_)))
    cases hf23 : decide (k + 3 < s.size - 1) with
    | true =>
     have hf23p := of_decide_eq_true hf23
     refine w_reg ?_
     refine wl_m (.tmp 6) (.int .u8 (bt s (k))) ?_
     refine wl_b .eql 5 (.tmp 39) (.const (.int .u8 (92))) (.int .u8 (bt s (k))) (.int .u8 (92)) (.bool true) (eq5r hf21 _ _ _) ?_
     refine wl_m (.tmp 40) (.bool true) ?_
     refine wl_mv (.tmp 5) (.int .i64 ((k : Nat) : Int)) (fun _ => rfl) e5 rfl ?_
     refine wl_b .add 3 (.tmp 42) (.const (.int .i64 (3))) (.int .i64 ((k : Nat) : Int)) (.int .i64 (3)) (.int .i64 ((k + 3 : Nat) : Int)) (addk (a := k) (b := 3) rfl (by omega) _ _ _) ?_
     refine wl_mv (.tmp 0) (.string s) (fun _ => rfl) e0 rfl ?_
     refine wl_val (.int .i64 ((s.size : Nat) : Int)) (len_s _ _ s (by exact rfl) _ _ _ _ _ _) rfl ?_
     refine wl_b .sub 3 (.tmp 45) (.const (.int .i64 (1))) (.int .i64 ((s.size : Nat) : Int)) (.int .i64 (1)) (.int .i64 (((s.size : Nat) : Int) - 1)) (subS s hs _ _ _) ?_
     refine wl_b .lss 3 (.tmp 43) (.tmp 46) (.int .i64 ((k + 3 : Nat) : Int)) (.int .i64 (((s.size : Nat) : Int) - 1)) (.bool true) (ltS (by omega) hf23 _ _ _) ?_
     refine wl_pick (.tmp 41) (.tmp 47) (.const (.bool false)) true (.bool true) (fun _ => rfl) rfl rfl rfl ?_
     refine w_nil (xn_then (w_condT rfl (w_seq ?_)))
     refine w_any 11 [.inl (.string s), .inl (.int .i64 ((k : Nat) : Int)), .inl (.int .i64 ((k + 2 : Nat) : Int)), .inl (.int .u8 (bt s (k + 2))), .inl (.int .u8 (dhx (bt s (k + 2)))), .inl (.int .u8 (16 * dhx (bt s (k + 2)) % 256)), .inl (.string s), .inl (.int .i64 ((k : Nat) : Int)), .inl (.int .i64 ((k + 3 : Nat) : Int)), .inl (.int .u8 (bt s (k + 3))), .inl (.int .u8 (dhx (bt s (k + 3))))] [] (by kernel_rfl) (by kernel_rfl) (by kernel_rfl) (by kernel_rfl) rfl (by kernel_rfl) (by kernel_rfl) late_nil ?_ ?_ ?_
     ·exact Ds.none rfl
     ·refine ea_cons ?_ (ea_cons ?_ (ea_cons ?_ (ea_cons ?_ (ea_cons ?_ (ea_cons ?_ (ea_cons ?_ (ea_cons ?_ (ea_cons ?_ (ea_cons ?_ (ea_cons ?_ (ea_nil)))))))))))
      ·exact og_eq _ rfl (fun f wf hq hd K hK => go_run rfl (wo_mv (.tmp 0) (.string s) (fun _ => rfl) e0 (hK _ (Mw.refl _))))
      ·exact og_eq _ rfl (fun f wf hq hd K hK => go_run rfl (wo_mv (.tmp 5) (.int .i64 ((k : Nat) : Int)) (fun _ => rfl) e5 (hK _ (Mw.refl _))))
      ·exact og_eq _ rfl (fun f wf hq hd K hK => go_run rfl (wo_bin (fun x y => do eqGuard .add 3 (.tmp 50) (.const (.int .i64 (2))) x y; binOp .add 3 x y) (.tmp 50) (.const (.int .i64 (2))) (.int .i64 ((k : Nat) : Int)) (.int .i64 (2)) (.int .i64 ((k + 2 : Nat) : Int)) (fun _ => rfl) (hd 1 rfl) rfl (addk (a := k) (b := 2) rfl (by omega) _ _ _) (hK _ (Mw.refl _))))
      ·exact og_eq _ rfl (fun f wf hq hd K hK => go_run rfl (wo_bin (fun x y => Instr.index 9 x y) (.tmp 49) (.tmp 51) (.string s) (.int .i64 ((k + 2 : Nat) : Int)) (.int .u8 (bt s (k + 2))) (fun _ => rfl) (hd 0 rfl) (hd 2 rfl) (idx_b (k := k + 2) (by omega) _) (hK _ (Mw.refl _))))
      ·exact og_eq _ rfl (fun f wf hq hd K hK => go_run rfl (wo_call 42 [(.tmp 52)] _ [.int .u8 (bt s (k + 2))] (.int .u8 (dhx (bt s (k + 2)))) rfl (li1 (hd 3 rfl)) (fun _ _ => by kernel_rfl) (rhex_n (bt s (k + 2)) _ (bt_rg s (k + 2))) hK))
      ·exact og_eq _ rfl (fun f wf hq hd K hK => go_run rfl (wo_bin (fun x y => do eqGuard .mul 5 (.const (.int .u8 (16))) (.tmp 53) x y; binOp .mul 5 x y) (.const (.int .u8 (16))) (.tmp 53) (.int .u8 (16)) (.int .u8 (dhx (bt s (k + 2)))) (.int .u8 (16 * dhx (bt s (k + 2)) % 256)) (fun _ => rfl) rfl (hd 4 rfl) (mul5 (by rw [IntKind.wrap_u8]) _ _ _) (hK _ (Mw.refl _))))
      ·exact og_eq _ rfl (fun f wf hq hd K hK => go_run rfl (wo_mv (.tmp 0) (.string s) (fun _ => rfl) e0 (hK _ (Mw.refl _))))
      ·exact og_eq _ rfl (fun f wf hq hd K hK => go_run rfl (wo_mv (.tmp 5) (.int .i64 ((k : Nat) : Int)) (fun _ => rfl) e5 (hK _ (Mw.refl _))))
      ·exact og_eq _ rfl (fun f wf hq hd K hK => go_run rfl (wo_bin (fun x y => do eqGuard .add 3 (.tmp 56) (.const (.int .i64 (3))) x y; binOp .add 3 x y) (.tmp 56) (.const (.int .i64 (3))) (.int .i64 ((k : Nat) : Int)) (.int .i64 (3)) (.int .i64 ((k + 3 : Nat) : Int)) (fun _ => rfl) (hd 7 rfl) rfl (addk (a := k) (b := 3) rfl (by omega) _ _ _) (hK _ (Mw.refl _))))
      ·exact og_eq _ rfl (fun f wf hq hd K hK => go_run rfl (wo_bin (fun x y => Instr.index 9 x y) (.tmp 55) (.tmp 57) (.string s) (.int .i64 ((k + 3 : Nat) : Int)) (.int .u8 (bt s (k + 3))) (fun _ => rfl) (hd 6 rfl) (hd 8 rfl) (idx_b (k := k + 3) (by omega) _) (hK _ (Mw.refl _))))
      ·exact og_eq _ rfl (fun f wf hq hd K hK => go_run rfl (wo_call 42 [(.tmp 58)] _ [.int .u8 (bt s (k + 3))] (.int .u8 (dhx (bt s (k + 3)))) rfl (li1 (hd 9 rfl)) (fun _ _ => by kernel_rfl) (rhex_n (bt s (k + 3)) _ (bt_rg s (k + 3))) hK))
     intro kf11 w11 hq hR hne
     replace hown := OB.mw hown hq
     replace M := M.trans hq
     clear hq hR hne
     refine wl_b .add 5 (.tmp 54) (.tmp 59) (.int .u8 (16 * dhx (bt s (k + 2)) % 256)) (.int .u8 (dhx (bt s (k + 3)))) (.int .u8 (dh2 (bt s (k + 2)) (bt s (k + 3)))) (add5 (by rw [IntKind.wrap_u8]; rfl) _ _ _) ?_
     refine wl_m (.tmp 60) (.int .u8 (dh2 (bt s (k + 2)) (bt s (k + 3)))) ?_
     refine w_nil (xn_then (w_reg ?_))
     refine wl_mv (.tmp 5) (.int .i64 ((k : Nat) : Int)) (fun _ => rfl) e5 rfl ?_
     refine wl_b .add 3 (.tmp 61) (.const (.int .i64 (3))) (.int .i64 ((k : Nat) : Int)) (.int .i64 (3)) (.int .i64 ((k + 3 : Nat) : Int)) (addk (a := k) (b := 3) rfl (by omega) _ _ _) ?_
     refine wl_m (.tmp 62) (.int .i64 ((k + 3 : Nat) : Int)) ?_
     refine w_nil (xn_then (w_reg ?_))
     refine wl_mv (.tmp 4) (v) (fun _ => rfl) e4 rfl ?_
     refine wl_m (.tmp 6) (.int .u8 (dh2 (bt s (k + 2)) (bt s (k + 3)))) ?_
     refine wl_put1 _ (.tmp 64) (.tmp 63) 65 ((dh2 (bt s (k + 2)) (bt s (k + 3)))) w.heap.size v (L) rfl rfl rfl rfl rfl rfl rfl rfl hown (dh2_rg _ _) (by omega) M.size ?_
     intro vo12 w12 hOn hMn hAn
     replace M := hMn w rfl M
     replace hown := hOn
     clear hOn hMn hAn
     refine wl_m (.tmp 66) (vo12) ?_
     refine w_nil (xn_blk (xn_then (w_reg ?_)))
     refine wl_m (.tmp 5) (.int .i64 ((k + 3 : Nat) : Int)) ?_
     refine wl_b .add 3 (.tmp 12) (.const (.int .i64 (1))) (.int .i64 ((k + 3 : Nat) : Int)) (.int .i64 (1)) (.int .i64 ((k + 4 : Nat) : Int)) (addk (a := k + 3) (b := 1) (c := k + 4) rfl (by omega) _ _ _) ?_
     refine wl_m (.tmp 13) (.int .i64 ((k + 4 : Nat) : Int)) ?_
     refine w_nil ?_
     rw [du_2 hf20p (fun h => hf22p h.2.1) ⟨hf21, hf23p⟩] at hdu
     exact xn_loop (s.size + 8 - (k + 4)) (by omega) ⟨k + 4, _, _, rfl, e0, rfl, rfl, by omega, by omega, by rw [List.length_append]; simp only [List.length_singleton]; omega, hown, by rw [List.append_assoc]; exact hdu, M⟩
    | false =>
     have hf23p := of_decide_eq_false hf23
     refine w_reg ?_
     refine wl_m (.tmp 6) (.int .u8 (bt s (k))) ?_
     refine wl_b .eql 5 (.tmp 39) (.const (.int .u8 (92))) (.int .u8 (bt s (k))) (.int .u8 (92)) (.bool true) (eq5r hf21 _ _ _) ?_
     refine wl_m (.tmp 40) (.bool true) ?_
     refine wl_mv (.tmp 5) (.int .i64 ((k : Nat) : Int)) (fun _ => rfl) e5 rfl ?_
     refine wl_b .add 3 (.tmp 42) (.const (.int .i64 (3))) (.int .i64 ((k : Nat) : Int)) (.int .i64 (3)) (.int .i64 ((k + 3 : Nat) : Int)) (addk (a := k) (b := 3) rfl (by omega) _ _ _) ?_
     refine wl_mv (.tmp 0) (.string s) (fun _ => rfl) e0 rfl ?_
     refine wl_val (.int .i64 ((s.size : Nat) : Int)) (len_s _ _ s (by exact rfl) _ _ _ _ _ _) rfl ?_
     refine wl_b .sub 3 (.tmp 45) (.const (.int .i64 (1))) (.int .i64 ((s.size : Nat) : Int)) (.int .i64 (1)) (.int .i64 (((s.size : Nat) : Int) - 1)) (subS s hs _ _ _) ?_
     refine wl_b .lss 3 (.tmp 43) (.tmp 46) (.int .i64 ((k + 3 : Nat) : Int)) (.int .i64 (((s.size : Nat) : Int) - 1)) (.bool false) (ltS (by omega) hf23 _ _ _) ?_
     refine wl_pick (.tmp 41) (.tmp 47) (.const (.bool false)) true (.bool false) (fun _ => rfl) rfl rfl rfl ?_
     refine w_nil (xn_then (w_condF rfl (w_skip (xn_then (w_reg ?_)))))
     refine wl_mv (.tmp 4) (v) (fun _ => rfl) e4 rfl ?_
     refine wl_m (.tmp 6) (.int .u8 (bt s (k))) ?_
     refine wl_put1 _ (.tmp 64) (.tmp 63) 65 ((bt s (k))) w.heap.size v (L) rfl rfl rfl rfl rfl rfl rfl rfl hown (bt_rg _ _) (by omega) M.size ?_
     intro vo11 w11 hOn hMn hAn
     replace M := hMn w rfl M
     replace hown := hOn
     clear hOn hMn hAn
     refine wl_m (.tmp 66) (vo11) ?_
     refine w_nil (xn_blk (xn_then (w_reg ?_)))
     refine wl_mv (.tmp 5) (.int .i64 ((k : Nat) : Int)) (fun _ => rfl) e5 rfl ?_
     refine wl_b .add 3 (.tmp 12) (.const (.int .i64 (1))) (.int .i64 ((k : Nat) : Int)) (.int .i64 (1)) (.int .i64 ((k + 1 : Nat) : Int)) (addk (a := k) (b := 1) rfl (by omega) _ _ _) ?_
     refine wl_m (.tmp 13) (.int .i64 ((k + 1 : Nat) : Int)) ?_
     refine w_nil ?_
     rw [du_3 hf20p (fun h => hf22p h.2.1) (fun h => hf23p h.2)] at hdu
     exact xn_loop (s.size + 8 - (k + 1)) (by omega) ⟨k + 1, _, _, rfl, e0, rfl, rfl, by omega, by omega, by rw [List.length_append]; simp only [List.length_singleton]; omega, hown, by rw [List.append_assoc]; exact hdu, M⟩
  | false =>
   refine w_reg ?_
   refine wl_m (.tmp 6) (.int .u8 (bt s (k))) ?_
   refine wl_b .eql 5 (.tmp 17) (.const (.int .u8 (92))) (.int .u8 (bt s (k))) (.int .u8 (92)) (.bool false) (eq5r hf21 _ _ _) ?_
   refine wl_m (.tmp 18) (.bool false) ?_
   refine wl_skip rfl (wl_skip rfl (wl_skip rfl (wl_skip rfl (wl_skip rfl (wl_skip rfl ?_)))))
   refine wl_pick (.tmp 19) (.tmp 25) (.const (.bool false)) false (.bool false) (fun _ => rfl) rfl rfl rfl ?_
   refine wl_m (.tmp 26) (.bool false) ?_
   refine wl_skip rfl (wl_skip rfl (wl_skip rfl (wl_skip rfl (wl_skip rfl ?_))))
   refine wl_pick (.tmp 27) (.tmp 32) (.const (.bool false)) false (.bool false) (fun _ => rfl) rfl rfl rfl ?_
   refine w_nil (xn_then (w_condF rfl (w_seq (w_reg ?_))))
   refine wl_m (.tmp 6) (.int .u8 (bt s (k))) ?_
   refine wl_b .eql 5 (.tmp 39) (.const (.int .u8 (92))) (.int .u8 (bt s (k))) (.int .u8 (92)) (.bool false) (eq5r hf21 _ _ _) ?_
   refine wl_m (.tmp 40) (.bool false) ?_
   refine wl_skip rfl (wl_skip rfl (wl_skip rfl (wl_skip rfl (wl_skip rfl (wl_skip rfl ?_)))))
   refine wl_pick (.tmp 41) (.tmp 47) (.const (.bool false)) false (.bool false) (fun _ => rfl) rfl rfl rfl ?_
   refine w_nil (xn_then (w_condF rfl (w_skip (xn_then (w_reg ?_)))))
   refine wl_mv (.tmp 4) (v) (fun _ => rfl) e4 rfl ?_
   refine wl_m (.tmp 6) (.int .u8 (bt s (k))) ?_
   refine wl_put1 _ (.tmp 64) (.tmp 63) 65 ((bt s (k))) w.heap.size v (L) rfl rfl rfl rfl rfl rfl rfl rfl hown (bt_rg _ _) (by omega) M.size ?_
   intro vo11 w11 hOn hMn hAn
   replace M := hMn w rfl M
   replace hown := hOn
   clear hOn hMn hAn
   refine wl_m (.tmp 66) (vo11) ?_
   refine w_nil (xn_blk (xn_then (w_reg ?_)))
   refine wl_mv (.tmp 5) (.int .i64 ((k : Nat) : Int)) (fun _ => rfl) e5 rfl ?_
   refine wl_b .add 3 (.tmp 12) (.const (.int .i64 (1))) (.int .i64 ((k : Nat) : Int)) (.int .i64 (1)) (.int .i64 ((k + 1 : Nat) : Int)) (addk (a := k) (b := 1) rfl (by omega) _ _ _) ?_
   refine wl_m (.tmp 13) (.int .i64 ((k + 1 : Nat) : Int)) ?_
   refine w_nil ?_
   rw [du_3 hf20p (fun h => by rw [hf21] at h; cases h.1) (fun h => by rw [hf21] at h; cases h.1)] at hdu
   exact xn_loop (s.size + 8 - (k + 1)) (by omega) ⟨k + 1, _, _, rfl, e0, rfl, rfl, by omega, by omega, by rw [List.length_append]; simp only [List.length_singleton]; omega, hown, by rw [List.append_assoc]; exact hdu, M⟩
 | false =>
  have hf20p := of_decide_eq_false hf20
  refine w_reg ?_
  refine wl_mv (.tmp 5) (.int .i64 ((k : Nat) : Int)) (fun _ => rfl) e5 rfl ?_
  refine wl_mv (.tmp 0) (.string s) (fun _ => rfl) e0 rfl ?_
  refine wl_val (.int .i64 ((s.size : Nat) : Int)) (len_s _ _ s (by exact rfl) _ _ _ _ _ _) rfl ?_
  refine wl_b .sub 3 (.tmp 9) (.const (.int .i64 (1))) (.int .i64 ((s.size : Nat) : Int)) (.int .i64 (1)) (.int .i64 (((s.size : Nat) : Int) - 1)) (subS s hs _ _ _) ?_
  refine wl_b .lss 3 (.tmp 7) (.tmp 10) (.int .i64 ((k : Nat) : Int)) (.int .i64 (((s.size : Nat) : Int) - 1)) (.bool false) (ltS (by omega) hf20 _ _ _) ?_
  refine w_nil (xn_then (w_condF rfl (w_exit (xx_then (xx_then ?_)))))
  rw [du_end hf20p, List.append_nil] at hdu
  subst hdu
  refine xx_blk (xn_then (w_seq (w_seq ?_)))
  cases hf21 : decide (qt (du s 1) = by8 s) with
  | true =>
   have hf21p := of_decide_eq_true hf21
   refine w_reg ?_
   refine wl_mv (.tmp 4) (v) (fun _ => rfl) e4 rfl ?_
   refine wl_un (fun v => convert 62 9 v) (.tmp 67) (v) (.string ⟨(du s 1).toArray⟩) (fun _ => rfl) rfl (str_own hown) rfl ?_
   refine wl_call 23 [(.tmp 68)] _ [.string ⟨(du s 1).toArray⟩] (.string ⟨(qt (du s 1)).toArray⟩) rfl rfl (fun _ _ => by kernel_rfl) (hrq _) rfl ?_
   intro w11 hq
   replace hown := OB.mw hown hq
   replace M := M.trans hq
   clear hq
   refine wl_mv (.tmp 0) (.string s) (fun _ => rfl) e0 rfl ?_
   refine wl_b .neq 9 (.tmp 69) (.tmp 70) (.string ⟨(qt (du s 1)).toArray⟩) (.string s) (.bool false) (ne9q (a := ⟨(qt (du s 1)).toArray⟩) hf21 _ _ _) ?_
   refine w_nil (xn_then (w_condF rfl (w_skip (xn_then (w_seq (w_reg ?_))))))
   refine wl_mv (.tmp 4) (v) (fun _ => rfl) e4 rfl ?_
   refine wl_un (fun v => convert 62 9 v) (.tmp 72) (v) (.string ⟨(du s 1).toArray⟩) (fun _ => rfl) rfl (str_own hown) rfl ?_
   refine wl_m (.tmp 73) (.string ⟨(du s 1).toArray⟩) ?_
   refine wl_m (.const (.bool true)) (.bool true) ?_
   refine w_nil (xn_then (w_ret ?_))
   exact w_ret2 _ _ (.string ⟨(du s 1).toArray⟩) (.bool true) rfl rfl rfl ⟨by rw [unq_du, if_pos hf21p], M⟩
  | false =>
   have hf21p := of_decide_eq_false hf21
   refine w_reg ?_
   refine wl_mv (.tmp 4) (v) (fun _ => rfl) e4 rfl ?_
   refine wl_un (fun v => convert 62 9 v) (.tmp 67) (v) (.string ⟨(du s 1).toArray⟩) (fun _ => rfl) rfl (str_own hown) rfl ?_
   refine wl_call 23 [(.tmp 68)] _ [.string ⟨(du s 1).toArray⟩] (.string ⟨(qt (du s 1)).toArray⟩) rfl rfl (fun _ _ => by kernel_rfl) (hrq _) rfl ?_
   intro w11 hq
   replace hown := OB.mw hown hq
   replace M := M.trans hq
   clear hq
   refine wl_mv (.tmp 0) (.string s) (fun _ => rfl) e0 rfl ?_
   refine wl_b .neq 9 (.tmp 69) (.tmp 70) (.string ⟨(qt (du s 1)).toArray⟩) (.string s) (.bool true) (ne9q (a := ⟨(qt (du s 1)).toArray⟩) hf21 _ _ _) ?_
   refine w_nil (xn_then (w_condT rfl (w_seq (w_reg ?_))))
   refine wl_m (.const (.string ⟨#[]⟩)) (.string ⟨#[]⟩) ?_
   refine wl_m (.const (.bool false)) (.bool false) ?_
   refine w_nil (xn_then (w_ret (xr_then ?_)))
   exact w_ret2 _ _ (.string ⟨#[]⟩) (.bool false) rfl rfl rfl ⟨by rw [unq_du, if_neg hf21p], M⟩
end Go.Proofs.YthgknegocfhdbaaDoor.V
/-
 exciseref03.Prefix: the longest beginning that is a decimal text.
-/
namespace Go.Proofs.YthgknegocfhdbaaDoor
open Go.RowKit
def gx (s : ByteArray) (p i best : Nat) (o q : Bool) : Nat :=
 if _h : i < s.size then
  if (bt s i == 46) && !q && decide (p < i) then gx s p (i + 1) best o true
  else if !dgt (bt s i) || (!q && decide (p < i) && (bt s p == 48)) then best
  else gx s p (i + 1) (if (o || !(bt s i == 48)) || decide (p = 0) then i + 1 else best) (o || !(bt s i == 48)) q
 else best
termination_by s.size - i
theorem gx_out {s : ByteArray} {p i best : Nat} {o q : Bool} (h : ¬ i < s.size) : gx s p i best o q = best := by rw [gx, dif_neg h]
theorem gx_in {s : ByteArray} {p i best : Nat} {o q : Bool} (h : i < s.size) : gx s p i best o q = if (bt s i == 46) && !q && decide (p < i) then gx s p (i + 1) best o true
  else if !dgt (bt s i) || (!q && decide (p < i) && (bt s p == 48)) then best
  else gx s p (i + 1) (if (o || !(bt s i == 48)) || decide (p = 0) then i + 1 else best) (o || !(bt s i == 48)) q := by rw [gx, dif_pos h]
theorem gx_a (s : ByteArray) (p i best : Nat) (o : Bool) : gx s p i best o true = if dgt (bt s i) then (if o || !az s i || decide (p = 0) then re s i else best) else best := by
 by_cases h : i < s.size
 ·rw [gx_in h]
  by_cases hd : dgt (bt s i) = true
  ·simp only [Bool.not_true, Bool.and_false, Bool.false_and, Bool.false_eq_true, if_false, hd, Bool.or_self, if_true]
   rw [gx_a s p (i + 1), re_on hd, az_on hd]
   by_cases hd2 : dgt (bt s (i + 1)) = true
   ·rw [if_pos hd2]
    cases o <;> cases (bt s i == 48) <;> cases az s (i + 1) <;> cases decide (p = 0) <;> rfl
   ·have hd2' : dgt (bt s (i + 1)) = false := by simpa using hd2
    rw [if_neg hd2, re_end hd2', az_end hd2', Bool.and_true]
  ·have hd' : dgt (bt s i) = false := by simpa using hd
   rw [hd']; simp
 ·have hd : dgt (bt s i) = false := by rw [bt_out h]; rfl
  rw [gx_out h, hd]; rfl
termination_by s.size - i
theorem gx_b (s : ByteArray) (p i : Nat) (hp : (bt s p == 48) = false) (hi : p < i) : gx s p i i true false = ah s (re s i) false 0 := by
 by_cases h : i < s.size
 ·rw [gx_in h]
  by_cases h46 : bt s i = 46
  ·have hd : dgt (bt s i) = false := by rw [h46]; rfl
   rw [re_end hd, gx_a]
   unfold ah
   rw [h46, decide_eq_true hi]
   simp
  ·have e46 : (bt s i == 46) = false := beq_eq_false_iff_ne.2 h46
   rw [e46, hp]
   by_cases hd : dgt (bt s i) = true
   ·rw [hd]
    simp only [Bool.false_and, Bool.false_eq_true, if_false, Bool.not_true, Bool.and_false, Bool.or_self, Bool.true_or, if_true]
    rw [gx_b s p (i + 1) hp (by omega), re_on hd]
   ·have hd' : dgt (bt s i) = false := by simpa using hd
    rw [hd', re_end hd']
    unfold ah
    rw [e46]
    simp
 ·have hd : dgt (bt s i) = false := by rw [bt_out h]; rfl
  rw [gx_out h, re_end hd]
  unfold ah
  rw [bt_out h]
  simp
termination_by s.size - i
theorem gx_fi (s : ByteArray) (p : Nat) (b : Bool) (hb : b = !decide (p = 0)) : gx s p p 0 false false = fi s p b := by
 unfold fi
 by_cases h : p < s.size
 ·rw [gx_in h]
  simp only [Nat.lt_irrefl, decide_false, Bool.and_false, Bool.false_eq_true, if_false, Bool.false_and, Bool.or_false, Bool.false_or]
  by_cases h48 : bt s p = 48
  ·have hd : dgt (bt s p) = true := by rw [h48]; rfl
   rw [h48]
   simp only [beq_self_eq_true, if_true, Bool.not_true, Bool.false_or, dgt48, Bool.false_eq_true, if_false]
   unfold ah
   by_cases h1 : p + 1 < s.size
   ·rw [gx_in h1]
    by_cases h46 : bt s (p + 1) = 46
    ·rw [h46]
     simp only [beq_self_eq_true, Bool.not_false, Bool.and_self, Nat.lt_succ_self, decide_true, if_true, Bool.true_and]
     rw [gx_a]
     subst hb
     by_cases hp0 : p = 0 <;> cases dgt (bt s (p + 1 + 1)) <;> cases az s (p + 1 + 1) <;> simp [hp0]
    ·have e46 : (bt s (p + 1) == 46) = false := beq_eq_false_iff_ne.2 h46
     rw [e46, h48]
     subst hb
     by_cases hp0 : p = 0 <;> simp [hp0]
   ·rw [gx_out h1, bt_out h1]
    subst hb
    by_cases hp0 : p = 0 <;> simp [hp0]
  ·have e48 : (bt s p == 48) = false := beq_eq_false_iff_ne.2 h48
   rw [e48]
   by_cases hd : dgt (bt s p) = true
   ·rw [hd]
    simp only [Bool.not_true, Bool.false_eq_true, if_false, Bool.not_false, Bool.true_or, if_true]
    rw [gx_b s p (p + 1) e48 (by omega), re_on hd]
   ·have hd' : dgt (bt s p) = false := by simpa using hd
    rw [hd']; simp
 ·rw [gx_out h, bt_out h]
  simp [dgt]
theorem rprefix_n (s : ByteArray) (w : World) (hs : s.size ≤ maxLen) : Calls Tryd.prog 32 #[.string s] w fun e w' => e = .returned (.int .i64 (pfx s : Int)) ∧ Mo w w' := by
 replace hs : s.size ≤ 9223372036854775807 := by unfold maxLen at hs; exact hs
 refine w_enter 76 Tryd.func32 Tryd.ntmps32 rfl rfl ?_
 have M : Mo w w := Mo.refl _
 refine w_seq (w_reg ?_)
 refine wl_m (.const (.int .i64 (0))) (.int .i64 (0)) ?_
 refine w_nil (xn_then (w_seq (w_reg ?_)))
 refine wl_m (.const (.int .i64 (0))) (.int .i64 (0)) ?_
 refine wl_m (.const (.int .i64 (0))) (.int .i64 (0)) ?_
 refine w_nil (xn_then ?_)
 refine w_cut (fun l w1 => ∃ (p : Nat) (b : Bool), look l 0 = .string s ∧ look l 3 = .int .i64 ((0 : Nat) : Int) ∧ look l 4 = .int .i64 (p : Int) ∧ p ≤ s.size ∧ b = (!decide (p = 0)) ∧ pfx s = fi s p b ∧ Mo w w1) ?_ ?_
 ·skip
  clear M
  rintro l wa ⟨p, b, e0, e3, e4, hps, hb, hw0, M⟩
  rw [← gx_fi s p b hb] at hw0
  refine w_seq (w_reg ?_)
  refine wl_m (.const (.bool false)) (.bool false) ?_
  refine wl_m (.const (.bool false)) (.bool false) ?_
  refine w_nil (xn_then (w_seq (w_reg ?_)))
  refine wl_mv (.tmp 4) (.int .i64 ((p : Nat) : Int)) (fun _ => rfl) e4 rfl ?_
  refine wl_m (.tmp 21) (.int .i64 ((p : Nat) : Int)) ?_
  refine w_nil (xn_then (w_seq (w_block ?_)))
  refine w_loop (fun m l w1 => ∃ (i best : Nat) (o q : Bool), m = s.size - i ∧ look l 0 = .string s ∧ look l 3 = .int .i64 (best : Int) ∧ look l 4 = .int .i64 (i : Int) ∧ look l 5 = .bool o ∧ look l 6 = .bool q ∧ look l 7 = .int .i64 (p : Int) ∧ p ≤ i ∧ i ≤ s.size ∧ pfx s = gx s p i best o q ∧ Mo w w1) _ ⟨p, 0, false, false, rfl, e0, e3, e4, rfl, rfl, rfl, Nat.le_refl _, hps, hw0, M⟩ ?_
  clear M
  rintro m l wl ⟨i, best, o, q, rfl, e0, e3, e4, e5, e6, e7, hpi, his, hR, M⟩
  refine w_seq (w_seq ?_)
  cases hf0 : decide (i < s.size) with
  | true =>
   have hf0p := of_decide_eq_true hf0
   refine w_reg ?_
   refine wl_mv (.tmp 4) (.int .i64 ((i : Nat) : Int)) (fun _ => rfl) e4 rfl ?_
   refine wl_mv (.tmp 0) (.string s) (fun _ => rfl) e0 rfl ?_
   refine wl_val (.int .i64 ((s.size : Nat) : Int)) (len_s _ _ s (by exact rfl) _ _ _ _ _ _) rfl ?_
   refine wl_b .lss 3 (.tmp 22) (.tmp 24) (.int .i64 ((i : Nat) : Int)) (.int .i64 ((s.size : Nat) : Int)) (.bool true) (ltN hf0 _ _ _) ?_
   refine w_nil (xn_then (w_condT rfl (w_skip (xn_then (w_seq (w_block (w_seq (w_reg ?_))))))))
   refine wl_mv (.tmp 0) (.string s) (fun _ => rfl) e0 rfl ?_
   refine wl_mv (.tmp 4) (.int .i64 ((i : Nat) : Int)) (fun _ => rfl) e4 rfl ?_
   refine wl_bin (fun x y => Instr.index 9 x y) (.tmp 28) (.tmp 29) (.string s) (.int .i64 ((i : Nat) : Int)) (.int .u8 (bt s (i))) (fun _ => rfl) rfl rfl (idx_b (by omega) _) rfl ?_
   refine wl_m (.tmp 30) (.int .u8 (bt s (i))) ?_
   refine w_nil (xn_then (w_seq (w_block (w_seq ?_))))
   cases hf1 : (bt s (i) == 46) with
   | true =>
    cases q with
    | true =>
     refine w_reg ?_
     refine wl_m (.tmp 8) (.int .u8 (bt s (i))) ?_
     refine wl_b .eql 5 (.tmp 32) (.const (.int .u8 (46))) (.int .u8 (bt s (i))) (.int .u8 (46)) (.bool true) (eq5r hf1 _ _ _) ?_
     refine wl_m (.tmp 33) (.bool true) ?_
     refine wl_mv (.tmp 6) (.bool true) (fun _ => rfl) e6 rfl ?_
     refine wl_un (fun v => Op.unary .not v) (.tmp 35) (.bool true) (.bool false) (fun _ => rfl) rfl (by kernel_rfl) rfl ?_
     refine wl_pick (.tmp 34) (.tmp 36) (.const (.bool false)) true (.bool false) (fun _ => rfl) rfl rfl rfl ?_
     refine wl_m (.tmp 37) (.bool false) ?_
     refine wl_skip rfl (wl_skip rfl (wl_skip rfl ?_))
     refine wl_pick (.tmp 38) (.tmp 41) (.const (.bool false)) false (.bool false) (fun _ => rfl) rfl rfl rfl ?_
     refine wl_m (.tmp 42) (.bool false) ?_
     refine w_nil (xn_then (w_condF rfl (w_seq ?_)))
     cases hf2 : dgt (bt s (i)) with
     | true =>
      refine w_reg ?_
      refine wl_m (.tmp 8) (.int .u8 (bt s (i))) ?_
      refine wl_call 49 [(.tmp 44)] _ [.int .u8 (bt s (i))] (.bool true) rfl rfl (fun _ _ => by kernel_rfl) (digit_c hf2 _) rfl ?_
      intro w21 hq
      replace M := M.trans hq
      clear hq
      refine wl_un (fun v => Op.unary .not v) (.tmp 45) (.bool true) (.bool false) (fun _ => rfl) rfl (by kernel_rfl) rfl ?_
      refine wl_m (.tmp 46) (.bool false) ?_
      refine wl_mv (.tmp 6) (.bool true) (fun _ => rfl) e6 rfl ?_
      refine wl_un (fun v => Op.unary .not v) (.tmp 48) (.bool true) (.bool false) (fun _ => rfl) rfl (by kernel_rfl) rfl ?_
      refine wl_m (.tmp 49) (.bool false) ?_
      refine wl_skip rfl (wl_skip rfl (wl_skip rfl ?_))
      refine wl_pick (.tmp 50) (.tmp 53) (.const (.bool false)) false (.bool false) (fun _ => rfl) rfl rfl rfl ?_
      refine wl_m (.tmp 54) (.bool false) ?_
      refine wl_skip rfl (wl_skip rfl (wl_skip rfl (wl_skip rfl ?_)))
      refine wl_pick (.tmp 55) (.tmp 59) (.const (.bool false)) false (.bool false) (fun _ => rfl) rfl rfl rfl ?_
      refine wl_pick (.tmp 47) (.const (.bool true)) (.tmp 60) false (.bool false) (fun _ => rfl) rfl rfl rfl ?_
      refine wl_m (.tmp 61) (.bool false) ?_
      refine w_nil (xn_then (w_condF rfl (w_skip (xn_blk (xn_then (w_seq ?_))))))
      cases o with
      | true =>
       refine w_reg ?_
       refine wl_mv (.tmp 5) (.bool true) (fun _ => rfl) e5 rfl ?_
       refine wl_m (.tmp 63) (.bool true) ?_
       refine wl_skip rfl (wl_skip rfl ?_)
       refine wl_pick (.tmp 64) (.const (.bool true)) (.tmp 66) true (.bool true) (fun _ => rfl) rfl rfl rfl ?_
       refine wl_m (.tmp 67) (.bool true) ?_
       refine w_nil (xn_then (w_seq (w_reg ?_)))
       refine wl_m (.tmp 5) (.bool true) ?_
       refine wl_m (.tmp 68) (.bool true) ?_
       refine wl_skip rfl (wl_skip rfl ?_)
       refine wl_pick (.tmp 69) (.const (.bool true)) (.tmp 71) true (.bool true) (fun _ => rfl) rfl rfl rfl ?_
       refine w_nil (xn_then (w_condT rfl (w_reg ?_)))
       refine wl_mv (.tmp 4) (.int .i64 ((i : Nat) : Int)) (fun _ => rfl) e4 rfl ?_
       refine wl_b .add 3 (.tmp 73) (.const (.int .i64 (1))) (.int .i64 ((i : Nat) : Int)) (.int .i64 (1)) (.int .i64 ((i + 1 : Nat) : Int)) (add1r (k := i) (by omega) _ _ _) ?_
       refine wl_m (.tmp 74) (.int .i64 ((i + 1 : Nat) : Int)) ?_
       refine w_nil (xn_blk (xn_then (w_reg ?_)))
       refine wl_mv (.tmp 4) (.int .i64 ((i : Nat) : Int)) (fun _ => rfl) e4 rfl ?_
       refine wl_b .add 3 (.tmp 26) (.const (.int .i64 (1))) (.int .i64 ((i : Nat) : Int)) (.int .i64 (1)) (.int .i64 ((i + 1 : Nat) : Int)) (add1r (k := i) (by omega) _ _ _) ?_
       refine wl_m (.tmp 27) (.int .i64 ((i + 1 : Nat) : Int)) ?_
       refine w_nil ?_
       exact xn_loop (s.size - (i + 1)) (by omega) ⟨i + 1, i + 1, true, true, rfl, e0, rfl, rfl, rfl, e6, e7, by omega, by omega, by rw [hR, gx_in (of_decide_eq_true hf0)]; simp [hf1, hf2], M⟩
      | false =>
       cases hf3 : (bt s (i) == 48) with
       | true =>
        refine w_reg ?_
        refine wl_mv (.tmp 5) (.bool false) (fun _ => rfl) e5 rfl ?_
        refine wl_m (.tmp 63) (.bool false) ?_
        refine wl_m (.tmp 8) (.int .u8 (bt s (i))) ?_
        refine wl_b .neq 5 (.tmp 65) (.const (.int .u8 (48))) (.int .u8 (bt s (i))) (.int .u8 (48)) (.bool false) (ne5r hf3 _ _ _) ?_
        refine wl_pick (.tmp 64) (.const (.bool true)) (.tmp 66) false (.bool false) (fun _ => rfl) rfl rfl rfl ?_
        refine wl_m (.tmp 67) (.bool false) ?_
        refine w_nil (xn_then (w_seq ?_))
        cases hf4 : decide (p = 0) with
        | true =>
         have hf4p := of_decide_eq_true hf4
         refine w_reg ?_
         refine wl_m (.tmp 5) (.bool false) ?_
         refine wl_m (.tmp 68) (.bool false) ?_
         refine wl_mv (.tmp 7) (.int .i64 ((p : Nat) : Int)) (fun _ => rfl) e7 rfl ?_
         refine wl_b .eql 3 (.tmp 70) (.const (.int .i64 (0))) (.int .i64 ((p : Nat) : Int)) (.int .i64 (0)) (.bool true) (eqN hf4 _ _ _) ?_
         refine wl_pick (.tmp 69) (.const (.bool true)) (.tmp 71) false (.bool true) (fun _ => rfl) rfl rfl rfl ?_
         refine w_nil (xn_then (w_condT rfl (w_reg ?_)))
         refine wl_mv (.tmp 4) (.int .i64 ((i : Nat) : Int)) (fun _ => rfl) e4 rfl ?_
         refine wl_b .add 3 (.tmp 73) (.const (.int .i64 (1))) (.int .i64 ((i : Nat) : Int)) (.int .i64 (1)) (.int .i64 ((i + 1 : Nat) : Int)) (add1r (k := i) (by omega) _ _ _) ?_
         refine wl_m (.tmp 74) (.int .i64 ((i + 1 : Nat) : Int)) ?_
         refine w_nil (xn_blk (xn_then (w_reg ?_)))
         refine wl_mv (.tmp 4) (.int .i64 ((i : Nat) : Int)) (fun _ => rfl) e4 rfl ?_
         refine wl_b .add 3 (.tmp 26) (.const (.int .i64 (1))) (.int .i64 ((i : Nat) : Int)) (.int .i64 (1)) (.int .i64 ((i + 1 : Nat) : Int)) (add1r (k := i) (by omega) _ _ _) ?_
         refine wl_m (.tmp 27) (.int .i64 ((i + 1 : Nat) : Int)) ?_
         refine w_nil ?_
         exact xn_loop (s.size - (i + 1)) (by omega) ⟨i + 1, i + 1, false, true, rfl, e0, rfl, rfl, rfl, e6, e7, by omega, by omega, by rw [hR, gx_in (of_decide_eq_true hf0)]; simp [hf1, hf2, hf3, hf4], M⟩
        | false =>
         have hf4p := of_decide_eq_false hf4
         refine w_reg ?_
         refine wl_m (.tmp 5) (.bool false) ?_
         refine wl_m (.tmp 68) (.bool false) ?_
         refine wl_mv (.tmp 7) (.int .i64 ((p : Nat) : Int)) (fun _ => rfl) e7 rfl ?_
         refine wl_b .eql 3 (.tmp 70) (.const (.int .i64 (0))) (.int .i64 ((p : Nat) : Int)) (.int .i64 (0)) (.bool false) (eqN hf4 _ _ _) ?_
         refine wl_pick (.tmp 69) (.const (.bool true)) (.tmp 71) false (.bool false) (fun _ => rfl) rfl rfl rfl ?_
         refine w_nil (xn_then (w_condF rfl (w_skip (xn_blk (xn_then (w_reg ?_))))))
         refine wl_mv (.tmp 4) (.int .i64 ((i : Nat) : Int)) (fun _ => rfl) e4 rfl ?_
         refine wl_b .add 3 (.tmp 26) (.const (.int .i64 (1))) (.int .i64 ((i : Nat) : Int)) (.int .i64 (1)) (.int .i64 ((i + 1 : Nat) : Int)) (add1r (k := i) (by omega) _ _ _) ?_
         refine wl_m (.tmp 27) (.int .i64 ((i + 1 : Nat) : Int)) ?_
         refine w_nil ?_
         exact xn_loop (s.size - (i + 1)) (by omega) ⟨i + 1, best, false, true, rfl, e0, e3, rfl, rfl, e6, e7, by omega, by omega, by rw [hR, gx_in (of_decide_eq_true hf0)]; simp [hf1, hf2, hf3, hf4], M⟩
       | false =>
        refine w_reg ?_
        refine wl_mv (.tmp 5) (.bool false) (fun _ => rfl) e5 rfl ?_
        refine wl_m (.tmp 63) (.bool false) ?_
        refine wl_m (.tmp 8) (.int .u8 (bt s (i))) ?_
        refine wl_b .neq 5 (.tmp 65) (.const (.int .u8 (48))) (.int .u8 (bt s (i))) (.int .u8 (48)) (.bool true) (ne5r hf3 _ _ _) ?_
        refine wl_pick (.tmp 64) (.const (.bool true)) (.tmp 66) false (.bool true) (fun _ => rfl) rfl rfl rfl ?_
        refine wl_m (.tmp 67) (.bool true) ?_
        refine w_nil (xn_then (w_seq (w_reg ?_)))
        refine wl_m (.tmp 5) (.bool true) ?_
        refine wl_m (.tmp 68) (.bool true) ?_
        refine wl_skip rfl (wl_skip rfl ?_)
        refine wl_pick (.tmp 69) (.const (.bool true)) (.tmp 71) true (.bool true) (fun _ => rfl) rfl rfl rfl ?_
        refine w_nil (xn_then (w_condT rfl (w_reg ?_)))
        refine wl_mv (.tmp 4) (.int .i64 ((i : Nat) : Int)) (fun _ => rfl) e4 rfl ?_
        refine wl_b .add 3 (.tmp 73) (.const (.int .i64 (1))) (.int .i64 ((i : Nat) : Int)) (.int .i64 (1)) (.int .i64 ((i + 1 : Nat) : Int)) (add1r (k := i) (by omega) _ _ _) ?_
        refine wl_m (.tmp 74) (.int .i64 ((i + 1 : Nat) : Int)) ?_
        refine w_nil (xn_blk (xn_then (w_reg ?_)))
        refine wl_mv (.tmp 4) (.int .i64 ((i : Nat) : Int)) (fun _ => rfl) e4 rfl ?_
        refine wl_b .add 3 (.tmp 26) (.const (.int .i64 (1))) (.int .i64 ((i : Nat) : Int)) (.int .i64 (1)) (.int .i64 ((i + 1 : Nat) : Int)) (add1r (k := i) (by omega) _ _ _) ?_
        refine wl_m (.tmp 27) (.int .i64 ((i + 1 : Nat) : Int)) ?_
        refine w_nil ?_
        exact xn_loop (s.size - (i + 1)) (by omega) ⟨i + 1, i + 1, true, true, rfl, e0, rfl, rfl, rfl, e6, e7, by omega, by omega, by rw [hR, gx_in (of_decide_eq_true hf0)]; simp [hf1, hf2, hf3], M⟩
     | false =>
      refine w_reg ?_
      refine wl_m (.tmp 8) (.int .u8 (bt s (i))) ?_
      refine wl_call 49 [(.tmp 44)] _ [.int .u8 (bt s (i))] (.bool false) rfl rfl (fun _ _ => by kernel_rfl) (digit_c hf2 _) rfl ?_
      intro w21 hq
      replace M := M.trans hq
      clear hq
      refine wl_un (fun v => Op.unary .not v) (.tmp 45) (.bool false) (.bool true) (fun _ => rfl) rfl (by kernel_rfl) rfl ?_
      refine wl_m (.tmp 46) (.bool true) ?_
      refine wl_skip rfl (wl_skip rfl (wl_skip rfl (wl_skip rfl (wl_skip rfl (wl_skip rfl (wl_skip rfl (wl_skip rfl (wl_skip rfl (wl_skip rfl (wl_skip rfl (wl_skip rfl (wl_skip rfl ?_))))))))))))
      refine wl_pick (.tmp 47) (.const (.bool true)) (.tmp 60) true (.bool true) (fun _ => rfl) rfl rfl rfl ?_
      refine wl_m (.tmp 61) (.bool true) ?_
      refine w_nil (xn_then (w_condT rfl (w_seq (w_reg ?_))))
      refine wl_mv (.tmp 3) (.int .i64 ((best : Nat) : Int)) (fun _ => rfl) e3 rfl ?_
      refine wl_m (.tmp 62) (.int .i64 ((best : Nat) : Int)) ?_
      refine w_nil (xn_then (w_ret (xr_blk (xr_then (xr_blk (xr_then (xr_then (xr_blk (xr_then ?_)))))))))
      have hfin : pfx s = best := by rw [hR, gx_in (of_decide_eq_true hf0)]; simp [hf1, hf2]
      exact w_ret1 _ (.int .i64 ((best : Nat) : Int)) rfl rfl ⟨by rw [hfin], M⟩
    | false =>
     cases hf2 : decide (p < i) with
     | true =>
      have hf2p := of_decide_eq_true hf2
      refine w_reg ?_
      refine wl_m (.tmp 8) (.int .u8 (bt s (i))) ?_
      refine wl_b .eql 5 (.tmp 32) (.const (.int .u8 (46))) (.int .u8 (bt s (i))) (.int .u8 (46)) (.bool true) (eq5r hf1 _ _ _) ?_
      refine wl_m (.tmp 33) (.bool true) ?_
      refine wl_mv (.tmp 6) (.bool false) (fun _ => rfl) e6 rfl ?_
      refine wl_un (fun v => Op.unary .not v) (.tmp 35) (.bool false) (.bool true) (fun _ => rfl) rfl (by kernel_rfl) rfl ?_
      refine wl_pick (.tmp 34) (.tmp 36) (.const (.bool false)) true (.bool true) (fun _ => rfl) rfl rfl rfl ?_
      refine wl_m (.tmp 37) (.bool true) ?_
      refine wl_mv (.tmp 4) (.int .i64 ((i : Nat) : Int)) (fun _ => rfl) e4 rfl ?_
      refine wl_mv (.tmp 7) (.int .i64 ((p : Nat) : Int)) (fun _ => rfl) e7 rfl ?_
      refine wl_b .gtr 3 (.tmp 39) (.tmp 40) (.int .i64 ((i : Nat) : Int)) (.int .i64 ((p : Nat) : Int)) (.bool true) (gtN hf2 _ _ _) ?_
      refine wl_pick (.tmp 38) (.tmp 41) (.const (.bool false)) true (.bool true) (fun _ => rfl) rfl rfl rfl ?_
      refine wl_m (.tmp 42) (.bool true) ?_
      refine w_nil (xn_then (w_condT rfl (w_seq (w_reg ?_))))
      refine wl_m (.const (.bool true)) (.bool true) ?_
      refine w_nil (xn_then (w_exit (xx_out rfl (xx_then (xx_blk (xn_then (w_reg ?_)))))))
      refine wl_mv (.tmp 4) (.int .i64 ((i : Nat) : Int)) (fun _ => rfl) e4 rfl ?_
      refine wl_b .add 3 (.tmp 26) (.const (.int .i64 (1))) (.int .i64 ((i : Nat) : Int)) (.int .i64 (1)) (.int .i64 ((i + 1 : Nat) : Int)) (add1r (k := i) (by omega) _ _ _) ?_
      refine wl_m (.tmp 27) (.int .i64 ((i + 1 : Nat) : Int)) ?_
      refine w_nil ?_
      exact xn_loop (s.size - (i + 1)) (by omega) ⟨i + 1, best, o, true, rfl, e0, e3, rfl, e5, rfl, e7, by omega, by omega, by rw [hR, gx_in (of_decide_eq_true hf0)]; simp [hf1, hf2p], M⟩
     | false =>
      have hf2p := of_decide_eq_false hf2
      refine w_reg ?_
      refine wl_m (.tmp 8) (.int .u8 (bt s (i))) ?_
      refine wl_b .eql 5 (.tmp 32) (.const (.int .u8 (46))) (.int .u8 (bt s (i))) (.int .u8 (46)) (.bool true) (eq5r hf1 _ _ _) ?_
      refine wl_m (.tmp 33) (.bool true) ?_
      refine wl_mv (.tmp 6) (.bool false) (fun _ => rfl) e6 rfl ?_
      refine wl_un (fun v => Op.unary .not v) (.tmp 35) (.bool false) (.bool true) (fun _ => rfl) rfl (by kernel_rfl) rfl ?_
      refine wl_pick (.tmp 34) (.tmp 36) (.const (.bool false)) true (.bool true) (fun _ => rfl) rfl rfl rfl ?_
      refine wl_m (.tmp 37) (.bool true) ?_
      refine wl_mv (.tmp 4) (.int .i64 ((i : Nat) : Int)) (fun _ => rfl) e4 rfl ?_
      refine wl_mv (.tmp 7) (.int .i64 ((p : Nat) : Int)) (fun _ => rfl) e7 rfl ?_
      refine wl_b .gtr 3 (.tmp 39) (.tmp 40) (.int .i64 ((i : Nat) : Int)) (.int .i64 ((p : Nat) : Int)) (.bool false) (gtN hf2 _ _ _) ?_
      refine wl_pick (.tmp 38) (.tmp 41) (.const (.bool false)) true (.bool false) (fun _ => rfl) rfl rfl rfl ?_
      refine wl_m (.tmp 42) (.bool false) ?_
      refine w_nil (xn_then (w_condF rfl (w_seq ?_)))
      cases hf3 : dgt (bt s (i)) with
      | true =>
       refine w_reg ?_
       refine wl_m (.tmp 8) (.int .u8 (bt s (i))) ?_
       refine wl_call 49 [(.tmp 44)] _ [.int .u8 (bt s (i))] (.bool true) rfl rfl (fun _ _ => by kernel_rfl) (digit_c hf3 _) rfl ?_
       intro w21 hq
       replace M := M.trans hq
       clear hq
       refine wl_un (fun v => Op.unary .not v) (.tmp 45) (.bool true) (.bool false) (fun _ => rfl) rfl (by kernel_rfl) rfl ?_
       refine wl_m (.tmp 46) (.bool false) ?_
       refine wl_mv (.tmp 6) (.bool false) (fun _ => rfl) e6 rfl ?_
       refine wl_un (fun v => Op.unary .not v) (.tmp 48) (.bool false) (.bool true) (fun _ => rfl) rfl (by kernel_rfl) rfl ?_
       refine wl_m (.tmp 49) (.bool true) ?_
       refine wl_mv (.tmp 4) (.int .i64 ((i : Nat) : Int)) (fun _ => rfl) e4 rfl ?_
       refine wl_mv (.tmp 7) (.int .i64 ((p : Nat) : Int)) (fun _ => rfl) e7 rfl ?_
       refine wl_b .gtr 3 (.tmp 51) (.tmp 52) (.int .i64 ((i : Nat) : Int)) (.int .i64 ((p : Nat) : Int)) (.bool false) (gtN hf2 _ _ _) ?_
       refine wl_pick (.tmp 50) (.tmp 53) (.const (.bool false)) true (.bool false) (fun _ => rfl) rfl rfl rfl ?_
       refine wl_m (.tmp 54) (.bool false) ?_
       refine wl_skip rfl (wl_skip rfl (wl_skip rfl (wl_skip rfl ?_)))
       refine wl_pick (.tmp 55) (.tmp 59) (.const (.bool false)) false (.bool false) (fun _ => rfl) rfl rfl rfl ?_
       refine wl_pick (.tmp 47) (.const (.bool true)) (.tmp 60) false (.bool false) (fun _ => rfl) rfl rfl rfl ?_
       refine wl_m (.tmp 61) (.bool false) ?_
       refine w_nil (xn_then (w_condF rfl (w_skip (xn_blk (xn_then (w_seq ?_))))))
       cases o with
       | true =>
        refine w_reg ?_
        refine wl_mv (.tmp 5) (.bool true) (fun _ => rfl) e5 rfl ?_
        refine wl_m (.tmp 63) (.bool true) ?_
        refine wl_skip rfl (wl_skip rfl ?_)
        refine wl_pick (.tmp 64) (.const (.bool true)) (.tmp 66) true (.bool true) (fun _ => rfl) rfl rfl rfl ?_
        refine wl_m (.tmp 67) (.bool true) ?_
        refine w_nil (xn_then (w_seq (w_reg ?_)))
        refine wl_m (.tmp 5) (.bool true) ?_
        refine wl_m (.tmp 68) (.bool true) ?_
        refine wl_skip rfl (wl_skip rfl ?_)
        refine wl_pick (.tmp 69) (.const (.bool true)) (.tmp 71) true (.bool true) (fun _ => rfl) rfl rfl rfl ?_
        refine w_nil (xn_then (w_condT rfl (w_reg ?_)))
        refine wl_mv (.tmp 4) (.int .i64 ((i : Nat) : Int)) (fun _ => rfl) e4 rfl ?_
        refine wl_b .add 3 (.tmp 73) (.const (.int .i64 (1))) (.int .i64 ((i : Nat) : Int)) (.int .i64 (1)) (.int .i64 ((i + 1 : Nat) : Int)) (add1r (k := i) (by omega) _ _ _) ?_
        refine wl_m (.tmp 74) (.int .i64 ((i + 1 : Nat) : Int)) ?_
        refine w_nil (xn_blk (xn_then (w_reg ?_)))
        refine wl_mv (.tmp 4) (.int .i64 ((i : Nat) : Int)) (fun _ => rfl) e4 rfl ?_
        refine wl_b .add 3 (.tmp 26) (.const (.int .i64 (1))) (.int .i64 ((i : Nat) : Int)) (.int .i64 (1)) (.int .i64 ((i + 1 : Nat) : Int)) (add1r (k := i) (by omega) _ _ _) ?_
        refine wl_m (.tmp 27) (.int .i64 ((i + 1 : Nat) : Int)) ?_
        refine w_nil ?_
        exact xn_loop (s.size - (i + 1)) (by omega) ⟨i + 1, i + 1, true, false, rfl, e0, rfl, rfl, rfl, e6, e7, by omega, by omega, by rw [hR, gx_in (of_decide_eq_true hf0)]; simp [hf1, hf2p, hf3], M⟩
       | false =>
        cases hf4 : (bt s (i) == 48) with
        | true =>
         refine w_reg ?_
         refine wl_mv (.tmp 5) (.bool false) (fun _ => rfl) e5 rfl ?_
         refine wl_m (.tmp 63) (.bool false) ?_
         refine wl_m (.tmp 8) (.int .u8 (bt s (i))) ?_
         refine wl_b .neq 5 (.tmp 65) (.const (.int .u8 (48))) (.int .u8 (bt s (i))) (.int .u8 (48)) (.bool false) (ne5r hf4 _ _ _) ?_
         refine wl_pick (.tmp 64) (.const (.bool true)) (.tmp 66) false (.bool false) (fun _ => rfl) rfl rfl rfl ?_
         refine wl_m (.tmp 67) (.bool false) ?_
         refine w_nil (xn_then (w_seq ?_))
         cases hf5 : decide (p = 0) with
         | true =>
          have hf5p := of_decide_eq_true hf5
          refine w_reg ?_
          refine wl_m (.tmp 5) (.bool false) ?_
          refine wl_m (.tmp 68) (.bool false) ?_
          refine wl_mv (.tmp 7) (.int .i64 ((p : Nat) : Int)) (fun _ => rfl) e7 rfl ?_
          refine wl_b .eql 3 (.tmp 70) (.const (.int .i64 (0))) (.int .i64 ((p : Nat) : Int)) (.int .i64 (0)) (.bool true) (eqN hf5 _ _ _) ?_
          refine wl_pick (.tmp 69) (.const (.bool true)) (.tmp 71) false (.bool true) (fun _ => rfl) rfl rfl rfl ?_
          refine w_nil (xn_then (w_condT rfl (w_reg ?_)))
          refine wl_mv (.tmp 4) (.int .i64 ((i : Nat) : Int)) (fun _ => rfl) e4 rfl ?_
          refine wl_b .add 3 (.tmp 73) (.const (.int .i64 (1))) (.int .i64 ((i : Nat) : Int)) (.int .i64 (1)) (.int .i64 ((i + 1 : Nat) : Int)) (add1r (k := i) (by omega) _ _ _) ?_
          refine wl_m (.tmp 74) (.int .i64 ((i + 1 : Nat) : Int)) ?_
          refine w_nil (xn_blk (xn_then (w_reg ?_)))
          refine wl_mv (.tmp 4) (.int .i64 ((i : Nat) : Int)) (fun _ => rfl) e4 rfl ?_
          refine wl_b .add 3 (.tmp 26) (.const (.int .i64 (1))) (.int .i64 ((i : Nat) : Int)) (.int .i64 (1)) (.int .i64 ((i + 1 : Nat) : Int)) (add1r (k := i) (by omega) _ _ _) ?_
          refine wl_m (.tmp 27) (.int .i64 ((i + 1 : Nat) : Int)) ?_
          refine w_nil ?_
          exact xn_loop (s.size - (i + 1)) (by omega) ⟨i + 1, i + 1, false, false, rfl, e0, rfl, rfl, rfl, e6, e7, by omega, by omega, by rw [hR, gx_in (of_decide_eq_true hf0)]; simp [hf1, hf2p, hf3, hf4, hf5], M⟩
         | false =>
          have hf5p := of_decide_eq_false hf5
          refine w_reg ?_
          refine wl_m (.tmp 5) (.bool false) ?_
          refine wl_m (.tmp 68) (.bool false) ?_
          refine wl_mv (.tmp 7) (.int .i64 ((p : Nat) : Int)) (fun _ => rfl) e7 rfl ?_
          refine wl_b .eql 3 (.tmp 70) (.const (.int .i64 (0))) (.int .i64 ((p : Nat) : Int)) (.int .i64 (0)) (.bool false) (eqN hf5 _ _ _) ?_
          refine wl_pick (.tmp 69) (.const (.bool true)) (.tmp 71) false (.bool false) (fun _ => rfl) rfl rfl rfl ?_
          refine w_nil (xn_then (w_condF rfl (w_skip (xn_blk (xn_then (w_reg ?_))))))
          refine wl_mv (.tmp 4) (.int .i64 ((i : Nat) : Int)) (fun _ => rfl) e4 rfl ?_
          refine wl_b .add 3 (.tmp 26) (.const (.int .i64 (1))) (.int .i64 ((i : Nat) : Int)) (.int .i64 (1)) (.int .i64 ((i + 1 : Nat) : Int)) (add1r (k := i) (by omega) _ _ _) ?_
          refine wl_m (.tmp 27) (.int .i64 ((i + 1 : Nat) : Int)) ?_
          refine w_nil ?_
          exact xn_loop (s.size - (i + 1)) (by omega) ⟨i + 1, best, false, false, rfl, e0, e3, rfl, rfl, e6, e7, by omega, by omega, by rw [hR, gx_in (of_decide_eq_true hf0)]; simp [hf1, hf2p, hf3, hf4, hf5], M⟩
        | false =>
         refine w_reg ?_
         refine wl_mv (.tmp 5) (.bool false) (fun _ => rfl) e5 rfl ?_
         refine wl_m (.tmp 63) (.bool false) ?_
         refine wl_m (.tmp 8) (.int .u8 (bt s (i))) ?_
         refine wl_b .neq 5 (.tmp 65) (.const (.int .u8 (48))) (.int .u8 (bt s (i))) (.int .u8 (48)) (.bool true) (ne5r hf4 _ _ _) ?_
         refine wl_pick (.tmp 64) (.const (.bool true)) (.tmp 66) false (.bool true) (fun _ => rfl) rfl rfl rfl ?_
         refine wl_m (.tmp 67) (.bool true) ?_
         refine w_nil (xn_then (w_seq (w_reg ?_)))
         refine wl_m (.tmp 5) (.bool true) ?_
         refine wl_m (.tmp 68) (.bool true) ?_
         refine wl_skip rfl (wl_skip rfl ?_)
         refine wl_pick (.tmp 69) (.const (.bool true)) (.tmp 71) true (.bool true) (fun _ => rfl) rfl rfl rfl ?_
         refine w_nil (xn_then (w_condT rfl (w_reg ?_)))
         refine wl_mv (.tmp 4) (.int .i64 ((i : Nat) : Int)) (fun _ => rfl) e4 rfl ?_
         refine wl_b .add 3 (.tmp 73) (.const (.int .i64 (1))) (.int .i64 ((i : Nat) : Int)) (.int .i64 (1)) (.int .i64 ((i + 1 : Nat) : Int)) (add1r (k := i) (by omega) _ _ _) ?_
         refine wl_m (.tmp 74) (.int .i64 ((i + 1 : Nat) : Int)) ?_
         refine w_nil (xn_blk (xn_then (w_reg ?_)))
         refine wl_mv (.tmp 4) (.int .i64 ((i : Nat) : Int)) (fun _ => rfl) e4 rfl ?_
         refine wl_b .add 3 (.tmp 26) (.const (.int .i64 (1))) (.int .i64 ((i : Nat) : Int)) (.int .i64 (1)) (.int .i64 ((i + 1 : Nat) : Int)) (add1r (k := i) (by omega) _ _ _) ?_
         refine wl_m (.tmp 27) (.int .i64 ((i + 1 : Nat) : Int)) ?_
         refine w_nil ?_
         exact xn_loop (s.size - (i + 1)) (by omega) ⟨i + 1, i + 1, true, false, rfl, e0, rfl, rfl, rfl, e6, e7, by omega, by omega, by rw [hR, gx_in (of_decide_eq_true hf0)]; simp [hf1, hf2p, hf3, hf4], M⟩
      | false =>
       refine w_reg ?_
       refine wl_m (.tmp 8) (.int .u8 (bt s (i))) ?_
       refine wl_call 49 [(.tmp 44)] _ [.int .u8 (bt s (i))] (.bool false) rfl rfl (fun _ _ => by kernel_rfl) (digit_c hf3 _) rfl ?_
       intro w21 hq
       replace M := M.trans hq
       clear hq
       refine wl_un (fun v => Op.unary .not v) (.tmp 45) (.bool false) (.bool true) (fun _ => rfl) rfl (by kernel_rfl) rfl ?_
       refine wl_m (.tmp 46) (.bool true) ?_
       refine wl_skip rfl (wl_skip rfl (wl_skip rfl (wl_skip rfl (wl_skip rfl (wl_skip rfl (wl_skip rfl (wl_skip rfl (wl_skip rfl (wl_skip rfl (wl_skip rfl (wl_skip rfl (wl_skip rfl ?_))))))))))))
       refine wl_pick (.tmp 47) (.const (.bool true)) (.tmp 60) true (.bool true) (fun _ => rfl) rfl rfl rfl ?_
       refine wl_m (.tmp 61) (.bool true) ?_
       refine w_nil (xn_then (w_condT rfl (w_seq (w_reg ?_))))
       refine wl_mv (.tmp 3) (.int .i64 ((best : Nat) : Int)) (fun _ => rfl) e3 rfl ?_
       refine wl_m (.tmp 62) (.int .i64 ((best : Nat) : Int)) ?_
       refine w_nil (xn_then (w_ret (xr_blk (xr_then (xr_blk (xr_then (xr_then (xr_blk (xr_then ?_)))))))))
       have hfin : pfx s = best := by rw [hR, gx_in (of_decide_eq_true hf0)]; simp [hf1, hf2p, hf3]
       exact w_ret1 _ (.int .i64 ((best : Nat) : Int)) rfl rfl ⟨by rw [hfin], M⟩
   | false =>
    refine w_reg ?_
    refine wl_m (.tmp 8) (.int .u8 (bt s (i))) ?_
    refine wl_b .eql 5 (.tmp 32) (.const (.int .u8 (46))) (.int .u8 (bt s (i))) (.int .u8 (46)) (.bool false) (eq5r hf1 _ _ _) ?_
    refine wl_m (.tmp 33) (.bool false) ?_
    refine wl_skip rfl (wl_skip rfl ?_)
    refine wl_pick (.tmp 34) (.tmp 36) (.const (.bool false)) false (.bool false) (fun _ => rfl) rfl rfl rfl ?_
    refine wl_m (.tmp 37) (.bool false) ?_
    refine wl_skip rfl (wl_skip rfl (wl_skip rfl ?_))
    refine wl_pick (.tmp 38) (.tmp 41) (.const (.bool false)) false (.bool false) (fun _ => rfl) rfl rfl rfl ?_
    refine wl_m (.tmp 42) (.bool false) ?_
    refine w_nil (xn_then (w_condF rfl (w_seq ?_)))
    cases hf2 : dgt (bt s (i)) with
    | true =>
     cases q with
     | true =>
      refine w_reg ?_
      refine wl_m (.tmp 8) (.int .u8 (bt s (i))) ?_
      refine wl_call 49 [(.tmp 44)] _ [.int .u8 (bt s (i))] (.bool true) rfl rfl (fun _ _ => by kernel_rfl) (digit_c hf2 _) rfl ?_
      intro w21 hq
      replace M := M.trans hq
      clear hq
      refine wl_un (fun v => Op.unary .not v) (.tmp 45) (.bool true) (.bool false) (fun _ => rfl) rfl (by kernel_rfl) rfl ?_
      refine wl_m (.tmp 46) (.bool false) ?_
      refine wl_mv (.tmp 6) (.bool true) (fun _ => rfl) e6 rfl ?_
      refine wl_un (fun v => Op.unary .not v) (.tmp 48) (.bool true) (.bool false) (fun _ => rfl) rfl (by kernel_rfl) rfl ?_
      refine wl_m (.tmp 49) (.bool false) ?_
      refine wl_skip rfl (wl_skip rfl (wl_skip rfl ?_))
      refine wl_pick (.tmp 50) (.tmp 53) (.const (.bool false)) false (.bool false) (fun _ => rfl) rfl rfl rfl ?_
      refine wl_m (.tmp 54) (.bool false) ?_
      refine wl_skip rfl (wl_skip rfl (wl_skip rfl (wl_skip rfl ?_)))
      refine wl_pick (.tmp 55) (.tmp 59) (.const (.bool false)) false (.bool false) (fun _ => rfl) rfl rfl rfl ?_
      refine wl_pick (.tmp 47) (.const (.bool true)) (.tmp 60) false (.bool false) (fun _ => rfl) rfl rfl rfl ?_
      refine wl_m (.tmp 61) (.bool false) ?_
      refine w_nil (xn_then (w_condF rfl (w_skip (xn_blk (xn_then (w_seq ?_))))))
      cases o with
      | true =>
       refine w_reg ?_
       refine wl_mv (.tmp 5) (.bool true) (fun _ => rfl) e5 rfl ?_
       refine wl_m (.tmp 63) (.bool true) ?_
       refine wl_skip rfl (wl_skip rfl ?_)
       refine wl_pick (.tmp 64) (.const (.bool true)) (.tmp 66) true (.bool true) (fun _ => rfl) rfl rfl rfl ?_
       refine wl_m (.tmp 67) (.bool true) ?_
       refine w_nil (xn_then (w_seq (w_reg ?_)))
       refine wl_m (.tmp 5) (.bool true) ?_
       refine wl_m (.tmp 68) (.bool true) ?_
       refine wl_skip rfl (wl_skip rfl ?_)
       refine wl_pick (.tmp 69) (.const (.bool true)) (.tmp 71) true (.bool true) (fun _ => rfl) rfl rfl rfl ?_
       refine w_nil (xn_then (w_condT rfl (w_reg ?_)))
       refine wl_mv (.tmp 4) (.int .i64 ((i : Nat) : Int)) (fun _ => rfl) e4 rfl ?_
       refine wl_b .add 3 (.tmp 73) (.const (.int .i64 (1))) (.int .i64 ((i : Nat) : Int)) (.int .i64 (1)) (.int .i64 ((i + 1 : Nat) : Int)) (add1r (k := i) (by omega) _ _ _) ?_
       refine wl_m (.tmp 74) (.int .i64 ((i + 1 : Nat) : Int)) ?_
       refine w_nil (xn_blk (xn_then (w_reg ?_)))
       refine wl_mv (.tmp 4) (.int .i64 ((i : Nat) : Int)) (fun _ => rfl) e4 rfl ?_
       refine wl_b .add 3 (.tmp 26) (.const (.int .i64 (1))) (.int .i64 ((i : Nat) : Int)) (.int .i64 (1)) (.int .i64 ((i + 1 : Nat) : Int)) (add1r (k := i) (by omega) _ _ _) ?_
       refine wl_m (.tmp 27) (.int .i64 ((i + 1 : Nat) : Int)) ?_
       refine w_nil ?_
       exact xn_loop (s.size - (i + 1)) (by omega) ⟨i + 1, i + 1, true, true, rfl, e0, rfl, rfl, rfl, e6, e7, by omega, by omega, by rw [hR, gx_in (of_decide_eq_true hf0)]; simp [hf1, hf2], M⟩
      | false =>
       cases hf3 : (bt s (i) == 48) with
       | true =>
        refine w_reg ?_
        refine wl_mv (.tmp 5) (.bool false) (fun _ => rfl) e5 rfl ?_
        refine wl_m (.tmp 63) (.bool false) ?_
        refine wl_m (.tmp 8) (.int .u8 (bt s (i))) ?_
        refine wl_b .neq 5 (.tmp 65) (.const (.int .u8 (48))) (.int .u8 (bt s (i))) (.int .u8 (48)) (.bool false) (ne5r hf3 _ _ _) ?_
        refine wl_pick (.tmp 64) (.const (.bool true)) (.tmp 66) false (.bool false) (fun _ => rfl) rfl rfl rfl ?_
        refine wl_m (.tmp 67) (.bool false) ?_
        refine w_nil (xn_then (w_seq ?_))
        cases hf4 : decide (p = 0) with
        | true =>
         have hf4p := of_decide_eq_true hf4
         refine w_reg ?_
         refine wl_m (.tmp 5) (.bool false) ?_
         refine wl_m (.tmp 68) (.bool false) ?_
         refine wl_mv (.tmp 7) (.int .i64 ((p : Nat) : Int)) (fun _ => rfl) e7 rfl ?_
         refine wl_b .eql 3 (.tmp 70) (.const (.int .i64 (0))) (.int .i64 ((p : Nat) : Int)) (.int .i64 (0)) (.bool true) (eqN hf4 _ _ _) ?_
         refine wl_pick (.tmp 69) (.const (.bool true)) (.tmp 71) false (.bool true) (fun _ => rfl) rfl rfl rfl ?_
         refine w_nil (xn_then (w_condT rfl (w_reg ?_)))
         refine wl_mv (.tmp 4) (.int .i64 ((i : Nat) : Int)) (fun _ => rfl) e4 rfl ?_
         refine wl_b .add 3 (.tmp 73) (.const (.int .i64 (1))) (.int .i64 ((i : Nat) : Int)) (.int .i64 (1)) (.int .i64 ((i + 1 : Nat) : Int)) (add1r (k := i) (by omega) _ _ _) ?_
         refine wl_m (.tmp 74) (.int .i64 ((i + 1 : Nat) : Int)) ?_
         refine w_nil (xn_blk (xn_then (w_reg ?_)))
         refine wl_mv (.tmp 4) (.int .i64 ((i : Nat) : Int)) (fun _ => rfl) e4 rfl ?_
         refine wl_b .add 3 (.tmp 26) (.const (.int .i64 (1))) (.int .i64 ((i : Nat) : Int)) (.int .i64 (1)) (.int .i64 ((i + 1 : Nat) : Int)) (add1r (k := i) (by omega) _ _ _) ?_
         refine wl_m (.tmp 27) (.int .i64 ((i + 1 : Nat) : Int)) ?_
         refine w_nil ?_
         exact xn_loop (s.size - (i + 1)) (by omega) ⟨i + 1, i + 1, false, true, rfl, e0, rfl, rfl, rfl, e6, e7, by omega, by omega, by rw [hR, gx_in (of_decide_eq_true hf0)]; simp [hf1, hf2, hf3, hf4], M⟩
        | false =>
         have hf4p := of_decide_eq_false hf4
         refine w_reg ?_
         refine wl_m (.tmp 5) (.bool false) ?_
         refine wl_m (.tmp 68) (.bool false) ?_
         refine wl_mv (.tmp 7) (.int .i64 ((p : Nat) : Int)) (fun _ => rfl) e7 rfl ?_
         refine wl_b .eql 3 (.tmp 70) (.const (.int .i64 (0))) (.int .i64 ((p : Nat) : Int)) (.int .i64 (0)) (.bool false) (eqN hf4 _ _ _) ?_
         refine wl_pick (.tmp 69) (.const (.bool true)) (.tmp 71) false (.bool false) (fun _ => rfl) rfl rfl rfl ?_
         refine w_nil (xn_then (w_condF rfl (w_skip (xn_blk (xn_then (w_reg ?_))))))
         refine wl_mv (.tmp 4) (.int .i64 ((i : Nat) : Int)) (fun _ => rfl) e4 rfl ?_
         refine wl_b .add 3 (.tmp 26) (.const (.int .i64 (1))) (.int .i64 ((i : Nat) : Int)) (.int .i64 (1)) (.int .i64 ((i + 1 : Nat) : Int)) (add1r (k := i) (by omega) _ _ _) ?_
         refine wl_m (.tmp 27) (.int .i64 ((i + 1 : Nat) : Int)) ?_
         refine w_nil ?_
         exact xn_loop (s.size - (i + 1)) (by omega) ⟨i + 1, best, false, true, rfl, e0, e3, rfl, rfl, e6, e7, by omega, by omega, by rw [hR, gx_in (of_decide_eq_true hf0)]; simp [hf1, hf2, hf3, hf4], M⟩
       | false =>
        refine w_reg ?_
        refine wl_mv (.tmp 5) (.bool false) (fun _ => rfl) e5 rfl ?_
        refine wl_m (.tmp 63) (.bool false) ?_
        refine wl_m (.tmp 8) (.int .u8 (bt s (i))) ?_
        refine wl_b .neq 5 (.tmp 65) (.const (.int .u8 (48))) (.int .u8 (bt s (i))) (.int .u8 (48)) (.bool true) (ne5r hf3 _ _ _) ?_
        refine wl_pick (.tmp 64) (.const (.bool true)) (.tmp 66) false (.bool true) (fun _ => rfl) rfl rfl rfl ?_
        refine wl_m (.tmp 67) (.bool true) ?_
        refine w_nil (xn_then (w_seq (w_reg ?_)))
        refine wl_m (.tmp 5) (.bool true) ?_
        refine wl_m (.tmp 68) (.bool true) ?_
        refine wl_skip rfl (wl_skip rfl ?_)
        refine wl_pick (.tmp 69) (.const (.bool true)) (.tmp 71) true (.bool true) (fun _ => rfl) rfl rfl rfl ?_
        refine w_nil (xn_then (w_condT rfl (w_reg ?_)))
        refine wl_mv (.tmp 4) (.int .i64 ((i : Nat) : Int)) (fun _ => rfl) e4 rfl ?_
        refine wl_b .add 3 (.tmp 73) (.const (.int .i64 (1))) (.int .i64 ((i : Nat) : Int)) (.int .i64 (1)) (.int .i64 ((i + 1 : Nat) : Int)) (add1r (k := i) (by omega) _ _ _) ?_
        refine wl_m (.tmp 74) (.int .i64 ((i + 1 : Nat) : Int)) ?_
        refine w_nil (xn_blk (xn_then (w_reg ?_)))
        refine wl_mv (.tmp 4) (.int .i64 ((i : Nat) : Int)) (fun _ => rfl) e4 rfl ?_
        refine wl_b .add 3 (.tmp 26) (.const (.int .i64 (1))) (.int .i64 ((i : Nat) : Int)) (.int .i64 (1)) (.int .i64 ((i + 1 : Nat) : Int)) (add1r (k := i) (by omega) _ _ _) ?_
        refine wl_m (.tmp 27) (.int .i64 ((i + 1 : Nat) : Int)) ?_
        refine w_nil ?_
        exact xn_loop (s.size - (i + 1)) (by omega) ⟨i + 1, i + 1, true, true, rfl, e0, rfl, rfl, rfl, e6, e7, by omega, by omega, by rw [hR, gx_in (of_decide_eq_true hf0)]; simp [hf1, hf2, hf3], M⟩
     | false =>
      cases hf3 : decide (p < i) with
      | true =>
       have hf3p := of_decide_eq_true hf3
       cases hf4 : (bt s (p) == 48) with
       | true =>
        refine w_reg ?_
        refine wl_m (.tmp 8) (.int .u8 (bt s (i))) ?_
        refine wl_call 49 [(.tmp 44)] _ [.int .u8 (bt s (i))] (.bool true) rfl rfl (fun _ _ => by kernel_rfl) (digit_c hf2 _) rfl ?_
        intro w21 hq
        replace M := M.trans hq
        clear hq
        refine wl_un (fun v => Op.unary .not v) (.tmp 45) (.bool true) (.bool false) (fun _ => rfl) rfl (by kernel_rfl) rfl ?_
        refine wl_m (.tmp 46) (.bool false) ?_
        refine wl_mv (.tmp 6) (.bool false) (fun _ => rfl) e6 rfl ?_
        refine wl_un (fun v => Op.unary .not v) (.tmp 48) (.bool false) (.bool true) (fun _ => rfl) rfl (by kernel_rfl) rfl ?_
        refine wl_m (.tmp 49) (.bool true) ?_
        refine wl_mv (.tmp 4) (.int .i64 ((i : Nat) : Int)) (fun _ => rfl) e4 rfl ?_
        refine wl_mv (.tmp 7) (.int .i64 ((p : Nat) : Int)) (fun _ => rfl) e7 rfl ?_
        refine wl_b .gtr 3 (.tmp 51) (.tmp 52) (.int .i64 ((i : Nat) : Int)) (.int .i64 ((p : Nat) : Int)) (.bool true) (gtN hf3 _ _ _) ?_
        refine wl_pick (.tmp 50) (.tmp 53) (.const (.bool false)) true (.bool true) (fun _ => rfl) rfl rfl rfl ?_
        refine wl_m (.tmp 54) (.bool true) ?_
        refine wl_mv (.tmp 0) (.string s) (fun _ => rfl) e0 rfl ?_
        refine wl_mv (.tmp 7) (.int .i64 ((p : Nat) : Int)) (fun _ => rfl) e7 rfl ?_
        refine wl_bin (fun x y => Instr.index 9 x y) (.tmp 56) (.tmp 57) (.string s) (.int .i64 ((p : Nat) : Int)) (.int .u8 (bt s (p))) (fun _ => rfl) rfl rfl (idx_b (by omega) _) rfl ?_
        refine wl_b .eql 5 (.tmp 58) (.const (.int .u8 (48))) (.int .u8 (bt s (p))) (.int .u8 (48)) (.bool true) (eq5r hf4 _ _ _) ?_
        refine wl_pick (.tmp 55) (.tmp 59) (.const (.bool false)) true (.bool true) (fun _ => rfl) rfl rfl rfl ?_
        refine wl_pick (.tmp 47) (.const (.bool true)) (.tmp 60) false (.bool true) (fun _ => rfl) rfl rfl rfl ?_
        refine wl_m (.tmp 61) (.bool true) ?_
        refine w_nil (xn_then (w_condT rfl (w_seq (w_reg ?_))))
        refine wl_mv (.tmp 3) (.int .i64 ((best : Nat) : Int)) (fun _ => rfl) e3 rfl ?_
        refine wl_m (.tmp 62) (.int .i64 ((best : Nat) : Int)) ?_
        refine w_nil (xn_then (w_ret (xr_blk (xr_then (xr_blk (xr_then (xr_then (xr_blk (xr_then ?_)))))))))
        have hfin : pfx s = best := by rw [hR, gx_in (of_decide_eq_true hf0)]; simp [hf1, hf2, hf3p, hf4]
        exact w_ret1 _ (.int .i64 ((best : Nat) : Int)) rfl rfl ⟨by rw [hfin], M⟩
       | false =>
        refine w_reg ?_
        refine wl_m (.tmp 8) (.int .u8 (bt s (i))) ?_
        refine wl_call 49 [(.tmp 44)] _ [.int .u8 (bt s (i))] (.bool true) rfl rfl (fun _ _ => by kernel_rfl) (digit_c hf2 _) rfl ?_
        intro w21 hq
        replace M := M.trans hq
        clear hq
        refine wl_un (fun v => Op.unary .not v) (.tmp 45) (.bool true) (.bool false) (fun _ => rfl) rfl (by kernel_rfl) rfl ?_
        refine wl_m (.tmp 46) (.bool false) ?_
        refine wl_mv (.tmp 6) (.bool false) (fun _ => rfl) e6 rfl ?_
        refine wl_un (fun v => Op.unary .not v) (.tmp 48) (.bool false) (.bool true) (fun _ => rfl) rfl (by kernel_rfl) rfl ?_
        refine wl_m (.tmp 49) (.bool true) ?_
        refine wl_mv (.tmp 4) (.int .i64 ((i : Nat) : Int)) (fun _ => rfl) e4 rfl ?_
        refine wl_mv (.tmp 7) (.int .i64 ((p : Nat) : Int)) (fun _ => rfl) e7 rfl ?_
        refine wl_b .gtr 3 (.tmp 51) (.tmp 52) (.int .i64 ((i : Nat) : Int)) (.int .i64 ((p : Nat) : Int)) (.bool true) (gtN hf3 _ _ _) ?_
        refine wl_pick (.tmp 50) (.tmp 53) (.const (.bool false)) true (.bool true) (fun _ => rfl) rfl rfl rfl ?_
        refine wl_m (.tmp 54) (.bool true) ?_
        refine wl_mv (.tmp 0) (.string s) (fun _ => rfl) e0 rfl ?_
        refine wl_mv (.tmp 7) (.int .i64 ((p : Nat) : Int)) (fun _ => rfl) e7 rfl ?_
        refine wl_bin (fun x y => Instr.index 9 x y) (.tmp 56) (.tmp 57) (.string s) (.int .i64 ((p : Nat) : Int)) (.int .u8 (bt s (p))) (fun _ => rfl) rfl rfl (idx_b (by omega) _) rfl ?_
        refine wl_b .eql 5 (.tmp 58) (.const (.int .u8 (48))) (.int .u8 (bt s (p))) (.int .u8 (48)) (.bool false) (eq5r hf4 _ _ _) ?_
        refine wl_pick (.tmp 55) (.tmp 59) (.const (.bool false)) true (.bool false) (fun _ => rfl) rfl rfl rfl ?_
        refine wl_pick (.tmp 47) (.const (.bool true)) (.tmp 60) false (.bool false) (fun _ => rfl) rfl rfl rfl ?_
        refine wl_m (.tmp 61) (.bool false) ?_
        refine w_nil (xn_then (w_condF rfl (w_skip (xn_blk (xn_then (w_seq ?_))))))
        cases o with
        | true =>
         refine w_reg ?_
         refine wl_mv (.tmp 5) (.bool true) (fun _ => rfl) e5 rfl ?_
         refine wl_m (.tmp 63) (.bool true) ?_
         refine wl_skip rfl (wl_skip rfl ?_)
         refine wl_pick (.tmp 64) (.const (.bool true)) (.tmp 66) true (.bool true) (fun _ => rfl) rfl rfl rfl ?_
         refine wl_m (.tmp 67) (.bool true) ?_
         refine w_nil (xn_then (w_seq (w_reg ?_)))
         refine wl_m (.tmp 5) (.bool true) ?_
         refine wl_m (.tmp 68) (.bool true) ?_
         refine wl_skip rfl (wl_skip rfl ?_)
         refine wl_pick (.tmp 69) (.const (.bool true)) (.tmp 71) true (.bool true) (fun _ => rfl) rfl rfl rfl ?_
         refine w_nil (xn_then (w_condT rfl (w_reg ?_)))
         refine wl_mv (.tmp 4) (.int .i64 ((i : Nat) : Int)) (fun _ => rfl) e4 rfl ?_
         refine wl_b .add 3 (.tmp 73) (.const (.int .i64 (1))) (.int .i64 ((i : Nat) : Int)) (.int .i64 (1)) (.int .i64 ((i + 1 : Nat) : Int)) (add1r (k := i) (by omega) _ _ _) ?_
         refine wl_m (.tmp 74) (.int .i64 ((i + 1 : Nat) : Int)) ?_
         refine w_nil (xn_blk (xn_then (w_reg ?_)))
         refine wl_mv (.tmp 4) (.int .i64 ((i : Nat) : Int)) (fun _ => rfl) e4 rfl ?_
         refine wl_b .add 3 (.tmp 26) (.const (.int .i64 (1))) (.int .i64 ((i : Nat) : Int)) (.int .i64 (1)) (.int .i64 ((i + 1 : Nat) : Int)) (add1r (k := i) (by omega) _ _ _) ?_
         refine wl_m (.tmp 27) (.int .i64 ((i + 1 : Nat) : Int)) ?_
         refine w_nil ?_
         exact xn_loop (s.size - (i + 1)) (by omega) ⟨i + 1, i + 1, true, false, rfl, e0, rfl, rfl, rfl, e6, e7, by omega, by omega, by rw [hR, gx_in (of_decide_eq_true hf0)]; simp [hf1, hf2, hf3p, hf4], M⟩
        | false =>
         cases hf5 : (bt s (i) == 48) with
         | true =>
          refine w_reg ?_
          refine wl_mv (.tmp 5) (.bool false) (fun _ => rfl) e5 rfl ?_
          refine wl_m (.tmp 63) (.bool false) ?_
          refine wl_m (.tmp 8) (.int .u8 (bt s (i))) ?_
          refine wl_b .neq 5 (.tmp 65) (.const (.int .u8 (48))) (.int .u8 (bt s (i))) (.int .u8 (48)) (.bool false) (ne5r hf5 _ _ _) ?_
          refine wl_pick (.tmp 64) (.const (.bool true)) (.tmp 66) false (.bool false) (fun _ => rfl) rfl rfl rfl ?_
          refine wl_m (.tmp 67) (.bool false) ?_
          refine w_nil (xn_then (w_seq ?_))
          cases hf6 : decide (p = 0) with
          | true =>
           have hf6p := of_decide_eq_true hf6
           refine w_reg ?_
           refine wl_m (.tmp 5) (.bool false) ?_
           refine wl_m (.tmp 68) (.bool false) ?_
           refine wl_mv (.tmp 7) (.int .i64 ((p : Nat) : Int)) (fun _ => rfl) e7 rfl ?_
           refine wl_b .eql 3 (.tmp 70) (.const (.int .i64 (0))) (.int .i64 ((p : Nat) : Int)) (.int .i64 (0)) (.bool true) (eqN hf6 _ _ _) ?_
           refine wl_pick (.tmp 69) (.const (.bool true)) (.tmp 71) false (.bool true) (fun _ => rfl) rfl rfl rfl ?_
           refine w_nil (xn_then (w_condT rfl (w_reg ?_)))
           refine wl_mv (.tmp 4) (.int .i64 ((i : Nat) : Int)) (fun _ => rfl) e4 rfl ?_
           refine wl_b .add 3 (.tmp 73) (.const (.int .i64 (1))) (.int .i64 ((i : Nat) : Int)) (.int .i64 (1)) (.int .i64 ((i + 1 : Nat) : Int)) (add1r (k := i) (by omega) _ _ _) ?_
           refine wl_m (.tmp 74) (.int .i64 ((i + 1 : Nat) : Int)) ?_
           refine w_nil (xn_blk (xn_then (w_reg ?_)))
           refine wl_mv (.tmp 4) (.int .i64 ((i : Nat) : Int)) (fun _ => rfl) e4 rfl ?_
           refine wl_b .add 3 (.tmp 26) (.const (.int .i64 (1))) (.int .i64 ((i : Nat) : Int)) (.int .i64 (1)) (.int .i64 ((i + 1 : Nat) : Int)) (add1r (k := i) (by omega) _ _ _) ?_
           refine wl_m (.tmp 27) (.int .i64 ((i + 1 : Nat) : Int)) ?_
           refine w_nil ?_
           exact xn_loop (s.size - (i + 1)) (by omega) ⟨i + 1, i + 1, false, false, rfl, e0, rfl, rfl, rfl, e6, e7, by omega, by omega, by rw [hR, gx_in (of_decide_eq_true hf0)]; simp [hf1, hf2, hf3p, hf4, hf5, hf6], M⟩
          | false =>
           have hf6p := of_decide_eq_false hf6
           refine w_reg ?_
           refine wl_m (.tmp 5) (.bool false) ?_
           refine wl_m (.tmp 68) (.bool false) ?_
           refine wl_mv (.tmp 7) (.int .i64 ((p : Nat) : Int)) (fun _ => rfl) e7 rfl ?_
           refine wl_b .eql 3 (.tmp 70) (.const (.int .i64 (0))) (.int .i64 ((p : Nat) : Int)) (.int .i64 (0)) (.bool false) (eqN hf6 _ _ _) ?_
           refine wl_pick (.tmp 69) (.const (.bool true)) (.tmp 71) false (.bool false) (fun _ => rfl) rfl rfl rfl ?_
           refine w_nil (xn_then (w_condF rfl (w_skip (xn_blk (xn_then (w_reg ?_))))))
           refine wl_mv (.tmp 4) (.int .i64 ((i : Nat) : Int)) (fun _ => rfl) e4 rfl ?_
           refine wl_b .add 3 (.tmp 26) (.const (.int .i64 (1))) (.int .i64 ((i : Nat) : Int)) (.int .i64 (1)) (.int .i64 ((i + 1 : Nat) : Int)) (add1r (k := i) (by omega) _ _ _) ?_
           refine wl_m (.tmp 27) (.int .i64 ((i + 1 : Nat) : Int)) ?_
           refine w_nil ?_
           exact xn_loop (s.size - (i + 1)) (by omega) ⟨i + 1, best, false, false, rfl, e0, e3, rfl, rfl, e6, e7, by omega, by omega, by rw [hR, gx_in (of_decide_eq_true hf0)]; simp [hf1, hf2, hf3p, hf4, hf5, hf6], M⟩
         | false =>
          refine w_reg ?_
          refine wl_mv (.tmp 5) (.bool false) (fun _ => rfl) e5 rfl ?_
          refine wl_m (.tmp 63) (.bool false) ?_
          refine wl_m (.tmp 8) (.int .u8 (bt s (i))) ?_
          refine wl_b .neq 5 (.tmp 65) (.const (.int .u8 (48))) (.int .u8 (bt s (i))) (.int .u8 (48)) (.bool true) (ne5r hf5 _ _ _) ?_
          refine wl_pick (.tmp 64) (.const (.bool true)) (.tmp 66) false (.bool true) (fun _ => rfl) rfl rfl rfl ?_
          refine wl_m (.tmp 67) (.bool true) ?_
          refine w_nil (xn_then (w_seq (w_reg ?_)))
          refine wl_m (.tmp 5) (.bool true) ?_
          refine wl_m (.tmp 68) (.bool true) ?_
          refine wl_skip rfl (wl_skip rfl ?_)
          refine wl_pick (.tmp 69) (.const (.bool true)) (.tmp 71) true (.bool true) (fun _ => rfl) rfl rfl rfl ?_
          refine w_nil (xn_then (w_condT rfl (w_reg ?_)))
          refine wl_mv (.tmp 4) (.int .i64 ((i : Nat) : Int)) (fun _ => rfl) e4 rfl ?_
          refine wl_b .add 3 (.tmp 73) (.const (.int .i64 (1))) (.int .i64 ((i : Nat) : Int)) (.int .i64 (1)) (.int .i64 ((i + 1 : Nat) : Int)) (add1r (k := i) (by omega) _ _ _) ?_
          refine wl_m (.tmp 74) (.int .i64 ((i + 1 : Nat) : Int)) ?_
          refine w_nil (xn_blk (xn_then (w_reg ?_)))
          refine wl_mv (.tmp 4) (.int .i64 ((i : Nat) : Int)) (fun _ => rfl) e4 rfl ?_
          refine wl_b .add 3 (.tmp 26) (.const (.int .i64 (1))) (.int .i64 ((i : Nat) : Int)) (.int .i64 (1)) (.int .i64 ((i + 1 : Nat) : Int)) (add1r (k := i) (by omega) _ _ _) ?_
          refine wl_m (.tmp 27) (.int .i64 ((i + 1 : Nat) : Int)) ?_
          refine w_nil ?_
          exact xn_loop (s.size - (i + 1)) (by omega) ⟨i + 1, i + 1, true, false, rfl, e0, rfl, rfl, rfl, e6, e7, by omega, by omega, by rw [hR, gx_in (of_decide_eq_true hf0)]; simp [hf1, hf2, hf3p, hf4, hf5], M⟩
      | false =>
       have hf3p := of_decide_eq_false hf3
       refine w_reg ?_
       refine wl_m (.tmp 8) (.int .u8 (bt s (i))) ?_
       refine wl_call 49 [(.tmp 44)] _ [.int .u8 (bt s (i))] (.bool true) rfl rfl (fun _ _ => by kernel_rfl) (digit_c hf2 _) rfl ?_
       intro w21 hq
       replace M := M.trans hq
       clear hq
       refine wl_un (fun v => Op.unary .not v) (.tmp 45) (.bool true) (.bool false) (fun _ => rfl) rfl (by kernel_rfl) rfl ?_
       refine wl_m (.tmp 46) (.bool false) ?_
       refine wl_mv (.tmp 6) (.bool false) (fun _ => rfl) e6 rfl ?_
       refine wl_un (fun v => Op.unary .not v) (.tmp 48) (.bool false) (.bool true) (fun _ => rfl) rfl (by kernel_rfl) rfl ?_
       refine wl_m (.tmp 49) (.bool true) ?_
       refine wl_mv (.tmp 4) (.int .i64 ((i : Nat) : Int)) (fun _ => rfl) e4 rfl ?_
       refine wl_mv (.tmp 7) (.int .i64 ((p : Nat) : Int)) (fun _ => rfl) e7 rfl ?_
       refine wl_b .gtr 3 (.tmp 51) (.tmp 52) (.int .i64 ((i : Nat) : Int)) (.int .i64 ((p : Nat) : Int)) (.bool false) (gtN hf3 _ _ _) ?_
       refine wl_pick (.tmp 50) (.tmp 53) (.const (.bool false)) true (.bool false) (fun _ => rfl) rfl rfl rfl ?_
       refine wl_m (.tmp 54) (.bool false) ?_
       refine wl_skip rfl (wl_skip rfl (wl_skip rfl (wl_skip rfl ?_)))
       refine wl_pick (.tmp 55) (.tmp 59) (.const (.bool false)) false (.bool false) (fun _ => rfl) rfl rfl rfl ?_
       refine wl_pick (.tmp 47) (.const (.bool true)) (.tmp 60) false (.bool false) (fun _ => rfl) rfl rfl rfl ?_
       refine wl_m (.tmp 61) (.bool false) ?_
       refine w_nil (xn_then (w_condF rfl (w_skip (xn_blk (xn_then (w_seq ?_))))))
       cases o with
       | true =>
        refine w_reg ?_
        refine wl_mv (.tmp 5) (.bool true) (fun _ => rfl) e5 rfl ?_
        refine wl_m (.tmp 63) (.bool true) ?_
        refine wl_skip rfl (wl_skip rfl ?_)
        refine wl_pick (.tmp 64) (.const (.bool true)) (.tmp 66) true (.bool true) (fun _ => rfl) rfl rfl rfl ?_
        refine wl_m (.tmp 67) (.bool true) ?_
        refine w_nil (xn_then (w_seq (w_reg ?_)))
        refine wl_m (.tmp 5) (.bool true) ?_
        refine wl_m (.tmp 68) (.bool true) ?_
        refine wl_skip rfl (wl_skip rfl ?_)
        refine wl_pick (.tmp 69) (.const (.bool true)) (.tmp 71) true (.bool true) (fun _ => rfl) rfl rfl rfl ?_
        refine w_nil (xn_then (w_condT rfl (w_reg ?_)))
        refine wl_mv (.tmp 4) (.int .i64 ((i : Nat) : Int)) (fun _ => rfl) e4 rfl ?_
        refine wl_b .add 3 (.tmp 73) (.const (.int .i64 (1))) (.int .i64 ((i : Nat) : Int)) (.int .i64 (1)) (.int .i64 ((i + 1 : Nat) : Int)) (add1r (k := i) (by omega) _ _ _) ?_
        refine wl_m (.tmp 74) (.int .i64 ((i + 1 : Nat) : Int)) ?_
        refine w_nil (xn_blk (xn_then (w_reg ?_)))
        refine wl_mv (.tmp 4) (.int .i64 ((i : Nat) : Int)) (fun _ => rfl) e4 rfl ?_
        refine wl_b .add 3 (.tmp 26) (.const (.int .i64 (1))) (.int .i64 ((i : Nat) : Int)) (.int .i64 (1)) (.int .i64 ((i + 1 : Nat) : Int)) (add1r (k := i) (by omega) _ _ _) ?_
        refine wl_m (.tmp 27) (.int .i64 ((i + 1 : Nat) : Int)) ?_
        refine w_nil ?_
        exact xn_loop (s.size - (i + 1)) (by omega) ⟨i + 1, i + 1, true, false, rfl, e0, rfl, rfl, rfl, e6, e7, by omega, by omega, by rw [hR, gx_in (of_decide_eq_true hf0)]; simp [hf1, hf2, hf3p], M⟩
       | false =>
        cases hf4 : (bt s (i) == 48) with
        | true =>
         refine w_reg ?_
         refine wl_mv (.tmp 5) (.bool false) (fun _ => rfl) e5 rfl ?_
         refine wl_m (.tmp 63) (.bool false) ?_
         refine wl_m (.tmp 8) (.int .u8 (bt s (i))) ?_
         refine wl_b .neq 5 (.tmp 65) (.const (.int .u8 (48))) (.int .u8 (bt s (i))) (.int .u8 (48)) (.bool false) (ne5r hf4 _ _ _) ?_
         refine wl_pick (.tmp 64) (.const (.bool true)) (.tmp 66) false (.bool false) (fun _ => rfl) rfl rfl rfl ?_
         refine wl_m (.tmp 67) (.bool false) ?_
         refine w_nil (xn_then (w_seq ?_))
         cases hf5 : decide (p = 0) with
         | true =>
          have hf5p := of_decide_eq_true hf5
          refine w_reg ?_
          refine wl_m (.tmp 5) (.bool false) ?_
          refine wl_m (.tmp 68) (.bool false) ?_
          refine wl_mv (.tmp 7) (.int .i64 ((p : Nat) : Int)) (fun _ => rfl) e7 rfl ?_
          refine wl_b .eql 3 (.tmp 70) (.const (.int .i64 (0))) (.int .i64 ((p : Nat) : Int)) (.int .i64 (0)) (.bool true) (eqN hf5 _ _ _) ?_
          refine wl_pick (.tmp 69) (.const (.bool true)) (.tmp 71) false (.bool true) (fun _ => rfl) rfl rfl rfl ?_
          refine w_nil (xn_then (w_condT rfl (w_reg ?_)))
          refine wl_mv (.tmp 4) (.int .i64 ((i : Nat) : Int)) (fun _ => rfl) e4 rfl ?_
          refine wl_b .add 3 (.tmp 73) (.const (.int .i64 (1))) (.int .i64 ((i : Nat) : Int)) (.int .i64 (1)) (.int .i64 ((i + 1 : Nat) : Int)) (add1r (k := i) (by omega) _ _ _) ?_
          refine wl_m (.tmp 74) (.int .i64 ((i + 1 : Nat) : Int)) ?_
          refine w_nil (xn_blk (xn_then (w_reg ?_)))
          refine wl_mv (.tmp 4) (.int .i64 ((i : Nat) : Int)) (fun _ => rfl) e4 rfl ?_
          refine wl_b .add 3 (.tmp 26) (.const (.int .i64 (1))) (.int .i64 ((i : Nat) : Int)) (.int .i64 (1)) (.int .i64 ((i + 1 : Nat) : Int)) (add1r (k := i) (by omega) _ _ _) ?_
          refine wl_m (.tmp 27) (.int .i64 ((i + 1 : Nat) : Int)) ?_
          refine w_nil ?_
          exact xn_loop (s.size - (i + 1)) (by omega) ⟨i + 1, i + 1, false, false, rfl, e0, rfl, rfl, rfl, e6, e7, by omega, by omega, by rw [hR, gx_in (of_decide_eq_true hf0)]; simp [hf1, hf2, hf3p, hf4, hf5], M⟩
         | false =>
          have hf5p := of_decide_eq_false hf5
          refine w_reg ?_
          refine wl_m (.tmp 5) (.bool false) ?_
          refine wl_m (.tmp 68) (.bool false) ?_
          refine wl_mv (.tmp 7) (.int .i64 ((p : Nat) : Int)) (fun _ => rfl) e7 rfl ?_
          refine wl_b .eql 3 (.tmp 70) (.const (.int .i64 (0))) (.int .i64 ((p : Nat) : Int)) (.int .i64 (0)) (.bool false) (eqN hf5 _ _ _) ?_
          refine wl_pick (.tmp 69) (.const (.bool true)) (.tmp 71) false (.bool false) (fun _ => rfl) rfl rfl rfl ?_
          refine w_nil (xn_then (w_condF rfl (w_skip (xn_blk (xn_then (w_reg ?_))))))
          refine wl_mv (.tmp 4) (.int .i64 ((i : Nat) : Int)) (fun _ => rfl) e4 rfl ?_
          refine wl_b .add 3 (.tmp 26) (.const (.int .i64 (1))) (.int .i64 ((i : Nat) : Int)) (.int .i64 (1)) (.int .i64 ((i + 1 : Nat) : Int)) (add1r (k := i) (by omega) _ _ _) ?_
          refine wl_m (.tmp 27) (.int .i64 ((i + 1 : Nat) : Int)) ?_
          refine w_nil ?_
          exact xn_loop (s.size - (i + 1)) (by omega) ⟨i + 1, best, false, false, rfl, e0, e3, rfl, rfl, e6, e7, by omega, by omega, by rw [hR, gx_in (of_decide_eq_true hf0)]; simp [hf1, hf2, hf3p, hf4, hf5], M⟩
        | false =>
         refine w_reg ?_
         refine wl_mv (.tmp 5) (.bool false) (fun _ => rfl) e5 rfl ?_
         refine wl_m (.tmp 63) (.bool false) ?_
         refine wl_m (.tmp 8) (.int .u8 (bt s (i))) ?_
         refine wl_b .neq 5 (.tmp 65) (.const (.int .u8 (48))) (.int .u8 (bt s (i))) (.int .u8 (48)) (.bool true) (ne5r hf4 _ _ _) ?_
         refine wl_pick (.tmp 64) (.const (.bool true)) (.tmp 66) false (.bool true) (fun _ => rfl) rfl rfl rfl ?_
         refine wl_m (.tmp 67) (.bool true) ?_
         refine w_nil (xn_then (w_seq (w_reg ?_)))
         refine wl_m (.tmp 5) (.bool true) ?_
         refine wl_m (.tmp 68) (.bool true) ?_
         refine wl_skip rfl (wl_skip rfl ?_)
         refine wl_pick (.tmp 69) (.const (.bool true)) (.tmp 71) true (.bool true) (fun _ => rfl) rfl rfl rfl ?_
         refine w_nil (xn_then (w_condT rfl (w_reg ?_)))
         refine wl_mv (.tmp 4) (.int .i64 ((i : Nat) : Int)) (fun _ => rfl) e4 rfl ?_
         refine wl_b .add 3 (.tmp 73) (.const (.int .i64 (1))) (.int .i64 ((i : Nat) : Int)) (.int .i64 (1)) (.int .i64 ((i + 1 : Nat) : Int)) (add1r (k := i) (by omega) _ _ _) ?_
         refine wl_m (.tmp 74) (.int .i64 ((i + 1 : Nat) : Int)) ?_
         refine w_nil (xn_blk (xn_then (w_reg ?_)))
         refine wl_mv (.tmp 4) (.int .i64 ((i : Nat) : Int)) (fun _ => rfl) e4 rfl ?_
         refine wl_b .add 3 (.tmp 26) (.const (.int .i64 (1))) (.int .i64 ((i : Nat) : Int)) (.int .i64 (1)) (.int .i64 ((i + 1 : Nat) : Int)) (add1r (k := i) (by omega) _ _ _) ?_
         refine wl_m (.tmp 27) (.int .i64 ((i + 1 : Nat) : Int)) ?_
         refine w_nil ?_
         exact xn_loop (s.size - (i + 1)) (by omega) ⟨i + 1, i + 1, true, false, rfl, e0, rfl, rfl, rfl, e6, e7, by omega, by omega, by rw [hR, gx_in (of_decide_eq_true hf0)]; simp [hf1, hf2, hf3p, hf4], M⟩
    | false =>
     refine w_reg ?_
     refine wl_m (.tmp 8) (.int .u8 (bt s (i))) ?_
     refine wl_call 49 [(.tmp 44)] _ [.int .u8 (bt s (i))] (.bool false) rfl rfl (fun _ _ => by kernel_rfl) (digit_c hf2 _) rfl ?_
     intro w21 hq
     replace M := M.trans hq
     clear hq
     refine wl_un (fun v => Op.unary .not v) (.tmp 45) (.bool false) (.bool true) (fun _ => rfl) rfl (by kernel_rfl) rfl ?_
     refine wl_m (.tmp 46) (.bool true) ?_
     refine wl_skip rfl (wl_skip rfl (wl_skip rfl (wl_skip rfl (wl_skip rfl (wl_skip rfl (wl_skip rfl (wl_skip rfl (wl_skip rfl (wl_skip rfl (wl_skip rfl (wl_skip rfl (wl_skip rfl ?_))))))))))))
     refine wl_pick (.tmp 47) (.const (.bool true)) (.tmp 60) true (.bool true) (fun _ => rfl) rfl rfl rfl ?_
     refine wl_m (.tmp 61) (.bool true) ?_
     refine w_nil (xn_then (w_condT rfl (w_seq (w_reg ?_))))
     refine wl_mv (.tmp 3) (.int .i64 ((best : Nat) : Int)) (fun _ => rfl) e3 rfl ?_
     refine wl_m (.tmp 62) (.int .i64 ((best : Nat) : Int)) ?_
     refine w_nil (xn_then (w_ret (xr_blk (xr_then (xr_blk (xr_then (xr_then (xr_blk (xr_then ?_)))))))))
     have hfin : pfx s = best := by rw [hR, gx_in (of_decide_eq_true hf0)]; simp [hf1, hf2]
     exact w_ret1 _ (.int .i64 ((best : Nat) : Int)) rfl rfl ⟨by rw [hfin], M⟩
  | false =>
   have hf0p := of_decide_eq_false hf0
   refine w_reg ?_
   refine wl_mv (.tmp 4) (.int .i64 ((i : Nat) : Int)) (fun _ => rfl) e4 rfl ?_
   refine wl_mv (.tmp 0) (.string s) (fun _ => rfl) e0 rfl ?_
   refine wl_val (.int .i64 ((s.size : Nat) : Int)) (len_s _ _ s (by exact rfl) _ _ _ _ _ _) rfl ?_
   refine wl_b .lss 3 (.tmp 22) (.tmp 24) (.int .i64 ((i : Nat) : Int)) (.int .i64 ((s.size : Nat) : Int)) (.bool false) (ltN hf0 _ _ _) ?_
   refine w_nil (xn_then (w_condF rfl (w_exit (xx_then (xx_then (xx_blk (xn_then (w_seq (w_reg ?_)))))))))
   refine wl_mv (.tmp 3) (.int .i64 ((best : Nat) : Int)) (fun _ => rfl) e3 rfl ?_
   refine wl_m (.tmp 75) (.int .i64 ((best : Nat) : Int)) ?_
   refine w_nil (xn_then (w_ret ?_))
   have hfin : pfx s = best := by rw [hR, gx_out (of_decide_eq_false hf0)]
   exact w_ret1 _ (.int .i64 ((best : Nat) : Int)) rfl rfl ⟨by rw [hfin], M⟩
 ·skip
  refine w_seq ?_
  cases hf0 : decide (0 < s.size) with
  | true =>
   have hf0p := of_decide_eq_true hf0
   cases hf1 : (bt s (0) == 45) with
   | true =>
    refine w_reg ?_
    refine wl_m (.tmp 4) (.int .i64 (0)) ?_
    refine wl_m (.tmp 0) (.string s) ?_
    refine wl_val (.int .i64 ((s.size : Nat) : Int)) (len_s _ _ s (by exact rfl) _ _ _ _ _ _) rfl ?_
    refine wl_b .lss 3 (.tmp 9) (.tmp 11) (.int .i64 (0)) (.int .i64 ((s.size : Nat) : Int)) (.bool true) (ltN hf0 _ _ _) ?_
    refine wl_m (.tmp 12) (.bool true) ?_
    refine wl_m (.tmp 0) (.string s) ?_
    refine wl_m (.tmp 4) (.int .i64 (0)) ?_
    refine wl_bin (fun x y => Instr.index 9 x y) (.tmp 14) (.tmp 15) (.string s) (.int .i64 (0)) (.int .u8 (bt s (0))) (fun _ => rfl) rfl rfl (idx_b (by omega) _) rfl ?_
    refine wl_b .eql 5 (.tmp 16) (.const (.int .u8 (45))) (.int .u8 (bt s (0))) (.int .u8 (45)) (.bool true) (eq5r hf1 _ _ _) ?_
    refine wl_pick (.tmp 13) (.tmp 17) (.const (.bool false)) true (.bool true) (fun _ => rfl) rfl rfl rfl ?_
    refine w_nil (xn_then (w_condT rfl (w_reg ?_)))
    refine wl_m (.tmp 4) (.int .i64 (0)) ?_
    refine wl_b .add 3 (.tmp 19) (.const (.int .i64 (1))) (.int .i64 (0)) (.int .i64 (1)) (.int .i64 ((0 + 1 : Nat) : Int)) (add1r (k := 0) (by decide) _ _ _) ?_
    refine wl_m (.tmp 20) (.int .i64 ((0 + 1 : Nat) : Int)) ?_
    refine w_nil ?_
    exact xn_cut ⟨1, true, rfl, rfl, rfl, by omega, rfl, by unfold pfx; rw [hf1]; rfl, M⟩
   | false =>
    refine w_reg ?_
    refine wl_m (.tmp 4) (.int .i64 (0)) ?_
    refine wl_m (.tmp 0) (.string s) ?_
    refine wl_val (.int .i64 ((s.size : Nat) : Int)) (len_s _ _ s (by exact rfl) _ _ _ _ _ _) rfl ?_
    refine wl_b .lss 3 (.tmp 9) (.tmp 11) (.int .i64 (0)) (.int .i64 ((s.size : Nat) : Int)) (.bool true) (ltN hf0 _ _ _) ?_
    refine wl_m (.tmp 12) (.bool true) ?_
    refine wl_m (.tmp 0) (.string s) ?_
    refine wl_m (.tmp 4) (.int .i64 (0)) ?_
    refine wl_bin (fun x y => Instr.index 9 x y) (.tmp 14) (.tmp 15) (.string s) (.int .i64 (0)) (.int .u8 (bt s (0))) (fun _ => rfl) rfl rfl (idx_b (by omega) _) rfl ?_
    refine wl_b .eql 5 (.tmp 16) (.const (.int .u8 (45))) (.int .u8 (bt s (0))) (.int .u8 (45)) (.bool false) (eq5r hf1 _ _ _) ?_
    refine wl_pick (.tmp 13) (.tmp 17) (.const (.bool false)) true (.bool false) (fun _ => rfl) rfl rfl rfl ?_
    refine w_nil (xn_then (w_condF rfl (w_skip ?_)))
    exact xn_cut ⟨0, false, rfl, rfl, rfl, by omega, rfl, by unfold pfx; rw [hf1]; rfl, M⟩
  | false =>
   have hf0p := of_decide_eq_false hf0
   refine w_reg ?_
   refine wl_m (.tmp 4) (.int .i64 (0)) ?_
   refine wl_m (.tmp 0) (.string s) ?_
   refine wl_val (.int .i64 ((s.size : Nat) : Int)) (len_s _ _ s (by exact rfl) _ _ _ _ _ _) rfl ?_
   refine wl_b .lss 3 (.tmp 9) (.tmp 11) (.int .i64 (0)) (.int .i64 ((s.size : Nat) : Int)) (.bool false) (ltN hf0 _ _ _) ?_
   refine wl_m (.tmp 12) (.bool false) ?_
   refine wl_skip rfl (wl_skip rfl (wl_skip rfl (wl_skip rfl ?_)))
   refine wl_pick (.tmp 13) (.tmp 17) (.const (.bool false)) false (.bool false) (fun _ => rfl) rfl rfl rfl ?_
   refine w_nil (xn_then (w_condF rfl (w_skip ?_)))
   have hb0 : (bt s 0 == 45) = false := by rw [bt_out (by omega)]; rfl
   exact xn_cut ⟨0, false, rfl, rfl, rfl, by omega, rfl, by unfold pfx; rw [hb0]; rfl, M⟩
end Go.Proofs.YthgknegocfhdbaaDoor

