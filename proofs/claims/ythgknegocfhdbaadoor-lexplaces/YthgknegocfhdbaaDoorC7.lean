/-
  A part of the proof.
-/
import Derived.Test.YthgknegocfhdbaaDoorC1
import Derived.Test.YthgknegocfhdbaaDoorC6
import Derived.Test.YthgknegocfhdbaaDoorC2
namespace Go.Proofs.YthgknegocfhdbaaDoor
open Go.RowKit
/-- A byte that is a blank. -/
def isb (c : Int) : Bool := c == 32 || c == 9 || c == 10 || c == 13
/-- The place of the next end of a line, or the text's end. -/
def lnx (s : ByteArray) (k : Nat) : Nat := if h : k < s.size ∧ (bt s k == 10) = false then lnx s (k + 1) else k
termination_by s.size - k
decreasing_by omega
theorem lnx_on {s : ByteArray} {k : Nat} (h : k < s.size) (h2 : (bt s k == 10) = false) : lnx s k = lnx s (k + 1) := by rw [lnx, dif_pos ⟨h, h2⟩]
theorem lnx_at {s : ByteArray} {k : Nat} (h2 : (bt s k == 10) = true) : lnx s k = k := by rw [lnx, dif_neg (fun h => by rw [h2] at h; cases h.2)]
theorem lnx_end {s : ByteArray} {k : Nat} (h : ¬ k < s.size) : lnx s k = k := by rw [lnx, dif_neg (fun h2 => h h2.1)]
theorem lnx_ge (s : ByteArray) : ∀ (d k : Nat), d = s.size - k → k ≤ lnx s k := by
  intro d
  induction d with
  | zero => intro k hd; rw [lnx_end (by omega)]; exact Nat.le_refl _
  | succ d ih =>
    intro k hd
    cases h : (bt s k == 10) with
    | true => rw [lnx_at h]; exact Nat.le_refl _
    | false => rw [lnx_on (by omega) h]; have := ih (k + 1) (by omega); omega
theorem lnx_le (s : ByteArray) : ∀ (d k : Nat), d = s.size - k → k ≤ s.size → lnx s k ≤ s.size := by
  intro d
  induction d with
  | zero => intro k hd hk; rw [lnx_end (by omega)]; exact hk
  | succ d ih =>
    intro k hd hk
    cases h : (bt s k == 10) with
    | true => rw [lnx_at h]; exact hk
    | false => rw [lnx_on (by omega) h]; exact ih (k + 1) (by omega) (by omega)
theorem lnx_ge' (s : ByteArray) (k : Nat) : k ≤ lnx s k := lnx_ge s _ k rfl
theorem lnx_le' {s : ByteArray} {k : Nat} (h : k ≤ s.size) : lnx s k ≤ s.size := lnx_le s _ k rfl h
theorem lnx_bt (s : ByteArray) : ∀ (d k : Nat), d = s.size - k → lnx s k < s.size → (bt s (lnx s k) == 10) = true := by
  intro d
  induction d with
  | zero => intro k hd hk; rw [lnx_end (by omega)] at hk; omega
  | succ d ih =>
    intro k hd hk
    cases h : (bt s k == 10) with
    | true => rw [lnx_at h]; exact h
    | false => rw [lnx_on (by omega) h] at hk ⊢; exact ih (k + 1) (by omega) hk
/-- The place behind blanks. -/
def blk (s : ByteArray) (k : Nat) : Nat :=
  if h : k < s.size then (if isb (bt s k) then blk s (k + 1) else if (bt s k == 47) && (bt s (k + 1) == 47) then blk s (lnx s (k + 1)) else k) else k
termination_by s.size - k
decreasing_by
  · omega
  · have := lnx_ge' s (k + 1); omega
theorem blk_end {s : ByteArray} {k : Nat} (h : ¬ k < s.size) : blk s k = k := by rw [blk, dif_neg h]
theorem blk_b {s : ByteArray} {k : Nat} (h : k < s.size) (h2 : isb (bt s k) = true) : blk s k = blk s (k + 1) := by rw [blk, dif_pos h, h2]; rfl
theorem blk_c {s : ByteArray} {k : Nat} (h : k < s.size) (h2 : isb (bt s k) = false) (h3 : ((bt s k == 47) && (bt s (k + 1) == 47)) = true) : blk s k = blk s (lnx s (k + 1)) := by rw [blk, dif_pos h, h2, h3]; rfl
theorem blk_n {s : ByteArray} {k : Nat} (h2 : isb (bt s k) = false) (h3 : ((bt s k == 47) && (bt s (k + 1) == 47)) = false) : blk s k = k := by
  by_cases h : k < s.size
  · rw [blk, dif_pos h, h2, h3]; rfl
  · exact blk_end h
theorem isb_in {s : ByteArray} {k : Nat} (h : isb (bt s k) = true) : k < s.size := by
  by_cases hk : k < s.size
  · exact hk
  · rw [bt_out hk] at h; cases h
theorem by8_drop {s : ByteArray} {k : Nat} (h : k < s.size) : (by8 s).drop k = s[k] :: (by8 s).drop (k + 1) := by
  have h' : k < (by8 s).length := by rw [by8_len]; exact h
  rw [List.drop_eq_getElem_cons h']; rfl
/-- What IndexByte finds. -/
theorem ixb_nl (s : ByteArray) : ∀ (d k : Nat), d = s.size - k → k ≤ s.size → Lib.indexByte ((by8 s).drop k) 10 = if lnx s k < s.size then ((lnx s k - k : Nat) : Int) else -1 := by
  intro d
  induction d with
  | zero =>
    intro k hd hk
    rw [lnx_end (by omega), if_neg (by omega), List.drop_of_length_le (by rw [by8_len]; omega)]; rfl
  | succ d ih =>
    intro k hd hk
    have hk2 : k < s.size := by omega
    rw [by8_drop hk2]
    have hb : (s[k] == 10) = (bt s k == 10) := by
      rw [bt_in hk2, Bool.eq_iff_iff, beq_iff_eq, beq_iff_eq]
      constructor
      · intro h; rw [h]; rfl
      · intro h
        apply UInt8.toNat_inj.1
        have : (s[k].toNat : Int) = ((10 : UInt8).toNat : Int) := h
        exact Int.ofNat_inj.1 this
    show (if (s[k] == 10) = true then (0 : Int) else if Lib.indexByte ((by8 s).drop (k + 1)) 10 == -1 then -1 else Lib.indexByte ((by8 s).drop (k + 1)) 10 + 1) = _
    rw [hb]
    cases h : (bt s k == 10) with
    | true => rw [lnx_at h, if_pos rfl, if_pos hk2, Nat.sub_self]; rfl
    | false =>
      have hi := ih (k + 1) (by omega) (by omega)
      have hg := lnx_ge' s (k + 1)
      rw [lnx_on hk2 h, hi, if_neg (by simp)]
      by_cases hn : lnx s (k + 1) < s.size
      · rw [if_pos hn, if_pos hn, if_neg (by simp), show ((lnx s (k + 1) - k : Nat) : Int) = ((lnx s (k + 1) - (k + 1) : Nat) : Int) + 1 by omega]
      · rw [if_neg hn, if_neg hn]; rfl
theorem ixb_n (s : ByteArray) (c : Int) (w : World) : Calls Tryd.prog 36 #[.string s, .int .u8 c] w fun e w' => e = .returned (.int .i64 (Lib.indexByte (by8 s) c.toNat.toUInt8)) ∧ Mo w w' :=
  (Tryd.strings_IndexByte s c w).mono fun _ _ ⟨h, e⟩ => ⟨h, e ▸ Mo.refl _⟩
theorem ixb_line {s : ByteArray} {k : Nat} {r : Int} (hk : k ≤ s.size) (hr : r = if lnx s k < s.size then ((lnx s k - k : Nat) : Int) else -1) (w : World) : Calls Tryd.prog 36 #[tx ((by8 s).drop k), .int .u8 10] w fun e w' => e = .returned (.int .i64 r) ∧ Mo w w' := by
  have h := ixb_n ⟨((by8 s).drop k).toArray⟩ 10 w
  have e : Lib.indexByte (by8 ⟨((by8 s).drop k).toArray⟩) (10 : Int).toNat.toUInt8 = r := by rw [hr, ← ixb_nl s _ k rfl hk]; rfl
  rw [e] at h; exact h
theorem addr1 {r : Int} {k : Nat} (h : r = (k : Int)) (hk : k ≤ 9223372036854775806) (x y : Operand) (w : World) : (do eqGuard .add 3 x y (.int .i64 r) (.int .i64 1); binOp .add 3 (.int .i64 r) (.int .i64 1)).run Tryd.prog w = .ok (.int .i64 ((k + 1 : Nat) : Int)) w := by
  subst h; exact add1r hk _ _ _
theorem addk {a b c : Nat} (h : a + b = c) (hc : c ≤ 9223372036854775807) (x y : Operand) (w : World) : (do eqGuard .add 3 x y (.int .i64 (a : Int)) (.int .i64 (b : Int)); binOp .add 3 (.int .i64 (a : Int)) (.int .i64 (b : Int))).run Tryd.prog w = .ok (.int .i64 ((c : Nat) : Int)) w := by
  have e : (do eqGuard .add 3 x y (.int .i64 (a : Int)) (.int .i64 (b : Int)); binOp .add 3 (.int .i64 (a : Int)) (.int .i64 (b : Int))).run Tryd.prog w = .ok (.int .i64 (IntKind.i64.wrap ((a : Int) + b))) w := by kernel_rfl
  have h2 : IntKind.i64.wrap ((a : Int) + b) = ((c : Nat) : Int) := by rw [IntKind.wrap_i64]; omega
  rw [e, h2]
theorem xg_blk {n : Nat} {l : List (Nat × Value)} {w : World} {Q : Exit → Act → World → Prop} {i j : Nat} (h : WX Q (.goto j) n l w) : WX (Exit.inBlock i Q) (.goto j) n l w := ⟨h.out⟩
/-- What is left to do at each label. -/
def BI (s : ByteArray) (R : Nat) (w : World) (i m : Nat) (l : List (Nat × Value)) (w1 : World) : Prop :=
  ∃ k : Nat, look l 0 = .string s ∧ look l 1 = .int .i64 (k : Int) ∧ k ≤ s.size ∧ m = 2 * (s.size + 1 - k) + (1 - i) ∧ i ≤ 1 ∧ (i = 1 → (bt s k == 47) = true) ∧ blk s k = R ∧ Mo w w1
theorem blank_n (s : ByteArray) (a : Nat) (w : World) (hs : s.size ≤ maxLen) (ha : a ≤ s.size) : Calls Tryd.prog 14 #[.string s, .int .i64 ((a : Nat) : Int)] w fun e w' => e = .returned (.int .i64 ((blk s a : Nat) : Int)) ∧ Mo w w' := by
  unfold maxLen at hs
  refine w_enter 46 Tryd.func14 Tryd.ntmps14 rfl rfl ?_
  have M : Mo w w := Mo.refl _
  refine w_seq ?_
  refine w_reg ?_
  refine wl_mv (.const (.int .i64 (0))) (.int .i64 (0)) (fun _ => rfl) rfl rfl ?_
  refine w_nil ?_
  refine xn_then ?_
  refine w_scope1 (BI s (blk s a) w) ?_ ?_ ?_
  · rintro i m l w1 ⟨k, _, _, _, _, hi, _⟩
    match i, hi with
    | 0, _ => rfl
    | 1, _ => rfl
  · skip
    have hB : blk s a = blk s a := rfl
    refine w_seq ?_
    refine w_seq ?_
    refine w_reg ?_
    refine wl_mv (.tmp 1) (.int .i64 ((a : Nat) : Int)) (fun _ => rfl) rfl rfl ?_
    refine wl_bin (fun x y => do eqGuard .lss 3 (.tmp 6) (.const (.int .i64 (0))) x y; binOp .lss 3 x y) (.tmp 6) (.const (.int .i64 (0))) (.int .i64 ((a : Nat) : Int)) (.int .i64 (0)) (.bool false) (fun _ => rfl) rfl rfl (lt3_run (r := false) (decide_eq_false (by omega)) _ _ _) rfl ?_
    refine wl_mv (.tmp 7) (.bool false) (fun _ => rfl) rfl rfl ?_
    refine wl_mv (.tmp 1) (.int .i64 ((a : Nat) : Int)) (fun _ => rfl) rfl rfl ?_
    refine wl_mv (.tmp 0) (.string s) (fun _ => rfl) rfl rfl ?_
    refine wl_val (.int .i64 ((s.size : Nat) : Int)) (len_s _ _ s (by exact rfl) _ _ _ _ _ _) rfl ?_
    refine wl_bin (fun x y => do eqGuard .gtr 3 (.tmp 9) (.tmp 11) x y; binOp .gtr 3 x y) (.tmp 9) (.tmp 11) (.int .i64 ((a : Nat) : Int)) (.int .i64 ((s.size : Nat) : Int)) (.bool false) (fun _ => rfl) rfl rfl (gt3_run (r := false) (decide_eq_false (by omega)) _ _ _) rfl ?_
    refine wl_pick (.tmp 8) (.const (.bool true)) (.tmp 12) false (.bool false) (fun _ => rfl) rfl rfl rfl ?_
    refine w_nil ?_
    refine xn_then ?_
    refine w_condF rfl ?_
    refine w_skip ?_
    refine xn_then ?_
    refine w_seq ?_
    refine w_label ?_
    refine xn_then ?_
    refine w_seq ?_
    refine w_seq ?_
    refine w_reg ?_
    refine wl_mv (.tmp 0) (.string s) (fun _ => rfl) rfl rfl ?_
    refine wl_mv (.tmp 1) (.int .i64 ((a : Nat) : Int)) (fun _ => rfl) rfl rfl ?_
    refine wl_call 35 [(.tmp 15), (.tmp 16)] _ [.string s, .int .i64 ((a : Nat) : Int)] (.int .u8 (bt s (a))) rfl rfl (fun _ _ => by kernel_rfl) (lbyteAt_n s (a) _) rfl ?_
    intro w1 hq
    replace M := M.trans hq
    clear hq
    refine w_nil ?_
    refine xn_then ?_
    refine w_block ?_
    refine w_seq ?_
    refine w_seq ?_
    cases hf0 : (bt s (a) == 32) with
    | true =>
      refine w_reg ?_
      refine wl_bin (fun x y => do eqGuard .eql 5 (.tmp 17) (.const (.int .u8 (32))) x y; binOp .eql 5 x y) (.tmp 17) (.const (.int .u8 (32))) (.int .u8 (bt s (a))) (.int .u8 (32)) (.bool true) (fun _ => rfl) rfl rfl (eq5r hf0 _ _ _) rfl ?_
      refine wl_mv (.tmp 19) (.bool true) (fun _ => rfl) rfl rfl ?_
      refine w_nil ?_
      refine xn_then ?_
      refine w_condT rfl ?_
      refine w_skip ?_
      refine xn_then ?_
      refine w_condT rfl ?_
      refine w_seq ?_
      refine w_reg ?_
      refine wl_mv (.tmp 1) (.int .i64 ((a : Nat) : Int)) (fun _ => rfl) rfl rfl ?_
      have hin := eq_in (by decide) hf0
      refine wl_bin (fun x y => do eqGuard .add 3 (.tmp 23) (.const (.int .i64 (1))) x y; binOp .add 3 x y) (.tmp 23) (.const (.int .i64 (1))) (.int .i64 ((a : Nat) : Int)) (.int .i64 (1)) (.int .i64 ((a + 1 : Nat) : Int)) (fun _ => rfl) rfl rfl (add1r (k := a) (by omega) _ _ _) rfl ?_
      refine wl_mv (.tmp 24) (.int .i64 ((a + 1 : Nat) : Int)) (fun _ => rfl) rfl rfl ?_
      refine w_nil ?_
      refine xn_then ?_
      refine w_goto ?_
      refine xg_blk ?_
      refine xg_then ?_
      exact xg_jump0 _ ⟨a + 1, rfl, rfl, by omega, rfl, by omega, (fun e => by cases e), (blk_b (by omega) (by simp [isb, hf0])).symm.trans hB, M⟩
    | false =>
      refine w_reg ?_
      refine wl_bin (fun x y => do eqGuard .eql 5 (.tmp 17) (.const (.int .u8 (32))) x y; binOp .eql 5 x y) (.tmp 17) (.const (.int .u8 (32))) (.int .u8 (bt s (a))) (.int .u8 (32)) (.bool false) (fun _ => rfl) rfl rfl (eq5r hf0 _ _ _) rfl ?_
      refine wl_mv (.tmp 19) (.bool false) (fun _ => rfl) rfl rfl ?_
      refine w_nil ?_
      refine xn_then ?_
      refine w_condF rfl ?_
      refine w_seq ?_
      cases hf1 : (bt s (a) == 9) with
      | true =>
        refine w_reg ?_
        refine wl_bin (fun x y => do eqGuard .eql 5 (.tmp 17) (.const (.int .u8 (9))) x y; binOp .eql 5 x y) (.tmp 17) (.const (.int .u8 (9))) (.int .u8 (bt s (a))) (.int .u8 (9)) (.bool true) (fun _ => rfl) rfl rfl (eq5r hf1 _ _ _) rfl ?_
        refine wl_mv (.tmp 20) (.bool true) (fun _ => rfl) rfl rfl ?_
        refine w_nil ?_
        refine xn_then ?_
        refine w_condT rfl ?_
        refine w_skip ?_
        refine xn_then ?_
        refine w_condT rfl ?_
        refine w_seq ?_
        refine w_reg ?_
        refine wl_mv (.tmp 1) (.int .i64 ((a : Nat) : Int)) (fun _ => rfl) rfl rfl ?_
        have hin := eq_in (by decide) hf1
        refine wl_bin (fun x y => do eqGuard .add 3 (.tmp 23) (.const (.int .i64 (1))) x y; binOp .add 3 x y) (.tmp 23) (.const (.int .i64 (1))) (.int .i64 ((a : Nat) : Int)) (.int .i64 (1)) (.int .i64 ((a + 1 : Nat) : Int)) (fun _ => rfl) rfl rfl (add1r (k := a) (by omega) _ _ _) rfl ?_
        refine wl_mv (.tmp 24) (.int .i64 ((a + 1 : Nat) : Int)) (fun _ => rfl) rfl rfl ?_
        refine w_nil ?_
        refine xn_then ?_
        refine w_goto ?_
        refine xg_blk ?_
        refine xg_then ?_
        exact xg_jump0 _ ⟨a + 1, rfl, rfl, by omega, rfl, by omega, (fun e => by cases e), (blk_b (by omega) (by simp [isb, hf0, hf1])).symm.trans hB, M⟩
      | false =>
        refine w_reg ?_
        refine wl_bin (fun x y => do eqGuard .eql 5 (.tmp 17) (.const (.int .u8 (9))) x y; binOp .eql 5 x y) (.tmp 17) (.const (.int .u8 (9))) (.int .u8 (bt s (a))) (.int .u8 (9)) (.bool false) (fun _ => rfl) rfl rfl (eq5r hf1 _ _ _) rfl ?_
        refine wl_mv (.tmp 20) (.bool false) (fun _ => rfl) rfl rfl ?_
        refine w_nil ?_
        refine xn_then ?_
        refine w_condF rfl ?_
        refine w_seq ?_
        cases hf2 : (bt s (a) == 10) with
        | true =>
          refine w_reg ?_
          refine wl_bin (fun x y => do eqGuard .eql 5 (.tmp 17) (.const (.int .u8 (10))) x y; binOp .eql 5 x y) (.tmp 17) (.const (.int .u8 (10))) (.int .u8 (bt s (a))) (.int .u8 (10)) (.bool true) (fun _ => rfl) rfl rfl (eq5r hf2 _ _ _) rfl ?_
          refine wl_mv (.tmp 21) (.bool true) (fun _ => rfl) rfl rfl ?_
          refine w_nil ?_
          refine xn_then ?_
          refine w_condT rfl ?_
          refine w_skip ?_
          refine xn_then ?_
          refine w_condT rfl ?_
          refine w_seq ?_
          refine w_reg ?_
          refine wl_mv (.tmp 1) (.int .i64 ((a : Nat) : Int)) (fun _ => rfl) rfl rfl ?_
          have hin := eq_in (by decide) hf2
          refine wl_bin (fun x y => do eqGuard .add 3 (.tmp 23) (.const (.int .i64 (1))) x y; binOp .add 3 x y) (.tmp 23) (.const (.int .i64 (1))) (.int .i64 ((a : Nat) : Int)) (.int .i64 (1)) (.int .i64 ((a + 1 : Nat) : Int)) (fun _ => rfl) rfl rfl (add1r (k := a) (by omega) _ _ _) rfl ?_
          refine wl_mv (.tmp 24) (.int .i64 ((a + 1 : Nat) : Int)) (fun _ => rfl) rfl rfl ?_
          refine w_nil ?_
          refine xn_then ?_
          refine w_goto ?_
          refine xg_blk ?_
          refine xg_then ?_
          exact xg_jump0 _ ⟨a + 1, rfl, rfl, by omega, rfl, by omega, (fun e => by cases e), (blk_b (by omega) (by simp [isb, hf0, hf1, hf2])).symm.trans hB, M⟩
        | false =>
          refine w_reg ?_
          refine wl_bin (fun x y => do eqGuard .eql 5 (.tmp 17) (.const (.int .u8 (10))) x y; binOp .eql 5 x y) (.tmp 17) (.const (.int .u8 (10))) (.int .u8 (bt s (a))) (.int .u8 (10)) (.bool false) (fun _ => rfl) rfl rfl (eq5r hf2 _ _ _) rfl ?_
          refine wl_mv (.tmp 21) (.bool false) (fun _ => rfl) rfl rfl ?_
          refine w_nil ?_
          refine xn_then ?_
          refine w_condF rfl ?_
          cases hf3 : (bt s (a) == 13) with
          | true =>
            refine w_reg ?_
            refine wl_bin (fun x y => do eqGuard .eql 5 (.tmp 17) (.const (.int .u8 (13))) x y; binOp .eql 5 x y) (.tmp 17) (.const (.int .u8 (13))) (.int .u8 (bt s (a))) (.int .u8 (13)) (.bool true) (fun _ => rfl) rfl rfl (eq5r hf3 _ _ _) rfl ?_
            refine wl_mv (.tmp 22) (.bool true) (fun _ => rfl) rfl rfl ?_
            refine w_nil ?_
            refine xn_then ?_
            refine w_condT rfl ?_
            refine w_seq ?_
            refine w_reg ?_
            refine wl_mv (.tmp 1) (.int .i64 ((a : Nat) : Int)) (fun _ => rfl) rfl rfl ?_
            have hin := eq_in (by decide) hf3
            refine wl_bin (fun x y => do eqGuard .add 3 (.tmp 23) (.const (.int .i64 (1))) x y; binOp .add 3 x y) (.tmp 23) (.const (.int .i64 (1))) (.int .i64 ((a : Nat) : Int)) (.int .i64 (1)) (.int .i64 ((a + 1 : Nat) : Int)) (fun _ => rfl) rfl rfl (add1r (k := a) (by omega) _ _ _) rfl ?_
            refine wl_mv (.tmp 24) (.int .i64 ((a + 1 : Nat) : Int)) (fun _ => rfl) rfl rfl ?_
            refine w_nil ?_
            refine xn_then ?_
            refine w_goto ?_
            refine xg_blk ?_
            refine xg_then ?_
            exact xg_jump0 _ ⟨a + 1, rfl, rfl, by omega, rfl, by omega, (fun e => by cases e), (blk_b (by omega) (by simp [isb, hf0, hf1, hf2, hf3])).symm.trans hB, M⟩
          | false =>
            refine w_reg ?_
            refine wl_bin (fun x y => do eqGuard .eql 5 (.tmp 17) (.const (.int .u8 (13))) x y; binOp .eql 5 x y) (.tmp 17) (.const (.int .u8 (13))) (.int .u8 (bt s (a))) (.int .u8 (13)) (.bool false) (fun _ => rfl) rfl rfl (eq5r hf3 _ _ _) rfl ?_
            refine wl_mv (.tmp 22) (.bool false) (fun _ => rfl) rfl rfl ?_
            refine w_nil ?_
            refine xn_then ?_
            refine w_condF rfl ?_
            refine w_seq ?_
            cases hf4 : (bt s (a) == 47) with
            | true =>
              refine w_reg ?_
              refine wl_bin (fun x y => do eqGuard .eql 5 (.tmp 17) (.const (.int .u8 (47))) x y; binOp .eql 5 x y) (.tmp 17) (.const (.int .u8 (47))) (.int .u8 (bt s (a))) (.int .u8 (47)) (.bool true) (fun _ => rfl) rfl rfl (eq5r hf4 _ _ _) rfl ?_
              refine wl_mv (.tmp 26) (.bool true) (fun _ => rfl) rfl rfl ?_
              refine w_nil ?_
              refine xn_then ?_
              refine w_condT rfl ?_
              refine w_goto ?_
              refine xg_blk ?_
              refine xg_then ?_
              exact xg_jump0 _ ⟨a, rfl, rfl, by omega, rfl, by omega, fun _ => hf4, hB, M⟩
            | false =>
              refine w_reg ?_
              refine wl_bin (fun x y => do eqGuard .eql 5 (.tmp 17) (.const (.int .u8 (47))) x y; binOp .eql 5 x y) (.tmp 17) (.const (.int .u8 (47))) (.int .u8 (bt s (a))) (.int .u8 (47)) (.bool false) (fun _ => rfl) rfl rfl (eq5r hf4 _ _ _) rfl ?_
              refine wl_mv (.tmp 26) (.bool false) (fun _ => rfl) rfl rfl ?_
              refine w_nil ?_
              refine xn_then ?_
              refine w_condF rfl ?_
              refine w_skip ?_
              refine xn_blk ?_
              refine xn_then ?_
              refine w_seq ?_
              refine w_seq ?_
              refine w_reg ?_
              refine wl_mv (.tmp 1) (.int .i64 ((a : Nat) : Int)) (fun _ => rfl) rfl rfl ?_
              refine wl_mv (.tmp 27) (.int .i64 ((a : Nat) : Int)) (fun _ => rfl) rfl rfl ?_
              refine w_nil ?_
              refine xn_then ?_
              refine w_ret ?_
              refine xr_then ?_
              refine xr_jumps ?_
              exact w_ret1 _ (.int .i64 ((a : Nat) : Int)) rfl rfl ⟨by rw [← hB, blk_n (by simp [isb, hf0, hf1, hf2, hf3]) (by rw [hf4]; rfl)], M⟩
  · clear M
    rintro i m l wl ⟨k, e0, e1, hk, hm, hi, hp, hB, M⟩
    subst hm
    match i, hi, hp with
    | 0, _, _ =>
      refine w_seq ?_
      refine w_skip ?_
      refine xn_then ?_
      refine w_seq ?_
      refine w_seq ?_
      refine w_reg ?_
      refine wl_mv (.tmp 0) (.string s) (fun _ => rfl) e0 rfl ?_
      refine wl_mv (.tmp 1) (.int .i64 ((k : Nat) : Int)) (fun _ => rfl) e1 rfl ?_
      refine wl_call 35 [(.tmp 15), (.tmp 16)] _ [.string s, .int .i64 ((k : Nat) : Int)] (.int .u8 (bt s (k))) rfl rfl (fun _ _ => by kernel_rfl) (lbyteAt_n s (k) _) rfl ?_
      intro w11 hq
      replace M := M.trans hq
      clear hq
      refine w_nil ?_
      refine xn_then ?_
      refine w_block ?_
      refine w_seq ?_
      refine w_seq ?_
      cases hf0 : (bt s (k) == 32) with
      | true =>
        refine w_reg ?_
        refine wl_bin (fun x y => do eqGuard .eql 5 (.tmp 17) (.const (.int .u8 (32))) x y; binOp .eql 5 x y) (.tmp 17) (.const (.int .u8 (32))) (.int .u8 (bt s (k))) (.int .u8 (32)) (.bool true) (fun _ => rfl) rfl rfl (eq5r hf0 _ _ _) rfl ?_
        refine wl_mv (.tmp 19) (.bool true) (fun _ => rfl) rfl rfl ?_
        refine w_nil ?_
        refine xn_then ?_
        refine w_condT rfl ?_
        refine w_skip ?_
        refine xn_then ?_
        refine w_condT rfl ?_
        refine w_seq ?_
        refine w_reg ?_
        refine wl_mv (.tmp 1) (.int .i64 ((k : Nat) : Int)) (fun _ => rfl) e1 rfl ?_
        have hin := eq_in (by decide) hf0
        refine wl_bin (fun x y => do eqGuard .add 3 (.tmp 23) (.const (.int .i64 (1))) x y; binOp .add 3 x y) (.tmp 23) (.const (.int .i64 (1))) (.int .i64 ((k : Nat) : Int)) (.int .i64 (1)) (.int .i64 ((k + 1 : Nat) : Int)) (fun _ => rfl) rfl rfl (add1r (k := k) (by omega) _ _ _) rfl ?_
        refine wl_mv (.tmp 24) (.int .i64 ((k + 1 : Nat) : Int)) (fun _ => rfl) rfl rfl ?_
        refine w_nil ?_
        refine xn_then ?_
        refine w_goto ?_
        refine xg_blk ?_
        refine xg_then ?_
        exact xg_jump (2 * (s.size + 1 - (k + 1)) + (1 - 0)) (by omega) ⟨k + 1, e0, rfl, by omega, rfl, by omega, (fun e => by cases e), (blk_b (by omega) (by simp [isb, hf0])).symm.trans hB, M⟩
      | false =>
        refine w_reg ?_
        refine wl_bin (fun x y => do eqGuard .eql 5 (.tmp 17) (.const (.int .u8 (32))) x y; binOp .eql 5 x y) (.tmp 17) (.const (.int .u8 (32))) (.int .u8 (bt s (k))) (.int .u8 (32)) (.bool false) (fun _ => rfl) rfl rfl (eq5r hf0 _ _ _) rfl ?_
        refine wl_mv (.tmp 19) (.bool false) (fun _ => rfl) rfl rfl ?_
        refine w_nil ?_
        refine xn_then ?_
        refine w_condF rfl ?_
        refine w_seq ?_
        cases hf1 : (bt s (k) == 9) with
        | true =>
          refine w_reg ?_
          refine wl_bin (fun x y => do eqGuard .eql 5 (.tmp 17) (.const (.int .u8 (9))) x y; binOp .eql 5 x y) (.tmp 17) (.const (.int .u8 (9))) (.int .u8 (bt s (k))) (.int .u8 (9)) (.bool true) (fun _ => rfl) rfl rfl (eq5r hf1 _ _ _) rfl ?_
          refine wl_mv (.tmp 20) (.bool true) (fun _ => rfl) rfl rfl ?_
          refine w_nil ?_
          refine xn_then ?_
          refine w_condT rfl ?_
          refine w_skip ?_
          refine xn_then ?_
          refine w_condT rfl ?_
          refine w_seq ?_
          refine w_reg ?_
          refine wl_mv (.tmp 1) (.int .i64 ((k : Nat) : Int)) (fun _ => rfl) e1 rfl ?_
          have hin := eq_in (by decide) hf1
          refine wl_bin (fun x y => do eqGuard .add 3 (.tmp 23) (.const (.int .i64 (1))) x y; binOp .add 3 x y) (.tmp 23) (.const (.int .i64 (1))) (.int .i64 ((k : Nat) : Int)) (.int .i64 (1)) (.int .i64 ((k + 1 : Nat) : Int)) (fun _ => rfl) rfl rfl (add1r (k := k) (by omega) _ _ _) rfl ?_
          refine wl_mv (.tmp 24) (.int .i64 ((k + 1 : Nat) : Int)) (fun _ => rfl) rfl rfl ?_
          refine w_nil ?_
          refine xn_then ?_
          refine w_goto ?_
          refine xg_blk ?_
          refine xg_then ?_
          exact xg_jump (2 * (s.size + 1 - (k + 1)) + (1 - 0)) (by omega) ⟨k + 1, e0, rfl, by omega, rfl, by omega, (fun e => by cases e), (blk_b (by omega) (by simp [isb, hf0, hf1])).symm.trans hB, M⟩
        | false =>
          refine w_reg ?_
          refine wl_bin (fun x y => do eqGuard .eql 5 (.tmp 17) (.const (.int .u8 (9))) x y; binOp .eql 5 x y) (.tmp 17) (.const (.int .u8 (9))) (.int .u8 (bt s (k))) (.int .u8 (9)) (.bool false) (fun _ => rfl) rfl rfl (eq5r hf1 _ _ _) rfl ?_
          refine wl_mv (.tmp 20) (.bool false) (fun _ => rfl) rfl rfl ?_
          refine w_nil ?_
          refine xn_then ?_
          refine w_condF rfl ?_
          refine w_seq ?_
          cases hf2 : (bt s (k) == 10) with
          | true =>
            refine w_reg ?_
            refine wl_bin (fun x y => do eqGuard .eql 5 (.tmp 17) (.const (.int .u8 (10))) x y; binOp .eql 5 x y) (.tmp 17) (.const (.int .u8 (10))) (.int .u8 (bt s (k))) (.int .u8 (10)) (.bool true) (fun _ => rfl) rfl rfl (eq5r hf2 _ _ _) rfl ?_
            refine wl_mv (.tmp 21) (.bool true) (fun _ => rfl) rfl rfl ?_
            refine w_nil ?_
            refine xn_then ?_
            refine w_condT rfl ?_
            refine w_skip ?_
            refine xn_then ?_
            refine w_condT rfl ?_
            refine w_seq ?_
            refine w_reg ?_
            refine wl_mv (.tmp 1) (.int .i64 ((k : Nat) : Int)) (fun _ => rfl) e1 rfl ?_
            have hin := eq_in (by decide) hf2
            refine wl_bin (fun x y => do eqGuard .add 3 (.tmp 23) (.const (.int .i64 (1))) x y; binOp .add 3 x y) (.tmp 23) (.const (.int .i64 (1))) (.int .i64 ((k : Nat) : Int)) (.int .i64 (1)) (.int .i64 ((k + 1 : Nat) : Int)) (fun _ => rfl) rfl rfl (add1r (k := k) (by omega) _ _ _) rfl ?_
            refine wl_mv (.tmp 24) (.int .i64 ((k + 1 : Nat) : Int)) (fun _ => rfl) rfl rfl ?_
            refine w_nil ?_
            refine xn_then ?_
            refine w_goto ?_
            refine xg_blk ?_
            refine xg_then ?_
            exact xg_jump (2 * (s.size + 1 - (k + 1)) + (1 - 0)) (by omega) ⟨k + 1, e0, rfl, by omega, rfl, by omega, (fun e => by cases e), (blk_b (by omega) (by simp [isb, hf0, hf1, hf2])).symm.trans hB, M⟩
          | false =>
            refine w_reg ?_
            refine wl_bin (fun x y => do eqGuard .eql 5 (.tmp 17) (.const (.int .u8 (10))) x y; binOp .eql 5 x y) (.tmp 17) (.const (.int .u8 (10))) (.int .u8 (bt s (k))) (.int .u8 (10)) (.bool false) (fun _ => rfl) rfl rfl (eq5r hf2 _ _ _) rfl ?_
            refine wl_mv (.tmp 21) (.bool false) (fun _ => rfl) rfl rfl ?_
            refine w_nil ?_
            refine xn_then ?_
            refine w_condF rfl ?_
            cases hf3 : (bt s (k) == 13) with
            | true =>
              refine w_reg ?_
              refine wl_bin (fun x y => do eqGuard .eql 5 (.tmp 17) (.const (.int .u8 (13))) x y; binOp .eql 5 x y) (.tmp 17) (.const (.int .u8 (13))) (.int .u8 (bt s (k))) (.int .u8 (13)) (.bool true) (fun _ => rfl) rfl rfl (eq5r hf3 _ _ _) rfl ?_
              refine wl_mv (.tmp 22) (.bool true) (fun _ => rfl) rfl rfl ?_
              refine w_nil ?_
              refine xn_then ?_
              refine w_condT rfl ?_
              refine w_seq ?_
              refine w_reg ?_
              refine wl_mv (.tmp 1) (.int .i64 ((k : Nat) : Int)) (fun _ => rfl) e1 rfl ?_
              have hin := eq_in (by decide) hf3
              refine wl_bin (fun x y => do eqGuard .add 3 (.tmp 23) (.const (.int .i64 (1))) x y; binOp .add 3 x y) (.tmp 23) (.const (.int .i64 (1))) (.int .i64 ((k : Nat) : Int)) (.int .i64 (1)) (.int .i64 ((k + 1 : Nat) : Int)) (fun _ => rfl) rfl rfl (add1r (k := k) (by omega) _ _ _) rfl ?_
              refine wl_mv (.tmp 24) (.int .i64 ((k + 1 : Nat) : Int)) (fun _ => rfl) rfl rfl ?_
              refine w_nil ?_
              refine xn_then ?_
              refine w_goto ?_
              refine xg_blk ?_
              refine xg_then ?_
              exact xg_jump (2 * (s.size + 1 - (k + 1)) + (1 - 0)) (by omega) ⟨k + 1, e0, rfl, by omega, rfl, by omega, (fun e => by cases e), (blk_b (by omega) (by simp [isb, hf0, hf1, hf2, hf3])).symm.trans hB, M⟩
            | false =>
              refine w_reg ?_
              refine wl_bin (fun x y => do eqGuard .eql 5 (.tmp 17) (.const (.int .u8 (13))) x y; binOp .eql 5 x y) (.tmp 17) (.const (.int .u8 (13))) (.int .u8 (bt s (k))) (.int .u8 (13)) (.bool false) (fun _ => rfl) rfl rfl (eq5r hf3 _ _ _) rfl ?_
              refine wl_mv (.tmp 22) (.bool false) (fun _ => rfl) rfl rfl ?_
              refine w_nil ?_
              refine xn_then ?_
              refine w_condF rfl ?_
              refine w_seq ?_
              cases hf4 : (bt s (k) == 47) with
              | true =>
                refine w_reg ?_
                refine wl_bin (fun x y => do eqGuard .eql 5 (.tmp 17) (.const (.int .u8 (47))) x y; binOp .eql 5 x y) (.tmp 17) (.const (.int .u8 (47))) (.int .u8 (bt s (k))) (.int .u8 (47)) (.bool true) (fun _ => rfl) rfl rfl (eq5r hf4 _ _ _) rfl ?_
                refine wl_mv (.tmp 26) (.bool true) (fun _ => rfl) rfl rfl ?_
                refine w_nil ?_
                refine xn_then ?_
                refine w_condT rfl ?_
                refine w_goto ?_
                refine xg_blk ?_
                refine xg_then ?_
                exact xg_jump (2 * (s.size + 1 - (k)) + (1 - 1)) (by omega) ⟨k, e0, e1, by omega, rfl, by omega, fun _ => hf4, hB, M⟩
              | false =>
                refine w_reg ?_
                refine wl_bin (fun x y => do eqGuard .eql 5 (.tmp 17) (.const (.int .u8 (47))) x y; binOp .eql 5 x y) (.tmp 17) (.const (.int .u8 (47))) (.int .u8 (bt s (k))) (.int .u8 (47)) (.bool false) (fun _ => rfl) rfl rfl (eq5r hf4 _ _ _) rfl ?_
                refine wl_mv (.tmp 26) (.bool false) (fun _ => rfl) rfl rfl ?_
                refine w_nil ?_
                refine xn_then ?_
                refine w_condF rfl ?_
                refine w_skip ?_
                refine xn_blk ?_
                refine xn_then ?_
                refine w_seq ?_
                refine w_seq ?_
                refine w_reg ?_
                refine wl_mv (.tmp 1) (.int .i64 ((k : Nat) : Int)) (fun _ => rfl) e1 rfl ?_
                refine wl_mv (.tmp 27) (.int .i64 ((k : Nat) : Int)) (fun _ => rfl) rfl rfl ?_
                refine w_nil ?_
                refine xn_then ?_
                refine w_ret ?_
                refine xr_then ?_
                refine xr_jumps ?_
                exact w_ret1 _ (.int .i64 ((k : Nat) : Int)) rfl rfl ⟨by rw [← hB, blk_n (by simp [isb, hf0, hf1, hf2, hf3]) (by rw [hf4]; rfl)], M⟩
    | 1, _, hp =>
      have h47 := hp rfl
      have hin := eq_in (by decide) h47
      have hnb : isb (bt s k) = false := by rw [eq_of_beq h47]; rfl
      have hn10 : (bt s k == 10) = false := by rw [eq_of_beq h47]; rfl
      have hnl := lnx_on hin hn10
      have hge := lnx_ge' s (k + 1)
      have hle := lnx_le' (s := s) (k := k) (by omega)
      obtain ⟨r, hr⟩ : ∃ r, r = if lnx s k < s.size then ((lnx s k - k : Nat) : Int) else -1 := ⟨_, rfl⟩
      refine w_seq ?_
      refine w_skip ?_
      refine xn_then ?_
      refine w_seq ?_
      refine w_seq ?_
      cases hf0 : (bt s (k + 1) == 47) with
      | true =>
        refine w_reg ?_
        refine wl_mv (.tmp 0) (.string s) (fun _ => rfl) e0 rfl ?_
        refine wl_mv (.tmp 1) (.int .i64 ((k : Nat) : Int)) (fun _ => rfl) e1 rfl ?_
        refine wl_bin (fun x y => do eqGuard .add 3 (.tmp 29) (.const (.int .i64 (1))) x y; binOp .add 3 x y) (.tmp 29) (.const (.int .i64 (1))) (.int .i64 ((k : Nat) : Int)) (.int .i64 (1)) (.int .i64 ((k + 1 : Nat) : Int)) (fun _ => rfl) rfl rfl (add1r (k := k) (by omega) _ _ _) rfl ?_
        refine wl_call 35 [(.tmp 28), (.tmp 30)] _ [.string s, .int .i64 ((k + 1 : Nat) : Int)] (.int .u8 (bt s (k + 1))) rfl rfl (fun _ _ => by kernel_rfl) (lbyteAt_n s (k + 1) _) rfl ?_
        intro w11 hq
        replace M := M.trans hq
        clear hq
        refine wl_bin (fun x y => do eqGuard .neq 5 (.tmp 31) (.const (.int .u8 (47))) x y; binOp .neq 5 x y) (.tmp 31) (.const (.int .u8 (47))) (.int .u8 (bt s (k + 1))) (.int .u8 (47)) (.bool false) (fun _ => rfl) rfl rfl (ne5r hf0 _ _ _) rfl ?_
        refine w_nil ?_
        refine xn_then ?_
        refine w_condF rfl ?_
        refine w_skip ?_
        refine xn_then ?_
        refine w_seq ?_
        refine w_reg ?_
        refine wl_mv (.tmp 0) (.string s) (fun _ => rfl) e0 rfl ?_
        refine wl_mv (.tmp 1) (.int .i64 ((k : Nat) : Int)) (fun _ => rfl) e1 rfl ?_
        refine wl_val (tx ((by8 s).drop k)) (lo_run _ _ _ (by8 s) k (by exact rfl) (by exact rfl) (by rw [by8_len]; omega) _ _ _ _ _ _) rfl ?_
        refine wl_call 36 [(.tmp 36), (.const (.int .u8 (10)))] _ [tx ((by8 s).drop k), .int .u8 (10)] (.int .i64 (r)) rfl rfl (fun _ _ => by kernel_rfl) (ixb_line (s := s) (k := k) (r := r) (by omega) hr _) rfl ?_
        intro w12 hq
        replace M := M.trans hq
        clear hq
        refine wl_mv (.tmp 37) (.int .i64 (r)) (fun _ => rfl) rfl rfl ?_
        refine w_nil ?_
        refine xn_then ?_
        refine w_seq ?_
        refine w_seq ?_
        cases hf1 : decide (r < 0) with
        | true =>
          have hf1p := of_decide_eq_true hf1
          refine w_reg ?_
          refine wl_mv (.tmp 5) (.int .i64 (r)) (fun _ => rfl) rfl rfl ?_
          refine wl_bin (fun x y => do eqGuard .lss 3 (.tmp 38) (.const (.int .i64 (0))) x y; binOp .lss 3 x y) (.tmp 38) (.const (.int .i64 (0))) (.int .i64 (r)) (.int .i64 (0)) (.bool true) (fun _ => rfl) rfl rfl (lt3_run hf1 _ _ _) rfl ?_
          refine w_nil ?_
          refine xn_then ?_
          refine w_condT rfl ?_
          refine w_seq ?_
          refine w_reg ?_
          refine wl_mv (.tmp 0) (.string s) (fun _ => rfl) e0 rfl ?_
          refine wl_val (.int .i64 ((s.size : Nat) : Int)) (len_s _ _ s (by exact rfl) _ _ _ _ _ _) rfl ?_
          refine wl_mv (.tmp 41) (.int .i64 ((s.size : Nat) : Int)) (fun _ => rfl) rfl rfl ?_
          refine w_nil ?_
          refine xn_then ?_
          refine w_ret ?_
          refine xr_then ?_
          refine xr_jumps ?_
          have hstep : blk s k = blk s (lnx s k) := by rw [hnl]; exact blk_c hin hnb (by rw [h47, hf0]; rfl)
          exact w_ret1 _ (.int .i64 ((s.size : Nat) : Int)) rfl rfl ⟨by rw [← hB, hstep, show lnx s k = s.size from (by rcases Nat.lt_or_ge (lnx s k) s.size with h | h; (rw [if_pos h] at hr; omega); omega), blk_end (by omega)], M⟩
        | false =>
          have hf1p := of_decide_eq_false hf1
          refine w_reg ?_
          refine wl_mv (.tmp 5) (.int .i64 (r)) (fun _ => rfl) rfl rfl ?_
          refine wl_bin (fun x y => do eqGuard .lss 3 (.tmp 38) (.const (.int .i64 (0))) x y; binOp .lss 3 x y) (.tmp 38) (.const (.int .i64 (0))) (.int .i64 (r)) (.int .i64 (0)) (.bool false) (fun _ => rfl) rfl rfl (lt3_run hf1 _ _ _) rfl ?_
          refine w_nil ?_
          refine xn_then ?_
          refine w_condF rfl ?_
          refine w_skip ?_
          refine xn_then ?_
          refine w_seq ?_
          refine w_reg ?_
          refine wl_mv (.tmp 1) (.int .i64 ((k : Nat) : Int)) (fun _ => rfl) e1 rfl ?_
          refine wl_mv (.tmp 5) (.int .i64 (r)) (fun _ => rfl) rfl rfl ?_
          have hnlt : lnx s k < s.size := by rcases Nat.lt_or_ge (lnx s k) s.size with h | h; (exact h); (rw [if_neg (by omega)] at hr; omega)
          have hrn : r = ((lnx s k - k : Nat) : Int) := by rw [hr, if_pos hnlt]
          refine wl_bin (fun x y => do eqGuard .add 3 (.tmp 43) (.const (.int .i64 (1))) x y; binOp .add 3 x y) (.tmp 43) (.const (.int .i64 (1))) (.int .i64 (r)) (.int .i64 (1)) (.int .i64 ((lnx s k - k + 1 : Nat) : Int)) (fun _ => rfl) rfl rfl (addr1 hrn (by omega) _ _ _) rfl ?_
          refine wl_bin (fun x y => do eqGuard .add 3 (.tmp 42) (.tmp 44) x y; binOp .add 3 x y) (.tmp 42) (.tmp 44) (.int .i64 ((k : Nat) : Int)) (.int .i64 ((lnx s k - k + 1 : Nat) : Int)) (.int .i64 ((lnx s k + 1 : Nat) : Int)) (fun _ => rfl) rfl rfl (addk (by omega) (by omega) _ _ _) rfl ?_
          refine wl_mv (.tmp 45) (.int .i64 ((lnx s k + 1 : Nat) : Int)) (fun _ => rfl) rfl rfl ?_
          refine w_nil ?_
          refine xn_then ?_
          refine w_goto ?_
          have hstep : blk s k = blk s (lnx s k) := by rw [hnl]; exact blk_c hin hnb (by rw [h47, hf0]; rfl)
          exact xg_jump (2 * (s.size + 1 - (lnx s k + 1)) + (1 - 0)) (by omega) ⟨lnx s k + 1, e0, rfl, by omega, rfl, by omega, (fun e => by cases e), (blk_b (by omega) (by have h := lnx_bt s _ k rfl (by omega); simp [isb, h])).symm.trans (hstep.symm.trans hB), M⟩
      | false =>
        refine w_reg ?_
        refine wl_mv (.tmp 0) (.string s) (fun _ => rfl) e0 rfl ?_
        refine wl_mv (.tmp 1) (.int .i64 ((k : Nat) : Int)) (fun _ => rfl) e1 rfl ?_
        refine wl_bin (fun x y => do eqGuard .add 3 (.tmp 29) (.const (.int .i64 (1))) x y; binOp .add 3 x y) (.tmp 29) (.const (.int .i64 (1))) (.int .i64 ((k : Nat) : Int)) (.int .i64 (1)) (.int .i64 ((k + 1 : Nat) : Int)) (fun _ => rfl) rfl rfl (add1r (k := k) (by omega) _ _ _) rfl ?_
        refine wl_call 35 [(.tmp 28), (.tmp 30)] _ [.string s, .int .i64 ((k + 1 : Nat) : Int)] (.int .u8 (bt s (k + 1))) rfl rfl (fun _ _ => by kernel_rfl) (lbyteAt_n s (k + 1) _) rfl ?_
        intro w11 hq
        replace M := M.trans hq
        clear hq
        refine wl_bin (fun x y => do eqGuard .neq 5 (.tmp 31) (.const (.int .u8 (47))) x y; binOp .neq 5 x y) (.tmp 31) (.const (.int .u8 (47))) (.int .u8 (bt s (k + 1))) (.int .u8 (47)) (.bool true) (fun _ => rfl) rfl rfl (ne5r hf0 _ _ _) rfl ?_
        refine w_nil ?_
        refine xn_then ?_
        refine w_condT rfl ?_
        refine w_seq ?_
        refine w_reg ?_
        refine wl_mv (.tmp 1) (.int .i64 ((k : Nat) : Int)) (fun _ => rfl) e1 rfl ?_
        refine wl_mv (.tmp 33) (.int .i64 ((k : Nat) : Int)) (fun _ => rfl) rfl rfl ?_
        refine w_nil ?_
        refine xn_then ?_
        refine w_ret ?_
        refine xr_then ?_
        refine xr_jumps ?_
        exact w_ret1 _ (.int .i64 ((k : Nat) : Int)) rfl rfl ⟨by rw [← hB, blk_n hnb (by rw [h47, hf0]; rfl)], M⟩
end Go.Proofs.YthgknegocfhdbaaDoor
namespace Go.Proofs.YthgknegocfhdbaaDoor
open Go.RowKit
theorem eq9 {a b : ByteArray} {r : Bool} (h : (a.toList == b.toList) = r) (x y : Operand) (w : World) : (do eqGuard .eql 9 x y (.string a) (.string b); binOp .eql 9 (.string a) (.string b)).run Tryd.prog w = .ok (.bool r) w := by
  subst h; simp [go_sem]
theorem eqz9 {s : ByteArray} {r : Bool} (h : decide (s.size = 0) = r) (x y : Operand) (w : World) : (do eqGuard .eql 9 x y (.string s) (.string ⟨#[]⟩); binOp .eql 9 (.string s) (.string ⟨#[]⟩)).run Tryd.prog w = .ok (.bool r) w := by
  refine eq9 (r := r) ?_ _ _ _
  rw [← h, Lib.toList_data, Lib.toList_data, Bool.eq_iff_iff, beq_iff_eq, decide_eq_true_iff, ← by8_len]
  exact List.length_eq_zero_iff.symm
theorem idx0z {s : ByteArray} (h : 0 < s.size) (w : World) : (Instr.index 9 (.string s) (.int .i64 (0))).run Tryd.prog w = .ok (.int .u8 (bt s (0))) w := idx_b (k := 0) h w
theorem ltr_c {f : Nat} {c : Int} {r : Bool} (h : ltr c = r) (hf : ∀ (c : Int) (w : World), Calls Tryd.prog f #[.int .u8 c] w fun e w' => e = .returned (.bool (ltr c)) ∧ Mo w w') (w : World) : Calls Tryd.prog f #[.int .u8 c] w fun e w' => e = .returned (.bool r) ∧ Mo w w' := h ▸ hf c w
theorem dgt_c {f : Nat} {c : Int} {r : Bool} (h : dgt c = r) (hf : ∀ (c : Int) (w : World), Calls Tryd.prog f #[.int .u8 c] w fun e w' => e = .returned (.bool (dgt c)) ∧ Mo w w') (w : World) : Calls Tryd.prog f #[.int .u8 c] w fun e w' => e = .returned (.bool r) ∧ Mo w w' := h ▸ hf c w
theorem rblank_n (s : ByteArray) (a : Nat) (w : World) (hs : s.size ≤ maxLen) (ha : a ≤ s.size) : Calls Tryd.prog 15 #[.string s, .int .i64 ((a : Nat) : Int)] w fun e w' => e = .returned (.int .i64 ((blk s a : Nat) : Int)) ∧ Mo w w' := by
  unfold maxLen at hs
  refine w_enter 70 Tryd.func15 Tryd.ntmps15 rfl rfl ?_
  have M : Mo w w := Mo.refl _
  refine w_seq ?_
  refine w_reg ?_
  refine wl_mv (.const (.int .i64 (0))) (.int .i64 (0)) (fun _ => rfl) rfl rfl ?_
  refine w_nil ?_
  refine xn_then ?_
  refine w_seq ?_
  refine w_seq ?_
  refine w_reg ?_
  refine wl_mv (.tmp 1) (.int .i64 ((a : Nat) : Int)) (fun _ => rfl) rfl rfl ?_
  refine wl_bin (fun x y => do eqGuard .lss 3 (.tmp 6) (.const (.int .i64 (0))) x y; binOp .lss 3 x y) (.tmp 6) (.const (.int .i64 (0))) (.int .i64 ((a : Nat) : Int)) (.int .i64 (0)) (.bool false) (fun _ => rfl) rfl rfl (lt3_run (r := false) (decide_eq_false (by omega)) _ _ _) rfl ?_
  refine wl_mv (.tmp 7) (.bool false) (fun _ => rfl) rfl rfl ?_
  refine wl_mv (.tmp 1) (.int .i64 ((a : Nat) : Int)) (fun _ => rfl) rfl rfl ?_
  refine wl_mv (.tmp 0) (.string s) (fun _ => rfl) rfl rfl ?_
  refine wl_val (.int .i64 ((s.size : Nat) : Int)) (len_s _ _ s (by exact rfl) _ _ _ _ _ _) rfl ?_
  refine wl_bin (fun x y => do eqGuard .gtr 3 (.tmp 9) (.tmp 11) x y; binOp .gtr 3 x y) (.tmp 9) (.tmp 11) (.int .i64 ((a : Nat) : Int)) (.int .i64 ((s.size : Nat) : Int)) (.bool false) (fun _ => rfl) rfl rfl (gt3_run (r := false) (decide_eq_false (by omega)) _ _ _) rfl ?_
  refine wl_pick (.tmp 8) (.const (.bool true)) (.tmp 12) false (.bool false) (fun _ => rfl) rfl rfl rfl ?_
  refine w_nil ?_
  refine xn_then ?_
  refine w_condF rfl ?_
  refine w_skip ?_
  refine xn_then ?_
  refine w_seq ?_
  refine w_block ?_
  refine w_loop (fun m l w1 => ∃ k : Nat, m = s.size - k ∧ look l 0 = .string s ∧ look l 1 = .int .i64 ((k : Nat) : Int) ∧ k ≤ s.size ∧ blk s k = blk s a ∧ Mo w w1) _ ⟨a, rfl, rfl, rfl, ha, rfl, M⟩ ?_
  clear M
  rintro m l wl ⟨k, rfl, e0, e1, hk, hB, M⟩
  refine w_seq ?_
  refine w_seq ?_
  cases hf0 : decide (k < s.size) with
  | true =>
    have hf0p := of_decide_eq_true hf0
    refine w_reg ?_
    refine wl_mv (.tmp 1) (.int .i64 ((k : Nat) : Int)) (fun _ => rfl) e1 rfl ?_
    refine wl_mv (.tmp 0) (.string s) (fun _ => rfl) e0 rfl ?_
    refine wl_val (.int .i64 ((s.size : Nat) : Int)) (len_s _ _ s (by exact rfl) _ _ _ _ _ _) rfl ?_
    refine wl_bin (fun x y => do eqGuard .lss 3 (.tmp 15) (.tmp 17) x y; binOp .lss 3 x y) (.tmp 15) (.tmp 17) (.int .i64 ((k : Nat) : Int)) (.int .i64 ((s.size : Nat) : Int)) (.bool true) (fun _ => rfl) rfl rfl (ltN hf0 _ _ _) rfl ?_
    refine w_nil ?_
    refine xn_then ?_
    refine w_condT rfl ?_
    refine w_skip ?_
    refine xn_then ?_
    refine w_block ?_
    refine w_seq ?_
    refine w_reg ?_
    refine wl_mv (.tmp 0) (.string s) (fun _ => rfl) e0 rfl ?_
    refine wl_mv (.tmp 1) (.int .i64 ((k : Nat) : Int)) (fun _ => rfl) e1 rfl ?_
    refine wl_bin (fun x y => Instr.index 9 x y) (.tmp 19) (.tmp 20) (.string s) (.int .i64 ((k : Nat) : Int)) (.int .u8 (bt s (k))) (fun _ => rfl) rfl rfl (idx_b (by omega) _) rfl ?_
    refine wl_mv (.tmp 21) (.int .u8 (bt s (k))) (fun _ => rfl) rfl rfl ?_
    refine w_nil ?_
    refine xn_then ?_
    refine w_block ?_
    refine w_seq ?_
    cases hf1 : (bt s (k) == 32) with
    | true =>
      refine w_reg ?_
      refine wl_mv (.tmp 5) (.int .u8 (bt s (k))) (fun _ => rfl) rfl rfl ?_
      refine wl_bin (fun x y => do eqGuard .eql 5 (.tmp 24) (.const (.int .u8 (32))) x y; binOp .eql 5 x y) (.tmp 24) (.const (.int .u8 (32))) (.int .u8 (bt s (k))) (.int .u8 (32)) (.bool true) (fun _ => rfl) rfl rfl (eq5r hf1 _ _ _) rfl ?_
      refine wl_mv (.tmp 25) (.bool true) (fun _ => rfl) rfl rfl ?_
      refine wl_skip rfl ?_
      refine wl_skip rfl ?_
      refine wl_pick (.tmp 26) (.const (.bool true)) (.tmp 28) true (.bool true) (fun _ => rfl) rfl rfl rfl ?_
      refine wl_mv (.tmp 29) (.bool true) (fun _ => rfl) rfl rfl ?_
      refine wl_skip rfl ?_
      refine wl_skip rfl ?_
      refine wl_pick (.tmp 30) (.const (.bool true)) (.tmp 32) true (.bool true) (fun _ => rfl) rfl rfl rfl ?_
      refine wl_mv (.tmp 33) (.bool true) (fun _ => rfl) rfl rfl ?_
      refine wl_skip rfl ?_
      refine wl_skip rfl ?_
      refine wl_pick (.tmp 34) (.const (.bool true)) (.tmp 36) true (.bool true) (fun _ => rfl) rfl rfl rfl ?_
      refine wl_mv (.tmp 37) (.bool true) (fun _ => rfl) rfl rfl ?_
      refine w_nil ?_
      refine xn_then ?_
      refine w_condT rfl ?_
      refine w_reg ?_
      refine wl_mv (.tmp 1) (.int .i64 ((k : Nat) : Int)) (fun _ => rfl) e1 rfl ?_
      refine wl_bin (fun x y => do eqGuard .add 3 (.tmp 38) (.const (.int .i64 (1))) x y; binOp .add 3 x y) (.tmp 38) (.const (.int .i64 (1))) (.int .i64 ((k : Nat) : Int)) (.int .i64 (1)) (.int .i64 ((k + 1 : Nat) : Int)) (fun _ => rfl) rfl rfl (add1r (k := k) (by omega) _ _ _) rfl ?_
      refine wl_mv (.tmp 39) (.int .i64 ((k + 1 : Nat) : Int)) (fun _ => rfl) rfl rfl ?_
      refine w_nil ?_
      refine xn_blk ?_
      refine xn_blk ?_
      exact xn_loop (s.size - (k + 1)) (by omega) ⟨k + 1, rfl, e0, rfl, by omega, (blk_b (by omega) (by simp [isb, hf1])).symm.trans hB, M⟩
    | false =>
      cases hf2 : (bt s (k) == 9) with
      | true =>
        refine w_reg ?_
        refine wl_mv (.tmp 5) (.int .u8 (bt s (k))) (fun _ => rfl) rfl rfl ?_
        refine wl_bin (fun x y => do eqGuard .eql 5 (.tmp 24) (.const (.int .u8 (32))) x y; binOp .eql 5 x y) (.tmp 24) (.const (.int .u8 (32))) (.int .u8 (bt s (k))) (.int .u8 (32)) (.bool false) (fun _ => rfl) rfl rfl (eq5r hf1 _ _ _) rfl ?_
        refine wl_mv (.tmp 25) (.bool false) (fun _ => rfl) rfl rfl ?_
        refine wl_mv (.tmp 5) (.int .u8 (bt s (k))) (fun _ => rfl) rfl rfl ?_
        refine wl_bin (fun x y => do eqGuard .eql 5 (.tmp 27) (.const (.int .u8 (9))) x y; binOp .eql 5 x y) (.tmp 27) (.const (.int .u8 (9))) (.int .u8 (bt s (k))) (.int .u8 (9)) (.bool true) (fun _ => rfl) rfl rfl (eq5r hf2 _ _ _) rfl ?_
        refine wl_pick (.tmp 26) (.const (.bool true)) (.tmp 28) false (.bool true) (fun _ => rfl) rfl rfl rfl ?_
        refine wl_mv (.tmp 29) (.bool true) (fun _ => rfl) rfl rfl ?_
        refine wl_skip rfl ?_
        refine wl_skip rfl ?_
        refine wl_pick (.tmp 30) (.const (.bool true)) (.tmp 32) true (.bool true) (fun _ => rfl) rfl rfl rfl ?_
        refine wl_mv (.tmp 33) (.bool true) (fun _ => rfl) rfl rfl ?_
        refine wl_skip rfl ?_
        refine wl_skip rfl ?_
        refine wl_pick (.tmp 34) (.const (.bool true)) (.tmp 36) true (.bool true) (fun _ => rfl) rfl rfl rfl ?_
        refine wl_mv (.tmp 37) (.bool true) (fun _ => rfl) rfl rfl ?_
        refine w_nil ?_
        refine xn_then ?_
        refine w_condT rfl ?_
        refine w_reg ?_
        refine wl_mv (.tmp 1) (.int .i64 ((k : Nat) : Int)) (fun _ => rfl) e1 rfl ?_
        refine wl_bin (fun x y => do eqGuard .add 3 (.tmp 38) (.const (.int .i64 (1))) x y; binOp .add 3 x y) (.tmp 38) (.const (.int .i64 (1))) (.int .i64 ((k : Nat) : Int)) (.int .i64 (1)) (.int .i64 ((k + 1 : Nat) : Int)) (fun _ => rfl) rfl rfl (add1r (k := k) (by omega) _ _ _) rfl ?_
        refine wl_mv (.tmp 39) (.int .i64 ((k + 1 : Nat) : Int)) (fun _ => rfl) rfl rfl ?_
        refine w_nil ?_
        refine xn_blk ?_
        refine xn_blk ?_
        exact xn_loop (s.size - (k + 1)) (by omega) ⟨k + 1, rfl, e0, rfl, by omega, (blk_b (by omega) (by simp [isb, hf1, hf2])).symm.trans hB, M⟩
      | false =>
        cases hf3 : (bt s (k) == 10) with
        | true =>
          refine w_reg ?_
          refine wl_mv (.tmp 5) (.int .u8 (bt s (k))) (fun _ => rfl) rfl rfl ?_
          refine wl_bin (fun x y => do eqGuard .eql 5 (.tmp 24) (.const (.int .u8 (32))) x y; binOp .eql 5 x y) (.tmp 24) (.const (.int .u8 (32))) (.int .u8 (bt s (k))) (.int .u8 (32)) (.bool false) (fun _ => rfl) rfl rfl (eq5r hf1 _ _ _) rfl ?_
          refine wl_mv (.tmp 25) (.bool false) (fun _ => rfl) rfl rfl ?_
          refine wl_mv (.tmp 5) (.int .u8 (bt s (k))) (fun _ => rfl) rfl rfl ?_
          refine wl_bin (fun x y => do eqGuard .eql 5 (.tmp 27) (.const (.int .u8 (9))) x y; binOp .eql 5 x y) (.tmp 27) (.const (.int .u8 (9))) (.int .u8 (bt s (k))) (.int .u8 (9)) (.bool false) (fun _ => rfl) rfl rfl (eq5r hf2 _ _ _) rfl ?_
          refine wl_pick (.tmp 26) (.const (.bool true)) (.tmp 28) false (.bool false) (fun _ => rfl) rfl rfl rfl ?_
          refine wl_mv (.tmp 29) (.bool false) (fun _ => rfl) rfl rfl ?_
          refine wl_mv (.tmp 5) (.int .u8 (bt s (k))) (fun _ => rfl) rfl rfl ?_
          refine wl_bin (fun x y => do eqGuard .eql 5 (.tmp 31) (.const (.int .u8 (10))) x y; binOp .eql 5 x y) (.tmp 31) (.const (.int .u8 (10))) (.int .u8 (bt s (k))) (.int .u8 (10)) (.bool true) (fun _ => rfl) rfl rfl (eq5r hf3 _ _ _) rfl ?_
          refine wl_pick (.tmp 30) (.const (.bool true)) (.tmp 32) false (.bool true) (fun _ => rfl) rfl rfl rfl ?_
          refine wl_mv (.tmp 33) (.bool true) (fun _ => rfl) rfl rfl ?_
          refine wl_skip rfl ?_
          refine wl_skip rfl ?_
          refine wl_pick (.tmp 34) (.const (.bool true)) (.tmp 36) true (.bool true) (fun _ => rfl) rfl rfl rfl ?_
          refine wl_mv (.tmp 37) (.bool true) (fun _ => rfl) rfl rfl ?_
          refine w_nil ?_
          refine xn_then ?_
          refine w_condT rfl ?_
          refine w_reg ?_
          refine wl_mv (.tmp 1) (.int .i64 ((k : Nat) : Int)) (fun _ => rfl) e1 rfl ?_
          refine wl_bin (fun x y => do eqGuard .add 3 (.tmp 38) (.const (.int .i64 (1))) x y; binOp .add 3 x y) (.tmp 38) (.const (.int .i64 (1))) (.int .i64 ((k : Nat) : Int)) (.int .i64 (1)) (.int .i64 ((k + 1 : Nat) : Int)) (fun _ => rfl) rfl rfl (add1r (k := k) (by omega) _ _ _) rfl ?_
          refine wl_mv (.tmp 39) (.int .i64 ((k + 1 : Nat) : Int)) (fun _ => rfl) rfl rfl ?_
          refine w_nil ?_
          refine xn_blk ?_
          refine xn_blk ?_
          exact xn_loop (s.size - (k + 1)) (by omega) ⟨k + 1, rfl, e0, rfl, by omega, (blk_b (by omega) (by simp [isb, hf1, hf2, hf3])).symm.trans hB, M⟩
        | false =>
          cases hf4 : (bt s (k) == 13) with
          | true =>
            refine w_reg ?_
            refine wl_mv (.tmp 5) (.int .u8 (bt s (k))) (fun _ => rfl) rfl rfl ?_
            refine wl_bin (fun x y => do eqGuard .eql 5 (.tmp 24) (.const (.int .u8 (32))) x y; binOp .eql 5 x y) (.tmp 24) (.const (.int .u8 (32))) (.int .u8 (bt s (k))) (.int .u8 (32)) (.bool false) (fun _ => rfl) rfl rfl (eq5r hf1 _ _ _) rfl ?_
            refine wl_mv (.tmp 25) (.bool false) (fun _ => rfl) rfl rfl ?_
            refine wl_mv (.tmp 5) (.int .u8 (bt s (k))) (fun _ => rfl) rfl rfl ?_
            refine wl_bin (fun x y => do eqGuard .eql 5 (.tmp 27) (.const (.int .u8 (9))) x y; binOp .eql 5 x y) (.tmp 27) (.const (.int .u8 (9))) (.int .u8 (bt s (k))) (.int .u8 (9)) (.bool false) (fun _ => rfl) rfl rfl (eq5r hf2 _ _ _) rfl ?_
            refine wl_pick (.tmp 26) (.const (.bool true)) (.tmp 28) false (.bool false) (fun _ => rfl) rfl rfl rfl ?_
            refine wl_mv (.tmp 29) (.bool false) (fun _ => rfl) rfl rfl ?_
            refine wl_mv (.tmp 5) (.int .u8 (bt s (k))) (fun _ => rfl) rfl rfl ?_
            refine wl_bin (fun x y => do eqGuard .eql 5 (.tmp 31) (.const (.int .u8 (10))) x y; binOp .eql 5 x y) (.tmp 31) (.const (.int .u8 (10))) (.int .u8 (bt s (k))) (.int .u8 (10)) (.bool false) (fun _ => rfl) rfl rfl (eq5r hf3 _ _ _) rfl ?_
            refine wl_pick (.tmp 30) (.const (.bool true)) (.tmp 32) false (.bool false) (fun _ => rfl) rfl rfl rfl ?_
            refine wl_mv (.tmp 33) (.bool false) (fun _ => rfl) rfl rfl ?_
            refine wl_mv (.tmp 5) (.int .u8 (bt s (k))) (fun _ => rfl) rfl rfl ?_
            refine wl_bin (fun x y => do eqGuard .eql 5 (.tmp 35) (.const (.int .u8 (13))) x y; binOp .eql 5 x y) (.tmp 35) (.const (.int .u8 (13))) (.int .u8 (bt s (k))) (.int .u8 (13)) (.bool true) (fun _ => rfl) rfl rfl (eq5r hf4 _ _ _) rfl ?_
            refine wl_pick (.tmp 34) (.const (.bool true)) (.tmp 36) false (.bool true) (fun _ => rfl) rfl rfl rfl ?_
            refine wl_mv (.tmp 37) (.bool true) (fun _ => rfl) rfl rfl ?_
            refine w_nil ?_
            refine xn_then ?_
            refine w_condT rfl ?_
            refine w_reg ?_
            refine wl_mv (.tmp 1) (.int .i64 ((k : Nat) : Int)) (fun _ => rfl) e1 rfl ?_
            refine wl_bin (fun x y => do eqGuard .add 3 (.tmp 38) (.const (.int .i64 (1))) x y; binOp .add 3 x y) (.tmp 38) (.const (.int .i64 (1))) (.int .i64 ((k : Nat) : Int)) (.int .i64 (1)) (.int .i64 ((k + 1 : Nat) : Int)) (fun _ => rfl) rfl rfl (add1r (k := k) (by omega) _ _ _) rfl ?_
            refine wl_mv (.tmp 39) (.int .i64 ((k + 1 : Nat) : Int)) (fun _ => rfl) rfl rfl ?_
            refine w_nil ?_
            refine xn_blk ?_
            refine xn_blk ?_
            exact xn_loop (s.size - (k + 1)) (by omega) ⟨k + 1, rfl, e0, rfl, by omega, (blk_b (by omega) (by simp [isb, hf1, hf2, hf3, hf4])).symm.trans hB, M⟩
          | false =>
            refine w_reg ?_
            refine wl_mv (.tmp 5) (.int .u8 (bt s (k))) (fun _ => rfl) rfl rfl ?_
            refine wl_bin (fun x y => do eqGuard .eql 5 (.tmp 24) (.const (.int .u8 (32))) x y; binOp .eql 5 x y) (.tmp 24) (.const (.int .u8 (32))) (.int .u8 (bt s (k))) (.int .u8 (32)) (.bool false) (fun _ => rfl) rfl rfl (eq5r hf1 _ _ _) rfl ?_
            refine wl_mv (.tmp 25) (.bool false) (fun _ => rfl) rfl rfl ?_
            refine wl_mv (.tmp 5) (.int .u8 (bt s (k))) (fun _ => rfl) rfl rfl ?_
            refine wl_bin (fun x y => do eqGuard .eql 5 (.tmp 27) (.const (.int .u8 (9))) x y; binOp .eql 5 x y) (.tmp 27) (.const (.int .u8 (9))) (.int .u8 (bt s (k))) (.int .u8 (9)) (.bool false) (fun _ => rfl) rfl rfl (eq5r hf2 _ _ _) rfl ?_
            refine wl_pick (.tmp 26) (.const (.bool true)) (.tmp 28) false (.bool false) (fun _ => rfl) rfl rfl rfl ?_
            refine wl_mv (.tmp 29) (.bool false) (fun _ => rfl) rfl rfl ?_
            refine wl_mv (.tmp 5) (.int .u8 (bt s (k))) (fun _ => rfl) rfl rfl ?_
            refine wl_bin (fun x y => do eqGuard .eql 5 (.tmp 31) (.const (.int .u8 (10))) x y; binOp .eql 5 x y) (.tmp 31) (.const (.int .u8 (10))) (.int .u8 (bt s (k))) (.int .u8 (10)) (.bool false) (fun _ => rfl) rfl rfl (eq5r hf3 _ _ _) rfl ?_
            refine wl_pick (.tmp 30) (.const (.bool true)) (.tmp 32) false (.bool false) (fun _ => rfl) rfl rfl rfl ?_
            refine wl_mv (.tmp 33) (.bool false) (fun _ => rfl) rfl rfl ?_
            refine wl_mv (.tmp 5) (.int .u8 (bt s (k))) (fun _ => rfl) rfl rfl ?_
            refine wl_bin (fun x y => do eqGuard .eql 5 (.tmp 35) (.const (.int .u8 (13))) x y; binOp .eql 5 x y) (.tmp 35) (.const (.int .u8 (13))) (.int .u8 (bt s (k))) (.int .u8 (13)) (.bool false) (fun _ => rfl) rfl rfl (eq5r hf4 _ _ _) rfl ?_
            refine wl_pick (.tmp 34) (.const (.bool true)) (.tmp 36) false (.bool false) (fun _ => rfl) rfl rfl rfl ?_
            refine wl_mv (.tmp 37) (.bool false) (fun _ => rfl) rfl rfl ?_
            refine w_nil ?_
            refine xn_then ?_
            refine w_condF rfl ?_
            refine w_seq ?_
            cases hf5 : (bt s (k) == 47) with
            | true =>
              cases hf6 : decide (k + 1 < s.size) with
              | true =>
                have hf6p := of_decide_eq_true hf6
                cases hf7 : (bt s (k + 1) == 47) with
                | true =>
                  refine w_reg ?_
                  refine wl_mv (.tmp 5) (.int .u8 (bt s (k))) (fun _ => rfl) rfl rfl ?_
                  refine wl_bin (fun x y => do eqGuard .eql 5 (.tmp 41) (.const (.int .u8 (47))) x y; binOp .eql 5 x y) (.tmp 41) (.const (.int .u8 (47))) (.int .u8 (bt s (k))) (.int .u8 (47)) (.bool true) (fun _ => rfl) rfl rfl (eq5r hf5 _ _ _) rfl ?_
                  refine wl_mv (.tmp 42) (.bool true) (fun _ => rfl) rfl rfl ?_
                  refine wl_mv (.tmp 1) (.int .i64 ((k : Nat) : Int)) (fun _ => rfl) e1 rfl ?_
                  refine wl_bin (fun x y => do eqGuard .add 3 (.tmp 44) (.const (.int .i64 (1))) x y; binOp .add 3 x y) (.tmp 44) (.const (.int .i64 (1))) (.int .i64 ((k : Nat) : Int)) (.int .i64 (1)) (.int .i64 ((k + 1 : Nat) : Int)) (fun _ => rfl) rfl rfl (add1r (k := k) (by omega) _ _ _) rfl ?_
                  refine wl_mv (.tmp 0) (.string s) (fun _ => rfl) e0 rfl ?_
                  refine wl_val (.int .i64 ((s.size : Nat) : Int)) (len_s _ _ s (by exact rfl) _ _ _ _ _ _) rfl ?_
                  refine wl_bin (fun x y => do eqGuard .lss 3 (.tmp 45) (.tmp 47) x y; binOp .lss 3 x y) (.tmp 45) (.tmp 47) (.int .i64 ((k + 1 : Nat) : Int)) (.int .i64 ((s.size : Nat) : Int)) (.bool true) (fun _ => rfl) rfl rfl (ltN hf6 _ _ _) rfl ?_
                  refine wl_pick (.tmp 43) (.tmp 48) (.const (.bool false)) true (.bool true) (fun _ => rfl) rfl rfl rfl ?_
                  refine wl_mv (.tmp 49) (.bool true) (fun _ => rfl) rfl rfl ?_
                  refine wl_mv (.tmp 0) (.string s) (fun _ => rfl) e0 rfl ?_
                  refine wl_mv (.tmp 1) (.int .i64 ((k : Nat) : Int)) (fun _ => rfl) e1 rfl ?_
                  refine wl_bin (fun x y => do eqGuard .add 3 (.tmp 52) (.const (.int .i64 (1))) x y; binOp .add 3 x y) (.tmp 52) (.const (.int .i64 (1))) (.int .i64 ((k : Nat) : Int)) (.int .i64 (1)) (.int .i64 ((k + 1 : Nat) : Int)) (fun _ => rfl) rfl rfl (add1r (k := k) (by omega) _ _ _) rfl ?_
                  refine wl_bin (fun x y => Instr.index 9 x y) (.tmp 51) (.tmp 53) (.string s) (.int .i64 ((k + 1 : Nat) : Int)) (.int .u8 (bt s (k + 1))) (fun _ => rfl) rfl rfl (idx_b (by omega) _) rfl ?_
                  refine wl_bin (fun x y => do eqGuard .eql 5 (.tmp 54) (.const (.int .u8 (47))) x y; binOp .eql 5 x y) (.tmp 54) (.const (.int .u8 (47))) (.int .u8 (bt s (k + 1))) (.int .u8 (47)) (.bool true) (fun _ => rfl) rfl rfl (eq5r hf7 _ _ _) rfl ?_
                  refine wl_pick (.tmp 50) (.tmp 55) (.const (.bool false)) true (.bool true) (fun _ => rfl) rfl rfl rfl ?_
                  refine wl_mv (.tmp 56) (.bool true) (fun _ => rfl) rfl rfl ?_
                  refine w_nil ?_
                  refine xn_then ?_
                  refine w_condT rfl ?_
                  refine w_block ?_
                  have hstep : blk s k = blk s (lnx s (k + 1)) := blk_c (by omega) (by simp [isb, hf1, hf2, hf3, hf4]) (by rw [hf5, hf7]; rfl)
                  have hn10 : (bt s k == 10) = false := by rw [eq_of_beq hf5]; rfl
                  have hnk : lnx s k = lnx s (k + 1) := lnx_on (by omega) hn10
                  refine w_loop (fun m l w1 => ∃ j : Nat, m = s.size - j ∧ look l 0 = .string s ∧ look l 1 = .int .i64 ((j : Nat) : Int) ∧ k ≤ j ∧ j ≤ s.size ∧ lnx s j = lnx s (k + 1) ∧ Mo w w1) _ ⟨k, rfl, e0, e1, Nat.le_refl _, by omega, hnk, M⟩ ?_
                  clear M
                  rintro m l2 wl2 ⟨j, rfl, g0, g1, hkj, hj, hN, M⟩
                  refine w_seq ?_
                  refine w_seq ?_
                  cases hf40 : decide (j < s.size) with
                  | true =>
                    have hf40p := of_decide_eq_true hf40
                    cases hf41 : (bt s (j) == 10) with
                    | true =>
                      refine w_reg ?_
                      refine wl_mv (.tmp 1) (.int .i64 ((j : Nat) : Int)) (fun _ => rfl) g1 rfl ?_
                      refine wl_mv (.tmp 0) (.string s) (fun _ => rfl) g0 rfl ?_
                      refine wl_val (.int .i64 ((s.size : Nat) : Int)) (len_s _ _ s (by exact rfl) _ _ _ _ _ _) rfl ?_
                      refine wl_bin (fun x y => do eqGuard .lss 3 (.tmp 57) (.tmp 59) x y; binOp .lss 3 x y) (.tmp 57) (.tmp 59) (.int .i64 ((j : Nat) : Int)) (.int .i64 ((s.size : Nat) : Int)) (.bool true) (fun _ => rfl) rfl rfl (ltN hf40 _ _ _) rfl ?_
                      refine wl_mv (.tmp 60) (.bool true) (fun _ => rfl) rfl rfl ?_
                      refine wl_mv (.tmp 0) (.string s) (fun _ => rfl) g0 rfl ?_
                      refine wl_mv (.tmp 1) (.int .i64 ((j : Nat) : Int)) (fun _ => rfl) g1 rfl ?_
                      refine wl_bin (fun x y => Instr.index 9 x y) (.tmp 62) (.tmp 63) (.string s) (.int .i64 ((j : Nat) : Int)) (.int .u8 (bt s (j))) (fun _ => rfl) rfl rfl (idx_b (by omega) _) rfl ?_
                      refine wl_bin (fun x y => do eqGuard .neq 5 (.tmp 64) (.const (.int .u8 (10))) x y; binOp .neq 5 x y) (.tmp 64) (.const (.int .u8 (10))) (.int .u8 (bt s (j))) (.int .u8 (10)) (.bool false) (fun _ => rfl) rfl rfl (ne5r hf41 _ _ _) rfl ?_
                      refine wl_pick (.tmp 61) (.tmp 65) (.const (.bool false)) true (.bool false) (fun _ => rfl) rfl rfl rfl ?_
                      refine w_nil ?_
                      refine xn_then ?_
                      refine w_condF rfl ?_
                      refine w_exit ?_
                      refine xx_then ?_
                      refine xx_then ?_
                      refine xx_blk ?_
                      refine xn_blk ?_
                      refine xn_blk ?_
                      have hjn : j = lnx s (k + 1) := by rw [← hN]; exact (lnx_at hf41).symm
                      rw [hjn] at g1
                      exact xn_loop (s.size - lnx s (k + 1)) (by have := lnx_ge' s (k + 1); omega) ⟨lnx s (k + 1), rfl, g0, g1, lnx_le' (by omega), hstep.symm.trans hB, M⟩
                    | false =>
                      refine w_reg ?_
                      refine wl_mv (.tmp 1) (.int .i64 ((j : Nat) : Int)) (fun _ => rfl) g1 rfl ?_
                      refine wl_mv (.tmp 0) (.string s) (fun _ => rfl) g0 rfl ?_
                      refine wl_val (.int .i64 ((s.size : Nat) : Int)) (len_s _ _ s (by exact rfl) _ _ _ _ _ _) rfl ?_
                      refine wl_bin (fun x y => do eqGuard .lss 3 (.tmp 57) (.tmp 59) x y; binOp .lss 3 x y) (.tmp 57) (.tmp 59) (.int .i64 ((j : Nat) : Int)) (.int .i64 ((s.size : Nat) : Int)) (.bool true) (fun _ => rfl) rfl rfl (ltN hf40 _ _ _) rfl ?_
                      refine wl_mv (.tmp 60) (.bool true) (fun _ => rfl) rfl rfl ?_
                      refine wl_mv (.tmp 0) (.string s) (fun _ => rfl) g0 rfl ?_
                      refine wl_mv (.tmp 1) (.int .i64 ((j : Nat) : Int)) (fun _ => rfl) g1 rfl ?_
                      refine wl_bin (fun x y => Instr.index 9 x y) (.tmp 62) (.tmp 63) (.string s) (.int .i64 ((j : Nat) : Int)) (.int .u8 (bt s (j))) (fun _ => rfl) rfl rfl (idx_b (by omega) _) rfl ?_
                      refine wl_bin (fun x y => do eqGuard .neq 5 (.tmp 64) (.const (.int .u8 (10))) x y; binOp .neq 5 x y) (.tmp 64) (.const (.int .u8 (10))) (.int .u8 (bt s (j))) (.int .u8 (10)) (.bool true) (fun _ => rfl) rfl rfl (ne5r hf41 _ _ _) rfl ?_
                      refine wl_pick (.tmp 61) (.tmp 65) (.const (.bool false)) true (.bool true) (fun _ => rfl) rfl rfl rfl ?_
                      refine w_nil ?_
                      refine xn_then ?_
                      refine w_condT rfl ?_
                      refine w_skip ?_
                      refine xn_then ?_
                      refine w_block ?_
                      refine w_reg ?_
                      refine wl_mv (.tmp 1) (.int .i64 ((j : Nat) : Int)) (fun _ => rfl) g1 rfl ?_
                      refine wl_bin (fun x y => do eqGuard .add 3 (.tmp 67) (.const (.int .i64 (1))) x y; binOp .add 3 x y) (.tmp 67) (.const (.int .i64 (1))) (.int .i64 ((j : Nat) : Int)) (.int .i64 (1)) (.int .i64 ((j + 1 : Nat) : Int)) (fun _ => rfl) rfl rfl (add1r (k := j) (by omega) _ _ _) rfl ?_
                      refine wl_mv (.tmp 68) (.int .i64 ((j + 1 : Nat) : Int)) (fun _ => rfl) rfl rfl ?_
                      refine w_nil ?_
                      refine xn_blk ?_
                      exact xn_loop (s.size - (j + 1)) (by omega) ⟨j + 1, rfl, g0, rfl, by omega, by omega, (lnx_on (by omega) hf41).symm.trans hN, M⟩
                  | false =>
                    have hf40p := of_decide_eq_false hf40
                    refine w_reg ?_
                    refine wl_mv (.tmp 1) (.int .i64 ((j : Nat) : Int)) (fun _ => rfl) g1 rfl ?_
                    refine wl_mv (.tmp 0) (.string s) (fun _ => rfl) g0 rfl ?_
                    refine wl_val (.int .i64 ((s.size : Nat) : Int)) (len_s _ _ s (by exact rfl) _ _ _ _ _ _) rfl ?_
                    refine wl_bin (fun x y => do eqGuard .lss 3 (.tmp 57) (.tmp 59) x y; binOp .lss 3 x y) (.tmp 57) (.tmp 59) (.int .i64 ((j : Nat) : Int)) (.int .i64 ((s.size : Nat) : Int)) (.bool false) (fun _ => rfl) rfl rfl (ltN hf40 _ _ _) rfl ?_
                    refine wl_mv (.tmp 60) (.bool false) (fun _ => rfl) rfl rfl ?_
                    refine wl_skip rfl ?_
                    refine wl_skip rfl ?_
                    refine wl_skip rfl ?_
                    refine wl_skip rfl ?_
                    refine wl_pick (.tmp 61) (.tmp 65) (.const (.bool false)) false (.bool false) (fun _ => rfl) rfl rfl rfl ?_
                    refine w_nil ?_
                    refine xn_then ?_
                    refine w_condF rfl ?_
                    refine w_exit ?_
                    refine xx_then ?_
                    refine xx_then ?_
                    refine xx_blk ?_
                    refine xn_blk ?_
                    refine xn_blk ?_
                    have hjn : j = lnx s (k + 1) := by rw [← hN]; exact (lnx_end (by omega)).symm
                    rw [hjn] at g1
                    exact xn_loop (s.size - lnx s (k + 1)) (by have := lnx_ge' s (k + 1); omega) ⟨lnx s (k + 1), rfl, g0, g1, lnx_le' (by omega), hstep.symm.trans hB, M⟩
                | false =>
                  refine w_reg ?_
                  refine wl_mv (.tmp 5) (.int .u8 (bt s (k))) (fun _ => rfl) rfl rfl ?_
                  refine wl_bin (fun x y => do eqGuard .eql 5 (.tmp 41) (.const (.int .u8 (47))) x y; binOp .eql 5 x y) (.tmp 41) (.const (.int .u8 (47))) (.int .u8 (bt s (k))) (.int .u8 (47)) (.bool true) (fun _ => rfl) rfl rfl (eq5r hf5 _ _ _) rfl ?_
                  refine wl_mv (.tmp 42) (.bool true) (fun _ => rfl) rfl rfl ?_
                  refine wl_mv (.tmp 1) (.int .i64 ((k : Nat) : Int)) (fun _ => rfl) e1 rfl ?_
                  refine wl_bin (fun x y => do eqGuard .add 3 (.tmp 44) (.const (.int .i64 (1))) x y; binOp .add 3 x y) (.tmp 44) (.const (.int .i64 (1))) (.int .i64 ((k : Nat) : Int)) (.int .i64 (1)) (.int .i64 ((k + 1 : Nat) : Int)) (fun _ => rfl) rfl rfl (add1r (k := k) (by omega) _ _ _) rfl ?_
                  refine wl_mv (.tmp 0) (.string s) (fun _ => rfl) e0 rfl ?_
                  refine wl_val (.int .i64 ((s.size : Nat) : Int)) (len_s _ _ s (by exact rfl) _ _ _ _ _ _) rfl ?_
                  refine wl_bin (fun x y => do eqGuard .lss 3 (.tmp 45) (.tmp 47) x y; binOp .lss 3 x y) (.tmp 45) (.tmp 47) (.int .i64 ((k + 1 : Nat) : Int)) (.int .i64 ((s.size : Nat) : Int)) (.bool true) (fun _ => rfl) rfl rfl (ltN hf6 _ _ _) rfl ?_
                  refine wl_pick (.tmp 43) (.tmp 48) (.const (.bool false)) true (.bool true) (fun _ => rfl) rfl rfl rfl ?_
                  refine wl_mv (.tmp 49) (.bool true) (fun _ => rfl) rfl rfl ?_
                  refine wl_mv (.tmp 0) (.string s) (fun _ => rfl) e0 rfl ?_
                  refine wl_mv (.tmp 1) (.int .i64 ((k : Nat) : Int)) (fun _ => rfl) e1 rfl ?_
                  refine wl_bin (fun x y => do eqGuard .add 3 (.tmp 52) (.const (.int .i64 (1))) x y; binOp .add 3 x y) (.tmp 52) (.const (.int .i64 (1))) (.int .i64 ((k : Nat) : Int)) (.int .i64 (1)) (.int .i64 ((k + 1 : Nat) : Int)) (fun _ => rfl) rfl rfl (add1r (k := k) (by omega) _ _ _) rfl ?_
                  refine wl_bin (fun x y => Instr.index 9 x y) (.tmp 51) (.tmp 53) (.string s) (.int .i64 ((k + 1 : Nat) : Int)) (.int .u8 (bt s (k + 1))) (fun _ => rfl) rfl rfl (idx_b (by omega) _) rfl ?_
                  refine wl_bin (fun x y => do eqGuard .eql 5 (.tmp 54) (.const (.int .u8 (47))) x y; binOp .eql 5 x y) (.tmp 54) (.const (.int .u8 (47))) (.int .u8 (bt s (k + 1))) (.int .u8 (47)) (.bool false) (fun _ => rfl) rfl rfl (eq5r hf7 _ _ _) rfl ?_
                  refine wl_pick (.tmp 50) (.tmp 55) (.const (.bool false)) true (.bool false) (fun _ => rfl) rfl rfl rfl ?_
                  refine wl_mv (.tmp 56) (.bool false) (fun _ => rfl) rfl rfl ?_
                  refine w_nil ?_
                  refine xn_then ?_
                  refine w_condF rfl ?_
                  refine w_seq ?_
                  refine w_reg ?_
                  refine wl_mv (.tmp 1) (.int .i64 ((k : Nat) : Int)) (fun _ => rfl) e1 rfl ?_
                  refine wl_mv (.tmp 22) (.int .i64 ((k : Nat) : Int)) (fun _ => rfl) rfl rfl ?_
                  refine w_nil ?_
                  refine xn_then ?_
                  refine w_ret ?_
                  refine xr_blk ?_
                  refine xr_blk ?_
                  refine xr_then ?_
                  refine xr_blk ?_
                  refine xr_then ?_
                  exact w_ret1 _ (.int .i64 ((k : Nat) : Int)) rfl rfl ⟨by rw [← hB, blk_n (by simp [isb, hf1, hf2, hf3, hf4]) (by rw [hf5, hf7]; rfl)], M⟩
              | false =>
                have hf6p := of_decide_eq_false hf6
                refine w_reg ?_
                refine wl_mv (.tmp 5) (.int .u8 (bt s (k))) (fun _ => rfl) rfl rfl ?_
                refine wl_bin (fun x y => do eqGuard .eql 5 (.tmp 41) (.const (.int .u8 (47))) x y; binOp .eql 5 x y) (.tmp 41) (.const (.int .u8 (47))) (.int .u8 (bt s (k))) (.int .u8 (47)) (.bool true) (fun _ => rfl) rfl rfl (eq5r hf5 _ _ _) rfl ?_
                refine wl_mv (.tmp 42) (.bool true) (fun _ => rfl) rfl rfl ?_
                refine wl_mv (.tmp 1) (.int .i64 ((k : Nat) : Int)) (fun _ => rfl) e1 rfl ?_
                refine wl_bin (fun x y => do eqGuard .add 3 (.tmp 44) (.const (.int .i64 (1))) x y; binOp .add 3 x y) (.tmp 44) (.const (.int .i64 (1))) (.int .i64 ((k : Nat) : Int)) (.int .i64 (1)) (.int .i64 ((k + 1 : Nat) : Int)) (fun _ => rfl) rfl rfl (add1r (k := k) (by omega) _ _ _) rfl ?_
                refine wl_mv (.tmp 0) (.string s) (fun _ => rfl) e0 rfl ?_
                refine wl_val (.int .i64 ((s.size : Nat) : Int)) (len_s _ _ s (by exact rfl) _ _ _ _ _ _) rfl ?_
                refine wl_bin (fun x y => do eqGuard .lss 3 (.tmp 45) (.tmp 47) x y; binOp .lss 3 x y) (.tmp 45) (.tmp 47) (.int .i64 ((k + 1 : Nat) : Int)) (.int .i64 ((s.size : Nat) : Int)) (.bool false) (fun _ => rfl) rfl rfl (ltN hf6 _ _ _) rfl ?_
                refine wl_pick (.tmp 43) (.tmp 48) (.const (.bool false)) true (.bool false) (fun _ => rfl) rfl rfl rfl ?_
                refine wl_mv (.tmp 49) (.bool false) (fun _ => rfl) rfl rfl ?_
                refine wl_skip rfl ?_
                refine wl_skip rfl ?_
                refine wl_skip rfl ?_
                refine wl_skip rfl ?_
                refine wl_skip rfl ?_
                refine wl_pick (.tmp 50) (.tmp 55) (.const (.bool false)) false (.bool false) (fun _ => rfl) rfl rfl rfl ?_
                refine wl_mv (.tmp 56) (.bool false) (fun _ => rfl) rfl rfl ?_
                refine w_nil ?_
                refine xn_then ?_
                refine w_condF rfl ?_
                refine w_seq ?_
                refine w_reg ?_
                refine wl_mv (.tmp 1) (.int .i64 ((k : Nat) : Int)) (fun _ => rfl) e1 rfl ?_
                refine wl_mv (.tmp 22) (.int .i64 ((k : Nat) : Int)) (fun _ => rfl) rfl rfl ?_
                refine w_nil ?_
                refine xn_then ?_
                refine w_ret ?_
                refine xr_blk ?_
                refine xr_blk ?_
                refine xr_then ?_
                refine xr_blk ?_
                refine xr_then ?_
                exact w_ret1 _ (.int .i64 ((k : Nat) : Int)) rfl rfl ⟨by rw [← hB, blk_n (by simp [isb, hf1, hf2, hf3, hf4]) (by rw [bt_out (k := k + 1) (by omega)]; simp)], M⟩
            | false =>
              refine w_reg ?_
              refine wl_mv (.tmp 5) (.int .u8 (bt s (k))) (fun _ => rfl) rfl rfl ?_
              refine wl_bin (fun x y => do eqGuard .eql 5 (.tmp 41) (.const (.int .u8 (47))) x y; binOp .eql 5 x y) (.tmp 41) (.const (.int .u8 (47))) (.int .u8 (bt s (k))) (.int .u8 (47)) (.bool false) (fun _ => rfl) rfl rfl (eq5r hf5 _ _ _) rfl ?_
              refine wl_mv (.tmp 42) (.bool false) (fun _ => rfl) rfl rfl ?_
              refine wl_skip rfl ?_
              refine wl_skip rfl ?_
              refine wl_skip rfl ?_
              refine wl_skip rfl ?_
              refine wl_skip rfl ?_
              refine wl_pick (.tmp 43) (.tmp 48) (.const (.bool false)) false (.bool false) (fun _ => rfl) rfl rfl rfl ?_
              refine wl_mv (.tmp 49) (.bool false) (fun _ => rfl) rfl rfl ?_
              refine wl_skip rfl ?_
              refine wl_skip rfl ?_
              refine wl_skip rfl ?_
              refine wl_skip rfl ?_
              refine wl_skip rfl ?_
              refine wl_pick (.tmp 50) (.tmp 55) (.const (.bool false)) false (.bool false) (fun _ => rfl) rfl rfl rfl ?_
              refine wl_mv (.tmp 56) (.bool false) (fun _ => rfl) rfl rfl ?_
              refine w_nil ?_
              refine xn_then ?_
              refine w_condF rfl ?_
              refine w_seq ?_
              refine w_reg ?_
              refine wl_mv (.tmp 1) (.int .i64 ((k : Nat) : Int)) (fun _ => rfl) e1 rfl ?_
              refine wl_mv (.tmp 22) (.int .i64 ((k : Nat) : Int)) (fun _ => rfl) rfl rfl ?_
              refine w_nil ?_
              refine xn_then ?_
              refine w_ret ?_
              refine xr_blk ?_
              refine xr_blk ?_
              refine xr_then ?_
              refine xr_blk ?_
              refine xr_then ?_
              exact w_ret1 _ (.int .i64 ((k : Nat) : Int)) rfl rfl ⟨by rw [← hB, blk_n (by simp [isb, hf1, hf2, hf3, hf4]) (by rw [hf5]; rfl)], M⟩
  | false =>
    have hf0p := of_decide_eq_false hf0
    refine w_reg ?_
    refine wl_mv (.tmp 1) (.int .i64 ((k : Nat) : Int)) (fun _ => rfl) e1 rfl ?_
    refine wl_mv (.tmp 0) (.string s) (fun _ => rfl) e0 rfl ?_
    refine wl_val (.int .i64 ((s.size : Nat) : Int)) (len_s _ _ s (by exact rfl) _ _ _ _ _ _) rfl ?_
    refine wl_bin (fun x y => do eqGuard .lss 3 (.tmp 15) (.tmp 17) x y; binOp .lss 3 x y) (.tmp 15) (.tmp 17) (.int .i64 ((k : Nat) : Int)) (.int .i64 ((s.size : Nat) : Int)) (.bool false) (fun _ => rfl) rfl rfl (ltN hf0 _ _ _) rfl ?_
    refine w_nil ?_
    refine xn_then ?_
    refine w_condF rfl ?_
    refine w_exit ?_
    refine xx_then ?_
    refine xx_then ?_
    refine xx_blk ?_
    refine xn_then ?_
    refine w_seq ?_
    refine w_reg ?_
    refine wl_mv (.tmp 1) (.int .i64 ((k : Nat) : Int)) (fun _ => rfl) e1 rfl ?_
    refine wl_mv (.tmp 69) (.int .i64 ((k : Nat) : Int)) (fun _ => rfl) rfl rfl ?_
    refine w_nil ?_
    refine xn_then ?_
    refine w_ret ?_
    exact w_ret1 _ (.int .i64 ((k : Nat) : Int)) rfl rfl ⟨by rw [← hB, blk_end (by omega)], M⟩
/-- Letters and digits alone from a place on. -/
def nmA (s : ByteArray) (k : Nat) : Bool := if h : k < s.size then (ltr (bt s k) || dgt (bt s k)) && nmA s (k + 1) else true
termination_by s.size - k
decreasing_by omega
theorem nmA_in {s : ByteArray} {k : Nat} (h : k < s.size) : nmA s k = ((ltr (bt s k) || dgt (bt s k)) && nmA s (k + 1)) := by rw [nmA, dif_pos h]
theorem nmA_end {s : ByteArray} {k : Nat} (h : ¬ k < s.size) : nmA s k = true := by rw [nmA, dif_neg h]
/-- May a text name a thing? -/
def nam (s : ByteArray) : Bool := !decide (s.size = 0) && !decide (32 < s.size) && ltr (bt s 0) && nmA s 0
theorem name_n (s : ByteArray) (w : World) (hs : s.size ≤ maxLen) : Calls Tryd.prog 16 #[.string s] w fun e w' => e = .returned (.bool (nam s)) ∧ Mo w w' := by
  unfold maxLen at hs
  refine w_enter 35 Tryd.func16 Tryd.ntmps16 rfl rfl ?_
  have M : Mo w w := Mo.refl _
  refine w_seq ?_
  refine w_reg ?_
  refine wl_mv (.const (.bool false)) (.bool false) (fun _ => rfl) rfl rfl ?_
  refine w_nil ?_
  refine xn_then ?_
  refine w_seq ?_
  refine w_seq ?_
  cases hf0 : decide (s.size = 0) with
  | true =>
    have hf0p := of_decide_eq_true hf0
    refine w_reg ?_
    refine wl_mv (.tmp 0) (.string s) (fun _ => rfl) rfl rfl ?_
    refine wl_bin (fun x y => do eqGuard .eql 9 (.tmp 4) (.const (.string ⟨#[]⟩)) x y; binOp .eql 9 x y) (.tmp 4) (.const (.string ⟨#[]⟩)) (.string s) (.string ⟨#[]⟩) (.bool true) (fun _ => rfl) rfl rfl (eqz9 hf0 _ _ _) rfl ?_
    refine wl_mv (.tmp 5) (.bool true) (fun _ => rfl) rfl rfl ?_
    refine wl_skip rfl ?_
    refine wl_skip rfl ?_
    refine wl_skip rfl ?_
    refine wl_pick (.tmp 6) (.const (.bool true)) (.tmp 9) true (.bool true) (fun _ => rfl) rfl rfl rfl ?_
    refine wl_mv (.tmp 10) (.bool true) (fun _ => rfl) rfl rfl ?_
    refine wl_skip rfl ?_
    refine wl_skip rfl ?_
    refine wl_skip rfl ?_
    refine wl_skip rfl ?_
    refine wl_pick (.tmp 11) (.const (.bool true)) (.tmp 15) true (.bool true) (fun _ => rfl) rfl rfl rfl ?_
    refine w_nil ?_
    refine xn_then ?_
    refine w_condT rfl ?_
    refine w_seq ?_
    refine w_reg ?_
    refine wl_mv (.const (.bool false)) (.bool false) (fun _ => rfl) rfl rfl ?_
    refine w_nil ?_
    refine xn_then ?_
    refine w_ret ?_
    refine xr_then ?_
    exact w_ret1 _ (.bool false) rfl rfl ⟨by unfold nam; rw [hf0]; rfl, M⟩
  | false =>
    have hf0p := of_decide_eq_false hf0
    cases hf1 : decide (32 < s.size) with
    | true =>
      have hf1p := of_decide_eq_true hf1
      refine w_reg ?_
      refine wl_mv (.tmp 0) (.string s) (fun _ => rfl) rfl rfl ?_
      refine wl_bin (fun x y => do eqGuard .eql 9 (.tmp 4) (.const (.string ⟨#[]⟩)) x y; binOp .eql 9 x y) (.tmp 4) (.const (.string ⟨#[]⟩)) (.string s) (.string ⟨#[]⟩) (.bool false) (fun _ => rfl) rfl rfl (eqz9 hf0 _ _ _) rfl ?_
      refine wl_mv (.tmp 5) (.bool false) (fun _ => rfl) rfl rfl ?_
      refine wl_mv (.tmp 0) (.string s) (fun _ => rfl) rfl rfl ?_
      refine wl_val (.int .i64 ((s.size : Nat) : Int)) (len_s _ _ s (by exact rfl) _ _ _ _ _ _) rfl ?_
      refine wl_bin (fun x y => do eqGuard .gtr 3 (.tmp 8) (.const (.int .i64 (32))) x y; binOp .gtr 3 x y) (.tmp 8) (.const (.int .i64 (32))) (.int .i64 ((s.size : Nat) : Int)) (.int .i64 (32)) (.bool true) (fun _ => rfl) rfl rfl (gtN hf1 _ _ _) rfl ?_
      refine wl_pick (.tmp 6) (.const (.bool true)) (.tmp 9) false (.bool true) (fun _ => rfl) rfl rfl rfl ?_
      refine wl_mv (.tmp 10) (.bool true) (fun _ => rfl) rfl rfl ?_
      refine wl_skip rfl ?_
      refine wl_skip rfl ?_
      refine wl_skip rfl ?_
      refine wl_skip rfl ?_
      refine wl_pick (.tmp 11) (.const (.bool true)) (.tmp 15) true (.bool true) (fun _ => rfl) rfl rfl rfl ?_
      refine w_nil ?_
      refine xn_then ?_
      refine w_condT rfl ?_
      refine w_seq ?_
      refine w_reg ?_
      refine wl_mv (.const (.bool false)) (.bool false) (fun _ => rfl) rfl rfl ?_
      refine w_nil ?_
      refine xn_then ?_
      refine w_ret ?_
      refine xr_then ?_
      exact w_ret1 _ (.bool false) rfl rfl ⟨by unfold nam; rw [hf0, hf1]; rfl, M⟩
    | false =>
      have hf1p := of_decide_eq_false hf1
      cases hf2 : ltr (bt s (0)) with
      | true =>
        refine w_reg ?_
        refine wl_mv (.tmp 0) (.string s) (fun _ => rfl) rfl rfl ?_
        refine wl_bin (fun x y => do eqGuard .eql 9 (.tmp 4) (.const (.string ⟨#[]⟩)) x y; binOp .eql 9 x y) (.tmp 4) (.const (.string ⟨#[]⟩)) (.string s) (.string ⟨#[]⟩) (.bool false) (fun _ => rfl) rfl rfl (eqz9 hf0 _ _ _) rfl ?_
        refine wl_mv (.tmp 5) (.bool false) (fun _ => rfl) rfl rfl ?_
        refine wl_mv (.tmp 0) (.string s) (fun _ => rfl) rfl rfl ?_
        refine wl_val (.int .i64 ((s.size : Nat) : Int)) (len_s _ _ s (by exact rfl) _ _ _ _ _ _) rfl ?_
        refine wl_bin (fun x y => do eqGuard .gtr 3 (.tmp 8) (.const (.int .i64 (32))) x y; binOp .gtr 3 x y) (.tmp 8) (.const (.int .i64 (32))) (.int .i64 ((s.size : Nat) : Int)) (.int .i64 (32)) (.bool false) (fun _ => rfl) rfl rfl (gtN hf1 _ _ _) rfl ?_
        refine wl_pick (.tmp 6) (.const (.bool true)) (.tmp 9) false (.bool false) (fun _ => rfl) rfl rfl rfl ?_
        refine wl_mv (.tmp 10) (.bool false) (fun _ => rfl) rfl rfl ?_
        refine wl_mv (.tmp 0) (.string s) (fun _ => rfl) rfl rfl ?_
        refine wl_bin (fun x y => Instr.index 9 x y) (.tmp 12) (.const (.int .i64 (0))) (.string s) (.int .i64 (0)) (.int .u8 (bt s (0))) (fun _ => rfl) rfl rfl (idx0z (by omega) _) rfl ?_
        refine wl_call 37 [(.tmp 13)] _ [.int .u8 (bt s (0))] (.bool true) rfl rfl (fun _ _ => by kernel_rfl) (ltr_c hf2 isLetter_n _) rfl ?_
        intro w1 hq
        replace M := M.trans hq
        clear hq
        refine wl_un (fun v => Op.unary .not v) (.tmp 14) (.bool true) (.bool false) (fun _ => rfl) rfl (by kernel_rfl) rfl ?_
        refine wl_pick (.tmp 11) (.const (.bool true)) (.tmp 15) false (.bool false) (fun _ => rfl) rfl rfl rfl ?_
        refine w_nil ?_
        refine xn_then ?_
        refine w_condF rfl ?_
        refine w_skip ?_
        refine xn_then ?_
        refine w_seq ?_
        refine w_seq ?_
        refine w_reg ?_
        refine wl_mv (.tmp 0) (.string s) (fun _ => rfl) rfl rfl ?_
        refine wl_val (.int .i64 ((s.size : Nat) : Int)) (len_s _ _ s (by exact rfl) _ _ _ _ _ _) rfl ?_
        refine wl_mv (.const (.int .i64 (0))) (.int .i64 (0)) (fun _ => rfl) rfl rfl ?_
        refine w_nil ?_
        refine xn_then ?_
        refine w_block ?_
        have hnam : nam s = nmA s 0 := by unfold nam; rw [hf0, hf1, hf2]; rfl
        refine w_loop (fun m l w1 => ∃ j : Nat, m = s.size - j ∧ look l 0 = .string s ∧ look l 19 = .int .i64 ((j : Nat) : Int) ∧ look l 18 = .int .i64 ((s.size : Nat) : Int) ∧ j ≤ s.size ∧ nmA s j = nam s ∧ Mo w w1) _ ⟨0, rfl, rfl, rfl, rfl, by omega, hnam.symm, M⟩ ?_
        clear M
        rintro m l wl ⟨j, rfl, e0, e3, e18, hj, hN, M⟩
        refine w_seq ?_
        cases hf30 : decide (j < s.size) with
        | true =>
          have hf30p := of_decide_eq_true hf30
          refine w_reg ?_
          refine wl_bin (fun x y => do eqGuard .lss 3 (.tmp 19) (.tmp 18) x y; binOp .lss 3 x y) (.tmp 19) (.tmp 18) (.int .i64 ((j : Nat) : Int)) (.int .i64 ((s.size : Nat) : Int)) (.bool true) (fun _ => rfl) e3 e18 (ltN hf30 _ _ _) rfl ?_
          refine w_nil ?_
          refine xn_then ?_
          refine w_seq ?_
          refine w_condT rfl ?_
          refine w_skip ?_
          refine xn_then ?_
          refine w_seq ?_
          refine w_block ?_
          refine w_seq ?_
          refine w_reg ?_
          refine wl_mv (.tmp 19) (.int .i64 ((j : Nat) : Int)) (fun _ => rfl) e3 rfl ?_
          refine wl_mv (.tmp 21) (.int .i64 ((j : Nat) : Int)) (fun _ => rfl) rfl rfl ?_
          refine w_nil ?_
          refine xn_then ?_
          refine w_seq ?_
          cases hf31 : ltr (bt s (j)) with
          | true =>
            refine w_reg ?_
            refine wl_mv (.tmp 0) (.string s) (fun _ => rfl) e0 rfl ?_
            refine wl_mv (.tmp 3) (.int .i64 ((j : Nat) : Int)) (fun _ => rfl) rfl rfl ?_
            refine wl_bin (fun x y => Instr.index 9 x y) (.tmp 22) (.tmp 23) (.string s) (.int .i64 ((j : Nat) : Int)) (.int .u8 (bt s (j))) (fun _ => rfl) rfl rfl (idx_b (by omega) _) rfl ?_
            refine wl_call 37 [(.tmp 24)] _ [.int .u8 (bt s (j))] (.bool true) rfl rfl (fun _ _ => by kernel_rfl) (ltr_c hf31 isLetter_n _) rfl ?_
            intro w31 hq
            replace M := M.trans hq
            clear hq
            refine wl_un (fun v => Op.unary .not v) (.tmp 25) (.bool true) (.bool false) (fun _ => rfl) rfl (by kernel_rfl) rfl ?_
            refine wl_mv (.tmp 26) (.bool false) (fun _ => rfl) rfl rfl ?_
            refine wl_skip rfl ?_
            refine wl_skip rfl ?_
            refine wl_skip rfl ?_
            refine wl_skip rfl ?_
            refine wl_skip rfl ?_
            refine wl_pick (.tmp 27) (.tmp 32) (.const (.bool false)) false (.bool false) (fun _ => rfl) rfl rfl rfl ?_
            refine w_nil ?_
            refine xn_then ?_
            refine w_condF rfl ?_
            refine w_skip ?_
            refine xn_blk ?_
            refine xn_then ?_
            refine w_reg ?_
            refine wl_bin (fun x y => do eqGuard .add 3 (.tmp 19) (.const (.int .i64 (1))) x y; binOp .add 3 x y) (.tmp 19) (.const (.int .i64 (1))) (.int .i64 ((j : Nat) : Int)) (.int .i64 (1)) (.int .i64 ((j + 1 : Nat) : Int)) (fun _ => rfl) e3 rfl (add1r (k := j) (by omega) _ _ _) rfl ?_
            refine wl_mv (.tmp 34) (.int .i64 ((j + 1 : Nat) : Int)) (fun _ => rfl) rfl rfl ?_
            refine w_nil ?_
            exact xn_loop (s.size - (j + 1)) (by omega) ⟨j + 1, rfl, e0, rfl, e18, by omega, by rw [nmA_in (by omega)] at hN; rw [← hN]; simp [hf31], M⟩
          | false =>
            cases hf32 : dgt (bt s (j)) with
            | true =>
              refine w_reg ?_
              refine wl_mv (.tmp 0) (.string s) (fun _ => rfl) e0 rfl ?_
              refine wl_mv (.tmp 3) (.int .i64 ((j : Nat) : Int)) (fun _ => rfl) rfl rfl ?_
              refine wl_bin (fun x y => Instr.index 9 x y) (.tmp 22) (.tmp 23) (.string s) (.int .i64 ((j : Nat) : Int)) (.int .u8 (bt s (j))) (fun _ => rfl) rfl rfl (idx_b (by omega) _) rfl ?_
              refine wl_call 37 [(.tmp 24)] _ [.int .u8 (bt s (j))] (.bool false) rfl rfl (fun _ _ => by kernel_rfl) (ltr_c hf31 isLetter_n _) rfl ?_
              intro w31 hq
              replace M := M.trans hq
              clear hq
              refine wl_un (fun v => Op.unary .not v) (.tmp 25) (.bool false) (.bool true) (fun _ => rfl) rfl (by kernel_rfl) rfl ?_
              refine wl_mv (.tmp 26) (.bool true) (fun _ => rfl) rfl rfl ?_
              refine wl_mv (.tmp 0) (.string s) (fun _ => rfl) e0 rfl ?_
              refine wl_mv (.tmp 3) (.int .i64 ((j : Nat) : Int)) (fun _ => rfl) rfl rfl ?_
              refine wl_bin (fun x y => Instr.index 9 x y) (.tmp 28) (.tmp 29) (.string s) (.int .i64 ((j : Nat) : Int)) (.int .u8 (bt s (j))) (fun _ => rfl) rfl rfl (idx_b (by omega) _) rfl ?_
              refine wl_call 38 [(.tmp 30)] _ [.int .u8 (bt s (j))] (.bool true) rfl rfl (fun _ _ => by kernel_rfl) (dgt_c hf32 lisDigit_n _) rfl ?_
              intro w32 hq
              replace M := M.trans hq
              clear hq
              refine wl_un (fun v => Op.unary .not v) (.tmp 31) (.bool true) (.bool false) (fun _ => rfl) rfl (by kernel_rfl) rfl ?_
              refine wl_pick (.tmp 27) (.tmp 32) (.const (.bool false)) true (.bool false) (fun _ => rfl) rfl rfl rfl ?_
              refine w_nil ?_
              refine xn_then ?_
              refine w_condF rfl ?_
              refine w_skip ?_
              refine xn_blk ?_
              refine xn_then ?_
              refine w_reg ?_
              refine wl_bin (fun x y => do eqGuard .add 3 (.tmp 19) (.const (.int .i64 (1))) x y; binOp .add 3 x y) (.tmp 19) (.const (.int .i64 (1))) (.int .i64 ((j : Nat) : Int)) (.int .i64 (1)) (.int .i64 ((j + 1 : Nat) : Int)) (fun _ => rfl) e3 rfl (add1r (k := j) (by omega) _ _ _) rfl ?_
              refine wl_mv (.tmp 34) (.int .i64 ((j + 1 : Nat) : Int)) (fun _ => rfl) rfl rfl ?_
              refine w_nil ?_
              exact xn_loop (s.size - (j + 1)) (by omega) ⟨j + 1, rfl, e0, rfl, e18, by omega, by rw [nmA_in (by omega)] at hN; rw [← hN]; simp [hf31, hf32], M⟩
            | false =>
              refine w_reg ?_
              refine wl_mv (.tmp 0) (.string s) (fun _ => rfl) e0 rfl ?_
              refine wl_mv (.tmp 3) (.int .i64 ((j : Nat) : Int)) (fun _ => rfl) rfl rfl ?_
              refine wl_bin (fun x y => Instr.index 9 x y) (.tmp 22) (.tmp 23) (.string s) (.int .i64 ((j : Nat) : Int)) (.int .u8 (bt s (j))) (fun _ => rfl) rfl rfl (idx_b (by omega) _) rfl ?_
              refine wl_call 37 [(.tmp 24)] _ [.int .u8 (bt s (j))] (.bool false) rfl rfl (fun _ _ => by kernel_rfl) (ltr_c hf31 isLetter_n _) rfl ?_
              intro w31 hq
              replace M := M.trans hq
              clear hq
              refine wl_un (fun v => Op.unary .not v) (.tmp 25) (.bool false) (.bool true) (fun _ => rfl) rfl (by kernel_rfl) rfl ?_
              refine wl_mv (.tmp 26) (.bool true) (fun _ => rfl) rfl rfl ?_
              refine wl_mv (.tmp 0) (.string s) (fun _ => rfl) e0 rfl ?_
              refine wl_mv (.tmp 3) (.int .i64 ((j : Nat) : Int)) (fun _ => rfl) rfl rfl ?_
              refine wl_bin (fun x y => Instr.index 9 x y) (.tmp 28) (.tmp 29) (.string s) (.int .i64 ((j : Nat) : Int)) (.int .u8 (bt s (j))) (fun _ => rfl) rfl rfl (idx_b (by omega) _) rfl ?_
              refine wl_call 38 [(.tmp 30)] _ [.int .u8 (bt s (j))] (.bool false) rfl rfl (fun _ _ => by kernel_rfl) (dgt_c hf32 lisDigit_n _) rfl ?_
              intro w32 hq
              replace M := M.trans hq
              clear hq
              refine wl_un (fun v => Op.unary .not v) (.tmp 31) (.bool false) (.bool true) (fun _ => rfl) rfl (by kernel_rfl) rfl ?_
              refine wl_pick (.tmp 27) (.tmp 32) (.const (.bool false)) true (.bool true) (fun _ => rfl) rfl rfl rfl ?_
              refine w_nil ?_
              refine xn_then ?_
              refine w_condT rfl ?_
              refine w_seq ?_
              refine w_reg ?_
              refine wl_mv (.const (.bool false)) (.bool false) (fun _ => rfl) rfl rfl ?_
              refine w_nil ?_
              refine xn_then ?_
              refine w_ret ?_
              refine xr_blk ?_
              refine xr_then ?_
              refine xr_then ?_
              refine xr_blk ?_
              refine xr_then ?_
              exact w_ret1 _ (.bool false) rfl rfl ⟨by rw [← hN, nmA_in (by omega)]; simp [hf31, hf32], M⟩
        | false =>
          have hf30p := of_decide_eq_false hf30
          refine w_reg ?_
          refine wl_bin (fun x y => do eqGuard .lss 3 (.tmp 19) (.tmp 18) x y; binOp .lss 3 x y) (.tmp 19) (.tmp 18) (.int .i64 ((j : Nat) : Int)) (.int .i64 ((s.size : Nat) : Int)) (.bool false) (fun _ => rfl) e3 e18 (ltN hf30 _ _ _) rfl ?_
          refine w_nil ?_
          refine xn_then ?_
          refine w_seq ?_
          refine w_condF rfl ?_
          refine w_exit ?_
          refine xx_then ?_
          refine xx_then ?_
          refine xx_blk ?_
          refine xn_then ?_
          refine w_seq ?_
          refine w_reg ?_
          refine wl_mv (.const (.bool true)) (.bool true) (fun _ => rfl) rfl rfl ?_
          refine w_nil ?_
          refine xn_then ?_
          refine w_ret ?_
          exact w_ret1 _ (.bool true) rfl rfl ⟨by rw [← hN, nmA_end (by omega)], M⟩
      | false =>
        refine w_reg ?_
        refine wl_mv (.tmp 0) (.string s) (fun _ => rfl) rfl rfl ?_
        refine wl_bin (fun x y => do eqGuard .eql 9 (.tmp 4) (.const (.string ⟨#[]⟩)) x y; binOp .eql 9 x y) (.tmp 4) (.const (.string ⟨#[]⟩)) (.string s) (.string ⟨#[]⟩) (.bool false) (fun _ => rfl) rfl rfl (eqz9 hf0 _ _ _) rfl ?_
        refine wl_mv (.tmp 5) (.bool false) (fun _ => rfl) rfl rfl ?_
        refine wl_mv (.tmp 0) (.string s) (fun _ => rfl) rfl rfl ?_
        refine wl_val (.int .i64 ((s.size : Nat) : Int)) (len_s _ _ s (by exact rfl) _ _ _ _ _ _) rfl ?_
        refine wl_bin (fun x y => do eqGuard .gtr 3 (.tmp 8) (.const (.int .i64 (32))) x y; binOp .gtr 3 x y) (.tmp 8) (.const (.int .i64 (32))) (.int .i64 ((s.size : Nat) : Int)) (.int .i64 (32)) (.bool false) (fun _ => rfl) rfl rfl (gtN hf1 _ _ _) rfl ?_
        refine wl_pick (.tmp 6) (.const (.bool true)) (.tmp 9) false (.bool false) (fun _ => rfl) rfl rfl rfl ?_
        refine wl_mv (.tmp 10) (.bool false) (fun _ => rfl) rfl rfl ?_
        refine wl_mv (.tmp 0) (.string s) (fun _ => rfl) rfl rfl ?_
        refine wl_bin (fun x y => Instr.index 9 x y) (.tmp 12) (.const (.int .i64 (0))) (.string s) (.int .i64 (0)) (.int .u8 (bt s (0))) (fun _ => rfl) rfl rfl (idx0z (by omega) _) rfl ?_
        refine wl_call 37 [(.tmp 13)] _ [.int .u8 (bt s (0))] (.bool false) rfl rfl (fun _ _ => by kernel_rfl) (ltr_c hf2 isLetter_n _) rfl ?_
        intro w1 hq
        replace M := M.trans hq
        clear hq
        refine wl_un (fun v => Op.unary .not v) (.tmp 14) (.bool false) (.bool true) (fun _ => rfl) rfl (by kernel_rfl) rfl ?_
        refine wl_pick (.tmp 11) (.const (.bool true)) (.tmp 15) false (.bool true) (fun _ => rfl) rfl rfl rfl ?_
        refine w_nil ?_
        refine xn_then ?_
        refine w_condT rfl ?_
        refine w_seq ?_
        refine w_reg ?_
        refine wl_mv (.const (.bool false)) (.bool false) (fun _ => rfl) rfl rfl ?_
        refine w_nil ?_
        refine xn_then ?_
        refine w_ret ?_
        refine xr_then ?_
        exact w_ret1 _ (.bool false) rfl rfl ⟨by unfold nam; rw [hf0, hf1, hf2]; rfl, M⟩
theorem rname_n (s : ByteArray) (w : World) (hs : s.size ≤ maxLen) : Calls Tryd.prog 17 #[.string s] w fun e w' => e = .returned (.bool (nam s)) ∧ Mo w w' := by
  unfold maxLen at hs
  refine w_enter 35 Tryd.func17 Tryd.ntmps17 rfl rfl ?_
  have M : Mo w w := Mo.refl _
  refine w_seq ?_
  refine w_reg ?_
  refine wl_mv (.const (.bool false)) (.bool false) (fun _ => rfl) rfl rfl ?_
  refine w_nil ?_
  refine xn_then ?_
  refine w_seq ?_
  refine w_seq ?_
  cases hf0 : decide (s.size = 0) with
  | true =>
    have hf0p := of_decide_eq_true hf0
    refine w_reg ?_
    refine wl_mv (.tmp 0) (.string s) (fun _ => rfl) rfl rfl ?_
    refine wl_bin (fun x y => do eqGuard .eql 9 (.tmp 4) (.const (.string ⟨#[]⟩)) x y; binOp .eql 9 x y) (.tmp 4) (.const (.string ⟨#[]⟩)) (.string s) (.string ⟨#[]⟩) (.bool true) (fun _ => rfl) rfl rfl (eqz9 hf0 _ _ _) rfl ?_
    refine wl_mv (.tmp 5) (.bool true) (fun _ => rfl) rfl rfl ?_
    refine wl_skip rfl ?_
    refine wl_skip rfl ?_
    refine wl_skip rfl ?_
    refine wl_pick (.tmp 6) (.const (.bool true)) (.tmp 9) true (.bool true) (fun _ => rfl) rfl rfl rfl ?_
    refine wl_mv (.tmp 10) (.bool true) (fun _ => rfl) rfl rfl ?_
    refine wl_skip rfl ?_
    refine wl_skip rfl ?_
    refine wl_skip rfl ?_
    refine wl_skip rfl ?_
    refine wl_pick (.tmp 11) (.const (.bool true)) (.tmp 15) true (.bool true) (fun _ => rfl) rfl rfl rfl ?_
    refine w_nil ?_
    refine xn_then ?_
    refine w_condT rfl ?_
    refine w_seq ?_
    refine w_reg ?_
    refine wl_mv (.const (.bool false)) (.bool false) (fun _ => rfl) rfl rfl ?_
    refine w_nil ?_
    refine xn_then ?_
    refine w_ret ?_
    refine xr_then ?_
    exact w_ret1 _ (.bool false) rfl rfl ⟨by unfold nam; rw [hf0]; rfl, M⟩
  | false =>
    have hf0p := of_decide_eq_false hf0
    cases hf1 : decide (32 < s.size) with
    | true =>
      have hf1p := of_decide_eq_true hf1
      refine w_reg ?_
      refine wl_mv (.tmp 0) (.string s) (fun _ => rfl) rfl rfl ?_
      refine wl_bin (fun x y => do eqGuard .eql 9 (.tmp 4) (.const (.string ⟨#[]⟩)) x y; binOp .eql 9 x y) (.tmp 4) (.const (.string ⟨#[]⟩)) (.string s) (.string ⟨#[]⟩) (.bool false) (fun _ => rfl) rfl rfl (eqz9 hf0 _ _ _) rfl ?_
      refine wl_mv (.tmp 5) (.bool false) (fun _ => rfl) rfl rfl ?_
      refine wl_mv (.tmp 0) (.string s) (fun _ => rfl) rfl rfl ?_
      refine wl_val (.int .i64 ((s.size : Nat) : Int)) (len_s _ _ s (by exact rfl) _ _ _ _ _ _) rfl ?_
      refine wl_bin (fun x y => do eqGuard .gtr 3 (.tmp 8) (.const (.int .i64 (32))) x y; binOp .gtr 3 x y) (.tmp 8) (.const (.int .i64 (32))) (.int .i64 ((s.size : Nat) : Int)) (.int .i64 (32)) (.bool true) (fun _ => rfl) rfl rfl (gtN hf1 _ _ _) rfl ?_
      refine wl_pick (.tmp 6) (.const (.bool true)) (.tmp 9) false (.bool true) (fun _ => rfl) rfl rfl rfl ?_
      refine wl_mv (.tmp 10) (.bool true) (fun _ => rfl) rfl rfl ?_
      refine wl_skip rfl ?_
      refine wl_skip rfl ?_
      refine wl_skip rfl ?_
      refine wl_skip rfl ?_
      refine wl_pick (.tmp 11) (.const (.bool true)) (.tmp 15) true (.bool true) (fun _ => rfl) rfl rfl rfl ?_
      refine w_nil ?_
      refine xn_then ?_
      refine w_condT rfl ?_
      refine w_seq ?_
      refine w_reg ?_
      refine wl_mv (.const (.bool false)) (.bool false) (fun _ => rfl) rfl rfl ?_
      refine w_nil ?_
      refine xn_then ?_
      refine w_ret ?_
      refine xr_then ?_
      exact w_ret1 _ (.bool false) rfl rfl ⟨by unfold nam; rw [hf0, hf1]; rfl, M⟩
    | false =>
      have hf1p := of_decide_eq_false hf1
      cases hf2 : ltr (bt s (0)) with
      | true =>
        refine w_reg ?_
        refine wl_mv (.tmp 0) (.string s) (fun _ => rfl) rfl rfl ?_
        refine wl_bin (fun x y => do eqGuard .eql 9 (.tmp 4) (.const (.string ⟨#[]⟩)) x y; binOp .eql 9 x y) (.tmp 4) (.const (.string ⟨#[]⟩)) (.string s) (.string ⟨#[]⟩) (.bool false) (fun _ => rfl) rfl rfl (eqz9 hf0 _ _ _) rfl ?_
        refine wl_mv (.tmp 5) (.bool false) (fun _ => rfl) rfl rfl ?_
        refine wl_mv (.tmp 0) (.string s) (fun _ => rfl) rfl rfl ?_
        refine wl_val (.int .i64 ((s.size : Nat) : Int)) (len_s _ _ s (by exact rfl) _ _ _ _ _ _) rfl ?_
        refine wl_bin (fun x y => do eqGuard .gtr 3 (.tmp 8) (.const (.int .i64 (32))) x y; binOp .gtr 3 x y) (.tmp 8) (.const (.int .i64 (32))) (.int .i64 ((s.size : Nat) : Int)) (.int .i64 (32)) (.bool false) (fun _ => rfl) rfl rfl (gtN hf1 _ _ _) rfl ?_
        refine wl_pick (.tmp 6) (.const (.bool true)) (.tmp 9) false (.bool false) (fun _ => rfl) rfl rfl rfl ?_
        refine wl_mv (.tmp 10) (.bool false) (fun _ => rfl) rfl rfl ?_
        refine wl_mv (.tmp 0) (.string s) (fun _ => rfl) rfl rfl ?_
        refine wl_bin (fun x y => Instr.index 9 x y) (.tmp 12) (.const (.int .i64 (0))) (.string s) (.int .i64 (0)) (.int .u8 (bt s (0))) (fun _ => rfl) rfl rfl (idx0z (by omega) _) rfl ?_
        refine wl_call 29 [(.tmp 13)] _ [.int .u8 (bt s (0))] (.bool true) rfl rfl (fun _ _ => by kernel_rfl) (ltr_c hf2 letter_n _) rfl ?_
        intro w1 hq
        replace M := M.trans hq
        clear hq
        refine wl_un (fun v => Op.unary .not v) (.tmp 14) (.bool true) (.bool false) (fun _ => rfl) rfl (by kernel_rfl) rfl ?_
        refine wl_pick (.tmp 11) (.const (.bool true)) (.tmp 15) false (.bool false) (fun _ => rfl) rfl rfl rfl ?_
        refine w_nil ?_
        refine xn_then ?_
        refine w_condF rfl ?_
        refine w_skip ?_
        refine xn_then ?_
        refine w_seq ?_
        refine w_seq ?_
        refine w_reg ?_
        refine wl_mv (.const (.int .i64 (0))) (.int .i64 (0)) (fun _ => rfl) rfl rfl ?_
        refine w_nil ?_
        refine xn_then ?_
        refine w_block ?_
        have hnam : nam s = nmA s 0 := by unfold nam; rw [hf0, hf1, hf2]; rfl
        refine w_loop (fun m l w1 => ∃ j : Nat, m = s.size - j ∧ look l 0 = .string s ∧ look l 3 = .int .i64 ((j : Nat) : Int) ∧ j ≤ s.size ∧ nmA s j = nam s ∧ Mo w w1) _ ⟨0, rfl, rfl, rfl, by omega, hnam.symm, M⟩ ?_
        clear M
        rintro m l wl ⟨j, rfl, e0, e3, hj, hN, M⟩
        refine w_seq ?_
        refine w_seq ?_
        cases hf30 : decide (j < s.size) with
        | true =>
          have hf30p := of_decide_eq_true hf30
          refine w_reg ?_
          refine wl_mv (.tmp 3) (.int .i64 ((j : Nat) : Int)) (fun _ => rfl) e3 rfl ?_
          refine wl_mv (.tmp 0) (.string s) (fun _ => rfl) e0 rfl ?_
          refine wl_val (.int .i64 ((s.size : Nat) : Int)) (len_s _ _ s (by exact rfl) _ _ _ _ _ _) rfl ?_
          refine wl_bin (fun x y => do eqGuard .lss 3 (.tmp 17) (.tmp 19) x y; binOp .lss 3 x y) (.tmp 17) (.tmp 19) (.int .i64 ((j : Nat) : Int)) (.int .i64 ((s.size : Nat) : Int)) (.bool true) (fun _ => rfl) rfl rfl (ltN hf30 _ _ _) rfl ?_
          refine w_nil ?_
          refine xn_then ?_
          refine w_condT rfl ?_
          refine w_skip ?_
          refine xn_then ?_
          refine w_seq ?_
          refine w_block ?_
          refine w_seq ?_
          cases hf31 : ltr (bt s (j)) with
          | true =>
            refine w_reg ?_
            refine wl_mv (.tmp 0) (.string s) (fun _ => rfl) e0 rfl ?_
            refine wl_mv (.tmp 3) (.int .i64 ((j : Nat) : Int)) (fun _ => rfl) e3 rfl ?_
            refine wl_bin (fun x y => Instr.index 9 x y) (.tmp 23) (.tmp 24) (.string s) (.int .i64 ((j : Nat) : Int)) (.int .u8 (bt s (j))) (fun _ => rfl) rfl rfl (idx_b (by omega) _) rfl ?_
            refine wl_call 29 [(.tmp 25)] _ [.int .u8 (bt s (j))] (.bool true) rfl rfl (fun _ _ => by kernel_rfl) (ltr_c hf31 letter_n _) rfl ?_
            intro w31 hq
            replace M := M.trans hq
            clear hq
            refine wl_un (fun v => Op.unary .not v) (.tmp 26) (.bool true) (.bool false) (fun _ => rfl) rfl (by kernel_rfl) rfl ?_
            refine wl_mv (.tmp 27) (.bool false) (fun _ => rfl) rfl rfl ?_
            refine wl_skip rfl ?_
            refine wl_skip rfl ?_
            refine wl_skip rfl ?_
            refine wl_skip rfl ?_
            refine wl_skip rfl ?_
            refine wl_pick (.tmp 28) (.tmp 33) (.const (.bool false)) false (.bool false) (fun _ => rfl) rfl rfl rfl ?_
            refine w_nil ?_
            refine xn_then ?_
            refine w_condF rfl ?_
            refine w_skip ?_
            refine xn_blk ?_
            refine xn_then ?_
            refine w_reg ?_
            refine wl_mv (.tmp 3) (.int .i64 ((j : Nat) : Int)) (fun _ => rfl) e3 rfl ?_
            refine wl_bin (fun x y => do eqGuard .add 3 (.tmp 21) (.const (.int .i64 (1))) x y; binOp .add 3 x y) (.tmp 21) (.const (.int .i64 (1))) (.int .i64 ((j : Nat) : Int)) (.int .i64 (1)) (.int .i64 ((j + 1 : Nat) : Int)) (fun _ => rfl) rfl rfl (add1r (k := j) (by omega) _ _ _) rfl ?_
            refine wl_mv (.tmp 22) (.int .i64 ((j + 1 : Nat) : Int)) (fun _ => rfl) rfl rfl ?_
            refine w_nil ?_
            exact xn_loop (s.size - (j + 1)) (by omega) ⟨j + 1, rfl, e0, rfl, by omega, by rw [nmA_in (by omega)] at hN; rw [← hN]; simp [hf31], M⟩
          | false =>
            cases hf32 : dgt (bt s (j)) with
            | true =>
              refine w_reg ?_
              refine wl_mv (.tmp 0) (.string s) (fun _ => rfl) e0 rfl ?_
              refine wl_mv (.tmp 3) (.int .i64 ((j : Nat) : Int)) (fun _ => rfl) e3 rfl ?_
              refine wl_bin (fun x y => Instr.index 9 x y) (.tmp 23) (.tmp 24) (.string s) (.int .i64 ((j : Nat) : Int)) (.int .u8 (bt s (j))) (fun _ => rfl) rfl rfl (idx_b (by omega) _) rfl ?_
              refine wl_call 29 [(.tmp 25)] _ [.int .u8 (bt s (j))] (.bool false) rfl rfl (fun _ _ => by kernel_rfl) (ltr_c hf31 letter_n _) rfl ?_
              intro w31 hq
              replace M := M.trans hq
              clear hq
              refine wl_un (fun v => Op.unary .not v) (.tmp 26) (.bool false) (.bool true) (fun _ => rfl) rfl (by kernel_rfl) rfl ?_
              refine wl_mv (.tmp 27) (.bool true) (fun _ => rfl) rfl rfl ?_
              refine wl_mv (.tmp 0) (.string s) (fun _ => rfl) e0 rfl ?_
              refine wl_mv (.tmp 3) (.int .i64 ((j : Nat) : Int)) (fun _ => rfl) e3 rfl ?_
              refine wl_bin (fun x y => Instr.index 9 x y) (.tmp 29) (.tmp 30) (.string s) (.int .i64 ((j : Nat) : Int)) (.int .u8 (bt s (j))) (fun _ => rfl) rfl rfl (idx_b (by omega) _) rfl ?_
              refine wl_call 31 [(.tmp 31)] _ [.int .u8 (bt s (j))] (.bool true) rfl rfl (fun _ _ => by kernel_rfl) (dgt_c hf32 rdigit_n _) rfl ?_
              intro w32 hq
              replace M := M.trans hq
              clear hq
              refine wl_un (fun v => Op.unary .not v) (.tmp 32) (.bool true) (.bool false) (fun _ => rfl) rfl (by kernel_rfl) rfl ?_
              refine wl_pick (.tmp 28) (.tmp 33) (.const (.bool false)) true (.bool false) (fun _ => rfl) rfl rfl rfl ?_
              refine w_nil ?_
              refine xn_then ?_
              refine w_condF rfl ?_
              refine w_skip ?_
              refine xn_blk ?_
              refine xn_then ?_
              refine w_reg ?_
              refine wl_mv (.tmp 3) (.int .i64 ((j : Nat) : Int)) (fun _ => rfl) e3 rfl ?_
              refine wl_bin (fun x y => do eqGuard .add 3 (.tmp 21) (.const (.int .i64 (1))) x y; binOp .add 3 x y) (.tmp 21) (.const (.int .i64 (1))) (.int .i64 ((j : Nat) : Int)) (.int .i64 (1)) (.int .i64 ((j + 1 : Nat) : Int)) (fun _ => rfl) rfl rfl (add1r (k := j) (by omega) _ _ _) rfl ?_
              refine wl_mv (.tmp 22) (.int .i64 ((j + 1 : Nat) : Int)) (fun _ => rfl) rfl rfl ?_
              refine w_nil ?_
              exact xn_loop (s.size - (j + 1)) (by omega) ⟨j + 1, rfl, e0, rfl, by omega, by rw [nmA_in (by omega)] at hN; rw [← hN]; simp [hf31, hf32], M⟩
            | false =>
              refine w_reg ?_
              refine wl_mv (.tmp 0) (.string s) (fun _ => rfl) e0 rfl ?_
              refine wl_mv (.tmp 3) (.int .i64 ((j : Nat) : Int)) (fun _ => rfl) e3 rfl ?_
              refine wl_bin (fun x y => Instr.index 9 x y) (.tmp 23) (.tmp 24) (.string s) (.int .i64 ((j : Nat) : Int)) (.int .u8 (bt s (j))) (fun _ => rfl) rfl rfl (idx_b (by omega) _) rfl ?_
              refine wl_call 29 [(.tmp 25)] _ [.int .u8 (bt s (j))] (.bool false) rfl rfl (fun _ _ => by kernel_rfl) (ltr_c hf31 letter_n _) rfl ?_
              intro w31 hq
              replace M := M.trans hq
              clear hq
              refine wl_un (fun v => Op.unary .not v) (.tmp 26) (.bool false) (.bool true) (fun _ => rfl) rfl (by kernel_rfl) rfl ?_
              refine wl_mv (.tmp 27) (.bool true) (fun _ => rfl) rfl rfl ?_
              refine wl_mv (.tmp 0) (.string s) (fun _ => rfl) e0 rfl ?_
              refine wl_mv (.tmp 3) (.int .i64 ((j : Nat) : Int)) (fun _ => rfl) e3 rfl ?_
              refine wl_bin (fun x y => Instr.index 9 x y) (.tmp 29) (.tmp 30) (.string s) (.int .i64 ((j : Nat) : Int)) (.int .u8 (bt s (j))) (fun _ => rfl) rfl rfl (idx_b (by omega) _) rfl ?_
              refine wl_call 31 [(.tmp 31)] _ [.int .u8 (bt s (j))] (.bool false) rfl rfl (fun _ _ => by kernel_rfl) (dgt_c hf32 rdigit_n _) rfl ?_
              intro w32 hq
              replace M := M.trans hq
              clear hq
              refine wl_un (fun v => Op.unary .not v) (.tmp 32) (.bool false) (.bool true) (fun _ => rfl) rfl (by kernel_rfl) rfl ?_
              refine wl_pick (.tmp 28) (.tmp 33) (.const (.bool false)) true (.bool true) (fun _ => rfl) rfl rfl rfl ?_
              refine w_nil ?_
              refine xn_then ?_
              refine w_condT rfl ?_
              refine w_seq ?_
              refine w_reg ?_
              refine wl_mv (.const (.bool false)) (.bool false) (fun _ => rfl) rfl rfl ?_
              refine w_nil ?_
              refine xn_then ?_
              refine w_ret ?_
              refine xr_blk ?_
              refine xr_then ?_
              refine xr_then ?_
              refine xr_blk ?_
              refine xr_then ?_
              exact w_ret1 _ (.bool false) rfl rfl ⟨by rw [← hN, nmA_in (by omega)]; simp [hf31, hf32], M⟩
        | false =>
          have hf30p := of_decide_eq_false hf30
          refine w_reg ?_
          refine wl_mv (.tmp 3) (.int .i64 ((j : Nat) : Int)) (fun _ => rfl) e3 rfl ?_
          refine wl_mv (.tmp 0) (.string s) (fun _ => rfl) e0 rfl ?_
          refine wl_val (.int .i64 ((s.size : Nat) : Int)) (len_s _ _ s (by exact rfl) _ _ _ _ _ _) rfl ?_
          refine wl_bin (fun x y => do eqGuard .lss 3 (.tmp 17) (.tmp 19) x y; binOp .lss 3 x y) (.tmp 17) (.tmp 19) (.int .i64 ((j : Nat) : Int)) (.int .i64 ((s.size : Nat) : Int)) (.bool false) (fun _ => rfl) rfl rfl (ltN hf30 _ _ _) rfl ?_
          refine w_nil ?_
          refine xn_then ?_
          refine w_condF rfl ?_
          refine w_exit ?_
          refine xx_then ?_
          refine xx_then ?_
          refine xx_blk ?_
          refine xn_then ?_
          refine w_seq ?_
          refine w_reg ?_
          refine wl_mv (.const (.bool true)) (.bool true) (fun _ => rfl) rfl rfl ?_
          refine w_nil ?_
          refine xn_then ?_
          refine w_ret ?_
          exact w_ret1 _ (.bool true) rfl rfl ⟨by rw [← hN, nmA_end (by omega)], M⟩
      | false =>
        refine w_reg ?_
        refine wl_mv (.tmp 0) (.string s) (fun _ => rfl) rfl rfl ?_
        refine wl_bin (fun x y => do eqGuard .eql 9 (.tmp 4) (.const (.string ⟨#[]⟩)) x y; binOp .eql 9 x y) (.tmp 4) (.const (.string ⟨#[]⟩)) (.string s) (.string ⟨#[]⟩) (.bool false) (fun _ => rfl) rfl rfl (eqz9 hf0 _ _ _) rfl ?_
        refine wl_mv (.tmp 5) (.bool false) (fun _ => rfl) rfl rfl ?_
        refine wl_mv (.tmp 0) (.string s) (fun _ => rfl) rfl rfl ?_
        refine wl_val (.int .i64 ((s.size : Nat) : Int)) (len_s _ _ s (by exact rfl) _ _ _ _ _ _) rfl ?_
        refine wl_bin (fun x y => do eqGuard .gtr 3 (.tmp 8) (.const (.int .i64 (32))) x y; binOp .gtr 3 x y) (.tmp 8) (.const (.int .i64 (32))) (.int .i64 ((s.size : Nat) : Int)) (.int .i64 (32)) (.bool false) (fun _ => rfl) rfl rfl (gtN hf1 _ _ _) rfl ?_
        refine wl_pick (.tmp 6) (.const (.bool true)) (.tmp 9) false (.bool false) (fun _ => rfl) rfl rfl rfl ?_
        refine wl_mv (.tmp 10) (.bool false) (fun _ => rfl) rfl rfl ?_
        refine wl_mv (.tmp 0) (.string s) (fun _ => rfl) rfl rfl ?_
        refine wl_bin (fun x y => Instr.index 9 x y) (.tmp 12) (.const (.int .i64 (0))) (.string s) (.int .i64 (0)) (.int .u8 (bt s (0))) (fun _ => rfl) rfl rfl (idx0z (by omega) _) rfl ?_
        refine wl_call 29 [(.tmp 13)] _ [.int .u8 (bt s (0))] (.bool false) rfl rfl (fun _ _ => by kernel_rfl) (ltr_c hf2 letter_n _) rfl ?_
        intro w1 hq
        replace M := M.trans hq
        clear hq
        refine wl_un (fun v => Op.unary .not v) (.tmp 14) (.bool false) (.bool true) (fun _ => rfl) rfl (by kernel_rfl) rfl ?_
        refine wl_pick (.tmp 11) (.const (.bool true)) (.tmp 15) false (.bool true) (fun _ => rfl) rfl rfl rfl ?_
        refine w_nil ?_
        refine xn_then ?_
        refine w_condT rfl ?_
        refine w_seq ?_
        refine w_reg ?_
        refine wl_mv (.const (.bool false)) (.bool false) (fun _ => rfl) rfl rfl ?_
        refine w_nil ?_
        refine xn_then ?_
        refine w_ret ?_
        refine xr_then ?_
        exact w_ret1 _ (.bool false) rfl rfl ⟨by unfold nam; rw [hf0, hf1, hf2]; rfl, M⟩
end Go.Proofs.YthgknegocfhdbaaDoor
