/-
  A part of the proof.
-/
import Derived.Test.YthgknegocfhdbaaDoorC1
import Derived.Test.YthgknegocfhdbaaDoorProg
import Derived.Shelf.Small.Bits
import Derived.Shelf.Strconv.Itoa0
import Derived.Shelf.Bits.Mul64
import Derived.Shelf.Strings.Builder1
import Derived.Shelf.Strings.Builder2
import Derived.Shelf.Strings.OnBuilder
import Derived.Shelf.Strings.Trim
import Derived.Shelf.Small.Strs
import Derived.Shelf.Small.Wraps
import Derived.Shelf.Strings.BuilderF
import Derived.Shelf.Strings.BuilderK
import Derived.Shelf.Strings.Search1
import Derived.Shelf.Strings.Search2
import Derived.Shelf.Strings.Prefix
import Derived.Shelf.Strings.Repeat
import Derived.Lib.CutLaws
import Derived.Lib.IndexBytes
import Derived.Deep.MidRow
import Derived.BigCall
namespace Go.Proofs.YthgknegocfhdbaaDoor
open Go.RowKit
theorem eq5r {a b : Int} {r : Bool} (h : (a == b) = r) (x y : Operand) (w : World) : (do eqGuard .eql 5 x y (.int .u8 a) (.int .u8 b); binOp .eql 5 (.int .u8 a) (.int .u8 b)).run Tryd.prog w = .ok (.bool r) w := by
  subst h; kernel_rfl
theorem ne5r {a b : Int} {r : Bool} (h : (a == b) = r) (x y : Operand) (w : World) : (do eqGuard .neq 5 x y (.int .u8 a) (.int .u8 b); binOp .neq 5 (.int .u8 a) (.int .u8 b)).run Tryd.prog w = .ok (.bool (!r)) w := by
  subst h; kernel_rfl
theorem add1r {k : Nat} (hk : k ≤ 9223372036854775806) (x y : Operand) (w : World) : (do eqGuard .add 3 x y (.int .i64 (k : Int)) (.int .i64 1); binOp .add 3 (.int .i64 (k : Int)) (.int .i64 1)).run Tryd.prog w = .ok (.int .i64 ((k + 1 : Nat) : Int)) w := by
  have e : (do eqGuard .add 3 x y (.int .i64 (k : Int)) (.int .i64 1); binOp .add 3 (.int .i64 (k : Int)) (.int .i64 1)).run Tryd.prog w = .ok (.int .i64 (IntKind.i64.wrap ((k : Int) + 1))) w := by kernel_rfl
  have h : IntKind.i64.wrap ((k : Int) + 1) = ((k + 1 : Nat) : Int) := by rw [IntKind.wrap_i64]; omega
  rw [e, h]
theorem dgt_in {s : ByteArray} {k : Nat} (h : dgt (bt s k) = true) : k < s.size := by
  by_cases hk : k < s.size
  · exact hk
  · rw [bt_out hk] at h; cases h
theorem eq_in {s : ByteArray} {k : Nat} {c : Int} (hc : 0 < c) (h : (bt s k == c) = true) : k < s.size := by
  by_cases hk : k < s.size
  · exact hk
  · rw [bt_out hk] at h; have := eq_of_beq h; omega
/-- Where a run of digits ends. -/
def re (s : ByteArray) (k : Nat) : Nat := if h : dgt (bt s k) = true then re s (k + 1) else k
termination_by s.size - k
decreasing_by have := dgt_in h; omega
/-- Is a run of digits all 0? -/
def az (s : ByteArray) (k : Nat) : Bool := if h : dgt (bt s k) = true then (bt s k == 48) && az s (k + 1) else true
termination_by s.size - k
decreasing_by have := dgt_in h; omega
theorem re_on {s : ByteArray} {k : Nat} (h : dgt (bt s k) = true) : re s k = re s (k + 1) := by rw [re, dif_pos h]
theorem re_end {s : ByteArray} {k : Nat} (h : dgt (bt s k) = false) : re s k = k := by rw [re, dif_neg (by rw [h]; simp)]
theorem az_on {s : ByteArray} {k : Nat} (h : dgt (bt s k) = true) : az s k = ((bt s k == 48) && az s (k + 1)) := by rw [az, dif_pos h]
theorem az_end {s : ByteArray} {k : Nat} (h : dgt (bt s k) = false) : az s k = true := by rw [az, dif_neg (by rw [h]; simp)]
/-- Behind the digits ahead of the point. -/
def ah (s : ByteArray) (p : Nat) (nought : Bool) (e : Nat) : Nat :=
  if (bt s p == 46) && dgt (bt s (p + 1)) then (if nought && az s (p + 1) then (if nought then e else p) else re s (p + 1)) else (if nought then e else p)
/-- At the first digit. -/
def fi (s : ByteArray) (p : Nat) (nought : Bool) : Nat := if bt s p == 48 then ah s (p + 1) nought 0 else if dgt (bt s p) then ah s (re s p) false 0 else 0
/-- How long the longest beginning is that is a decimal text. -/
def pfx (s : ByteArray) : Nat := if bt s 0 == 45 then fi s 1 true else fi s 0 false
/-- What is left to do at each label. -/
def PR (s : ByteArray) (R : Nat) : Nat → Nat → Nat → Bool → Prop
  | 0, k, e, _ => (bt s k == 45) = true ∧ fi s (k + 1) true = R ∧ e = 0
  | 1, k, e, b => fi s k b = R ∧ e = 0
  | 2, k, e, b => ah s k b e = R
  | 3, k, e, _ => dgt (bt s k) = true ∧ ah s (re s k) false 0 = R ∧ e = 0
  | 4, k, e, b => dgt (bt s k) = true ∧ (if b && az s k then e else re s k) = R
  | _, _, _, _ => False
def lb (i : Nat) : Nat := if i = 3 then 0 else 1
def PI (s : ByteArray) (R : Nat) (w : World) (i m : Nat) (l : List (Nat × Value)) (w1 : World) : Prop :=
  ∃ (k e : Nat) (b : Bool), look l 0 = .string s ∧ look l 3 = .int .i64 (k : Int) ∧ look l 4 = .int .i64 (e : Int) ∧ look l 5 = .bool b ∧ k ≤ s.size ∧ m = 2 * (s.size + 1 - k) + lb i ∧ PR s R i k e b ∧ Mo w w1
theorem w_scope1 {P : Program} {n : Nat} {l : List (Nat × Value)} {w : World} {Q : Exit → Act → World → Prop} {c : Code} (I : Nat → Nat → List (Nat × Value) → World → Prop) (hf : ∀ i m l w, I i m l w → (findLabel c i).isSome = true)
    (first : WC P c (jumps (jto n none I) Q) n l w)
    (pass : ∀ i m l w, I i m l w → WC P ((findLabel c i).getD .skip) (jumps (jto n (some m) I) Q) n l w) : WC P (Code.scope c) Q n l w :=
  w_scope (fun i => (findLabel c i).getD .skip) I (fun i m l w h => by obtain ⟨x, hx⟩ := Option.isSome_iff_exists.1 (hf i m l w h); rw [hx]; rfl) first pass
theorem prefix_n (s : ByteArray) (w : World) (hs : s.size ≤ maxLen) : Calls Tryd.prog 47 #[.string s] w fun e w' => e = .returned (.int .i64 (pfx s : Int)) ∧ Mo w w' := by
  refine w_enter 60 Tryd.func47 Tryd.ntmps47 rfl rfl ?_
  have M : Mo w w := Mo.refl _
  refine w_seq ?_
  refine w_reg ?_
  refine wl_mv (.const (.int .i64 (0))) (.int .i64 (0)) (fun _ => rfl) rfl rfl ?_
  refine w_nil ?_
  refine xn_then ?_
  refine w_scope1 (PI s (pfx s) w) ?_ ?_ ?_
  · rintro i m l w1 ⟨k, e, b, _, _, _, _, _, _, hp, _⟩
    match i, hp with
    | 0, _ => rfl
    | 1, _ => rfl
    | 2, _ => rfl
    | 3, _ => rfl
    | 4, _ => rfl
  · cases hb : (bt s 0 == 45) with
    | true =>
      refine w_seq ?_
      refine w_reg ?_
      refine wl_mv (.const (.int .i64 (0))) (.int .i64 (0)) (fun _ => rfl) rfl rfl ?_
      refine wl_mv (.const (.int .i64 (0))) (.int .i64 (0)) (fun _ => rfl) rfl rfl ?_
      refine w_nil ?_
      refine xn_then ?_
      refine w_seq ?_
      refine w_reg ?_
      refine wl_mv (.const (.bool false)) (.bool false) (fun _ => rfl) rfl rfl ?_
      refine w_nil ?_
      refine xn_then ?_
      refine w_seq ?_
      refine w_seq ?_
      refine w_reg ?_
      refine wl_mv (.tmp 0) (.string s) (fun _ => rfl) rfl rfl ?_
      refine wl_mv (.tmp 3) (.int .i64 (0)) (fun _ => rfl) rfl rfl ?_
      refine wl_call 56 [(.tmp 6), (.tmp 7)] _ [.string s, .int .i64 (0)] (.int .u8 (bt s 0)) rfl rfl (fun _ _ => by kernel_rfl) (byteAt_n s 0 _) rfl ?_
      intro w1 hq
      replace M := M.trans hq
      clear hq
      refine wl_bin (fun x y => do eqGuard .eql 5 (.tmp 8) (.const (.int .u8 (45))) x y; binOp .eql 5 x y) (.tmp 8) (.const (.int .u8 (45))) (.int .u8 (bt s 0)) (.int .u8 (45)) (.bool true) (fun _ => rfl) rfl rfl (eq5r hb _ _ _) rfl ?_
      refine w_nil ?_
      refine xn_then ?_
      refine w_condT rfl ?_
      refine w_goto ?_
      refine xg_then ?_
      exact xg_jump0 _ ⟨0, 0, false, rfl, rfl, rfl, rfl, by omega, rfl, ⟨hb, by unfold pfx; rw [hb]; rfl, rfl⟩, M⟩
    | false =>
      refine w_seq ?_
      refine w_reg ?_
      refine wl_mv (.const (.int .i64 (0))) (.int .i64 (0)) (fun _ => rfl) rfl rfl ?_
      refine wl_mv (.const (.int .i64 (0))) (.int .i64 (0)) (fun _ => rfl) rfl rfl ?_
      refine w_nil ?_
      refine xn_then ?_
      refine w_seq ?_
      refine w_reg ?_
      refine wl_mv (.const (.bool false)) (.bool false) (fun _ => rfl) rfl rfl ?_
      refine w_nil ?_
      refine xn_then ?_
      refine w_seq ?_
      refine w_seq ?_
      refine w_reg ?_
      refine wl_mv (.tmp 0) (.string s) (fun _ => rfl) rfl rfl ?_
      refine wl_mv (.tmp 3) (.int .i64 (0)) (fun _ => rfl) rfl rfl ?_
      refine wl_call 56 [(.tmp 6), (.tmp 7)] _ [.string s, .int .i64 (0)] (.int .u8 (bt s 0)) rfl rfl (fun _ _ => by kernel_rfl) (byteAt_n s 0 _) rfl ?_
      intro w1 hq
      replace M := M.trans hq
      clear hq
      refine wl_bin (fun x y => do eqGuard .eql 5 (.tmp 8) (.const (.int .u8 (45))) x y; binOp .eql 5 x y) (.tmp 8) (.const (.int .u8 (45))) (.int .u8 (bt s 0)) (.int .u8 (45)) (.bool false) (fun _ => rfl) rfl rfl (eq5r hb _ _ _) rfl ?_
      refine w_nil ?_
      refine xn_then ?_
      refine w_condF rfl ?_
      refine w_skip ?_
      refine xn_then ?_
      refine w_seq ?_
      refine w_goto ?_
      refine xg_then ?_
      exact xg_jump0 _ ⟨0, 0, false, rfl, rfl, rfl, rfl, by omega, rfl, ⟨by unfold pfx; rw [hb]; rfl, rfl⟩, M⟩
  · clear M
    rintro i m l wl ⟨k, e, b, e0, e3, e4, e5, hk, hm, hp, M⟩
    subst hm
    match i, hp with
    | 0, hp =>
      obtain ⟨h1, h2, rfl⟩ := hp
      have hin := eq_in (by decide) h1
      have hov : k ≤ 9223372036854775806 := by unfold maxLen at hs; omega
      refine w_seq ?_
      refine w_skip ?_
      refine xn_then ?_
      refine w_seq ?_
      refine w_reg ?_
      refine wl_mv (.const (.bool true)) (.bool true) (fun _ => rfl) rfl rfl ?_
      refine w_nil ?_
      refine xn_then ?_
      refine w_seq ?_
      refine w_reg ?_
      refine wl_mv (.tmp 3) (.int .i64 ((k : Int))) (fun _ => rfl) e3 rfl ?_
      refine wl_bin (fun x y => do eqGuard .add 3 (.tmp 10) (.const (.int .i64 (1))) x y; binOp .add 3 x y) (.tmp 10) (.const (.int .i64 (1))) (.int .i64 ((k : Int))) (.int .i64 (1)) (.int .i64 (((k + 1 : Nat) : Int))) (fun _ => rfl) rfl rfl (add1r hov _ _ _) rfl ?_
      refine wl_mv (.tmp 11) (.int .i64 (((k + 1 : Nat) : Int))) (fun _ => rfl) rfl rfl ?_
      refine w_nil ?_
      refine xn_then ?_
      refine w_seq ?_
      refine w_goto ?_
      refine xg_then ?_
      exact xg_jump (2 * (s.size + 1 - (k + 1)) + lb 1) (by simp only [lb]; simp <;> omega) ⟨(k + 1), 0, true, e0, rfl, e4, rfl, by omega, rfl, ⟨h2, rfl⟩, M⟩
    | 1, hp =>
      obtain ⟨h2, rfl⟩ := hp
      cases h1 : (bt s k == 48) with
      | true =>
        have hin := eq_in (by decide) h1
        have hov : k ≤ 9223372036854775806 := by unfold maxLen at hs; omega
        refine w_seq ?_
        refine w_skip ?_
        refine xn_then ?_
        refine w_seq ?_
        refine w_seq ?_
        refine w_reg ?_
        refine wl_mv (.tmp 0) (.string s) (fun _ => rfl) e0 rfl ?_
        refine wl_mv (.tmp 3) (.int .i64 ((k : Int))) (fun _ => rfl) e3 rfl ?_
        refine wl_call 56 [(.tmp 12), (.tmp 13)] _ [.string s, .int .i64 ((k : Int))] (.int .u8 (bt s k)) rfl rfl (fun _ _ => by kernel_rfl) (byteAt_n s k _) rfl ?_
        intro w1 hq
        replace M := M.trans hq
        clear hq
        refine wl_bin (fun x y => do eqGuard .eql 5 (.tmp 14) (.const (.int .u8 (48))) x y; binOp .eql 5 x y) (.tmp 14) (.const (.int .u8 (48))) (.int .u8 (bt s k)) (.int .u8 (48)) (.bool true) (fun _ => rfl) rfl rfl (eq5r h1 _ _ _) rfl ?_
        refine w_nil ?_
        refine xn_then ?_
        refine w_condT rfl ?_
        refine w_seq ?_
        refine w_reg ?_
        refine wl_mv (.tmp 3) (.int .i64 ((k : Int))) (fun _ => rfl) e3 rfl ?_
        refine wl_bin (fun x y => do eqGuard .add 3 (.tmp 16) (.const (.int .i64 (1))) x y; binOp .add 3 x y) (.tmp 16) (.const (.int .i64 (1))) (.int .i64 ((k : Int))) (.int .i64 (1)) (.int .i64 (((k + 1 : Nat) : Int))) (fun _ => rfl) rfl rfl (add1r hov _ _ _) rfl ?_
        refine wl_mv (.tmp 17) (.int .i64 (((k + 1 : Nat) : Int))) (fun _ => rfl) rfl rfl ?_
        refine w_nil ?_
        refine xn_then ?_
        refine w_goto ?_
        refine xg_then ?_
        exact xg_jump (2 * (s.size + 1 - (k + 1)) + lb 2) (by simp only [lb]; simp <;> omega) ⟨(k + 1), 0, (b), e0, rfl, e4, e5, by omega, rfl, by unfold fi at h2; rw [h1] at h2; exact h2, M⟩
      | false =>
        cases hd : dgt (bt s k) with
        | true =>
          have hdc : ∀ w, Calls Tryd.prog 57 #[.int .u8 (bt s k)] w fun e w' => e = .returned (.bool true) ∧ Mo w w' := fun w => by have := isDigit_n (bt s k) w; rw [hd] at this; exact this
          refine w_seq ?_
          refine w_skip ?_
          refine xn_then ?_
          refine w_seq ?_
          refine w_seq ?_
          refine w_reg ?_
          refine wl_mv (.tmp 0) (.string s) (fun _ => rfl) e0 rfl ?_
          refine wl_mv (.tmp 3) (.int .i64 ((k : Int))) (fun _ => rfl) e3 rfl ?_
          refine wl_call 56 [(.tmp 12), (.tmp 13)] _ [.string s, .int .i64 ((k : Int))] (.int .u8 (bt s k)) rfl rfl (fun _ _ => by kernel_rfl) (byteAt_n s k _) rfl ?_
          intro w1 hq
          replace M := M.trans hq
          clear hq
          refine wl_bin (fun x y => do eqGuard .eql 5 (.tmp 14) (.const (.int .u8 (48))) x y; binOp .eql 5 x y) (.tmp 14) (.const (.int .u8 (48))) (.int .u8 (bt s k)) (.int .u8 (48)) (.bool false) (fun _ => rfl) rfl rfl (eq5r h1 _ _ _) rfl ?_
          refine w_nil ?_
          refine xn_then ?_
          refine w_condF rfl ?_
          refine w_skip ?_
          refine xn_then ?_
          refine w_seq ?_
          refine w_seq ?_
          refine w_reg ?_
          refine wl_mv (.tmp 0) (.string s) (fun _ => rfl) e0 rfl ?_
          refine wl_mv (.tmp 3) (.int .i64 ((k : Int))) (fun _ => rfl) e3 rfl ?_
          refine wl_call 56 [(.tmp 18), (.tmp 19)] _ [.string s, .int .i64 ((k : Int))] (.int .u8 (bt s k)) rfl rfl (fun _ _ => by kernel_rfl) (byteAt_n s k _) rfl ?_
          intro w2 hq
          replace M := M.trans hq
          clear hq
          refine wl_call 57 [(.tmp 20)] _ [.int .u8 (bt s k)] (.bool true) rfl rfl (fun _ _ => by kernel_rfl) (hdc _) rfl ?_
          intro w3 hq
          replace M := M.trans hq
          clear hq
          refine w_nil ?_
          refine xn_then ?_
          refine w_condT rfl ?_
          refine w_goto ?_
          refine xg_then ?_
          exact xg_jump (2 * (s.size + 1 - k) + lb 3) (by simp only [lb]; simp <;> omega) ⟨k, 0, (b), e0, e3, e4, e5, by omega, rfl, ⟨hd, by unfold fi at h2; rw [h1, hd] at h2; exact h2, rfl⟩, M⟩
        | false =>
          have hdc : ∀ w, Calls Tryd.prog 57 #[.int .u8 (bt s k)] w fun e w' => e = .returned (.bool false) ∧ Mo w w' := fun w => by have := isDigit_n (bt s k) w; rw [hd] at this; exact this
          refine w_seq ?_
          refine w_skip ?_
          refine xn_then ?_
          refine w_seq ?_
          refine w_seq ?_
          refine w_reg ?_
          refine wl_mv (.tmp 0) (.string s) (fun _ => rfl) e0 rfl ?_
          refine wl_mv (.tmp 3) (.int .i64 ((k : Int))) (fun _ => rfl) e3 rfl ?_
          refine wl_call 56 [(.tmp 12), (.tmp 13)] _ [.string s, .int .i64 ((k : Int))] (.int .u8 (bt s k)) rfl rfl (fun _ _ => by kernel_rfl) (byteAt_n s k _) rfl ?_
          intro w1 hq
          replace M := M.trans hq
          clear hq
          refine wl_bin (fun x y => do eqGuard .eql 5 (.tmp 14) (.const (.int .u8 (48))) x y; binOp .eql 5 x y) (.tmp 14) (.const (.int .u8 (48))) (.int .u8 (bt s k)) (.int .u8 (48)) (.bool false) (fun _ => rfl) rfl rfl (eq5r h1 _ _ _) rfl ?_
          refine w_nil ?_
          refine xn_then ?_
          refine w_condF rfl ?_
          refine w_skip ?_
          refine xn_then ?_
          refine w_seq ?_
          refine w_seq ?_
          refine w_reg ?_
          refine wl_mv (.tmp 0) (.string s) (fun _ => rfl) e0 rfl ?_
          refine wl_mv (.tmp 3) (.int .i64 ((k : Int))) (fun _ => rfl) e3 rfl ?_
          refine wl_call 56 [(.tmp 18), (.tmp 19)] _ [.string s, .int .i64 ((k : Int))] (.int .u8 (bt s k)) rfl rfl (fun _ _ => by kernel_rfl) (byteAt_n s k _) rfl ?_
          intro w2 hq
          replace M := M.trans hq
          clear hq
          refine wl_call 57 [(.tmp 20)] _ [.int .u8 (bt s k)] (.bool false) rfl rfl (fun _ _ => by kernel_rfl) (hdc _) rfl ?_
          intro w3 hq
          replace M := M.trans hq
          clear hq
          refine w_nil ?_
          refine xn_then ?_
          refine w_condF rfl ?_
          refine w_skip ?_
          refine xn_then ?_
          refine w_seq ?_
          refine w_seq ?_
          refine w_reg ?_
          refine wl_mv (.tmp 4) (.int .i64 (((0 : Nat) : Int))) (fun _ => rfl) e4 rfl ?_
          refine wl_mv (.tmp 22) (.int .i64 (((0 : Nat) : Int))) (fun _ => rfl) rfl rfl ?_
          refine w_nil ?_
          refine xn_then ?_
          refine w_ret ?_
          refine xr_then ?_
          refine xr_jumps ?_
          exact w_ret1 _ (.int .i64 (((0 : Nat) : Int))) rfl rfl ⟨by unfold fi at h2; rw [h1, hd] at h2; rw [← h2]; rfl, M⟩
    | 3, hp =>
      obtain ⟨h1, h2, rfl⟩ := hp
      have hin := dgt_in h1
      have hov : k ≤ 9223372036854775806 := by unfold maxLen at hs; omega
      rw [re_on h1] at h2
      cases hd : dgt (bt s (k + 1)) with
      | true =>
        have hdc : ∀ w, Calls Tryd.prog 57 #[.int .u8 (bt s (k + 1))] w fun e w' => e = .returned (.bool true) ∧ Mo w w' := fun w => by have := isDigit_n (bt s (k + 1)) w; rw [hd] at this; exact this
        refine w_seq ?_
        refine w_skip ?_
        refine xn_then ?_
        refine w_seq ?_
        refine w_reg ?_
        refine wl_mv (.const (.bool false)) (.bool false) (fun _ => rfl) rfl rfl ?_
        refine w_nil ?_
        refine xn_then ?_
        refine w_seq ?_
        refine w_reg ?_
        refine wl_mv (.tmp 3) (.int .i64 ((k : Int))) (fun _ => rfl) e3 rfl ?_
        refine wl_bin (fun x y => do eqGuard .add 3 (.tmp 23) (.const (.int .i64 (1))) x y; binOp .add 3 x y) (.tmp 23) (.const (.int .i64 (1))) (.int .i64 ((k : Int))) (.int .i64 (1)) (.int .i64 (((k + 1 : Nat) : Int))) (fun _ => rfl) rfl rfl (add1r hov _ _ _) rfl ?_
        refine wl_mv (.tmp 24) (.int .i64 (((k + 1 : Nat) : Int))) (fun _ => rfl) rfl rfl ?_
        refine w_nil ?_
        refine xn_then ?_
        refine w_seq ?_
        refine w_seq ?_
        refine w_reg ?_
        refine wl_mv (.tmp 0) (.string s) (fun _ => rfl) e0 rfl ?_
        refine wl_mv (.tmp 3) (.int .i64 (((k + 1 : Nat) : Int))) (fun _ => rfl) rfl rfl ?_
        refine wl_call 56 [(.tmp 25), (.tmp 26)] _ [.string s, .int .i64 (((k + 1 : Nat) : Int))] (.int .u8 (bt s (k + 1))) rfl rfl (fun _ _ => by kernel_rfl) (byteAt_n s (k + 1) _) rfl ?_
        intro w1 hq
        replace M := M.trans hq
        clear hq
        refine wl_call 57 [(.tmp 27)] _ [.int .u8 (bt s (k + 1))] (.bool true) rfl rfl (fun _ _ => by kernel_rfl) (hdc _) rfl ?_
        intro w2 hq
        replace M := M.trans hq
        clear hq
        refine w_nil ?_
        refine xn_then ?_
        refine w_condT rfl ?_
        refine w_goto ?_
        refine xg_then ?_
        exact xg_jump (2 * (s.size + 1 - (k + 1)) + lb 3) (by simp only [lb]; simp <;> omega) ⟨(k + 1), 0, false, e0, rfl, e4, rfl, by omega, rfl, ⟨hd, h2, rfl⟩, M⟩
      | false =>
        have hdc : ∀ w, Calls Tryd.prog 57 #[.int .u8 (bt s (k + 1))] w fun e w' => e = .returned (.bool false) ∧ Mo w w' := fun w => by have := isDigit_n (bt s (k + 1)) w; rw [hd] at this; exact this
        refine w_seq ?_
        refine w_skip ?_
        refine xn_then ?_
        refine w_seq ?_
        refine w_reg ?_
        refine wl_mv (.const (.bool false)) (.bool false) (fun _ => rfl) rfl rfl ?_
        refine w_nil ?_
        refine xn_then ?_
        refine w_seq ?_
        refine w_reg ?_
        refine wl_mv (.tmp 3) (.int .i64 ((k : Int))) (fun _ => rfl) e3 rfl ?_
        refine wl_bin (fun x y => do eqGuard .add 3 (.tmp 23) (.const (.int .i64 (1))) x y; binOp .add 3 x y) (.tmp 23) (.const (.int .i64 (1))) (.int .i64 ((k : Int))) (.int .i64 (1)) (.int .i64 (((k + 1 : Nat) : Int))) (fun _ => rfl) rfl rfl (add1r hov _ _ _) rfl ?_
        refine wl_mv (.tmp 24) (.int .i64 (((k + 1 : Nat) : Int))) (fun _ => rfl) rfl rfl ?_
        refine w_nil ?_
        refine xn_then ?_
        refine w_seq ?_
        refine w_seq ?_
        refine w_reg ?_
        refine wl_mv (.tmp 0) (.string s) (fun _ => rfl) e0 rfl ?_
        refine wl_mv (.tmp 3) (.int .i64 (((k + 1 : Nat) : Int))) (fun _ => rfl) rfl rfl ?_
        refine wl_call 56 [(.tmp 25), (.tmp 26)] _ [.string s, .int .i64 (((k + 1 : Nat) : Int))] (.int .u8 (bt s (k + 1))) rfl rfl (fun _ _ => by kernel_rfl) (byteAt_n s (k + 1) _) rfl ?_
        intro w1 hq
        replace M := M.trans hq
        clear hq
        refine wl_call 57 [(.tmp 27)] _ [.int .u8 (bt s (k + 1))] (.bool false) rfl rfl (fun _ _ => by kernel_rfl) (hdc _) rfl ?_
        intro w2 hq
        replace M := M.trans hq
        clear hq
        refine w_nil ?_
        refine xn_then ?_
        refine w_condF rfl ?_
        refine w_skip ?_
        refine xn_then ?_
        refine w_seq ?_
        refine w_goto ?_
        refine xg_then ?_
        exact xg_jump (2 * (s.size + 1 - (k + 1)) + lb 2) (by simp only [lb]; simp <;> omega) ⟨(k + 1), 0, false, e0, rfl, e4, rfl, by omega, rfl, by rw [re_end hd] at h2; exact h2, M⟩
    | 2, hp =>
      replace hp : ah s k b e = pfx s := hp
      cases b with
      | true =>
        cases h1 : (bt s k == 46) with
        | true =>
          have hin := eq_in (by decide) h1
          have hov : k ≤ 9223372036854775806 := by unfold maxLen at hs; omega
          cases hd : dgt (bt s (k + 1)) with
          | true =>
            have hdc : ∀ w, Calls Tryd.prog 57 #[.int .u8 (bt s (k + 1))] w fun e w' => e = .returned (.bool true) ∧ Mo w w' := fun w => by have := isDigit_n (bt s (k + 1)) w; rw [hd] at this; exact this
            refine w_seq ?_
            refine w_skip ?_
            refine xn_then ?_
            refine w_seq ?_
            refine w_seq ?_
            refine w_reg ?_
            refine wl_mv (.tmp 5) (.bool true) (fun _ => rfl) e5 rfl ?_
            refine wl_un (fun v => Op.unary .not v) (.tmp 29) (.bool true) (.bool false) (fun _ => rfl) rfl (by kernel_rfl) rfl ?_
            refine w_nil ?_
            refine xn_then ?_
            refine w_condF rfl ?_
            refine w_skip ?_
            refine xn_then ?_
            refine w_seq ?_
            refine w_seq ?_
            refine w_reg ?_
            refine wl_mv (.tmp 0) (.string s) (fun _ => rfl) e0 rfl ?_
            refine wl_mv (.tmp 3) (.int .i64 ((k : Int))) (fun _ => rfl) e3 rfl ?_
            refine wl_call 56 [(.tmp 32), (.tmp 33)] _ [.string s, .int .i64 ((k : Int))] (.int .u8 (bt s k)) rfl rfl (fun _ _ => by kernel_rfl) (byteAt_n s k _) rfl ?_
            intro w1 hq
            replace M := M.trans hq
            clear hq
            refine wl_bin (fun x y => do eqGuard .eql 5 (.tmp 34) (.const (.int .u8 (46))) x y; binOp .eql 5 x y) (.tmp 34) (.const (.int .u8 (46))) (.int .u8 (bt s k)) (.int .u8 (46)) (.bool true) (fun _ => rfl) rfl rfl (eq5r h1 _ _ _) rfl ?_
            refine wl_mv (.tmp 35) (.bool true) (fun _ => rfl) rfl rfl ?_
            refine wl_mv (.tmp 0) (.string s) (fun _ => rfl) e0 rfl ?_
            refine wl_mv (.tmp 3) (.int .i64 ((k : Int))) (fun _ => rfl) e3 rfl ?_
            refine wl_bin (fun x y => do eqGuard .add 3 (.tmp 38) (.const (.int .i64 (1))) x y; binOp .add 3 x y) (.tmp 38) (.const (.int .i64 (1))) (.int .i64 ((k : Int))) (.int .i64 (1)) (.int .i64 (((k + 1 : Nat) : Int))) (fun _ => rfl) rfl rfl (add1r hov _ _ _) rfl ?_
            refine wl_call 56 [(.tmp 37), (.tmp 39)] _ [.string s, .int .i64 (((k + 1 : Nat) : Int))] (.int .u8 (bt s (k + 1))) rfl rfl (fun _ _ => by kernel_rfl) (byteAt_n s (k + 1) _) rfl ?_
            intro w2 hq
            replace M := M.trans hq
            clear hq
            refine wl_call 57 [(.tmp 40)] _ [.int .u8 (bt s (k + 1))] (.bool true) rfl rfl (fun _ _ => by kernel_rfl) (hdc _) rfl ?_
            intro w3 hq
            replace M := M.trans hq
            clear hq
            refine wl_pick (.tmp 36) (.tmp 41) (.const (.bool false)) true (.bool true) (fun _ => rfl) rfl rfl rfl ?_
            refine w_nil ?_
            refine xn_then ?_
            refine w_condT rfl ?_
            refine w_seq ?_
            refine w_reg ?_
            refine wl_mv (.tmp 3) (.int .i64 ((k : Int))) (fun _ => rfl) e3 rfl ?_
            refine wl_bin (fun x y => do eqGuard .add 3 (.tmp 43) (.const (.int .i64 (1))) x y; binOp .add 3 x y) (.tmp 43) (.const (.int .i64 (1))) (.int .i64 ((k : Int))) (.int .i64 (1)) (.int .i64 (((k + 1 : Nat) : Int))) (fun _ => rfl) rfl rfl (add1r hov _ _ _) rfl ?_
            refine wl_mv (.tmp 44) (.int .i64 (((k + 1 : Nat) : Int))) (fun _ => rfl) rfl rfl ?_
            refine w_nil ?_
            refine xn_then ?_
            refine w_goto ?_
            refine xg_then ?_
            exact xg_jump (2 * (s.size + 1 - (k + 1)) + lb 4) (by simp only [lb]; simp <;> omega) ⟨(k + 1), e, true, e0, rfl, e4, e5, by omega, rfl, ⟨hd, by unfold ah at hp; rw [h1, hd] at hp; exact hp⟩, M⟩
          | false =>
            have hdc : ∀ w, Calls Tryd.prog 57 #[.int .u8 (bt s (k + 1))] w fun e w' => e = .returned (.bool false) ∧ Mo w w' := fun w => by have := isDigit_n (bt s (k + 1)) w; rw [hd] at this; exact this
            refine w_seq ?_
            refine w_skip ?_
            refine xn_then ?_
            refine w_seq ?_
            refine w_seq ?_
            refine w_reg ?_
            refine wl_mv (.tmp 5) (.bool true) (fun _ => rfl) e5 rfl ?_
            refine wl_un (fun v => Op.unary .not v) (.tmp 29) (.bool true) (.bool false) (fun _ => rfl) rfl (by kernel_rfl) rfl ?_
            refine w_nil ?_
            refine xn_then ?_
            refine w_condF rfl ?_
            refine w_skip ?_
            refine xn_then ?_
            refine w_seq ?_
            refine w_seq ?_
            refine w_reg ?_
            refine wl_mv (.tmp 0) (.string s) (fun _ => rfl) e0 rfl ?_
            refine wl_mv (.tmp 3) (.int .i64 ((k : Int))) (fun _ => rfl) e3 rfl ?_
            refine wl_call 56 [(.tmp 32), (.tmp 33)] _ [.string s, .int .i64 ((k : Int))] (.int .u8 (bt s k)) rfl rfl (fun _ _ => by kernel_rfl) (byteAt_n s k _) rfl ?_
            intro w1 hq
            replace M := M.trans hq
            clear hq
            refine wl_bin (fun x y => do eqGuard .eql 5 (.tmp 34) (.const (.int .u8 (46))) x y; binOp .eql 5 x y) (.tmp 34) (.const (.int .u8 (46))) (.int .u8 (bt s k)) (.int .u8 (46)) (.bool true) (fun _ => rfl) rfl rfl (eq5r h1 _ _ _) rfl ?_
            refine wl_mv (.tmp 35) (.bool true) (fun _ => rfl) rfl rfl ?_
            refine wl_mv (.tmp 0) (.string s) (fun _ => rfl) e0 rfl ?_
            refine wl_mv (.tmp 3) (.int .i64 ((k : Int))) (fun _ => rfl) e3 rfl ?_
            refine wl_bin (fun x y => do eqGuard .add 3 (.tmp 38) (.const (.int .i64 (1))) x y; binOp .add 3 x y) (.tmp 38) (.const (.int .i64 (1))) (.int .i64 ((k : Int))) (.int .i64 (1)) (.int .i64 (((k + 1 : Nat) : Int))) (fun _ => rfl) rfl rfl (add1r hov _ _ _) rfl ?_
            refine wl_call 56 [(.tmp 37), (.tmp 39)] _ [.string s, .int .i64 (((k + 1 : Nat) : Int))] (.int .u8 (bt s (k + 1))) rfl rfl (fun _ _ => by kernel_rfl) (byteAt_n s (k + 1) _) rfl ?_
            intro w2 hq
            replace M := M.trans hq
            clear hq
            refine wl_call 57 [(.tmp 40)] _ [.int .u8 (bt s (k + 1))] (.bool false) rfl rfl (fun _ _ => by kernel_rfl) (hdc _) rfl ?_
            intro w3 hq
            replace M := M.trans hq
            clear hq
            refine wl_pick (.tmp 36) (.tmp 41) (.const (.bool false)) true (.bool false) (fun _ => rfl) rfl rfl rfl ?_
            refine w_nil ?_
            refine xn_then ?_
            refine w_condF rfl ?_
            refine w_skip ?_
            refine xn_then ?_
            refine w_seq ?_
            refine w_seq ?_
            refine w_reg ?_
            refine wl_mv (.tmp 4) (.int .i64 ((e : Int))) (fun _ => rfl) e4 rfl ?_
            refine wl_mv (.tmp 45) (.int .i64 ((e : Int))) (fun _ => rfl) rfl rfl ?_
            refine w_nil ?_
            refine xn_then ?_
            refine w_ret ?_
            refine xr_then ?_
            refine xr_jumps ?_
            exact w_ret1 _ (.int .i64 ((e : Int))) rfl rfl ⟨by unfold ah at hp; rw [h1, hd] at hp; rw [← hp]; rfl, M⟩
        | false =>
          refine w_seq ?_
          refine w_skip ?_
          refine xn_then ?_
          refine w_seq ?_
          refine w_seq ?_
          refine w_reg ?_
          refine wl_mv (.tmp 5) (.bool true) (fun _ => rfl) e5 rfl ?_
          refine wl_un (fun v => Op.unary .not v) (.tmp 29) (.bool true) (.bool false) (fun _ => rfl) rfl (by kernel_rfl) rfl ?_
          refine w_nil ?_
          refine xn_then ?_
          refine w_condF rfl ?_
          refine w_skip ?_
          refine xn_then ?_
          refine w_seq ?_
          refine w_seq ?_
          refine w_reg ?_
          refine wl_mv (.tmp 0) (.string s) (fun _ => rfl) e0 rfl ?_
          refine wl_mv (.tmp 3) (.int .i64 ((k : Int))) (fun _ => rfl) e3 rfl ?_
          refine wl_call 56 [(.tmp 32), (.tmp 33)] _ [.string s, .int .i64 ((k : Int))] (.int .u8 (bt s k)) rfl rfl (fun _ _ => by kernel_rfl) (byteAt_n s k _) rfl ?_
          intro w1 hq
          replace M := M.trans hq
          clear hq
          refine wl_bin (fun x y => do eqGuard .eql 5 (.tmp 34) (.const (.int .u8 (46))) x y; binOp .eql 5 x y) (.tmp 34) (.const (.int .u8 (46))) (.int .u8 (bt s k)) (.int .u8 (46)) (.bool false) (fun _ => rfl) rfl rfl (eq5r h1 _ _ _) rfl ?_
          refine wl_mv (.tmp 35) (.bool false) (fun _ => rfl) rfl rfl ?_
          refine wl_skip rfl ?_
          refine wl_skip rfl ?_
          refine wl_skip rfl ?_
          refine wl_skip rfl ?_
          refine wl_skip rfl ?_
          refine wl_pick (.tmp 36) (.tmp 41) (.const (.bool false)) false (.bool false) (fun _ => rfl) rfl rfl rfl ?_
          refine w_nil ?_
          refine xn_then ?_
          refine w_condF rfl ?_
          refine w_skip ?_
          refine xn_then ?_
          refine w_seq ?_
          refine w_seq ?_
          refine w_reg ?_
          refine wl_mv (.tmp 4) (.int .i64 ((e : Int))) (fun _ => rfl) e4 rfl ?_
          refine wl_mv (.tmp 45) (.int .i64 ((e : Int))) (fun _ => rfl) rfl rfl ?_
          refine w_nil ?_
          refine xn_then ?_
          refine w_ret ?_
          refine xr_then ?_
          refine xr_jumps ?_
          exact w_ret1 _ (.int .i64 ((e : Int))) rfl rfl ⟨by unfold ah at hp; rw [h1] at hp; rw [← hp]; rfl, M⟩
      | false =>
        cases h1 : (bt s k == 46) with
        | true =>
          have hin := eq_in (by decide) h1
          have hov : k ≤ 9223372036854775806 := by unfold maxLen at hs; omega
          cases hd : dgt (bt s (k + 1)) with
          | true =>
            have hdc : ∀ w, Calls Tryd.prog 57 #[.int .u8 (bt s (k + 1))] w fun e w' => e = .returned (.bool true) ∧ Mo w w' := fun w => by have := isDigit_n (bt s (k + 1)) w; rw [hd] at this; exact this
            refine w_seq ?_
            refine w_skip ?_
            refine xn_then ?_
            refine w_seq ?_
            refine w_seq ?_
            refine w_reg ?_
            refine wl_mv (.tmp 5) (.bool false) (fun _ => rfl) e5 rfl ?_
            refine wl_un (fun v => Op.unary .not v) (.tmp 29) (.bool false) (.bool true) (fun _ => rfl) rfl (by kernel_rfl) rfl ?_
            refine w_nil ?_
            refine xn_then ?_
            refine w_condT rfl ?_
            refine w_reg ?_
            refine wl_mv (.tmp 3) (.int .i64 ((k : Int))) (fun _ => rfl) e3 rfl ?_
            refine wl_mv (.tmp 31) (.int .i64 ((k : Int))) (fun _ => rfl) rfl rfl ?_
            refine w_nil ?_
            refine xn_then ?_
            refine w_seq ?_
            refine w_seq ?_
            refine w_reg ?_
            refine wl_mv (.tmp 0) (.string s) (fun _ => rfl) e0 rfl ?_
            refine wl_mv (.tmp 3) (.int .i64 ((k : Int))) (fun _ => rfl) e3 rfl ?_
            refine wl_call 56 [(.tmp 32), (.tmp 33)] _ [.string s, .int .i64 ((k : Int))] (.int .u8 (bt s k)) rfl rfl (fun _ _ => by kernel_rfl) (byteAt_n s k _) rfl ?_
            intro w1 hq
            replace M := M.trans hq
            clear hq
            refine wl_bin (fun x y => do eqGuard .eql 5 (.tmp 34) (.const (.int .u8 (46))) x y; binOp .eql 5 x y) (.tmp 34) (.const (.int .u8 (46))) (.int .u8 (bt s k)) (.int .u8 (46)) (.bool true) (fun _ => rfl) rfl rfl (eq5r h1 _ _ _) rfl ?_
            refine wl_mv (.tmp 35) (.bool true) (fun _ => rfl) rfl rfl ?_
            refine wl_mv (.tmp 0) (.string s) (fun _ => rfl) e0 rfl ?_
            refine wl_mv (.tmp 3) (.int .i64 ((k : Int))) (fun _ => rfl) e3 rfl ?_
            refine wl_bin (fun x y => do eqGuard .add 3 (.tmp 38) (.const (.int .i64 (1))) x y; binOp .add 3 x y) (.tmp 38) (.const (.int .i64 (1))) (.int .i64 ((k : Int))) (.int .i64 (1)) (.int .i64 (((k + 1 : Nat) : Int))) (fun _ => rfl) rfl rfl (add1r hov _ _ _) rfl ?_
            refine wl_call 56 [(.tmp 37), (.tmp 39)] _ [.string s, .int .i64 (((k + 1 : Nat) : Int))] (.int .u8 (bt s (k + 1))) rfl rfl (fun _ _ => by kernel_rfl) (byteAt_n s (k + 1) _) rfl ?_
            intro w2 hq
            replace M := M.trans hq
            clear hq
            refine wl_call 57 [(.tmp 40)] _ [.int .u8 (bt s (k + 1))] (.bool true) rfl rfl (fun _ _ => by kernel_rfl) (hdc _) rfl ?_
            intro w3 hq
            replace M := M.trans hq
            clear hq
            refine wl_pick (.tmp 36) (.tmp 41) (.const (.bool false)) true (.bool true) (fun _ => rfl) rfl rfl rfl ?_
            refine w_nil ?_
            refine xn_then ?_
            refine w_condT rfl ?_
            refine w_seq ?_
            refine w_reg ?_
            refine wl_mv (.tmp 3) (.int .i64 ((k : Int))) (fun _ => rfl) e3 rfl ?_
            refine wl_bin (fun x y => do eqGuard .add 3 (.tmp 43) (.const (.int .i64 (1))) x y; binOp .add 3 x y) (.tmp 43) (.const (.int .i64 (1))) (.int .i64 ((k : Int))) (.int .i64 (1)) (.int .i64 (((k + 1 : Nat) : Int))) (fun _ => rfl) rfl rfl (add1r hov _ _ _) rfl ?_
            refine wl_mv (.tmp 44) (.int .i64 (((k + 1 : Nat) : Int))) (fun _ => rfl) rfl rfl ?_
            refine w_nil ?_
            refine xn_then ?_
            refine w_goto ?_
            refine xg_then ?_
            exact xg_jump (2 * (s.size + 1 - (k + 1)) + lb 4) (by simp only [lb]; simp <;> omega) ⟨(k + 1), k, false, e0, rfl, rfl, e5, by omega, rfl, ⟨hd, by unfold ah at hp; rw [h1, hd] at hp; exact hp⟩, M⟩
          | false =>
            have hdc : ∀ w, Calls Tryd.prog 57 #[.int .u8 (bt s (k + 1))] w fun e w' => e = .returned (.bool false) ∧ Mo w w' := fun w => by have := isDigit_n (bt s (k + 1)) w; rw [hd] at this; exact this
            refine w_seq ?_
            refine w_skip ?_
            refine xn_then ?_
            refine w_seq ?_
            refine w_seq ?_
            refine w_reg ?_
            refine wl_mv (.tmp 5) (.bool false) (fun _ => rfl) e5 rfl ?_
            refine wl_un (fun v => Op.unary .not v) (.tmp 29) (.bool false) (.bool true) (fun _ => rfl) rfl (by kernel_rfl) rfl ?_
            refine w_nil ?_
            refine xn_then ?_
            refine w_condT rfl ?_
            refine w_reg ?_
            refine wl_mv (.tmp 3) (.int .i64 ((k : Int))) (fun _ => rfl) e3 rfl ?_
            refine wl_mv (.tmp 31) (.int .i64 ((k : Int))) (fun _ => rfl) rfl rfl ?_
            refine w_nil ?_
            refine xn_then ?_
            refine w_seq ?_
            refine w_seq ?_
            refine w_reg ?_
            refine wl_mv (.tmp 0) (.string s) (fun _ => rfl) e0 rfl ?_
            refine wl_mv (.tmp 3) (.int .i64 ((k : Int))) (fun _ => rfl) e3 rfl ?_
            refine wl_call 56 [(.tmp 32), (.tmp 33)] _ [.string s, .int .i64 ((k : Int))] (.int .u8 (bt s k)) rfl rfl (fun _ _ => by kernel_rfl) (byteAt_n s k _) rfl ?_
            intro w1 hq
            replace M := M.trans hq
            clear hq
            refine wl_bin (fun x y => do eqGuard .eql 5 (.tmp 34) (.const (.int .u8 (46))) x y; binOp .eql 5 x y) (.tmp 34) (.const (.int .u8 (46))) (.int .u8 (bt s k)) (.int .u8 (46)) (.bool true) (fun _ => rfl) rfl rfl (eq5r h1 _ _ _) rfl ?_
            refine wl_mv (.tmp 35) (.bool true) (fun _ => rfl) rfl rfl ?_
            refine wl_mv (.tmp 0) (.string s) (fun _ => rfl) e0 rfl ?_
            refine wl_mv (.tmp 3) (.int .i64 ((k : Int))) (fun _ => rfl) e3 rfl ?_
            refine wl_bin (fun x y => do eqGuard .add 3 (.tmp 38) (.const (.int .i64 (1))) x y; binOp .add 3 x y) (.tmp 38) (.const (.int .i64 (1))) (.int .i64 ((k : Int))) (.int .i64 (1)) (.int .i64 (((k + 1 : Nat) : Int))) (fun _ => rfl) rfl rfl (add1r hov _ _ _) rfl ?_
            refine wl_call 56 [(.tmp 37), (.tmp 39)] _ [.string s, .int .i64 (((k + 1 : Nat) : Int))] (.int .u8 (bt s (k + 1))) rfl rfl (fun _ _ => by kernel_rfl) (byteAt_n s (k + 1) _) rfl ?_
            intro w2 hq
            replace M := M.trans hq
            clear hq
            refine wl_call 57 [(.tmp 40)] _ [.int .u8 (bt s (k + 1))] (.bool false) rfl rfl (fun _ _ => by kernel_rfl) (hdc _) rfl ?_
            intro w3 hq
            replace M := M.trans hq
            clear hq
            refine wl_pick (.tmp 36) (.tmp 41) (.const (.bool false)) true (.bool false) (fun _ => rfl) rfl rfl rfl ?_
            refine w_nil ?_
            refine xn_then ?_
            refine w_condF rfl ?_
            refine w_skip ?_
            refine xn_then ?_
            refine w_seq ?_
            refine w_seq ?_
            refine w_reg ?_
            refine wl_mv (.tmp 4) (.int .i64 ((k : Int))) (fun _ => rfl) rfl rfl ?_
            refine wl_mv (.tmp 45) (.int .i64 ((k : Int))) (fun _ => rfl) rfl rfl ?_
            refine w_nil ?_
            refine xn_then ?_
            refine w_ret ?_
            refine xr_then ?_
            refine xr_jumps ?_
            exact w_ret1 _ (.int .i64 ((k : Int))) rfl rfl ⟨by unfold ah at hp; rw [h1, hd] at hp; rw [← hp]; rfl, M⟩
        | false =>
          refine w_seq ?_
          refine w_skip ?_
          refine xn_then ?_
          refine w_seq ?_
          refine w_seq ?_
          refine w_reg ?_
          refine wl_mv (.tmp 5) (.bool false) (fun _ => rfl) e5 rfl ?_
          refine wl_un (fun v => Op.unary .not v) (.tmp 29) (.bool false) (.bool true) (fun _ => rfl) rfl (by kernel_rfl) rfl ?_
          refine w_nil ?_
          refine xn_then ?_
          refine w_condT rfl ?_
          refine w_reg ?_
          refine wl_mv (.tmp 3) (.int .i64 ((k : Int))) (fun _ => rfl) e3 rfl ?_
          refine wl_mv (.tmp 31) (.int .i64 ((k : Int))) (fun _ => rfl) rfl rfl ?_
          refine w_nil ?_
          refine xn_then ?_
          refine w_seq ?_
          refine w_seq ?_
          refine w_reg ?_
          refine wl_mv (.tmp 0) (.string s) (fun _ => rfl) e0 rfl ?_
          refine wl_mv (.tmp 3) (.int .i64 ((k : Int))) (fun _ => rfl) e3 rfl ?_
          refine wl_call 56 [(.tmp 32), (.tmp 33)] _ [.string s, .int .i64 ((k : Int))] (.int .u8 (bt s k)) rfl rfl (fun _ _ => by kernel_rfl) (byteAt_n s k _) rfl ?_
          intro w1 hq
          replace M := M.trans hq
          clear hq
          refine wl_bin (fun x y => do eqGuard .eql 5 (.tmp 34) (.const (.int .u8 (46))) x y; binOp .eql 5 x y) (.tmp 34) (.const (.int .u8 (46))) (.int .u8 (bt s k)) (.int .u8 (46)) (.bool false) (fun _ => rfl) rfl rfl (eq5r h1 _ _ _) rfl ?_
          refine wl_mv (.tmp 35) (.bool false) (fun _ => rfl) rfl rfl ?_
          refine wl_skip rfl ?_
          refine wl_skip rfl ?_
          refine wl_skip rfl ?_
          refine wl_skip rfl ?_
          refine wl_skip rfl ?_
          refine wl_pick (.tmp 36) (.tmp 41) (.const (.bool false)) false (.bool false) (fun _ => rfl) rfl rfl rfl ?_
          refine w_nil ?_
          refine xn_then ?_
          refine w_condF rfl ?_
          refine w_skip ?_
          refine xn_then ?_
          refine w_seq ?_
          refine w_seq ?_
          refine w_reg ?_
          refine wl_mv (.tmp 4) (.int .i64 ((k : Int))) (fun _ => rfl) rfl rfl ?_
          refine wl_mv (.tmp 45) (.int .i64 ((k : Int))) (fun _ => rfl) rfl rfl ?_
          refine w_nil ?_
          refine xn_then ?_
          refine w_ret ?_
          refine xr_then ?_
          refine xr_jumps ?_
          exact w_ret1 _ (.int .i64 ((k : Int))) rfl rfl ⟨by unfold ah at hp; rw [h1] at hp; rw [← hp]; rfl, M⟩
    | 4, hp =>
      obtain ⟨h1, h2⟩ := hp
      have hin := dgt_in h1
      have hov : k ≤ 9223372036854775806 := by unfold maxLen at hs; omega
      rw [re_on h1, az_on h1] at h2
      cases b with
      | true =>
        cases h3 : (bt s k == 48) with
        | true =>
          rw [h3] at h2
          cases hd : dgt (bt s (k + 1)) with
          | true =>
            have hdc : ∀ w, Calls Tryd.prog 57 #[.int .u8 (bt s (k + 1))] w fun e w' => e = .returned (.bool true) ∧ Mo w w' := fun w => by have := isDigit_n (bt s (k + 1)) w; rw [hd] at this; exact this
            refine w_seq ?_
            refine w_skip ?_
            refine xn_then ?_
            refine w_seq ?_
            refine w_seq ?_
            refine w_reg ?_
            refine wl_mv (.tmp 0) (.string s) (fun _ => rfl) e0 rfl ?_
            refine wl_mv (.tmp 3) (.int .i64 ((k : Int))) (fun _ => rfl) e3 rfl ?_
            refine wl_call 56 [(.tmp 46), (.tmp 47)] _ [.string s, .int .i64 ((k : Int))] (.int .u8 (bt s k)) rfl rfl (fun _ _ => by kernel_rfl) (byteAt_n s k _) rfl ?_
            intro w1 hq
            replace M := M.trans hq
            clear hq
            refine wl_bin (fun x y => do eqGuard .neq 5 (.tmp 48) (.const (.int .u8 (48))) x y; binOp .neq 5 x y) (.tmp 48) (.const (.int .u8 (48))) (.int .u8 (bt s k)) (.int .u8 (48)) (.bool false) (fun _ => rfl) rfl rfl (ne5r h3 _ _ _) rfl ?_
            refine w_nil ?_
            refine xn_then ?_
            refine w_condF rfl ?_
            refine w_skip ?_
            refine xn_then ?_
            refine w_seq ?_
            refine w_reg ?_
            refine wl_mv (.tmp 3) (.int .i64 ((k : Int))) (fun _ => rfl) e3 rfl ?_
            refine wl_bin (fun x y => do eqGuard .add 3 (.tmp 50) (.const (.int .i64 (1))) x y; binOp .add 3 x y) (.tmp 50) (.const (.int .i64 (1))) (.int .i64 ((k : Int))) (.int .i64 (1)) (.int .i64 (((k + 1 : Nat) : Int))) (fun _ => rfl) rfl rfl (add1r hov _ _ _) rfl ?_
            refine wl_mv (.tmp 51) (.int .i64 (((k + 1 : Nat) : Int))) (fun _ => rfl) rfl rfl ?_
            refine w_nil ?_
            refine xn_then ?_
            refine w_seq ?_
            refine w_seq ?_
            refine w_reg ?_
            refine wl_mv (.tmp 5) (.bool true) (fun _ => rfl) e5 rfl ?_
            refine wl_un (fun v => Op.unary .not v) (.tmp 52) (.bool true) (.bool false) (fun _ => rfl) rfl (by kernel_rfl) rfl ?_
            refine w_nil ?_
            refine xn_then ?_
            refine w_condF rfl ?_
            refine w_skip ?_
            refine xn_then ?_
            refine w_seq ?_
            refine w_seq ?_
            refine w_reg ?_
            refine wl_mv (.tmp 0) (.string s) (fun _ => rfl) e0 rfl ?_
            refine wl_mv (.tmp 3) (.int .i64 (((k + 1 : Nat) : Int))) (fun _ => rfl) rfl rfl ?_
            refine wl_call 56 [(.tmp 55), (.tmp 56)] _ [.string s, .int .i64 (((k + 1 : Nat) : Int))] (.int .u8 (bt s (k + 1))) rfl rfl (fun _ _ => by kernel_rfl) (byteAt_n s (k + 1) _) rfl ?_
            intro w2 hq
            replace M := M.trans hq
            clear hq
            refine wl_call 57 [(.tmp 57)] _ [.int .u8 (bt s (k + 1))] (.bool true) rfl rfl (fun _ _ => by kernel_rfl) (hdc _) rfl ?_
            intro w3 hq
            replace M := M.trans hq
            clear hq
            refine w_nil ?_
            refine xn_then ?_
            refine w_condT rfl ?_
            refine w_goto ?_
            refine xg_then ?_
            exact xg_jump (2 * (s.size + 1 - (k + 1)) + lb 4) (by simp only [lb]; simp <;> omega) ⟨(k + 1), e, true, e0, rfl, e4, e5, by omega, rfl, ⟨hd, by simpa using h2⟩, M⟩
          | false =>
            have hdc : ∀ w, Calls Tryd.prog 57 #[.int .u8 (bt s (k + 1))] w fun e w' => e = .returned (.bool false) ∧ Mo w w' := fun w => by have := isDigit_n (bt s (k + 1)) w; rw [hd] at this; exact this
            refine w_seq ?_
            refine w_skip ?_
            refine xn_then ?_
            refine w_seq ?_
            refine w_seq ?_
            refine w_reg ?_
            refine wl_mv (.tmp 0) (.string s) (fun _ => rfl) e0 rfl ?_
            refine wl_mv (.tmp 3) (.int .i64 ((k : Int))) (fun _ => rfl) e3 rfl ?_
            refine wl_call 56 [(.tmp 46), (.tmp 47)] _ [.string s, .int .i64 ((k : Int))] (.int .u8 (bt s k)) rfl rfl (fun _ _ => by kernel_rfl) (byteAt_n s k _) rfl ?_
            intro w1 hq
            replace M := M.trans hq
            clear hq
            refine wl_bin (fun x y => do eqGuard .neq 5 (.tmp 48) (.const (.int .u8 (48))) x y; binOp .neq 5 x y) (.tmp 48) (.const (.int .u8 (48))) (.int .u8 (bt s k)) (.int .u8 (48)) (.bool false) (fun _ => rfl) rfl rfl (ne5r h3 _ _ _) rfl ?_
            refine w_nil ?_
            refine xn_then ?_
            refine w_condF rfl ?_
            refine w_skip ?_
            refine xn_then ?_
            refine w_seq ?_
            refine w_reg ?_
            refine wl_mv (.tmp 3) (.int .i64 ((k : Int))) (fun _ => rfl) e3 rfl ?_
            refine wl_bin (fun x y => do eqGuard .add 3 (.tmp 50) (.const (.int .i64 (1))) x y; binOp .add 3 x y) (.tmp 50) (.const (.int .i64 (1))) (.int .i64 ((k : Int))) (.int .i64 (1)) (.int .i64 (((k + 1 : Nat) : Int))) (fun _ => rfl) rfl rfl (add1r hov _ _ _) rfl ?_
            refine wl_mv (.tmp 51) (.int .i64 (((k + 1 : Nat) : Int))) (fun _ => rfl) rfl rfl ?_
            refine w_nil ?_
            refine xn_then ?_
            refine w_seq ?_
            refine w_seq ?_
            refine w_reg ?_
            refine wl_mv (.tmp 5) (.bool true) (fun _ => rfl) e5 rfl ?_
            refine wl_un (fun v => Op.unary .not v) (.tmp 52) (.bool true) (.bool false) (fun _ => rfl) rfl (by kernel_rfl) rfl ?_
            refine w_nil ?_
            refine xn_then ?_
            refine w_condF rfl ?_
            refine w_skip ?_
            refine xn_then ?_
            refine w_seq ?_
            refine w_seq ?_
            refine w_reg ?_
            refine wl_mv (.tmp 0) (.string s) (fun _ => rfl) e0 rfl ?_
            refine wl_mv (.tmp 3) (.int .i64 (((k + 1 : Nat) : Int))) (fun _ => rfl) rfl rfl ?_
            refine wl_call 56 [(.tmp 55), (.tmp 56)] _ [.string s, .int .i64 (((k + 1 : Nat) : Int))] (.int .u8 (bt s (k + 1))) rfl rfl (fun _ _ => by kernel_rfl) (byteAt_n s (k + 1) _) rfl ?_
            intro w2 hq
            replace M := M.trans hq
            clear hq
            refine wl_call 57 [(.tmp 57)] _ [.int .u8 (bt s (k + 1))] (.bool false) rfl rfl (fun _ _ => by kernel_rfl) (hdc _) rfl ?_
            intro w3 hq
            replace M := M.trans hq
            clear hq
            refine w_nil ?_
            refine xn_then ?_
            refine w_condF rfl ?_
            refine w_skip ?_
            refine xn_then ?_
            refine w_seq ?_
            refine w_reg ?_
            refine wl_mv (.tmp 4) (.int .i64 ((e : Int))) (fun _ => rfl) e4 rfl ?_
            refine wl_mv (.tmp 59) (.int .i64 ((e : Int))) (fun _ => rfl) rfl rfl ?_
            refine w_nil ?_
            refine xn_then ?_
            refine w_ret ?_
            refine xr_jumps ?_
            exact w_ret1 _ (.int .i64 ((e : Int))) rfl rfl ⟨by rw [re_end hd, az_end hd] at h2; simp at h2; rw [← h2], M⟩
        | false =>
          rw [h3] at h2
          cases hd : dgt (bt s (k + 1)) with
          | true =>
            have hdc : ∀ w, Calls Tryd.prog 57 #[.int .u8 (bt s (k + 1))] w fun e w' => e = .returned (.bool true) ∧ Mo w w' := fun w => by have := isDigit_n (bt s (k + 1)) w; rw [hd] at this; exact this
            refine w_seq ?_
            refine w_skip ?_
            refine xn_then ?_
            refine w_seq ?_
            refine w_seq ?_
            refine w_reg ?_
            refine wl_mv (.tmp 0) (.string s) (fun _ => rfl) e0 rfl ?_
            refine wl_mv (.tmp 3) (.int .i64 ((k : Int))) (fun _ => rfl) e3 rfl ?_
            refine wl_call 56 [(.tmp 46), (.tmp 47)] _ [.string s, .int .i64 ((k : Int))] (.int .u8 (bt s k)) rfl rfl (fun _ _ => by kernel_rfl) (byteAt_n s k _) rfl ?_
            intro w1 hq
            replace M := M.trans hq
            clear hq
            refine wl_bin (fun x y => do eqGuard .neq 5 (.tmp 48) (.const (.int .u8 (48))) x y; binOp .neq 5 x y) (.tmp 48) (.const (.int .u8 (48))) (.int .u8 (bt s k)) (.int .u8 (48)) (.bool true) (fun _ => rfl) rfl rfl (ne5r h3 _ _ _) rfl ?_
            refine w_nil ?_
            refine xn_then ?_
            refine w_condT rfl ?_
            refine w_reg ?_
            refine wl_mv (.const (.bool false)) (.bool false) (fun _ => rfl) rfl rfl ?_
            refine w_nil ?_
            refine xn_then ?_
            refine w_seq ?_
            refine w_reg ?_
            refine wl_mv (.tmp 3) (.int .i64 ((k : Int))) (fun _ => rfl) e3 rfl ?_
            refine wl_bin (fun x y => do eqGuard .add 3 (.tmp 50) (.const (.int .i64 (1))) x y; binOp .add 3 x y) (.tmp 50) (.const (.int .i64 (1))) (.int .i64 ((k : Int))) (.int .i64 (1)) (.int .i64 (((k + 1 : Nat) : Int))) (fun _ => rfl) rfl rfl (add1r hov _ _ _) rfl ?_
            refine wl_mv (.tmp 51) (.int .i64 (((k + 1 : Nat) : Int))) (fun _ => rfl) rfl rfl ?_
            refine w_nil ?_
            refine xn_then ?_
            refine w_seq ?_
            refine w_seq ?_
            refine w_reg ?_
            refine wl_mv (.tmp 5) (.bool false) (fun _ => rfl) rfl rfl ?_
            refine wl_un (fun v => Op.unary .not v) (.tmp 52) (.bool false) (.bool true) (fun _ => rfl) rfl (by kernel_rfl) rfl ?_
            refine w_nil ?_
            refine xn_then ?_
            refine w_condT rfl ?_
            refine w_reg ?_
            refine wl_mv (.tmp 3) (.int .i64 (((k + 1 : Nat) : Int))) (fun _ => rfl) rfl rfl ?_
            refine wl_mv (.tmp 54) (.int .i64 (((k + 1 : Nat) : Int))) (fun _ => rfl) rfl rfl ?_
            refine w_nil ?_
            refine xn_then ?_
            refine w_seq ?_
            refine w_seq ?_
            refine w_reg ?_
            refine wl_mv (.tmp 0) (.string s) (fun _ => rfl) e0 rfl ?_
            refine wl_mv (.tmp 3) (.int .i64 (((k + 1 : Nat) : Int))) (fun _ => rfl) rfl rfl ?_
            refine wl_call 56 [(.tmp 55), (.tmp 56)] _ [.string s, .int .i64 (((k + 1 : Nat) : Int))] (.int .u8 (bt s (k + 1))) rfl rfl (fun _ _ => by kernel_rfl) (byteAt_n s (k + 1) _) rfl ?_
            intro w2 hq
            replace M := M.trans hq
            clear hq
            refine wl_call 57 [(.tmp 57)] _ [.int .u8 (bt s (k + 1))] (.bool true) rfl rfl (fun _ _ => by kernel_rfl) (hdc _) rfl ?_
            intro w3 hq
            replace M := M.trans hq
            clear hq
            refine w_nil ?_
            refine xn_then ?_
            refine w_condT rfl ?_
            refine w_goto ?_
            refine xg_then ?_
            exact xg_jump (2 * (s.size + 1 - (k + 1)) + lb 4) (by simp only [lb]; simp <;> omega) ⟨(k + 1), (k + 1), false, e0, rfl, rfl, rfl, by omega, rfl, ⟨hd, by simpa using h2⟩, M⟩
          | false =>
            have hdc : ∀ w, Calls Tryd.prog 57 #[.int .u8 (bt s (k + 1))] w fun e w' => e = .returned (.bool false) ∧ Mo w w' := fun w => by have := isDigit_n (bt s (k + 1)) w; rw [hd] at this; exact this
            refine w_seq ?_
            refine w_skip ?_
            refine xn_then ?_
            refine w_seq ?_
            refine w_seq ?_
            refine w_reg ?_
            refine wl_mv (.tmp 0) (.string s) (fun _ => rfl) e0 rfl ?_
            refine wl_mv (.tmp 3) (.int .i64 ((k : Int))) (fun _ => rfl) e3 rfl ?_
            refine wl_call 56 [(.tmp 46), (.tmp 47)] _ [.string s, .int .i64 ((k : Int))] (.int .u8 (bt s k)) rfl rfl (fun _ _ => by kernel_rfl) (byteAt_n s k _) rfl ?_
            intro w1 hq
            replace M := M.trans hq
            clear hq
            refine wl_bin (fun x y => do eqGuard .neq 5 (.tmp 48) (.const (.int .u8 (48))) x y; binOp .neq 5 x y) (.tmp 48) (.const (.int .u8 (48))) (.int .u8 (bt s k)) (.int .u8 (48)) (.bool true) (fun _ => rfl) rfl rfl (ne5r h3 _ _ _) rfl ?_
            refine w_nil ?_
            refine xn_then ?_
            refine w_condT rfl ?_
            refine w_reg ?_
            refine wl_mv (.const (.bool false)) (.bool false) (fun _ => rfl) rfl rfl ?_
            refine w_nil ?_
            refine xn_then ?_
            refine w_seq ?_
            refine w_reg ?_
            refine wl_mv (.tmp 3) (.int .i64 ((k : Int))) (fun _ => rfl) e3 rfl ?_
            refine wl_bin (fun x y => do eqGuard .add 3 (.tmp 50) (.const (.int .i64 (1))) x y; binOp .add 3 x y) (.tmp 50) (.const (.int .i64 (1))) (.int .i64 ((k : Int))) (.int .i64 (1)) (.int .i64 (((k + 1 : Nat) : Int))) (fun _ => rfl) rfl rfl (add1r hov _ _ _) rfl ?_
            refine wl_mv (.tmp 51) (.int .i64 (((k + 1 : Nat) : Int))) (fun _ => rfl) rfl rfl ?_
            refine w_nil ?_
            refine xn_then ?_
            refine w_seq ?_
            refine w_seq ?_
            refine w_reg ?_
            refine wl_mv (.tmp 5) (.bool false) (fun _ => rfl) rfl rfl ?_
            refine wl_un (fun v => Op.unary .not v) (.tmp 52) (.bool false) (.bool true) (fun _ => rfl) rfl (by kernel_rfl) rfl ?_
            refine w_nil ?_
            refine xn_then ?_
            refine w_condT rfl ?_
            refine w_reg ?_
            refine wl_mv (.tmp 3) (.int .i64 (((k + 1 : Nat) : Int))) (fun _ => rfl) rfl rfl ?_
            refine wl_mv (.tmp 54) (.int .i64 (((k + 1 : Nat) : Int))) (fun _ => rfl) rfl rfl ?_
            refine w_nil ?_
            refine xn_then ?_
            refine w_seq ?_
            refine w_seq ?_
            refine w_reg ?_
            refine wl_mv (.tmp 0) (.string s) (fun _ => rfl) e0 rfl ?_
            refine wl_mv (.tmp 3) (.int .i64 (((k + 1 : Nat) : Int))) (fun _ => rfl) rfl rfl ?_
            refine wl_call 56 [(.tmp 55), (.tmp 56)] _ [.string s, .int .i64 (((k + 1 : Nat) : Int))] (.int .u8 (bt s (k + 1))) rfl rfl (fun _ _ => by kernel_rfl) (byteAt_n s (k + 1) _) rfl ?_
            intro w2 hq
            replace M := M.trans hq
            clear hq
            refine wl_call 57 [(.tmp 57)] _ [.int .u8 (bt s (k + 1))] (.bool false) rfl rfl (fun _ _ => by kernel_rfl) (hdc _) rfl ?_
            intro w3 hq
            replace M := M.trans hq
            clear hq
            refine w_nil ?_
            refine xn_then ?_
            refine w_condF rfl ?_
            refine w_skip ?_
            refine xn_then ?_
            refine w_seq ?_
            refine w_reg ?_
            refine wl_mv (.tmp 4) (.int .i64 (((k + 1 : Nat) : Int))) (fun _ => rfl) rfl rfl ?_
            refine wl_mv (.tmp 59) (.int .i64 (((k + 1 : Nat) : Int))) (fun _ => rfl) rfl rfl ?_
            refine w_nil ?_
            refine xn_then ?_
            refine w_ret ?_
            refine xr_jumps ?_
            exact w_ret1 _ (.int .i64 (((k + 1 : Nat) : Int))) rfl rfl ⟨by rw [re_end hd, az_end hd] at h2; simp at h2; rw [← h2], M⟩
      | false =>
        cases h3 : (bt s k == 48) with
        | true =>
          rw [h3] at h2
          cases hd : dgt (bt s (k + 1)) with
          | true =>
            have hdc : ∀ w, Calls Tryd.prog 57 #[.int .u8 (bt s (k + 1))] w fun e w' => e = .returned (.bool true) ∧ Mo w w' := fun w => by have := isDigit_n (bt s (k + 1)) w; rw [hd] at this; exact this
            refine w_seq ?_
            refine w_skip ?_
            refine xn_then ?_
            refine w_seq ?_
            refine w_seq ?_
            refine w_reg ?_
            refine wl_mv (.tmp 0) (.string s) (fun _ => rfl) e0 rfl ?_
            refine wl_mv (.tmp 3) (.int .i64 ((k : Int))) (fun _ => rfl) e3 rfl ?_
            refine wl_call 56 [(.tmp 46), (.tmp 47)] _ [.string s, .int .i64 ((k : Int))] (.int .u8 (bt s k)) rfl rfl (fun _ _ => by kernel_rfl) (byteAt_n s k _) rfl ?_
            intro w1 hq
            replace M := M.trans hq
            clear hq
            refine wl_bin (fun x y => do eqGuard .neq 5 (.tmp 48) (.const (.int .u8 (48))) x y; binOp .neq 5 x y) (.tmp 48) (.const (.int .u8 (48))) (.int .u8 (bt s k)) (.int .u8 (48)) (.bool false) (fun _ => rfl) rfl rfl (ne5r h3 _ _ _) rfl ?_
            refine w_nil ?_
            refine xn_then ?_
            refine w_condF rfl ?_
            refine w_skip ?_
            refine xn_then ?_
            refine w_seq ?_
            refine w_reg ?_
            refine wl_mv (.tmp 3) (.int .i64 ((k : Int))) (fun _ => rfl) e3 rfl ?_
            refine wl_bin (fun x y => do eqGuard .add 3 (.tmp 50) (.const (.int .i64 (1))) x y; binOp .add 3 x y) (.tmp 50) (.const (.int .i64 (1))) (.int .i64 ((k : Int))) (.int .i64 (1)) (.int .i64 (((k + 1 : Nat) : Int))) (fun _ => rfl) rfl rfl (add1r hov _ _ _) rfl ?_
            refine wl_mv (.tmp 51) (.int .i64 (((k + 1 : Nat) : Int))) (fun _ => rfl) rfl rfl ?_
            refine w_nil ?_
            refine xn_then ?_
            refine w_seq ?_
            refine w_seq ?_
            refine w_reg ?_
            refine wl_mv (.tmp 5) (.bool false) (fun _ => rfl) e5 rfl ?_
            refine wl_un (fun v => Op.unary .not v) (.tmp 52) (.bool false) (.bool true) (fun _ => rfl) rfl (by kernel_rfl) rfl ?_
            refine w_nil ?_
            refine xn_then ?_
            refine w_condT rfl ?_
            refine w_reg ?_
            refine wl_mv (.tmp 3) (.int .i64 (((k + 1 : Nat) : Int))) (fun _ => rfl) rfl rfl ?_
            refine wl_mv (.tmp 54) (.int .i64 (((k + 1 : Nat) : Int))) (fun _ => rfl) rfl rfl ?_
            refine w_nil ?_
            refine xn_then ?_
            refine w_seq ?_
            refine w_seq ?_
            refine w_reg ?_
            refine wl_mv (.tmp 0) (.string s) (fun _ => rfl) e0 rfl ?_
            refine wl_mv (.tmp 3) (.int .i64 (((k + 1 : Nat) : Int))) (fun _ => rfl) rfl rfl ?_
            refine wl_call 56 [(.tmp 55), (.tmp 56)] _ [.string s, .int .i64 (((k + 1 : Nat) : Int))] (.int .u8 (bt s (k + 1))) rfl rfl (fun _ _ => by kernel_rfl) (byteAt_n s (k + 1) _) rfl ?_
            intro w2 hq
            replace M := M.trans hq
            clear hq
            refine wl_call 57 [(.tmp 57)] _ [.int .u8 (bt s (k + 1))] (.bool true) rfl rfl (fun _ _ => by kernel_rfl) (hdc _) rfl ?_
            intro w3 hq
            replace M := M.trans hq
            clear hq
            refine w_nil ?_
            refine xn_then ?_
            refine w_condT rfl ?_
            refine w_goto ?_
            refine xg_then ?_
            exact xg_jump (2 * (s.size + 1 - (k + 1)) + lb 4) (by simp only [lb]; simp <;> omega) ⟨(k + 1), (k + 1), false, e0, rfl, rfl, e5, by omega, rfl, ⟨hd, by simpa using h2⟩, M⟩
          | false =>
            have hdc : ∀ w, Calls Tryd.prog 57 #[.int .u8 (bt s (k + 1))] w fun e w' => e = .returned (.bool false) ∧ Mo w w' := fun w => by have := isDigit_n (bt s (k + 1)) w; rw [hd] at this; exact this
            refine w_seq ?_
            refine w_skip ?_
            refine xn_then ?_
            refine w_seq ?_
            refine w_seq ?_
            refine w_reg ?_
            refine wl_mv (.tmp 0) (.string s) (fun _ => rfl) e0 rfl ?_
            refine wl_mv (.tmp 3) (.int .i64 ((k : Int))) (fun _ => rfl) e3 rfl ?_
            refine wl_call 56 [(.tmp 46), (.tmp 47)] _ [.string s, .int .i64 ((k : Int))] (.int .u8 (bt s k)) rfl rfl (fun _ _ => by kernel_rfl) (byteAt_n s k _) rfl ?_
            intro w1 hq
            replace M := M.trans hq
            clear hq
            refine wl_bin (fun x y => do eqGuard .neq 5 (.tmp 48) (.const (.int .u8 (48))) x y; binOp .neq 5 x y) (.tmp 48) (.const (.int .u8 (48))) (.int .u8 (bt s k)) (.int .u8 (48)) (.bool false) (fun _ => rfl) rfl rfl (ne5r h3 _ _ _) rfl ?_
            refine w_nil ?_
            refine xn_then ?_
            refine w_condF rfl ?_
            refine w_skip ?_
            refine xn_then ?_
            refine w_seq ?_
            refine w_reg ?_
            refine wl_mv (.tmp 3) (.int .i64 ((k : Int))) (fun _ => rfl) e3 rfl ?_
            refine wl_bin (fun x y => do eqGuard .add 3 (.tmp 50) (.const (.int .i64 (1))) x y; binOp .add 3 x y) (.tmp 50) (.const (.int .i64 (1))) (.int .i64 ((k : Int))) (.int .i64 (1)) (.int .i64 (((k + 1 : Nat) : Int))) (fun _ => rfl) rfl rfl (add1r hov _ _ _) rfl ?_
            refine wl_mv (.tmp 51) (.int .i64 (((k + 1 : Nat) : Int))) (fun _ => rfl) rfl rfl ?_
            refine w_nil ?_
            refine xn_then ?_
            refine w_seq ?_
            refine w_seq ?_
            refine w_reg ?_
            refine wl_mv (.tmp 5) (.bool false) (fun _ => rfl) e5 rfl ?_
            refine wl_un (fun v => Op.unary .not v) (.tmp 52) (.bool false) (.bool true) (fun _ => rfl) rfl (by kernel_rfl) rfl ?_
            refine w_nil ?_
            refine xn_then ?_
            refine w_condT rfl ?_
            refine w_reg ?_
            refine wl_mv (.tmp 3) (.int .i64 (((k + 1 : Nat) : Int))) (fun _ => rfl) rfl rfl ?_
            refine wl_mv (.tmp 54) (.int .i64 (((k + 1 : Nat) : Int))) (fun _ => rfl) rfl rfl ?_
            refine w_nil ?_
            refine xn_then ?_
            refine w_seq ?_
            refine w_seq ?_
            refine w_reg ?_
            refine wl_mv (.tmp 0) (.string s) (fun _ => rfl) e0 rfl ?_
            refine wl_mv (.tmp 3) (.int .i64 (((k + 1 : Nat) : Int))) (fun _ => rfl) rfl rfl ?_
            refine wl_call 56 [(.tmp 55), (.tmp 56)] _ [.string s, .int .i64 (((k + 1 : Nat) : Int))] (.int .u8 (bt s (k + 1))) rfl rfl (fun _ _ => by kernel_rfl) (byteAt_n s (k + 1) _) rfl ?_
            intro w2 hq
            replace M := M.trans hq
            clear hq
            refine wl_call 57 [(.tmp 57)] _ [.int .u8 (bt s (k + 1))] (.bool false) rfl rfl (fun _ _ => by kernel_rfl) (hdc _) rfl ?_
            intro w3 hq
            replace M := M.trans hq
            clear hq
            refine w_nil ?_
            refine xn_then ?_
            refine w_condF rfl ?_
            refine w_skip ?_
            refine xn_then ?_
            refine w_seq ?_
            refine w_reg ?_
            refine wl_mv (.tmp 4) (.int .i64 (((k + 1 : Nat) : Int))) (fun _ => rfl) rfl rfl ?_
            refine wl_mv (.tmp 59) (.int .i64 (((k + 1 : Nat) : Int))) (fun _ => rfl) rfl rfl ?_
            refine w_nil ?_
            refine xn_then ?_
            refine w_ret ?_
            refine xr_jumps ?_
            exact w_ret1 _ (.int .i64 (((k + 1 : Nat) : Int))) rfl rfl ⟨by rw [re_end hd, az_end hd] at h2; simp at h2; rw [← h2], M⟩
        | false =>
          rw [h3] at h2
          cases hd : dgt (bt s (k + 1)) with
          | true =>
            have hdc : ∀ w, Calls Tryd.prog 57 #[.int .u8 (bt s (k + 1))] w fun e w' => e = .returned (.bool true) ∧ Mo w w' := fun w => by have := isDigit_n (bt s (k + 1)) w; rw [hd] at this; exact this
            refine w_seq ?_
            refine w_skip ?_
            refine xn_then ?_
            refine w_seq ?_
            refine w_seq ?_
            refine w_reg ?_
            refine wl_mv (.tmp 0) (.string s) (fun _ => rfl) e0 rfl ?_
            refine wl_mv (.tmp 3) (.int .i64 ((k : Int))) (fun _ => rfl) e3 rfl ?_
            refine wl_call 56 [(.tmp 46), (.tmp 47)] _ [.string s, .int .i64 ((k : Int))] (.int .u8 (bt s k)) rfl rfl (fun _ _ => by kernel_rfl) (byteAt_n s k _) rfl ?_
            intro w1 hq
            replace M := M.trans hq
            clear hq
            refine wl_bin (fun x y => do eqGuard .neq 5 (.tmp 48) (.const (.int .u8 (48))) x y; binOp .neq 5 x y) (.tmp 48) (.const (.int .u8 (48))) (.int .u8 (bt s k)) (.int .u8 (48)) (.bool true) (fun _ => rfl) rfl rfl (ne5r h3 _ _ _) rfl ?_
            refine w_nil ?_
            refine xn_then ?_
            refine w_condT rfl ?_
            refine w_reg ?_
            refine wl_mv (.const (.bool false)) (.bool false) (fun _ => rfl) rfl rfl ?_
            refine w_nil ?_
            refine xn_then ?_
            refine w_seq ?_
            refine w_reg ?_
            refine wl_mv (.tmp 3) (.int .i64 ((k : Int))) (fun _ => rfl) e3 rfl ?_
            refine wl_bin (fun x y => do eqGuard .add 3 (.tmp 50) (.const (.int .i64 (1))) x y; binOp .add 3 x y) (.tmp 50) (.const (.int .i64 (1))) (.int .i64 ((k : Int))) (.int .i64 (1)) (.int .i64 (((k + 1 : Nat) : Int))) (fun _ => rfl) rfl rfl (add1r hov _ _ _) rfl ?_
            refine wl_mv (.tmp 51) (.int .i64 (((k + 1 : Nat) : Int))) (fun _ => rfl) rfl rfl ?_
            refine w_nil ?_
            refine xn_then ?_
            refine w_seq ?_
            refine w_seq ?_
            refine w_reg ?_
            refine wl_mv (.tmp 5) (.bool false) (fun _ => rfl) rfl rfl ?_
            refine wl_un (fun v => Op.unary .not v) (.tmp 52) (.bool false) (.bool true) (fun _ => rfl) rfl (by kernel_rfl) rfl ?_
            refine w_nil ?_
            refine xn_then ?_
            refine w_condT rfl ?_
            refine w_reg ?_
            refine wl_mv (.tmp 3) (.int .i64 (((k + 1 : Nat) : Int))) (fun _ => rfl) rfl rfl ?_
            refine wl_mv (.tmp 54) (.int .i64 (((k + 1 : Nat) : Int))) (fun _ => rfl) rfl rfl ?_
            refine w_nil ?_
            refine xn_then ?_
            refine w_seq ?_
            refine w_seq ?_
            refine w_reg ?_
            refine wl_mv (.tmp 0) (.string s) (fun _ => rfl) e0 rfl ?_
            refine wl_mv (.tmp 3) (.int .i64 (((k + 1 : Nat) : Int))) (fun _ => rfl) rfl rfl ?_
            refine wl_call 56 [(.tmp 55), (.tmp 56)] _ [.string s, .int .i64 (((k + 1 : Nat) : Int))] (.int .u8 (bt s (k + 1))) rfl rfl (fun _ _ => by kernel_rfl) (byteAt_n s (k + 1) _) rfl ?_
            intro w2 hq
            replace M := M.trans hq
            clear hq
            refine wl_call 57 [(.tmp 57)] _ [.int .u8 (bt s (k + 1))] (.bool true) rfl rfl (fun _ _ => by kernel_rfl) (hdc _) rfl ?_
            intro w3 hq
            replace M := M.trans hq
            clear hq
            refine w_nil ?_
            refine xn_then ?_
            refine w_condT rfl ?_
            refine w_goto ?_
            refine xg_then ?_
            exact xg_jump (2 * (s.size + 1 - (k + 1)) + lb 4) (by simp only [lb]; simp <;> omega) ⟨(k + 1), (k + 1), false, e0, rfl, rfl, rfl, by omega, rfl, ⟨hd, by simpa using h2⟩, M⟩
          | false =>
            have hdc : ∀ w, Calls Tryd.prog 57 #[.int .u8 (bt s (k + 1))] w fun e w' => e = .returned (.bool false) ∧ Mo w w' := fun w => by have := isDigit_n (bt s (k + 1)) w; rw [hd] at this; exact this
            refine w_seq ?_
            refine w_skip ?_
            refine xn_then ?_
            refine w_seq ?_
            refine w_seq ?_
            refine w_reg ?_
            refine wl_mv (.tmp 0) (.string s) (fun _ => rfl) e0 rfl ?_
            refine wl_mv (.tmp 3) (.int .i64 ((k : Int))) (fun _ => rfl) e3 rfl ?_
            refine wl_call 56 [(.tmp 46), (.tmp 47)] _ [.string s, .int .i64 ((k : Int))] (.int .u8 (bt s k)) rfl rfl (fun _ _ => by kernel_rfl) (byteAt_n s k _) rfl ?_
            intro w1 hq
            replace M := M.trans hq
            clear hq
            refine wl_bin (fun x y => do eqGuard .neq 5 (.tmp 48) (.const (.int .u8 (48))) x y; binOp .neq 5 x y) (.tmp 48) (.const (.int .u8 (48))) (.int .u8 (bt s k)) (.int .u8 (48)) (.bool true) (fun _ => rfl) rfl rfl (ne5r h3 _ _ _) rfl ?_
            refine w_nil ?_
            refine xn_then ?_
            refine w_condT rfl ?_
            refine w_reg ?_
            refine wl_mv (.const (.bool false)) (.bool false) (fun _ => rfl) rfl rfl ?_
            refine w_nil ?_
            refine xn_then ?_
            refine w_seq ?_
            refine w_reg ?_
            refine wl_mv (.tmp 3) (.int .i64 ((k : Int))) (fun _ => rfl) e3 rfl ?_
            refine wl_bin (fun x y => do eqGuard .add 3 (.tmp 50) (.const (.int .i64 (1))) x y; binOp .add 3 x y) (.tmp 50) (.const (.int .i64 (1))) (.int .i64 ((k : Int))) (.int .i64 (1)) (.int .i64 (((k + 1 : Nat) : Int))) (fun _ => rfl) rfl rfl (add1r hov _ _ _) rfl ?_
            refine wl_mv (.tmp 51) (.int .i64 (((k + 1 : Nat) : Int))) (fun _ => rfl) rfl rfl ?_
            refine w_nil ?_
            refine xn_then ?_
            refine w_seq ?_
            refine w_seq ?_
            refine w_reg ?_
            refine wl_mv (.tmp 5) (.bool false) (fun _ => rfl) rfl rfl ?_
            refine wl_un (fun v => Op.unary .not v) (.tmp 52) (.bool false) (.bool true) (fun _ => rfl) rfl (by kernel_rfl) rfl ?_
            refine w_nil ?_
            refine xn_then ?_
            refine w_condT rfl ?_
            refine w_reg ?_
            refine wl_mv (.tmp 3) (.int .i64 (((k + 1 : Nat) : Int))) (fun _ => rfl) rfl rfl ?_
            refine wl_mv (.tmp 54) (.int .i64 (((k + 1 : Nat) : Int))) (fun _ => rfl) rfl rfl ?_
            refine w_nil ?_
            refine xn_then ?_
            refine w_seq ?_
            refine w_seq ?_
            refine w_reg ?_
            refine wl_mv (.tmp 0) (.string s) (fun _ => rfl) e0 rfl ?_
            refine wl_mv (.tmp 3) (.int .i64 (((k + 1 : Nat) : Int))) (fun _ => rfl) rfl rfl ?_
            refine wl_call 56 [(.tmp 55), (.tmp 56)] _ [.string s, .int .i64 (((k + 1 : Nat) : Int))] (.int .u8 (bt s (k + 1))) rfl rfl (fun _ _ => by kernel_rfl) (byteAt_n s (k + 1) _) rfl ?_
            intro w2 hq
            replace M := M.trans hq
            clear hq
            refine wl_call 57 [(.tmp 57)] _ [.int .u8 (bt s (k + 1))] (.bool false) rfl rfl (fun _ _ => by kernel_rfl) (hdc _) rfl ?_
            intro w3 hq
            replace M := M.trans hq
            clear hq
            refine w_nil ?_
            refine xn_then ?_
            refine w_condF rfl ?_
            refine w_skip ?_
            refine xn_then ?_
            refine w_seq ?_
            refine w_reg ?_
            refine wl_mv (.tmp 4) (.int .i64 (((k + 1 : Nat) : Int))) (fun _ => rfl) rfl rfl ?_
            refine wl_mv (.tmp 59) (.int .i64 (((k + 1 : Nat) : Int))) (fun _ => rfl) rfl rfl ?_
            refine w_nil ?_
            refine xn_then ?_
            refine w_ret ?_
            refine xr_jumps ?_
            exact w_ret1 _ (.int .i64 (((k + 1 : Nat) : Int))) rfl rfl ⟨by rw [re_end hd, az_end hd] at h2; simp at h2; rw [← h2], M⟩
end Go.Proofs.YthgknegocfhdbaaDoor

namespace Go.Proofs
open Go.Shelf
def Tryd.lays264_ren : Go.Shelf.Ren := ⟨fun | 264 => 87 | n => n, fun | 53 => 29 | 46 => 74 | n => n, fun | n => n⟩
theorem Tryd.lays264 : Go.Proofs.Lays.n264 Tryd.prog Tryd.lays264_ren := {
  mixed := by kernel_rfl
  f264 := Tryd.func87.trans (congrArg some (by kernel_rfl))
  t46 := Tryd.underlying74
  a46 := Tryd.isAgg74
  z46 := Tryd.sizeOf74
  v46 := Tryd.zeroValue74
  t53 := Tryd.underlying29
  a53 := Tryd.isAgg29
  z53 := Tryd.sizeOf29
  v53 := Tryd.zeroValue29 }
open Go.RowKit Go.Lib in
theorem Tryd.bits_Mul64 (x y : Nat) (hx : x < 18446744073709551616) (hy : y < 18446744073709551616) (w : World) :
    Calls Tryd.prog 87 #[.int .u64 x, .int .u64 y] w fun e w' => e = .returned (.tuple #[.int .u64 ((x * y / 18446744073709551616 : Nat) : Int), .int .u64 ((x * y % 18446744073709551616 : Nat) : Int)]) ∧ w' = w := Any.bits_Mul64 Tryd.lays264 x y hx hy w
end Go.Proofs

namespace Go.Proofs
open Go.Shelf
def Tryd.lays169_ren : Go.Shelf.Ren := ⟨fun | 169 => 41 | n => n, fun | 70 => 61 | 9 => 9 | 0 => 0 | 72 => 64 | 37 => 62 | 127 => 79 | 3 => 3 | 5 => 5 | n => n, fun | n => n⟩
theorem Tryd.lays169 : Go.Proofs.Lays.n169 Tryd.prog Tryd.lays169_ren := {
  mixed := by kernel_rfl
  f169 := Tryd.func41.trans (congrArg some (by kernel_rfl))
  t0 := Tryd.underlying0
  a0 := Tryd.isAgg0
  z0 := Tryd.sizeOf0
  v0 := Tryd.zeroValue0
  t3 := Tryd.underlying3
  a3 := Tryd.isAgg3
  z3 := Tryd.sizeOf3
  v3 := Tryd.zeroValue3
  t9 := Tryd.underlying9
  a9 := Tryd.isAgg9
  z9 := Tryd.sizeOf9
  v9 := Tryd.zeroValue9
  t37 := Tryd.underlying62
  a37 := Tryd.isAgg62
  z37 := Tryd.sizeOf62
  v37 := Tryd.zeroValue62
  t70 := Tryd.underlying61
  a70 := Tryd.isAgg61
  z70 := Tryd.sizeOf61
  v70 := Tryd.zeroValue61
  t72 := Tryd.underlying64
  a72 := Tryd.isAgg64
  z72 := Tryd.sizeOf64
  v72 := Tryd.zeroValue64
  t127 := Tryd.underlying79
  a127 := Tryd.isAgg79
  z127 := Tryd.sizeOf79
  v127 := Tryd.zeroValue79 }
theorem Tryd.Builder_Extra_169 : Builder.Extra Tryd.prog Tryd.lays169_ren := {
  sizeBuilder := by kernel_rfl
  liesBuilder := by kernel_rfl
  t5 := Tryd.underlying5
  a5 := Tryd.isAgg5
  z5 := Tryd.sizeOf5
  v5 := Tryd.zeroValue5
  infoByte := by kernel_rfl
  cellsByte := by kernel_rfl
  sizeByte := by kernel_rfl
  neB5 := by decide }
open Go.RowKit in theorem Tryd.Builder_String_any (B b : Nat) (l : List UInt8) (w : World) (h : Lib.IsBuilder 64 5 B b (Lib.byteCells l) w) (hBw : B ≤ w.heap.size) :
    Calls Tryd.prog 41 #[.pointer (some ⟨b, 0, none⟩)] w fun e w' => e = .returned (.string ⟨l.toArray⟩) ∧ Below B w w' := Any.Builder_String_any Tryd.lays169 Tryd.Builder_Extra_169 B b l w h hBw
def Tryd.lays156_ren : Go.Shelf.Ren := ⟨fun | 156 => 45 | 165 => 55 | 166 => 44 | 169 => 41 | 240 => 54 | 241 => 68 | 276 => 67 | 277 => 75 | n => n, fun | 31 => 60 | 9 => 9 | 3 => 3 | 4 => 4 | 0 => 0 | 20 => 20 | 72 => 64 | 76 => 72 | 70 => 61 | 37 => 62 | 75 => 68 | 127 => 79 | 164 => 89 | 5 => 5 | 80 => 70 | n => n, fun | n => n⟩
theorem Tryd.lays156 : Go.Proofs.Lays.n156 Tryd.prog Tryd.lays156_ren := {
  mixed := by kernel_rfl
  f156 := Tryd.func45.trans (congrArg some (by kernel_rfl))
  f165 := Tryd.func55.trans (congrArg some (by kernel_rfl))
  f166 := Tryd.func44.trans (congrArg some (by kernel_rfl))
  f169 := Tryd.func41.trans (congrArg some (by kernel_rfl))
  f240 := Tryd.func54.trans (congrArg some (by kernel_rfl))
  f241 := Tryd.func68.trans (congrArg some (by kernel_rfl))
  f276 := Tryd.func67.trans (congrArg some (by kernel_rfl))
  f277 := Tryd.func75.trans (congrArg some (by kernel_rfl))
  t0 := Tryd.underlying0
  a0 := Tryd.isAgg0
  z0 := Tryd.sizeOf0
  v0 := Tryd.zeroValue0
  t3 := Tryd.underlying3
  a3 := Tryd.isAgg3
  z3 := Tryd.sizeOf3
  v3 := Tryd.zeroValue3
  t4 := Tryd.underlying4
  a4 := Tryd.isAgg4
  z4 := Tryd.sizeOf4
  v4 := Tryd.zeroValue4
  t9 := Tryd.underlying9
  a9 := Tryd.isAgg9
  z9 := Tryd.sizeOf9
  v9 := Tryd.zeroValue9
  t20 := Tryd.underlying20
  a20 := Tryd.isAgg20
  z20 := Tryd.sizeOf20
  v20 := Tryd.zeroValue20
  t31 := Tryd.underlying60
  a31 := Tryd.isAgg60
  z31 := Tryd.sizeOf60
  v31 := Tryd.zeroValue60
  t37 := Tryd.underlying62
  a37 := Tryd.isAgg62
  z37 := Tryd.sizeOf62
  v37 := Tryd.zeroValue62
  t70 := Tryd.underlying61
  a70 := Tryd.isAgg61
  z70 := Tryd.sizeOf61
  v70 := Tryd.zeroValue61
  t72 := Tryd.underlying64
  a72 := Tryd.isAgg64
  z72 := Tryd.sizeOf64
  v72 := Tryd.zeroValue64
  t75 := Tryd.underlying68
  a75 := Tryd.isAgg68
  z75 := Tryd.sizeOf68
  v75 := Tryd.zeroValue68
  t76 := Tryd.underlying72
  a76 := Tryd.isAgg72
  z76 := Tryd.sizeOf72
  v76 := Tryd.zeroValue72
  t127 := Tryd.underlying79
  a127 := Tryd.isAgg79
  z127 := Tryd.sizeOf79
  v127 := Tryd.zeroValue79
  t164 := Tryd.underlying89
  a164 := Tryd.isAgg89
  z164 := Tryd.sizeOf89
  v164 := Tryd.zeroValue89 }
theorem Tryd.Builder_Extra_156 : Builder.Extra Tryd.prog Tryd.lays156_ren := {
  sizeBuilder := by kernel_rfl
  liesBuilder := by kernel_rfl
  t5 := Tryd.underlying5
  a5 := Tryd.isAgg5
  z5 := Tryd.sizeOf5
  v5 := Tryd.zeroValue5
  infoByte := by kernel_rfl
  cellsByte := by kernel_rfl
  sizeByte := by kernel_rfl
  neB5 := by decide }
open Go.RowKit in theorem Tryd.strings_Join_none (a : Option Addr) (c : Nat) (sep : ByteArray) (w : World) :
    Calls Tryd.prog 45 #[.slice a 0 c, .string sep] w fun e w' => e = .returned (.string ⟨#[]⟩) ∧ w' = w := Any.strings_Join_none Tryd.lays156 Tryd.Builder_Extra_156 a c sep w
open Go.RowKit in theorem Tryd.strings_Join (bk o c : Nat) (xs : List ByteArray) (sep : ByteArray) (w : World) (hcells : ∀ (j : Nat) x, xs[j]? = some x → w.cell? ⟨bk, o + j, none⟩ = some (.string x)) (hbk : bk < w.heap.size) (hN : xs.length ≤ 140737488355328) (hcap : xs.length ≤ c) (hlen : (Lib.join (xs.map (·.data.toList)) sep.data.toList).length ≤ 140737488355328) :
    Calls Tryd.prog 45 #[.slice (some ⟨bk, o, none⟩) xs.length c, .string sep] w fun e w' => e = .returned (.string ⟨(Lib.join (xs.map (·.data.toList)) sep.data.toList).toArray⟩) ∧ Below w.heap.size w w' := Any.strings_Join Tryd.lays156 Tryd.Builder_Extra_156 bk o c xs sep w hcells hbk hN hcap hlen
def Tryd.lays161_ren : Go.Shelf.Ren := ⟨fun | 161 => 73 | 231 => 80 | 227 => 81 | 233 => 82 | 235 => 83 | 228 => 90 | 197 => 91 | 151 => 92 | 260 => 94 | 152 => 95 | 137 => 36 | 119 => 96 | 224 => 85 | 225 => 84 | 217 => 52 | 266 => 66 | n => n, fun | 9 => 9 | 4 => 4 | 3 => 3 | 5 => 5 | 117 => 102 | 116 => 101 | 0 => 0 | 124 => 105 | 105 => 111 | 21 => 21 | 119 => 118 | 46 => 74 | 139 => 121 | 138 => 120 | n => n, fun | 3 => 1 | 4 => 2 | n => n⟩
theorem Tryd.lays161 : Go.Proofs.Lays.n161 Tryd.prog Tryd.lays161_ren := {
  mixed := by kernel_rfl
  f119 := Tryd.func96.trans (congrArg some (by kernel_rfl))
  f137 := Tryd.func36.trans (congrArg some (by kernel_rfl))
  f151 := Tryd.func92.trans (congrArg some (by kernel_rfl))
  f152 := Tryd.func95.trans (congrArg some (by kernel_rfl))
  f161 := Tryd.func73.trans (congrArg some (by kernel_rfl))
  f197 := Tryd.func91.trans (congrArg some (by kernel_rfl))
  f217 := Tryd.func52.trans (congrArg some (by kernel_rfl))
  f224 := Tryd.func85.trans (congrArg some (by kernel_rfl))
  f225 := Tryd.func84.trans (congrArg some (by kernel_rfl))
  f227 := Tryd.func81.trans (congrArg some (by kernel_rfl))
  f228 := Tryd.func90.trans (congrArg some (by kernel_rfl))
  f231 := Tryd.func80.trans (congrArg some (by kernel_rfl))
  f233 := Tryd.func82.trans (congrArg some (by kernel_rfl))
  f235 := Tryd.func83.trans (congrArg some (by kernel_rfl))
  f260 := Tryd.func94.trans (congrArg some (by kernel_rfl))
  f266 := Tryd.func66.trans (congrArg some (by kernel_rfl))
  t0 := Tryd.underlying0
  a0 := Tryd.isAgg0
  z0 := Tryd.sizeOf0
  v0 := Tryd.zeroValue0
  t3 := Tryd.underlying3
  a3 := Tryd.isAgg3
  z3 := Tryd.sizeOf3
  v3 := Tryd.zeroValue3
  t4 := Tryd.underlying4
  a4 := Tryd.isAgg4
  z4 := Tryd.sizeOf4
  v4 := Tryd.zeroValue4
  t5 := Tryd.underlying5
  a5 := Tryd.isAgg5
  z5 := Tryd.sizeOf5
  v5 := Tryd.zeroValue5
  t9 := Tryd.underlying9
  a9 := Tryd.isAgg9
  z9 := Tryd.sizeOf9
  v9 := Tryd.zeroValue9
  t21 := Tryd.underlying21
  a21 := Tryd.isAgg21
  z21 := Tryd.sizeOf21
  v21 := Tryd.zeroValue21
  t46 := Tryd.underlying74
  a46 := Tryd.isAgg74
  z46 := Tryd.sizeOf74
  v46 := Tryd.zeroValue74
  t105 := Tryd.underlying111
  a105 := Tryd.isAgg111
  z105 := Tryd.sizeOf111
  v105 := Tryd.zeroValue111
  t116 := Tryd.underlying101
  a116 := Tryd.isAgg101
  z116 := Tryd.sizeOf101
  t117 := Tryd.underlying102
  a117 := Tryd.isAgg102
  z117 := Tryd.sizeOf102
  v117 := Tryd.zeroValue102
  t119 := Tryd.underlying118
  a119 := Tryd.isAgg118
  z119 := Tryd.sizeOf118
  t124 := Tryd.underlying105
  a124 := Tryd.isAgg105
  z124 := Tryd.sizeOf105
  v124 := Tryd.zeroValue105
  t138 := Tryd.underlying120
  a138 := Tryd.isAgg120
  z138 := Tryd.sizeOf120
  v138 := Tryd.zeroValue120
  t139 := Tryd.underlying121
  a139 := Tryd.isAgg121
  z139 := Tryd.sizeOf121
  v139 := Tryd.zeroValue121
  g3 := by kernel_rfl
  g4 := by kernel_rfl }
open Go.RowKit in theorem Tryd.strings_TrimLeft_one (s : ByteArray) (c : UInt8) (hc : c.toNat < 128) (w : World) :
    Calls Tryd.prog 73 #[.string s, .string ⟨#[c]⟩] w fun e w' => e = .returned (.string ⟨(Lib.trimLeftB s.data.toList c).toArray⟩) ∧ w' = w := Any.strings_TrimLeft_one Tryd.lays161 s c hc w
def Tryd.lays137_ren : Go.Shelf.Ren := ⟨fun | 137 => 36 | 217 => 52 | 266 => 66 | n => n, fun | 9 => 9 | 5 => 5 | 3 => 3 | n => n, fun | n => n⟩
theorem Tryd.lays137 : Go.Proofs.Lays.n137 Tryd.prog Tryd.lays137_ren := {
  mixed := by kernel_rfl
  f137 := Tryd.func36.trans (congrArg some (by kernel_rfl))
  f217 := Tryd.func52.trans (congrArg some (by kernel_rfl))
  f266 := Tryd.func66.trans (congrArg some (by kernel_rfl))
  t3 := Tryd.underlying3
  a3 := Tryd.isAgg3
  z3 := Tryd.sizeOf3
  v3 := Tryd.zeroValue3
  t5 := Tryd.underlying5
  a5 := Tryd.isAgg5
  z5 := Tryd.sizeOf5
  v5 := Tryd.zeroValue5
  t9 := Tryd.underlying9
  a9 := Tryd.isAgg9
  z9 := Tryd.sizeOf9
  v9 := Tryd.zeroValue9 }
open Go.RowKit in theorem Tryd.strings_IndexByte (s : ByteArray) (c : Int) (w : World) :
    Calls Tryd.prog 36 #[.string s, .int .u8 c] w fun e w' => e = .returned (.int .i64 (Lib.indexByte s.data.toList c.toNat.toUInt8)) ∧ w' = w := Any.strings_IndexByte Tryd.lays137 s c w
def Tryd.lays103_ren : Go.Shelf.Ren := ⟨fun | 103 => 59 | 210 => 69 | 206 => 46 | n => n, fun | 9 => 9 | 4 => 4 | 24 => 42 | 3 => 3 | n => n, fun | n => n⟩
theorem Tryd.lays103 : Go.Proofs.Lays.n103 Tryd.prog Tryd.lays103_ren := {
  mixed := by kernel_rfl
  f103 := Tryd.func59.trans (congrArg some (by kernel_rfl))
  f206 := Tryd.func46.trans (congrArg some (by kernel_rfl))
  f210 := Tryd.func69.trans (congrArg some (by kernel_rfl))
  t3 := Tryd.underlying3
  a3 := Tryd.isAgg3
  z3 := Tryd.sizeOf3
  v3 := Tryd.zeroValue3
  t4 := Tryd.underlying4
  a4 := Tryd.isAgg4
  z4 := Tryd.sizeOf4
  v4 := Tryd.zeroValue4
  t9 := Tryd.underlying9
  a9 := Tryd.isAgg9
  z9 := Tryd.sizeOf9
  v9 := Tryd.zeroValue9
  t24 := Tryd.underlying42
  a24 := Tryd.isAgg42
  z24 := Tryd.sizeOf42
  v24 := Tryd.zeroValue42 }
open Go.RowKit in theorem Tryd.strings_CutPrefix (s p : ByteArray) (w : World) :
    Calls Tryd.prog 59 #[.string s, .string p] w fun e w' => e = .returned (.tuple #[.string ⟨(Lib.trimPrefix s.data.toList p.data.toList).toArray⟩, .bool (Lib.hasPrefix s.data.toList p.data.toList)]) ∧ w' = w := Any.strings_CutPrefix Tryd.lays103 s p w
def Tryd.lays219_ren : Go.Shelf.Ren := ⟨fun | 219 => 76 | 217 => 52 | 225 => 84 | 224 => 85 | 267 => 86 | 266 => 66 | 314 => 93 | n => n, fun | 9 => 9 | 3 => 3 | 4 => 4 | 5 => 5 | 46 => 74 | 146 => 115 | 51 => 114 | n => n, fun | 1 => 0 | n => n⟩
theorem Tryd.lays219 : Go.Proofs.Lays.n219 Tryd.prog Tryd.lays219_ren := {
  mixed := by kernel_rfl
  f217 := Tryd.func52.trans (congrArg some (by kernel_rfl))
  f219 := Tryd.func76.trans (congrArg some (by kernel_rfl))
  f224 := Tryd.func85.trans (congrArg some (by kernel_rfl))
  f225 := Tryd.func84.trans (congrArg some (by kernel_rfl))
  f266 := Tryd.func66.trans (congrArg some (by kernel_rfl))
  f267 := Tryd.func86.trans (congrArg some (by kernel_rfl))
  f314 := Tryd.func93.trans (congrArg some (by kernel_rfl))
  t3 := Tryd.underlying3
  a3 := Tryd.isAgg3
  z3 := Tryd.sizeOf3
  v3 := Tryd.zeroValue3
  t4 := Tryd.underlying4
  a4 := Tryd.isAgg4
  z4 := Tryd.sizeOf4
  v4 := Tryd.zeroValue4
  t5 := Tryd.underlying5
  a5 := Tryd.isAgg5
  z5 := Tryd.sizeOf5
  v5 := Tryd.zeroValue5
  t9 := Tryd.underlying9
  a9 := Tryd.isAgg9
  z9 := Tryd.sizeOf9
  v9 := Tryd.zeroValue9
  t46 := Tryd.underlying74
  a46 := Tryd.isAgg74
  z46 := Tryd.sizeOf74
  v46 := Tryd.zeroValue74
  t51 := Tryd.underlying114
  a51 := Tryd.isAgg114
  z51 := Tryd.sizeOf114
  v51 := Tryd.zeroValue114
  t146 := Tryd.underlying115
  a146 := Tryd.isAgg115
  z146 := Tryd.sizeOf115
  v146 := Tryd.zeroValue115
  g1 := by kernel_rfl }
open Go.RowKit Go.Lib in theorem Tryd.stringslite_Index_one (s : ByteArray) (c : UInt8) (w : World) :
    Calls Tryd.prog 76 #[.string s, .string ⟨#[c]⟩] w fun e w' => e = .returned (.int .i64 (Lib.indexByte s.data.toList c)) ∧ w' = w := Any.stringslite_Index_one Tryd.lays219 s c w
def Tryd.lays99_ren : Go.Shelf.Ren := ⟨fun | 99 => 26 | 206 => 46 | n => n, fun | 9 => 9 | 4 => 4 | 3 => 3 | n => n, fun | n => n⟩
theorem Tryd.lays99 : Go.Proofs.Lays.n99 Tryd.prog Tryd.lays99_ren := {
  mixed := by kernel_rfl
  f99 := Tryd.func26.trans (congrArg some (by kernel_rfl))
  f206 := Tryd.func46.trans (congrArg some (by kernel_rfl))
  t3 := Tryd.underlying3
  a3 := Tryd.isAgg3
  z3 := Tryd.sizeOf3
  v3 := Tryd.zeroValue3
  t4 := Tryd.underlying4
  a4 := Tryd.isAgg4
  z4 := Tryd.sizeOf4
  v4 := Tryd.zeroValue4
  t9 := Tryd.underlying9
  a9 := Tryd.isAgg9
  z9 := Tryd.sizeOf9
  v9 := Tryd.zeroValue9 }
open Go.RowKit Go.Lib in theorem Tryd.strings_HasPrefix (s p : ByteArray) (w : World) :
    Calls Tryd.prog 26 #[.string s, .string p] w fun e w' => e = .returned (.bool (Lib.hasPrefix s.data.toList p.data.toList)) ∧ w' = w := Any.strings_HasPrefix Tryd.lays99 s p w
end Go.Proofs
namespace Go.Proofs.YthgknegocfhdbaaDoor
open Go.RowKit Go.Lib
/-- A text's bytes. -/
abbrev by8 (s : ByteArray) : List UInt8 := s.data.toList
abbrev tx (l : List UInt8) : Value := .string ⟨l.toArray⟩
set_option maxHeartbeats 1000000 in
theorem cut51 (s : ByteArray) (c : UInt8) (w : World) (hs : s.size ≤ maxLen) : Calls Tryd.prog 70 #[.string s, .string ⟨#[c]⟩] w fun e w' =>
    e = .returned (.tuple #[tx (Lib.cut (by8 s) [c]).1, tx (Lib.cut (by8 s) [c]).2.1, .bool (Lib.cut (by8 s) [c]).2.2]) ∧ Mo w w' := by
  have hone : Lib.index s.data.toList [c] = Lib.indexByte s.data.toList c := Lib.index_one _ _
  rcases Lib.indexB_cases s ⟨#[c]⟩ with hix | ⟨i, hix, hroom⟩
  · obtain ⟨e1, e2, e3⟩ := Lib.cutB_miss s ⟨#[c]⟩ hix
    have e1' : (⟨(Lib.cut (by8 s) [c]).1.toArray⟩ : ByteArray) = s := e1
    have e2' : (⟨(Lib.cut (by8 s) [c]).2.1.toArray⟩ : ByteArray) = ⟨#[]⟩ := e2
    have e3' : (Lib.cut (by8 s) [c]).2.2 = false := e3
    unfold tx; rw [e1', e2', e3']
    have hix' : Lib.indexByte s.data.toList c = -1 := by rw [← hone]; exact hix
    go_enter Tryd.func70, Tryd.ntmps70
    go_wp2_with (go_at_call 76; refine (Tryd.stringslite_Index_one _ _ _).mono ?_; rintro e w' ⟨rfl, rfl⟩; rw [hix'])
    go_ret3
    exact ⟨rfl, Mo.refl _⟩
  · obtain ⟨e1, e2, e3⟩ := Lib.cutB_hit s ⟨#[c]⟩ i hix
    have e3' : (Lib.cut (by8 s) [c]).2.2 = true := e3
    unfold tx; rw [show (⟨(Lib.cut (by8 s) [c]).1.toArray⟩ : ByteArray) = _ from e1, show (⟨(Lib.cut (by8 s) [c]).2.1.toArray⟩ : ByteArray) = _ from e2, e3']
    have hix' : Lib.indexByte s.data.toList c = (i : Int) := by rw [← hone]; exact hix
    have hsz : (⟨#[c]⟩ : ByteArray).size = 1 := rfl
    rw [hsz] at hroom
    have c1 : (0 : Int) ≤ ↑i := by omega
    have c2 : (↑i : Int) ≤ ↑s.size := by omega
    unfold maxLen at hs
    have hw : IntKind.i64.wrap ((i : Int) + 1) = (i : Int) + 1 := by rw [IntKind.wrap_i64]; omega
    have hw2 : wrap64 ((i : Int) + 1) = (i : Int) + 1 := by unfold wrap64; omega
    have c3 : (0 : Int) ≤ ↑i + 1 := by omega
    have c4 : (↑i + 1 : Int) ≤ ↑s.size := by omega
    go_enter Tryd.func70, Tryd.ntmps70
    go_wp2_with (go_at_call 76; refine (Tryd.stringslite_Index_one _ _ _).mono ?_; rintro e w' ⟨rfl, rfl⟩; rw [hix'])
    go_region
    go_wp2
    go_ret3
    exact ⟨rfl, (Mo.refl _).drew⟩
end Go.Proofs.YthgknegocfhdbaaDoor

namespace Go.Proofs.YthgknegocfhdbaaDoor.V
open Go.RowKit
/-- The world behind a call that only makes new blocks: what was there is as it was. -/
def Mw (w w' : World) : Prop := Below w.heap.size w w'
theorem Mw.refl (w : World) : Mw w w := Below.refl _ _
theorem Mw.trans {a b c : World} (h : Mw a b) (k : Mw b c) : Mw a c := Below.trans h (Below.mono k (Below.size h))
theorem Mw.drew {a b : World} (h : Mw a b) : Mw a b.drew := Below.drew h
theorem Mw.alloc {a b : World} (h : Mw a b) (c : Array Value) (t : TypeId) : Mw a (b.alloc (.cells c t)) := Below.alloc h (Below.size h) _
theorem Mw.setCell {a b : World} (h : Mw a b) {p : Addr} (hp : a.heap.size ≤ p.block) (v : Value) : Mw a (b.setCell p v) := Below.setCell h hp v
theorem Mw.size {a b : World} (h : Mw a b) : a.heap.size ≤ b.heap.size := Below.size h
theorem Mw.cell {a b : World} (h : Mw a b) : ∀ k o, k < a.heap.size → b.cell? ⟨k, o, none⟩ = a.cell? ⟨k, o, none⟩ := fun k o hk => Below.cell h (p := ⟨k, o, none⟩) hk
theorem fzMw {w w' : World} {k : Nat} (h : Fz w k) (m : Mw w w') (hk : k < w.heap.size) : Fz w' k := fun o => (Below.frozen m (p := ⟨k, o, none⟩) hk).trans (h o)
/-- A contract, weakened. -/
theorem wk {P : Program} {g : Nat} {args : Array Value} {w : World} {v : Value} (h : Calls P g args w fun e w' => e = .returned v ∧ Mo w w') : Calls P g args w fun e w' => e = .returned v ∧ Mw w w' := h.mono fun _ _ ⟨a, b⟩ => ⟨a, b.1⟩
/-- The address of a block's cell. -/
abbrev pt (k o : Nat) : Value := .pointer (some ⟨k, o, none⟩)
/-- The block k holds these cells. -/
def At (w : World) (k : Nat) (vs : List Value) : Prop := w.rangeAt k 0 vs ∧ Fz w k ∧ k < w.heap.size
theorem At.lt {w : World} {k : Nat} {vs : List Value} (h : At w k vs) : k < w.heap.size := h.2.2
theorem At.mo {w w' : World} {k : Nat} {vs : List Value} (h : At w k vs) (m : Mw w w') : At w' k vs :=
  ⟨fun j v hv => (m.cell k _ h.2.2).trans (h.1 j v hv), fzMw h.2.1 m h.2.2, Nat.lt_of_lt_of_le h.2.2 m.size⟩
theorem At.cell {w : World} {k : Nat} {vs : List Value} (h : At w k vs) {j : Nat} {v : Value} (hv : vs[j]? = some v) : w.cell? ⟨k, j, none⟩ = some v := by
  have := h.1 j v hv; simpa using this
theorem At.there {w : World} {k : Nat} {vs : List Value} (h : At w k vs) (o n : Nat) (hn : o + n ≤ vs.length) : w.there k o n := fun j hj => by
  refine ⟨?_, h.2.1 _⟩
  rw [h.cell (j := o + j) (v := vs[o + j]'(by omega)) (List.getElem?_eq_getElem (by omega))]; rfl
theorem At.new (w : World) (cs : Array Value) (t : TypeId) : At (w.alloc (.cells cs t)) w.heap.size cs.toList := by
  refine ⟨fun j v hv => ?_, fun o => ?_, by simp⟩
  · simp at hv; simp [go_sem, hv]
  · simp [go_sem]
theorem sz_setCells (k : Nat) : ∀ (l : List Value) (o : Nat) (w : World), (w.setCells k o l).heap.size = w.heap.size
  | [], _, _ => rfl
  | v :: r, o, w => by rw [World.setCells, sz_setCells k r]; simp [World.setCell]
theorem Mw.setCs {a : World} {k : Nat} (hk : a.heap.size ≤ k) : ∀ (l : List Value) (o : Nat) (b : World), Mw a b → Mw a (b.setCells k o l)
  | [], _, _, h => h
  | v :: r, o, b, h => by rw [World.setCells]; exact Mw.setCs hk r (o + 1) _ (h.setCell hk v)
/-- What a store into the block k leaves as it was. -/
structure St (k : Nat) (w w' : World) : Prop where
  size : w'.heap.size = w.heap.size
  other : ∀ j vs, j ≠ k → At w j vs → At w' j vs
  mo : ∀ a : World, a.heap.size ≤ k → Mw a w → Mw a w'
theorem St.mk' (w : World) (k o : Nat) (l : List Value) : St k w (w.setCells k o l) where
  size := sz_setCells k l o w
  other := fun j vs hj h => ⟨World.rangeAt_setCells_apart h.1 k o l (Or.inl hj), fun o' => by rw [World.frozen?_setCells]; exact h.2.1 o', by rw [sz_setCells]; exact h.2.2⟩
  mo := fun a ha h => Mw.setCs ha l o w h
theorem At.set {w : World} {k : Nat} {us : List Value} (h : At w k us) (o : Nat) (l : List Value) (hl : o + l.length ≤ us.length) (vs : List Value) (hvs : vs = us.take o ++ l ++ us.drop (o + l.length)) : At (w.setCells k o l) k vs := by
  subst hvs
  refine ⟨fun j v hv => ?_, fun o' => by rw [World.frozen?_setCells]; exact h.2.1 o', by rw [sz_setCells]; exact h.2.2⟩
  rw [Nat.zero_add]
  by_cases h1 : j < o
  · rw [World.cell?_setCells_out k l o w _ (fun _ _ => Or.inl h1)]
    refine h.cell ?_
    rw [List.append_assoc, List.getElem?_append_left (by simp; omega), List.getElem?_take_of_lt h1] at hv
    exact hv
  · by_cases h2 : j < o + l.length
    · rw [List.append_assoc, List.getElem?_append_right (by simp; omega), List.getElem?_append_left (by simp; omega)] at hv
      have := World.cell?_setCells_in k l o w (fun i hi => (h.there o l.length hl i hi).1) (j - o) (by omega)
      rw [show o + (j - o) = j by omega] at this
      rw [this, ← hv]
      rw [List.length_take, show min o us.length = o by omega, List.getElem?_eq_getElem (by omega)]
    · rw [World.cell?_setCells_out k l o w _ (fun _ _ => Or.inr (by show o + l.length ≤ j; omega))]
      refine h.cell ?_
      rw [List.getElem?_append_right (by simp; omega), List.getElem?_drop] at hv
      rw [← hv]
      congr 1
      simp
      omega
section runs
variable {P : Program} {w : World} {k : Nat} {vs : List Value}
theorem run_row (h : At w k vs) (ty : TypeId) (o n : Nat) (us : List Value) (hus : us = (vs.drop o).take n) {d : TypeDesc} (hu : P.underlying ty = some d) (hd : d.isRow = true) (hi : (P.info? ty).map (·.size) = some us.length) :
    (Instr.loadAt ty (pt k o)).run P w = .ok (.agg us.toArray) w :=
  run_loadAt_mid w k o ty us d (fun j v hv => by
    subst hus
    refine h.cell ?_
    rw [List.getElem?_take] at hv
    split at hv
    · rw [List.getElem?_drop] at hv; exact hv
    · cases hv) hu hd hi
theorem run_one (h : At w k vs) (ty : TypeId) (o : Nat) {v : Value} (hv : vs[o]? = some v) {d : TypeDesc} (hu : P.underlying ty = some d) (hd : d.isRow = false) :
    (Instr.loadAt ty (pt k o)).run P w = .ok v w := by
  have hagg : (isAgg ty).run P w = .ok false w := by
    unfold isAgg
    rw [Sem.run_bind, run_underlying hu w]
    cases d <;> simp_all
  have hc := h.cell hv
  simp [Instr.loadAt, Instr.sureAddr, loadVar, Sem.run_bind, hagg, hc]
theorem run_put (h : At w k vs) (ty : TypeId) (o : Nat) (us : Array Value) (hl : o + us.size ≤ vs.length) (hi : (P.info? ty).map (·.size) = some us.size) (h1 : us.all (·.oneCell') = true) :
    (Instr.storeAt ty (pt k o) (.agg us)).run P w = .ok () (w.setCells k o us.toList) :=
  run_storeAt_mid w k o ty us (h.there o us.size hl) hi h1
theorem run_put1 (h : At w k vs) (ty : TypeId) (o : Nat) (v : Value) (hl : o < vs.length) (hi : (P.info? ty).map (·.size) = some 1) (hv : v.cells = #[v]) (h1 : v.oneCell' = true) :
    (Instr.storeAt ty (pt k o) v).run P w = .ok () (w.setCells k o [v]) := by
  have ht := h.there o 1 (by omega)
  have := run_storeCells_cells (P := P) k o [v] 0 w (fun j hj => by simpa using (ht j (by simpa using hj)).1) (fun j hj => by simpa using (ht j (by simpa using hj)).2)
    (fun u hu => by simp at hu; subst hu; exact h1)
  cases hq : P.info? ty with
  | none => simp [hq] at hi
  | some i =>
    have hs : i.size = 1 := by simpa [hq] using hi
    simp only [Nat.add_zero] at this
    simp [Instr.storeAt, Instr.sureAddr, storeVar, sizeOf, typeInfo, hq, hv, hs, this]
end runs
/-! Frames as lists of what was put where, the last first. -/
theorem blt_f {t n : Nat} (h : ¬ t < n) : Nat.blt t n = false := by
  cases e : Nat.blt t n with
  | false => rfl
  | true => rw [Nat.blt_eq] at e; exact absurd e h
theorem beq_f {d j : Nat} (h : ¬ d = j) : Nat.beq d j = false := by
  cases e : Nat.beq d j with
  | false => rfl
  | true => exact absurd (Nat.eq_of_beq_eq_true e) h
def look : List (Nat × Value) → Nat → Value
  | [], _ => undef
  | (d, v) :: l, t => bif Nat.beq d t then v else look l t
def fr (n : Nat) (l : List (Nat × Value)) : Act := { tmps := Array.ofFn (n := n) fun i => look l i, defers := [] }
def ext (l : List (Nat × Value)) : Option Tmp → Value → List (Nat × Value)
  | some d, v => (d, v) :: l
  | none, _ => l
/-- What an operand is. -/
def evl (n : Nat) (l : List (Nat × Value)) : Operand → Value
  | .tmp t => bif Nat.blt t n then look l t else undef
  | .const v => v
  | .global g => .pointer (some ⟨g, 0, none⟩)
  | .func f => .func (.func f) #[] #[]
theorem fr_getD (n : Nat) (l : List (Nat × Value)) (t : Nat) : (fr n l).tmps.getD t undef = bif Nat.blt t n then look l t else undef := by
  unfold fr
  by_cases h : t < n
  · have e : Nat.blt t n = true := by simpa using h
    simp [h, e]
  · have e := blt_f h
    simp [h, e]
theorem fr_eval (n : Nat) (l : List (Nat × Value)) : (fr n l).eval = evl n l := by
  funext x
  cases x with
  | tmp t => exact fr_getD n l t
  | _ => rfl
theorem fr_put (n : Nat) (l : List (Nat × Value)) (d : Option Tmp) (v : Value) : (fr n l).put d v = fr n (ext l d v) := by
  cases d with
  | none => rfl
  | some d =>
    simp only [fr, Act.put, ext]
    congr 1
    apply Array.ext
    · simp
    · intro j h1 h2
      simp at h1
      by_cases e : d = j
      · subst e; simp [look]
      · have := beq_f e
        rw [Array.getElem_setIfInBounds_ne (by simpa using h1) e]
        simp [look, this]
/-- Is an operation wanted? -/
def wnt (n : Nat) (l : List (Nat × Value)) (ops : Array Oper) (o : Oper) : Bool :=
  match o.guard with
  | none => true
  | some (j, want) => (match (ops[j]?).bind (·.dst) with
    | some t => (bif Nat.blt t n then (match look l t with | .bool b => some b | _ => none) else none)
    | none => none) == some want
theorem fr_wanted (n : Nat) (l : List (Nat × Value)) (ops : Array Oper) (o : Oper) : Region.wanted o (yielded ops (fr n l).tmps) = wnt n l ops o := by
  unfold Region.wanted wnt
  cases o.guard with
  | none => rfl
  | some g =>
    obtain ⟨j, want⟩ := g
    simp only [yielded]
    cases (ops[j]?).bind (·.dst) with
    | none => rfl
    | some t =>
      by_cases h : t < n
      · have e : Nat.blt t n = true := by simpa using h
        simp [fr, h, e]
        cases look l t <;> rfl
      · have e := blt_f h
        simp [fr, h, e]
/-- The arguments in their slots. -/
def argl : Nat → List Value → List (Nat × Value)
  | _, [] => []
  | i, v :: r => (i, v) :: argl (i + 1) r
theorem look_argl : ∀ (vs : List Value) (i t : Nat), look (argl i vs) t = if i ≤ t then (vs[t - i]?).getD undef else undef
  | [], i, t => by simp [argl, look]
  | v :: r, i, t => by
    have ih := look_argl r (i + 1) t
    by_cases e : i = t
    · subst e; simp [argl, look]
    · have hb := beq_f e
      simp only [argl, look, hb, cond_false, ih]
      by_cases h : i + 1 ≤ t
      · rw [if_pos h, if_pos (by omega), show t - i = (t - (i + 1)) + 1 by omega, List.getElem?_cons_succ]
      · rw [if_neg h, if_neg (by omega)]
theorem fr_args (n : Nat) (args : Array Value) (h : args.size ≤ n) : ({ tmps := args ++ Array.replicate (n - args.size) undef, defers := [] } : Act) = fr n (argl 0 args.toList) := by
  unfold fr
  congr 1
  apply Array.ext
  · simp; omega
  · intro j h1 h2
    simp at h2
    simp only [Array.getElem_ofFn, look_argl, Nat.zero_le, if_true, Nat.sub_zero]
    by_cases hj : j < args.size
    · rw [Array.getElem_append_left hj]; simp [hj]
    · rw [Array.getElem_append_right (by omega)]; simp [Nat.le_of_not_lt hj]
theorem f_enter {P : Program} {f : FuncId} {fn : Func} {c : Code} {args : Array Value} {w : World} {R : Ending → World → Prop} (n : Nat) (hf : P.funcs[f]? = some fn) (hn : fn.ntmps = n) (hb : fn.body = some c)
    (ha : Nat.ble args.size n = true) (h : c.wp P (bodyPost P fn R) (fr n (argl 0 args.toList)) w) : Calls P f args w R := by
  refine calls_of_wp hf hb ?_
  rw [hn, fr_args n args (by simpa using ha)]
  exact h
/-- One of the results. -/
def resv (n : Nat) (l : List (Nat × Value)) (P : Program) (w : World) (v : Value) : ResultVar → Prop
  | .tmp t => (bif Nat.blt t n then look l t else undef) = v
  | .cell a t => ∃ k : Nat, (bif Nat.blt a n then look l a else undef) = pt k 0 ∧ (Instr.loadAt t (pt k 0)).run P w = .ok v w
theorem resv_tmp {n : Nat} {l : List (Nat × Value)} {P : Program} {w : World} {v : Value} {t : Tmp} (h : resv n l P w v (.tmp t)) : (fr n l).tmps[t]?.getD undef = v := by
  have := fr_getD n l t
  simp only [Array.getD_eq_getD_getElem?] at this
  rw [this]; exact h
theorem resv_cell {n : Nat} {l : List (Nat × Value)} {P : Program} {w : World} {v : Value} {a : Tmp} {t : TypeId} (h : resv n l P w v (.cell a t)) : ∃ k : Nat, (fr n l).tmps[a]?.getD undef = pt k 0 ∧ (loadVar t ⟨k, 0, none⟩).run P w = .ok v w := by
  obtain ⟨k, h1, h2⟩ := h
  refine ⟨k, ?_, by simpa only [Instr.loadAt, Instr.sureAddr, Sem.run_bind, Sem.run_pure, Result.andThen_ok] using h2⟩
  have := fr_getD n l a
  simp only [Array.getD_eq_getD_getElem?] at this
  rw [this]; exact h1
theorem Each.mono {F G : Nat → Oper → Prop} (h : ∀ i o, F i o → G i o) : ∀ (l : List Oper) (n : Nat), Each F n l → Each G n l
  | [], _, _ => trivial
  | _ :: l, n, hh => ⟨h _ _ hh.1, Each.mono h l (n + 1) hh.2⟩
/-! The laws of the steps. -/
section steps
variable {P : Program} {o : Oper} {n : Nat} {l : List (Nat × Value)} {w : World} {ops : Array Oper} {rest : List Oper} {Q : Exit → Act → World → Prop} {K : Act → World → Prop}
theorem o_val {w' : World} (v : Value) (h : (execOp (evl n l) o).run P w = .ok (.value v) w') (hk : K (fr n (ext l o.dst v)) w') : o.wp P (fr n l) w K Q := by
  unfold Oper.wp; rw [fr_eval, h, Oper.upon_value, fr_put]; exact hk
theorem o_load (ty : TypeId) (x : Operand) (p v : Value) (ho : o.op = .load ty x) (hx : evl n l x = p) (h : (Instr.loadAt ty p).run P w = .ok v w) (hk : K (fr n (ext l o.dst v)) w) : o.wp P (fr n l) w K Q := by
  refine o_val v ?_ hk
  subst hx
  simp [execOp, ho, h]
theorem o_store (ty : TypeId) (x y : Operand) (p v : Value) {w' : World} (ho : o.op = .store ty x y) (hd : o.dst = none) (hx : evl n l x = p) (hy : evl n l y = v) (h : (Instr.storeAt ty p v).run P w = .ok () w') (hk : K (fr n l) w') : o.wp P (fr n l) w K Q := by
  subst hx hy
  have e : (execOp (evl n l) o).run P w = .ok .skip w' := by simp [execOp, ho, h]
  unfold Oper.wp; rw [fr_eval, e, Oper.upon_skip, hd]; exact hk
theorem o_alloc (ty : TypeId) (zs : Array Value) (ho : o.op = .alloc ty) (h : ∀ w, (Instr.alloc ty true (.tuple #[])).run P w = .ok (pt w.heap.size 0) (w.alloc (.cells zs ty)))
    (hk : ∀ k w', w.heap.size = k → w'.heap.size = k + 1 → Mw w w' → At w' k zs.toList → K (fr n (ext l o.dst (pt k 0))) w') : o.wp P (fr n l) w K Q := by
  refine o_val (pt w.heap.size 0) (w' := w.alloc (.cells zs ty)) ?_ (hk _ _ rfl (by simp) ((Mw.refl _).alloc _ _) (At.new w zs ty))
  simp [execOp, ho, h]
theorem o_box (ty : TypeId) (x : Operand) (v : Value) (cs : Array Value) (ho : o.op = .box ty x) (hx : evl n l x = v) (h : ∀ w, (Instr.box ty v).run P w = .ok (pt w.heap.size 0) (w.alloc (.cells cs ty)))
    (hk : ∀ k w', w.heap.size = k → w'.heap.size = k + 1 → Mw w w' → At w' k cs.toList → K (fr n (ext l o.dst (pt k 0))) w') : o.wp P (fr n l) w K Q := by
  subst hx
  refine o_val (pt w.heap.size 0) (w' := w.alloc (.cells cs ty)) ?_ (hk _ _ rfl (by simp) ((Mw.refl _).alloc _ _) (At.new w cs ty))
  simp [execOp, ho, h]
theorem o_call (g : FuncId) (xs : List Operand) (ats : Array TypeId) (args : List Value) (v : Value) (ho : o.op = .call { callee := .value (.func g), args := xs.toArray, argTypes := ats }) (hx : xs.map (evl n l) = args)
    (h : ∀ args w, (callFunc g args).run P w = .ok (.enter g args) w)
    (hc : Calls P g args.toArray w fun e w' => e = .returned v ∧ Mw w w') (hk : ∀ w', Mw w w' → K (fr n (ext l o.dst v)) w') : o.wp P (fr n l) w K Q := by
  have e : (execOp (evl n l) o).run P w = .ok (.enter g args.toArray) w := by
    obtain ⟨dst, op, ty, pos, after, guard⟩ := o
    simp only at ho
    subst ho hx
    have e2 := execOp_call_go (fr n l) dst g xs.toArray ats ty pos after guard
    rw [fr_eval] at e2
    rw [e2, h]
    simp
  unfold Oper.wp; rw [fr_eval, e, Oper.upon_enter]
  refine hc.mono ?_
  rintro e w' ⟨rfl, h⟩
  show K _ _
  rw [fr_put]
  exact hk w' h
theorem o_st (ty : TypeId) (x y : Operand) (k off : Nat) (us : Array Value) (vs vs' : List Value) (hA : At w k vs) (ho : o.op = .store ty x y) (hd : o.dst = none) (hx : evl n l x = pt k off) (hy : evl n l y = .agg us)
    (hl : Nat.ble (off + us.size) vs.length = true) (hi : (P.info? ty).map (·.size) = some us.size) (h1 : us.toList.all (·.oneCell') = true) (hvs : vs' = vs.take off ++ us.toList ++ vs.drop (off + us.toList.length))
    (hk : ∀ w', St k w w' → At w' k vs' → K (fr n l) w') : o.wp P (fr n l) w K Q :=
  o_store ty x y _ _ ho hd hx hy (run_put hA ty off us (Nat.le_of_ble_eq_true hl) hi (by rw [← Array.all_toList]; exact h1)) (hk _ (St.mk' w k off us.toList) (hA.set off us.toList (by have := Nat.le_of_ble_eq_true hl; simpa using this) vs' hvs))
theorem o_st1 (ty : TypeId) (x y : Operand) (k off : Nat) (v : Value) (vs vs' : List Value) (hA : At w k vs) (ho : o.op = .store ty x y) (hd : o.dst = none) (hx : evl n l x = pt k off) (hy : evl n l y = v)
    (hl : Nat.blt off vs.length = true) (hi : (P.info? ty).map (·.size) = some 1) (hv : v.cells = #[v]) (h1 : v.oneCell' = true) (hvs : vs' = vs.take off ++ [v] ++ vs.drop (off + 1))
    (hk : ∀ w', St k w w' → At w' k vs' → K (fr n l) w') : o.wp P (fr n l) w K Q :=
  have hl' : off < vs.length := by rw [Nat.blt_eq] at hl; exact hl
  o_store ty x y _ _ ho hd hx hy (run_put1 hA ty off v hl' hi hv h1) (hk _ (St.mk' w k off [v]) (hA.set off [v] (by simp; omega) vs' hvs))
/-- In a region that draws nothing. -/
theorem l_step (hg : wnt n l ops o = true) (h : o.wp P (fr n l) w (wpList P ops Q rest) Q) : wpList P ops Q (o :: rest) (fr n l) w :=
  wpList_step fun K hK => by rw [fr_wanted, hg, if_pos rfl]; exact Oper.wp_mono (fun a w h => hK a w h) h
theorem l_skip (hg : wnt n l ops o = false) (h : wpList P ops Q rest (fr n (ext l o.dst undef)) w) : wpList P ops Q (o :: rest) (fr n l) w :=
  wpList_step fun K hK => by rw [fr_wanted, hg, fr_put]; exact hK _ _ h
theorem l_end {next : Act → World → Prop} {a : Act} (h : next a w) : wpList P ops (Exit.then next Q) [] a w := h
theorem l_endb {id : Nat} {a : Act} (h : wpList P ops Q [] a w) : wpList P ops (Exit.inBlock id Q) [] a w := h
theorem s_end {next : Act → World → Prop} {a : Act} (h : next a w) : Code.skip.wp P (Exit.then next Q) a w := wp_skip h
theorem c_cond {c : Operand} {x y : Code} (t : Bool) (hc : evl n l c = .bool t) (h : (bif t then x else y).wp P Q (fr n l) w) : (Code.cond c x y).wp P Q (fr n l) w := by
  cases t
  · exact wp_cond_false (by rw [fr_eval]; exact hc) h
  · exact wp_cond_true (by rw [fr_eval]; exact hc) h
theorem c_ret1 {fn : Func} {R : Ending → World → Prop} (x : ResultVar) (v : Value) (hf : fn.results = #[x]) (h : resv n l P w v x) (hR : R (.returned v) w) : bodyPost P fn R .ret (fr n l) w := by
  refine bodyPost_ret (v := v) ?_ rfl hR
  cases x with
  | tmp t => have := resv_tmp h; simp [results, hf, this]
  | cell a t => obtain ⟨k, h1, h2⟩ := resv_cell h; simp [results, hf, h1, h2, asAddr]
theorem c_ret2 {fn : Func} {R : Ending → World → Prop} (x y : ResultVar) (v u : Value) (hf : fn.results = #[x, y]) (h : resv n l P w v x) (g : resv n l P w u y) (hR : R (.returned (.tuple #[v, u])) w) : bodyPost P fn R .ret (fr n l) w := by
  refine bodyPost_ret (v := .tuple #[v, u]) ?_ rfl hR
  cases x with
  | tmp t =>
    have h1 := resv_tmp h
    cases y with
    | tmp t => have g1 := resv_tmp g; simp [results, hf, h1, g1]
    | cell a t => obtain ⟨k, g1, g2⟩ := resv_cell g; simp [results, hf, h1, g1, g2, asAddr]
  | cell a t =>
    obtain ⟨k, h1, h2⟩ := resv_cell h
    cases y with
    | tmp t => have g1 := resv_tmp g; simp [results, hf, h1, h2, g1, asAddr]
    | cell a t => obtain ⟨k, g1, g2⟩ := resv_cell g; simp [results, hf, h1, h2, g1, g2, asAddr]
/-- The slots of the operations, as f says. -/
def asg (f : Nat → Value) : Nat → List Oper → List (Nat × Value) → List (Nat × Value)
  | _, [], l => l
  | i, o :: r, l => asg f (i + 1) r (ext l o.dst (f i))
theorem putAll_fr (f : Nat → Value) : ∀ (r : List Oper) (i : Nat) (l : List (Nat × Value)), putAll f i r (fr n l) = fr n (asg f i r l)
  | [], _, _ => rfl
  | o :: r, i, l => by simp only [putAll, asg, fr_put]; exact putAll_fr f r (i + 1) _
/-- Does o wait for number j? -/
def depb (o : Oper) (j : Nat) : Bool := o.after.toList.any fun e => Region.binds .any e && Nat.beq e.on j
/-- One operation, whatever of the others has come up. -/
def OgS (P : Program) (ops : List Oper) (Q : Exit → Act → World → Prop) (n : Nat) (l : List (Nat × Value)) (G : (Nat → Value) → World → Prop) (R : Nat → (Nat → Value) → World → Prop) (i : Nat) (o : Oper) : Prop :=
  ∀ f w, G f w → (∀ j, depb o j = true → R j f w) → ∀ K : Act → World → Prop,
    (∀ v w', G (upd f i v) w' → R i (upd f i v) w' → (∀ j, j ≠ i → R j f w → R j (upd f i v) w') → K (fr n (ext (asg f 0 ops l) o.dst v)) w') →
    bif wnt n (asg f 0 ops l) ops.toArray o then o.wp P (fr n (asg f 0 ops l)) w K Q else K (fr n (ext (asg f 0 ops l) o.dst undef)) w
theorem r_og {id : Nat} {ol : List Oper} (G : (Nat → Value) → World → Prop) (R : Nat → (Nat → Value) → World → Prop) (hm : P.follows .mixedOrders = true)
    (hb : edgesBack .any ol.toArray = true) (hd : dstsApart ol = true) (hG : G (slots (fr n l) ol.toArray) w.drew)
    (hs : Each (OgS P ol Q n l G R) 0 ol)
    (hend : ∀ f w, G f w → (∀ i, Nat.blt i ol.length = true → R i f w) → Q .normal (fr n (asg f 0 ol l)) w) : (Code.region id ol.toArray true).wp P Q (fr n l) w := by
  refine wp_region_og G R hm hb hd hG ?_ ?_
  · refine Each.mono ?_ ol 0 hs
    intro i o h f w hG hdep K hK
    have h1 := h f w hG (fun j hj => by
      obtain ⟨e, he, hb⟩ := List.any_eq_true.1 hj
      simp only [Bool.and_eq_true] at hb
      have := hdep e (by simpa using he) hb.1
      rwa [Nat.eq_of_beq_eq_true hb.2] at this) K (fun v w' a b c => by
        have := hK v w' a b c
        simp only [putAll_fr, fr_put] at this
        exact this)
    simp only [putAll_fr, fr_wanted, fr_put]
    cases hw : wnt n (asg f 0 ol l) ol.toArray o <;> simp only [hw, cond_true, cond_false] at h1 ⊢ <;> exact h1
  · intro f w hG hR
    rw [putAll_fr]
    exact hend f w hG (fun i hi => hR i (by rw [Nat.blt_eq] at hi; exact hi))
theorem li1 {a b : Value} (h : a = b) : [a] = [b] := by rw [h]
theorem li2 {a b c d : Value} (h : a = b) (k : c = d) : [a, c] = [b, d] := by rw [h, k]
theorem li3 {a b c d e f : Value} (h : a = b) (k : c = d) (m : e = f) : [a, c, e] = [b, d, f] := by rw [h, k, m]
theorem li4 {a b c d e f g i : Value} (h : a = b) (k : c = d) (m : e = f) (p : g = i) : [a, c, e, g] = [b, d, f, i] := by rw [h, k, m, p]
end steps
end Go.Proofs.YthgknegocfhdbaaDoor.V

