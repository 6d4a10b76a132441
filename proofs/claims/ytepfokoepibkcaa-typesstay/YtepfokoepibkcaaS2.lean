/-
  Is a name free? Is something of some reads?
-/
import Derived.Test.YtepfokoepibkcaaS1
import Derived.Laws.Concat
namespace Go.Proofs.Ytepfokoepibkcaa
open Go.RowKit D
abbrev sc1 (s : ByteArray) : List Value := [.string s]
def wds8 : List ByteArray := [⟨#[114, 101, 116, 117, 114, 110]⟩, ⟨#[102, 105, 101, 108, 100]⟩, ⟨#[108, 105, 110, 101]⟩, ⟨#[99, 104, 101, 99, 107]⟩, ⟨#[115, 101, 99, 116, 105, 111, 110]⟩, ⟨#[116, 97, 98, 108, 101]⟩, ⟨#[112, 97, 103, 101]⟩, ⟨#[119, 104, 101, 110]⟩, ⟨#[109, 97, 120]⟩, ⟨#[102, 114, 111, 109]⟩, ⟨#[98, 97, 115, 101]⟩, ⟨#[114, 97, 116, 101]⟩, ⟨#[110, 101, 101, 100, 101, 100]⟩, ⟨#[97, 109, 111, 117, 110, 116]⟩, ⟨#[102, 108, 97, 103]⟩, ⟨#[116, 101, 120, 116]⟩, ⟨#[105, 102]⟩, ⟨#[114, 111, 117, 110, 100]⟩, ⟨#[98, 108, 97, 110, 107]⟩, ⟨#[114, 111, 119, 115]⟩, ⟨#[115, 117, 109]⟩, ⟨#[99, 111, 117, 110, 116]⟩, ⟨#[109, 105, 110]⟩, ⟨#[97, 110, 100]⟩, ⟨#[111, 114]⟩, ⟨#[110, 111, 116]⟩, ⟨#[116, 114, 117, 101]⟩, ⟨#[102, 97, 108, 115, 101]⟩, ⟨#[104, 97, 108, 102, 95, 117, 112]⟩, ⟨#[104, 97, 108, 102, 95, 101, 118, 101, 110]⟩, ⟨#[100, 111, 119, 110]⟩, ⟨#[117, 112]⟩, ⟨#[102, 108, 111, 111, 114]⟩]
theorem words8_n (w : World) : Calls Try.prog 42 #[] w fun e w' => ∃ k, e = .returned (.slice (some ⟨k, 0, none⟩) 33 33) ∧ Mo w w' ∧ SL w' 1 sc1 (some ⟨k, 0, none⟩) wds8 := by
  refine w_enter 2 Try.func42 Try.ntmps42 rfl rfl ?_
  have M : Mo w w := Mo.refl _
  refine w_seq ?_
  refine w_reg ?_
  refine wl_mv (.const (.slice none 0 0)) (.slice none 0 0) (fun _ => rfl) rfl rfl ?_
  refine w_nil ?_
  refine xn_then ?_
  refine w_seq ?_
  refine w_reg ?_
  refine wl_bs 95 33 [(0, (.const (.string ⟨#[114, 101, 116, 117, 114, 110]⟩))), (1, (.const (.string ⟨#[102, 105, 101, 108, 100]⟩))), (2, (.const (.string ⟨#[108, 105, 110, 101]⟩))), (3, (.const (.string ⟨#[99, 104, 101, 99, 107]⟩))), (4, (.const (.string ⟨#[115, 101, 99, 116, 105, 111, 110]⟩))), (5, (.const (.string ⟨#[116, 97, 98, 108, 101]⟩))), (6, (.const (.string ⟨#[112, 97, 103, 101]⟩))), (7, (.const (.string ⟨#[119, 104, 101, 110]⟩))), (8, (.const (.string ⟨#[109, 97, 120]⟩))), (9, (.const (.string ⟨#[102, 114, 111, 109]⟩))), (10, (.const (.string ⟨#[98, 97, 115, 101]⟩))), (11, (.const (.string ⟨#[114, 97, 116, 101]⟩))), (12, (.const (.string ⟨#[110, 101, 101, 100, 101, 100]⟩))), (13, (.const (.string ⟨#[97, 109, 111, 117, 110, 116]⟩))), (14, (.const (.string ⟨#[102, 108, 97, 103]⟩))), (15, (.const (.string ⟨#[116, 101, 120, 116]⟩))), (16, (.const (.string ⟨#[105, 102]⟩))), (17, (.const (.string ⟨#[114, 111, 117, 110, 100]⟩))), (18, (.const (.string ⟨#[98, 108, 97, 110, 107]⟩))), (19, (.const (.string ⟨#[114, 111, 119, 115]⟩))), (20, (.const (.string ⟨#[115, 117, 109]⟩))), (21, (.const (.string ⟨#[99, 111, 117, 110, 116]⟩))), (22, (.const (.string ⟨#[109, 105, 110]⟩))), (23, (.const (.string ⟨#[97, 110, 100]⟩))), (24, (.const (.string ⟨#[111, 114]⟩))), (25, (.const (.string ⟨#[110, 111, 116]⟩))), (26, (.const (.string ⟨#[116, 114, 117, 101]⟩))), (27, (.const (.string ⟨#[102, 97, 108, 115, 101]⟩))), (28, (.const (.string ⟨#[104, 97, 108, 102, 95, 117, 112]⟩))), (29, (.const (.string ⟨#[104, 97, 108, 102, 95, 101, 118, 101, 110]⟩))), (30, (.const (.string ⟨#[100, 111, 119, 110]⟩))), (31, (.const (.string ⟨#[117, 112]⟩))), (32, (.const (.string ⟨#[102, 108, 111, 111, 114]⟩)))] [(0, .string (⟨#[114, 101, 116, 117, 114, 110]⟩)), (1, .string (⟨#[102, 105, 101, 108, 100]⟩)), (2, .string (⟨#[108, 105, 110, 101]⟩)), (3, .string (⟨#[99, 104, 101, 99, 107]⟩)), (4, .string (⟨#[115, 101, 99, 116, 105, 111, 110]⟩)), (5, .string (⟨#[116, 97, 98, 108, 101]⟩)), (6, .string (⟨#[112, 97, 103, 101]⟩)), (7, .string (⟨#[119, 104, 101, 110]⟩)), (8, .string (⟨#[109, 97, 120]⟩)), (9, .string (⟨#[102, 114, 111, 109]⟩)), (10, .string (⟨#[98, 97, 115, 101]⟩)), (11, .string (⟨#[114, 97, 116, 101]⟩)), (12, .string (⟨#[110, 101, 101, 100, 101, 100]⟩)), (13, .string (⟨#[97, 109, 111, 117, 110, 116]⟩)), (14, .string (⟨#[102, 108, 97, 103]⟩)), (15, .string (⟨#[116, 101, 120, 116]⟩)), (16, .string (⟨#[105, 102]⟩)), (17, .string (⟨#[114, 111, 117, 110, 100]⟩)), (18, .string (⟨#[98, 108, 97, 110, 107]⟩)), (19, .string (⟨#[114, 111, 119, 115]⟩)), (20, .string (⟨#[115, 117, 109]⟩)), (21, .string (⟨#[99, 111, 117, 110, 116]⟩)), (22, .string (⟨#[109, 105, 110]⟩)), (23, .string (⟨#[97, 110, 100]⟩)), (24, .string (⟨#[111, 114]⟩)), (25, .string (⟨#[110, 111, 116]⟩)), (26, .string (⟨#[116, 114, 117, 101]⟩)), (27, .string (⟨#[102, 97, 108, 115, 101]⟩)), (28, .string (⟨#[104, 97, 108, 102, 95, 117, 112]⟩)), (29, .string (⟨#[104, 97, 108, 102, 95, 101, 118, 101, 110]⟩)), (30, .string (⟨#[100, 111, 119, 110]⟩)), (31, .string (⟨#[117, 112]⟩)), (32, .string (⟨#[102, 108, 111, 111, 114]⟩))] #[.string (⟨#[114, 101, 116, 117, 114, 110]⟩), .string (⟨#[102, 105, 101, 108, 100]⟩), .string (⟨#[108, 105, 110, 101]⟩), .string (⟨#[99, 104, 101, 99, 107]⟩), .string (⟨#[115, 101, 99, 116, 105, 111, 110]⟩), .string (⟨#[116, 97, 98, 108, 101]⟩), .string (⟨#[112, 97, 103, 101]⟩), .string (⟨#[119, 104, 101, 110]⟩), .string (⟨#[109, 97, 120]⟩), .string (⟨#[102, 114, 111, 109]⟩), .string (⟨#[98, 97, 115, 101]⟩), .string (⟨#[114, 97, 116, 101]⟩), .string (⟨#[110, 101, 101, 100, 101, 100]⟩), .string (⟨#[97, 109, 111, 117, 110, 116]⟩), .string (⟨#[102, 108, 97, 103]⟩), .string (⟨#[116, 101, 120, 116]⟩), .string (⟨#[105, 102]⟩), .string (⟨#[114, 111, 117, 110, 100]⟩), .string (⟨#[98, 108, 97, 110, 107]⟩), .string (⟨#[114, 111, 119, 115]⟩), .string (⟨#[115, 117, 109]⟩), .string (⟨#[99, 111, 117, 110, 116]⟩), .string (⟨#[109, 105, 110]⟩), .string (⟨#[97, 110, 100]⟩), .string (⟨#[111, 114]⟩), .string (⟨#[110, 111, 116]⟩), .string (⟨#[116, 114, 117, 101]⟩), .string (⟨#[102, 97, 108, 115, 101]⟩), .string (⟨#[104, 97, 108, 102, 95, 117, 112]⟩), .string (⟨#[104, 97, 108, 102, 95, 101, 118, 101, 110]⟩), .string (⟨#[100, 111, 119, 110]⟩), .string (⟨#[117, 112]⟩), .string (⟨#[102, 108, 111, 111, 114]⟩)] 9 rfl rfl (fun _ => by kernel_rfl) rfl ?_
  intro k1 u1 hk hz hq Q1
  have N_k1 : w.heap.size ≤ k1 := by have := M.size; omega
  replace M := M.trans hq
  clear hk hz hq
  refine wl_mv (.tmp 1) (.slice (some ⟨k1, 0, none⟩) 33 33) (fun _ => rfl) rfl rfl ?_
  refine w_nil ?_
  refine xn_then ?_
  refine w_ret ?_
  exact w_ret1 _ (.slice (some ⟨k1, 0, none⟩) 33 33) rfl rfl ⟨k1, rfl, M, SL.of_at (n := 1) (cells := sc1) (L := wds8) (fun _ => rfl) (by decide) (by exact Q1)⟩
theorem ix95 {pa : Option Addr} {b off i n c : Nat} (hp : pa = some ⟨b, off, none⟩) (h : i < n) (w : World) : (Instr.indexAt 95 (.slice pa n c) (.int .i64 (i : Int))).run Try.prog w = .ok (pt b (off + i * 1)) w := by
  subst hp
  have e : (Instr.indexAt 95 (.slice (some ⟨b, off, none⟩) n c) (.int .i64 (i : Int))).run Try.prog w = .ok (.pointer (some ((⟨b, off, none⟩ : Addr).add (i * 1)))) w := by simp [go_sem, h]
  rw [e, Addr.add_mid]
theorem len95 (ρ : Operand → Value) (x : Operand) (p : Option Addr) (m c : Nat) (hx : ρ x = .slice p m c) (dst : Option Tmp) (type : TypeId) (pos : String) (after : Array Edge) (guard : Option (Nat × Bool)) (w : World) : (execOp ρ { dst, op := .call { callee := .builtin .len, args := #[x], argTypes := #[95] }, type, pos, after, guard }).run Try.prog w = .ok (.value (.int .i64 (m : Int))) w := by
  simp [go_sem, hx]
theorem at8_n {w : World} {pa : Option Addr} {c : Nat} {R : List ByteArray} (hS : SL w 1 sc1 pa R) (s : ByteArray) : Calls Try.prog 41 #[.slice pa R.length c, .string s] w fun e w' => ∃ r : Int, e = .returned (.int .i64 r) ∧ Mo w w' := by
  refine w_enter 19 Try.func41 Try.ntmps41 rfl rfl ?_
  have M : Mo w w := Mo.refl _
  refine w_seq ?_
  refine w_reg ?_
  refine wl_mv (.const (.int .i64 (0))) (.int .i64 (0)) (fun _ => rfl) rfl rfl ?_
  refine w_nil ?_
  refine xn_then ?_
  refine w_seq ?_
  refine w_seq ?_
  refine w_reg ?_
  refine wl_mv (.const (.int .i64 (0))) (.int .i64 (0)) (fun _ => rfl) rfl rfl ?_
  refine w_nil ?_
  refine xn_then ?_
  refine w_block ?_
  have hz9 := hS.1
  unfold maxLen at hz9
  refine w_loop (fun m l w1 => ∃ i : Nat, m = R.length - i ∧ i ≤ R.length ∧ look l 0 = .slice pa R.length c ∧ look l 1 = .string s ∧ look l 5 = .int .i64 ((i : Nat) : Int) ∧ Mo w w1) _ ⟨0, rfl, Nat.zero_le _, rfl, rfl, rfl, M⟩ ?_
  clear M
  rintro m l40 wl40 ⟨i, rfl, hi, e40_0, e40_1, e40_i, M⟩
  by_cases hil : i < R.length
  · skip
    have hid : decide (i < R.length) = true := decide_eq_true hil
    obtain ⟨x, hx⟩ := get_of_lt hil
    obtain ⟨b1, o1, hp1, hR1⟩ := D.SL.rw hS hx
    refine w_seq ?_
    refine w_seq ?_
    refine w_reg ?_
    refine wl_mv (.tmp 5) (.int .i64 ((i : Nat) : Int)) (fun _ => rfl) e40_i rfl ?_
    refine wl_mv (.tmp 0) (.slice pa R.length c) (fun _ => rfl) e40_0 rfl ?_
    refine wl_val (.int .i64 ((R.length : Nat) : Int)) (len95 _ _ _ _ _ (by exact rfl) _ _ _ _ _ _) rfl ?_
    refine wl_bin (fun x y => do eqGuard .lss 3 (.tmp 6) (.tmp 8) x y; binOp .lss 3 x y) (.tmp 6) (.tmp 8) (.int .i64 ((i : Nat) : Int)) (.int .i64 ((R.length : Nat) : Int)) (.bool true) (fun _ => rfl) rfl rfl (ltN hid _ _ _) rfl ?_
    refine w_nil ?_
    refine xn_then ?_
    refine w_condT rfl ?_
    refine w_skip ?_
    refine xn_then ?_
    refine w_seq ?_
    refine w_block ?_
    refine w_seq ?_
    refine w_reg ?_
    refine wl_mv (.tmp 0) (.slice pa R.length c) (fun _ => rfl) e40_0 rfl ?_
    refine wl_mv (.tmp 5) (.int .i64 ((i : Nat) : Int)) (fun _ => rfl) e40_i rfl ?_
    refine wl_bin (fun x y => Instr.indexAt 95 x y) (.tmp 12) (.tmp 13) (.slice pa R.length c) (.int .i64 ((i : Nat) : Int)) (pt b1 (o1 + i * 1)) (fun _ => rfl) rfl rfl (ix95 (i := i) hp1 hil _) rfl ?_
    refine wl_load 9 (.tmp 14) (pt b1 (o1 + i * 1)) (.string x) rfl rfl (D.run_oneR (hR1.mo M).at' 9 0 rfl Try.underlying9 rfl) rfl ?_
    refine wl_mv (.tmp 1) (.string s) (fun _ => rfl) e40_1 rfl ?_
    cases hf30 : decide (x = s) with
    | true =>
      have hf30p := of_decide_eq_true hf30
      refine wl_bin (fun x y => do eqGuard .eql 9 (.tmp 15) (.tmp 16) x y; binOp .eql 9 x y) (.tmp 15) (.tmp 16) (.string x) (.string s) (.bool true) (fun _ => rfl) rfl rfl (s9 hf30 _ _ _) rfl ?_
      refine w_nil ?_
      refine xn_then ?_
      refine w_condT rfl ?_
      refine w_seq ?_
      refine w_reg ?_
      refine wl_mv (.tmp 5) (.int .i64 ((i : Nat) : Int)) (fun _ => rfl) e40_i rfl ?_
      refine wl_mv (.tmp 18) (.int .i64 ((i : Nat) : Int)) (fun _ => rfl) rfl rfl ?_
      refine w_nil ?_
      refine xn_then ?_
      refine w_ret ?_
      refine xr_blk ?_
      refine xr_then ?_
      refine xr_then ?_
      refine xr_blk ?_
      refine xr_then ?_
      exact w_ret1 _ (.int .i64 ((i : Nat) : Int)) rfl rfl ⟨_, rfl, M⟩
    | false =>
      have hf30p := of_decide_eq_false hf30
      refine wl_bin (fun x y => do eqGuard .eql 9 (.tmp 15) (.tmp 16) x y; binOp .eql 9 x y) (.tmp 15) (.tmp 16) (.string x) (.string s) (.bool false) (fun _ => rfl) rfl rfl (s9 hf30 _ _ _) rfl ?_
      refine w_nil ?_
      refine xn_then ?_
      refine w_condF rfl ?_
      refine w_skip ?_
      refine xn_blk ?_
      refine xn_then ?_
      refine w_reg ?_
      refine wl_mv (.tmp 5) (.int .i64 ((i : Nat) : Int)) (fun _ => rfl) e40_i rfl ?_
      refine wl_bin (fun x y => do eqGuard .add 3 (.tmp 10) (.const (.int .i64 (1))) x y; binOp .add 3 x y) (.tmp 10) (.const (.int .i64 (1))) (.int .i64 ((i : Nat) : Int)) (.int .i64 (1)) (.int .i64 ((i + 1 : Nat) : Int)) (fun _ => rfl) rfl rfl (add1r (k := i) (by omega) _ _ _) rfl ?_
      refine wl_mv (.tmp 11) (.int .i64 ((i + 1 : Nat) : Int)) (fun _ => rfl) rfl rfl ?_
      refine w_nil ?_
      exact xn_loop (R.length - (i + 1)) (by omega) ⟨i + 1, rfl, by omega, e40_0, e40_1, rfl, M⟩
  · skip
    have hid : decide (i < R.length) = false := decide_eq_false hil
    have hie : i = R.length := by omega
    refine w_seq ?_
    refine w_seq ?_
    refine w_reg ?_
    refine wl_mv (.tmp 5) (.int .i64 ((i : Nat) : Int)) (fun _ => rfl) e40_i rfl ?_
    refine wl_mv (.tmp 0) (.slice pa R.length c) (fun _ => rfl) e40_0 rfl ?_
    refine wl_val (.int .i64 ((R.length : Nat) : Int)) (len95 _ _ _ _ _ (by exact rfl) _ _ _ _ _ _) rfl ?_
    refine wl_bin (fun x y => do eqGuard .lss 3 (.tmp 6) (.tmp 8) x y; binOp .lss 3 x y) (.tmp 6) (.tmp 8) (.int .i64 ((i : Nat) : Int)) (.int .i64 ((R.length : Nat) : Int)) (.bool false) (fun _ => rfl) rfl rfl (ltN hid _ _ _) rfl ?_
    refine w_nil ?_
    refine xn_then ?_
    refine w_condF rfl ?_
    refine w_exit ?_
    refine xx_then ?_
    refine xx_then ?_
    refine xx_blk ?_
    refine xn_then ?_
    refine w_seq ?_
    refine w_reg ?_
    refine wl_mv (.const (.int .i64 (-1))) (.int .i64 (-1)) (fun _ => rfl) rfl rfl ?_
    refine w_nil ?_
    refine xn_then ?_
    refine w_ret ?_
    exact w_ret1 _ (.int .i64 (-1)) rfl rfl ⟨_, rfl, M⟩
theorem free_n (s : ByteArray) (w : World) : Calls Try.prog 21 #[.string s] w fun e w' => ∃ b : Bool, e = .returned (.bool b) ∧ Mo w w' := by
  refine w_enter 11 Try.func21 Try.ntmps21 rfl rfl ?_
  have M : Mo w w := Mo.refl _
  refine w_seq ?_
  refine w_reg ?_
  refine wl_mv (.const (.bool false)) (.bool false) (fun _ => rfl) rfl rfl ?_
  refine w_nil ?_
  refine xn_then ?_
  refine w_seq ?_
  refine w_reg ?_
  refine wl_mv (.tmp 0) (.string s) (fun _ => rfl) rfl rfl ?_
  cases hf0 : nam s with
  | true =>
    refine wl_call 40 [(.tmp 3)] _ [.string s] (.bool true) rfl rfl (fun _ _ => by kernel_rfl) (cB hf0 (rname_n s _)) rfl ?_
    intro u1 hq
    replace M := M.trans hq
    clear hq
    refine wl_mv (.tmp 4) (.bool true) (fun _ => rfl) rfl rfl ?_
    refine wl_callx 42 [] _ [] rfl rfl (fun _ _ => by kernel_rfl) (words8_n _) rfl ?_
    rintro e9 u2 ⟨kw, rfl, hq, hSw⟩
    refine ⟨_, rfl, ?_⟩
    replace M := M.trans hq
    clear hq
    refine wl_mv (.tmp 0) (.string s) (fun _ => rfl) rfl rfl ?_
    refine wl_callx 41 [(.tmp 6), (.tmp 7)] _ [.slice (some ⟨kw, 0, none⟩) 33 33, .string s] rfl rfl (fun _ _ => by kernel_rfl) ((at8_n (R := wds8) hSw s)) rfl ?_
    rintro e9 u3 ⟨r9, rfl, hq⟩
    refine ⟨_, rfl, ?_⟩
    replace M := M.trans hq
    clear hq
    cases hf1 : decide (r9 < 0) with
    | true =>
      have hf1p := of_decide_eq_true hf1
      refine wl_bin (fun x y => do eqGuard .lss 3 (.tmp 8) (.const (.int .i64 (0))) x y; binOp .lss 3 x y) (.tmp 8) (.const (.int .i64 (0))) (.int .i64 (r9)) (.int .i64 (0)) (.bool true) (fun _ => rfl) rfl rfl (lt3 hf1 _ _ _) rfl ?_
      refine wl_pick (.tmp 5) (.tmp 9) (.const (.bool false)) true (.bool true) (fun _ => rfl) rfl rfl rfl ?_
      refine wl_mv (.tmp 10) (.bool true) (fun _ => rfl) rfl rfl ?_
      refine w_nil ?_
      refine xn_then ?_
      refine w_ret ?_
      exact w_ret1 _ (.bool true) rfl rfl ⟨_, rfl, M⟩
    | false =>
      have hf1p := of_decide_eq_false hf1
      refine wl_bin (fun x y => do eqGuard .lss 3 (.tmp 8) (.const (.int .i64 (0))) x y; binOp .lss 3 x y) (.tmp 8) (.const (.int .i64 (0))) (.int .i64 (r9)) (.int .i64 (0)) (.bool false) (fun _ => rfl) rfl rfl (lt3 hf1 _ _ _) rfl ?_
      refine wl_pick (.tmp 5) (.tmp 9) (.const (.bool false)) true (.bool false) (fun _ => rfl) rfl rfl rfl ?_
      refine wl_mv (.tmp 10) (.bool false) (fun _ => rfl) rfl rfl ?_
      refine w_nil ?_
      refine xn_then ?_
      refine w_ret ?_
      exact w_ret1 _ (.bool false) rfl rfl ⟨_, rfl, M⟩
  | false =>
    refine wl_call 40 [(.tmp 3)] _ [.string s] (.bool false) rfl rfl (fun _ _ => by kernel_rfl) (cB hf0 (rname_n s _)) rfl ?_
    intro u1 hq
    replace M := M.trans hq
    clear hq
    refine wl_mv (.tmp 4) (.bool false) (fun _ => rfl) rfl rfl ?_
    refine wl_skip rfl ?_
    refine wl_skip rfl ?_
    refine wl_skip rfl ?_
    refine wl_skip rfl ?_
    refine wl_pick (.tmp 5) (.tmp 9) (.const (.bool false)) false (.bool false) (fun _ => rfl) rfl rfl rfl ?_
    refine wl_mv (.tmp 10) (.bool false) (fun _ => rfl) rfl rfl ?_
    refine w_nil ?_
    refine xn_then ?_
    refine w_ret ?_
    exact w_ret1 _ (.bool false) rfl rfl ⟨_, rfl, M⟩
theorem cat9 {a b : ByteArray} (h : a.size + b.size ≤ 9223372036854775807) (x y : Operand) (w : World) : (do eqGuard .add 9 x y (.string a) (.string b); binOp .add 9 (.string a) (.string b)).run Try.prog w = .ok (.string (a ++ b)) w := by
  rw [binOp_string_add]
  have e : (eqGuard .add 9 x y (.string a) (.string b)).run Try.prog w = .ok () w := by kernel_rfl
  rw [Sem.run_bind, e, Result.andThen_ok, run_string_add_sum w a b h]
/-- A name and a sign behind it. -/
def und (nm : ByteArray) : ByteArray := nm ++ ⟨#[95]⟩
theorem st1_n {w : World} {kN : Nat} {nm : ByteArray} (aN : At w kN [.string nm]) (hun : nm.size + 1 ≤ 9223372036854775807) (p : Rd) : Calls Try.prog 26 #[rdv p, pt kN 0] w fun e w' => e = .returned (.bool (decide (p.1 = und nm))) ∧ Mo w w' := by
  refine w_enter 9 Try.func26 Try.ntmps26 rfl rfl ?_
  have M : Mo w w := Mo.refl _
  refine w_seq ?_
  refine w_reg ?_
  refine wl_box 42 (.tmp 0) (.agg #[.string p.1, .string p.2]) (#[.string p.1, .string p.2]) rfl rfl (fun _ => by kernel_rfl) rfl ?_
  intro k1 u1 hk hz hq Q1
  have ne_kN_k1 : kN ≠ k1 := by have := aN.lt; omega
  have N_k1 : w.heap.size ≤ k1 := by have := M.size; omega
  replace aN := aN.mo hq
  replace M := M.trans hq
  clear hk hz hq
  refine wl_mv (.const (.bool false)) (.bool false) (fun _ => rfl) rfl rfl ?_
  refine w_nil ?_
  refine xn_then ?_
  refine w_seq ?_
  refine w_reg ?_
  refine wl_un (fun v => Instr.fieldAt 42 v 0) (.tmp 2) (pt k1 0) (pt k1 0) (fun _ => rfl) rfl (by kernel_rfl) rfl ?_
  refine wl_load 9 (.tmp 4) (pt k1 0) (.string p.1) rfl rfl (run_one Q1 9 0 rfl Try.underlying9 rfl) rfl ?_
  refine wl_load 9 (.tmp 1) (pt kN 0) (.string nm) rfl rfl (run_one aN 9 0 rfl Try.underlying9 rfl) rfl ?_
  refine wl_bin (fun x y => do eqGuard .add 9 (.tmp 6) (.const (.string ⟨#[95]⟩)) x y; binOp .add 9 x y) (.tmp 6) (.const (.string ⟨#[95]⟩)) (.string nm) (.string ⟨#[95]⟩) (.string (und nm)) (fun _ => rfl) rfl rfl (cat9 hun _ _ _) rfl ?_
  cases hf0 : decide (p.1 = und nm) with
  | true =>
    have hf0p := of_decide_eq_true hf0
    refine wl_bin (fun x y => do eqGuard .eql 9 (.tmp 5) (.tmp 7) x y; binOp .eql 9 x y) (.tmp 5) (.tmp 7) (.string p.1) (.string (und nm)) (.bool true) (fun _ => rfl) rfl rfl (s9 hf0 _ _ _) rfl ?_
    refine wl_mv (.tmp 8) (.bool true) (fun _ => rfl) rfl rfl ?_
    refine w_nil ?_
    refine xn_then ?_
    refine w_ret ?_
    exact w_ret1 _ (.bool true) rfl rfl ⟨rfl, M⟩
  | false =>
    have hf0p := of_decide_eq_false hf0
    refine wl_bin (fun x y => do eqGuard .eql 9 (.tmp 5) (.tmp 7) x y; binOp .eql 9 x y) (.tmp 5) (.tmp 7) (.string p.1) (.string (und nm)) (.bool false) (fun _ => rfl) rfl rfl (s9 hf0 _ _ _) rfl ?_
    refine wl_mv (.tmp 8) (.bool false) (fun _ => rfl) rfl rfl ?_
    refine w_nil ?_
    refine xn_then ?_
    refine w_ret ?_
    exact w_ret1 _ (.bool false) rfl rfl ⟨rfl, M⟩
theorem any_take {α : Type} {f : α → Bool} {L : List α} {i : Nat} {x : α} (h : (L.take i).any f = false) (hx : L[i]? = some x) (hf : f x = false) : (L.take (i + 1)).any f = false := by
  rw [List.take_add_one, hx, List.any_append, h]
  simp [hf]
theorem any_hit {α : Type} {f : α → Bool} {L : List α} {i : Nat} {x : α} (hx : L[i]? = some x) (hf : f x = true) : L.any f = true := List.any_eq_true.2 ⟨x, List.mem_of_getElem? hx, hf⟩
theorem any_all {α : Type} {f : α → Bool} {L : List α} {i : Nat} (h : (L.take i).any f = false) (hi : i = L.length) : L.any f = false := by rw [hi, List.take_length] at h; exact h
theorem idxf_n {w : World} {kN : Nat} {nm : ByteArray} (aN : At w kN [.string nm]) (hun : nm.size + 1 ≤ 9223372036854775807) {pa : Option Addr} {c : Nat} {R : List Rd} (hS : SL w 2 rdc pa R) : Calls Try.prog 43 #[.slice pa R.length c, .func (.func 26) #[] #[pt kN 0]] w fun e w' => ∃ r : Int, e = .returned (.int .i64 r) ∧ decide (0 ≤ r) = R.any (fun q : Rd => decide (q.1 = und nm)) ∧ Mo w w' := by
  refine w_enter 19 Try.func43 Try.ntmps43 rfl rfl ?_
  have M : Mo w w := Mo.refl _
  refine w_seq ?_
  refine w_reg ?_
  refine wl_mv (.const (.int .i64 (0))) (.int .i64 (0)) (fun _ => rfl) rfl rfl ?_
  refine w_nil ?_
  refine xn_then ?_
  refine w_seq ?_
  refine w_seq ?_
  refine w_reg ?_
  refine wl_mv (.tmp 0) (.slice pa R.length c) (fun _ => rfl) rfl rfl ?_
  refine wl_val (.int .i64 ((R.length : Nat) : Int)) (len40 _ _ _ _ _ (by exact rfl) _ _ _ _ _ _) rfl ?_
  refine wl_mv (.const (.int .i64 (0))) (.int .i64 (0)) (fun _ => rfl) rfl rfl ?_
  refine w_nil ?_
  refine xn_then ?_
  refine w_block ?_
  have hz9 := hS.1
  unfold maxLen at hz9
  refine w_loop (fun m l w1 => ∃ i : Nat, m = R.length - i ∧ i ≤ R.length ∧ look l 0 = .slice pa R.length c ∧ look l 1 = .func (.func 26) #[] #[pt kN 0] ∧ look l 7 = .int .i64 ((R.length : Nat) : Int) ∧ look l 8 = .int .i64 ((i : Nat) : Int) ∧ ((R.take i).any (fun q : Rd => decide (q.1 = und nm)) = false) ∧ Mo w w1) _ ⟨0, rfl, Nat.zero_le _, rfl, rfl, rfl, rfl, rfl, M⟩ ?_
  clear M
  rintro m l40 wl40 ⟨i, rfl, hi, e40_0, e40_1, e40_7, e40_i, hT, M⟩
  by_cases hil : i < R.length
  · skip
    have hid : decide (i < R.length) = true := decide_eq_true hil
    obtain ⟨y, hy⟩ := get_of_lt hil
    obtain ⟨bp, op, hpp, hRp⟩ := D.SL.rw hS hy
    refine w_seq ?_
    refine w_reg ?_
    refine wl_bin (fun x y => do eqGuard .lss 3 (.tmp 8) (.tmp 7) x y; binOp .lss 3 x y) (.tmp 8) (.tmp 7) (.int .i64 ((i : Nat) : Int)) (.int .i64 ((R.length : Nat) : Int)) (.bool true) (fun _ => rfl) e40_i e40_7 (ltN hid _ _ _) rfl ?_
    refine w_nil ?_
    refine xn_then ?_
    refine w_seq ?_
    refine w_condT rfl ?_
    refine w_skip ?_
    refine xn_then ?_
    refine w_seq ?_
    refine w_block ?_
    refine w_seq ?_
    refine w_reg ?_
    refine wl_mv (.tmp 8) (.int .i64 ((i : Nat) : Int)) (fun _ => rfl) e40_i rfl ?_
    refine wl_mv (.tmp 10) (.int .i64 ((i : Nat) : Int)) (fun _ => rfl) rfl rfl ?_
    refine w_nil ?_
    refine xn_then ?_
    refine w_seq ?_
    refine w_reg ?_
    refine wl_mv (.tmp 1) (.func (.func 26) #[] #[pt kN 0]) (fun _ => rfl) e40_1 rfl ?_
    refine wl_mv (.tmp 0) (.slice pa R.length c) (fun _ => rfl) e40_0 rfl ?_
    refine wl_mv (.tmp 5) (.int .i64 ((i : Nat) : Int)) (fun _ => rfl) rfl rfl ?_
    refine wl_bin (fun x y => Instr.indexAt 40 x y) (.tmp 12) (.tmp 13) (.slice pa R.length c) (.int .i64 ((i : Nat) : Int)) (pt bp (op + i * 2)) (fun _ => rfl) rfl rfl (ix40 (i := i) hpp hil _) rfl ?_
    refine wl_load 42 (.tmp 14) (pt bp (op + i * 2)) (.agg #[.string y.1, .string y.2]) rfl rfl (D.run_partR (hRp.mo M).at' 42 0 2 [.string y.1, .string y.2] rfl Try.underlying42 rfl sz42) rfl ?_
    cases hf30 : decide (y.1 = und nm) with
    | true =>
      have hf30p := of_decide_eq_true hf30
      refine wl_callv 26 (.tmp 11) #[] #[pt kN 0] [(.tmp 15)] _ [.agg #[.string y.1, .string y.2]] [.agg #[.string y.1, .string y.2], pt kN 0] rfl rfl rfl rfl (fun _ _ => by kernel_rfl) (cB hf30 (st1_n (aN.mo M) hun y)) rfl ?_
      rintro e9 u41 ⟨rfl, hq⟩
      refine ⟨_, rfl, ?_⟩
      replace M := M.trans hq
      clear hq
      refine w_nil ?_
      refine xn_then ?_
      refine w_condT rfl ?_
      refine w_seq ?_
      refine w_reg ?_
      refine wl_mv (.tmp 5) (.int .i64 ((i : Nat) : Int)) (fun _ => rfl) rfl rfl ?_
      refine wl_mv (.tmp 17) (.int .i64 ((i : Nat) : Int)) (fun _ => rfl) rfl rfl ?_
      refine w_nil ?_
      refine xn_then ?_
      refine w_ret ?_
      refine xr_blk ?_
      refine xr_then ?_
      refine xr_then ?_
      refine xr_blk ?_
      refine xr_then ?_
      exact w_ret1 _ (.int .i64 ((i : Nat) : Int)) rfl rfl ⟨_, rfl, (decide_eq_true (by omega)).trans (any_hit (f := fun q : Rd => decide (q.1 = und nm)) hy hf30).symm, M⟩
    | false =>
      have hf30p := of_decide_eq_false hf30
      refine wl_callv 26 (.tmp 11) #[] #[pt kN 0] [(.tmp 15)] _ [.agg #[.string y.1, .string y.2]] [.agg #[.string y.1, .string y.2], pt kN 0] rfl rfl rfl rfl (fun _ _ => by kernel_rfl) (cB hf30 (st1_n (aN.mo M) hun y)) rfl ?_
      rintro e9 u41 ⟨rfl, hq⟩
      refine ⟨_, rfl, ?_⟩
      replace M := M.trans hq
      clear hq
      refine w_nil ?_
      refine xn_then ?_
      refine w_condF rfl ?_
      refine w_skip ?_
      refine xn_blk ?_
      refine xn_then ?_
      refine w_reg ?_
      refine wl_bin (fun x y => do eqGuard .add 3 (.tmp 8) (.const (.int .i64 (1))) x y; binOp .add 3 x y) (.tmp 8) (.const (.int .i64 (1))) (.int .i64 ((i : Nat) : Int)) (.int .i64 (1)) (.int .i64 ((i + 1 : Nat) : Int)) (fun _ => rfl) e40_i rfl (add1r (k := i) (by omega) _ _ _) rfl ?_
      refine wl_mv (.tmp 18) (.int .i64 ((i + 1 : Nat) : Int)) (fun _ => rfl) rfl rfl ?_
      refine w_nil ?_
      exact xn_loop (R.length - (i + 1)) (by omega) ⟨i + 1, rfl, by omega, e40_0, e40_1, e40_7, rfl, any_take hT hy hf30, M⟩
  · skip
    have hid : decide (i < R.length) = false := decide_eq_false hil
    have hie : i = R.length := by omega
    refine w_seq ?_
    refine w_reg ?_
    refine wl_bin (fun x y => do eqGuard .lss 3 (.tmp 8) (.tmp 7) x y; binOp .lss 3 x y) (.tmp 8) (.tmp 7) (.int .i64 ((i : Nat) : Int)) (.int .i64 ((R.length : Nat) : Int)) (.bool false) (fun _ => rfl) e40_i e40_7 (ltN hid _ _ _) rfl ?_
    refine w_nil ?_
    refine xn_then ?_
    refine w_seq ?_
    refine w_condF rfl ?_
    refine w_exit ?_
    refine xx_then ?_
    refine xx_then ?_
    refine xx_blk ?_
    refine xn_then ?_
    refine w_seq ?_
    refine w_reg ?_
    refine wl_mv (.const (.int .i64 (-1))) (.int .i64 (-1)) (fun _ => rfl) rfl rfl ?_
    refine w_nil ?_
    refine xn_then ?_
    refine w_ret ?_
    exact w_ret1 _ (.int .i64 (-1)) rfl rfl ⟨_, rfl, (any_all hT hie).symm, M⟩
theorem conf_n {w : World} {kN : Nat} {nm : ByteArray} (aN : At w kN [.string nm]) (hun : nm.size + 1 ≤ 9223372036854775807) {pa : Option Addr} {c : Nat} {R : List Rd} (hS : SL w 2 rdc pa R) : Calls Try.prog 25 #[.slice pa R.length c, .func (.func 26) #[] #[pt kN 0]] w fun e w' => e = .returned (.bool (R.any (fun q : Rd => decide (q.1 = und nm)))) ∧ Mo w w' := by
  refine w_enter 9 Try.func25 Try.ntmps25 rfl rfl ?_
  have M : Mo w w := Mo.refl _
  refine w_seq ?_
  refine w_reg ?_
  refine wl_mv (.const (.bool false)) (.bool false) (fun _ => rfl) rfl rfl ?_
  refine w_nil ?_
  refine xn_then ?_
  refine w_seq ?_
  refine w_reg ?_
  refine wl_mv (.tmp 0) (.slice pa R.length c) (fun _ => rfl) rfl rfl ?_
  refine wl_mv (.tmp 1) (.func (.func 26) #[] #[pt kN 0]) (fun _ => rfl) rfl rfl ?_
  refine wl_callx 43 [(.tmp 5), (.tmp 6)] _ [.slice pa R.length c, .func (.func 26) #[] #[pt kN 0]] rfl rfl (fun _ _ => by kernel_rfl) (idxf_n aN hun hS) rfl ?_
  rintro e9 u1 ⟨r, rfl, hr, hq⟩
  refine ⟨_, rfl, ?_⟩
  replace M := M.trans hq
  cases hf0 : decide (0 ≤ r) with
  | true =>
    have hf0p := of_decide_eq_true hf0
    refine wl_bin (fun x y => do eqGuard .geq 3 (.tmp 7) (.const (.int .i64 (0))) x y; binOp .geq 3 x y) (.tmp 7) (.const (.int .i64 (0))) (.int .i64 (r)) (.int .i64 (0)) (.bool true) (fun _ => rfl) rfl rfl (ge3 hf0 _ _ _) rfl ?_
    refine wl_mv (.tmp 8) (.bool true) (fun _ => rfl) rfl rfl ?_
    refine w_nil ?_
    refine xn_then ?_
    refine w_ret ?_
    exact w_ret1 _ (.bool true) rfl rfl ⟨by rw [← hr, hf0], M⟩
  | false =>
    have hf0p := of_decide_eq_false hf0
    refine wl_bin (fun x y => do eqGuard .geq 3 (.tmp 7) (.const (.int .i64 (0))) x y; binOp .geq 3 x y) (.tmp 7) (.const (.int .i64 (0))) (.int .i64 (r)) (.int .i64 (0)) (.bool false) (fun _ => rfl) rfl rfl (ge3 hf0 _ _ _) rfl ?_
    refine wl_mv (.tmp 8) (.bool false) (fun _ => rfl) rfl rfl ?_
    refine w_nil ?_
    refine xn_then ?_
    refine w_ret ?_
    exact w_ret1 _ (.bool false) rfl rfl ⟨by rw [← hr, hf0], M⟩
end Go.Proofs.Ytepfokoepibkcaa
