/-
  A part of the proof.
-/
import Derived.Test.YthgknegocfhdbaaDoorC11
import Derived.Test.YthgknegocfhdbaaDoorRows
import Derived.Test.YthgknegocfhdbaaDoorC3
import Derived.Carry
import Derived.ChangeMaps5
import Derived.ChangeSame
import Derived.ChangeVars
import Derived.JoinedOf
import Derived.RowKitTokens
import Derived.LaidLaws
import Derived.LaidHandle
import Derived.Stop.Joined
import Derived.Lib.LaidIn
namespace Go.Proofs.YthgknegocfhdbaaDoor.V
open Go.RowKit
theorem own_at37 {w : World} {N g cap n : Nat} {xs : List Value} (h : w.ownsRow N 37 13 (.slice (some ⟨g, 0, none⟩) n cap) n xs) : At w g xs := by
  have hl := h.1
  refine ⟨fun j v hv => ?_, fun o => h.frozenAt o, (h.lt g rfl).2⟩
  have hj : j < xs.length := (List.getElem?_eq_some_iff.1 hv).1
  rw [Nat.zero_add, h.cellAt j (by omega)]; exact hv
theorem ix22t (g j n c : Nat) (h : j < n) (w : World) : (Instr.indexAt 22 (.slice (some ⟨g, 0, none⟩) n c) (.int .i64 (j : Int))).run Tryd.prog w = .ok (pt g (j * 13)) w := by
  have e : (Instr.indexAt 22 (.slice (some ⟨g, 0, none⟩) n c) (.int .i64 (j : Int))).run Tryd.prog w = .ok (.pointer (some ((⟨g, 0, none⟩ : Addr).add (j * 13)))) w := by simp [go_sem, h]
  rw [e, Addr.add_mid, Nat.zero_add]
theorem len22t (ρ : Operand → Value) (x : Operand) (p : Option Addr) (m c : Nat) (hx : ρ x = .slice p m c) (dst : Option Tmp) (type : TypeId) (pos : String) (after : Array Edge) (guard : Option (Nat × Bool)) (w : World) : (execOp ρ { dst, op := .call { callee := .builtin .len, args := #[x], argTypes := #[22] }, type, pos, after, guard }).run Tryd.prog w = .ok (.value (.int .i64 (m : Int))) w := by
  simp [go_sem, hx]
theorem live_n (w : World) : Calls Tryd.prog 10 #[] w fun e w' => e = .returned (.bool true) ∧ Mw w w' := by
  refine w_enter 53 Tryd.func10 Tryd.ntmps10 rfl rfl ?_
  have M : Mw w w := Mw.refl _
  refine w_seq ?_
  refine w_reg ?_
  refine wl_mv (.const (.bool false)) (.bool false) (fun _ => rfl) rfl rfl ?_
  refine w_nil ?_
  refine xn_then ?_
  refine w_seq ?_
  refine w_reg ?_
  refine wl_callx 8 [(.const (.string ⟨#[97, 46, 98, 60, 61, 49, 46, 53, 48, 47, 47, 99]⟩))] _ [.string ⟨#[97, 46, 98, 60, 61, 49, 46, 53, 48, 47, 47, 99]⟩] rfl rfl (fun _ _ => by kernel_rfl) (scan_n sa La 0 0 _ sc_sa (by decide)) rfl ?_
  rintro _ w1 ⟨va, rfl, hoa, _, hq⟩
  refine ⟨_, rfl, ?_⟩
  replace hoa := hoa rfl
  obtain ⟨ga, ca, hva, _⟩ := hoa.form (by decide)
  subst hva
  have QA := own_at37 hoa
  replace M := M.trans hq
  clear hq
  refine wl_mv (.tmp 8) (.tuple #[.slice (some ⟨ga, 0, none⟩) La.length ca, .int .i64 ((0 : Nat) : Int), .int .i64 (0)]) (fun _ => rfl) rfl rfl ?_
  refine wl_un (fun v => Instr.extract v 0) (.tmp 7) (.tuple #[.slice (some ⟨ga, 0, none⟩) La.length ca, .int .i64 ((0 : Nat) : Int), .int .i64 (0)]) (.slice (some ⟨ga, 0, none⟩) La.length ca) (fun _ => rfl) rfl (by kernel_rfl) rfl ?_
  refine wl_un (fun v => Instr.extract v 1) (.tmp 7) (.tuple #[.slice (some ⟨ga, 0, none⟩) La.length ca, .int .i64 ((0 : Nat) : Int), .int .i64 (0)]) (.int .i64 ((0 : Nat) : Int)) (fun _ => rfl) rfl (by kernel_rfl) rfl ?_
  refine wl_un (fun v => Instr.extract v 2) (.tmp 7) (.tuple #[.slice (some ⟨ga, 0, none⟩) La.length ca, .int .i64 ((0 : Nat) : Int), .int .i64 (0)]) (.int .i64 (0)) (fun _ => rfl) rfl (by kernel_rfl) rfl ?_
  refine wl_mv (.tmp 9) (.slice (some ⟨ga, 0, none⟩) La.length ca) (fun _ => rfl) rfl rfl ?_
  refine wl_mv (.tmp 10) (.int .i64 ((0 : Nat) : Int)) (fun _ => rfl) rfl rfl ?_
  refine wl_mv (.tmp 11) (.int .i64 (0)) (fun _ => rfl) rfl rfl ?_
  refine w_nil ?_
  refine xn_then ?_
  refine w_seq ?_
  refine w_reg ?_
  refine wl_callx 8 [(.const (.string ⟨#[32, 35]⟩))] _ [.string ⟨#[32, 35]⟩] rfl rfl (fun _ _ => by kernel_rfl) (scan_n sb [] 1 70 _ sc_sb (by decide)) rfl ?_
  rintro _ w2 ⟨vb, rfl, _, hvb, hq⟩
  refine ⟨_, rfl, ?_⟩
  obtain rfl := hvb (by decide)
  replace QA := QA.mo hq
  replace M := M.trans hq
  clear hq
  refine wl_mv (.tmp 13) (.tuple #[.slice none 0 0, .int .i64 ((1 : Nat) : Int), .int .i64 (70)]) (fun _ => rfl) rfl rfl ?_
  refine wl_un (fun v => Instr.extract v 0) (.tmp 12) (.tuple #[.slice none 0 0, .int .i64 ((1 : Nat) : Int), .int .i64 (70)]) (.slice none 0 0) (fun _ => rfl) rfl (by kernel_rfl) rfl ?_
  refine wl_un (fun v => Instr.extract v 1) (.tmp 12) (.tuple #[.slice none 0 0, .int .i64 ((1 : Nat) : Int), .int .i64 (70)]) (.int .i64 ((1 : Nat) : Int)) (fun _ => rfl) rfl (by kernel_rfl) rfl ?_
  refine wl_un (fun v => Instr.extract v 2) (.tmp 12) (.tuple #[.slice none 0 0, .int .i64 ((1 : Nat) : Int), .int .i64 (70)]) (.int .i64 (70)) (fun _ => rfl) rfl (by kernel_rfl) rfl ?_
  refine wl_mv (.tmp 14) (.slice none 0 0) (fun _ => rfl) rfl rfl ?_
  refine wl_mv (.tmp 15) (.int .i64 ((1 : Nat) : Int)) (fun _ => rfl) rfl rfl ?_
  refine wl_mv (.tmp 16) (.int .i64 (70)) (fun _ => rfl) rfl rfl ?_
  refine w_nil ?_
  refine xn_then ?_
  refine w_seq ?_
  refine w_reg ?_
  refine wl_mv (.tmp 3) (.int .i64 (0)) (fun _ => rfl) rfl rfl ?_
  refine wl_bin (fun x y => do eqGuard .eql 23 (.tmp 17) (.const (.int .i64 (0))) x y; binOp .eql 23 x y) (.tmp 17) (.const (.int .i64 (0))) (.int .i64 (0)) (.int .i64 (0)) (.bool true) (fun _ => rfl) rfl rfl (by kernel_rfl) rfl ?_
  refine wl_mv (.tmp 18) (.bool true) (fun _ => rfl) rfl rfl ?_
  refine wl_mv (.tmp 2) (.int .i64 ((0 : Nat) : Int)) (fun _ => rfl) rfl rfl ?_
  refine wl_bin (fun x y => do eqGuard .eql 3 (.tmp 20) (.const (.int .i64 (0))) x y; binOp .eql 3 x y) (.tmp 20) (.const (.int .i64 (0))) (.int .i64 ((0 : Nat) : Int)) (.int .i64 (0)) (.bool true) (fun _ => rfl) rfl rfl (by kernel_rfl) rfl ?_
  refine wl_pick (.tmp 19) (.tmp 21) (.const (.bool false)) true (.bool true) (fun _ => rfl) rfl rfl rfl ?_
  refine wl_mv (.tmp 22) (.bool true) (fun _ => rfl) rfl rfl ?_
  refine wl_mv (.tmp 1) (.slice (some ⟨ga, 0, none⟩) La.length ca) (fun _ => rfl) rfl rfl ?_
  refine wl_val (.int .i64 ((La.length : Nat) : Int)) (len22t _ _ _ _ _ (by exact rfl) _ _ _ _ _ _) rfl ?_
  refine wl_bin (fun x y => do eqGuard .eql 3 (.tmp 25) (.const (.int .i64 (5))) x y; binOp .eql 3 x y) (.tmp 25) (.const (.int .i64 (5))) (.int .i64 ((La.length : Nat) : Int)) (.int .i64 (5)) (.bool true) (fun _ => rfl) rfl rfl (by kernel_rfl) rfl ?_
  refine wl_pick (.tmp 23) (.tmp 26) (.const (.bool false)) true (.bool true) (fun _ => rfl) rfl rfl rfl ?_
  refine wl_mv (.tmp 27) (.bool true) (fun _ => rfl) rfl rfl ?_
  refine wl_mv (.tmp 1) (.slice (some ⟨ga, 0, none⟩) La.length ca) (fun _ => rfl) rfl rfl ?_
  refine wl_bin (fun x y => Instr.indexAt 22 x y) (.tmp 29) (.const (.int .i64 (3))) (.slice (some ⟨ga, 0, none⟩) La.length ca) (.int .i64 (3)) (pt ga 39) (fun _ => rfl) rfl rfl (ix22t ga 3 La.length ca (by decide) _) rfl ?_
  refine wl_un (fun v => Instr.fieldAt 37 v 1) (.tmp 30) (pt ga 39) (pt ga 40) (fun _ => rfl) rfl (by kernel_rfl) rfl ?_
  refine wl_load 9 (.tmp 31) (pt ga 40) (.string (sa.extract 3 5)) rfl rfl (run_one QA 9 40 rfl Tryd.underlying9 rfl) rfl ?_
  refine wl_bin (fun x y => do eqGuard .eql 9 (.tmp 32) (.const (.string ⟨#[60, 61]⟩)) x y; binOp .eql 9 x y) (.tmp 32) (.const (.string ⟨#[60, 61]⟩)) (.string (sa.extract 3 5)) (.string ⟨#[60, 61]⟩) (.bool true) (fun _ => rfl) rfl rfl (eq9 (by rw [ext_3]; exact beq_self_eq_true _) _ _ _) rfl ?_
  refine wl_pick (.tmp 28) (.tmp 33) (.const (.bool false)) true (.bool true) (fun _ => rfl) rfl rfl rfl ?_
  refine wl_mv (.tmp 34) (.bool true) (fun _ => rfl) rfl rfl ?_
  refine wl_mv (.tmp 1) (.slice (some ⟨ga, 0, none⟩) La.length ca) (fun _ => rfl) rfl rfl ?_
  refine wl_bin (fun x y => Instr.indexAt 22 x y) (.tmp 36) (.const (.int .i64 (4))) (.slice (some ⟨ga, 0, none⟩) La.length ca) (.int .i64 (4)) (pt ga 52) (fun _ => rfl) rfl rfl (ix22t ga 4 La.length ca (by decide) _) rfl ?_
  refine wl_un (fun v => Instr.fieldAt 37 v 2) (.tmp 37) (pt ga 52) (pt ga 54) (fun _ => rfl) rfl (by kernel_rfl) rfl ?_
  refine wl_un (fun v => Instr.fieldAt 35 v 1) (.tmp 38) (pt ga 54) (pt ga 55) (fun _ => rfl) rfl (by kernel_rfl) rfl ?_
  refine wl_load 33 (.tmp 39) (pt ga 55) (.agg #[.bool false, .int .u64 (l0 (150)), .int .u64 (l1 (150)), .int .u64 (l2 (150)), .int .u64 (l3 (150)), .int .i64 (((2 : Nat) : Int))]) rfl rfl (run_row QA 33 55 6 [.bool false, .int .u64 (l0 (150)), .int .u64 (l1 (150)), .int .u64 (l2 (150)), .int .u64 (l3 (150)), .int .i64 (((2 : Nat) : Int))] rfl Tryd.underlying33 rfl sz33) rfl ?_
  refine wl_build 31 [(0, (.const (.int .u64 (150))))] [(0, .int .u64 (150))] (.agg #[.int .u64 (150), .int .u64 0, .int .u64 0, .int .u64 0]) rfl rfl (by kernel_rfl) rfl ?_
  refine wl_build 33 [(1, (.tmp 41)), (2, (.const (.int .i64 (2))))] [(1, .agg #[.int .u64 (150), .int .u64 0, .int .u64 0, .int .u64 0]), (2, .int .i64 (2))] (.agg #[.bool false, .int .u64 (150), .int .u64 0, .int .u64 0, .int .u64 0, .int .i64 (2)]) rfl rfl (by kernel_rfl) rfl ?_
  refine wl_bin (fun x y => do eqGuard .eql 33 (.tmp 40) (.tmp 42) x y; binOp .eql 33 x y) (.tmp 40) (.tmp 42) (.agg #[.bool false, .int .u64 (l0 (150)), .int .u64 (l1 (150)), .int .u64 (l2 (150)), .int .u64 (l3 (150)), .int .i64 (((2 : Nat) : Int))]) (.agg #[.bool false, .int .u64 (150), .int .u64 0, .int .u64 0, .int .u64 0, .int .i64 (2)]) (.bool true) (fun _ => rfl) rfl rfl (by kernel_rfl) rfl ?_
  refine wl_pick (.tmp 35) (.tmp 43) (.const (.bool false)) true (.bool true) (fun _ => rfl) rfl rfl rfl ?_
  refine wl_mv (.tmp 44) (.bool true) (fun _ => rfl) rfl rfl ?_
  refine wl_mv (.tmp 6) (.int .i64 (70)) (fun _ => rfl) rfl rfl ?_
  refine wl_bin (fun x y => do eqGuard .eql 23 (.tmp 46) (.const (.int .i64 (70))) x y; binOp .eql 23 x y) (.tmp 46) (.const (.int .i64 (70))) (.int .i64 (70)) (.int .i64 (70)) (.bool true) (fun _ => rfl) rfl rfl (by kernel_rfl) rfl ?_
  refine wl_pick (.tmp 45) (.tmp 47) (.const (.bool false)) true (.bool true) (fun _ => rfl) rfl rfl rfl ?_
  refine wl_mv (.tmp 48) (.bool true) (fun _ => rfl) rfl rfl ?_
  refine wl_mv (.tmp 5) (.int .i64 ((1 : Nat) : Int)) (fun _ => rfl) rfl rfl ?_
  refine wl_bin (fun x y => do eqGuard .eql 3 (.tmp 50) (.const (.int .i64 (1))) x y; binOp .eql 3 x y) (.tmp 50) (.const (.int .i64 (1))) (.int .i64 ((1 : Nat) : Int)) (.int .i64 (1)) (.bool true) (fun _ => rfl) rfl rfl (by kernel_rfl) rfl ?_
  refine wl_pick (.tmp 49) (.tmp 51) (.const (.bool false)) true (.bool true) (fun _ => rfl) rfl rfl rfl ?_
  refine wl_mv (.tmp 52) (.bool true) (fun _ => rfl) rfl rfl ?_
  refine w_nil ?_
  refine xn_then ?_
  refine w_ret ?_
  exact w_ret1 _ (.bool true) rfl rfl ⟨rfl, M⟩
end Go.Proofs.YthgknegocfhdbaaDoor.V
namespace Go.Proofs.YthgknegocfhdbaaDoor.V
open Go.RowKit
theorem qf_mw {X : Prop} {pa : Option Addr} {w w' : World} {xs : List Value} (h : X → ∃ g : Nat, pa = some ⟨g, 0, none⟩ ∧ At w g xs) (m : Mw w w') : X → ∃ g : Nat, pa = some ⟨g, 0, none⟩ ∧ At w' g xs := fun x => by
  obtain ⟨g, hp, hA⟩ := h x; exact ⟨g, hp, hA.mo m⟩
theorem sc_len {s : ByteArray} {k : Nat} {L : List (List Value)} {p : Nat} {E : Int} (h : Sc s k L p E) : ∀ x ∈ L, x.length = 13 := by
  induction h with
  | done => intro x hx; cases hx
  | err => intro x hx; cases hx
  | tok _ _ _ _ _ _ ih =>
    intro x hx
    rcases List.mem_cons.1 hx with rfl | hx
    · rfl
    · exact ih x hx
theorem flat_len : ∀ {D : List (List Value)}, (∀ x ∈ D, x.length = 13) → D.flatten.length = D.length * 13
  | [], _ => rfl
  | c :: D, h => by
    rw [List.flatten_cons, List.length_append, flat_len (fun x hx => h x (List.mem_cons_of_mem _ hx)), h c (List.mem_cons_self ..), List.length_cons]
    omega
theorem flat_at {D R : List (List Value)} {c : List Value} (h : ∀ x ∈ D, x.length = 13) (hc : c.length = 13) : c = ((D ++ c :: R).flatten.drop (D.length * 13)).take 13 := by
  rw [List.flatten_append, ← flat_len h, List.drop_left, List.flatten_cons, ← hc, List.take_left]
theorem own_sl37 {w : World} {N n : Nat} {v : Value} {xs : List Value} (h : w.ownsRow N 37 13 v n xs) : ∃ p cap, v = .slice p n cap ∧ (xs ≠ [] → ∃ g, p = some ⟨g, 0, none⟩ ∧ At w g xs) := by
  have h0 := h
  have hl := h.1
  rcases h.2 with ⟨rfl, rfl⟩ | ⟨g, cap, cur, rfl, _⟩
  · exact ⟨none, 0, rfl, fun e => absurd (List.length_eq_zero_iff.1 (by omega)) e⟩
  · exact ⟨some ⟨g, 0, none⟩, cap, rfl, fun _ => ⟨g, rfl, own_at37 h0⟩⟩
theorem hasPrefix_take (l : List UInt8) (n : Nat) : Lib.hasPrefix l (l.take n) = true := by
  unfold Lib.hasPrefix
  simp
  exact List.take_prefix _ _
theorem hasP (s : ByteArray) (k e : Nat) (_hes : e ≤ s.size) (w : World) : Calls Tryd.prog 26 #[.string (s.extract (k) s.size), .string (s.extract k e)] w fun e' w' => e' = .returned (.bool true) ∧ Mw w w' := by
  refine (Tryd.strings_HasPrefix (s.extract k s.size) (s.extract k e) w).mono fun e' w' ⟨h, hw⟩ => ⟨?_, hw ▸ Mw.refl _⟩
  rw [h]
  have : Lib.hasPrefix (s.extract k s.size).data.toList (s.extract k e).data.toList = true := by
    have e1 : (s.extract k s.size).data.toList = (by8 s).drop k := by
      have := by8_ext s k s.size
      rw [List.take_of_length_le (by rw [List.length_drop, by8_len]; exact Nat.le_refl _)] at this
      exact this
    have e2 : (s.extract k e).data.toList = ((by8 s).drop k).take (e - k) := by8_ext s k e
    rw [e1, e2]
    exact hasPrefix_take _ _
  rw [this]
theorem scan_long (s : ByteArray) (w : World) (hlong : decide (16384 < s.size) = true) : Calls Tryd.prog 8 #[.string s] w fun e' w' => e' = .returned (.tuple #[.slice none 0 0, .int .i64 (0), .int .i64 (3)]) ∧ Mw w w' := by
  refine w_enter 40 Tryd.func8 Tryd.ntmps8 rfl rfl ?_
  have M : Mw w w := Mw.refl _
  refine w_seq ?_
  refine w_reg ?_
  refine wl_mv (.const (.slice none 0 0)) (.slice none 0 0) (fun _ => rfl) rfl rfl ?_
  refine wl_mv (.const (.int .i64 (0))) (.int .i64 (0)) (fun _ => rfl) rfl rfl ?_
  refine wl_mv (.const (.int .i64 (0))) (.int .i64 (0)) (fun _ => rfl) rfl rfl ?_
  refine w_nil ?_
  refine xn_then ?_
  refine w_seq ?_
  refine w_seq ?_
  refine w_reg ?_
  refine wl_mv (.tmp 0) (.string s) (fun _ => rfl) rfl rfl ?_
  refine wl_val (.int .i64 ((s.size : Nat) : Int)) (len_s _ _ s (by exact rfl) _ _ _ _ _ _) rfl ?_
  refine wl_bin (fun x y => do eqGuard .gtr 3 (.tmp 10) (.const (.int .i64 (16384))) x y; binOp .gtr 3 x y) (.tmp 10) (.const (.int .i64 (16384))) (.int .i64 ((s.size : Nat) : Int)) (.int .i64 (16384)) (.bool true) (fun _ => rfl) rfl rfl (gtN hlong _ _ _) rfl ?_
  refine w_nil ?_
  refine xn_then ?_
  refine w_condT rfl ?_
  refine w_seq ?_
  refine w_reg ?_
  refine wl_mv (.const (.slice none 0 0)) (.slice none 0 0) (fun _ => rfl) rfl rfl ?_
  refine wl_mv (.const (.int .i64 (0))) (.int .i64 (0)) (fun _ => rfl) rfl rfl ?_
  refine wl_mv (.const (.int .i64 (3))) (.int .i64 (3)) (fun _ => rfl) rfl rfl ?_
  refine w_nil ?_
  refine xn_then ?_
  refine w_ret ?_
  refine xr_then ?_
  exact w_ret3 _ _ _ (.slice none 0 0) (.int .i64 (0)) (.int .i64 (3)) rfl rfl rfl rfl ⟨rfl, M⟩
theorem places_x (s : ByteArray) (p E : Int) (w : World) (hE : (E == 0) = false) (hsc : ∀ w, Calls Tryd.prog 8 #[.string s] w fun e' w' => e' = .returned (.tuple #[.slice none 0 0, .int .i64 p, .int .i64 E]) ∧ Mw w w') : Calls Tryd.prog 7 #[.string s] w fun e' w' => e' = .returned (.bool true) ∧ Mw w w' := by
  refine w_enter 60 Tryd.func7 Tryd.ntmps7 rfl rfl ?_
  have M : Mw w w := Mw.refl _
  refine w_seq ?_
  refine w_reg ?_
  refine wl_mv (.const (.bool false)) (.bool false) (fun _ => rfl) rfl rfl ?_
  refine w_nil ?_
  refine xn_then ?_
  refine w_seq ?_
  refine w_reg ?_
  refine wl_mv (.tmp 0) (.string s) (fun _ => rfl) rfl rfl ?_
  refine wl_call 8 [(.tmp 10)] _ [.string s] (.tuple #[.slice none 0 0, .int .i64 (p), .int .i64 (E)]) rfl rfl (fun _ _ => by kernel_rfl) (hsc _) rfl ?_
  intro w1 hq
  replace M := M.trans hq
  clear hq
  refine wl_mv (.tmp 11) (.tuple #[.slice none 0 0, .int .i64 (p), .int .i64 (E)]) (fun _ => rfl) rfl rfl ?_
  refine wl_un (fun v => Instr.extract v 0) (.tmp 9) (.tuple #[.slice none 0 0, .int .i64 (p), .int .i64 (E)]) (.slice none 0 0) (fun _ => rfl) rfl (by kernel_rfl) rfl ?_
  refine wl_un (fun v => Instr.extract v 1) (.tmp 9) (.tuple #[.slice none 0 0, .int .i64 (p), .int .i64 (E)]) (.int .i64 (p)) (fun _ => rfl) rfl (by kernel_rfl) rfl ?_
  refine wl_un (fun v => Instr.extract v 2) (.tmp 9) (.tuple #[.slice none 0 0, .int .i64 (p), .int .i64 (E)]) (.int .i64 (E)) (fun _ => rfl) rfl (by kernel_rfl) rfl ?_
  refine wl_mv (.tmp 12) (.slice none 0 0) (fun _ => rfl) rfl rfl ?_
  refine wl_mv (.tmp 13) (.int .i64 (p)) (fun _ => rfl) rfl rfl ?_
  refine wl_mv (.tmp 14) (.int .i64 (E)) (fun _ => rfl) rfl rfl ?_
  refine w_nil ?_
  refine xn_then ?_
  refine w_seq ?_
  refine w_seq ?_
  refine w_reg ?_
  refine wl_mv (.tmp 5) (.int .i64 (E)) (fun _ => rfl) rfl rfl ?_
  refine wl_bin (fun x y => do eqGuard .neq 23 (.tmp 15) (.const (.int .i64 (0))) x y; binOp .neq 23 x y) (.tmp 15) (.const (.int .i64 (0))) (.int .i64 (E)) (.int .i64 (0)) (.bool true) (fun _ => rfl) rfl rfl (ne23 (r := false) hE _ _ _) rfl ?_
  refine wl_mv (.tmp 16) (.bool true) (fun _ => rfl) rfl rfl ?_
  refine wl_skip rfl ?_
  refine wl_skip rfl ?_
  refine wl_pick (.tmp 17) (.const (.bool true)) (.tmp 19) true (.bool true) (fun _ => rfl) rfl rfl rfl ?_
  refine w_nil ?_
  refine xn_then ?_
  refine w_condT rfl ?_
  refine w_seq ?_
  refine w_reg ?_
  refine wl_call 10 [] _ [] (.bool true) rfl rfl (fun _ _ => by kernel_rfl) (live_n _) rfl ?_
  intro w2 hq
  replace M := M.trans hq
  clear hq
  refine wl_mv (.tmp 21) (.bool true) (fun _ => rfl) rfl rfl ?_
  refine w_nil ?_
  refine xn_then ?_
  refine w_ret ?_
  refine xr_then ?_
  exact w_ret1 _ (.bool true) rfl rfl ⟨rfl, M⟩
theorem ne3z {a : Int} (x y : Operand) (w : World) : (do eqGuard .neq 3 x y (.int .i64 a) (.int .i64 a); binOp .neq 3 (.int .i64 a) (.int .i64 a)).run Tryd.prog w = .ok (.bool false) w := by
  have e : (do eqGuard .neq 3 x y (.int .i64 a) (.int .i64 a); binOp .neq 3 (.int .i64 a) (.int .i64 a)).run Tryd.prog w = .ok (.bool (!(a == a))) w := by kernel_rfl
  rw [e, beq_self_eq_true]; rfl
theorem places_k (s : ByteArray) (L : List (List Value)) (p : Nat) (w : World) (hS0 : Sc s (blk s 0) L p 0) (hlong : decide (16384 < s.size) = false) : Calls Tryd.prog 7 #[.string s] w fun e' w' => e' = .returned (.bool true) ∧ Mw w w' := by
  have hlp := of_decide_eq_false hlong
  refine w_enter 60 Tryd.func7 Tryd.ntmps7 rfl rfl ?_
  have M : Mw w w := Mw.refl _
  refine w_seq ?_
  refine w_reg ?_
  refine wl_mv (.const (.bool false)) (.bool false) (fun _ => rfl) rfl rfl ?_
  refine w_nil ?_
  refine xn_then ?_
  refine w_seq ?_
  refine w_reg ?_
  refine wl_mv (.tmp 0) (.string s) (fun _ => rfl) rfl rfl ?_
  refine wl_callx 8 [(.tmp 10)] _ [.string s] rfl rfl (fun _ _ => by kernel_rfl) (scan_n s L p 0 _ hS0 hlong) rfl ?_
  rintro _ w1 ⟨va, rfl, hoa, _, hq⟩
  refine ⟨_, rfl, ?_⟩
  obtain ⟨pa, ca, hva, hQA⟩ := own_sl37 (hoa rfl)
  subst hva
  clear hoa
  replace M := M.trans hq
  clear hq
  refine wl_mv (.tmp 11) (.tuple #[.slice pa L.length ca, .int .i64 ((p : Nat) : Int), .int .i64 (0)]) (fun _ => rfl) rfl rfl ?_
  refine wl_un (fun v => Instr.extract v 0) (.tmp 9) (.tuple #[.slice pa L.length ca, .int .i64 ((p : Nat) : Int), .int .i64 (0)]) (.slice pa L.length ca) (fun _ => rfl) rfl (by kernel_rfl) rfl ?_
  refine wl_un (fun v => Instr.extract v 1) (.tmp 9) (.tuple #[.slice pa L.length ca, .int .i64 ((p : Nat) : Int), .int .i64 (0)]) (.int .i64 ((p : Nat) : Int)) (fun _ => rfl) rfl (by kernel_rfl) rfl ?_
  refine wl_un (fun v => Instr.extract v 2) (.tmp 9) (.tuple #[.slice pa L.length ca, .int .i64 ((p : Nat) : Int), .int .i64 (0)]) (.int .i64 (0)) (fun _ => rfl) rfl (by kernel_rfl) rfl ?_
  refine wl_mv (.tmp 12) (.slice pa L.length ca) (fun _ => rfl) rfl rfl ?_
  refine wl_mv (.tmp 13) (.int .i64 ((p : Nat) : Int)) (fun _ => rfl) rfl rfl ?_
  refine wl_mv (.tmp 14) (.int .i64 (0)) (fun _ => rfl) rfl rfl ?_
  refine w_nil ?_
  refine xn_then ?_
  refine w_seq ?_
  refine w_seq ?_
  refine w_reg ?_
  refine wl_mv (.tmp 5) (.int .i64 (0)) (fun _ => rfl) rfl rfl ?_
  refine wl_bin (fun x y => do eqGuard .neq 23 (.tmp 15) (.const (.int .i64 (0))) x y; binOp .neq 23 x y) (.tmp 15) (.const (.int .i64 (0))) (.int .i64 (0)) (.int .i64 (0)) (.bool false) (fun _ => rfl) rfl rfl (ne23 (r := true) rfl _ _ _) rfl ?_
  refine wl_mv (.tmp 16) (.bool false) (fun _ => rfl) rfl rfl ?_
  refine wl_call 10 [] _ [] (.bool true) rfl rfl (fun _ _ => by kernel_rfl) (live_n _) rfl ?_
  intro w2 hq
  replace hQA := qf_mw hQA hq
  replace M := M.trans hq
  clear hq
  refine wl_un (fun v => Op.unary .not v) (.tmp 18) (.bool true) (.bool false) (fun _ => rfl) rfl (by kernel_rfl) rfl ?_
  refine wl_pick (.tmp 17) (.const (.bool true)) (.tmp 19) false (.bool false) (fun _ => rfl) rfl rfl rfl ?_
  refine w_nil ?_
  refine xn_then ?_
  refine w_condF rfl ?_
  refine w_skip ?_
  refine xn_then ?_
  refine w_seq ?_
  refine w_reg ?_
  refine wl_mv (.tmp 0) (.string s) (fun _ => rfl) rfl rfl ?_
  refine wl_call 14 [(.tmp 22), (.const (.int .i64 (0)))] _ [.string s, .int .i64 (0)] (.int .i64 ((blk s 0 : Nat) : Int)) rfl rfl (fun _ _ => by kernel_rfl) (wk (blank_n s 0 _ (by unfold maxLen; omega) (by omega))) rfl ?_
  intro w3 hq
  replace hQA := qf_mw hQA hq
  replace M := M.trans hq
  clear hq
  refine wl_mv (.tmp 23) (.int .i64 ((blk s 0 : Nat) : Int)) (fun _ => rfl) rfl rfl ?_
  refine w_nil ?_
  refine xn_then ?_
  refine w_seq ?_
  refine w_seq ?_
  refine w_reg ?_
  refine wl_mv (.tmp 3) (.slice pa L.length ca) (fun _ => rfl) rfl rfl ?_
  refine wl_val (.int .i64 ((L.length : Nat) : Int)) (len22t _ _ _ _ _ (by exact rfl) _ _ _ _ _ _) rfl ?_
  refine wl_mv (.const (.int .i64 (0))) (.int .i64 (0)) (fun _ => rfl) rfl rfl ?_
  refine w_nil ?_
  refine xn_then ?_
  refine w_block ?_
  refine w_loop (fun m l w1 => ∃ (k : Nat) (D R : List (List Value)), m = R.length ∧ look l 0 = .string s ∧ look l 6 = .int .i64 ((k : Nat) : Int) ∧ look l 24 = .slice pa L.length ca ∧ look l 25 = .int .i64 ((L.length : Nat) : Int) ∧ look l 26 = .int .i64 ((D.length : Nat) : Int) ∧ k ≤ s.size ∧ D.length ≤ k ∧ L = D ++ R ∧ Sc s k R p 0 ∧ (L.flatten ≠ [] → ∃ g, pa = some ⟨g, 0, none⟩ ∧ At w1 g L.flatten) ∧ Mw w w1) _ ⟨blk s 0, [], L, rfl, rfl, rfl, rfl, rfl, rfl, (blk_rg s _ 0 (Nat.le_refl _) (by omega)).2, Nat.zero_le _, rfl, hS0, hQA, M⟩ ?_
  clear M hQA
  rintro m l wl ⟨k, D, R, rfl, e0, e6, e24, e25, e26, hk, hDk, hLD, hSc, hQA, M⟩
  have h13 := sc_len hS0
  cases hSc with
  | done h =>
    have hjd : decide (D.length < L.length) = false := decide_eq_false (by rw [hLD, List.append_nil]; omega)
    refine w_seq ?_
    refine w_reg ?_
    refine wl_bin (fun x y => do eqGuard .lss 3 (.tmp 26) (.tmp 25) x y; binOp .lss 3 x y) (.tmp 26) (.tmp 25) (.int .i64 ((D.length : Nat) : Int)) (.int .i64 ((L.length : Nat) : Int)) (.bool false) (fun _ => rfl) e26 e25 (ltN hjd _ _ _) rfl ?_
    refine w_nil ?_
    refine xn_then ?_
    refine w_seq ?_
    refine w_condF rfl ?_
    refine w_exit ?_
    refine xx_then ?_
    refine xx_then ?_
    refine xx_blk ?_
    refine xn_then ?_
    refine w_seq ?_
    refine w_reg ?_
    refine wl_mv (.tmp 6) (.int .i64 ((k : Nat) : Int)) (fun _ => rfl) e6 rfl ?_
    refine wl_mv (.tmp 0) (.string s) (fun _ => rfl) e0 rfl ?_
    refine wl_val (.int .i64 ((s.size : Nat) : Int)) (len_s _ _ s (by exact rfl) _ _ _ _ _ _) rfl ?_
    refine wl_bin (fun x y => do eqGuard .eql 3 (.tmp 56) (.tmp 58) x y; binOp .eql 3 x y) (.tmp 56) (.tmp 58) (.int .i64 ((k : Nat) : Int)) (.int .i64 ((s.size : Nat) : Int)) (.bool true) (fun _ => rfl) rfl rfl (eqN (decide_eq_true (by omega)) _ _ _) rfl ?_
    refine wl_mv (.tmp 59) (.bool true) (fun _ => rfl) rfl rfl ?_
    refine w_nil ?_
    refine xn_then ?_
    refine w_ret ?_
    exact w_ret1 _ (.bool true) rfl rfl ⟨rfl, M⟩
  | @tok _ e K v0 v1 v2 v3 v4 v5 v6 v7 v8 v9 R9 _ _ h hke hes hoc hn hr =>
    have hjd : decide (D.length < L.length) = true := decide_eq_true (by rw [hLD, List.length_append, List.length_cons]; omega)
    have hD13 : ∀ x ∈ D, x.length = 13 := fun x hx => h13 x (by rw [hLD]; exact List.mem_append_left _ hx)
    have hsz : (s.extract k e).size = e - k := by rw [ByteArray.size_extract, Nat.min_eq_left hes]
    obtain ⟨g, hpa, QA⟩ := hQA (fun h0 => by rw [hLD, List.flatten_append, List.flatten_cons] at h0; simp at h0)
    refine w_seq ?_
    refine w_reg ?_
    refine wl_bin (fun x y => do eqGuard .lss 3 (.tmp 26) (.tmp 25) x y; binOp .lss 3 x y) (.tmp 26) (.tmp 25) (.int .i64 ((D.length : Nat) : Int)) (.int .i64 ((L.length : Nat) : Int)) (.bool true) (fun _ => rfl) e26 e25 (ltN hjd _ _ _) rfl ?_
    refine w_nil ?_
    refine xn_then ?_
    refine w_seq ?_
    refine w_condT rfl ?_
    refine w_skip ?_
    refine xn_then ?_
    refine w_seq ?_
    refine w_block ?_
    refine w_seq ?_
    refine w_reg ?_
    refine wl_bin (fun x y => Instr.indexAt 22 x y) (.tmp 24) (.tmp 26) (.slice pa L.length ca) (.int .i64 ((D.length : Nat) : Int)) (pt g (D.length * 13)) (fun _ => rfl) e24 e26 (by rw [hpa]; exact ix22t g D.length _ _ (of_decide_eq_true hjd) _) rfl ?_
    refine wl_load 37 (.tmp 28) (pt g (D.length * 13)) (.agg #[.int .i64 ((K : Nat) : Int), .string (s.extract k e), v0, v1, v2, v3, v4, v5, v6, v7, v8, v9, .int .i64 ((k : Nat) : Int)]) rfl rfl (run_row QA 37 (D.length * 13) 13 [.int .i64 ((K : Nat) : Int), .string (s.extract k e), v0, v1, v2, v3, v4, v5, v6, v7, v8, v9, .int .i64 ((k : Nat) : Int)] (by rw [hLD]; exact flat_at hD13 rfl) Tryd.underlying37 rfl sz37) rfl ?_
    refine wl_alloc 37 #[.int .i64 0, .string ⟨#[]⟩, .int .i64 0, .bool false, .int .u64 0, .int .u64 0, .int .u64 0, .int .u64 0, .int .i64 0, .bool false, .string ⟨#[]⟩, .int .i64 0, .int .i64 0] rfl (fun _ => by kernel_rfl) rfl ?_
    intro k1 w11 hk hz hq Q1
    have ne_g_k1 : g ≠ k1 := by have := QA.lt; omega
    have N_k1 : w.heap.size ≤ k1 := by have := M.size; omega
    replace QA := QA.mo hq
    replace M := M.trans hq
    clear hk hz hq
    refine wl_st 37 (.tmp 8) (.tmp 29) k1 0 #[.int .i64 ((K : Nat) : Int), .string (s.extract k e), v0, v1, v2, v3, v4, v5, v6, v7, v8, v9, .int .i64 ((k : Nat) : Int)] [.int .i64 0, .string ⟨#[]⟩, .int .i64 0, .bool false, .int .u64 0, .int .u64 0, .int .u64 0, .int .u64 0, .int .i64 0, .bool false, .string ⟨#[]⟩, .int .i64 0, .int .i64 0] [.int .i64 ((K : Nat) : Int), .string (s.extract k e), v0, v1, v2, v3, v4, v5, v6, v7, v8, v9, .int .i64 ((k : Nat) : Int)] Q1 rfl rfl rfl rfl rfl sz37 hoc rfl rfl ?_
    intro w12 hS Qn
    replace Q1 := Qn
    clear Qn
    replace QA := hS.other _ _ ne_g_k1 QA
    replace M := hS.mo _ N_k1 M
    clear hS
    refine w_nil ?_
    refine xn_then ?_
    refine w_seq ?_
    refine w_seq ?_
    refine w_any 15 [.inl (pt k1 12), .inl (.int .i64 ((k : Nat) : Int)), .inl (.int .i64 ((k : Nat) : Int)), .inl (.bool false), .inl (.bool false), .inl (pt k1 1), .inl (.string (s.extract k e)), .inl (.bool false), .inl (.bool false), .inl (.bool false), .inl (.string s), .inl (.int .i64 ((k : Nat) : Int)), .inl (.string (s.extract (k) s.size)), .inl (pt k1 1), .inl (.string (s.extract k e))] [] (by kernel_rfl) (by kernel_rfl) (by kernel_rfl) (by kernel_rfl) rfl (by kernel_rfl) (by kernel_rfl) late_nil ?_ ?_ ?_
    · exact Ds.none rfl
    · refine ea_cons ?_ (ea_cons ?_ (ea_cons ?_ (ea_cons ?_ (ea_cons ?_ (ea_cons ?_ (ea_cons ?_ (ea_cons ?_ (ea_cons ?_ (ea_cons ?_ (ea_cons ?_ (ea_cons ?_ (ea_cons ?_ (ea_cons ?_ (ea_cons ?_ (ea_nil)))))))))))))))
      · exact og_eq (pt k1 12) rfl (fun f wf hq hd K hK => go_run rfl (wo_un (fun v => Instr.fieldAt 37 v 3) (.tmp 8) (pt k1 0) (pt k1 12) (fun _ => rfl) rfl (by kernel_rfl) (hK _ (Mw.refl _))))
      · exact og_eq (.int .i64 ((k : Nat) : Int)) rfl (fun f wf hq hd K hK => have Q1 := Q1.mo hq; go_run rfl (wo_load 3 (.tmp 30) (pt k1 12) (.int .i64 ((k : Nat) : Int)) rfl (hd 0 rfl) (run_one Q1 3 12 rfl Tryd.underlying3 rfl) (hK _ (Mw.refl _))))
      · exact og_eq (.int .i64 ((k : Nat) : Int)) rfl (fun f wf hq hd K hK => go_run rfl (wo_mv (.tmp 6) (.int .i64 ((k : Nat) : Int)) (fun _ => rfl) e6 (hK _ (Mw.refl _))))
      · exact og_eq (.bool false) rfl (fun f wf hq hd K hK => go_run rfl (wo_bin (fun x y => do eqGuard .neq 3 (.tmp 31) (.tmp 32) x y; binOp .neq 3 x y) (.tmp 31) (.tmp 32) (.int .i64 ((k : Nat) : Int)) (.int .i64 ((k : Nat) : Int)) (.bool false) (fun _ => rfl) (hd 1 rfl) (hd 2 rfl) (ne3z _ _ _) (hK _ (Mw.refl _))))
      · exact og_eq (.bool false) rfl (fun f wf hq hd K hK => go_run rfl (wo_mv (.tmp 33) (.bool false) (fun _ => rfl) (hd 3 rfl) (hK _ (Mw.refl _))))
      · exact og_eq (pt k1 1) rfl (fun f wf hq hd K hK => go_run (wnt_g rfl rfl rfl (hd 4 rfl) rfl) (wo_un (fun v => Instr.fieldAt 37 v 1) (.tmp 8) (pt k1 0) (pt k1 1) (fun _ => rfl) rfl (by kernel_rfl) (hK _ (Mw.refl _))))
      · exact og_eq (.string (s.extract k e)) rfl (fun f wf hq hd K hK => have Q1 := Q1.mo hq; go_run (wnt_g rfl rfl rfl (hd 4 rfl) rfl) (wo_load 9 (.tmp 35) (pt k1 1) (.string (s.extract k e)) rfl (hd 5 rfl) (run_one Q1 9 1 rfl Tryd.underlying9 rfl) (hK _ (Mw.refl _))))
      · exact og_eq (.bool false) rfl (fun f wf hq hd K hK => go_run (wnt_g rfl rfl rfl (hd 4 rfl) rfl) (wo_bin (fun x y => do eqGuard .eql 9 (.tmp 36) (.const (.string ⟨#[]⟩)) x y; binOp .eql 9 x y) (.tmp 36) (.const (.string ⟨#[]⟩)) (.string (s.extract k e)) (.string ⟨#[]⟩) (.bool false) (fun _ => rfl) (hd 6 rfl) rfl (eqz9 (decide_eq_false (by omega)) _ _ _) (hK _ (Mw.refl _))))
      · exact og_eq (.bool false) rfl (fun f wf hq hd K hK => go_run rfl (wo_pick (.tmp 34) (.const (.bool true)) (.tmp 37) false (.bool false) (fun _ => rfl) (hd 4 rfl) (hd 7 rfl) (hK _ (Mw.refl _))))
      · exact og_eq (.bool false) rfl (fun f wf hq hd K hK => go_run rfl (wo_mv (.tmp 38) (.bool false) (fun _ => rfl) (hd 8 rfl) (hK _ (Mw.refl _))))
      · exact og_eq (.string s) rfl (fun f wf hq hd K hK => go_run (wnt_g rfl rfl rfl (hd 9 rfl) rfl) (wo_mv (.tmp 0) (.string s) (fun _ => rfl) e0 (hK _ (Mw.refl _))))
      · exact og_eq (.int .i64 ((k : Nat) : Int)) rfl (fun f wf hq hd K hK => go_run (wnt_g rfl rfl rfl (hd 9 rfl) rfl) (wo_mv (.tmp 6) (.int .i64 ((k : Nat) : Int)) (fun _ => rfl) e6 (hK _ (Mw.refl _))))
      · exact og_eq (.string (s.extract (k) s.size)) rfl (fun f wf hq hd K hK => go_run (wnt_g rfl rfl rfl (hd 9 rfl) rfl) (wo_val (.string (s.extract (k) s.size)) (lo2_run _ _ _ s (k) (by exact (hd 10 rfl)) (by exact (hd 11 rfl)) (by omega) _ _ _ _ _ _) (hK _ (Mw.refl _))))
      · exact og_eq (pt k1 1) rfl (fun f wf hq hd K hK => go_run (wnt_g rfl rfl rfl (hd 9 rfl) rfl) (wo_un (fun v => Instr.fieldAt 37 v 1) (.tmp 8) (pt k1 0) (pt k1 1) (fun _ => rfl) rfl (by kernel_rfl) (hK _ (Mw.refl _))))
      · exact og_eq (.string (s.extract k e)) rfl (fun f wf hq hd K hK => have Q1 := Q1.mo hq; go_run (wnt_g rfl rfl rfl (hd 9 rfl) rfl) (wo_load 9 (.tmp 43) (pt k1 1) (.string (s.extract k e)) rfl (hd 13 rfl) (run_one Q1 9 1 rfl Tryd.underlying9 rfl) (hK _ (Mw.refl _))))
    intro kf13 w13 hq hR hne
    replace QA := QA.mo hq
    replace Q1 := Q1.mo hq
    replace M := M.trans hq
    clear hq hR hne
    refine wl_call 26 [(.tmp 42), (.tmp 44)] _ [.string (s.extract (k) s.size), .string (s.extract k e)] (.bool true) rfl rfl (fun _ _ => by kernel_rfl) (hasP s k e hes _) rfl ?_
    intro w14 hq
    replace QA := QA.mo hq
    replace Q1 := Q1.mo hq
    replace M := M.trans hq
    clear hq
    refine wl_un (fun v => Op.unary .not v) (.tmp 45) (.bool true) (.bool false) (fun _ => rfl) rfl (by kernel_rfl) rfl ?_
    refine wl_pick (.tmp 39) (.const (.bool true)) (.tmp 46) false (.bool false) (fun _ => rfl) rfl rfl rfl ?_
    refine w_nil ?_
    refine xn_then ?_
    refine w_condF rfl ?_
    refine w_skip ?_
    refine xn_then ?_
    refine w_reg ?_
    refine wl_mv (.tmp 0) (.string s) (fun _ => rfl) e0 rfl ?_
    refine wl_mv (.tmp 6) (.int .i64 ((k : Nat) : Int)) (fun _ => rfl) e6 rfl ?_
    refine wl_un (fun v => Instr.fieldAt 37 v 1) (.tmp 8) (pt k1 0) (pt k1 1) (fun _ => rfl) rfl (by kernel_rfl) rfl ?_
    refine wl_load 9 (.tmp 50) (pt k1 1) (.string (s.extract k e)) rfl rfl (run_one Q1 9 1 rfl Tryd.underlying9 rfl) rfl ?_
    refine wl_val (.int .i64 ((e - k : Nat) : Int)) (len_e hsz _ _ (by exact rfl) _ _ _ _ _ _) rfl ?_
    refine wl_bin (fun x y => do eqGuard .add 3 (.tmp 49) (.tmp 52) x y; binOp .add 3 x y) (.tmp 49) (.tmp 52) (.int .i64 ((k : Nat) : Int)) (.int .i64 ((e - k : Nat) : Int)) (.int .i64 ((e : Nat) : Int)) (fun _ => rfl) rfl rfl (addk (by omega) (by omega) _ _ _) rfl ?_
    refine wl_call 14 [(.tmp 48), (.tmp 53)] _ [.string s, .int .i64 ((e : Nat) : Int)] (.int .i64 ((blk s e : Nat) : Int)) rfl rfl (fun _ _ => by kernel_rfl) (wk (blank_n s e _ (by unfold maxLen; omega) hes)) rfl ?_
    intro w15 hq
    replace QA := QA.mo hq
    replace Q1 := Q1.mo hq
    replace M := M.trans hq
    clear hq
    refine wl_mv (.tmp 54) (.int .i64 ((blk s e : Nat) : Int)) (fun _ => rfl) rfl rfl ?_
    refine w_nil ?_
    refine xn_blk ?_
    refine xn_then ?_
    refine w_reg ?_
    refine wl_bin (fun x y => do eqGuard .add 3 (.tmp 26) (.const (.int .i64 (1))) x y; binOp .add 3 x y) (.tmp 26) (.const (.int .i64 (1))) (.int .i64 ((D.length : Nat) : Int)) (.int .i64 (1)) (.int .i64 ((D.length + 1 : Nat) : Int)) (fun _ => rfl) e26 rfl (addk (a := D.length) (b := 1) rfl (by omega) _ _ _) rfl ?_
    refine wl_mv (.tmp 55) (.int .i64 ((D.length + 1 : Nat) : Int)) (fun _ => rfl) rfl rfl ?_
    refine w_nil ?_
    exact xn_loop R9.length (by simp) ⟨blk s e, D ++ [[.int .i64 ((K : Nat) : Int), .string (s.extract k e), v0, v1, v2, v3, v4, v5, v6, v7, v8, v9, .int .i64 ((k : Nat) : Int)]], R9, rfl, e0, rfl, e24, e25, by rw [List.length_append]; rfl, (blk_rg s _ e (Nat.le_refl _) hes).2, by have := blk_rg s _ e (Nat.le_refl _) hes; rw [List.length_append]; simp only [List.length_singleton]; omega, by rw [hLD, List.append_assoc]; rfl, hr, fun _ => ⟨g, hpa, QA⟩, M⟩
theorem places_n (s : ByteArray) (w : World) : Calls Tryd.prog 7 #[.string s] w fun e' w' => e' = .returned (.bool true) ∧ Mw w w' := by
  cases hl : decide (16384 < s.size) with
  | true => exact places_x s 0 3 w rfl (fun w => scan_long s w hl)
  | false =>
    have hlp := of_decide_eq_false hl
    obtain ⟨L, p, E, hS, hE⟩ := sc_ex s (by omega) _ (blk s 0) (Nat.le_refl _) (blk_rg s _ 0 (Nat.le_refl _) (by omega)).2
    rcases hE with rfl | rfl
    · exact places_k s L p w hS hl
    · refine places_x s p 70 w rfl (fun w => (scan_n s L p 70 w hS hl).mono fun e' w' ⟨v, h1, _, h3, h4⟩ => ⟨?_, h4⟩)
      rw [h1, h3 (by decide)]
end Go.Proofs.YthgknegocfhdbaaDoor.V
namespace Go.Proofs.YthgknegocfhdbaaDoor
open Go.ChangeShapes Go.WideShapes Go.ChangeAt Go.RowKit Go.ChangeMaps
theorem Tryd.own : ownKnob Tryd.prog.godebug = none := by kernel_rfl
def firstCells : Array Value := #[.int .u8 240, .int .u8 240, .int .u8 240, .int .u8 240, .int .u8 240, .int .u8 240, .int .u8 240, .int .u8 240, .int .u8 240, .int .u8 240, .int .u8 240, .int .u8 240, .int .u8 240, .int .u8 240, .int .u8 240, .int .u8 240, .int .u8 240, .int .u8 240, .int .u8 240, .int .u8 240, .int .u8 240, .int .u8 240, .int .u8 240, .int .u8 240, .int .u8 240, .int .u8 240, .int .u8 240, .int .u8 240, .int .u8 240, .int .u8 240, .int .u8 240, .int .u8 240, .int .u8 240, .int .u8 240, .int .u8 240, .int .u8 240, .int .u8 240, .int .u8 240, .int .u8 240, .int .u8 240, .int .u8 240, .int .u8 240, .int .u8 240, .int .u8 240, .int .u8 240, .int .u8 240, .int .u8 240, .int .u8 240, .int .u8 240, .int .u8 240, .int .u8 240, .int .u8 240, .int .u8 240, .int .u8 240, .int .u8 240, .int .u8 240, .int .u8 240, .int .u8 240, .int .u8 240, .int .u8 240, .int .u8 240, .int .u8 240, .int .u8 240, .int .u8 240, .int .u8 240, .int .u8 240, .int .u8 240, .int .u8 240, .int .u8 240, .int .u8 240, .int .u8 240, .int .u8 240, .int .u8 240, .int .u8 240, .int .u8 240, .int .u8 240, .int .u8 240, .int .u8 240, .int .u8 240, .int .u8 240, .int .u8 240, .int .u8 240, .int .u8 240, .int .u8 240, .int .u8 240, .int .u8 240, .int .u8 240, .int .u8 240, .int .u8 240, .int .u8 240, .int .u8 240, .int .u8 240, .int .u8 240, .int .u8 240, .int .u8 240, .int .u8 240, .int .u8 240, .int .u8 240, .int .u8 240, .int .u8 240, .int .u8 240, .int .u8 240, .int .u8 240, .int .u8 240, .int .u8 240, .int .u8 240, .int .u8 240, .int .u8 240, .int .u8 240, .int .u8 240, .int .u8 240, .int .u8 240, .int .u8 240, .int .u8 240, .int .u8 240, .int .u8 240, .int .u8 240, .int .u8 240, .int .u8 240, .int .u8 240, .int .u8 240, .int .u8 240, .int .u8 240, .int .u8 240, .int .u8 240, .int .u8 240, .int .u8 240, .int .u8 240, .int .u8 241, .int .u8 241, .int .u8 241, .int .u8 241, .int .u8 241, .int .u8 241, .int .u8 241, .int .u8 241, .int .u8 241, .int .u8 241, .int .u8 241, .int .u8 241, .int .u8 241, .int .u8 241, .int .u8 241, .int .u8 241, .int .u8 241, .int .u8 241, .int .u8 241, .int .u8 241, .int .u8 241, .int .u8 241, .int .u8 241, .int .u8 241, .int .u8 241, .int .u8 241, .int .u8 241, .int .u8 241, .int .u8 241, .int .u8 241, .int .u8 241, .int .u8 241, .int .u8 241, .int .u8 241, .int .u8 241, .int .u8 241, .int .u8 241, .int .u8 241, .int .u8 241, .int .u8 241, .int .u8 241, .int .u8 241, .int .u8 241, .int .u8 241, .int .u8 241, .int .u8 241, .int .u8 241, .int .u8 241, .int .u8 241, .int .u8 241, .int .u8 241, .int .u8 241, .int .u8 241, .int .u8 241, .int .u8 241, .int .u8 241, .int .u8 241, .int .u8 241, .int .u8 241, .int .u8 241, .int .u8 241, .int .u8 241, .int .u8 241, .int .u8 241, .int .u8 241, .int .u8 241, .int .u8 2, .int .u8 2, .int .u8 2, .int .u8 2, .int .u8 2, .int .u8 2, .int .u8 2, .int .u8 2, .int .u8 2, .int .u8 2, .int .u8 2, .int .u8 2, .int .u8 2, .int .u8 2, .int .u8 2, .int .u8 2, .int .u8 2, .int .u8 2, .int .u8 2, .int .u8 2, .int .u8 2, .int .u8 2, .int .u8 2, .int .u8 2, .int .u8 2, .int .u8 2, .int .u8 2, .int .u8 2, .int .u8 2, .int .u8 2, .int .u8 19, .int .u8 3, .int .u8 3, .int .u8 3, .int .u8 3, .int .u8 3, .int .u8 3, .int .u8 3, .int .u8 3, .int .u8 3, .int .u8 3, .int .u8 3, .int .u8 3, .int .u8 35, .int .u8 3, .int .u8 3, .int .u8 52, .int .u8 4, .int .u8 4, .int .u8 4, .int .u8 68, .int .u8 241, .int .u8 241, .int .u8 241, .int .u8 241, .int .u8 241, .int .u8 241, .int .u8 241, .int .u8 241, .int .u8 241, .int .u8 241, .int .u8 241]
def acceptCells : Array Value := #[.int .u8 128, .int .u8 191, .int .u8 160, .int .u8 191, .int .u8 128, .int .u8 159, .int .u8 144, .int .u8 191, .int .u8 128, .int .u8 143, .int .u8 0, .int .u8 0, .int .u8 0, .int .u8 0, .int .u8 0, .int .u8 0, .int .u8 0, .int .u8 0, .int .u8 0, .int .u8 0, .int .u8 0, .int .u8 0, .int .u8 0, .int .u8 0, .int .u8 0, .int .u8 0, .int .u8 0, .int .u8 0, .int .u8 0, .int .u8 0, .int .u8 0, .int .u8 0]
def layW (w0 : World) : World :=
  { w0 with heap := (w0.heap.modify 1 fun
      | .cells _ t frozen => .cells firstCells t frozen
      | o => o).modify 2 fun
      | .cells _ t frozen => .cells acceptCells t frozen
      | o => o }
set_option maxRecDepth 100000 in
theorem laidWorld_met (os : Os) (args : Array Value) : laidMetH Tryd.prog Rows.lexPlacesRow.laid ((layW (World.holding Tryd.prog os ⟨#[], #[], []⟩)).forCall (fun _ _ => 0) ⟨#[], args, []⟩).memory := by
  show laidMet Tryd.prog [("unicode/utf8.acceptRanges", Rows.laid_unicode_utf8_acceptRanges), ("unicode/utf8.first", Rows.laid_unicode_utf8_first)] _
  exact (LaidIn.of_run [1, 2] 8 (by kernel_rfl) (by kernel_rfl) (by kernel_rfl) (by kernel_rfl)).met
/-- The end of a row: no argument has memory of its own, nothing that was there has turned. -/
theorem post_mw {H : Type} {enc : TypeId × Value → H} {P : Program} {f : Func} {s : ChangeSpec} {apart fresh handsOn : Bool} {W W' : World} {args : Array Value} {v : Value} {ds gs : List (DataW H)}
    (hW : DataW.Whole enc P f.params.toList s.vars apart W args.toList ds gs [])
    (hres : ∀ (b : Nat) (sp : Nat → Bool) (hd : Bool), DataW.TrodAll enc P W' b sp hd f.resultTypes.toList (v.resultList f.resultTypes.size) (s.fn H (ds ++ gs)).results [])
    (hargs : ∀ sp : Nat → Bool, DataW.TrodAll enc P W' 0 sp true f.params.toList args.toList (s.fn H (ds ++ gs)).args [])
    (hvars : ∀ sp : Nat → Bool, DataW.TrodVars enc P W' sp s.vars (s.fn H (ds ++ gs)).vars []) (hk : V.Mw W W') :
    s.post enc P f apart fresh handsOn false W args v W' :=
  ⟨ds, gs, [], [], [], [], hW, hres _ _ _, hargs _, hvars _, Below.frame hk _, fun h => by cases h⟩
end Go.Proofs.YthgknegocfhdbaaDoor
