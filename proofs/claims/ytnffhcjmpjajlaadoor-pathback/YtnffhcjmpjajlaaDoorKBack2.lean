/-
  A part of the proof.
-/
import Derived.Test.YtnffhcjmpjajlaaDoorKBack1
import Derived.Test.YtnffhcjmpjajlaaDoorKa15
import Derived.Test.YtnffhcjmpjajlaaDoorKa13
import Derived.Test.YtnffhcjmpjajlaaDoorKa11
import Derived.Test.YtnffhcjmpjajlaaDoorKa10
import Derived.Test.YtnffhcjmpjajlaaDoorKa6
import Derived.Test.YtnffhcjmpjajlaaDoorKa5
import Derived.Test.YtnffhcjmpjajlaaDoorKa4
import Derived.Test.YtnffhcjmpjajlaaDoorKa3
import Derived.Test.YtnffhcjmpjajlaaDoorKa2
import Derived.Test.YtnffhcjmpjajlaaDoorKa1
import Derived.RegionTactic
import Derived.Test.YtnffhcjmpjajlaaDoorProg
import Derived.WalkKit
import Derived.WalkSpells
import Derived.Handy
import Derived.BigQuiet
import Derived.Deep.RegionHeld3
import Derived.Deep.MidRow
import Derived.BigCall
import Derived.ChangeKeysEq
import Derived.Shelf.Small.Bits
import Derived.Shelf.Strconv.Itoa0
import Derived.Shelf.Bits.Mul64
import Derived.Deep.CutRange
import Derived.Deep.CutBlock
import Derived.ScopeJumps
import Derived.WalkMore
import Derived.Laws.StructEq
import Derived.Lib.CutLaws
import Derived.Maps.OwnSet
import Derived.WalkArith
import Derived.StringKeys
import Derived.ProofKit
import Derived.OpenShut
import Derived.ChangeArms
import Derived.Deep.Slices
import Derived.ReadAgain
import Derived.WideKeyArgs
import Derived.Maps.AppendAt
import Derived.Test.YtnffhcjmpjajlaaDoorKa9
import Derived.Test.YtnffhcjmpjajlaaDoorKa7
import Derived.Shelf.Strconv.Itoa4
import Derived.Test.YtnffhcjmpjajlaaDoorKa8
import Derived.Lib.IndexBytes
import Derived.Lib.AppendIntMem
import Derived.Lib.ItoaLen
import Derived.Laws.MakeOwn
import Derived.Test.YtnffhcjmpjajlaaDoorKa12
import Derived.Test.YtnffhcjmpjajlaaDoorKa14
namespace Go.Proofs.YtnffhcjmpjajlaaDoor
open Go.RowKit D
theorem cbr_n (k : Int) (w : World) : Calls Tryd.prog 90 #[.int .i64 k] w fun e w' => e = .returned (.bool (cbr k)) ∧ Mo w w' := by
 refine w_enter 9 Tryd.func90 Tryd.ntmps90 rfl rfl ?_
 have M : Mo w w := Mo.refl _
 refine w_seq (w_reg ?_)
 refine wl_m (.const (.bool false)) (.bool false) ?_
 refine w_nil (xn_then (w_seq (w_reg ?_)))
 refine wl_m (.tmp 0) (.int .i64 (k)) ?_
 cases hf0 : decide (k = 1) with
 | true =>
  have hf0p := of_decide_eq_true hf0
  refine wl_b .eql 3 (.tmp 3) (.const (.int .i64 (1))) (.int .i64 (k)) (.int .i64 (1)) (.bool true) (eq3 hf0 _ _ _) ?_
  refine wl_m (.tmp 4) (.bool true) ?_
  refine wl_skip rfl (wl_skip rfl ?_)
  refine wl_pick (.tmp 5) (.const (.bool true)) (.tmp 7) true (.bool true) (fun _ => rfl) rfl rfl rfl ?_
  refine wl_m (.tmp 8) (.bool true) ?_
  refine w_nil (xn_then (w_ret ?_))
  exact w_ret1 _ (.bool true) rfl rfl ⟨by unfold cbr; rw [hf0]; rfl, M⟩
 | false =>
  have hf0p := of_decide_eq_false hf0
  refine wl_b .eql 3 (.tmp 3) (.const (.int .i64 (1))) (.int .i64 (k)) (.int .i64 (1)) (.bool false) (eq3 hf0 _ _ _) ?_
  refine wl_m (.tmp 4) (.bool false) ?_
  refine wl_m (.tmp 0) (.int .i64 (k)) ?_
  cases hf1 : decide (k = 2) with
  | true =>
   have hf1p := of_decide_eq_true hf1
   refine wl_b .eql 3 (.tmp 6) (.const (.int .i64 (2))) (.int .i64 (k)) (.int .i64 (2)) (.bool true) (eq3 hf1 _ _ _) ?_
   refine wl_pick (.tmp 5) (.const (.bool true)) (.tmp 7) false (.bool true) (fun _ => rfl) rfl rfl rfl ?_
   refine wl_m (.tmp 8) (.bool true) ?_
   refine w_nil (xn_then (w_ret ?_))
   exact w_ret1 _ (.bool true) rfl rfl ⟨by unfold cbr; rw [hf0, hf1]; rfl, M⟩
  | false =>
   have hf1p := of_decide_eq_false hf1
   refine wl_b .eql 3 (.tmp 6) (.const (.int .i64 (2))) (.int .i64 (k)) (.int .i64 (2)) (.bool false) (eq3 hf1 _ _ _) ?_
   refine wl_pick (.tmp 5) (.const (.bool true)) (.tmp 7) false (.bool false) (fun _ => rfl) rfl rfl rfl ?_
   refine wl_m (.tmp 8) (.bool false) ?_
   refine w_nil (xn_then (w_ret ?_))
   exact w_ret1 _ (.bool false) rfl rfl ⟨by unfold cbr; rw [hf0, hf1]; rfl, M⟩
theorem has_n {b : Nat} {al : List (ByteArray × Int)} {w : World} (hM : OM w b al) (s : ByteArray) (hz : s.size ≤ maxLen) : Calls Tryd.prog 75 #[.map (some b), .string s] w fun e w' => e = .returned (.bool (lk al s).isSome) ∧ Mo w w' := by
 refine w_enter 14 Tryd.func75 Tryd.ntmps75 rfl rfl ?_
 have M : Mo w w := Mo.refl _
 refine w_seq (w_reg ?_)
 refine wl_m (.const (.bool false)) (.bool false) ?_
 refine w_nil (xn_then (w_seq (w_reg ?_)))
 refine wl_m (.tmp 0) (.map (some b)) ?_
 refine wl_m (.tmp 1) (.string s) ?_
 cases hf0 : (lk al s).isSome with
 | true =>
  refine wl_val (.tuple #[.int .i64 ((lk al s).getD 0), .bool true]) (lkp 108 (.tmp 8) (.tmp 9) true (.map (some b)) (.string s) (.tuple #[.int .i64 ((lk al s).getD 0), .bool true]) rfl rfl rfl (by rw [(hM.mo M).looks hz, hf0])) rfl ?_
  refine wl_m (.tmp 10) (.tuple #[.int .i64 ((lk al s).getD 0), .bool true]) ?_
  refine wl_un (fun v => Instr.extract v 0) (.tmp 7) (.tuple #[.int .i64 ((lk al s).getD 0), .bool true]) (.int .i64 ((lk al s).getD 0)) (fun _ => rfl) rfl (by kernel_rfl) rfl ?_
  refine wl_un (fun v => Instr.extract v 1) (.tmp 7) (.tuple #[.int .i64 ((lk al s).getD 0), .bool true]) (.bool true) (fun _ => rfl) rfl (by kernel_rfl) rfl ?_
  refine wl_m (.tmp 11) (.int .i64 ((lk al s).getD 0)) ?_
  refine wl_m (.tmp 12) (.bool true) ?_
  refine w_nil (xn_then (w_seq (w_reg ?_)))
  refine wl_m (.tmp 6) (.bool true) ?_
  refine wl_m (.tmp 13) (.bool true) ?_
  refine w_nil (xn_then (w_ret ?_))
  exact w_ret1 _ _ rfl rfl ⟨rfl, M⟩
 | false =>
  refine wl_val (.tuple #[.int .i64 ((lk al s).getD 0), .bool false]) (lkp 108 (.tmp 8) (.tmp 9) true (.map (some b)) (.string s) (.tuple #[.int .i64 ((lk al s).getD 0), .bool false]) rfl rfl rfl (by rw [(hM.mo M).looks hz, hf0])) rfl ?_
  refine wl_m (.tmp 10) (.tuple #[.int .i64 ((lk al s).getD 0), .bool false]) ?_
  refine wl_un (fun v => Instr.extract v 0) (.tmp 7) (.tuple #[.int .i64 ((lk al s).getD 0), .bool false]) (.int .i64 ((lk al s).getD 0)) (fun _ => rfl) rfl (by kernel_rfl) rfl ?_
  refine wl_un (fun v => Instr.extract v 1) (.tmp 7) (.tuple #[.int .i64 ((lk al s).getD 0), .bool false]) (.bool false) (fun _ => rfl) rfl (by kernel_rfl) rfl ?_
  refine wl_m (.tmp 11) (.int .i64 ((lk al s).getD 0)) ?_
  refine wl_m (.tmp 12) (.bool false) ?_
  refine w_nil (xn_then (w_seq (w_reg ?_)))
  refine wl_m (.tmp 6) (.bool false) ?_
  refine wl_m (.tmp 13) (.bool false) ?_
  refine w_nil (xn_then (w_ret ?_))
  exact w_ret1 _ _ rfl rfl ⟨rfl, M⟩
abbrev stc (s : ByteArray) : List Value := [.string s]
theorem words_n (w : World) : Calls Tryd.prog 88 #[] w fun e w' => ∃ k, e = .returned (.slice (some ⟨k, 0, none⟩) 33 33) ∧ Mo w w' ∧ SL w' 1 stc (some ⟨k, 0, none⟩) wds := by
 refine w_enter 2 Tryd.func88 Tryd.ntmps88 rfl rfl ?_
 have M : Mo w w := Mo.refl _
 refine w_seq (w_reg ?_)
 refine wl_m (.const (.slice none 0 0)) (.slice none 0 0) ?_
 refine w_nil (xn_then (w_seq (w_reg ?_)))
 refine wl_bs 120 33 [(0, (.const (.string ⟨#[114, 101, 116, 117, 114, 110]⟩))), (1, (.const (.string ⟨#[102, 105, 101, 108, 100]⟩))), (2, (.const (.string ⟨#[108, 105, 110, 101]⟩))), (3, (.const (.string ⟨#[99, 104, 101, 99, 107]⟩))), (4, (.const (.string ⟨#[115, 101, 99, 116, 105, 111, 110]⟩))), (5, (.const (.string ⟨#[116, 97, 98, 108, 101]⟩))), (6, (.const (.string ⟨#[112, 97, 103, 101]⟩))), (7, (.const (.string ⟨#[119, 104, 101, 110]⟩))), (8, (.const (.string ⟨#[109, 97, 120]⟩))), (9, (.const (.string ⟨#[102, 114, 111, 109]⟩))), (10, (.const (.string ⟨#[98, 97, 115, 101]⟩))), (11, (.const (.string ⟨#[114, 97, 116, 101]⟩))), (12, (.const (.string ⟨#[110, 101, 101, 100, 101, 100]⟩))), (13, (.const (.string ⟨#[97, 109, 111, 117, 110, 116]⟩))), (14, (.const (.string ⟨#[102, 108, 97, 103]⟩))), (15, (.const (.string ⟨#[116, 101, 120, 116]⟩))), (16, (.const (.string ⟨#[105, 102]⟩))), (17, (.const (.string ⟨#[114, 111, 117, 110, 100]⟩))), (18, (.const (.string ⟨#[98, 108, 97, 110, 107]⟩))), (19, (.const (.string ⟨#[114, 111, 119, 115]⟩))), (20, (.const (.string ⟨#[115, 117, 109]⟩))), (21, (.const (.string ⟨#[99, 111, 117, 110, 116]⟩))), (22, (.const (.string ⟨#[109, 105, 110]⟩))), (23, (.const (.string ⟨#[97, 110, 100]⟩))), (24, (.const (.string ⟨#[111, 114]⟩))), (25, (.const (.string ⟨#[110, 111, 116]⟩))), (26, (.const (.string ⟨#[116, 114, 117, 101]⟩))), (27, (.const (.string ⟨#[102, 97, 108, 115, 101]⟩))), (28, (.const (.string ⟨#[104, 97, 108, 102, 95, 117, 112]⟩))), (29, (.const (.string ⟨#[104, 97, 108, 102, 95, 101, 118, 101, 110]⟩))), (30, (.const (.string ⟨#[100, 111, 119, 110]⟩))), (31, (.const (.string ⟨#[117, 112]⟩))), (32, (.const (.string ⟨#[102, 108, 111, 111, 114]⟩)))] [(0, .string (⟨#[114, 101, 116, 117, 114, 110]⟩)), (1, .string (⟨#[102, 105, 101, 108, 100]⟩)), (2, .string (⟨#[108, 105, 110, 101]⟩)), (3, .string (⟨#[99, 104, 101, 99, 107]⟩)), (4, .string (⟨#[115, 101, 99, 116, 105, 111, 110]⟩)), (5, .string (⟨#[116, 97, 98, 108, 101]⟩)), (6, .string (⟨#[112, 97, 103, 101]⟩)), (7, .string (⟨#[119, 104, 101, 110]⟩)), (8, .string (⟨#[109, 97, 120]⟩)), (9, .string (⟨#[102, 114, 111, 109]⟩)), (10, .string (⟨#[98, 97, 115, 101]⟩)), (11, .string (⟨#[114, 97, 116, 101]⟩)), (12, .string (⟨#[110, 101, 101, 100, 101, 100]⟩)), (13, .string (⟨#[97, 109, 111, 117, 110, 116]⟩)), (14, .string (⟨#[102, 108, 97, 103]⟩)), (15, .string (⟨#[116, 101, 120, 116]⟩)), (16, .string (⟨#[105, 102]⟩)), (17, .string (⟨#[114, 111, 117, 110, 100]⟩)), (18, .string (⟨#[98, 108, 97, 110, 107]⟩)), (19, .string (⟨#[114, 111, 119, 115]⟩)), (20, .string (⟨#[115, 117, 109]⟩)), (21, .string (⟨#[99, 111, 117, 110, 116]⟩)), (22, .string (⟨#[109, 105, 110]⟩)), (23, .string (⟨#[97, 110, 100]⟩)), (24, .string (⟨#[111, 114]⟩)), (25, .string (⟨#[110, 111, 116]⟩)), (26, .string (⟨#[116, 114, 117, 101]⟩)), (27, .string (⟨#[102, 97, 108, 115, 101]⟩)), (28, .string (⟨#[104, 97, 108, 102, 95, 117, 112]⟩)), (29, .string (⟨#[104, 97, 108, 102, 95, 101, 118, 101, 110]⟩)), (30, .string (⟨#[100, 111, 119, 110]⟩)), (31, .string (⟨#[117, 112]⟩)), (32, .string (⟨#[102, 108, 111, 111, 114]⟩))] #[.string (⟨#[114, 101, 116, 117, 114, 110]⟩), .string (⟨#[102, 105, 101, 108, 100]⟩), .string (⟨#[108, 105, 110, 101]⟩), .string (⟨#[99, 104, 101, 99, 107]⟩), .string (⟨#[115, 101, 99, 116, 105, 111, 110]⟩), .string (⟨#[116, 97, 98, 108, 101]⟩), .string (⟨#[112, 97, 103, 101]⟩), .string (⟨#[119, 104, 101, 110]⟩), .string (⟨#[109, 97, 120]⟩), .string (⟨#[102, 114, 111, 109]⟩), .string (⟨#[98, 97, 115, 101]⟩), .string (⟨#[114, 97, 116, 101]⟩), .string (⟨#[110, 101, 101, 100, 101, 100]⟩), .string (⟨#[97, 109, 111, 117, 110, 116]⟩), .string (⟨#[102, 108, 97, 103]⟩), .string (⟨#[116, 101, 120, 116]⟩), .string (⟨#[105, 102]⟩), .string (⟨#[114, 111, 117, 110, 100]⟩), .string (⟨#[98, 108, 97, 110, 107]⟩), .string (⟨#[114, 111, 119, 115]⟩), .string (⟨#[115, 117, 109]⟩), .string (⟨#[99, 111, 117, 110, 116]⟩), .string (⟨#[109, 105, 110]⟩), .string (⟨#[97, 110, 100]⟩), .string (⟨#[111, 114]⟩), .string (⟨#[110, 111, 116]⟩), .string (⟨#[116, 114, 117, 101]⟩), .string (⟨#[102, 97, 108, 115, 101]⟩), .string (⟨#[104, 97, 108, 102, 95, 117, 112]⟩), .string (⟨#[104, 97, 108, 102, 95, 101, 118, 101, 110]⟩), .string (⟨#[100, 111, 119, 110]⟩), .string (⟨#[117, 112]⟩), .string (⟨#[102, 108, 111, 111, 114]⟩)] 9 rfl rfl (fun _ => by kernel_rfl) rfl ?_
 intro k1 w1 hk hz hq Q1
 have N_k1 : w.heap.size ≤ k1 := by have := M.size; omega
 replace M := M.trans hq
 clear hk hz hq
 refine wl_m (.tmp 1) (.slice (some ⟨k1, 0, none⟩) 33 33) ?_
 refine w_nil (xn_then (w_ret ?_))
 exact w_ret1 _ (.slice (some ⟨k1, 0, none⟩) 33 33) rfl rfl ⟨k1, rfl, M, SL.of_at (n := 1) (cells := stc) (L := wds) (fun _ => rfl) (by decide) (by exact Q1)⟩
theorem any_take {α : Type} {f : α → Bool} {L : List α} {i : Nat} {x : α} (h : (L.take i).any f = false) (hx : L[i]? = some x) (hf : f x = false) : (L.take (i + 1)).any f = false := by
 rw [List.take_add_one, hx, List.any_append, h]
 simp [hf]
theorem any_hit {α : Type} {f : α → Bool} {L : List α} {i : Nat} {x : α} (hx : L[i]? = some x) (hf : f x = true) : L.any f = true := List.any_eq_true.2 ⟨x, List.mem_of_getElem? hx, hf⟩
theorem any_all {α : Type} {f : α → Bool} {L : List α} {i : Nat} (h : (L.take i).any f = false) (hi : i = L.length) : L.any f = false := by rw [hi, List.take_length] at h; exact h
theorem index_n {w : World} {pa : Option Addr} {c : Nat} {L : List ByteArray} (hS : SL w 1 stc pa L) (s : ByteArray) : Calls Tryd.prog 93 #[.slice pa L.length c, .string s] w fun e w' => ∃ r : Int, e = .returned (.int .i64 r) ∧ decide (0 ≤ r) = L.any (fun x => decide (s = x)) ∧ Mo w w' := by
 refine w_enter 19 Tryd.func93 Tryd.ntmps93 rfl rfl ?_
 have M : Mo w w := Mo.refl _
 refine w_seq (w_reg ?_)
 refine wl_m (.const (.int .i64 (0))) (.int .i64 (0)) ?_
 refine w_nil (xn_then (w_seq (w_seq (w_reg ?_))))
 refine wl_m (.tmp 0) (.slice pa L.length c) ?_
 refine wl_val (.int .i64 ((L.length : Nat) : Int)) (len120 _ _ _ _ _ (by exact rfl) _ _ _ _ _ _) rfl ?_
 refine wl_m (.const (.int .i64 (0))) (.int .i64 (0)) ?_
 refine w_nil (xn_then (w_block ?_))
 have hz := hS.1
 unfold maxLen at hz
 refine w_loop (fun m l w1 => ∃ i : Nat, m = L.length - i ∧ i ≤ L.length ∧ look l 0 = .slice pa L.length c ∧ look l 1 = .string s ∧ look l 7 = .int .i64 ((L.length : Nat) : Int) ∧ look l 8 = .int .i64 ((i : Nat) : Int) ∧ (L.take i).any (fun x => decide (s = x)) = false ∧ Mo w w1) _ ⟨0, rfl, Nat.zero_le _, rfl, rfl, rfl, rfl, rfl, M⟩ ?_
 clear M
 rintro m l40 wl40 ⟨i, rfl, hi, e40_0, e40_1, e40_7, e40_i, hT, M⟩
 by_cases hil : i < L.length
 ·skip
  have hid : decide (i < L.length) = true := decide_eq_true hil
  obtain ⟨x, hx⟩ := get_of_lt hil
  obtain ⟨b1, o1, hp1, hR1⟩ := D.SL.rw hS hx
  refine w_seq (w_reg ?_)
  refine wl_bin (fun x y => do eqGuard .lss 3 (.tmp 8) (.tmp 7) x y; binOp .lss 3 x y) (.tmp 8) (.tmp 7) (.int .i64 ((i : Nat) : Int)) (.int .i64 ((L.length : Nat) : Int)) (.bool true) (fun _ => rfl) e40_i e40_7 (ltN hid _ _ _) rfl ?_
  refine w_nil (xn_then (w_seq (w_condT rfl (w_skip (xn_then (w_seq (w_block (w_seq (w_reg ?_)))))))))
  refine wl_mv (.tmp 8) (.int .i64 ((i : Nat) : Int)) (fun _ => rfl) e40_i rfl ?_
  refine wl_m (.tmp 10) (.int .i64 ((i : Nat) : Int)) ?_
  refine w_nil (xn_then (w_seq (w_reg ?_)))
  refine wl_mv (.tmp 1) (.string s) (fun _ => rfl) e40_1 rfl ?_
  refine wl_mv (.tmp 0) (.slice pa L.length c) (fun _ => rfl) e40_0 rfl ?_
  refine wl_m (.tmp 5) (.int .i64 ((i : Nat) : Int)) ?_
  refine wl_bin (fun x y => Instr.indexAt 120 x y) (.tmp 12) (.tmp 13) (.slice pa L.length c) (.int .i64 ((i : Nat) : Int)) (pt b1 (o1 + i * 1)) (fun _ => rfl) rfl rfl (ix120 (i := i) hp1 hil _) rfl ?_
  refine wl_l 9 (.tmp 14) (pt b1 (o1 + i * 1)) (.string x) (D.run_oneR (hR1.mo M).at' 9 0 rfl Tryd.underlying9 rfl) ?_
  cases hf30 : decide (s = x) with
  | true =>
   have hf30p := of_decide_eq_true hf30
   refine wl_b .eql 9 (.tmp 11) (.tmp 15) (.string s) (.string x) (.bool true) (s9 hf30 _ _ _) ?_
   refine w_nil (xn_then (w_condT rfl (w_seq (w_reg ?_))))
   refine wl_m (.tmp 5) (.int .i64 ((i : Nat) : Int)) ?_
   refine wl_m (.tmp 17) (.int .i64 ((i : Nat) : Int)) ?_
   refine w_nil (xn_then (w_ret (xr_blk (xr_then (xr_then (xr_blk (xr_then ?_)))))))
   exact w_ret1 _ (.int .i64 ((i : Nat) : Int)) rfl rfl ⟨_, rfl, (decide_eq_true (by omega)).trans (any_hit (f := fun x => decide (s = x)) hx hf30).symm, M⟩
  | false =>
   have hf30p := of_decide_eq_false hf30
   refine wl_b .eql 9 (.tmp 11) (.tmp 15) (.string s) (.string x) (.bool false) (s9 hf30 _ _ _) ?_
   refine w_nil (xn_then (w_condF rfl (w_skip (xn_blk (xn_then (w_reg ?_))))))
   refine wl_bin (fun x y => do eqGuard .add 3 (.tmp 8) (.const (.int .i64 (1))) x y; binOp .add 3 x y) (.tmp 8) (.const (.int .i64 (1))) (.int .i64 ((i : Nat) : Int)) (.int .i64 (1)) (.int .i64 ((i + 1 : Nat) : Int)) (fun _ => rfl) e40_i rfl (add1r (k := i) (by omega) _ _ _) rfl ?_
   refine wl_m (.tmp 18) (.int .i64 ((i + 1 : Nat) : Int)) ?_
   refine w_nil ?_
   exact xn_loop (L.length - (i + 1)) (by omega) ⟨i + 1, rfl, by omega, e40_0, e40_1, e40_7, rfl, any_take hT hx hf30, M⟩
 ·skip
  have hid : decide (i < L.length) = false := decide_eq_false hil
  have hie : i = L.length := by omega
  refine w_seq (w_reg ?_)
  refine wl_bin (fun x y => do eqGuard .lss 3 (.tmp 8) (.tmp 7) x y; binOp .lss 3 x y) (.tmp 8) (.tmp 7) (.int .i64 ((i : Nat) : Int)) (.int .i64 ((L.length : Nat) : Int)) (.bool false) (fun _ => rfl) e40_i e40_7 (ltN hid _ _ _) rfl ?_
  refine w_nil (xn_then (w_seq (w_condF rfl (w_exit (xx_then (xx_then (xx_blk (xn_then (w_seq (w_reg ?_))))))))))
  refine wl_m (.const (.int .i64 (-1))) (.int .i64 (-1)) ?_
  refine w_nil (xn_then (w_ret ?_))
  exact w_ret1 _ (.int .i64 (-1)) rfl rfl ⟨_, rfl, (any_all hT hie).symm, M⟩
theorem contains_n {w : World} {pa : Option Addr} {c : Nat} {L : List ByteArray} (hS : SL w 1 stc pa L) (s : ByteArray) : Calls Tryd.prog 87 #[.slice pa L.length c, .string s] w fun e w' => e = .returned (.bool (L.any (fun x => decide (s = x)))) ∧ Mo w w' := by
 refine w_enter 9 Tryd.func87 Tryd.ntmps87 rfl rfl ?_
 have M : Mo w w := Mo.refl _
 refine w_seq (w_reg ?_)
 refine wl_m (.const (.bool false)) (.bool false) ?_
 refine w_nil (xn_then (w_seq (w_reg ?_)))
 refine wl_m (.tmp 0) (.slice pa L.length c) ?_
 refine wl_m (.tmp 1) (.string s) ?_
 refine wl_callx 93 [(.tmp 5), (.tmp 6)] _ [.slice pa L.length c, .string s] rfl rfl (fun _ _ => by kernel_rfl) (index_n hS s) rfl ?_
 rintro e9 w1 ⟨r, rfl, hr, hq⟩
 refine ⟨_, rfl, ?_⟩
 replace M := M.trans hq
 cases hf0 : decide (0 ≤ r) with
 | true =>
  have hf0p := of_decide_eq_true hf0
  refine wl_b .geq 3 (.tmp 7) (.const (.int .i64 (0))) (.int .i64 (r)) (.int .i64 (0)) (.bool true) (ge3 hf0 _ _ _) ?_
  refine wl_m (.tmp 8) (.bool true) ?_
  refine w_nil (xn_then (w_ret ?_))
  exact w_ret1 _ (.bool true) rfl rfl ⟨by rw [← hr, hf0], M⟩
 | false =>
  have hf0p := of_decide_eq_false hf0
  refine wl_b .geq 3 (.tmp 7) (.const (.int .i64 (0))) (.int .i64 (r)) (.int .i64 (0)) (.bool false) (ge3 hf0 _ _ _) ?_
  refine wl_m (.tmp 8) (.bool false) ?_
  refine w_nil (xn_then (w_ret ?_))
  exact w_ret1 _ (.bool false) rfl rfl ⟨by rw [← hr, hf0], M⟩
theorem reserved_n (s : ByteArray) (w : World) : Calls Tryd.prog 74 #[.string s] w fun e w' => e = .returned (.bool (rsv s)) ∧ Mo w w' := by
 refine w_enter 6 Tryd.func74 Tryd.ntmps74 rfl rfl ?_
 have M : Mo w w := Mo.refl _
 refine w_seq (w_reg ?_)
 refine wl_m (.const (.bool false)) (.bool false) ?_
 refine w_nil (xn_then (w_seq (w_reg ?_)))
 refine wl_callx 88 [] _ [] rfl rfl (fun _ _ => by kernel_rfl) (words_n _) rfl ?_
 rintro e9 w1 ⟨kw, rfl, hq, hSw⟩
 refine ⟨_, rfl, ?_⟩
 replace M := M.trans hq
 refine wl_m (.tmp 0) (.string s) ?_
 cases hf0 : rsv s with
 | true =>
  refine wl_call 87 [(.tmp 3), (.tmp 4)] _ [.slice (some ⟨kw, 0, none⟩) 33 33, .string s] (.bool true) rfl rfl (fun _ _ => by kernel_rfl) (cB hf0 (contains_n (L := wds) (by exact hSw) s)) rfl ?_
  intro w2 hq
  replace M := M.trans hq
  clear hq
  refine wl_m (.tmp 5) (.bool true) ?_
  refine w_nil (xn_then (w_ret ?_))
  exact w_ret1 _ _ rfl rfl ⟨rfl, M⟩
 | false =>
  refine wl_call 87 [(.tmp 3), (.tmp 4)] _ [.slice (some ⟨kw, 0, none⟩) 33 33, .string s] (.bool false) rfl rfl (fun _ _ => by kernel_rfl) (cB hf0 (contains_n (L := wds) (by exact hSw) s)) rfl ?_
  intro w2 hq
  replace M := M.trans hq
  clear hq
  refine wl_m (.tmp 5) (.bool false) ?_
  refine w_nil (xn_then (w_ret ?_))
  exact w_ret1 _ _ rfl rfl ⟨rfl, M⟩
theorem may_n (s : ByteArray) (w : World) : Calls Tryd.prog 58 #[.string s] w fun e w' => e = .returned (.bool (may s)) ∧ Mo w w' := by
 refine w_enter 10 Tryd.func58 Tryd.ntmps58 rfl rfl ?_
 have M : Mo w w := Mo.refl _
 refine w_seq (w_reg ?_)
 refine wl_m (.const (.bool false)) (.bool false) ?_
 refine w_nil (xn_then (w_seq (w_reg ?_)))
 refine wl_m (.tmp 0) (.string s) ?_
 cases hf0 : nam s with
 | true =>
  refine wl_call 73 [(.tmp 3)] _ [.string s] (.bool true) rfl rfl (fun _ _ => by kernel_rfl) (cB hf0 (name_n s _)) rfl ?_
  intro w1 hq
  replace M := M.trans hq
  clear hq
  refine wl_m (.tmp 4) (.bool true) ?_
  refine wl_m (.tmp 0) (.string s) ?_
  cases hf1 : rsv s with
  | true =>
   refine wl_call 74 [(.tmp 6)] _ [.string s] (.bool true) rfl rfl (fun _ _ => by kernel_rfl) (cB hf1 (reserved_n s _)) rfl ?_
   intro w2 hq
   replace M := M.trans hq
   clear hq
   refine wl_un (fun v => Op.unary .not v) (.tmp 7) (.bool true) (.bool false) (fun _ => rfl) rfl (by kernel_rfl) rfl ?_
   refine wl_pick (.tmp 5) (.tmp 8) (.const (.bool false)) true (.bool false) (fun _ => rfl) rfl rfl rfl ?_
   refine wl_m (.tmp 9) (.bool false) ?_
   refine w_nil (xn_then (w_ret ?_))
   exact w_ret1 _ (.bool false) rfl rfl ⟨by unfold may; rw [hf0, hf1]; rfl, M⟩
  | false =>
   refine wl_call 74 [(.tmp 6)] _ [.string s] (.bool false) rfl rfl (fun _ _ => by kernel_rfl) (cB hf1 (reserved_n s _)) rfl ?_
   intro w2 hq
   replace M := M.trans hq
   clear hq
   refine wl_un (fun v => Op.unary .not v) (.tmp 7) (.bool false) (.bool true) (fun _ => rfl) rfl (by kernel_rfl) rfl ?_
   refine wl_pick (.tmp 5) (.tmp 8) (.const (.bool false)) true (.bool true) (fun _ => rfl) rfl rfl rfl ?_
   refine wl_m (.tmp 9) (.bool true) ?_
   refine w_nil (xn_then (w_ret ?_))
   exact w_ret1 _ (.bool true) rfl rfl ⟨by unfold may; rw [hf0, hf1]; rfl, M⟩
 | false =>
  refine wl_call 73 [(.tmp 3)] _ [.string s] (.bool false) rfl rfl (fun _ _ => by kernel_rfl) (cB hf0 (name_n s _)) rfl ?_
  intro w1 hq
  replace M := M.trans hq
  clear hq
  refine wl_m (.tmp 4) (.bool false) ?_
  refine wl_skip rfl (wl_skip rfl (wl_skip rfl ?_))
  refine wl_pick (.tmp 5) (.tmp 8) (.const (.bool false)) false (.bool false) (fun _ => rfl) rfl rfl rfl ?_
  refine wl_m (.tmp 9) (.bool false) ?_
  refine w_nil (xn_then (w_ret ?_))
  exact w_ret1 _ (.bool false) rfl rfl ⟨by unfold may; rw [hf0]; rfl, M⟩
theorem may_sz {s : ByteArray} (h : may s = true) : s.size ≤ 32 := by
 unfold may nam at h
 simp at h
 omega
end Go.Proofs.YtnffhcjmpjajlaaDoor

namespace Go.Proofs.YtnffhcjmpjajlaaDoor
open Go.RowKit D
theorem taken_n {w : World} {z : Zc} {A : Al} (hC : CK w z A) (s : Nat) (hs : s < z.L.length) (nm : ByteArray) (hz : nm.size ≤ maxLen) : Calls Tryd.prog 78 #[pt z.cb 0, .int .i64 ((s : Nat) : Int), .string nm] w fun e w' => e = .returned (.bool (tkn z.L A.I s nm)) ∧ Mo w w' := by
 refine w_enter 38 Tryd.func78 Tryd.ntmps78 rfl rfl ?_
 have M : Mo w w := Mo.refl _
 refine w_seq (w_reg ?_)
 refine wl_m (.const (.bool false)) (.bool false) ?_
 refine w_nil (xn_then (w_seq (w_block ?_)))
 refine w_loop (fun m l w1 => ∃ (a : Int) (R : List Nat), m = R.length ∧ look l 0 = pt z.cb 0 ∧ look l 1 = .int .i64 (a) ∧ look l 2 = .string nm ∧ Up z.L a R ∧ tkn z.L A.I s nm = R.any (fun a => decide (nmO z.L a = nm) || (lk (A.I a) nm).isSome) ∧ Mo w w1) _ ⟨((s : Nat) : Int), anc z.L s, rfl, rfl, rfl, rfl, Up.start hs, rfl, M⟩ ?_
 clear M
 rintro m l wl ⟨a, R, rfl, e0, e1, e2, hU, hT, M⟩
 rcases hU with ⟨ha, rfl⟩ | ⟨k, rfl, hk, rfl⟩
 ·skip
  have h0 : decide (0 ≤ a) = false := decide_eq_false (by omega)
  refine w_seq (w_seq (w_reg ?_))
  refine wl_mv (.tmp 1) (.int .i64 (a)) (fun _ => rfl) e1 rfl ?_
  refine wl_b .geq 3 (.tmp 7) (.const (.int .i64 (0))) (.int .i64 (a)) (.int .i64 (0)) (.bool false) (ge3 h0 _ _ _) ?_
  refine w_nil (xn_then (w_condF rfl (w_exit (xx_then (xx_then (xx_blk (xn_then (w_seq (w_reg ?_)))))))))
  refine wl_m (.const (.bool false)) (.bool false) ?_
  refine w_nil (xn_then (w_ret ?_))
  exact w_ret1 _ (.bool false) rfl rfl ⟨by rw [hT]; rfl, M⟩
 ·skip
  have h0 : decide (0 ≤ ((k : Nat) : Int)) = true := decide_eq_true (by omega)
  obtain ⟨x, hx⟩ := get_of_lt hk
  obtain ⟨R, hR, hU⟩ := anc_step hC.wf hx
  rw [hR] at hT ⊢
  have hnm := nmO_of hx
  have hkm : k < z.MI.length := by rw [hC.lm]; exact hk
  obtain ⟨mb, hmb⟩ := get_of_lt hkm
  have hO := hC.oi k mb hmb
  obtain ⟨b1, o1, hp1, hR1⟩ := D.SL.rw hC.ls hx
  obtain ⟨b2, o2, hp2, hR2⟩ := D.SL.rw hC.mi hmb
  refine w_seq (w_seq (w_reg ?_))
  refine wl_mv (.tmp 1) (.int .i64 ((k : Nat) : Int)) (fun _ => rfl) e1 rfl ?_
  refine wl_b .geq 3 (.tmp 7) (.const (.int .i64 (0))) (.int .i64 ((k : Nat) : Int)) (.int .i64 (0)) (.bool true) (ge3 h0 _ _ _) ?_
  refine w_nil (xn_then (w_condT rfl (w_skip (xn_then (w_seq (w_block (w_seq (w_reg ?_))))))))
  refine wl_mv (.tmp 0) (pt z.cb 0) (fun _ => rfl) e0 rfl ?_
  refine wl_nc (.tmp 17) z.cb 0 rfl rfl rfl ?_
  refine wl_f 111 1 (.tmp 18) (pt z.cb 0) (pt z.cb 7) ?_
  refine wl_l 22 (.tmp 19) (pt z.cb 7) (.slice z.sp z.L.length z.sc) (D.run_oneR (hC.rw.mo M).at' 22 7 rfl Tryd.underlying22 rfl) ?_
  refine wl_mv (.tmp 1) (.int .i64 ((k : Nat) : Int)) (fun _ => rfl) e1 rfl ?_
  refine wl_bin (fun x y => Instr.indexAt 22 x y) (.tmp 20) (.tmp 21) (.slice z.sp z.L.length z.sc) (.int .i64 ((k : Nat) : Int)) (pt b1 (o1 + k * 5)) (fun _ => rfl) rfl rfl (ix22 (i := k) hp1 hk _) rfl ?_
  refine wl_f 65 2 (.tmp 22) (pt b1 (o1 + k * 5)) (pt b1 (o1 + k * 5 + 2)) ?_
  refine wl_l 9 (.tmp 23) (pt b1 (o1 + k * 5 + 2)) (.string x.nm) (D.run_oneR (hR1.mo M).at' 9 2 rfl Tryd.underlying9 rfl) ?_
  refine wl_mv (.tmp 2) (.string nm) (fun _ => rfl) e2 rfl ?_
  cases hf20 : decide (x.nm = nm) with
  | true =>
   have hf20p := of_decide_eq_true hf20
   refine wl_b .eql 9 (.tmp 24) (.tmp 25) (.string x.nm) (.string nm) (.bool true) (s9 hf20 _ _ _) ?_
   refine wl_m (.tmp 26) (.bool true) ?_
   refine wl_skip rfl (wl_skip rfl (wl_skip rfl (wl_skip rfl (wl_skip rfl (wl_skip rfl (wl_skip rfl (wl_skip rfl (wl_skip rfl ?_))))))))
   refine wl_pick (.tmp 27) (.const (.bool true)) (.tmp 36) true (.bool true) (fun _ => rfl) rfl rfl rfl ?_
   refine w_nil (xn_then (w_condT rfl (w_seq (w_reg ?_))))
   refine wl_m (.const (.bool true)) (.bool true) ?_
   refine w_nil (xn_then (w_ret (xr_blk (xr_then (xr_then (xr_blk (xr_then ?_)))))))
   exact w_ret1 _ (.bool true) rfl rfl ⟨by rw [hT, List.any_cons, hnm, hf20]; rfl, M⟩
  | false =>
   have hf20p := of_decide_eq_false hf20
   refine wl_b .eql 9 (.tmp 24) (.tmp 25) (.string x.nm) (.string nm) (.bool false) (s9 hf20 _ _ _) ?_
   refine wl_m (.tmp 26) (.bool false) ?_
   refine wl_mv (.tmp 0) (pt z.cb 0) (fun _ => rfl) e0 rfl ?_
   refine wl_nc (.tmp 28) z.cb 0 rfl rfl rfl ?_
   refine wl_f 111 3 (.tmp 29) (pt z.cb 0) (pt z.cb 9) ?_
   refine wl_l 109 (.tmp 30) (pt z.cb 9) (.slice z.ip z.MI.length z.ic) (D.run_oneR (hC.rw.mo M).at' 109 9 rfl Tryd.underlying109 rfl) ?_
   refine wl_mv (.tmp 1) (.int .i64 ((k : Nat) : Int)) (fun _ => rfl) e1 rfl ?_
   refine wl_bin (fun x y => Instr.indexAt 109 x y) (.tmp 31) (.tmp 32) (.slice z.ip z.MI.length z.ic) (.int .i64 ((k : Nat) : Int)) (pt b2 (o2 + k * 1)) (fun _ => rfl) rfl rfl (ix109 (i := k) hp2 hkm _) rfl ?_
   refine wl_l 108 (.tmp 33) (pt b2 (o2 + k * 1)) (.map (some mb)) (D.run_oneR (hR2.mo M).at' 108 0 rfl Tryd.underlying108 rfl) ?_
   refine wl_mv (.tmp 2) (.string nm) (fun _ => rfl) e2 rfl ?_
   cases hf21 : (lk (A.I k) nm).isSome with
   | true =>
    refine wl_call 75 [(.tmp 34), (.tmp 35)] _ [.map (some mb), .string nm] (.bool true) rfl rfl (fun _ _ => by kernel_rfl) (cB hf21 (has_n (hO.mo M) nm hz)) rfl ?_
    intro w21 hq
    replace M := M.trans hq
    clear hq
    refine wl_pick (.tmp 27) (.const (.bool true)) (.tmp 36) false (.bool true) (fun _ => rfl) rfl rfl rfl ?_
    refine w_nil (xn_then (w_condT rfl (w_seq (w_reg ?_))))
    refine wl_m (.const (.bool true)) (.bool true) ?_
    refine w_nil (xn_then (w_ret (xr_blk (xr_then (xr_then (xr_blk (xr_then ?_)))))))
    exact w_ret1 _ (.bool true) rfl rfl ⟨by rw [hT, List.any_cons, hnm, hf20, hf21]; rfl, M⟩
   | false =>
    refine wl_call 75 [(.tmp 34), (.tmp 35)] _ [.map (some mb), .string nm] (.bool false) rfl rfl (fun _ _ => by kernel_rfl) (cB hf21 (has_n (hO.mo M) nm hz)) rfl ?_
    intro w21 hq
    replace M := M.trans hq
    clear hq
    refine wl_pick (.tmp 27) (.const (.bool true)) (.tmp 36) false (.bool false) (fun _ => rfl) rfl rfl rfl ?_
    refine w_nil (xn_then (w_condF rfl (w_skip (xn_blk (xn_then (w_reg ?_))))))
    refine wl_mv (.tmp 0) (pt z.cb 0) (fun _ => rfl) e0 rfl ?_
    refine wl_nc (.tmp 9) z.cb 0 rfl rfl rfl ?_
    refine wl_f 111 1 (.tmp 10) (pt z.cb 0) (pt z.cb 7) ?_
    refine wl_l 22 (.tmp 11) (pt z.cb 7) (.slice z.sp z.L.length z.sc) (D.run_oneR (hC.rw.mo M).at' 22 7 rfl Tryd.underlying22 rfl) ?_
    refine wl_mv (.tmp 1) (.int .i64 ((k : Nat) : Int)) (fun _ => rfl) e1 rfl ?_
    refine wl_bin (fun x y => Instr.indexAt 22 x y) (.tmp 12) (.tmp 13) (.slice z.sp z.L.length z.sc) (.int .i64 ((k : Nat) : Int)) (pt b1 (o1 + k * 5)) (fun _ => rfl) rfl rfl (ix22 (i := k) hp1 hk _) rfl ?_
    refine wl_f 65 0 (.tmp 14) (pt b1 (o1 + k * 5)) (pt b1 (o1 + k * 5)) ?_
    refine wl_l 3 (.tmp 15) (pt b1 (o1 + k * 5)) (.int .i64 (x.pr)) (D.run_oneR (hR1.mo M).at' 3 0 rfl Tryd.underlying3 rfl) ?_
    refine wl_m (.tmp 16) (.int .i64 (x.pr)) ?_
    refine w_nil ?_
    exact xn_loop R.length (by simp) ⟨_, R, rfl, e0, rfl, e2, hU, by rw [hT, List.any_cons, hnm, hf20, hf21]; rfl, M⟩
theorem finds_n {w : World} {z : Zc} {A : Al} (hC : CK w z A) (s : Nat) (hs : s < z.L.length) (nm : ByteArray) (hz : nm.size ≤ maxLen) : Calls Tryd.prog 89 #[pt z.cb 0, .int .i64 ((s : Nat) : Int), .string nm] w fun e w' => e = .returned (.bool (fnd z.L A.I s nm)) ∧ Mo w w' := by
 refine w_enter 27 Tryd.func89 Tryd.ntmps89 rfl rfl ?_
 have M : Mo w w := Mo.refl _
 refine w_seq (w_reg ?_)
 refine wl_m (.const (.bool false)) (.bool false) ?_
 refine w_nil (xn_then (w_seq (w_block ?_)))
 refine w_loop (fun m l w1 => ∃ (a : Int) (R : List Nat), m = R.length ∧ look l 0 = pt z.cb 0 ∧ look l 1 = .int .i64 (a) ∧ look l 2 = .string nm ∧ Up z.L a R ∧ fnd z.L A.I s nm = R.any (fun a => cbr ((lk (A.I a) nm).getD 0)) ∧ Mo w w1) _ ⟨((s : Nat) : Int), anc z.L s, rfl, rfl, rfl, rfl, Up.start hs, rfl, M⟩ ?_
 clear M
 rintro m l wl ⟨a, R, rfl, e0, e1, e2, hU, hT, M⟩
 rcases hU with ⟨ha, rfl⟩ | ⟨k, rfl, hk, rfl⟩
 ·skip
  have h0 : decide (0 ≤ a) = false := decide_eq_false (by omega)
  refine w_seq (w_seq (w_reg ?_))
  refine wl_mv (.tmp 1) (.int .i64 (a)) (fun _ => rfl) e1 rfl ?_
  refine wl_b .geq 3 (.tmp 7) (.const (.int .i64 (0))) (.int .i64 (a)) (.int .i64 (0)) (.bool false) (ge3 h0 _ _ _) ?_
  refine w_nil (xn_then (w_condF rfl (w_exit (xx_then (xx_then (xx_blk (xn_then (w_seq (w_reg ?_)))))))))
  refine wl_m (.const (.bool false)) (.bool false) ?_
  refine w_nil (xn_then (w_ret ?_))
  exact w_ret1 _ (.bool false) rfl rfl ⟨by rw [hT]; rfl, M⟩
 ·skip
  have h0 : decide (0 ≤ ((k : Nat) : Int)) = true := decide_eq_true (by omega)
  obtain ⟨x, hx⟩ := get_of_lt hk
  obtain ⟨R, hR, hU⟩ := anc_step hC.wf hx
  rw [hR] at hT ⊢
  have hnm := nmO_of hx
  have hkm : k < z.MI.length := by rw [hC.lm]; exact hk
  obtain ⟨mb, hmb⟩ := get_of_lt hkm
  have hO := hC.oi k mb hmb
  obtain ⟨b1, o1, hp1, hR1⟩ := D.SL.rw hC.ls hx
  obtain ⟨b2, o2, hp2, hR2⟩ := D.SL.rw hC.mi hmb
  refine w_seq (w_seq (w_reg ?_))
  refine wl_mv (.tmp 1) (.int .i64 ((k : Nat) : Int)) (fun _ => rfl) e1 rfl ?_
  refine wl_b .geq 3 (.tmp 7) (.const (.int .i64 (0))) (.int .i64 ((k : Nat) : Int)) (.int .i64 (0)) (.bool true) (ge3 h0 _ _ _) ?_
  refine w_nil (xn_then (w_condT rfl (w_skip (xn_then (w_seq (w_block (w_seq (w_reg ?_))))))))
  refine wl_mv (.tmp 0) (pt z.cb 0) (fun _ => rfl) e0 rfl ?_
  refine wl_nc (.tmp 17) z.cb 0 rfl rfl rfl ?_
  refine wl_f 111 3 (.tmp 18) (pt z.cb 0) (pt z.cb 9) ?_
  refine wl_l 109 (.tmp 19) (pt z.cb 9) (.slice z.ip z.MI.length z.ic) (D.run_oneR (hC.rw.mo M).at' 109 9 rfl Tryd.underlying109 rfl) ?_
  refine wl_mv (.tmp 1) (.int .i64 ((k : Nat) : Int)) (fun _ => rfl) e1 rfl ?_
  refine wl_bin (fun x y => Instr.indexAt 109 x y) (.tmp 20) (.tmp 21) (.slice z.ip z.MI.length z.ic) (.int .i64 ((k : Nat) : Int)) (pt b2 (o2 + k * 1)) (fun _ => rfl) rfl rfl (ix109 (i := k) hp2 hkm _) rfl ?_
  refine wl_l 108 (.tmp 22) (pt b2 (o2 + k * 1)) (.map (some mb)) (D.run_oneR (hR2.mo M).at' 108 0 rfl Tryd.underlying108 rfl) ?_
  refine wl_mv (.tmp 2) (.string nm) (fun _ => rfl) e2 rfl ?_
  refine wl_val (.int .i64 ((lk (A.I k) nm).getD 0)) (lkp 108 (.tmp 23) (.tmp 24) false (.map (some mb)) (.string nm) (.int .i64 ((lk (A.I k) nm).getD 0)) rfl rfl rfl ((hO.mo M).look hz)) rfl ?_
  cases hf20 : cbr ((lk (A.I k) nm).getD 0) with
  | true =>
   refine wl_call 90 [(.tmp 25)] _ [.int .i64 ((lk (A.I k) nm).getD 0)] (.bool true) rfl rfl (fun _ _ => by kernel_rfl) (cB hf20 (cbr_n _ _)) rfl ?_
   intro w21 hq
   replace M := M.trans hq
   clear hq
   refine w_nil (xn_then (w_condT rfl (w_seq (w_reg ?_))))
   refine wl_m (.const (.bool true)) (.bool true) ?_
   refine w_nil (xn_then (w_ret (xr_blk (xr_then (xr_then (xr_blk (xr_then ?_)))))))
   exact w_ret1 _ (.bool true) rfl rfl ⟨by rw [hT, List.any_cons, hf20]; rfl, M⟩
  | false =>
   refine wl_call 90 [(.tmp 25)] _ [.int .i64 ((lk (A.I k) nm).getD 0)] (.bool false) rfl rfl (fun _ _ => by kernel_rfl) (cB hf20 (cbr_n _ _)) rfl ?_
   intro w21 hq
   replace M := M.trans hq
   clear hq
   refine w_nil (xn_then (w_condF rfl (w_skip (xn_blk (xn_then (w_reg ?_))))))
   refine wl_mv (.tmp 0) (pt z.cb 0) (fun _ => rfl) e0 rfl ?_
   refine wl_nc (.tmp 9) z.cb 0 rfl rfl rfl ?_
   refine wl_f 111 1 (.tmp 10) (pt z.cb 0) (pt z.cb 7) ?_
   refine wl_l 22 (.tmp 11) (pt z.cb 7) (.slice z.sp z.L.length z.sc) (D.run_oneR (hC.rw.mo M).at' 22 7 rfl Tryd.underlying22 rfl) ?_
   refine wl_mv (.tmp 1) (.int .i64 ((k : Nat) : Int)) (fun _ => rfl) e1 rfl ?_
   refine wl_bin (fun x y => Instr.indexAt 22 x y) (.tmp 12) (.tmp 13) (.slice z.sp z.L.length z.sc) (.int .i64 ((k : Nat) : Int)) (pt b1 (o1 + k * 5)) (fun _ => rfl) rfl rfl (ix22 (i := k) hp1 hk _) rfl ?_
   refine wl_f 65 0 (.tmp 14) (pt b1 (o1 + k * 5)) (pt b1 (o1 + k * 5)) ?_
   refine wl_l 3 (.tmp 15) (pt b1 (o1 + k * 5)) (.int .i64 (x.pr)) (D.run_oneR (hR1.mo M).at' 3 0 rfl Tryd.underlying3 rfl) ?_
   refine wl_m (.tmp 16) (.int .i64 (x.pr)) ?_
   refine w_nil ?_
   exact xn_loop R.length (by simp) ⟨_, R, rfl, e0, rfl, e2, hU, by rw [hT, List.any_cons, hf20]; rfl, M⟩
theorem knows_n {w : World} {z : Zc} {A : Al} (hC : CK w z A) (s : Nat) (hs : s < z.L.length) (x : Ex) (hL : LEx w x) : Calls Tryd.prog 79 #[pt z.cb 0, .int .i64 ((s : Nat) : Int), .agg (x.cells).toArray] w fun e w' => e = .returned (.bool (kno z.L A s x)) ∧ Mo w w' := by
 refine w_enter 61 Tryd.func79 Tryd.ntmps79 rfl rfl ?_
 have M : Mo w w := Mo.refl _
 refine w_seq (w_reg ?_)
 refine wl_box 77 (.tmp 2) _ (((x.cells).toArray)) rfl rfl (fun _ => by kernel_rfl) rfl ?_
 intro k1 w1 hk hz hq Q1
 have N_k1 : w.heap.size ≤ k1 := by have := M.size; omega
 replace M := M.trans hq
 clear hk hz hq
 refine wl_m (.const (.bool false)) (.bool false) ?_
 refine w_nil (xn_then (w_seq (w_seq (w_reg ?_))))
 refine wl_f 77 0 (.tmp 5) (pt k1 0) (pt k1 0) ?_
 refine wl_l 3 (.tmp 9) (pt k1 0) (.int .i64 (x.k)) (run_one Q1 3 0 rfl Tryd.underlying3 rfl) ?_
 refine w_nil (xn_then (w_block (w_seq (w_reg ?_))))
 cases hf0 : decide (x.k = 2) with
 | true =>
  have hf0p := of_decide_eq_true hf0
  refine wl_b .eql 3 (.tmp 10) (.const (.int .i64 (2))) (.int .i64 (x.k)) (.int .i64 (2)) (.bool true) (eq3 hf0 _ _ _) ?_
  refine wl_m (.tmp 12) (.bool true) ?_
  refine w_nil (xn_then (w_condT rfl (w_seq (w_reg ?_))))
  refine wl_m (.tmp 0) (pt z.cb 0) ?_
  refine wl_m (.tmp 1) (.int .i64 ((s : Nat) : Int)) ?_
  refine wl_f 77 2 (.tmp 5) (pt k1 0) (pt k1 2) ?_
  refine wl_l 9 (.tmp 15) (pt k1 2) (.string x.nm) (run_one Q1 9 2 rfl Tryd.underlying9 rfl) ?_
  cases hf1 : fnd z.L A.I s x.nm with
  | true =>
   refine wl_call 89 [(.tmp 13), (.tmp 14), (.tmp 16)] _ [pt z.cb 0, .int .i64 ((s : Nat) : Int), .string x.nm] (.bool true) rfl rfl (fun _ _ => by kernel_rfl) (cB hf1 (finds_n (hC.mo M) s hs x.nm hL.nm)) rfl ?_
   intro w2 hq
   replace Q1 := Q1.mo hq
   replace M := M.trans hq
   clear hq
   refine wl_m (.tmp 17) (.bool true) ?_
   refine w_nil (xn_then (w_ret (xr_blk (xr_then ?_))))
   exact w_ret1 _ (.bool true) rfl rfl ⟨by unfold kno; rw [if_pos hf0p, hf1], M⟩
  | false =>
   refine wl_call 89 [(.tmp 13), (.tmp 14), (.tmp 16)] _ [pt z.cb 0, .int .i64 ((s : Nat) : Int), .string x.nm] (.bool false) rfl rfl (fun _ _ => by kernel_rfl) (cB hf1 (finds_n (hC.mo M) s hs x.nm hL.nm)) rfl ?_
   intro w2 hq
   replace Q1 := Q1.mo hq
   replace M := M.trans hq
   clear hq
   refine wl_m (.tmp 17) (.bool false) ?_
   refine w_nil (xn_then (w_ret (xr_blk (xr_then ?_))))
   exact w_ret1 _ (.bool false) rfl rfl ⟨by unfold kno; rw [if_pos hf0p, hf1], M⟩
 | false =>
  have hf0p := of_decide_eq_false hf0
  refine wl_b .eql 3 (.tmp 10) (.const (.int .i64 (2))) (.int .i64 (x.k)) (.int .i64 (2)) (.bool false) (eq3 hf0 _ _ _) ?_
  refine wl_m (.tmp 12) (.bool false) ?_
  refine w_nil (xn_then (w_condF rfl (w_seq (w_reg ?_))))
  cases hf1 : decide (x.k = 10) with
  | true =>
   have hf1p := of_decide_eq_true hf1
   refine wl_b .eql 3 (.tmp 10) (.const (.int .i64 (10))) (.int .i64 (x.k)) (.int .i64 (10)) (.bool true) (eq3 hf1 _ _ _) ?_
   refine wl_m (.tmp 19) (.bool true) ?_
   refine w_nil (xn_then (w_condT rfl (w_seq ?_)))
   have hsk : s < z.KI.length := by rw [hC.lk]; exact hs
   obtain ⟨kb, hkb⟩ := get_of_lt hsk
   have hKo := hC.ok s kb hkb
   obtain ⟨b1, o1, hp1, hR1⟩ := D.SL.rw hC.ki hkb
   cases hf2 : (lk (A.K s) x.se).isSome with
   | true =>
    refine w_any 14 [.inl (pt z.cb 0), .inl (pt z.cb 0), .inl (pt z.cb 10), .inl (.slice z.kp z.KI.length z.kc), .inl (.int .i64 ((s : Nat) : Int)), .inl (pt b1 (o1 + s * 1)), .inl (.map (some kb)), .inl (pt k1 3), .inl (.string x.se), .inl (.tuple #[.int .i64 ((lk (A.K s) x.se).getD 0), .bool true]), .inl (.tuple #[.int .i64 ((lk (A.K s) x.se).getD 0), .bool true]), .inl (.int .i64 ((lk (A.K s) x.se).getD 0)), .inl (.bool true), .inl (.int .i64 ((lk (A.K s) x.se).getD 0))] [] (by kernel_rfl) (by kernel_rfl) (by kernel_rfl) (by kernel_rfl) rfl (by kernel_rfl) (by kernel_rfl) late_nil ?_ ?_ ?_
    ·exact Ds.none rfl
    ·refine ea_cons ?_ (ea_cons ?_ (ea_cons ?_ (ea_cons ?_ (ea_cons ?_ (ea_cons ?_ (ea_cons ?_ (ea_cons ?_ (ea_cons ?_ (ea_cons ?_ (ea_cons ?_ (ea_cons ?_ (ea_cons ?_ (ea_cons ?_ (ea_nil))))))))))))))
     ·exact og_eq _ rfl (fun f wf hq hd K hK => go_run rfl (wo_mv (.tmp 0) (pt z.cb 0) (fun _ => rfl) rfl (hK _ (Mo.refl _))))
     ·exact og_eq _ rfl (fun f wf hq hd K hK => go_run rfl (wo_nc (.tmp 21) z.cb 0 rfl (hd 0 rfl) (hK _ (Mo.refl _))))
     ·exact og_eq _ rfl (fun f wf hq hd K hK => go_run rfl (wo_un (fun v => Instr.fieldAt 111 v 4) (.tmp 22) (pt z.cb 0) (pt z.cb 10) (fun _ => rfl) (hd 1 rfl) (by kernel_rfl) (hK _ (Mo.refl _))))
     ·exact og_eq _ rfl (fun f wf hq hd K hK => go_run rfl (wo_load 109 (.tmp 23) (pt z.cb 10) (.slice z.kp z.KI.length z.kc) rfl (hd 2 rfl) (D.run_oneR (hC.rw.mo (M.trans hq)).at' 109 10 rfl Tryd.underlying109 rfl) (hK _ (Mo.refl _))))
     ·exact og_eq _ rfl (fun f wf hq hd K hK => go_run rfl (wo_mv (.tmp 1) (.int .i64 ((s : Nat) : Int)) (fun _ => rfl) rfl (hK _ (Mo.refl _))))
     ·exact og_eq _ rfl (fun f wf hq hd K hK => go_run rfl (wo_bin (fun x y => Instr.indexAt 109 x y) (.tmp 24) (.tmp 25) (.slice z.kp z.KI.length z.kc) (.int .i64 ((s : Nat) : Int)) (pt b1 (o1 + s * 1)) (fun _ => rfl) (hd 3 rfl) (hd 4 rfl) (ix109 (i := s) hp1 hsk _) (hK _ (Mo.refl _))))
     ·exact og_eq _ rfl (fun f wf hq hd K hK => go_run rfl (wo_load 108 (.tmp 26) (pt b1 (o1 + s * 1)) (.map (some kb)) rfl (hd 5 rfl) (D.run_oneR (hR1.mo (M.trans hq)).at' 108 0 rfl Tryd.underlying108 rfl) (hK _ (Mo.refl _))))
     ·exact og_eq _ rfl (fun f wf hq hd K hK => go_run rfl (wo_un (fun v => Instr.fieldAt 77 v 3) (.tmp 5) (pt k1 0) (pt k1 3) (fun _ => rfl) rfl (by kernel_rfl) (hK _ (Mo.refl _))))
     ·exact og_eq _ rfl (fun f wf hq hd K hK => have Q1 := Q1.mo hq; go_run rfl (wo_load 9 (.tmp 28) (pt k1 3) (.string x.se) rfl (hd 7 rfl) (run_one Q1 9 3 rfl Tryd.underlying9 rfl) (hK _ (Mo.refl _))))
     ·exact og_eq _ rfl (fun f wf hq hd K hK => go_run rfl (wo_val (.tuple #[.int .i64 ((lk (A.K s) x.se).getD 0), .bool true]) (lkp 108 (.tmp 27) (.tmp 29) true (.map (some kb)) (.string x.se) (.tuple #[.int .i64 ((lk (A.K s) x.se).getD 0), .bool true]) rfl (hd 6 rfl) (hd 8 rfl) (by rw [(hKo.mo (M.trans hq)).looks hL.se, hf2])) (hK _ (Mo.refl _))))
     ·exact og_eq _ rfl (fun f wf hq hd K hK => go_run rfl (wo_mv (.tmp 30) (.tuple #[.int .i64 ((lk (A.K s) x.se).getD 0), .bool true]) (fun _ => rfl) (hd 9 rfl) (hK _ (Mo.refl _))))
     ·exact og_eq _ rfl (fun f wf hq hd K hK => go_run rfl (wo_un (fun v => Instr.extract v 0) (.tmp 20) (.tuple #[.int .i64 ((lk (A.K s) x.se).getD 0), .bool true]) (.int .i64 ((lk (A.K s) x.se).getD 0)) (fun _ => rfl) (hd 10 rfl) (by kernel_rfl) (hK _ (Mo.refl _))))
     ·exact og_eq _ rfl (fun f wf hq hd K hK => go_run rfl (wo_un (fun v => Instr.extract v 1) (.tmp 20) (.tuple #[.int .i64 ((lk (A.K s) x.se).getD 0), .bool true]) (.bool true) (fun _ => rfl) (hd 10 rfl) (by kernel_rfl) (hK _ (Mo.refl _))))
     ·exact og_eq _ rfl (fun f wf hq hd K hK => go_run rfl (wo_mv (.tmp 31) (.int .i64 ((lk (A.K s) x.se).getD 0)) (fun _ => rfl) (hd 11 rfl) (hK _ (Mo.refl _))))
    intro kf2 w2 hq hR hne
    replace Q1 := Q1.mo hq
    replace M := M.trans hq
    clear hq hR hne
    refine wl_m (.tmp 32) (.bool true) ?_
    refine w_nil (xn_then (w_seq ?_))
    obtain ⟨kk, hkk⟩ := Option.isSome_iff_exists.1 hf2
    obtain ⟨p9, hp9, hq9⟩ := lk_mem hkk
    have hkr := hC.kr s p9 hp9
    rw [hq9] at hkr
    have hkn : kk.toNat < z.MI.length := by rw [hC.lm]; omega
    obtain ⟨ib, hib⟩ := get_of_lt hkn
    have hIo := hC.oi _ ib hib
    have hkc : (lk (A.K s) x.se).getD 0 = ((kk.toNat : Nat) : Int) := by rw [hkk]; show kk = _; omega
    obtain ⟨b2, o2, hp2, hR2⟩ := D.SL.rw hC.mi hib
    have hkv : ∀ {v : Value}, v = .int .i64 ((lk (A.K s) x.se).getD 0) → v = .int .i64 ((kk.toNat : Nat) : Int) := fun e => by rw [e, hkc]
    cases hf3 : decide (x.op = 16) with
    | true =>
     have hf3p := of_decide_eq_true hf3
     refine w_any 15 [.inl (.bool true), .inl (.bool true), .inl (pt k1 1), .inl (.int .i64 (x.op)), .inl (.bool true), .inl (.bool true), .inl undef, .inl undef, .inl undef, .inl undef, .inl undef, .inl undef, .inl undef, .inl undef, .inl undef] [] (by kernel_rfl) (by kernel_rfl) (by kernel_rfl) (by kernel_rfl) rfl (by kernel_rfl) (by kernel_rfl) late_nil ?_ ?_ ?_
     ·exact Ds.none rfl
     ·refine ea_cons ?_ (ea_cons ?_ (ea_cons ?_ (ea_cons ?_ (ea_cons ?_ (ea_cons ?_ (ea_cons ?_ (ea_cons ?_ (ea_cons ?_ (ea_cons ?_ (ea_cons ?_ (ea_cons ?_ (ea_cons ?_ (ea_cons ?_ (ea_cons ?_ (ea_nil)))))))))))))))
      ·exact og_eq _ rfl (fun f wf hq hd K hK => go_run rfl (wo_mv (.tmp 8) (.bool true) (fun _ => rfl) rfl (hK _ (Mo.refl _))))
      ·exact og_eq _ rfl (fun f wf hq hd K hK => go_run rfl (wo_mv (.tmp 33) (.bool true) (fun _ => rfl) (hd 0 rfl) (hK _ (Mo.refl _))))
      ·exact og_eq _ rfl (fun f wf hq hd K hK => go_run (wnt_g rfl rfl rfl (hd 1 rfl) rfl) (wo_un (fun v => Instr.fieldAt 77 v 1) (.tmp 5) (pt k1 0) (pt k1 1) (fun _ => rfl) rfl (by kernel_rfl) (hK _ (Mo.refl _))))
      ·exact og_eq _ rfl (fun f wf hq hd K hK => have Q1 := Q1.mo hq; go_run (wnt_g rfl rfl rfl (hd 1 rfl) rfl) (wo_load 3 (.tmp 35) (pt k1 1) (.int .i64 (x.op)) rfl (hd 2 rfl) (run_one Q1 3 1 rfl Tryd.underlying3 rfl) (hK _ (Mo.refl _))))
      ·exact og_eq _ rfl (fun f wf hq hd K hK => go_run (wnt_g rfl rfl rfl (hd 1 rfl) rfl) (wo_bin (fun x y => do eqGuard .eql 3 (.tmp 36) (.const (.int .i64 (16))) x y; binOp .eql 3 x y) (.tmp 36) (.const (.int .i64 (16))) (.int .i64 (x.op)) (.int .i64 (16)) (.bool true) (fun _ => rfl) (hd 3 rfl) rfl (eq3 hf3 _ _ _) (hK _ (Mo.refl _))))
      ·exact og_eq _ rfl (fun f wf hq hd K hK => go_run (wnt_g rfl rfl rfl (hd 1 rfl) rfl) (wo_mv (.tmp 37) (.bool true) (fun _ => rfl) (hd 4 rfl) (hK _ (Mo.refl _))))
      ·exact og_eq _ rfl (fun f wf hq hd K hK => go_pass (wnt_g rfl rfl rfl (hd 5 rfl) rfl) (hK _ (Mo.refl _)))
      ·exact og_eq _ rfl (fun f wf hq hd K hK => go_pass (wnt_g rfl rfl rfl (hd 5 rfl) rfl) (hK _ (Mo.refl _)))
      ·exact og_eq _ rfl (fun f wf hq hd K hK => go_pass (wnt_g rfl rfl rfl (hd 5 rfl) rfl) (hK _ (Mo.refl _)))
      ·exact og_eq _ rfl (fun f wf hq hd K hK => go_pass (wnt_g rfl rfl rfl (hd 5 rfl) rfl) (hK _ (Mo.refl _)))
      ·exact og_eq _ rfl (fun f wf hq hd K hK => go_pass (wnt_g rfl rfl rfl (hd 5 rfl) rfl) (hK _ (Mo.refl _)))
      ·exact og_eq _ rfl (fun f wf hq hd K hK => go_pass (wnt_g rfl rfl rfl (hd 5 rfl) rfl) (hK _ (Mo.refl _)))
      ·exact og_eq _ rfl (fun f wf hq hd K hK => go_pass (wnt_g rfl rfl rfl (hd 5 rfl) rfl) (hK _ (Mo.refl _)))
      ·exact og_eq _ rfl (fun f wf hq hd K hK => go_pass (wnt_g rfl rfl rfl (hd 5 rfl) rfl) (hK _ (Mo.refl _)))
      ·exact og_eq _ rfl (fun f wf hq hd K hK => go_pass (wnt_g rfl rfl rfl (hd 5 rfl) rfl) (hK _ (Mo.refl _)))
     intro kf3 w3 hq hR hne
     replace Q1 := Q1.mo hq
     replace M := M.trans hq
     clear hq hR hne
     refine wl_skip rfl (wl_skip rfl ?_)
     refine wl_pick (.tmp 38) (.const (.bool true)) (.tmp 49) true (.bool true) (fun _ => rfl) rfl rfl rfl ?_
     refine wl_pick (.tmp 34) (.tmp 50) (.const (.bool false)) true (.bool true) (fun _ => rfl) rfl rfl rfl ?_
     refine wl_m (.tmp 51) (.bool true) ?_
     refine w_nil (xn_then (w_ret (xr_blk (xr_then ?_))))
     exact w_ret1 _ (.bool true) rfl rfl ⟨by unfold kno; rw [if_neg hf0p, if_pos hf1p]; simp [hf3, hkk], M⟩
    | false =>
     have hf3p := of_decide_eq_false hf3
     cases hf4 : cbr ((lk (A.I kk.toNat) x.nm).getD 0) with
     | true =>
      refine w_any 15 [.inl (.bool true), .inl (.bool true), .inl (pt k1 1), .inl (.int .i64 (x.op)), .inl (.bool false), .inl (.bool false), .inl (pt z.cb 0), .inl (pt z.cb 0), .inl (pt z.cb 9), .inl (.slice z.ip z.MI.length z.ic), .inl (.int .i64 ((kk.toNat : Nat) : Int)), .inl (pt b2 (o2 + kk.toNat * 1)), .inl (.map (some ib)), .inl (pt k1 2), .inl (.string x.nm)] [] (by kernel_rfl) (by kernel_rfl) (by kernel_rfl) (by kernel_rfl) rfl (by kernel_rfl) (by kernel_rfl) late_nil ?_ ?_ ?_
      ·exact Ds.none rfl
      ·refine ea_cons ?_ (ea_cons ?_ (ea_cons ?_ (ea_cons ?_ (ea_cons ?_ (ea_cons ?_ (ea_cons ?_ (ea_cons ?_ (ea_cons ?_ (ea_cons ?_ (ea_cons ?_ (ea_cons ?_ (ea_cons ?_ (ea_cons ?_ (ea_cons ?_ (ea_nil)))))))))))))))
       ·exact og_eq _ rfl (fun f wf hq hd K hK => go_run rfl (wo_mv (.tmp 8) (.bool true) (fun _ => rfl) rfl (hK _ (Mo.refl _))))
       ·exact og_eq _ rfl (fun f wf hq hd K hK => go_run rfl (wo_mv (.tmp 33) (.bool true) (fun _ => rfl) (hd 0 rfl) (hK _ (Mo.refl _))))
       ·exact og_eq _ rfl (fun f wf hq hd K hK => go_run (wnt_g rfl rfl rfl (hd 1 rfl) rfl) (wo_un (fun v => Instr.fieldAt 77 v 1) (.tmp 5) (pt k1 0) (pt k1 1) (fun _ => rfl) rfl (by kernel_rfl) (hK _ (Mo.refl _))))
       ·exact og_eq _ rfl (fun f wf hq hd K hK => have Q1 := Q1.mo hq; go_run (wnt_g rfl rfl rfl (hd 1 rfl) rfl) (wo_load 3 (.tmp 35) (pt k1 1) (.int .i64 (x.op)) rfl (hd 2 rfl) (run_one Q1 3 1 rfl Tryd.underlying3 rfl) (hK _ (Mo.refl _))))
       ·exact og_eq _ rfl (fun f wf hq hd K hK => go_run (wnt_g rfl rfl rfl (hd 1 rfl) rfl) (wo_bin (fun x y => do eqGuard .eql 3 (.tmp 36) (.const (.int .i64 (16))) x y; binOp .eql 3 x y) (.tmp 36) (.const (.int .i64 (16))) (.int .i64 (x.op)) (.int .i64 (16)) (.bool false) (fun _ => rfl) (hd 3 rfl) rfl (eq3 hf3 _ _ _) (hK _ (Mo.refl _))))
       ·exact og_eq _ rfl (fun f wf hq hd K hK => go_run (wnt_g rfl rfl rfl (hd 1 rfl) rfl) (wo_mv (.tmp 37) (.bool false) (fun _ => rfl) (hd 4 rfl) (hK _ (Mo.refl _))))
       ·exact og_eq _ rfl (fun f wf hq hd K hK => go_run (wnt_g rfl rfl rfl (hd 5 rfl) rfl) (wo_mv (.tmp 0) (pt z.cb 0) (fun _ => rfl) rfl (hK _ (Mo.refl _))))
       ·exact og_eq _ rfl (fun f wf hq hd K hK => go_run (wnt_g rfl rfl rfl (hd 5 rfl) rfl) (wo_nc (.tmp 39) z.cb 0 rfl (hd 6 rfl) (hK _ (Mo.refl _))))
       ·exact og_eq _ rfl (fun f wf hq hd K hK => go_run (wnt_g rfl rfl rfl (hd 5 rfl) rfl) (wo_un (fun v => Instr.fieldAt 111 v 3) (.tmp 40) (pt z.cb 0) (pt z.cb 9) (fun _ => rfl) (hd 7 rfl) (by kernel_rfl) (hK _ (Mo.refl _))))
       ·exact og_eq _ rfl (fun f wf hq hd K hK => go_run (wnt_g rfl rfl rfl (hd 5 rfl) rfl) (wo_load 109 (.tmp 41) (pt z.cb 9) (.slice z.ip z.MI.length z.ic) rfl (hd 8 rfl) (D.run_oneR (hC.rw.mo (M.trans hq)).at' 109 9 rfl Tryd.underlying109 rfl) (hK _ (Mo.refl _))))
       ·exact og_eq _ rfl (fun f wf hq hd K hK => go_run (wnt_g rfl rfl rfl (hd 5 rfl) rfl) (wo_mv (.tmp 7) (.int .i64 ((kk.toNat : Nat) : Int)) (fun _ => rfl) (hkv rfl) (hK _ (Mo.refl _))))
       ·exact og_eq _ rfl (fun f wf hq hd K hK => go_run (wnt_g rfl rfl rfl (hd 5 rfl) rfl) (wo_bin (fun x y => Instr.indexAt 109 x y) (.tmp 42) (.tmp 43) (.slice z.ip z.MI.length z.ic) (.int .i64 ((kk.toNat : Nat) : Int)) (pt b2 (o2 + kk.toNat * 1)) (fun _ => rfl) (hd 9 rfl) (hd 10 rfl) (ix109 (i := kk.toNat) hp2 hkn _) (hK _ (Mo.refl _))))
       ·exact og_eq _ rfl (fun f wf hq hd K hK => go_run (wnt_g rfl rfl rfl (hd 5 rfl) rfl) (wo_load 108 (.tmp 44) (pt b2 (o2 + kk.toNat * 1)) (.map (some ib)) rfl (hd 11 rfl) (D.run_oneR (hR2.mo (M.trans hq)).at' 108 0 rfl Tryd.underlying108 rfl) (hK _ (Mo.refl _))))
       ·exact og_eq _ rfl (fun f wf hq hd K hK => go_run (wnt_g rfl rfl rfl (hd 5 rfl) rfl) (wo_un (fun v => Instr.fieldAt 77 v 2) (.tmp 5) (pt k1 0) (pt k1 2) (fun _ => rfl) rfl (by kernel_rfl) (hK _ (Mo.refl _))))
       ·exact og_eq _ rfl (fun f wf hq hd K hK => have Q1 := Q1.mo hq; go_run (wnt_g rfl rfl rfl (hd 5 rfl) rfl) (wo_load 9 (.tmp 46) (pt k1 2) (.string x.nm) rfl (hd 13 rfl) (run_one Q1 9 2 rfl Tryd.underlying9 rfl) (hK _ (Mo.refl _))))
      intro kf3 w3 hq hR hne
      replace Q1 := Q1.mo hq
      replace M := M.trans hq
      clear hq hR hne
      refine wl_val (.int .i64 ((lk (A.I kk.toNat) x.nm).getD 0)) (lkp 108 (.tmp 45) (.tmp 47) false (.map (some ib)) (.string x.nm) (.int .i64 ((lk (A.I kk.toNat) x.nm).getD 0)) rfl rfl rfl ((hIo.mo M).look hL.nm)) rfl ?_
      refine wl_call 90 [(.tmp 48)] _ [.int .i64 ((lk (A.I kk.toNat) x.nm).getD 0)] (.bool true) rfl rfl (fun _ _ => by kernel_rfl) (cB hf4 (cbr_n _ _)) rfl ?_
      intro w4 hq
      replace Q1 := Q1.mo hq
      replace M := M.trans hq
      clear hq
      refine wl_pick (.tmp 38) (.const (.bool true)) (.tmp 49) false (.bool true) (fun _ => rfl) rfl rfl rfl ?_
      refine wl_pick (.tmp 34) (.tmp 50) (.const (.bool false)) true (.bool true) (fun _ => rfl) rfl rfl rfl ?_
      refine wl_m (.tmp 51) (.bool true) ?_
      refine w_nil (xn_then (w_ret (xr_blk (xr_then ?_))))
      exact w_ret1 _ (.bool true) rfl rfl ⟨by unfold kno; rw [if_neg hf0p, if_pos hf1p]; simp [hf3, hf4, hkk], M⟩
     | false =>
      refine w_any 15 [.inl (.bool true), .inl (.bool true), .inl (pt k1 1), .inl (.int .i64 (x.op)), .inl (.bool false), .inl (.bool false), .inl (pt z.cb 0), .inl (pt z.cb 0), .inl (pt z.cb 9), .inl (.slice z.ip z.MI.length z.ic), .inl (.int .i64 ((kk.toNat : Nat) : Int)), .inl (pt b2 (o2 + kk.toNat * 1)), .inl (.map (some ib)), .inl (pt k1 2), .inl (.string x.nm)] [] (by kernel_rfl) (by kernel_rfl) (by kernel_rfl) (by kernel_rfl) rfl (by kernel_rfl) (by kernel_rfl) late_nil ?_ ?_ ?_
      ·exact Ds.none rfl
      ·refine ea_cons ?_ (ea_cons ?_ (ea_cons ?_ (ea_cons ?_ (ea_cons ?_ (ea_cons ?_ (ea_cons ?_ (ea_cons ?_ (ea_cons ?_ (ea_cons ?_ (ea_cons ?_ (ea_cons ?_ (ea_cons ?_ (ea_cons ?_ (ea_cons ?_ (ea_nil)))))))))))))))
       ·exact og_eq _ rfl (fun f wf hq hd K hK => go_run rfl (wo_mv (.tmp 8) (.bool true) (fun _ => rfl) rfl (hK _ (Mo.refl _))))
       ·exact og_eq _ rfl (fun f wf hq hd K hK => go_run rfl (wo_mv (.tmp 33) (.bool true) (fun _ => rfl) (hd 0 rfl) (hK _ (Mo.refl _))))
       ·exact og_eq _ rfl (fun f wf hq hd K hK => go_run (wnt_g rfl rfl rfl (hd 1 rfl) rfl) (wo_un (fun v => Instr.fieldAt 77 v 1) (.tmp 5) (pt k1 0) (pt k1 1) (fun _ => rfl) rfl (by kernel_rfl) (hK _ (Mo.refl _))))
       ·exact og_eq _ rfl (fun f wf hq hd K hK => have Q1 := Q1.mo hq; go_run (wnt_g rfl rfl rfl (hd 1 rfl) rfl) (wo_load 3 (.tmp 35) (pt k1 1) (.int .i64 (x.op)) rfl (hd 2 rfl) (run_one Q1 3 1 rfl Tryd.underlying3 rfl) (hK _ (Mo.refl _))))
       ·exact og_eq _ rfl (fun f wf hq hd K hK => go_run (wnt_g rfl rfl rfl (hd 1 rfl) rfl) (wo_bin (fun x y => do eqGuard .eql 3 (.tmp 36) (.const (.int .i64 (16))) x y; binOp .eql 3 x y) (.tmp 36) (.const (.int .i64 (16))) (.int .i64 (x.op)) (.int .i64 (16)) (.bool false) (fun _ => rfl) (hd 3 rfl) rfl (eq3 hf3 _ _ _) (hK _ (Mo.refl _))))
       ·exact og_eq _ rfl (fun f wf hq hd K hK => go_run (wnt_g rfl rfl rfl (hd 1 rfl) rfl) (wo_mv (.tmp 37) (.bool false) (fun _ => rfl) (hd 4 rfl) (hK _ (Mo.refl _))))
       ·exact og_eq _ rfl (fun f wf hq hd K hK => go_run (wnt_g rfl rfl rfl (hd 5 rfl) rfl) (wo_mv (.tmp 0) (pt z.cb 0) (fun _ => rfl) rfl (hK _ (Mo.refl _))))
       ·exact og_eq _ rfl (fun f wf hq hd K hK => go_run (wnt_g rfl rfl rfl (hd 5 rfl) rfl) (wo_nc (.tmp 39) z.cb 0 rfl (hd 6 rfl) (hK _ (Mo.refl _))))
       ·exact og_eq _ rfl (fun f wf hq hd K hK => go_run (wnt_g rfl rfl rfl (hd 5 rfl) rfl) (wo_un (fun v => Instr.fieldAt 111 v 3) (.tmp 40) (pt z.cb 0) (pt z.cb 9) (fun _ => rfl) (hd 7 rfl) (by kernel_rfl) (hK _ (Mo.refl _))))
       ·exact og_eq _ rfl (fun f wf hq hd K hK => go_run (wnt_g rfl rfl rfl (hd 5 rfl) rfl) (wo_load 109 (.tmp 41) (pt z.cb 9) (.slice z.ip z.MI.length z.ic) rfl (hd 8 rfl) (D.run_oneR (hC.rw.mo (M.trans hq)).at' 109 9 rfl Tryd.underlying109 rfl) (hK _ (Mo.refl _))))
       ·exact og_eq _ rfl (fun f wf hq hd K hK => go_run (wnt_g rfl rfl rfl (hd 5 rfl) rfl) (wo_mv (.tmp 7) (.int .i64 ((kk.toNat : Nat) : Int)) (fun _ => rfl) (hkv rfl) (hK _ (Mo.refl _))))
       ·exact og_eq _ rfl (fun f wf hq hd K hK => go_run (wnt_g rfl rfl rfl (hd 5 rfl) rfl) (wo_bin (fun x y => Instr.indexAt 109 x y) (.tmp 42) (.tmp 43) (.slice z.ip z.MI.length z.ic) (.int .i64 ((kk.toNat : Nat) : Int)) (pt b2 (o2 + kk.toNat * 1)) (fun _ => rfl) (hd 9 rfl) (hd 10 rfl) (ix109 (i := kk.toNat) hp2 hkn _) (hK _ (Mo.refl _))))
       ·exact og_eq _ rfl (fun f wf hq hd K hK => go_run (wnt_g rfl rfl rfl (hd 5 rfl) rfl) (wo_load 108 (.tmp 44) (pt b2 (o2 + kk.toNat * 1)) (.map (some ib)) rfl (hd 11 rfl) (D.run_oneR (hR2.mo (M.trans hq)).at' 108 0 rfl Tryd.underlying108 rfl) (hK _ (Mo.refl _))))
       ·exact og_eq _ rfl (fun f wf hq hd K hK => go_run (wnt_g rfl rfl rfl (hd 5 rfl) rfl) (wo_un (fun v => Instr.fieldAt 77 v 2) (.tmp 5) (pt k1 0) (pt k1 2) (fun _ => rfl) rfl (by kernel_rfl) (hK _ (Mo.refl _))))
       ·exact og_eq _ rfl (fun f wf hq hd K hK => have Q1 := Q1.mo hq; go_run (wnt_g rfl rfl rfl (hd 5 rfl) rfl) (wo_load 9 (.tmp 46) (pt k1 2) (.string x.nm) rfl (hd 13 rfl) (run_one Q1 9 2 rfl Tryd.underlying9 rfl) (hK _ (Mo.refl _))))
      intro kf3 w3 hq hR hne
      replace Q1 := Q1.mo hq
      replace M := M.trans hq
      clear hq hR hne
      refine wl_val (.int .i64 ((lk (A.I kk.toNat) x.nm).getD 0)) (lkp 108 (.tmp 45) (.tmp 47) false (.map (some ib)) (.string x.nm) (.int .i64 ((lk (A.I kk.toNat) x.nm).getD 0)) rfl rfl rfl ((hIo.mo M).look hL.nm)) rfl ?_
      refine wl_call 90 [(.tmp 48)] _ [.int .i64 ((lk (A.I kk.toNat) x.nm).getD 0)] (.bool false) rfl rfl (fun _ _ => by kernel_rfl) (cB hf4 (cbr_n _ _)) rfl ?_
      intro w4 hq
      replace Q1 := Q1.mo hq
      replace M := M.trans hq
      clear hq
      refine wl_pick (.tmp 38) (.const (.bool true)) (.tmp 49) false (.bool false) (fun _ => rfl) rfl rfl rfl ?_
      refine wl_pick (.tmp 34) (.tmp 50) (.const (.bool false)) true (.bool false) (fun _ => rfl) rfl rfl rfl ?_
      refine wl_m (.tmp 51) (.bool false) ?_
      refine w_nil (xn_then (w_ret (xr_blk (xr_then ?_))))
      exact w_ret1 _ (.bool false) rfl rfl ⟨by unfold kno; rw [if_neg hf0p, if_pos hf1p]; simp [hf3, hf4, hkk], M⟩
   | false =>
    refine w_any 14 [.inl (pt z.cb 0), .inl (pt z.cb 0), .inl (pt z.cb 10), .inl (.slice z.kp z.KI.length z.kc), .inl (.int .i64 ((s : Nat) : Int)), .inl (pt b1 (o1 + s * 1)), .inl (.map (some kb)), .inl (pt k1 3), .inl (.string x.se), .inl (.tuple #[.int .i64 ((lk (A.K s) x.se).getD 0), .bool false]), .inl (.tuple #[.int .i64 ((lk (A.K s) x.se).getD 0), .bool false]), .inl (.int .i64 ((lk (A.K s) x.se).getD 0)), .inl (.bool false), .inl (.int .i64 ((lk (A.K s) x.se).getD 0))] [] (by kernel_rfl) (by kernel_rfl) (by kernel_rfl) (by kernel_rfl) rfl (by kernel_rfl) (by kernel_rfl) late_nil ?_ ?_ ?_
    ·exact Ds.none rfl
    ·refine ea_cons ?_ (ea_cons ?_ (ea_cons ?_ (ea_cons ?_ (ea_cons ?_ (ea_cons ?_ (ea_cons ?_ (ea_cons ?_ (ea_cons ?_ (ea_cons ?_ (ea_cons ?_ (ea_cons ?_ (ea_cons ?_ (ea_cons ?_ (ea_nil))))))))))))))
     ·exact og_eq _ rfl (fun f wf hq hd K hK => go_run rfl (wo_mv (.tmp 0) (pt z.cb 0) (fun _ => rfl) rfl (hK _ (Mo.refl _))))
     ·exact og_eq _ rfl (fun f wf hq hd K hK => go_run rfl (wo_nc (.tmp 21) z.cb 0 rfl (hd 0 rfl) (hK _ (Mo.refl _))))
     ·exact og_eq _ rfl (fun f wf hq hd K hK => go_run rfl (wo_un (fun v => Instr.fieldAt 111 v 4) (.tmp 22) (pt z.cb 0) (pt z.cb 10) (fun _ => rfl) (hd 1 rfl) (by kernel_rfl) (hK _ (Mo.refl _))))
     ·exact og_eq _ rfl (fun f wf hq hd K hK => go_run rfl (wo_load 109 (.tmp 23) (pt z.cb 10) (.slice z.kp z.KI.length z.kc) rfl (hd 2 rfl) (D.run_oneR (hC.rw.mo (M.trans hq)).at' 109 10 rfl Tryd.underlying109 rfl) (hK _ (Mo.refl _))))
     ·exact og_eq _ rfl (fun f wf hq hd K hK => go_run rfl (wo_mv (.tmp 1) (.int .i64 ((s : Nat) : Int)) (fun _ => rfl) rfl (hK _ (Mo.refl _))))
     ·exact og_eq _ rfl (fun f wf hq hd K hK => go_run rfl (wo_bin (fun x y => Instr.indexAt 109 x y) (.tmp 24) (.tmp 25) (.slice z.kp z.KI.length z.kc) (.int .i64 ((s : Nat) : Int)) (pt b1 (o1 + s * 1)) (fun _ => rfl) (hd 3 rfl) (hd 4 rfl) (ix109 (i := s) hp1 hsk _) (hK _ (Mo.refl _))))
     ·exact og_eq _ rfl (fun f wf hq hd K hK => go_run rfl (wo_load 108 (.tmp 26) (pt b1 (o1 + s * 1)) (.map (some kb)) rfl (hd 5 rfl) (D.run_oneR (hR1.mo (M.trans hq)).at' 108 0 rfl Tryd.underlying108 rfl) (hK _ (Mo.refl _))))
     ·exact og_eq _ rfl (fun f wf hq hd K hK => go_run rfl (wo_un (fun v => Instr.fieldAt 77 v 3) (.tmp 5) (pt k1 0) (pt k1 3) (fun _ => rfl) rfl (by kernel_rfl) (hK _ (Mo.refl _))))
     ·exact og_eq _ rfl (fun f wf hq hd K hK => have Q1 := Q1.mo hq; go_run rfl (wo_load 9 (.tmp 28) (pt k1 3) (.string x.se) rfl (hd 7 rfl) (run_one Q1 9 3 rfl Tryd.underlying9 rfl) (hK _ (Mo.refl _))))
     ·exact og_eq _ rfl (fun f wf hq hd K hK => go_run rfl (wo_val (.tuple #[.int .i64 ((lk (A.K s) x.se).getD 0), .bool false]) (lkp 108 (.tmp 27) (.tmp 29) true (.map (some kb)) (.string x.se) (.tuple #[.int .i64 ((lk (A.K s) x.se).getD 0), .bool false]) rfl (hd 6 rfl) (hd 8 rfl) (by rw [(hKo.mo (M.trans hq)).looks hL.se, hf2])) (hK _ (Mo.refl _))))
     ·exact og_eq _ rfl (fun f wf hq hd K hK => go_run rfl (wo_mv (.tmp 30) (.tuple #[.int .i64 ((lk (A.K s) x.se).getD 0), .bool false]) (fun _ => rfl) (hd 9 rfl) (hK _ (Mo.refl _))))
     ·exact og_eq _ rfl (fun f wf hq hd K hK => go_run rfl (wo_un (fun v => Instr.extract v 0) (.tmp 20) (.tuple #[.int .i64 ((lk (A.K s) x.se).getD 0), .bool false]) (.int .i64 ((lk (A.K s) x.se).getD 0)) (fun _ => rfl) (hd 10 rfl) (by kernel_rfl) (hK _ (Mo.refl _))))
     ·exact og_eq _ rfl (fun f wf hq hd K hK => go_run rfl (wo_un (fun v => Instr.extract v 1) (.tmp 20) (.tuple #[.int .i64 ((lk (A.K s) x.se).getD 0), .bool false]) (.bool false) (fun _ => rfl) (hd 10 rfl) (by kernel_rfl) (hK _ (Mo.refl _))))
     ·exact og_eq _ rfl (fun f wf hq hd K hK => go_run rfl (wo_mv (.tmp 31) (.int .i64 ((lk (A.K s) x.se).getD 0)) (fun _ => rfl) (hd 11 rfl) (hK _ (Mo.refl _))))
    intro kf2 w2 hq hR hne
    replace Q1 := Q1.mo hq
    replace M := M.trans hq
    clear hq hR hne
    refine wl_m (.tmp 32) (.bool false) ?_
    refine w_nil (xn_then (w_seq ?_))
    refine w_any 15 [.inl (.bool false), .inl (.bool false), .inl undef, .inl undef, .inl undef, .inl undef, .inl undef, .inl undef, .inl undef, .inl undef, .inl undef, .inl undef, .inl undef, .inl undef, .inl undef] [] (by kernel_rfl) (by kernel_rfl) (by kernel_rfl) (by kernel_rfl) rfl (by kernel_rfl) (by kernel_rfl) late_nil ?_ ?_ ?_
    ·exact Ds.none rfl
    ·refine ea_cons ?_ (ea_cons ?_ (ea_cons ?_ (ea_cons ?_ (ea_cons ?_ (ea_cons ?_ (ea_cons ?_ (ea_cons ?_ (ea_cons ?_ (ea_cons ?_ (ea_cons ?_ (ea_cons ?_ (ea_cons ?_ (ea_cons ?_ (ea_cons ?_ (ea_nil)))))))))))))))
     ·exact og_eq _ rfl (fun f wf hq hd K hK => go_run rfl (wo_mv (.tmp 8) (.bool false) (fun _ => rfl) rfl (hK _ (Mo.refl _))))
     ·exact og_eq _ rfl (fun f wf hq hd K hK => go_run rfl (wo_mv (.tmp 33) (.bool false) (fun _ => rfl) (hd 0 rfl) (hK _ (Mo.refl _))))
     ·exact og_eq _ rfl (fun f wf hq hd K hK => go_pass (wnt_g rfl rfl rfl (hd 1 rfl) rfl) (hK _ (Mo.refl _)))
     ·exact og_eq _ rfl (fun f wf hq hd K hK => go_pass (wnt_g rfl rfl rfl (hd 1 rfl) rfl) (hK _ (Mo.refl _)))
     ·exact og_eq _ rfl (fun f wf hq hd K hK => go_pass (wnt_g rfl rfl rfl (hd 1 rfl) rfl) (hK _ (Mo.refl _)))
     ·exact og_eq _ rfl (fun f wf hq hd K hK => go_pass (wnt_g rfl rfl rfl (hd 1 rfl) rfl) (hK _ (Mo.refl _)))
     ·exact og_eq _ rfl (fun f wf hq hd K hK => go_pass (wnt_u rfl rfl rfl (hd 5 rfl)) (hK _ (Mo.refl _)))
     ·exact og_eq _ rfl (fun f wf hq hd K hK => go_pass (wnt_u rfl rfl rfl (hd 5 rfl)) (hK _ (Mo.refl _)))
     ·exact og_eq _ rfl (fun f wf hq hd K hK => go_pass (wnt_u rfl rfl rfl (hd 5 rfl)) (hK _ (Mo.refl _)))
     ·exact og_eq _ rfl (fun f wf hq hd K hK => go_pass (wnt_u rfl rfl rfl (hd 5 rfl)) (hK _ (Mo.refl _)))
     ·exact og_eq _ rfl (fun f wf hq hd K hK => go_pass (wnt_u rfl rfl rfl (hd 5 rfl)) (hK _ (Mo.refl _)))
     ·exact og_eq _ rfl (fun f wf hq hd K hK => go_pass (wnt_u rfl rfl rfl (hd 5 rfl)) (hK _ (Mo.refl _)))
     ·exact og_eq _ rfl (fun f wf hq hd K hK => go_pass (wnt_u rfl rfl rfl (hd 5 rfl)) (hK _ (Mo.refl _)))
     ·exact og_eq _ rfl (fun f wf hq hd K hK => go_pass (wnt_u rfl rfl rfl (hd 5 rfl)) (hK _ (Mo.refl _)))
     ·exact og_eq _ rfl (fun f wf hq hd K hK => go_pass (wnt_u rfl rfl rfl (hd 5 rfl)) (hK _ (Mo.refl _)))
    intro kf3 w3 hq hR hne
    replace Q1 := Q1.mo hq
    replace M := M.trans hq
    clear hq hR hne
    refine wl_skip rfl (wl_skip rfl (wl_skip rfl ?_))
    refine wl_pick (.tmp 34) (.tmp 50) (.const (.bool false)) false (.bool false) (fun _ => rfl) rfl rfl rfl ?_
    refine wl_m (.tmp 51) (.bool false) ?_
    refine w_nil (xn_then (w_ret (xr_blk (xr_then ?_))))
    exact w_ret1 _ (.bool false) rfl rfl ⟨by unfold kno; rw [if_neg hf0p, if_pos hf1p]; simp [hf2], M⟩
  | false =>
   have hf1p := of_decide_eq_false hf1
   refine wl_b .eql 3 (.tmp 10) (.const (.int .i64 (10))) (.int .i64 (x.k)) (.int .i64 (10)) (.bool false) (eq3 hf1 _ _ _) ?_
   refine wl_m (.tmp 19) (.bool false) ?_
   refine w_nil (xn_then (w_condF rfl (w_seq (w_reg ?_))))
   cases hf2 : decide (x.k = 8) with
   | true =>
    have hf2p := of_decide_eq_true hf2
    refine wl_b .eql 3 (.tmp 10) (.const (.int .i64 (8))) (.int .i64 (x.k)) (.int .i64 (8)) (.bool true) (eq3 hf2 _ _ _) ?_
    refine wl_m (.tmp 53) (.bool true) ?_
    refine w_nil (xn_then (w_condT rfl (w_seq ?_)))
    cases hf3 : (lk A.T x.nm).isSome with
    | true =>
     refine w_any 6 [.inl (pt z.cb 0), .inl (pt z.cb 0), .inl (pt z.cb 8), .inl (.map (some z.tb)), .inl (pt k1 2), .inl (.string x.nm)] [] (by kernel_rfl) (by kernel_rfl) (by kernel_rfl) (by kernel_rfl) rfl (by kernel_rfl) (by kernel_rfl) late_nil ?_ ?_ ?_
     ·exact Ds.none rfl
     ·refine ea_cons ?_ (ea_cons ?_ (ea_cons ?_ (ea_cons ?_ (ea_cons ?_ (ea_cons ?_ (ea_nil))))))
      ·exact og_eq _ rfl (fun f wf hq hd K hK => go_run rfl (wo_mv (.tmp 0) (pt z.cb 0) (fun _ => rfl) rfl (hK _ (Mo.refl _))))
      ·exact og_eq _ rfl (fun f wf hq hd K hK => go_run rfl (wo_nc (.tmp 54) z.cb 0 rfl (hd 0 rfl) (hK _ (Mo.refl _))))
      ·exact og_eq _ rfl (fun f wf hq hd K hK => go_run rfl (wo_un (fun v => Instr.fieldAt 111 v 2) (.tmp 55) (pt z.cb 0) (pt z.cb 8) (fun _ => rfl) (hd 1 rfl) (by kernel_rfl) (hK _ (Mo.refl _))))
      ·exact og_eq _ rfl (fun f wf hq hd K hK => go_run rfl (wo_load 108 (.tmp 56) (pt z.cb 8) (.map (some z.tb)) rfl (hd 2 rfl) (D.run_oneR (hC.rw.mo (M.trans hq)).at' 108 8 rfl Tryd.underlying108 rfl) (hK _ (Mo.refl _))))
      ·exact og_eq _ rfl (fun f wf hq hd K hK => go_run rfl (wo_un (fun v => Instr.fieldAt 77 v 2) (.tmp 5) (pt k1 0) (pt k1 2) (fun _ => rfl) rfl (by kernel_rfl) (hK _ (Mo.refl _))))
      ·exact og_eq _ rfl (fun f wf hq hd K hK => have Q1 := Q1.mo hq; go_run rfl (wo_load 9 (.tmp 58) (pt k1 2) (.string x.nm) rfl (hd 4 rfl) (run_one Q1 9 2 rfl Tryd.underlying9 rfl) (hK _ (Mo.refl _))))
     intro kf2 w2 hq hR hne
     replace Q1 := Q1.mo hq
     replace M := M.trans hq
     clear hq hR hne
     refine wl_call 75 [(.tmp 57), (.tmp 59)] _ [.map (some z.tb), .string x.nm] (.bool true) rfl rfl (fun _ _ => by kernel_rfl) (cB hf3 (has_n (hC.om.mo M) x.nm hL.nm)) rfl ?_
     intro w3 hq
     replace Q1 := Q1.mo hq
     replace M := M.trans hq
     clear hq
     refine wl_m (.tmp 60) (.bool true) ?_
     refine w_nil (xn_then (w_ret (xr_blk (xr_then ?_))))
     exact w_ret1 _ (.bool true) rfl rfl ⟨by unfold kno; rw [if_neg hf0p, if_neg hf1p, if_pos hf2p, hf3], M⟩
    | false =>
     refine w_any 6 [.inl (pt z.cb 0), .inl (pt z.cb 0), .inl (pt z.cb 8), .inl (.map (some z.tb)), .inl (pt k1 2), .inl (.string x.nm)] [] (by kernel_rfl) (by kernel_rfl) (by kernel_rfl) (by kernel_rfl) rfl (by kernel_rfl) (by kernel_rfl) late_nil ?_ ?_ ?_
     ·exact Ds.none rfl
     ·refine ea_cons ?_ (ea_cons ?_ (ea_cons ?_ (ea_cons ?_ (ea_cons ?_ (ea_cons ?_ (ea_nil))))))
      ·exact og_eq _ rfl (fun f wf hq hd K hK => go_run rfl (wo_mv (.tmp 0) (pt z.cb 0) (fun _ => rfl) rfl (hK _ (Mo.refl _))))
      ·exact og_eq _ rfl (fun f wf hq hd K hK => go_run rfl (wo_nc (.tmp 54) z.cb 0 rfl (hd 0 rfl) (hK _ (Mo.refl _))))
      ·exact og_eq _ rfl (fun f wf hq hd K hK => go_run rfl (wo_un (fun v => Instr.fieldAt 111 v 2) (.tmp 55) (pt z.cb 0) (pt z.cb 8) (fun _ => rfl) (hd 1 rfl) (by kernel_rfl) (hK _ (Mo.refl _))))
      ·exact og_eq _ rfl (fun f wf hq hd K hK => go_run rfl (wo_load 108 (.tmp 56) (pt z.cb 8) (.map (some z.tb)) rfl (hd 2 rfl) (D.run_oneR (hC.rw.mo (M.trans hq)).at' 108 8 rfl Tryd.underlying108 rfl) (hK _ (Mo.refl _))))
      ·exact og_eq _ rfl (fun f wf hq hd K hK => go_run rfl (wo_un (fun v => Instr.fieldAt 77 v 2) (.tmp 5) (pt k1 0) (pt k1 2) (fun _ => rfl) rfl (by kernel_rfl) (hK _ (Mo.refl _))))
      ·exact og_eq _ rfl (fun f wf hq hd K hK => have Q1 := Q1.mo hq; go_run rfl (wo_load 9 (.tmp 58) (pt k1 2) (.string x.nm) rfl (hd 4 rfl) (run_one Q1 9 2 rfl Tryd.underlying9 rfl) (hK _ (Mo.refl _))))
     intro kf2 w2 hq hR hne
     replace Q1 := Q1.mo hq
     replace M := M.trans hq
     clear hq hR hne
     refine wl_call 75 [(.tmp 57), (.tmp 59)] _ [.map (some z.tb), .string x.nm] (.bool false) rfl rfl (fun _ _ => by kernel_rfl) (cB hf3 (has_n (hC.om.mo M) x.nm hL.nm)) rfl ?_
     intro w3 hq
     replace Q1 := Q1.mo hq
     replace M := M.trans hq
     clear hq
     refine wl_m (.tmp 60) (.bool false) ?_
     refine w_nil (xn_then (w_ret (xr_blk (xr_then ?_))))
     exact w_ret1 _ (.bool false) rfl rfl ⟨by unfold kno; rw [if_neg hf0p, if_neg hf1p, if_pos hf2p, hf3], M⟩
   | false =>
    have hf2p := of_decide_eq_false hf2
    refine wl_b .eql 3 (.tmp 10) (.const (.int .i64 (8))) (.int .i64 (x.k)) (.int .i64 (8)) (.bool false) (eq3 hf2 _ _ _) ?_
    refine wl_m (.tmp 53) (.bool false) ?_
    refine w_nil (xn_then (w_condF rfl (w_skip (xn_blk (xn_then (w_seq (w_reg ?_)))))))
    refine wl_m (.const (.bool true)) (.bool true) ?_
    refine w_nil (xn_then (w_ret ?_))
    exact w_ret1 _ (.bool true) rfl rfl ⟨by unfold kno; rw [if_neg hf0p, if_neg hf1p, if_neg hf2p], M⟩
end Go.Proofs.YtnffhcjmpjajlaaDoor

namespace Go.Proofs.YtnffhcjmpjajlaaDoor
open Go.RowKit D
theorem D.Ex.ind2 {M : Ex → Prop} (h : ∀ x : Ex, (∀ o ∈ x.args, M o) → M x) : ∀ e, M e := Ex.ind (fun k op nm se v sc po pa cap args ih => h (.mk k op nm se v sc po pa cap args) ih)
abbrev plc (k s i t p : Int) : Value := .agg #[.int .i64 k, .int .i64 s, .int .i64 i, .int .i64 t, .int .i64 p]
theorem lacks_n {z : Zc} {A : Al} (s : Nat) (hs : s < z.L.length) : ∀ (x : Ex) {w : World}, CK w z A → LEx w x → Calls Tryd.prog 63 #[pt z.cb 0, .int .i64 ((s : Nat) : Int), .agg (x.cells).toArray] w fun e w' => e = .returned (.bool (lck (kno z.L A s) x)) ∧ Mo w w' := by
 refine Ex.ind2 ?_
 intro x ih w hC hL
 refine w_enter 26 Tryd.func63 Tryd.ntmps63 rfl rfl ?_
 have M : Mo w w := Mo.refl _
 refine w_seq (w_reg ?_)
 refine wl_box 77 (.tmp 2) _ (((x.cells).toArray)) rfl rfl (fun _ => by kernel_rfl) rfl ?_
 intro k1 w1 hk hz hq Q1
 have N_k1 : w.heap.size ≤ k1 := by have := M.size; omega
 replace M := M.trans hq
 clear hk hz hq
 refine wl_m (.const (.bool false)) (.bool false) ?_
 refine w_nil (xn_then (w_seq (w_seq (w_reg ?_))))
 refine wl_m (.tmp 0) (pt z.cb 0) ?_
 refine wl_m (.tmp 1) (.int .i64 ((s : Nat) : Int)) ?_
 refine wl_l 77 (.tmp 5) (pt k1 0) (.agg (x.cells).toArray) (run_row Q1 77 0 17 (x.cells) rfl Tryd.underlying77 rfl sz77) ?_
 cases hf0 : kno z.L A s x with
 | true =>
  refine wl_call 79 [(.tmp 9), (.tmp 10), (.tmp 11)] _ [pt z.cb 0, .int .i64 ((s : Nat) : Int), .agg (x.cells).toArray] (.bool true) rfl rfl (fun _ _ => by kernel_rfl) (cB hf0 (knows_n (hC.mo M) s hs x (hL.kp M.kp))) rfl ?_
  intro w2 hq
  replace Q1 := Q1.mo hq
  replace M := M.trans hq
  clear hq
  refine wl_un (fun v => Op.unary .not v) (.tmp 12) (.bool true) (.bool false) (fun _ => rfl) rfl (by kernel_rfl) rfl ?_
  refine w_nil (xn_then (w_condF rfl (w_skip (xn_then (w_seq (w_seq (w_reg ?_)))))))
  refine wl_f 77 7 (.tmp 5) (pt k1 0) (pt k1 16) ?_
  refine wl_l 75 (.tmp 14) (pt k1 16) (.slice x.pa x.args.length x.cap) (run_one Q1 75 16 rfl Tryd.underlying75 rfl) ?_
  refine wl_val (.int .i64 ((x.args.length : Nat) : Int)) (len75 _ _ _ _ _ (by exact rfl) _ _ _ _ _ _) rfl ?_
  refine wl_m (.const (.int .i64 (0))) (.int .i64 (0)) ?_
  refine w_nil (xn_then (w_block ?_))
  have hz := hL.sl.1
  unfold maxLen at hz
  refine w_loop (fun m l w1 => ∃ i : Nat, m = x.args.length - i ∧ i ≤ x.args.length ∧ look l 0 = pt z.cb 0 ∧ look l 1 = .int .i64 ((s : Nat) : Int) ∧ look l 15 = .slice x.pa x.args.length x.cap ∧ look l 16 = .int .i64 ((x.args.length : Nat) : Int) ∧ look l 17 = .int .i64 ((i : Nat) : Int) ∧ (x.args.take i).any (lck (kno z.L A s)) = false ∧ Mo w w1) _ ⟨0, rfl, Nat.zero_le _, rfl, rfl, rfl, rfl, rfl, rfl, M⟩ ?_
  clear Q1 M
  rintro m l40 wl40 ⟨i, rfl, hi, e40_0, e40_1, e40_15, e40_16, e40_i, hT, M⟩
  by_cases hil : i < x.args.length
  ·skip
   have hid : decide (i < x.args.length) = true := decide_eq_true hil
   obtain ⟨a, hx⟩ := get_of_lt hil
   obtain ⟨b1, o1, hp1, hR1⟩ := D.SL.rw hL.sl hx
   refine w_seq (w_reg ?_)
   refine wl_bin (fun x y => do eqGuard .lss 3 (.tmp 17) (.tmp 16) x y; binOp .lss 3 x y) (.tmp 17) (.tmp 16) (.int .i64 ((i : Nat) : Int)) (.int .i64 ((x.args.length : Nat) : Int)) (.bool true) (fun _ => rfl) e40_i e40_16 (ltN hid _ _ _) rfl ?_
   refine w_nil (xn_then (w_seq (w_condT rfl (w_skip (xn_then (w_seq (w_block (w_seq (w_reg ?_)))))))))
   refine wl_bin (fun x y => Instr.indexAt 75 x y) (.tmp 15) (.tmp 17) (.slice x.pa x.args.length x.cap) (.int .i64 ((i : Nat) : Int)) (pt b1 (o1 + i * 17)) (fun _ => rfl) e40_15 e40_i (ix75 (i := i) hp1 hil _) rfl ?_
   refine wl_l 77 (.tmp 19) (pt b1 (o1 + i * 17)) (.agg (a.cells).toArray) (D.run_partR (hR1.mo M).at' 77 0 17 (a.cells) rfl Tryd.underlying77 rfl sz77) ?_
   refine wl_alloc 77 #[.int .i64 0, .int .i64 0, .string ⟨#[]⟩, .string ⟨#[]⟩, .int .i64 0, .bool false, .int .u64 0, .int .u64 0, .int .u64 0, .int .u64 0, .int .i64 0, .bool false, .string ⟨#[]⟩, .int .i64 0, .int .i64 0, .int .i64 0, .slice none 0 0] rfl (fun _ => by kernel_rfl) rfl ?_
   intro k2 w41 hk hz hq Q2
   have N_k2 : w.heap.size ≤ k2 := by have := M.size; omega
   replace M := M.trans hq
   clear hk hz hq
   refine wl_st 77 (.tmp 8) (.tmp 20) k2 0 ((a.cells).toArray) _ (a.cells) Q2 rfl rfl rfl rfl rfl sz77 rfl rfl rfl ?_
   intro w42 hS Qn
   replace Q2 := Qn
   clear Qn
   replace M := hS.mo _ N_k2 M
   clear hS
   refine w_nil (xn_then (w_seq (w_reg ?_)))
   refine wl_mv (.tmp 0) (pt z.cb 0) (fun _ => rfl) e40_0 rfl ?_
   refine wl_mv (.tmp 1) (.int .i64 ((s : Nat) : Int)) (fun _ => rfl) e40_1 rfl ?_
   refine wl_l 77 (.tmp 8) (pt k2 0) (.agg (a.cells).toArray) (run_row Q2 77 0 17 (a.cells) rfl Tryd.underlying77 rfl sz77) ?_
   cases hf30 : lck (kno z.L A s) a with
   | true =>
    refine wl_call 63 [(.tmp 21), (.tmp 22), (.tmp 23)] _ [pt z.cb 0, .int .i64 ((s : Nat) : Int), .agg (a.cells).toArray] (.bool true) rfl rfl (fun _ _ => by kernel_rfl) (cB hf30 (ih a (List.mem_of_getElem? hx) (hC.mo M) ((hL.ar a (List.mem_of_getElem? hx)).kp M.kp))) rfl ?_
    intro w43 hq
    replace Q2 := Q2.mo hq
    replace M := M.trans hq
    clear hq
    refine w_nil (xn_then (w_condT rfl (w_seq (w_reg ?_))))
    refine wl_m (.const (.bool true)) (.bool true) ?_
    refine w_nil (xn_then (w_ret (xr_blk (xr_then (xr_then (xr_blk (xr_then ?_)))))))
    exact w_ret1 _ (.bool true) rfl rfl ⟨by rw [lck_eq, hf0, any_hit hx hf30]; rfl, M⟩
   | false =>
    refine wl_call 63 [(.tmp 21), (.tmp 22), (.tmp 23)] _ [pt z.cb 0, .int .i64 ((s : Nat) : Int), .agg (a.cells).toArray] (.bool false) rfl rfl (fun _ _ => by kernel_rfl) (cB hf30 (ih a (List.mem_of_getElem? hx) (hC.mo M) ((hL.ar a (List.mem_of_getElem? hx)).kp M.kp))) rfl ?_
    intro w43 hq
    replace Q2 := Q2.mo hq
    replace M := M.trans hq
    clear hq
    refine w_nil (xn_then (w_condF rfl (w_skip (xn_blk (xn_then (w_reg ?_))))))
    refine wl_bin (fun x y => do eqGuard .add 3 (.tmp 17) (.const (.int .i64 (1))) x y; binOp .add 3 x y) (.tmp 17) (.const (.int .i64 (1))) (.int .i64 ((i : Nat) : Int)) (.int .i64 (1)) (.int .i64 ((i + 1 : Nat) : Int)) (fun _ => rfl) e40_i rfl (add1r (k := i) (by omega) _ _ _) rfl ?_
    refine wl_m (.tmp 25) (.int .i64 ((i + 1 : Nat) : Int)) ?_
    refine w_nil ?_
    exact xn_loop (x.args.length - (i + 1)) (by omega) ⟨i + 1, rfl, by omega, e40_0, e40_1, e40_15, e40_16, rfl, any_take hT hx hf30, M⟩
  ·skip
   have hid : decide (i < x.args.length) = false := decide_eq_false hil
   have hie : i = x.args.length := by omega
   refine w_seq (w_reg ?_)
   refine wl_bin (fun x y => do eqGuard .lss 3 (.tmp 17) (.tmp 16) x y; binOp .lss 3 x y) (.tmp 17) (.tmp 16) (.int .i64 ((i : Nat) : Int)) (.int .i64 ((x.args.length : Nat) : Int)) (.bool false) (fun _ => rfl) e40_i e40_16 (ltN hid _ _ _) rfl ?_
   refine w_nil (xn_then (w_seq (w_condF rfl (w_exit (xx_then (xx_then (xx_blk (xn_then (w_seq (w_reg ?_))))))))))
   refine wl_m (.const (.bool false)) (.bool false) ?_
   refine w_nil (xn_then (w_ret ?_))
   exact w_ret1 _ (.bool false) rfl rfl ⟨by rw [lck_eq, hf0, any_all hT hie]; rfl, M⟩
 | false =>
  refine wl_call 79 [(.tmp 9), (.tmp 10), (.tmp 11)] _ [pt z.cb 0, .int .i64 ((s : Nat) : Int), .agg (x.cells).toArray] (.bool false) rfl rfl (fun _ _ => by kernel_rfl) (cB hf0 (knows_n (hC.mo M) s hs x (hL.kp M.kp))) rfl ?_
  intro w2 hq
  replace Q1 := Q1.mo hq
  replace M := M.trans hq
  clear hq
  refine wl_un (fun v => Op.unary .not v) (.tmp 12) (.bool false) (.bool true) (fun _ => rfl) rfl (by kernel_rfl) rfl ?_
  refine w_nil (xn_then (w_condT rfl (w_seq (w_reg ?_))))
  refine wl_m (.const (.bool true)) (.bool true) ?_
  refine w_nil (xn_then (w_ret (xr_then ?_)))
  exact w_ret1 _ (.bool true) rfl rfl ⟨by rw [lck_eq, hf0]; rfl, M⟩
def tms (L : List S5) : Bool := L.any (fun x => decide (4 < x.dp)) || decide (16 < L.length)
theorem tms_n {w : World} {z : Zc} {A : Al} (hC : CK w z A) : Calls Tryd.prog 59 #[pt z.cb 0] w fun e w' => e = .returned (.bool (tms z.L)) ∧ Mo w w' := by
 refine w_enter 24 Tryd.func59 Tryd.ntmps59 rfl rfl ?_
 have M : Mo w w := Mo.refl _
 refine w_seq (w_reg ?_)
 refine wl_m (.const (.bool false)) (.bool false) ?_
 refine w_nil (xn_then (w_seq (w_seq (w_reg ?_))))
 refine wl_m (.tmp 0) (pt z.cb 0) ?_
 refine wl_nc (.tmp 5) z.cb 0 rfl rfl rfl ?_
 refine wl_f 111 1 (.tmp 6) (pt z.cb 0) (pt z.cb 7) ?_
 refine wl_l 22 (.tmp 7) (pt z.cb 7) (.slice z.sp z.L.length z.sc) (D.run_oneR (hC.rw.mo M).at' 22 7 rfl Tryd.underlying22 rfl) ?_
 refine wl_val (.int .i64 ((z.L.length : Nat) : Int)) (len22 _ _ _ _ _ (by exact rfl) _ _ _ _ _ _) rfl ?_
 refine wl_m (.const (.int .i64 (0))) (.int .i64 (0)) ?_
 refine w_nil (xn_then (w_block ?_))
 have hz := hC.ls.1
 unfold maxLen at hz
 refine w_loop (fun m l w1 => ∃ i : Nat, m = z.L.length - i ∧ i ≤ z.L.length ∧ look l 0 = pt z.cb 0 ∧ look l 8 = .slice z.sp z.L.length z.sc ∧ look l 9 = .int .i64 ((z.L.length : Nat) : Int) ∧ look l 10 = .int .i64 ((i : Nat) : Int) ∧ (z.L.take i).any (fun x => decide (4 < x.dp)) = false ∧ Mo w w1) _ ⟨0, rfl, Nat.zero_le _, rfl, rfl, rfl, rfl, rfl, M⟩ ?_
 clear M
 rintro m l40 wl40 ⟨i, rfl, hi, e40_0, e40_8, e40_9, e40_i, hT, M⟩
 by_cases hil : i < z.L.length
 ·skip
  have hid : decide (i < z.L.length) = true := decide_eq_true hil
  obtain ⟨x, hx⟩ := get_of_lt hil
  obtain ⟨b1, o1, hp1, hR1⟩ := D.SL.rw hC.ls hx
  refine w_seq (w_reg ?_)
  refine wl_bin (fun x y => do eqGuard .lss 3 (.tmp 10) (.tmp 9) x y; binOp .lss 3 x y) (.tmp 10) (.tmp 9) (.int .i64 ((i : Nat) : Int)) (.int .i64 ((z.L.length : Nat) : Int)) (.bool true) (fun _ => rfl) e40_i e40_9 (ltN hid _ _ _) rfl ?_
  refine w_nil (xn_then (w_seq (w_condT rfl (w_skip (xn_then (w_seq (w_block (w_seq (w_reg ?_)))))))))
  refine wl_bin (fun x y => Instr.indexAt 22 x y) (.tmp 8) (.tmp 10) (.slice z.sp z.L.length z.sc) (.int .i64 ((i : Nat) : Int)) (pt b1 (o1 + i * 5)) (fun _ => rfl) e40_8 e40_i (ix22 (i := i) hp1 hil _) rfl ?_
  refine wl_l 65 (.tmp 12) (pt b1 (o1 + i * 5)) (.agg (x.cells).toArray) (D.run_partR (hR1.mo M).at' 65 0 5 (x.cells) rfl Tryd.underlying65 rfl sz65) ?_
  refine wl_alloc 65 #[.int .i64 0, .int .i64 0, .string ⟨#[]⟩, .int .i64 0, .slice none 0 0] rfl (fun _ => by kernel_rfl) rfl ?_
  intro k1 w41 hk hz hq Q1
  have N_k1 : w.heap.size ≤ k1 := by have := M.size; omega
  replace M := M.trans hq
  clear hk hz hq
  refine wl_st 65 (.tmp 4) (.tmp 13) k1 0 ((x.cells).toArray) _ (x.cells) Q1 rfl rfl rfl rfl rfl sz65 rfl rfl rfl ?_
  intro w42 hS Qn
  replace Q1 := Qn
  clear Qn
  replace M := hS.mo _ N_k1 M
  clear hS
  refine w_nil (xn_then (w_seq (w_reg ?_)))
  refine wl_f 65 1 (.tmp 4) (pt k1 0) (pt k1 1) ?_
  refine wl_l 3 (.tmp 14) (pt k1 1) (.int .i64 (x.dp)) (run_one Q1 3 1 rfl Tryd.underlying3 rfl) ?_
  cases hf30 : decide (4 < x.dp) with
  | true =>
   have hf30p := of_decide_eq_true hf30
   refine wl_b .gtr 3 (.tmp 15) (.const (.int .i64 (4))) (.int .i64 (x.dp)) (.int .i64 (4)) (.bool true) (gt3 hf30 _ _ _) ?_
   refine w_nil (xn_then (w_condT rfl (w_seq (w_reg ?_))))
   refine wl_m (.const (.bool true)) (.bool true) ?_
   refine w_nil (xn_then (w_ret (xr_blk (xr_then (xr_then (xr_blk (xr_then ?_)))))))
   exact w_ret1 _ (.bool true) rfl rfl ⟨by unfold tms; rw [any_hit (f := fun x => decide (4 < x.dp)) hx hf30]; rfl, M⟩
  | false =>
   have hf30p := of_decide_eq_false hf30
   refine wl_b .gtr 3 (.tmp 15) (.const (.int .i64 (4))) (.int .i64 (x.dp)) (.int .i64 (4)) (.bool false) (gt3 hf30 _ _ _) ?_
   refine w_nil (xn_then (w_condF rfl (w_skip (xn_blk (xn_then (w_reg ?_))))))
   refine wl_bin (fun x y => do eqGuard .add 3 (.tmp 10) (.const (.int .i64 (1))) x y; binOp .add 3 x y) (.tmp 10) (.const (.int .i64 (1))) (.int .i64 ((i : Nat) : Int)) (.int .i64 (1)) (.int .i64 ((i + 1 : Nat) : Int)) (fun _ => rfl) e40_i rfl (add1r (k := i) (by omega) _ _ _) rfl ?_
   refine wl_m (.tmp 17) (.int .i64 ((i + 1 : Nat) : Int)) ?_
   refine w_nil ?_
   exact xn_loop (z.L.length - (i + 1)) (by omega) ⟨i + 1, rfl, by omega, e40_0, e40_8, e40_9, rfl, any_take hT hx hf30, M⟩
 ·skip
  have hid : decide (i < z.L.length) = false := decide_eq_false hil
  have hie : i = z.L.length := by omega
  refine w_seq (w_reg ?_)
  refine wl_bin (fun x y => do eqGuard .lss 3 (.tmp 10) (.tmp 9) x y; binOp .lss 3 x y) (.tmp 10) (.tmp 9) (.int .i64 ((i : Nat) : Int)) (.int .i64 ((z.L.length : Nat) : Int)) (.bool false) (fun _ => rfl) e40_i e40_9 (ltN hid _ _ _) rfl ?_
  refine w_nil (xn_then (w_seq (w_condF rfl (w_exit (xx_then (xx_then (xx_blk (xn_then (w_seq (w_reg ?_))))))))))
  refine wl_mv (.tmp 0) (pt z.cb 0) (fun _ => rfl) e40_0 rfl ?_
  refine wl_nc (.tmp 18) z.cb 0 rfl rfl rfl ?_
  refine wl_f 111 1 (.tmp 19) (pt z.cb 0) (pt z.cb 7) ?_
  refine wl_l 22 (.tmp 20) (pt z.cb 7) (.slice z.sp z.L.length z.sc) (D.run_oneR (hC.rw.mo M).at' 22 7 rfl Tryd.underlying22 rfl) ?_
  refine wl_val (.int .i64 ((z.L.length : Nat) : Int)) (len22 _ _ _ _ _ (by exact rfl) _ _ _ _ _ _) rfl ?_
  cases hf30 : decide (16 < z.L.length) with
  | true =>
   have hf30p := of_decide_eq_true hf30
   refine wl_b .gtr 3 (.tmp 22) (.const (.int .i64 (16))) (.int .i64 ((z.L.length : Nat) : Int)) (.int .i64 (16)) (.bool true) (gtN hf30 _ _ _) ?_
   refine wl_m (.tmp 23) (.bool true) ?_
   refine w_nil (xn_then (w_ret ?_))
   exact w_ret1 _ (.bool true) rfl rfl ⟨by unfold tms; rw [any_all hT hie, hf30]; rfl, M⟩
  | false =>
   have hf30p := of_decide_eq_false hf30
   refine wl_b .gtr 3 (.tmp 22) (.const (.int .i64 (16))) (.int .i64 ((z.L.length : Nat) : Int)) (.int .i64 (16)) (.bool false) (gtN hf30 _ _ _) ?_
   refine wl_m (.tmp 23) (.bool false) ?_
   refine w_nil (xn_then (w_ret ?_))
   exact w_ret1 _ (.bool false) rfl rfl ⟨by unfold tms; rw [any_all hT hie, hf30]; rfl, M⟩
def whE (d : Df) (L : List S5) : Int := if may d.nm then (if decide (8 < d.tb.length) || decide (16 < d.pg.length) || tms L then 92 else 0) else 90
theorem whole_n {w : World} {z : Zc} {A : Al} (hC : CK w z A) : Calls Tryd.prog 43 #[pt z.cb 0] w fun e w' => e = .returned (.tuple #[plc 0 0 0 0 0, .int .i64 (whE z.d z.L)]) ∧ Mo w w' := by
 refine w_enter 38 Tryd.func43 Tryd.ntmps43 rfl rfl ?_
 have M : Mo w w := Mo.refl _
 refine w_seq (w_reg ?_)
 refine wl_alloc 52 #[.int .i64 0, .int .i64 0, .int .i64 0, .int .i64 0, .int .i64 0] rfl (fun _ => by kernel_rfl) rfl ?_
 intro k1 w1 hk hz hq Q1
 have N_k1 : w.heap.size ≤ k1 := by have := M.size; omega
 replace M := M.trans hq
 clear hk hz hq
 refine wl_m (.const (.int .i64 (0))) (.int .i64 (0)) ?_
 refine w_nil (xn_then (w_seq (w_reg ?_)))
 refine wl_build 52 [(0, (.const (.int .i64 (0))))] [(0, .int .i64 (0))] (.agg #[.int .i64 (0), .int .i64 0, .int .i64 0, .int .i64 0, .int .i64 0]) rfl rfl (by kernel_rfl) rfl ?_
 refine wl_alloc 52 #[.int .i64 0, .int .i64 0, .int .i64 0, .int .i64 0, .int .i64 0] rfl (fun _ => by kernel_rfl) rfl ?_
 intro k2 w2 hk hz hq Q2
 have ne_k1_k2 : k1 ≠ k2 := by have := Q1.lt; omega
 have N_k2 : w.heap.size ≤ k2 := by have := M.size; omega
 replace Q1 := Q1.mo hq
 replace M := M.trans hq
 clear hk hz hq
 refine wl_st 52 (.tmp 4) (.tmp 5) k2 0 #[.int .i64 (0), .int .i64 0, .int .i64 0, .int .i64 0, .int .i64 0] _ [.int .i64 (0), .int .i64 0, .int .i64 0, .int .i64 0, .int .i64 0] Q2 rfl rfl rfl rfl rfl sz52 rfl rfl rfl ?_
 intro w3 hS Qn
 replace Q2 := Qn
 clear Qn
 replace Q1 := hS.other _ _ ne_k1_k2 Q1
 replace M := hS.mo _ N_k2 M
 clear hS
 refine w_nil (xn_then (w_seq (w_block (w_seq (w_reg ?_)))))
 refine wl_m (.tmp 0) (pt z.cb 0) ?_
 refine wl_nc (.tmp 7) z.cb 0 rfl rfl rfl ?_
 refine wl_f 111 0 (.tmp 8) (pt z.cb 0) (pt z.cb 0) ?_
 refine wl_f 49 0 (.tmp 9) (pt z.cb 0) (pt z.cb 0) ?_
 refine wl_l 9 (.tmp 10) (pt z.cb 0) (.string z.d.nm) (D.run_oneR (hC.rw.mo M).at' 9 0 rfl Tryd.underlying9 rfl) ?_
 cases hf0 : may z.d.nm with
 | true =>
  refine wl_call 58 [(.tmp 11)] _ [.string z.d.nm] (.bool true) rfl rfl (fun _ _ => by kernel_rfl) (cB hf0 (may_n z.d.nm _)) rfl ?_
  intro w4 hq
  replace Q1 := Q1.mo hq
  replace Q2 := Q2.mo hq
  replace M := M.trans hq
  clear hq
  refine wl_un (fun v => Op.unary .not v) (.tmp 12) (.bool true) (.bool false) (fun _ => rfl) rfl (by kernel_rfl) rfl ?_
  refine wl_m (.tmp 13) (.bool false) ?_
  refine w_nil (xn_then (w_condF rfl (w_seq (w_reg ?_))))
  refine wl_m (.tmp 0) (pt z.cb 0) ?_
  refine wl_nc (.tmp 16) z.cb 0 rfl rfl rfl ?_
  refine wl_f 111 0 (.tmp 17) (pt z.cb 0) (pt z.cb 0) ?_
  refine wl_f 49 2 (.tmp 18) (pt z.cb 0) (pt z.cb 5) ?_
  refine wl_l 46 (.tmp 19) (pt z.cb 5) (.slice z.d.pt z.d.tb.length z.d.ct) (D.run_oneR (hC.rw.mo M).at' 46 5 rfl Tryd.underlying46 rfl) ?_
  refine wl_val (.int .i64 ((z.d.tb.length : Nat) : Int)) (len46 _ _ _ _ _ (by exact rfl) _ _ _ _ _ _) rfl ?_
  cases hf1 : decide (8 < z.d.tb.length) with
  | true =>
   have hf1p := of_decide_eq_true hf1
   refine wl_b .gtr 3 (.tmp 21) (.const (.int .i64 (8))) (.int .i64 ((z.d.tb.length : Nat) : Int)) (.int .i64 (8)) (.bool true) (gtN hf1 _ _ _) ?_
   refine wl_m (.tmp 22) (.bool true) ?_
   refine wl_skip rfl (wl_skip rfl (wl_skip rfl (wl_skip rfl (wl_skip rfl (wl_skip rfl (wl_skip rfl ?_))))))
   refine wl_pick (.tmp 23) (.const (.bool true)) (.tmp 30) true (.bool true) (fun _ => rfl) rfl rfl rfl ?_
   refine wl_m (.tmp 31) (.bool true) ?_
   refine wl_skip rfl (wl_skip rfl ?_)
   refine wl_pick (.tmp 32) (.const (.bool true)) (.tmp 34) true (.bool true) (fun _ => rfl) rfl rfl rfl ?_
   refine wl_m (.tmp 35) (.bool true) ?_
   refine w_nil (xn_then (w_condT rfl (w_seq (w_reg ?_))))
   refine wl_l 52 (.tmp 4) (pt k2 0) (.agg #[.int .i64 (0), .int .i64 0, .int .i64 0, .int .i64 0, .int .i64 0]) (run_row Q2 52 0 5 _ rfl Tryd.underlying52 rfl sz52) ?_
   refine wl_st 52 (.tmp 2) (.tmp 36) k1 0 #[.int .i64 (0), .int .i64 0, .int .i64 0, .int .i64 0, .int .i64 0] _ [.int .i64 (0), .int .i64 0, .int .i64 0, .int .i64 0, .int .i64 0] Q1 rfl rfl rfl rfl rfl sz52 rfl rfl rfl ?_
   intro w5 hS Qn
   replace Q1 := Qn
   clear Qn
   replace Q2 := hS.other _ _ ne_k1_k2.symm Q2
   replace M := hS.mo _ N_k1 M
   clear hS
   refine wl_m (.const (.int .i64 (92))) (.int .i64 (92)) ?_
   refine w_nil (xn_then (w_ret (xr_blk (xr_then ?_))))
   exact w_ret2 _ _ (.agg #[.int .i64 (0), .int .i64 0, .int .i64 0, .int .i64 0, .int .i64 0]) (.int .i64 (92)) rfl ⟨k1, rfl, (run_row Q1 52 0 5 _ rfl Tryd.underlying52 rfl sz52)⟩ rfl ⟨by unfold whE; rw [hf0, hf1]; rfl, M⟩
  | false =>
   have hf1p := of_decide_eq_false hf1
   refine wl_b .gtr 3 (.tmp 21) (.const (.int .i64 (8))) (.int .i64 ((z.d.tb.length : Nat) : Int)) (.int .i64 (8)) (.bool false) (gtN hf1 _ _ _) ?_
   refine wl_m (.tmp 22) (.bool false) ?_
   refine wl_m (.tmp 0) (pt z.cb 0) ?_
   refine wl_nc (.tmp 24) z.cb 0 rfl rfl rfl ?_
   refine wl_f 111 0 (.tmp 25) (pt z.cb 0) (pt z.cb 0) ?_
   refine wl_f 49 3 (.tmp 26) (pt z.cb 0) (pt z.cb 6) ?_
   refine wl_l 47 (.tmp 27) (pt z.cb 6) (.slice z.d.pp z.d.pg.length z.d.cp) (D.run_oneR (hC.rw.mo M).at' 47 6 rfl Tryd.underlying47 rfl) ?_
   refine wl_val (.int .i64 ((z.d.pg.length : Nat) : Int)) (len47 _ _ _ _ _ (by exact rfl) _ _ _ _ _ _) rfl ?_
   cases hf2 : decide (16 < z.d.pg.length) with
   | true =>
    have hf2p := of_decide_eq_true hf2
    refine wl_b .gtr 3 (.tmp 29) (.const (.int .i64 (16))) (.int .i64 ((z.d.pg.length : Nat) : Int)) (.int .i64 (16)) (.bool true) (gtN hf2 _ _ _) ?_
    refine wl_pick (.tmp 23) (.const (.bool true)) (.tmp 30) false (.bool true) (fun _ => rfl) rfl rfl rfl ?_
    refine wl_m (.tmp 31) (.bool true) ?_
    refine wl_skip rfl (wl_skip rfl ?_)
    refine wl_pick (.tmp 32) (.const (.bool true)) (.tmp 34) true (.bool true) (fun _ => rfl) rfl rfl rfl ?_
    refine wl_m (.tmp 35) (.bool true) ?_
    refine w_nil (xn_then (w_condT rfl (w_seq (w_reg ?_))))
    refine wl_l 52 (.tmp 4) (pt k2 0) (.agg #[.int .i64 (0), .int .i64 0, .int .i64 0, .int .i64 0, .int .i64 0]) (run_row Q2 52 0 5 _ rfl Tryd.underlying52 rfl sz52) ?_
    refine wl_st 52 (.tmp 2) (.tmp 36) k1 0 #[.int .i64 (0), .int .i64 0, .int .i64 0, .int .i64 0, .int .i64 0] _ [.int .i64 (0), .int .i64 0, .int .i64 0, .int .i64 0, .int .i64 0] Q1 rfl rfl rfl rfl rfl sz52 rfl rfl rfl ?_
    intro w5 hS Qn
    replace Q1 := Qn
    clear Qn
    replace Q2 := hS.other _ _ ne_k1_k2.symm Q2
    replace M := hS.mo _ N_k1 M
    clear hS
    refine wl_m (.const (.int .i64 (92))) (.int .i64 (92)) ?_
    refine w_nil (xn_then (w_ret (xr_blk (xr_then ?_))))
    exact w_ret2 _ _ (.agg #[.int .i64 (0), .int .i64 0, .int .i64 0, .int .i64 0, .int .i64 0]) (.int .i64 (92)) rfl ⟨k1, rfl, (run_row Q1 52 0 5 _ rfl Tryd.underlying52 rfl sz52)⟩ rfl ⟨by unfold whE; rw [hf0, hf1, hf2]; rfl, M⟩
   | false =>
    have hf2p := of_decide_eq_false hf2
    refine wl_b .gtr 3 (.tmp 29) (.const (.int .i64 (16))) (.int .i64 ((z.d.pg.length : Nat) : Int)) (.int .i64 (16)) (.bool false) (gtN hf2 _ _ _) ?_
    refine wl_pick (.tmp 23) (.const (.bool true)) (.tmp 30) false (.bool false) (fun _ => rfl) rfl rfl rfl ?_
    refine wl_m (.tmp 31) (.bool false) ?_
    refine wl_m (.tmp 0) (pt z.cb 0) ?_
    cases hf3 : tms z.L with
    | true =>
     refine wl_call 59 [(.tmp 33)] _ [pt z.cb 0] (.bool true) rfl rfl (fun _ _ => by kernel_rfl) (cB hf3 (tms_n (hC.mo M))) rfl ?_
     intro w5 hq
     replace Q1 := Q1.mo hq
     replace Q2 := Q2.mo hq
     replace M := M.trans hq
     clear hq
     refine wl_pick (.tmp 32) (.const (.bool true)) (.tmp 34) false (.bool true) (fun _ => rfl) rfl rfl rfl ?_
     refine wl_m (.tmp 35) (.bool true) ?_
     refine w_nil (xn_then (w_condT rfl (w_seq (w_reg ?_))))
     refine wl_l 52 (.tmp 4) (pt k2 0) (.agg #[.int .i64 (0), .int .i64 0, .int .i64 0, .int .i64 0, .int .i64 0]) (run_row Q2 52 0 5 _ rfl Tryd.underlying52 rfl sz52) ?_
     refine wl_st 52 (.tmp 2) (.tmp 36) k1 0 #[.int .i64 (0), .int .i64 0, .int .i64 0, .int .i64 0, .int .i64 0] _ [.int .i64 (0), .int .i64 0, .int .i64 0, .int .i64 0, .int .i64 0] Q1 rfl rfl rfl rfl rfl sz52 rfl rfl rfl ?_
     intro w6 hS Qn
     replace Q1 := Qn
     clear Qn
     replace Q2 := hS.other _ _ ne_k1_k2.symm Q2
     replace M := hS.mo _ N_k1 M
     clear hS
     refine wl_m (.const (.int .i64 (92))) (.int .i64 (92)) ?_
     refine w_nil (xn_then (w_ret (xr_blk (xr_then ?_))))
     exact w_ret2 _ _ (.agg #[.int .i64 (0), .int .i64 0, .int .i64 0, .int .i64 0, .int .i64 0]) (.int .i64 (92)) rfl ⟨k1, rfl, (run_row Q1 52 0 5 _ rfl Tryd.underlying52 rfl sz52)⟩ rfl ⟨by unfold whE; rw [hf0, hf1, hf2, hf3]; rfl, M⟩
    | false =>
     refine wl_call 59 [(.tmp 33)] _ [pt z.cb 0] (.bool false) rfl rfl (fun _ _ => by kernel_rfl) (cB hf3 (tms_n (hC.mo M))) rfl ?_
     intro w5 hq
     replace Q1 := Q1.mo hq
     replace Q2 := Q2.mo hq
     replace M := M.trans hq
     clear hq
     refine wl_pick (.tmp 32) (.const (.bool true)) (.tmp 34) false (.bool false) (fun _ => rfl) rfl rfl rfl ?_
     refine wl_m (.tmp 35) (.bool false) ?_
     refine w_nil (xn_then (w_condF rfl (w_skip (xn_blk (xn_then (w_seq (w_reg ?_)))))))
     refine wl_l 52 (.tmp 4) (pt k2 0) (.agg #[.int .i64 (0), .int .i64 0, .int .i64 0, .int .i64 0, .int .i64 0]) (run_row Q2 52 0 5 _ rfl Tryd.underlying52 rfl sz52) ?_
     refine wl_st 52 (.tmp 2) (.tmp 37) k1 0 #[.int .i64 (0), .int .i64 0, .int .i64 0, .int .i64 0, .int .i64 0] _ [.int .i64 (0), .int .i64 0, .int .i64 0, .int .i64 0, .int .i64 0] Q1 rfl rfl rfl rfl rfl sz52 rfl rfl rfl ?_
     intro w6 hS Qn
     replace Q1 := Qn
     clear Qn
     replace Q2 := hS.other _ _ ne_k1_k2.symm Q2
     replace M := hS.mo _ N_k1 M
     clear hS
     refine wl_m (.const (.int .i64 (0))) (.int .i64 (0)) ?_
     refine w_nil (xn_then (w_ret ?_))
     exact w_ret2 _ _ (.agg #[.int .i64 (0), .int .i64 0, .int .i64 0, .int .i64 0, .int .i64 0]) (.int .i64 (0)) rfl ⟨k1, rfl, (run_row Q1 52 0 5 _ rfl Tryd.underlying52 rfl sz52)⟩ rfl ⟨by unfold whE; rw [hf0, hf1, hf2, hf3]; rfl, M⟩
 | false =>
  refine wl_call 58 [(.tmp 11)] _ [.string z.d.nm] (.bool false) rfl rfl (fun _ _ => by kernel_rfl) (cB hf0 (may_n z.d.nm _)) rfl ?_
  intro w4 hq
  replace Q1 := Q1.mo hq
  replace Q2 := Q2.mo hq
  replace M := M.trans hq
  clear hq
  refine wl_un (fun v => Op.unary .not v) (.tmp 12) (.bool false) (.bool true) (fun _ => rfl) rfl (by kernel_rfl) rfl ?_
  refine wl_m (.tmp 13) (.bool true) ?_
  refine w_nil (xn_then (w_condT rfl (w_seq (w_reg ?_))))
  refine wl_l 52 (.tmp 4) (pt k2 0) (.agg #[.int .i64 (0), .int .i64 0, .int .i64 0, .int .i64 0, .int .i64 0]) (run_row Q2 52 0 5 _ rfl Tryd.underlying52 rfl sz52) ?_
  refine wl_st 52 (.tmp 2) (.tmp 14) k1 0 #[.int .i64 (0), .int .i64 0, .int .i64 0, .int .i64 0, .int .i64 0] _ [.int .i64 (0), .int .i64 0, .int .i64 0, .int .i64 0, .int .i64 0] Q1 rfl rfl rfl rfl rfl sz52 rfl rfl rfl ?_
  intro w5 hS Qn
  replace Q1 := Qn
  clear Qn
  replace Q2 := hS.other _ _ ne_k1_k2.symm Q2
  replace M := hS.mo _ N_k1 M
  clear hS
  refine wl_m (.const (.int .i64 (90))) (.int .i64 (90)) ?_
  refine w_nil (xn_then (w_ret (xr_blk (xr_then ?_))))
  exact w_ret2 _ _ (.agg #[.int .i64 (0), .int .i64 0, .int .i64 0, .int .i64 0, .int .i64 0]) (.int .i64 (90)) rfl ⟨k1, rfl, (run_row Q1 52 0 5 _ rfl Tryd.underlying52 rfl sz52)⟩ rfl ⟨by unfold whE; rw [hf0]; rfl, M⟩
end Go.Proofs.YtnffhcjmpjajlaaDoor

namespace Go.Proofs.YtnffhcjmpjajlaaDoor
open Go.RowKit D
theorem isn {α : Type} {o : Option α} (h : o.isSome = false) : o = none := by cases o with | none => rfl | some _ => cases h
theorem fs_none {α : Type} {g : Nat → Option α} : ∀ {N : Nat}, (∀ j, j < N → g j = none) → (List.range N).findSome? g = none
 | 0, _ => rfl
 | N + 1, h => by
  rw [List.range_succ, List.findSome?_append, fs_none (fun j hj => h j (by omega))]
  simp [h N (by omega)]
theorem fs_hit {α : Type} {g : Nat → Option α} {n : Nat} {x : α} (h : ∀ j, j < n → g j = none) (hx : g n = some x) : ∀ {N : Nat}, n < N → (List.range N).findSome? g = some x
 | 0, hn => by omega
 | N + 1, hn => by
  rw [List.range_succ, List.findSome?_append]
  rcases Nat.lt_or_ge n N with q | q
  ·rw [fs_hit h hx q]; rfl
  ·have e : n = N := by omega
   subst e
   rw [fs_none h]
   simp [hx]
theorem fs_step {α : Type} {g : Nat → Option α} {n : Nat} (h : ∀ j, j < n → g j = none) (hx : g n = none) : ∀ j, j < n + 1 → g j = none := fun j hj => by
 rcases Nat.lt_or_ge j n with q | q
 ·exact h j q
 ·rw [show j = n by omega]; exact hx
def erY (b : Value) (e : Int) : Option (Value × Int) := if e = 0 then none else some (b, e)
theorem er_0 {b : Value} {e : Int} (h : e = 0) : erY b e = none := if_pos h
theorem er_1 {b : Value} {e : Int} (h : e ≠ 0) : erY b e = some (b, e) := if_neg h
def rv (o : Option (Value × Int)) : Value := .tuple #[(o.getD (plc 0 0 0 0 0, 0)).1, .int .i64 (o.getD (plc 0 0 0 0 0, 0)).2]
/-! Tables. -/
def tbE (T : List (ByteArray × Int)) (x : Tb) : Int := if may x.nm then (if (lk T x.nm).isSome then 5 else if decide (x.st.length < 1) || decide (32 < x.st.length) then 92 else 0) else 90
def tbA (l : List Tb) : Nat → List (ByteArray × Int)
 | 0 => []
 | i + 1 => match l[i]? with
  | some x => (x.nm, (i : Int)) :: tbA l i
  | none => tbA l i
theorem tbA_s {l : List Tb} {i : Nat} {x : Tb} (h : l[i]? = some x) : tbA l (i + 1) = (x.nm, (i : Int)) :: tbA l i := by rw [tbA, h]
theorem tbA_len (l : List Tb) : ∀ i, (tbA l i).length ≤ i
 | 0 => Nat.le_refl _
 | i + 1 => by
  rw [tbA]; have := tbA_len l i
  split <;> simp <;> omega
def tbG (l : List Tb) (i : Nat) : Option (Value × Int) := (l[i]?).bind (fun x => erY (plc 1 0 0 i 0) (tbE (tbA l i) x))
theorem tbG_of {l : List Tb} {i : Nat} {x : Tb} (h : l[i]? = some x) : tbG l i = erY (plc 1 0 0 i 0) (tbE (tbA l i) x) := by unfold tbG; rw [h]; rfl
def tbR (l : List Tb) : Option (Value × Int) := (List.range l.length).findSome? (tbG l)
/-! Sections and items. -/
def itA (l : List It) : Nat → List (ByteArray × Int)
 | 0 => []
 | i + 1 => match l[i]? with
  | some x => (x.nm, x.k) :: itA l i
  | none => itA l i
theorem itA_s {l : List It} {i : Nat} {x : It} (h : l[i]? = some x) : itA l (i + 1) = (x.nm, x.k) :: itA l i := by rw [itA, h]
theorem itA_len (l : List It) : ∀ i, (itA l i).length ≤ i
 | 0 => Nat.le_refl _
 | i + 1 => by
  rw [itA]; have := itA_len l i
  split <;> simp <;> omega
def kdA (L : List S5) (p : Nat) : Nat → List (ByteArray × Int)
 | 0 => []
 | m + 1 => match L[m]? with
  | some x => if x.pr = p then (x.nm, (m : Int)) :: kdA L p m else kdA L p m
  | none => kdA L p m
theorem kdA_len (L : List S5) (p : Nat) : ∀ i, (kdA L p i).length ≤ i
 | 0 => Nat.le_refl _
 | i + 1 => by
  rw [kdA]; have := kdA_len L p i
  split
  ·split <;> simp <;> omega
  ·omega
def stI (L : List S5) (n i : Nat) (j : Nat) : List (ByteArray × Int) := if j < n then itA (itO L j) (itO L j).length else if j = n then itA (itO L n) i else []
def stK (L : List S5) (n : Nat) (p : Nat) : List (ByteArray × Int) := kdA L p n
theorem stI_up {L : List S5} {n i : Nat} {x : S5} {y : It} (hx : L[n]? = some x) (hy : x.items[i]? = some y) : upF (stI L n i) n ((y.nm, y.k) :: stI L n i n) = stI L n (i + 1) := by
 funext j
 unfold upF stI
 by_cases h : j = n
 ·subst h
  rw [if_pos rfl, if_neg (Nat.lt_irrefl _), if_pos rfl, if_neg (Nat.lt_irrefl _), if_pos rfl, itO_of hx, itA_s hy]
 ·rw [if_neg h, if_neg h, if_neg h]
theorem stI_self {L : List S5} {n i : Nat} : stI L n i n = itA (itO L n) i := by unfold stI; rw [if_neg (Nat.lt_irrefl _), if_pos rfl]
theorem stI_next {L : List S5} {n : Nat} {x : S5} (hx : L[n]? = some x) : stI L n x.items.length = stI L (n + 1) 0 := by
 funext j
 unfold stI
 rcases Nat.lt_trichotomy j n with h | h | h
 ·rw [if_pos h, if_pos (by omega)]
 ·subst h
  rw [if_neg (Nat.lt_irrefl _), if_pos rfl, if_pos (Nat.lt_succ_self _), itO_of hx]
 ·rw [if_neg (by omega), if_neg (by omega), if_neg (by omega)]
  split
  ·rfl
  ·rfl
theorem stK_up {L : List S5} {n : Nat} {x : S5} (hx : L[n]? = some x) {p : Nat} (hp : x.pr = p) : upF (stK L n) p ((x.nm, (n : Int)) :: stK L n p) = stK L (n + 1) := by
 funext j
 unfold upF stK
 by_cases h : j = p
 ·subst h; rw [if_pos rfl, kdA, hx]; simp [hp]
 ·rw [if_neg h, kdA, hx]
  have : ¬ x.pr = j := fun e => h (by omega)
  simp [this]
theorem stK_0 {L : List S5} {n : Nat} {x : S5} (hx : L[n]? = some x) (hp : x.pr < 0) : stK L (n + 1) = stK L n := by
 funext j
 unfold stK
 rw [kdA, hx]
 have : ¬ x.pr = j := fun e => by omega
 simp [this]
def rmE (n : Nat) (x : S5) : Bool := if n = 0 then decide (x.mx = 0) else decide (1 ≤ x.mx) && decide (x.mx ≤ 1024)
def nsE (L : List S5) (A : Al) (n : Nat) (x : S5) : Int := if n = 0 then (if x.nm = ⟨#[]⟩ then 0 else 90) else if may x.nm then (if (lk (A.K x.pr.toNat) x.nm).isSome || tkn L A.I x.pr.toNat x.nm then 5 else 0) else 90
def seE (L : List S5) (A : Al) (n : Nat) (x : S5) : Int := if nsE L A n x = 0 then (if decide (64 < x.items.length) || !rmE n x then 92 else 0) else nsE L A n x
def itE (L : List S5) (I : Nat → List (ByteArray × Int)) (n : Nat) (y : It) : Int := if may y.nm then (if tkn L I n y.nm then 5 else 0) else 90
def ixG (L : List S5) (n i : Nat) : Option (Value × Int) := ((itO L n)[i]?).bind (fun y => erY (plc 3 n i 0 0) (itE L (stI L n i) n y))
theorem ixG_of {L : List S5} {n i : Nat} {x : S5} {y : It} (hx : L[n]? = some x) (hy : x.items[i]? = some y) : ixG L n i = erY (plc 3 n i 0 0) (itE L (stI L n i) n y) := by unfold ixG; rw [itO_of hx, hy]; rfl
def seG (T : List (ByteArray × Int)) (L : List S5) (n : Nat) : Option (Value × Int) := (L[n]?).bind (fun x => (erY (plc 2 n 0 0 0) (seE L ⟨T, stI L n 0, stK L n⟩ n x)).or ((List.range x.items.length).findSome? (ixG L n)))
theorem seG_of {T : List (ByteArray × Int)} {L : List S5} {n : Nat} {x : S5} (hx : L[n]? = some x) : seG T L n = (erY (plc 2 n 0 0 0) (seE L ⟨T, stI L n 0, stK L n⟩ n x)).or ((List.range x.items.length).findSome? (ixG L n)) := by unfold seG; rw [hx]; rfl
def seR (T : List (ByteArray × Int)) (L : List S5) : Option (Value × Int) := (List.range L.length).findSome? (seG T L)
/-! What formulas read. -/
def foG (L : List S5) (A : Al) (n i : Nat) : Option (Value × Int) := ((itO L n)[i]?).bind (fun y => if !decide (y.k = 1) && lck (kno L A n) y.ex then some (plc 3 n i 0 0, 91) else none)
theorem foG_of {L : List S5} {A : Al} {n i : Nat} {x : S5} {y : It} (hx : L[n]? = some x) (hy : x.items[i]? = some y) : foG L A n i = if !decide (y.k = 1) && lck (kno L A n) y.ex then some (plc 3 n i 0 0, 91) else none := by unfold foG; rw [itO_of hx, hy]; rfl
def foS (L : List S5) (A : Al) (n : Nat) : Option (Value × Int) := (List.range (itO L n).length).findSome? (foG L A n)
def foR (L : List S5) (A : Al) : Option (Value × Int) := (List.range L.length).findSome? (foS L A)
/-! Pages. -/
def pgE (L : List S5) (A : Al) (P : List (ByteArray × Int)) (x : Pg) : Int := if may x.nm then (if (lk P x.nm).isSome then 5 else if decide (64 < x.its.length) then 92 else if lck (kno L A 0) x.wh then 91 else 0) else 90
def shE (A : Al) (S : List (ByteArray × Int)) (s : ByteArray) : Int := if !decide ((lk (A.I 0) s).getD 0 = 1) && !(lk (A.K 0) s).isSome then 91 else if (lk S s).isSome then 5 else 0
def shA (p : Int) (S : List (ByteArray × Int)) (l : List ByteArray) : Nat → List (ByteArray × Int)
 | 0 => S
 | i + 1 => match l[i]? with
  | some x => (x, p) :: shA p S l i
  | none => shA p S l i
theorem shA_s {p : Int} {S : List (ByteArray × Int)} {l : List ByteArray} {i : Nat} {x : ByteArray} (h : l[i]? = some x) : shA p S l (i + 1) = (x, p) :: shA p S l i := by rw [shA, h]
theorem shA_len (p : Int) (S : List (ByteArray × Int)) (l : List ByteArray) : ∀ i, (shA p S l i).length ≤ S.length + i
 | 0 => Nat.le_refl _
 | i + 1 => by
  rw [shA]; have := shA_len p S l i
  split <;> simp <;> omega
def shG (A : Al) (p : Int) (S : List (ByteArray × Int)) (l : List ByteArray) (i : Nat) : Option Int := (l[i]?).bind (fun x => if shE A (shA p S l i) x = 0 then none else some (shE A (shA p S l i) x))
theorem shG_of {A : Al} {p : Int} {S : List (ByteArray × Int)} {l : List ByteArray} {i : Nat} {x : ByteArray} (h : l[i]? = some x) : shG A p S l i = if shE A (shA p S l i) x = 0 then none else some (shE A (shA p S l i) x) := by unfold shG; rw [h]; rfl
def shR (A : Al) (p : Int) (S : List (ByteArray × Int)) (l : List ByteArray) : Int := ((List.range l.length).findSome? (shG A p S l)).getD 0
def pgA (l : List Pg) : Nat → List (ByteArray × Int)
 | 0 => []
 | i + 1 => match l[i]? with
  | some x => (x.nm, (i : Int)) :: pgA l i
  | none => pgA l i
theorem pgA_s {l : List Pg} {i : Nat} {x : Pg} (h : l[i]? = some x) : pgA l (i + 1) = (x.nm, (i : Int)) :: pgA l i := by rw [pgA, h]
theorem pgA_len (l : List Pg) : ∀ i, (pgA l i).length ≤ i
 | 0 => Nat.le_refl _
 | i + 1 => by
  rw [pgA]; have := pgA_len l i
  split <;> simp <;> omega
def pgS (l : List Pg) : Nat → List (ByteArray × Int)
 | 0 => []
 | i + 1 => match l[i]? with
  | some x => shA i (pgS l i) x.its x.its.length
  | none => pgS l i
theorem pgS_s {l : List Pg} {i : Nat} {x : Pg} (h : l[i]? = some x) : pgS l (i + 1) = shA i (pgS l i) x.its x.its.length := by rw [pgS, h]
def pgF (L : List S5) (A : Al) (l : List Pg) (i : Nat) (x : Pg) : Int := if pgE L A (pgA l i) x = 0 then shR A i (pgS l i) x.its else pgE L A (pgA l i) x
def pgG (L : List S5) (A : Al) (l : List Pg) (i : Nat) : Option (Value × Int) := (l[i]?).bind (fun x => erY (plc 4 0 0 0 i) (pgF L A l i x))
theorem pgG_of {L : List S5} {A : Al} {l : List Pg} {i : Nat} {x : Pg} (h : l[i]? = some x) : pgG L A l i = erY (plc 4 0 0 0 i) (pgF L A l i x) := by unfold pgG; rw [h]; rfl
def pgR (L : List S5) (A : Al) (l : List Pg) : Option (Value × Int) := (List.range l.length).findSome? (pgG L A l)
end Go.Proofs.YtnffhcjmpjajlaaDoor

