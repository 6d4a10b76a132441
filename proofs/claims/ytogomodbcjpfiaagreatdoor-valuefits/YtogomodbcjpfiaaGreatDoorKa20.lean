/-
  A part of the proof.
-/
import Derived.Test.YtogomodbcjpfiaaGreatDoorKa19
import Derived.Test.YtogomodbcjpfiaaGreatDoorKa17
import Derived.Test.YtogomodbcjpfiaaGreatDoorKa16
import Derived.Test.YtogomodbcjpfiaaGreatDoorKa15
import Derived.Test.YtogomodbcjpfiaaGreatDoorKa14
import Derived.Test.YtogomodbcjpfiaaGreatDoorKa1
import Derived.Shelf.Strings.Builder1
import Derived.Shelf.Strings.Builder2
import Derived.Shelf.Small.Bits
import Derived.Shelf.Small.Wraps
import Derived.Shelf.Strings.BuilderF
import Derived.Shelf.Strings.BuilderK
import Derived.Shelf.Strings.Prefix
import Derived.Shelf.Bits.Mul64
import Derived.Shelf.Strings.Repeat
import Derived.Test.YtogomodbcjpfiaaGreatDoorProg
import Derived.Shelf.Strconv.Itoa0
import Derived.Test.YtogomodbcjpfiaaGreatDoorKa11
import Derived.Test.YtogomodbcjpfiaaGreatDoorKa9
import Derived.Test.YtogomodbcjpfiaaGreatDoorKa4
import Derived.Test.YtogomodbcjpfiaaGreatDoorKa3
import Derived.Test.YtogomodbcjpfiaaGreatDoorKa2
import Derived.RegionTactic
import Derived.WalkKit
import Derived.WalkSpells
import Derived.Handy
import Derived.BigQuiet
import Derived.Deep.RegionHeld3
import Derived.Deep.MidRow
import Derived.BigCall
import Derived.Test.YtogomodbcjpfiaaGreatDoorKa8
import Derived.Test.YtogomodbcjpfiaaGreatDoorKa5
import Derived.Deep.CutBlock
import Derived.Deep.CutRange
import Derived.Test.YtogomodbcjpfiaaGreatDoorKa7
import Derived.Test.YtogomodbcjpfiaaGreatDoorKa6
import Derived.ChangeKeysEq
import Derived.ScopeJumps
import Derived.WalkMore
import Derived.Laws.StructEq
import Derived.Test.YtogomodbcjpfiaaGreatDoorKa10
import Derived.Test.YtogomodbcjpfiaaGreatDoorKa13
import Derived.Test.YtogomodbcjpfiaaGreatDoorKa12
import Derived.Lib.CutLaws
import Derived.Lib.IndexBytes
import Derived.Maps.AppendAt
import Derived.Deep.AppendLies
import Derived.Laws.BytesString
namespace Go.Proofs.YtogomodbcjpfiaaGreatDoor.V
open Go.RowKit
theorem ixh : ∀ {a : Nat} (_ : a < 16) (w : World), (Instr.index 9 (.string ⟨#[48, 49, 50, 51, 52, 53, 54, 55, 56, 57, 97, 98, 99, 100, 101, 102]⟩) (.int .u8 (a : Int))).run Tryz.prog w = .ok (.int .u8 (((hx a).toNat : Nat) : Int)) w
 | 0, _, _ => by kernel_rfl
 | 1, _, _ => by kernel_rfl
 | 2, _, _ => by kernel_rfl
 | 3, _, _ => by kernel_rfl
 | 4, _, _ => by kernel_rfl
 | 5, _, _ => by kernel_rfl
 | 6, _, _ => by kernel_rfl
 | 7, _, _ => by kernel_rfl
 | 8, _, _ => by kernel_rfl
 | 9, _, _ => by kernel_rfl
 | 10, _, _ => by kernel_rfl
 | 11, _, _ => by kernel_rfl
 | 12, _, _ => by kernel_rfl
 | 13, _, _ => by kernel_rfl
 | 14, _, _ => by kernel_rfl
 | 15, _, _ => by kernel_rfl
 | a + 16, h, _ => absurd h (by omega)
theorem eq5d {b c : Nat} {r : Bool} (h : decide (b = c) = r) (x y : Operand) (w : World) : (do eqGuard .eql 5 x y (.int .u8 (b : Int)) (.int .u8 (c : Int)); binOp .eql 5 (.int .u8 (b : Int)) (.int .u8 (c : Int))).run Tryz.prog w = .ok (.bool r) w := by
 have e : (do eqGuard .eql 5 x y (.int .u8 (b : Int)) (.int .u8 (c : Int)); binOp .eql 5 (.int .u8 (b : Int)) (.int .u8 (c : Int))).run Tryz.prog w = .ok (.bool ((b : Int) == (c : Int))) w := by kernel_rfl
 rw [e, ← h]
 congr 2
 rw [Bool.eq_iff_iff, beq_iff_eq, decide_eq_true_iff]; omega
theorem idx_bb {s : ByteArray} {k b : Nat} (hb : bt s k = (b : Int)) (h : k < s.size) (w : World) : (Instr.index 9 (.string s) (.int .i64 (k : Int))).run Tryz.prog w = .ok (.int .u8 (b : Int)) w := hb ▸ idx_b h w
theorem tu8 {b : Nat} (h : b < 256) : (b.toUInt8).toNat = b := by rw [Nat.toUInt8, UInt8.toNat_ofNat']; omega
theorem qb_1 {b : Nat} (h : b = 34 ∨ b = 92) : qb b.toUInt8 = [92, b.toUInt8] := by rcases h with rfl | rfl <;> rfl
theorem qb_2 {b : Nat} (hb : b < 256) (h : b < 32 ∨ 126 < b) : qb b.toUInt8 = [92, 120, hx (b / 16), hx (b % 16)] := by
 have e := tu8 hb
 have n34 : ¬ b.toUInt8 = 34 := fun h => by rw [h] at e; have : (34 : UInt8).toNat = 34 := rfl; omega
 have n92 : ¬ b.toUInt8 = 92 := fun h => by rw [h] at e; have : (92 : UInt8).toNat = 92 := rfl; omega
 unfold qb
 rw [if_neg (fun h => h.elim n34 n92), if_pos (by rw [UInt8.lt_iff_toNat_lt, UInt8.lt_iff_toNat_lt, e]; exact h), e]
theorem qb_3 {b : Nat} (hb : b < 256) (h1 : ¬ b = 34) (h2 : ¬ b = 92) (h3 : ¬ b < 32) (h4 : ¬ 126 < b) : qb b.toUInt8 = [b.toUInt8] := by
 have e := tu8 hb
 have n34 : ¬ b.toUInt8 = 34 := fun h => by rw [h] at e; have : (34 : UInt8).toNat = 34 := rfl; omega
 have n92 : ¬ b.toUInt8 = 92 := fun h => by rw [h] at e; have : (92 : UInt8).toNat = 92 := rfl; omega
 refine qb_self n34 n92 ?_
 unfold prn; rw [e]; simp; omega
theorem qi_step {s : ByteArray} {k b : Nat} {L : List UInt8} (hk : k < s.size) (hb : bt s k = (b : Int)) (hq : qb b.toUInt8 = L) : 34 :: qi ((by8 s).take k) ++ L = 34 :: qi ((by8 s).take (k + 1)) := by
 have e : s[k] = b.toUInt8 := by
  rw [bt_in hk] at hb
  refine UInt8.toNat_inj.1 ?_
  have hl := UInt8.toNat_lt s[k]
  rw [tu8 (by omega)]; omega
 have h : (by8 s).take (k + 1) = (by8 s).take k ++ [b.toUInt8] := by
  rw [List.take_add_one, List.getElem?_eq_getElem (by rw [by8_len]; exact hk)]
  rw [← e]; rfl
 rw [h, qi_app, ← hq]
 simp [qi]
theorem bt_nat (s : ByteArray) (k : Nat) : ∃ b : Nat, bt s k = (b : Int) ∧ b < 256 := by
 have h := bt_rg s k
 exact ⟨(bt s k).toNat, by omega, by omega⟩
end Go.Proofs.YtogomodbcjpfiaaGreatDoor.V

namespace Go.Proofs.YtogomodbcjpfiaaGreatDoor.V
open Go.RowKit
theorem shr4 {b : Nat} (_h : b < 256) (x y : Operand) (w : World) : (do eqGuard .shr 5 x y (.int .u8 (b : Int)) (.int .u64 4); binOp .shr 5 (.int .u8 (b : Int)) (.int .u64 4)).run Tryz.prog w = .ok (.int .u8 ((b / 16 : Nat) : Int)) w := by
 simp [go_sem]
set_option maxRecDepth 100000 in
theorem and15f : ∀ a : Fin 256, bits BinOp.and IntKind.u8 ((a.val : Nat) : Int) 15 = ((a.val % 16 : Nat) : Int) := by decide +kernel
theorem and15 {b : Nat} (h : b < 256) (x y : Operand) (w : World) : (do eqGuard .and 5 x y (.int .u8 (b : Int)) (.int .u8 15); binOp .and 5 (.int .u8 (b : Int)) (.int .u8 15)).run Tryz.prog w = .ok (.int .u8 ((b % 16 : Nat) : Int)) w := by
 have h2 := and15f ⟨b, h⟩
 simp only at h2
 have e : (do eqGuard .and 5 x y (.int .u8 (b : Int)) (.int .u8 15); binOp .and 5 (.int .u8 (b : Int)) (.int .u8 15)).run Tryz.prog w = .ok (.int .u8 (bits BinOp.and IntKind.u8 (b : Int) 15)) w := by kernel_rfl
 rw [e, h2]
theorem prn_d {b : Nat} (h : prn ((b : Nat) : Int) = false) : b < 32 ∨ 126 < b := by
 unfold prn at h; simp at h; omega
theorem prn_e {b : Nat} (h : prn ((b : Nat) : Int) = true) : ¬ b < 32 ∧ ¬ 126 < b := by
 unfold prn at h; simp at h; omega
theorem bc_str (L : List UInt8) (s : ByteArray) : Lib.byteCells L ++ Lib.strCells s = Lib.byteCells (L ++ by8 s) := by
 rw [Lib.strCells_eq, Lib.byteCells_append]
def Bd (L : List UInt8) (n : Nat) : Prop := L.length ≤ 4000000000008 + n
theorem Bd.nil : Bd [] 0 := Nat.zero_le _
theorem Bd.base {s : ByteArray} {k : Nat} (hs : s.size ≤ 1000000000000) : Bd (34 :: qi ((by8 s).take k)) 0 := by
 have hql := qi_len ((by8 s).take k)
 unfold Bd
 rw [List.length_cons]
 rw [List.length_take, by8_len] at hql
 omega
theorem Bd.snoc {L : List UInt8} {n : Nat} (h : Bd L n) (x : UInt8) : Bd (L ++ [x]) (n + 1) := by
 unfold Bd at h ⊢; rw [List.length_append, List.length_singleton]; omega
theorem Bd.str {L : List UInt8} {n : Nat} (h : Bd L n) : Bd (L ++ by8 ⟨#[92, 120]⟩) (n + 2) := by
 unfold Bd at h ⊢; rw [List.length_append, show (by8 ⟨#[92, 120]⟩).length = 2 from rfl]; omega
theorem Bd.w {L : List UInt8} {n : Nat} (h : Bd L n) (hn : n ≤ 20) : (Lib.byteCells L).length + 1 ≤ 140737488355328 := by
 unfold Bd at h; rw [Lib.byteCells_length]; omega
theorem Bd.w2 {L : List UInt8} {n : Nat} (h : Bd L n) (hn : n ≤ 20) : (Lib.byteCells L).length + (⟨#[92, 120]⟩ : ByteArray).size ≤ 140737488355328 := by
 unfold Bd at h; rw [Lib.byteCells_length, show (⟨#[92, 120]⟩ : ByteArray).size = 2 from rfl]; omega
theorem prn_v {c : Int} {r : Bool} (h : prn c = r) (w : World) : Calls Tryz.prog 79 #[.int .u8 c] w fun e w' => e = .returned (.bool r) ∧ Mw w w' := wk (prn_c h w)
theorem quote_n (s : ByteArray) (w : World) (hs : s.size ≤ 1000000000000) : Calls Tryz.prog 55 #[.string s] w fun e w' => e = .returned (.string ⟨(qt (by8 s)).toArray⟩) ∧ Mw w w' := by
 refine w_enter 43 Tryz.func55 Tryz.ntmps55 rfl rfl ?_
 have M : Mw w w := Mw.refl _
 refine w_seq (w_reg ?_)
 refine wl_m (.const (.string ⟨#[]⟩)) (.string ⟨#[]⟩) ?_
 refine w_nil (xn_then (w_seq (w_reg ?_)))
 refine wl_new83 rfl rfl ?_
 intro kb wb hkb hq hIB
 replace hIB := hIB w.heap.size (by have := M.size; omega)
 replace M := M.trans hq
 clear hq
 refine w_nil (xn_then (w_seq (w_reg ?_)))
 refine wl_callx 78 [(.tmp 3), (.const (.int .u8 (34)))] _ [pt kb 0, .int .u8 (34)] rfl rfl (fun _ _ => by kernel_rfl) (Tryz.Builder_WriteByte w.heap.size kb (Lib.byteCells ([])) ((34)) _ hIB (Bd.w Bd.nil (by decide)) M.size) rfl ?_
 rintro _ w1 ⟨rfl, hBA, hq⟩
 refine ⟨_, rfl, ?_⟩
 rw [bc_snoc (by omega)] at hBA
 replace hIB : Lib.IsBuilder 83 5 w.heap.size kb (Lib.byteCells ([] ++ [((34) : Int).toNat.toUInt8])) w1 := Or.inr hBA
 clear hBA
 replace M := Below.trans M hq
 clear hq
 refine w_nil (xn_then (w_seq (w_seq (w_reg ?_))))
 refine wl_m (.tmp 0) (.string s) ?_
 refine wl_val (.int .i64 ((s.size : Nat) : Int)) (len_s _ _ s (by exact rfl) _ _ _ _ _ _) rfl ?_
 refine wl_m (.const (.int .i64 (0))) (.int .i64 (0)) ?_
 refine w_nil (xn_then (w_block ?_))
 refine w_loop (fun m l w1 => ∃ (k : Nat), m = s.size - k ∧ look l 0 = .string s ∧ look l 3 = pt kb 0 ∧ look l 8 = .int .i64 ((s.size : Nat) : Int) ∧ look l 9 = .int .i64 ((k : Nat) : Int) ∧ k ≤ s.size ∧ Lib.IsBuilder 83 5 w.heap.size kb (Lib.byteCells (34 :: qi ((by8 s).take k))) w1 ∧ Mw w w1) _ ⟨0, rfl, rfl, rfl, rfl, rfl, Nat.zero_le _, hIB, M⟩ ?_
 clear M hIB
 rintro m l wl ⟨k, rfl, e0, e3, e8, e9, hk, hIB, M⟩
 obtain ⟨b, hb, hb2⟩ := bt_nat s k
 refine w_seq ?_
 cases hf20 : decide (k < s.size) with
 | true =>
  have hf20p := of_decide_eq_true hf20
  refine w_reg ?_
  refine wl_bin (fun x y => do eqGuard .lss 3 (.tmp 9) (.tmp 8) x y; binOp .lss 3 x y) (.tmp 9) (.tmp 8) (.int .i64 ((k : Nat) : Int)) (.int .i64 ((s.size : Nat) : Int)) (.bool true) (fun _ => rfl) e9 e8 (ltN hf20 _ _ _) rfl ?_
  refine w_nil (xn_then (w_seq (w_condT rfl (w_skip (xn_then (w_seq (w_block (w_seq (w_reg ?_)))))))))
  refine wl_mv (.tmp 9) (.int .i64 ((k : Nat) : Int)) (fun _ => rfl) e9 rfl ?_
  refine wl_m (.tmp 11) (.int .i64 ((k : Nat) : Int)) ?_
  refine w_nil (xn_then (w_seq (w_reg ?_)))
  refine wl_mv (.tmp 0) (.string s) (fun _ => rfl) e0 rfl ?_
  refine wl_m (.tmp 4) (.int .i64 ((k : Nat) : Int)) ?_
  refine wl_bin (fun x y => Instr.index 9 x y) (.tmp 12) (.tmp 13) (.string s) (.int .i64 ((k : Nat) : Int)) (.int .u8 (b : Int)) (fun _ => rfl) rfl rfl (idx_bb hb (by omega) _) rfl ?_
  refine wl_m (.tmp 14) (.int .u8 (b : Int)) ?_
  refine w_nil (xn_then (w_block (w_seq ?_)))
  cases hf21 : prn ((b : Nat) : Int) with
  | true =>
   refine w_reg ?_
   refine wl_m (.tmp 5) (.int .u8 (b : Int)) ?_
   refine wl_call 79 [(.tmp 18)] _ [.int .u8 (b : Int)] (.bool true) rfl rfl (fun _ _ => by kernel_rfl) (prn_v hf21 _) rfl ?_
   intro w11 hq
   replace hIB := IB.mw hIB hq
   replace M := M.trans hq
   clear hq
   refine wl_un (fun v => Op.unary .not v) (.tmp 19) (.bool true) (.bool false) (fun _ => rfl) rfl (by kernel_rfl) rfl ?_
   refine wl_m (.tmp 20) (.bool false) ?_
   refine w_nil (xn_then (w_condF rfl (w_seq ?_)))
   cases hf22 : decide (b = 34) with
   | true =>
    have hf22p := of_decide_eq_true hf22
    refine w_reg ?_
    refine wl_m (.tmp 5) (.int .u8 (b : Int)) ?_
    refine wl_b .eql 5 (.tmp 31) (.const (.int .u8 (34))) (.int .u8 (b : Int)) (.int .u8 (34)) (.bool true) (eq5d hf22 _ _ _) ?_
    refine wl_m (.tmp 32) (.bool true) ?_
    refine wl_skip rfl (wl_skip rfl ?_)
    refine wl_pick (.tmp 33) (.const (.bool true)) (.tmp 35) true (.bool true) (fun _ => rfl) rfl rfl rfl ?_
    refine wl_m (.tmp 36) (.bool true) ?_
    refine w_nil (xn_then (w_condT rfl (w_seq (w_reg ?_))))
    refine wl_callx 78 [(.tmp 3), (.const (.int .u8 (92)))] _ [pt kb 0, .int .u8 (92)] rfl (li2 e3 rfl) (fun _ _ => by kernel_rfl) (Tryz.Builder_WriteByte w.heap.size kb (Lib.byteCells (34 :: qi ((by8 s).take k))) ((92)) _ hIB (Bd.w (Bd.base hs) (by decide)) M.size) rfl ?_
    rintro _ w12 ⟨rfl, hBA, hq⟩
    refine ⟨_, rfl, ?_⟩
    rw [bc_snoc (by omega)] at hBA
    replace hIB : Lib.IsBuilder 83 5 w.heap.size kb (Lib.byteCells (34 :: qi ((by8 s).take k) ++ [((92) : Int).toNat.toUInt8])) w12 := Or.inr hBA
    clear hBA
    replace M := Below.trans M hq
    clear hq
    refine w_nil (xn_then (w_reg ?_))
    refine wl_m (.tmp 5) (.int .u8 (b : Int)) ?_
    refine wl_callx 78 [(.tmp 3), (.tmp 38)] _ [pt kb 0, .int .u8 (b : Int)] rfl (li2 e3 rfl) (fun _ _ => by kernel_rfl) (Tryz.Builder_WriteByte w.heap.size kb (Lib.byteCells (34 :: qi ((by8 s).take k) ++ [((92) : Int).toNat.toUInt8])) ((b : Int)) _ hIB (Bd.w (Bd.snoc (Bd.base hs) _) (by decide)) M.size) rfl ?_
    rintro _ w13 ⟨rfl, hBA, hq⟩
    refine ⟨_, rfl, ?_⟩
    rw [bc_snoc (by omega)] at hBA
    replace hIB : Lib.IsBuilder 83 5 w.heap.size kb (Lib.byteCells (34 :: qi ((by8 s).take k) ++ [((92) : Int).toNat.toUInt8] ++ [((b : Int) : Int).toNat.toUInt8])) w13 := Or.inr hBA
    clear hBA
    replace M := Below.trans M hq
    clear hq
    refine w_nil (xn_blk (xn_blk (xn_then (w_reg ?_))))
    refine wl_bin (fun x y => do eqGuard .add 3 (.tmp 9) (.const (.int .i64 (1))) x y; binOp .add 3 x y) (.tmp 9) (.const (.int .i64 (1))) (.int .i64 ((k : Nat) : Int)) (.int .i64 (1)) (.int .i64 ((k + 1 : Nat) : Int)) (fun _ => rfl) e9 rfl (addk (a := k) (b := 1) rfl (by omega) _ _ _) rfl ?_
    refine wl_m (.tmp 40) (.int .i64 ((k + 1 : Nat) : Int)) ?_
    refine w_nil ?_
    simp only [List.append_assoc] at hIB
    exact xn_loop (s.size - (k + 1)) (by omega) ⟨k + 1, rfl, e0, e3, e8, rfl, by omega, by rw [← qi_step (by omega) hb (qb_1 (Or.inl hf22p))]; exact hIB, M⟩
   | false =>
    have hf22p := of_decide_eq_false hf22
    cases hf23 : decide (b = 92) with
    | true =>
     have hf23p := of_decide_eq_true hf23
     refine w_reg ?_
     refine wl_m (.tmp 5) (.int .u8 (b : Int)) ?_
     refine wl_b .eql 5 (.tmp 31) (.const (.int .u8 (34))) (.int .u8 (b : Int)) (.int .u8 (34)) (.bool false) (eq5d hf22 _ _ _) ?_
     refine wl_m (.tmp 32) (.bool false) ?_
     refine wl_m (.tmp 5) (.int .u8 (b : Int)) ?_
     refine wl_b .eql 5 (.tmp 34) (.const (.int .u8 (92))) (.int .u8 (b : Int)) (.int .u8 (92)) (.bool true) (eq5d hf23 _ _ _) ?_
     refine wl_pick (.tmp 33) (.const (.bool true)) (.tmp 35) false (.bool true) (fun _ => rfl) rfl rfl rfl ?_
     refine wl_m (.tmp 36) (.bool true) ?_
     refine w_nil (xn_then (w_condT rfl (w_seq (w_reg ?_))))
     refine wl_callx 78 [(.tmp 3), (.const (.int .u8 (92)))] _ [pt kb 0, .int .u8 (92)] rfl (li2 e3 rfl) (fun _ _ => by kernel_rfl) (Tryz.Builder_WriteByte w.heap.size kb (Lib.byteCells (34 :: qi ((by8 s).take k))) ((92)) _ hIB (Bd.w (Bd.base hs) (by decide)) M.size) rfl ?_
     rintro _ w12 ⟨rfl, hBA, hq⟩
     refine ⟨_, rfl, ?_⟩
     rw [bc_snoc (by omega)] at hBA
     replace hIB : Lib.IsBuilder 83 5 w.heap.size kb (Lib.byteCells (34 :: qi ((by8 s).take k) ++ [((92) : Int).toNat.toUInt8])) w12 := Or.inr hBA
     clear hBA
     replace M := Below.trans M hq
     clear hq
     refine w_nil (xn_then (w_reg ?_))
     refine wl_m (.tmp 5) (.int .u8 (b : Int)) ?_
     refine wl_callx 78 [(.tmp 3), (.tmp 38)] _ [pt kb 0, .int .u8 (b : Int)] rfl (li2 e3 rfl) (fun _ _ => by kernel_rfl) (Tryz.Builder_WriteByte w.heap.size kb (Lib.byteCells (34 :: qi ((by8 s).take k) ++ [((92) : Int).toNat.toUInt8])) ((b : Int)) _ hIB (Bd.w (Bd.snoc (Bd.base hs) _) (by decide)) M.size) rfl ?_
     rintro _ w13 ⟨rfl, hBA, hq⟩
     refine ⟨_, rfl, ?_⟩
     rw [bc_snoc (by omega)] at hBA
     replace hIB : Lib.IsBuilder 83 5 w.heap.size kb (Lib.byteCells (34 :: qi ((by8 s).take k) ++ [((92) : Int).toNat.toUInt8] ++ [((b : Int) : Int).toNat.toUInt8])) w13 := Or.inr hBA
     clear hBA
     replace M := Below.trans M hq
     clear hq
     refine w_nil (xn_blk (xn_blk (xn_then (w_reg ?_))))
     refine wl_bin (fun x y => do eqGuard .add 3 (.tmp 9) (.const (.int .i64 (1))) x y; binOp .add 3 x y) (.tmp 9) (.const (.int .i64 (1))) (.int .i64 ((k : Nat) : Int)) (.int .i64 (1)) (.int .i64 ((k + 1 : Nat) : Int)) (fun _ => rfl) e9 rfl (addk (a := k) (b := 1) rfl (by omega) _ _ _) rfl ?_
     refine wl_m (.tmp 40) (.int .i64 ((k + 1 : Nat) : Int)) ?_
     refine w_nil ?_
     simp only [List.append_assoc] at hIB
     exact xn_loop (s.size - (k + 1)) (by omega) ⟨k + 1, rfl, e0, e3, e8, rfl, by omega, by rw [← qi_step (by omega) hb (qb_1 (Or.inr hf23p))]; exact hIB, M⟩
    | false =>
     have hf23p := of_decide_eq_false hf23
     refine w_reg ?_
     refine wl_m (.tmp 5) (.int .u8 (b : Int)) ?_
     refine wl_b .eql 5 (.tmp 31) (.const (.int .u8 (34))) (.int .u8 (b : Int)) (.int .u8 (34)) (.bool false) (eq5d hf22 _ _ _) ?_
     refine wl_m (.tmp 32) (.bool false) ?_
     refine wl_m (.tmp 5) (.int .u8 (b : Int)) ?_
     refine wl_b .eql 5 (.tmp 34) (.const (.int .u8 (92))) (.int .u8 (b : Int)) (.int .u8 (92)) (.bool false) (eq5d hf23 _ _ _) ?_
     refine wl_pick (.tmp 33) (.const (.bool true)) (.tmp 35) false (.bool false) (fun _ => rfl) rfl rfl rfl ?_
     refine wl_m (.tmp 36) (.bool false) ?_
     refine w_nil (xn_then (w_condF rfl (w_reg ?_)))
     refine wl_m (.tmp 5) (.int .u8 (b : Int)) ?_
     refine wl_callx 78 [(.tmp 3), (.tmp 15)] _ [pt kb 0, .int .u8 (b : Int)] rfl (li2 e3 rfl) (fun _ _ => by kernel_rfl) (Tryz.Builder_WriteByte w.heap.size kb (Lib.byteCells (34 :: qi ((by8 s).take k))) ((b : Int)) _ hIB (Bd.w (Bd.base hs) (by decide)) M.size) rfl ?_
     rintro _ w12 ⟨rfl, hBA, hq⟩
     refine ⟨_, rfl, ?_⟩
     rw [bc_snoc (by omega)] at hBA
     replace hIB : Lib.IsBuilder 83 5 w.heap.size kb (Lib.byteCells (34 :: qi ((by8 s).take k) ++ [((b : Int) : Int).toNat.toUInt8])) w12 := Or.inr hBA
     clear hBA
     replace M := Below.trans M hq
     clear hq
     refine w_nil (xn_blk (xn_blk (xn_then (w_reg ?_))))
     refine wl_bin (fun x y => do eqGuard .add 3 (.tmp 9) (.const (.int .i64 (1))) x y; binOp .add 3 x y) (.tmp 9) (.const (.int .i64 (1))) (.int .i64 ((k : Nat) : Int)) (.int .i64 (1)) (.int .i64 ((k + 1 : Nat) : Int)) (fun _ => rfl) e9 rfl (addk (a := k) (b := 1) rfl (by omega) _ _ _) rfl ?_
     refine wl_m (.tmp 40) (.int .i64 ((k + 1 : Nat) : Int)) ?_
     refine w_nil ?_
     exact xn_loop (s.size - (k + 1)) (by omega) ⟨k + 1, rfl, e0, e3, e8, rfl, by omega, by rw [← qi_step (by omega) hb (qb_3 hb2 hf22p hf23p (prn_e hf21).1 (prn_e hf21).2)]; exact hIB, M⟩
  | false =>
   refine w_reg ?_
   refine wl_m (.tmp 5) (.int .u8 (b : Int)) ?_
   refine wl_call 79 [(.tmp 18)] _ [.int .u8 (b : Int)] (.bool false) rfl rfl (fun _ _ => by kernel_rfl) (prn_v hf21 _) rfl ?_
   intro w11 hq
   replace hIB := IB.mw hIB hq
   replace M := M.trans hq
   clear hq
   refine wl_un (fun v => Op.unary .not v) (.tmp 19) (.bool false) (.bool true) (fun _ => rfl) rfl (by kernel_rfl) rfl ?_
   refine wl_m (.tmp 20) (.bool true) ?_
   refine w_nil (xn_then (w_condT rfl (w_seq (w_reg ?_))))
   refine wl_callx 80 [(.tmp 3), (.const (.string ⟨#[92, 120]⟩))] _ [pt kb 0, .string ⟨#[92, 120]⟩] rfl (li2 e3 rfl) (fun _ _ => by kernel_rfl) (Tryz.Builder_WriteString w.heap.size kb (Lib.byteCells (34 :: qi ((by8 s).take k))) ⟨#[92, 120]⟩ _ hIB (Bd.w2 (Bd.base hs) (by decide)) M.size) rfl ?_
   rintro _ w12 ⟨rfl, hBA, hq⟩
   refine ⟨_, rfl, ?_⟩
   rw [bc_str] at hBA
   replace hIB : Lib.IsBuilder 83 5 w.heap.size kb (Lib.byteCells (34 :: qi ((by8 s).take k) ++ by8 ⟨#[92, 120]⟩)) w12 := Or.inr hBA
   clear hBA
   replace M := Below.trans M hq
   clear hq
   refine w_nil (xn_then (w_seq (w_reg ?_)))
   refine wl_m (.tmp 5) (.int .u8 (b : Int)) ?_
   refine wl_b .shr 5 (.tmp 22) (.const (.int .u64 (4))) (.int .u8 (b : Int)) (.int .u64 (4)) (.int .u8 ((b / 16 : Nat) : Int)) (shr4 hb2 _ _ _) ?_
   refine wl_bin (fun x y => Instr.index 9 x y) (.const (.string ⟨#[48, 49, 50, 51, 52, 53, 54, 55, 56, 57, 97, 98, 99, 100, 101, 102]⟩)) (.tmp 23) (.string ⟨#[48, 49, 50, 51, 52, 53, 54, 55, 56, 57, 97, 98, 99, 100, 101, 102]⟩) (.int .u8 ((b / 16 : Nat) : Int)) (.int .u8 (((hx (b / 16)).toNat : Nat) : Int)) (fun _ => rfl) rfl rfl (ixh (by omega) _) rfl ?_
   refine wl_callx 78 [(.tmp 3), (.tmp 24)] _ [pt kb 0, .int .u8 (((hx (b / 16)).toNat : Nat) : Int)] rfl (li2 e3 rfl) (fun _ _ => by kernel_rfl) (Tryz.Builder_WriteByte w.heap.size kb (Lib.byteCells (34 :: qi ((by8 s).take k) ++ by8 ⟨#[92, 120]⟩)) ((((hx (b / 16)).toNat : Nat) : Int)) _ hIB (Bd.w (Bd.str (Bd.base hs)) (by decide)) M.size) rfl ?_
   rintro _ w13 ⟨rfl, hBA, hq⟩
   refine ⟨_, rfl, ?_⟩
   rw [bc_snoc (by have := UInt8.toNat_lt (hx (b / 16)); omega)] at hBA
   replace hIB : Lib.IsBuilder 83 5 w.heap.size kb (Lib.byteCells (34 :: qi ((by8 s).take k) ++ by8 ⟨#[92, 120]⟩ ++ [((((hx (b / 16)).toNat : Nat) : Int) : Int).toNat.toUInt8])) w13 := Or.inr hBA
   clear hBA
   replace M := Below.trans M hq
   clear hq
   refine w_nil (xn_then (w_reg ?_))
   refine wl_m (.tmp 5) (.int .u8 (b : Int)) ?_
   refine wl_b .and 5 (.tmp 26) (.const (.int .u8 (15))) (.int .u8 (b : Int)) (.int .u8 (15)) (.int .u8 ((b % 16 : Nat) : Int)) (and15 hb2 _ _ _) ?_
   refine wl_bin (fun x y => Instr.index 9 x y) (.const (.string ⟨#[48, 49, 50, 51, 52, 53, 54, 55, 56, 57, 97, 98, 99, 100, 101, 102]⟩)) (.tmp 27) (.string ⟨#[48, 49, 50, 51, 52, 53, 54, 55, 56, 57, 97, 98, 99, 100, 101, 102]⟩) (.int .u8 ((b % 16 : Nat) : Int)) (.int .u8 (((hx (b % 16)).toNat : Nat) : Int)) (fun _ => rfl) rfl rfl (ixh (by omega) _) rfl ?_
   refine wl_callx 78 [(.tmp 3), (.tmp 28)] _ [pt kb 0, .int .u8 (((hx (b % 16)).toNat : Nat) : Int)] rfl (li2 e3 rfl) (fun _ _ => by kernel_rfl) (Tryz.Builder_WriteByte w.heap.size kb (Lib.byteCells (34 :: qi ((by8 s).take k) ++ by8 ⟨#[92, 120]⟩ ++ [((((hx (b / 16)).toNat : Nat) : Int) : Int).toNat.toUInt8])) ((((hx (b % 16)).toNat : Nat) : Int)) _ hIB (Bd.w (Bd.snoc (Bd.str (Bd.base hs)) _) (by decide)) M.size) rfl ?_
   rintro _ w14 ⟨rfl, hBA, hq⟩
   refine ⟨_, rfl, ?_⟩
   rw [bc_snoc (by have := UInt8.toNat_lt (hx (b % 16)); omega)] at hBA
   replace hIB : Lib.IsBuilder 83 5 w.heap.size kb (Lib.byteCells (34 :: qi ((by8 s).take k) ++ by8 ⟨#[92, 120]⟩ ++ [((((hx (b / 16)).toNat : Nat) : Int) : Int).toNat.toUInt8] ++ [((((hx (b % 16)).toNat : Nat) : Int) : Int).toNat.toUInt8])) w14 := Or.inr hBA
   clear hBA
   replace M := Below.trans M hq
   clear hq
   refine w_nil (xn_blk (xn_blk (xn_then (w_reg ?_))))
   refine wl_bin (fun x y => do eqGuard .add 3 (.tmp 9) (.const (.int .i64 (1))) x y; binOp .add 3 x y) (.tmp 9) (.const (.int .i64 (1))) (.int .i64 ((k : Nat) : Int)) (.int .i64 (1)) (.int .i64 ((k + 1 : Nat) : Int)) (fun _ => rfl) e9 rfl (addk (a := k) (b := 1) rfl (by omega) _ _ _) rfl ?_
   refine wl_m (.tmp 40) (.int .i64 ((k + 1 : Nat) : Int)) ?_
   refine w_nil ?_
   have hqq := qb_2 hb2 (prn_d hf21)
   rw [← u8_id (hx (b / 16)), ← u8_id (hx (b % 16))] at hqq
   simp only [List.append_assoc] at hIB
   exact xn_loop (s.size - (k + 1)) (by omega) ⟨k + 1, rfl, e0, e3, e8, rfl, by omega, by rw [← qi_step (by omega) hb (hqq)]; exact hIB, M⟩
 | false =>
  have hf20p := of_decide_eq_false hf20
  refine w_reg ?_
  refine wl_bin (fun x y => do eqGuard .lss 3 (.tmp 9) (.tmp 8) x y; binOp .lss 3 x y) (.tmp 9) (.tmp 8) (.int .i64 ((k : Nat) : Int)) (.int .i64 ((s.size : Nat) : Int)) (.bool false) (fun _ => rfl) e9 e8 (ltN hf20 _ _ _) rfl ?_
  refine w_nil (xn_then (w_seq (w_condF rfl (w_exit (xx_then (xx_then (xx_blk (xn_then (w_seq (w_reg ?_))))))))))
  refine wl_callx 78 [(.tmp 3), (.const (.int .u8 (34)))] _ [pt kb 0, .int .u8 (34)] rfl (li2 e3 rfl) (fun _ _ => by kernel_rfl) (Tryz.Builder_WriteByte w.heap.size kb (Lib.byteCells (34 :: qi ((by8 s).take k))) ((34)) _ hIB (Bd.w (Bd.base hs) (by decide)) M.size) rfl ?_
  rintro _ w11 ⟨rfl, hBA, hq⟩
  refine ⟨_, rfl, ?_⟩
  rw [bc_snoc (by omega)] at hBA
  replace hIB : Lib.IsBuilder 83 5 w.heap.size kb (Lib.byteCells (34 :: qi ((by8 s).take k) ++ [((34) : Int).toNat.toUInt8])) w11 := Or.inr hBA
  clear hBA
  replace M := Below.trans M hq
  clear hq
  refine w_nil (xn_then (w_seq (w_reg ?_)))
  refine wl_callx 81 [(.tmp 3)] _ [pt kb 0] rfl (li1 e3) (fun _ _ => by kernel_rfl) (Tryz.Builder_String_any w.heap.size kb (34 :: qi ((by8 s).take k) ++ [((34) : Int).toNat.toUInt8]) _ hIB M.size) rfl ?_
  rintro _ w12 ⟨rfl, hq⟩
  refine ⟨_, rfl, ?_⟩
  replace M := Below.trans M hq
  refine wl_m (.tmp 42) (.string ⟨(34 :: qi ((by8 s).take k) ++ [((34) : Int).toNat.toUInt8]).toArray⟩) ?_
  refine w_nil (xn_then (w_ret ?_))
  exact w_ret1 _ (.string ⟨(34 :: qi ((by8 s).take k) ++ [((34) : Int).toNat.toUInt8]).toArray⟩) rfl rfl ⟨by rw [show k = s.size by omega, List.take_of_length_le (by rw [by8_len]; omega)]; rfl, M⟩
end Go.Proofs.YtogomodbcjpfiaaGreatDoor.V

namespace Go.Proofs.YtogomodbcjpfiaaGreatDoor
open Go.RowKit Go.Lib
abbrev tx (l : List UInt8) : Value := .string ⟨l.toArray⟩
end Go.Proofs.YtogomodbcjpfiaaGreatDoor

namespace Go.Proofs.YtogomodbcjpfiaaGreatDoor
open Go.RowKit Go.Lib
def leadz (l : List UInt8) (k : Nat) : List UInt8 := List.replicate (k + 1 - l.length) 48 ++ l
def wpt (l : List UInt8) (k : Nat) : List UInt8 := if k = 0 then l else (leadz l k).take ((leadz l k).length - k) ++ 46 :: (leadz l k).drop ((leadz l k).length - k)
set_option maxHeartbeats 1000000 in
theorem withPoint_0 (s : ByteArray) (w : World) : Calls Tryz.prog 75 #[.string s, .int .i64 0] w fun e w' => e = .returned (.string s) ∧ V.Mw w w' := by
 go_enter Tryz.func75, Tryz.ntmps75
 go_wp2
 go_ret
 exact ⟨rfl, V.Mw.refl _⟩
set_option maxHeartbeats 1000000 in
theorem withPoint_a (s : ByteArray) (k j : Nat) (w : World) (hk0 : ((k : Int) == 0) = false) (hk : k ≤ 1000) (hs : s.size ≤ 1000) (hj : s.size = k + j) (hj0 : 0 < j) :
  Calls Tryz.prog 75 #[.string s, .int .i64 (k : Int)] w fun e w' => e = .returned (.string (s.extract 0 j ++ ⟨#[46]⟩ ++ s.extract j s.size)) ∧ V.Mw w w' := by
 have q1 : IntKind.i64.wrap ((k : Int) + 1) = (k : Int) + 1 := by rw [IntKind.wrap_i64]; omega
 have q2 : IntKind.i64.wrap ((k : Int) + 1 - (s.size : Int)) = (k : Int) + 1 - (s.size : Int) := by rw [IntKind.wrap_i64]; omega
 have q3 : ¬ (0 < (k : Int) + 1 - (s.size : Int)) := by omega
 have q4 : IntKind.i64.wrap ((s.size : Int) - (k : Int)) = (j : Int) := by rw [IntKind.wrap_i64]; omega
 have q5 : (0 : Int) ≤ (j : Int) := by omega
 have q6 : (j : Int) ≤ (s.size : Int) := by omega
 have r1 : wrap64 ((k : Int) + 1) = (k : Int) + 1 := by unfold wrap64; omega
 have r2 : wrap64 ((k : Int) + 1 - (s.size : Int)) = (k : Int) + 1 - (s.size : Int) := by unfold wrap64; omega
 have r4 : wrap64 ((s.size : Int) - (k : Int)) = (j : Int) := by unfold wrap64; omega
 have hk1 : (k : Int) ≠ 0 := by intro h; rw [h] at hk0; cases hk0
 clear hj
 go_enter Tryz.func75, Tryz.ntmps75
 go_wp2
 go_region
 go_wp2
 go_ret
 exact ⟨rfl, (V.Mw.refl _).drew⟩
set_option maxHeartbeats 1000000 in
theorem withPoint_b (s z t : ByteArray) (k d : Nat) (w : World) (hz : z = ⟨(Lib.repeatL [48] d).toArray⟩) (ht : t = z ++ s) (hk0 : ((k : Int) == 0) = false) (hk : k ≤ 1000) (hs : s.size ≤ 1000) (hd : k + 1 = s.size + d) (hd0 : 0 < d) (hts : t.size = k + 1) :
  Calls Tryz.prog 75 #[.string s, .int .i64 (k : Int)] w fun e w' => e = .returned (.string (t.extract 0 1 ++ ⟨#[46]⟩ ++ t.extract 1 t.size)) ∧ V.Mw w w' := by
 have q1 : IntKind.i64.wrap ((k : Int) + 1) = (k : Int) + 1 := by rw [IntKind.wrap_i64]; omega
 have q2 : IntKind.i64.wrap ((k : Int) + 1 - (s.size : Int)) = (d : Int) := by rw [IntKind.wrap_i64]; omega
 have q3 : (0 : Int) < (d : Int) := by omega
 have q4 : IntKind.i64.wrap ((t.size : Int) - (k : Int)) = 1 := by rw [hts, IntKind.wrap_i64]; omega
 have q6 : (1 : Int) ≤ (t.size : Int) := by omega
 have r1 : wrap64 ((k : Int) + 1) = (k : Int) + 1 := by unfold wrap64; omega
 have r2 : wrap64 ((k : Int) + 1 - (s.size : Int)) = (d : Int) := by unfold wrap64; omega
 have r4 : wrap64 ((t.size : Int) - (k : Int)) = 1 := by rw [hts]; unfold wrap64; omega
 have hk1 : (k : Int) ≠ 0 := by intro h; rw [h] at hk0; cases hk0
 have hrep : ∀ w, Calls Tryz.prog 108 #[.string ⟨#[48]⟩, .int .i64 (d : Int)] w fun e w' => e = .returned (.string z) ∧ V.Mw w w' := fun w => by
  rw [hz]; exact Tryz.strings_Repeat ⟨#[48]⟩ d w (by omega) (by show 1 * d ≤ _; omega)
 have ha : z ++ s = t := ht.symm
 have hsz : z.size + s.size = t.size := by rw [ht]; simp
 have hts2 : t.size ≤ 1001 := by omega
 clear hd hts hz ht
 go_enter Tryz.func75, Tryz.ntmps75
 go_wp2_with (go_at_call 108; refine (hrep _).mono ?_; rintro e w' ⟨rfl, hb⟩)
 go_region
 go_wp2
 go_ret
 exact ⟨rfl, V.Mw.drew hb⟩
end Go.Proofs.YtogomodbcjpfiaaGreatDoor

namespace Go.Proofs.YtogomodbcjpfiaaGreatDoor
open Go.RowKit Go.Lib
theorem tx_of (x : ByteArray) : Value.string x = tx (by8 x) := rfl
theorem by8_app (a b : ByteArray) : by8 (a ++ b) = by8 a ++ by8 b := by simp [by8]
theorem by8_ext (a : ByteArray) (i j : Nat) : by8 (a.extract i j) = ((by8 a).drop i).take (j - i) := by simp [by8, ByteArray.data_extract]
theorem rep_l (d : Nat) : Lib.repeatL [48] d = List.replicate d (48 : UInt8) := by
 have := Lib.repeatL_replicate 48 1 d; simpa using this
theorem withPoint_n (s : ByteArray) (k : Nat) (w : World) (hk : k ≤ 1000) (hs : s.size ≤ 1000) :
  Calls Tryz.prog 75 #[.string s, .int .i64 (k : Int)] w fun e w' => e = .returned (tx (wpt (by8 s) k)) ∧ V.Mw w w' := by
 by_cases h0 : k = 0
 ·subst h0; exact withPoint_0 s w
 ·have hk0 : ((k : Int) == 0) = false := beq_eq_false_iff_ne.2 (by omega)
  unfold wpt leadz
  rw [if_neg h0, by8_len]
  by_cases h1 : s.size < k + 1
  ·obtain ⟨d, hd⟩ : ∃ d, k + 1 = s.size + d := ⟨k + 1 - s.size, by omega⟩
   have e1 : k + 1 - s.size = d := by omega
   have hz : by8 (⟨(Lib.repeatL [48] d).toArray⟩ : ByteArray) = List.replicate d 48 := by simp [by8, rep_l]
   have hts : ((⟨(Lib.repeatL [48] d).toArray⟩ : ByteArray) ++ s).size = k + 1 := by
    rw [← by8_len, by8_app, List.length_append, by8_len s, hz, List.length_replicate]; omega
   refine (withPoint_b s _ _ k d w rfl rfl hk0 hk hs hd (by omega) hts).mono fun e w' ⟨he, hm⟩ => ⟨?_, hm⟩
   rw [he, tx_of, by8_app, by8_app, by8_ext, by8_ext, by8_app, hts, hz, e1]
   have hl : (List.replicate d (48 : UInt8) ++ by8 s).length = k + 1 := by rw [List.length_append, List.length_replicate, by8_len]; omega
   have hl1 : k + 1 - k = 1 := by omega
   rw [hl, hl1]
   have ht : ((List.replicate d (48 : UInt8) ++ by8 s).drop 1).take (k + 1 - 1) = (List.replicate d (48 : UInt8) ++ by8 s).drop 1 := List.take_of_length_le (by rw [List.length_drop, hl]; omega)
   rw [ht]
   simp [by8]
  ·obtain ⟨j, hj⟩ : ∃ j, s.size = k + j := ⟨s.size - k, by omega⟩
   refine (withPoint_a s k j w hk0 hk hs hj (by omega)).mono fun e w' ⟨he, hm⟩ => ⟨?_, hm⟩
   have e1 : k + 1 - s.size = 0 := by omega
   have e2 : s.size - k = j := by omega
   rw [he, tx_of, by8_app, by8_app, by8_ext, by8_ext, e1]
   have ht : ((by8 s).drop j).take (s.size - j) = (by8 s).drop j := List.take_of_length_le (by rw [List.length_drop, by8_len]; omega)
   have hl : (List.replicate 0 (48 : UInt8) ++ by8 s).length = s.size := by rw [List.length_append, List.length_replicate, by8_len]; omega
   rw [ht, hl, e2]
   simp [by8]
end Go.Proofs.YtogomodbcjpfiaaGreatDoor

namespace Go.Proofs.YtogomodbcjpfiaaGreatDoor
open Go.RowKit
theorem dl_step {r a c q s : Int} (hr : 0 ≤ r) (hrc : r < c) (ha : U1 a) (_hc : 0 < c) (hq : q = (r * 18446744073709551616 + a) / c) (hs : s = (r * 18446744073709551616 + a) % c) : U1 q ∧ 0 ≤ s ∧ s < c ∧ c * q + s = r * 18446744073709551616 + a := by
 subst hq hs
 obtain ⟨a0, a1⟩ := ha
 refine ⟨⟨Int.ediv_nonneg (by omega) (by omega), Int.ediv_lt_of_lt_mul (by omega) (by omega)⟩, Int.emod_nonneg _ (by omega), Int.emod_lt_of_pos _ (by omega), Int.mul_ediv_add_emod _ _⟩
theorem dl_eq {a0 a1 a2 a3 c q0 q1 q2 q3 r0 r1 r2 r3 : Int} (ha : U4 a0 a1 a2 a3) (hc : 0 < c)
  (e3 : q3 = a3 / c) (f3 : r3 = a3 % c) (e2 : q2 = (r3 * 18446744073709551616 + a2) / c) (f2 : r2 = (r3 * 18446744073709551616 + a2) % c) (e1 : q1 = (r2 * 18446744073709551616 + a1) / c) (f1 : r1 = (r2 * 18446744073709551616 + a1) % c) (e0 : q0 = (r1 * 18446744073709551616 + a0) / c) (f0 : r0 = (r1 * 18446744073709551616 + a0) % c) :
  (U4 q0 q1 q2 q3 ∧ (0 ≤ r3 ∧ r3 < c) ∧ (0 ≤ r2 ∧ r2 < c) ∧ (0 ≤ r1 ∧ r1 < c) ∧ (0 ≤ r0 ∧ r0 < c)) ∧ vl q0 q1 q2 q3 = vl a0 a1 a2 a3 / c ∧ r0 = vl a0 a1 a2 a3 % c := by
 obtain ⟨g0, g1, g2, g3⟩ := ha
 obtain ⟨u3, s3, t3, m3⟩ := dl_step (Int.le_refl 0) hc g3 hc (show q3 = (0 * 18446744073709551616 + a3) / c by rw [e3]; simp) (show r3 = (0 * 18446744073709551616 + a3) % c by rw [f3]; simp)
 obtain ⟨u2, s2, t2, m2⟩ := dl_step s3 t3 g2 hc e2 f2
 obtain ⟨u1, s1, t1, m1⟩ := dl_step s2 t2 g1 hc e1 f1
 obtain ⟨u0, s0, t0, m0⟩ := dl_step s1 t1 g0 hc e0 f0
 have key : vl a0 a1 a2 a3 = r0 + c * vl q0 q1 q2 q3 := by
  have e : c * vl q0 q1 q2 q3 = c * q0 + 18446744073709551616 * (c * q1) + 340282366920938463463374607431768211456 * (c * q2) + 6277101735386680763835789423207666416102355444464034512896 * (c * q3) := by
   unfold vl; rw [Int.mul_add, Int.mul_add, Int.mul_add, Int.mul_left_comm, Int.mul_left_comm c _ q2, Int.mul_left_comm c _ q3]
  rw [e]; unfold vl; omega
 refine ⟨⟨⟨u0, u1, u2, u3⟩, ⟨s3, t3⟩, ⟨s2, t2⟩, ⟨s1, t1⟩, s0, t0⟩, ?_, ?_⟩
 ·rw [key, Int.add_mul_ediv_left _ _ (by omega), Int.ediv_eq_zero_of_lt s0 t0, Int.zero_add]
 ·rw [key, Int.add_mul_emod_self_left, Int.emod_eq_of_lt s0 t0]

theorem setd (w : World) (n : Nat) (a : Addr) (v : Value) : (w.drewN n).setCell a v = (w.setCell a v).drewN n := rfl
set_option maxHeartbeats 1000000 in
theorem divLimb_raw (a0 a1 a2 a3 c q0 q1 q2 q3 r0 r1 r2 r3 : Int) (w : World) (ha : U4 a0 a1 a2 a3) (hc : 0 < c) (hc2 : c < 18446744073709551616) (b3 : 0 ≤ r3) (b3' : r3 < c) (b2 : 0 ≤ r2) (b2' : r2 < c) (b1 : 0 ≤ r1) (b1' : r1 < c)
  (e3 : a3 / c = q3) (f3 : a3 % c = r3) (e2 : (r3 * 18446744073709551616 + a2) / c = q2) (f2 : (r3 * 18446744073709551616 + a2) % c = r2) (e1 : (r2 * 18446744073709551616 + a1) / c = q1) (f1 : (r2 * 18446744073709551616 + a1) % c = r1) (e0 : (r1 * 18446744073709551616 + a0) / c = q0) (f0 : (r1 * 18446744073709551616 + a0) % c = r0) :
  Calls Tryz.prog 109 #[.agg #[.int .u64 a0, .int .u64 a1, .int .u64 a2, .int .u64 a3], .int .u64 c] w fun e w' =>
   e = .returned (.tuple #[.agg #[.int .u64 q0, .int .u64 q1, .int .u64 q2, .int .u64 q3], .int .u64 r0]) ∧ Mo w w' := by
 obtain ⟨⟨p0, s0⟩, ⟨p1, s1⟩, ⟨p2, s2⟩, ⟨p3, s3⟩⟩ := ha
 have sd := setd
 go_enter Tryz.func109, Tryz.ntmps109
 go_wp2
 refine wp_loop_rounds 5 ?_
 rw [rounds_succ]
 go_wp2_with (go_at_call 130; refine (div64_any 0 a3 c _ (Int.le_refl 0) hc p3 s3 hc2).mono ?_; rintro e w' ⟨rfl, n, rfl⟩)
 rw [rounds_succ]
 go_wp2_with (go_at_call 130; refine (div64_any r3 a2 c _ b3 b3' p2 s2 hc2).mono ?_; rintro e w' ⟨rfl, n, rfl⟩)
 rw [rounds_succ]
 go_wp2_with (go_at_call 130; refine (div64_any r2 a1 c _ b2 b2' p1 s1 hc2).mono ?_; rintro e w' ⟨rfl, n, rfl⟩)
 rw [rounds_succ]
 go_wp2_with (go_at_call 130; refine (div64_any r1 a0 c _ b1 b1' p0 s0 hc2).mono ?_; rintro e w' ⟨rfl, n, rfl⟩)
 rw [rounds_succ]
 go_wp2
 refine bodyPost_ret (v := .tuple #[.agg #[.int .u64 q0, .int .u64 q1, .int .u64 q2, .int .u64 q3], .int .u64 r0]) (by simp [results, Tryz.results109, go_sem]) rfl ?_
 refine ⟨rfl, ?_⟩
 repeat (first | with_reducible exact Mo.refl _ | with_reducible apply Mo.drew | with_reducible apply Mo.drewN | with_reducible apply Mo.alloc | with_reducible refine Mo.setCell ?_ (by simp <;> omega) _ | with_reducible refine Mo.trans ?_ (by with_reducible assumption))

theorem divLimb_any (a0 a1 a2 a3 c : Int) (w : World) (ha : U4 a0 a1 a2 a3) (hc : 0 < c) (hc2 : c < 18446744073709551616) :
  Calls Tryz.prog 109 #[.agg #[.int .u64 a0, .int .u64 a1, .int .u64 a2, .int .u64 a3], .int .u64 c] w fun e w' =>
   e = .returned (.tuple #[nv (vl a0 a1 a2 a3 / c), .int .u64 (vl a0 a1 a2 a3 % c)]) ∧ Mo w w' := by
 obtain ⟨⟨u, ⟨x3, y3⟩, ⟨x2, y2⟩, ⟨x1, y1⟩, _⟩, e, f⟩ := dl_eq ha hc rfl rfl rfl rfl rfl rfl rfl rfl
 rw [← e, ← f, nv_vl u]
 exact divLimb_raw a0 a1 a2 a3 c _ _ _ _ _ _ _ _ w ha hc hc2 x3 y3 x2 y2 x1 y1 rfl rfl rfl rfl rfl rfl rfl rfl
end Go.Proofs.YtogomodbcjpfiaaGreatDoor

namespace Go.Proofs.YtogomodbcjpfiaaGreatDoor
open Go.RowKit
def decF : Nat → Int → List Int
 | 0, _ => []
 | f + 1, n => if n / 10 = 0 then [48 + n % 10] else decF f (n / 10) ++ [48 + n % 10]
def strOf (ns : List Int) : ByteArray := ns.foldl (fun r n => r.push (UInt8.ofNat n.toNat)) ByteArray.empty
def Z78 : Array Value := Array.replicate 78 (.int .u8 0)
theorem z60 (w : World) : (zeroValue 115).run Tryz.prog w = .ok (.agg Z78) w := by kernel_rfl
def Dg (w : World) (k p : Nat) (acc : List Int) : Prop := ∀ j, j < 78 → w.cell? ⟨k, j, none⟩ = some (.int .u8 (if j < p then 0 else acc.getD (j - p) 0))
def TW (w wx : World) (n : Int) (p : Nat) (acc : List Int) : Prop := Mo w wx ∧ w.heap.size + 1 < wx.heap.size ∧ At4 wx w.heap.size (l0 n) (l1 n) (l2 n) (l3 n) ∧ Fz wx w.heap.size ∧ Fz wx (w.heap.size + 1) ∧ Dg wx (w.heap.size + 1) p acc
theorem TW.mo {w wx w1 : World} {n : Int} {p : Nat} {acc : List Int} (h : TW w wx n p acc) (m : Mo wx w1) : TW w w1 n p acc := by
 obtain ⟨h1, h2, h3, h4, h5, h6⟩ := h
 have := m.size
 exact ⟨h1.trans m, by omega, h3.mo m (by omega), h4.mo m, h5.mo m, fun j hj => (m.cell _ _ h2).trans (h6 j hj)⟩
theorem TW.step {w w1 : World} {n q d : Int} {p : Nat} {acc : List Int} (h : TW w w1 n (p + 1) acc) (hp : p < 78) :
  TW w (((((w1.setCell ⟨w.heap.size, 0, none⟩ (.int .u64 (l0 q))).setCell ⟨w.heap.size, 1, none⟩ (.int .u64 (l1 q))).setCell ⟨w.heap.size, 2, none⟩ (.int .u64 (l2 q))).setCell ⟨w.heap.size, 3, none⟩ (.int .u64 (l3 q))).setCell ⟨w.heap.size + 1, p, none⟩ (.int .u8 d)) q p (d :: acc) := by
 obtain ⟨h1, h2, ⟨b0, b1, b2, b3⟩, h4, h5, h6⟩ := h
 refine ⟨?_, by simpa [World.setCell] using h2, ?_, ?_, ?_, ?_⟩
 ·exact ((((h1.setCell (Nat.le_refl _) _).setCell (Nat.le_refl _) _).setCell (Nat.le_refl _) _).setCell (Nat.le_refl _) _).setCell (by show w.heap.size ≤ w.heap.size + 1; omega) _
 ·simp [At4, go_sem, *]
 ·intro o; simp [World.frozen?_setCell, h4 o]
 ·intro o; simp [World.frozen?_setCell, h5 o]
 ·intro j hj
  have e := h6 j hj
  by_cases hjp : j = p
  ·subst hjp
   simp [go_sem, e]
  ·have e2 : (((((w1.setCell ⟨w.heap.size, 0, none⟩ (.int .u64 (l0 q))).setCell ⟨w.heap.size, 1, none⟩ (.int .u64 (l1 q))).setCell ⟨w.heap.size, 2, none⟩ (.int .u64 (l2 q))).setCell ⟨w.heap.size, 3, none⟩ (.int .u64 (l3 q))).setCell ⟨w.heap.size + 1, p, none⟩ (.int .u8 d)).cell? ⟨w.heap.size + 1, j, none⟩ = w1.cell? ⟨w.heap.size + 1, j, none⟩ := by
    simp [go_sem, e]
   rw [e2, e]
   by_cases hlt : j < p
   ·rw [if_pos (by omega), if_pos hlt]
   ·rw [if_neg (by omega), if_neg hlt, show j - p = (j - (p + 1)) + 1 from by omega]
    simp
theorem TW.start (w : World) (n : Int) : TW w ((w.alloc (.cells #[.int .u64 (l0 n), .int .u64 (l1 n), .int .u64 (l2 n), .int .u64 (l3 n)] 24)).alloc (.cells Z78 115)) n 78 [] := by
 refine ⟨((Mo.refl _).alloc _ _).alloc _ _, by simp, by simp [At4, go_sem], fun o => by simp [go_sem], fun o => by simp [go_sem], ?_⟩
 intro j hj
 rw [if_pos hj]
 have : Z78[j]? = some (.int .u8 0) := by unfold Z78; simp [hj]
 simp [go_sem, this]
theorem conv (W : World) (k p l c : Nat) (acc : List Int) (h : Dg W k p acc) (hp : p + acc.length = 78) (hl : l = acc.length) :
  (convert 81 9 (.slice (some ⟨k, p, none⟩) l c)).run Tryz.prog W = .ok (.string (strOf acc)) W := by
 subst hl
 rw [run_convert_bytes_string W 81 9 5 _ _ _ Tryz.underlying81 Tryz.underlying5 Tryz.underlying9, run_bytesToString W _ _ _ acc]
 ·rfl
 ·rw [show acc.length = (acc.map (Value.int .u8)).length by simp]
  refine run_loadCells_list W _ _ ?_
  intro j v hv
  rw [List.getElem?_map, Option.map_eq_some_iff] at hv
  obtain ⟨x, hx, rfl⟩ := hv
  have hj : j < acc.length := by
   rcases Nat.lt_or_ge j acc.length with h' | h'
   ·exact h'
   ·rw [List.getElem?_eq_none h'] at hx; cases hx
  rw [Addr.add_mid]
  have := h (p + j) (by omega)
  rw [if_neg (by omega), show p + j - p = j from by omega, List.getD, hx] at this
  exact this
theorem len60 : Tryz.prog.arrayLen 115 = 78 := by kernel_rfl
theorem elem60 : Tryz.prog.elem 115 = 5 := by kernel_rfl
theorem sl60 (k p : Nat) (W : World) (h : p < 78) : (Instr.sliceAt 115 (.pointer (some ⟨k, 0, none⟩)) (some (.int .i64 (p : Int))) none none).run Tryz.prog W = .ok (.slice (some ⟨k, p, none⟩) (78 - p) (78 - p)) W := by
 have e := run_sliceAt_array_l (P := Tryz.prog) W 115 ⟨k, 0, none⟩ (by rw [len60, elem60]; exact Tryz.underlying115) .i64 (p : Int) (by omega) (by rw [len60]; omega)
 rw [e, len60, elem60, Tryz.sizeOf5]
 simp only [Result.andThen_ok, slicedAt, Int.toNat_natCast]
 rw [if_neg (by omega), Addr.add_mid, Nat.mul_one, Nat.zero_add]
theorem text_end {n : Int} {p : Nat} (h : n / 10 = 0) : decF (p + 1) n = [48 + n % 10] := by rw [decF, if_pos h]
theorem text_on {n : Int} {p : Nat} (h : n / 10 ≠ 0) : decF (p + 1) n = decF p (n / 10) ++ [48 + n % 10] := by rw [decF, if_neg h]

set_option maxHeartbeats 1000000 in
theorem text_n (n : Int) (w : World) (hn0 : 0 ≤ n) (hn : n < MM) :
  Calls Tryz.prog 76 #[nv n] w fun e w' =>
   e = .returned (.string (strOf (decF 78 n))) ∧ Mo w w' := by
 have hz := z60
 have q4 := eq4
 go_enter Tryz.func76, Tryz.ntmps76
 go_wp2
 refine wp_scope_jumps 0 (fun a' w' => ∃ (m : Int) (p : Nat) (acc : List Int) (u4 u6 u7 u8 u9 u10 u11 u12 u13 u14 u15 u16 u17 u18 u19 u20 u21 u22 u23 : Value), a' = { tmps := #[nv n, .pointer (some ⟨w.heap.size, 0, none⟩), .string ⟨#[]⟩, .pointer (some ⟨w.heap.size + 1, 0, none⟩), u4, .int .i64 ((p : Int) + 1), u6, u7, u8, u9, u10, u11, u12, u13, u14, u15, u16, u17, u18, u19, u20, u21, u22, u23], defers := [] } ∧ TW w w' m (p + 1) acc ∧ 0 < m ∧ m < 10 ^ (p + 1) ∧ m < MM ∧ p + 1 + acc.length = 78 ∧ decF 78 n = decF (p + 1) m ++ acc) (fun a' _ => (intOf (a'.tmps.getD 5 undef)).toNat) rfl ?_ ?_
 ·go_wp2_with fail
  go_step3
  go_wp2_with fail
  refine (divLimb_any (l0 n) (l1 n) (l2 n) (l3 n) 10 _ (u4_lb n) (by decide) (by decide)).mono ?_
  rintro e w1 ⟨rfl, hm⟩
  rw [vl_lb n hn0 hn]
  have t1 := (TW.start w n).mo hm
  have t3 := TW.step (q := n / 10) (d := 48 + n % 10) t1 (by decide)
  have z4 := zero4 (q := n / 10) (by omega) (by unfold MM at *; omega)
  have t2 := t1
  obtain ⟨k0, k1, ⟨A0, A1, A2, A3⟩, F1, F2, D⟩ := t2
  have F1 := fun o => F1 o
  have F2 := fun o => F2 o
  have D0 := D 77 (by decide)
  simp at D0
  clear hm D
  by_cases hq : n / 10 = 0
  ·have hb : (l0 (n / 10) == 0 && (l1 (n / 10) == 0 && (l2 (n / 10) == 0 && l3 (n / 10) == 0))) = true := by rw [z4]; exact decide_eq_true hq
   have cv := conv _ _ _ 1 1 _ t3.2.2.2.2.2 (by rfl) rfl
   have HE : Hid (decF 78 n = [48 + n % 10]) := text_end hq
   clear z4 hq
   go_wp2_with fail
   simp only [Exit.jump]
   go_ret
   exact ⟨by rw [HE.out]; rfl, t3.1⟩
  ·have hb : (l0 (n / 10) == 0 && (l1 (n / 10) == 0 && (l2 (n / 10) == 0 && l3 (n / 10) == 0))) = false := by rw [z4]; exact decide_eq_false hq
   have HE : Hid (decF 78 n = decF 77 (n / 10) ++ [48 + n % 10]) := text_on hq
   have HQ : Hid (n / 10 ≠ 0) := hq
   clear z4 hq
   go_wp2_with fail
   go_step3
   refine ⟨rfl, n / 10, 76, [48 + n % 10], _, _, _, _, _, _, _, _, _, _, _, _, _, _, _, _, _, _, _, rfl, t3, ?_, ?_, ?_, rfl, HE.out⟩
   ·have := HQ.out; omega
   ·unfold MM at hn; omega
   ·unfold MM at *; omega
 ·rintro a' w' ⟨m, p, acc, u4, u6, u7, u8, u9, u10, u11, u12, u13, u14, u15, u16, u17, u18, u19, u20, u21, u22, u23, rfl, ht, hm0, hm10, hmM, hlen, hdec⟩
  have hp : p < 78 := by omega
  have HD : Hid (decF 78 n = decF (p + 1) m ++ acc) := hdec
  have HL : Hid (p + 1 + acc.length = 78) := hlen
  have HM : Hid (m < 10 ^ (p + 1)) := hm10
  clear hdec hlen hm10
  have ht0 := ht
  obtain ⟨k0, k1, ⟨A0, A1, A2, A3⟩, F1, F2, D⟩ := ht
  clear D F1 F2
  go_wp2_with fail
  refine (divLimb_any (l0 m) (l1 m) (l2 m) (l3 m) 10 _ (u4_lb m) (by decide) (by decide)).mono ?_
  rintro e w1 ⟨rfl, hm⟩
  rw [vl_lb m (by omega) hmM]
  have t1 := ht0.mo hm
  have t3 := TW.step (q := m / 10) (d := 48 + m % 10) t1 hp
  have z4 := zero4 (q := m / 10) (by omega) (by unfold MM at *; omega)
  have t2 := t1
  clear A0 A1 A2 A3 k0 k1
  obtain ⟨k0, k1, ⟨A0, A1, A2, A3⟩, F1, F2, D⟩ := t2
  have F1 := fun o => F1 o
  have F2 := fun o => F2 o
  have D0 := D p hp
  rw [if_pos (by omega)] at D0
  clear hm D
  by_cases hq : m / 10 = 0
  ·have hb : (l0 (m / 10) == 0 && (l1 (m / 10) == 0 && (l2 (m / 10) == 0 && l3 (m / 10) == 0))) = true := by rw [z4]; exact decide_eq_true hq
   have cv := fun l c (hl : l = _) => conv _ _ _ l c _ t3.2.2.2.2.2 (by have := HL.out; simp; omega) hl
   have HE : Hid (decF (p + 1) m = [48 + m % 10]) := text_end hq
   clear z4 hq
   have sl := fun k W => sl60 k p W hp
   have cv2 := cv (78 - p) (78 - p) (by have := HL.out; simp; omega)
   clear cv
   go_wp2_with fail
   simp only [Exit.jump]
   go_ret
   exact ⟨by rw [HD.out, HE.out]; rfl, t3.1⟩
  ·have hb : (l0 (m / 10) == 0 && (l1 (m / 10) == 0 && (l2 (m / 10) == 0 && l3 (m / 10) == 0))) = false := by rw [z4]; exact decide_eq_false hq
   have HE : Hid (decF (p + 1) m = decF p (m / 10) ++ [48 + m % 10]) := text_on hq
   have HQ : Hid (m / 10 ≠ 0) := hq
   clear z4 hq
   go_wp2_with fail
   go_step3
   have b1 := HQ.out
   have b2 := HM.out
   rw [Int.pow_succ] at b2
   have hp1 : 1 ≤ p := by
    rcases Nat.eq_zero_or_pos p with h | h
    ·subst h; simp at b2; omega
    ·exact h
   obtain ⟨r, rfl⟩ : ∃ r, p = r + 1 := ⟨p - 1, by omega⟩
   refine ⟨rfl, ⟨m / 10, r, (48 + m % 10) :: acc, _, _, _, _, _, _, _, _, _, _, _, _, _, _, _, _, _, _, _, rfl, t3, by omega, by omega, by unfold MM at *; omega, ?_, ?_⟩, ?_⟩
   ·have := HL.out; simp; omega
   ·rw [HD.out, HE.out]; simp
   ·simp [intOf]; omega
end Go.Proofs.YtogomodbcjpfiaaGreatDoor

