/-
  A part of the proof.
-/
import Derived.Test.YthgknegocfhdbaaDoorC8
import Derived.Test.YthgknegocfhdbaaDoorC11
import Derived.Test.YthgknegocfhdbaaDoorRows
import Derived.Test.YthgknegocfhdbaaDoorC2
import Derived.Carry
import Derived.ChangeMaps5
import Derived.ChangeSame
import Derived.ChangeVars
import Derived.JoinedOf
import Derived.RowKitTokens
import Derived.LaidLaws
import Derived.LaidHandle
import Derived.Stop.Joined
import Derived.Lib.LaidIn
import Derived.JoinedCond
import Derived.SizedLaws
/-
 What Scan tells, of every text.
-/
namespace Go.Proofs.YthgknegocfhdbaaDoor.V
open Go.RowKit
theorem rch_1 {s : ByteArray} {k e : Nat} (hk : k < s.size) (h : rch s k = (1, e)) : k < e := by
 unfold rch at h
 split at h
 ·have h9 := (Prod.mk.inj h).2
  have := nme_rg s _ (k + 1) rfl (by omega)
  omega
 ·split at h
  ·cases (Prod.mk.inj h).1
  ·split at h
   ·cases (Prod.mk.inj h).1
   ·cases (Prod.mk.inj h).1
theorem size_ext {s : ByteArray} {k e : Nat} (he : e ≤ s.size) : (s.extract k e).size = e - k := by rw [ByteArray.size_extract, Nat.min_eq_left he]
theorem isDec_0 {t : ByteArray} (h : t.size = 0) : isDec t = false := by
 have h2 : t.toList.isEmpty = true := by rw [Lib.toList_data, List.isEmpty_iff]; exact List.length_eq_zero_iff.1 (by rw [by8_len]; exact h)
 unfold isDec
 rw [h2]; rfl
end Go.Proofs.YthgknegocfhdbaaDoor.V
/-
 Words against themselves; both Nexts say the same; what Scan tells, of both.
-/
namespace Go.Proofs.YthgknegocfhdbaaDoor.V
open Go.RowKit
theorem eqaS {ty : TypeId} {a b : Array Value} {r : Bool} {w : World} (hg : Tryd.prog.eqGuardType Tryd.prog.depth ty = false) (q : (Op.equalIn 10000 ty (.agg a) (.agg b)).run Tryd.prog w = .ok r w) (x y : Operand) :
  (do eqGuard .eql ty x y (.agg a) (.agg b); binOp .eql ty (.agg a) (.agg b)).run Tryd.prog w = .ok (.bool r) w := by
 have e : binOp .eql ty (.agg a) (.agg b) = (do pure (.bool (← Op.equalIn 10000 ty (.agg a) (.agg b)))) := rfl
 rw [Sem.run_bind, run_eqGuard_agg _ _ _ _ _ _ _ hg, e, Result.andThen_ok, Sem.run_bind, q]; rfl
theorem neaS {ty : TypeId} {a b : Array Value} {r : Bool} {w : World} (hg : Tryd.prog.eqGuardType Tryd.prog.depth ty = false) (q : (Op.equalIn 10000 ty (.agg a) (.agg b)).run Tryd.prog w = .ok r w) (x y : Operand) :
  (do eqGuard .neq ty x y (.agg a) (.agg b); binOp .neq ty (.agg a) (.agg b)).run Tryd.prog w = .ok (.bool (!r)) w := by
 have e : binOp .neq ty (.agg a) (.agg b) = (do pure (.bool (!(← Op.equalIn 10000 ty (.agg a) (.agg b))))) := rfl
 rw [Sem.run_bind, run_eqGuard_agg _ _ _ _ _ _ _ hg, e, Result.andThen_ok, Sem.run_bind, q]; rfl
theorem ht33 : Tryd.prog.underlying 33 = some (.struct (Tryd.prog.fieldsOf 33)) := by kernel_rfl
theorem hp33 : Tryd.prog.stoodInHeld 33 = false := by kernel_rfl
theorem fo33 : (Tryd.prog.fieldsOf 33).toList.map (fun f => (f.name, f.type, f.offset)) = [("Neg", 4, 0), ("N", 31, 1), ("Scale", 3, 5)] := by kernel_rfl
theorem ht35 : Tryd.prog.underlying 35 = some (.struct (Tryd.prog.fieldsOf 35)) := by kernel_rfl
theorem hp35 : Tryd.prog.stoodInHeld 35 = false := by kernel_rfl
theorem fo35 : (Tryd.prog.fieldsOf 35).toList.map (fun f => (f.name, f.type, f.offset)) = [("Kind", 3, 0), ("Num", 33, 1), ("Flag", 4, 7), ("Text", 9, 8), ("Err", 3, 9)] := by kernel_rfl
theorem ht37 : Tryd.prog.underlying 37 = some (.struct (Tryd.prog.fieldsOf 37)) := by kernel_rfl
theorem hp37 : Tryd.prog.stoodInHeld 37 = false := by kernel_rfl
theorem fo37 : (Tryd.prog.fieldsOf 37).toList.map (fun f => (f.name, f.type, f.offset)) = [("Kind", 3, 0), ("Text", 9, 1), ("Value", 35, 2), ("At", 3, 12)] := by kernel_rfl
theorem q33_0 (x0 x1 x2 x3 x4 x5 : Value) (w : World) : (part 4 #[x0, x1, x2, x3, x4, x5] 0).run Tryd.prog w = .ok x0 w := by kernel_rfl
theorem q33_1 (x0 x1 x2 x3 x4 x5 : Value) (w : World) : (part 31 #[x0, x1, x2, x3, x4, x5] 1).run Tryd.prog w = .ok (.agg #[x1, x2, x3, x4]) w := by kernel_rfl
theorem q33_5 (x0 x1 x2 x3 x4 x5 : Value) (w : World) : (part 3 #[x0, x1, x2, x3, x4, x5] 5).run Tryd.prog w = .ok x5 w := by kernel_rfl
theorem q35_0 (x0 x1 x2 x3 x4 x5 x6 x7 x8 x9 : Value) (w : World) : (part 3 #[x0, x1, x2, x3, x4, x5, x6, x7, x8, x9] 0).run Tryd.prog w = .ok x0 w := by kernel_rfl
theorem q35_1 (x0 x1 x2 x3 x4 x5 x6 x7 x8 x9 : Value) (w : World) : (part 33 #[x0, x1, x2, x3, x4, x5, x6, x7, x8, x9] 1).run Tryd.prog w = .ok (.agg #[x1, x2, x3, x4, x5, x6]) w := by kernel_rfl
theorem q35_7 (x0 x1 x2 x3 x4 x5 x6 x7 x8 x9 : Value) (w : World) : (part 4 #[x0, x1, x2, x3, x4, x5, x6, x7, x8, x9] 7).run Tryd.prog w = .ok x7 w := by kernel_rfl
theorem q35_8 (x0 x1 x2 x3 x4 x5 x6 x7 x8 x9 : Value) (w : World) : (part 9 #[x0, x1, x2, x3, x4, x5, x6, x7, x8, x9] 8).run Tryd.prog w = .ok x8 w := by kernel_rfl
theorem q35_9 (x0 x1 x2 x3 x4 x5 x6 x7 x8 x9 : Value) (w : World) : (part 3 #[x0, x1, x2, x3, x4, x5, x6, x7, x8, x9] 9).run Tryd.prog w = .ok x9 w := by kernel_rfl
theorem q37_0 (x0 x1 x2 x3 x4 x5 x6 x7 x8 x9 xa xb xc : Value) (w : World) : (part 3 #[x0, x1, x2, x3, x4, x5, x6, x7, x8, x9, xa, xb, xc] 0).run Tryd.prog w = .ok x0 w := by kernel_rfl
theorem q37_1 (x0 x1 x2 x3 x4 x5 x6 x7 x8 x9 xa xb xc : Value) (w : World) : (part 9 #[x0, x1, x2, x3, x4, x5, x6, x7, x8, x9, xa, xb, xc] 1).run Tryd.prog w = .ok x1 w := by kernel_rfl
theorem q37_2 (x0 x1 x2 x3 x4 x5 x6 x7 x8 x9 xa xb xc : Value) (w : World) : (part 35 #[x0, x1, x2, x3, x4, x5, x6, x7, x8, x9, xa, xb, xc] 2).run Tryd.prog w = .ok (.agg #[x2, x3, x4, x5, x6, x7, x8, x9, xa, xb]) w := by kernel_rfl
theorem q37_c (x0 x1 x2 x3 x4 x5 x6 x7 x8 x9 xa xb xc : Value) (w : World) : (part 3 #[x0, x1, x2, x3, x4, x5, x6, x7, x8, x9, xa, xb, xc] 12).run Tryd.prog w = .ok xc w := by kernel_rfl
theorem q31s (d : Nat) (a b c e : Int) (w : World) : (Op.equalIn (d + 1 + 1) 31 (.agg #[.int .u64 a, .int .u64 b, .int .u64 c, .int .u64 e]) (.agg #[.int .u64 a, .int .u64 b, .int .u64 c, .int .u64 e])).run Tryd.prog w = .ok true w := by
 obtain ⟨j, hj⟩ := info22
 rw [run_equalIn_array w (d + 1) _ _ Tryd.underlying31 hj, cells22]
 have q : ∀ (x : Int), (Op.equalIn (d + 1) 29 (.int .u64 x) (.int .u64 x)).run Tryd.prog w = .ok true w := fun x => by rw [run_equalIn_int w d 29 .u64 .u64 x x Tryd.underlying29]; simp
 rw [show List.range 4 = [0, 1, 2, 3] from rfl]
 simp [Op.eqItems, Sem.run_bind, part0, part1, part2, part3, Result.andThen_ok, q, Sem.run_pure]
theorem qbool (d : Nat) (b : Bool) (w : World) : (Op.equalIn (d + 1) 4 (.bool b) (.bool b)).run Tryd.prog w = .ok true w := by
 have : (Op.equalIn (d + 1) 4 (.bool b) (.bool b)).run Tryd.prog w = .ok (b == b) w := by kernel_rfl
 rw [this]; simp
theorem qint (d : Nat) (x : Int) (w : World) : (Op.equalIn (d + 1) 3 (.int .i64 x) (.int .i64 x)).run Tryd.prog w = .ok true w := by rw [run_equalIn_int w d 3 .i64 .i64 x x Tryd.underlying3]; simp
theorem qstr (d : Nat) (t : ByteArray) (w : World) : (Op.equalIn (d + 1) 9 (.string t) (.string t)).run Tryd.prog w = .ok true w := by
 have : (Op.equalIn (d + 1) 9 (.string t) (.string t)).run Tryd.prog w = .ok (t == t) w := by kernel_rfl
 have h2 : (t == t) = true := by
  obtain ⟨a⟩ := t
  show (a == a) = true
  exact beq_self_eq_true a
 rw [this, h2]
theorem q33s (d : Nat) (b : Bool) (n0 n1 n2 n3 s : Int) (w : World) : (Op.equalIn (d + 1 + 1 + 1) 33 (.agg #[.bool b, .int .u64 n0, .int .u64 n1, .int .u64 n2, .int .u64 n3, .int .i64 s]) (.agg #[.bool b, .int .u64 n0, .int .u64 n1, .int .u64 n2, .int .u64 n3, .int .i64 s])).run Tryd.prog w = .ok true w := by
 rw [run_equalIn_struct w (d + 1 + 1) 33 _ _ ht33 hp33]
 have h := fo33
 generalize (Tryd.prog.fieldsOf 33).toList = L at h
 have hl : L.length = 3 := by have := congrArg List.length h; simpa using this
 match L, hl with
 | [f0, f1, f2], _ =>
  simp at h
  obtain ⟨⟨a0, a1, a2⟩, ⟨b0, b1, b2⟩, ⟨c0, c1, c2⟩⟩ := h
  simp [Op.eqFields, a0, a1, a2, b0, b1, b2, c0, c1, c2, Sem.run_bind, q33_0, q33_1, q33_5, Result.andThen_ok, qbool, q31s, qint, Sem.run_pure]
theorem q35s (d : Nat) (K : Int) (b : Bool) (n0 n1 n2 n3 s : Int) (fl : Bool) (t : ByteArray) (er : Int) (w : World) : (Op.equalIn (d + 1 + 1 + 1 + 1) 35 (.agg #[.int .i64 K, .bool b, .int .u64 n0, .int .u64 n1, .int .u64 n2, .int .u64 n3, .int .i64 s, .bool fl, .string t, .int .i64 er]) (.agg #[.int .i64 K, .bool b, .int .u64 n0, .int .u64 n1, .int .u64 n2, .int .u64 n3, .int .i64 s, .bool fl, .string t, .int .i64 er])).run Tryd.prog w = .ok true w := by
 rw [run_equalIn_struct w (d + 1 + 1 + 1) 35 _ _ ht35 hp35]
 have h := fo35
 generalize (Tryd.prog.fieldsOf 35).toList = L at h
 have hl : L.length = 5 := by have := congrArg List.length h; simpa using this
 match L, hl with
 | [f0, f1, f2, f3, f4], _ =>
  simp at h
  obtain ⟨⟨a0, a1, a2⟩, ⟨b0, b1, b2⟩, ⟨c0, c1, c2⟩, ⟨g0, g1, g2⟩, ⟨i0, i1, i2⟩⟩ := h
  simp [Op.eqFields, a0, a1, a2, b0, b1, b2, c0, c1, c2, g0, g1, g2, i0, i1, i2, Sem.run_bind, q35_0, q35_1, q35_7, q35_8, q35_9, Result.andThen_ok, qbool, q33s, qint, qstr, Sem.run_pure]
theorem q37g (d : Nat) (A K B : Int) (u : ByteArray) (b : Bool) (n0 n1 n2 n3 s : Int) (fl : Bool) (t : ByteArray) (er : Int) (w : World) : (Op.equalIn (d + 1 + 1 + 1 + 1 + 1) 37 (.agg #[.int .i64 A, .string u, .int .i64 K, .bool b, .int .u64 n0, .int .u64 n1, .int .u64 n2, .int .u64 n3, .int .i64 s, .bool fl, .string t, .int .i64 er, .int .i64 B]) (.agg #[.int .i64 A, .string u, .int .i64 K, .bool b, .int .u64 n0, .int .u64 n1, .int .u64 n2, .int .u64 n3, .int .i64 s, .bool fl, .string t, .int .i64 er, .int .i64 B])).run Tryd.prog w = .ok true w := by
 rw [run_equalIn_struct w (d + 1 + 1 + 1 + 1) 37 _ _ ht37 hp37]
 have h := fo37
 generalize (Tryd.prog.fieldsOf 37).toList = L at h
 have hl : L.length = 4 := by have := congrArg List.length h; simpa using this
 match L, hl with
 | [f0, f1, f2, f3], _ =>
  simp at h
  obtain ⟨⟨a0, a1, a2⟩, ⟨b0, b1, b2⟩, ⟨c0, c1, c2⟩, ⟨g0, g1, g2⟩⟩ := h
  simp [Op.eqFields, a0, a1, a2, b0, b1, b2, c0, c1, c2, g0, g1, g2, Sem.run_bind, q37_0, q37_1, q37_2, q37_c, Result.andThen_ok, q35s, qint, qstr, Sem.run_pure]
theorem q37s (A K B : Int) (u : ByteArray) (b : Bool) (n0 n1 n2 n3 s : Int) (fl : Bool) (t : ByteArray) (er : Int) (w : World) : (Op.equalIn 10000 37 (.agg #[.int .i64 A, .string u, .int .i64 K, .bool b, .int .u64 n0, .int .u64 n1, .int .u64 n2, .int .u64 n3, .int .i64 s, .bool fl, .string t, .int .i64 er, .int .i64 B]) (.agg #[.int .i64 A, .string u, .int .i64 K, .bool b, .int .u64 n0, .int .u64 n1, .int .u64 n2, .int .u64 n3, .int .i64 s, .bool fl, .string t, .int .i64 er, .int .i64 B])).run Tryd.prog w = .ok true w := q37g 9995 A K B u b n0 n1 n2 n3 s fl t er w
theorem gt37 : Tryd.prog.eqGuardType Tryd.prog.depth 37 = false := by kernel_rfl
def SelfE (a : Array Value) : Prop := ∀ w : World, (Op.equalIn 10000 37 (.agg a) (.agg a)).run Tryd.prog w = .ok true w
theorem SelfE.eq {a : Array Value} (h : SelfE a) (x y : Operand) (w : World) : (do eqGuard .eql 37 x y (.agg a) (.agg a); binOp .eql 37 (.agg a) (.agg a)).run Tryd.prog w = .ok (.bool true) w := eqaS gt37 (h w) x y
theorem SelfE.ne {a : Array Value} (h : SelfE a) (x y : Operand) (w : World) : (do eqGuard .neq 37 x y (.agg a) (.agg a); binOp .neq 37 (.agg a) (.agg a)).run Tryd.prog w = .ok (.bool false) w := neaS gt37 (h w) x y
structure Nt (s : ByteArray) (k e K : Nat) (v0 v1 v2 v3 v4 v5 v6 v7 v8 v9 : Value) : Prop where
 lt : k < e
 le : e ≤ s.size
 oc : ([.int .i64 ((K : Nat) : Int), .string (s.extract k e), v0, v1, v2, v3, v4, v5, v6, v7, v8, v9, .int .i64 ((k : Nat) : Int)] : List Value).all (·.oneCell') = true
 se : SelfE #[.int .i64 ((K : Nat) : Int), .string (s.extract k e), v0, v1, v2, v3, v4, v5, v6, v7, v8, v9, .int .i64 ((k : Nat) : Int)]
 n1 : ∀ w, Calls Tryd.prog 12 #[.string s, .int .i64 ((k : Nat) : Int)] w fun e' w' => e' = .returned (.tuple #[.agg #[.int .i64 ((K : Nat) : Int), .string (s.extract k e), v0, v1, v2, v3, v4, v5, v6, v7, v8, v9, .int .i64 ((k : Nat) : Int)], .int .i64 0]) ∧ Mw w w'
 n2 : ∀ w, Calls Tryd.prog 13 #[.string s, .int .i64 ((k : Nat) : Int)] w fun e' w' => e' = .returned (.tuple #[.agg #[.int .i64 ((K : Nat) : Int), .string (s.extract k e), v0, v1, v2, v3, v4, v5, v6, v7, v8, v9, .int .i64 ((k : Nat) : Int)], .int .i64 0]) ∧ Mw w w'
structure Nf (s : ByteArray) (k : Nat) : Prop where
 n1 : ∀ w, Calls Tryd.prog 12 #[.string s, .int .i64 ((k : Nat) : Int)] w fun e' w' => e' = .returned (.tuple #[.agg #[.int .i64 0, .string ⟨#[]⟩, .int .i64 0, .bool false, .int .u64 0, .int .u64 0, .int .u64 0, .int .u64 0, .int .i64 0, .bool false, .string ⟨#[]⟩, .int .i64 0, .int .i64 0], .int .i64 70]) ∧ Mw w w'
 n2 : ∀ w, Calls Tryd.prog 13 #[.string s, .int .i64 ((k : Nat) : Int)] w fun e' w' => e' = .returned (.tuple #[.agg #[.int .i64 0, .string ⟨#[]⟩, .int .i64 0, .bool false, .int .u64 0, .int .u64 0, .int .u64 0, .int .u64 0, .int .i64 0, .bool false, .string ⟨#[]⟩, .int .i64 0, .int .i64 0], .int .i64 70]) ∧ Mw w w'
theorem rch_1l {s : ByteArray} {k : Nat} (h : ltr (bt s k) = true) : rch s k = (1, nme s k) := by
 unfold rch; rw [if_pos h, nme_on (k := k) (by rw [h]; rfl)]
theorem rch_2l {s : ByteArray} {k : Nat} (h : ltr (bt s k) = false) (h2 : dgt (bt s k) = true) : rch s k = (2, k + pfx (s.extract k s.size)) := by
 unfold rch; rw [if_neg (by rw [h]; simp), if_pos h2]
theorem rch_3l {s : ByteArray} {k : Nat} (h : ltr (bt s k) = false) (h2 : dgt (bt s k) = false) (h3 : (bt s k == 34) = true) : rch s k = (3, (cl s (k + 1)).getD k) := by
 unfold rch; rw [if_neg (by rw [h]; simp), if_neg (by rw [h2]; simp), if_pos h3, qte_cl s k _ k (Nat.le_refl _)]
theorem rch_4l {s : ByteArray} {k : Nat} (h : ltr (bt s k) = false) (h2 : dgt (bt s k) = false) (h3 : (bt s k == 34) = false) : rch s k = (4, if k + 2 ≤ s.size ∧ symb (s.extract k (k + 2)) = true then k + 2 else k + 1) := by
 unfold rch; rw [if_neg (by rw [h]; simp), if_neg (by rw [h2]; simp), if_neg (by rw [h3]; simp)]
theorem unq_0 {t : ByteArray} (h : t.size = 0) : (unq t).2 = false := by
 unfold unq; rw [if_pos (Or.inl (by omega))]
theorem nx_both (s : ByteArray) (hs : s.size ≤ 1000000000000) (k : Nat) (hk : k < s.size) : (∃ (e K : Nat) (v0 v1 v2 v3 v4 v5 v6 v7 v8 v9 : Value), Nt s k e K v0 v1 v2 v3 v4 v5 v6 v7 v8 v9) ∨ Nf s k := by
 have hs47 : s.size ≤ 140737488355328 := by omega
 have hrg := rch_rg hk
 have hzz : ∀ e, (s.extract k e).size ≤ s.size := fun e => by rw [ByteArray.size_extract]; omega
 cases h1 : ltr (bt s k) with
 | true =>
  have hr := rch_1l h1
  obtain ⟨e, he⟩ : ∃ e, nme s k = e := ⟨_, rfl⟩
  rw [he] at hr
  rw [hr] at hrg
  simp only at hrg
  cases ho : nam (s.extract k e) with
  | true =>
   have hm := fun w => meaning_1 (s.extract k e) w (by have := hzz e; unfold maxLen; omega)
   simp only [ho] at hm
   exact Or.inl ⟨e, 1, _, _, _, _, _, _, _, _, _, _, rch_1 hk hr, hrg.2, rfl, fun w => q37s _ _ _ _ _ _ _ _ _ _ _ _ _ w, fun w => next_1t s k e w hs47 hk hr hm, fun w => rnext_1t s k e w hs hk h1 he ho⟩
  | false =>
   have hm := fun w => meaning_1 (s.extract k e) w (by have := hzz e; unfold maxLen; omega)
   simp only [ho] at hm
   exact Or.inr ⟨fun w => next_1f s k e w hs47 hk hr hm, fun w => rnext_1f s k e w hs hk h1 he ho⟩
 | false =>
  cases h2 : dgt (bt s k) with
  | true =>
   have hr := rch_2l h1 h2
   obtain ⟨e, he⟩ : ∃ e, k + pfx (s.extract k s.size) = e := ⟨_, rfl⟩
   rw [he] at hr
   rw [hr] at hrg
   simp only at hrg
   have hz := size_ext (s := s) (k := k) hrg.2
   obtain ⟨b, N, E, kk, _, _, _, _, h30, hP, hP2⟩ := parse_both (s.extract k e) (by have := hzz e; omega)
   have hm := fun w => meaning_2 (s.extract k e) w b N E kk hP
   cases ho : (E == 0) with
   | true =>
    have hke : k < e := by
     rcases Nat.lt_or_ge k e with h | h
     ·exact h
     ·rw [isDec_0 (by rw [hz]; exact Nat.sub_eq_zero_of_le h), eq_of_beq ho] at h30; cases h30
    simp only [ho] at hm
    exact Or.inl ⟨e, 2, _, _, _, _, _, _, _, _, _, _, hke, hrg.2, rfl, fun w => q37s _ _ _ _ _ _ _ _ _ _ _ _ _ w, fun w => next_2t s k e b N kk w hs47 hk hr hm, fun w => rnext_2t s k e w hs hk h1 h2 he hrg.2 b N E kk ho hP2⟩
   | false =>
    simp only [ho] at hm
    exact Or.inr ⟨fun w => next_2f s k e b N kk w hs47 hk hr hm, fun w => rnext_2f s k e w hs hk h1 h2 he hrg.2 b N E kk ho hP2⟩
  | false =>
   cases h3 : (bt s k == 34) with
   | true =>
    have hr := rch_3l h1 h2 h3
    cases hc : cl s (k + 1) with
    | none =>
     rw [hc] at hr
     simp only [Option.getD_none] at hr
     have hm := fun w => meaning_3 (s.extract k k) w (by have := hzz k; omega)
     have hu := unq_0 (t := s.extract k k) (by rw [size_ext (by omega)]; omega)
     simp only [hu, Bool.false_and] at hm
     exact Or.inr ⟨fun w => next_3f s k k w hs47 hk hr hm, fun w => rnext_3n s k w hs hk h1 h2 h3 hc⟩
    | some e =>
     rw [hc] at hr
     simp only [Option.getD_some] at hr
     have hg := cl_rg s _ (k + 1) (Nat.le_refl _) e hc
     have hm := fun w => meaning_3 (s.extract k e) w (by have := hzz e; omega)
     cases hu : (unq (s.extract k e)).2 with
     | false =>
      simp only [hu, Bool.false_and] at hm
      exact Or.inr ⟨fun w => next_3f s k e w hs47 hk hr hm, fun w => rnext_3f s k e w hs hk h1 h2 h3 hc hu⟩
     | true =>
      cases h64 : decide ((unq (s.extract k e)).1.size ≤ 64) with
      | true =>
       simp only [hu, h64, Bool.true_and] at hm
       exact Or.inl ⟨e, 3, _, _, _, _, _, _, _, _, _, _, by omega, hg.2, rfl, fun w => q37s _ _ _ _ _ _ _ _ _ _ _ _ _ w, fun w => next_3t s k e w hs47 hk hr hm, fun w => rnext_3t s k e w hs hk h1 h2 h3 hc hu h64⟩
      | false =>
       simp only [hu, h64, Bool.true_and] at hm
       exact Or.inr ⟨fun w => next_3f s k e w hs47 hk hr hm, fun w => rnext_3g s k e w hs hk h1 h2 h3 hc hu h64⟩
   | false =>
    have hr := rch_4l h1 h2 h3
    by_cases h4 : k + 2 ≤ s.size ∧ symb (s.extract k (k + 2)) = true
    ·rw [if_pos h4] at hr
     have hm := fun w => meaning_4 (s.extract k (k + 2)) w
     simp only [h4.2] at hm
     exact Or.inl ⟨k + 2, 4, _, _, _, _, _, _, _, _, _, _, by omega, h4.1, rfl, fun w => q37s _ _ _ _ _ _ _ _ _ _ _ _ _ w, fun w => next_4t s k (k + 2) w hs47 hk hr hm, fun w => rnext_6 s k (k + 2) w hs hk h1 h2 h3 (by omega) rfl h4.2⟩
    ·rw [if_neg h4] at hr
     have hm := fun w => meaning_4 (s.extract k (k + 1)) w
     cases ho : symb (s.extract k (k + 1)) with
     | true =>
      simp only [ho] at hm
      refine Or.inl ⟨k + 1, 4, _, _, _, _, _, _, _, _, _, _, by omega, by omega, rfl, fun w => q37s _ _ _ _ _ _ _ _ _ _ _ _ _ w, fun w => next_4t s k (k + 1) w hs47 hk hr hm, fun w => ?_⟩
      by_cases hz : k + 1 < s.size
      ·exact rnext_4t s k (k + 1) w hs hk h1 h2 h3 hz (by cases e : symb (s.extract k (k + 2)) with | false => rfl | true => exact absurd ⟨by omega, e⟩ h4) rfl ho
      ·exact rnext_5t s k (k + 1) w hs hk h1 h2 h3 hz rfl ho
     | false =>
      simp only [ho] at hm
      refine Or.inr ⟨fun w => next_4f s k (k + 1) w hs47 hk hr hm, fun w => ?_⟩
      by_cases hz : k + 1 < s.size
      ·exact rnext_4f s k (k + 1) w hs hk h1 h2 h3 hz (by cases e : symb (s.extract k (k + 2)) with | false => rfl | true => exact absurd ⟨by omega, e⟩ h4) rfl ho
      ·exact rnext_5f s k (k + 1) w hs hk h1 h2 h3 hz rfl ho
end Go.Proofs.YthgknegocfhdbaaDoor.V
/-
 What Scan tells of the two texts that the law fixes.
-/
namespace Go.Proofs.YthgknegocfhdbaaDoor.V
open Go.RowKit
abbrev sa : ByteArray := ⟨#[97, 46, 98, 60, 61, 49, 46, 53, 48, 47, 47, 99]⟩
abbrev sb : ByteArray := ⟨#[32, 35]⟩
abbrev sn : ByteArray := ⟨#[49, 46, 53, 48, 47, 47, 99]⟩
theorem symb_d (s : ByteArray) : symb s = sys.any (fun x => by8 s == by8 x) := by
 unfold symb
 simp only [Lib.toList_data]
theorem blk_sb0 : blk sb 0 = 1 := by
 rw [blk_b (by decide) (by decide), blk_n (by decide) (by decide)]
theorem rch_sb : rch sb 1 = (4, 2) := by
 unfold rch
 rw [if_neg (by decide), if_neg (by decide), if_neg (by decide), if_neg (by decide)]
theorem ext_sb : sb.extract 1 2 = ⟨#[35]⟩ := by kernel_rfl
theorem sc_sb : Sc sb (blk sb 0) [] 1 70 := by
 rw [blk_sb0]
 refine Sc.err (by decide) (fun w => next_4f sb 1 2 w (by decide) (by decide) rch_sb (fun w => ?_))
 have h := meaning_4 (sb.extract 1 2) w
 have hs : symb (sb.extract 1 2) = false := by rw [ext_sb, symb_d]; decide
 rw [hs] at h
 exact h
theorem pfx_sn : pfx sn = 4 := by
 have b0 : bt sn 0 = 49 := rfl
 have b1 : bt sn 1 = 46 := rfl
 have b2 : bt sn 2 = 53 := rfl
 have b3 : bt sn 3 = 48 := rfl
 have b4 : bt sn 4 = 47 := rfl
 have r1 : re sn 1 = 1 := re_end (by rw [b1]; rfl)
 have r0 : re sn 0 = 1 := by rw [re_on (by rw [b0]; rfl), r1]
 have r4 : re sn 4 = 4 := re_end (by rw [b4]; rfl)
 have r3 : re sn 3 = 4 := by rw [re_on (by rw [b3]; rfl), r4]
 have r2 : re sn 2 = 4 := by rw [re_on (by rw [b2]; rfl), r3]
 unfold pfx fi
 rw [b0, r0]
 unfold ah
 rw [b1, b2, r2]
 rfl
theorem ext_sn : sa.extract 5 12 = sn := by kernel_rfl
theorem ext_0 : sa.extract 0 1 = ⟨#[97]⟩ := by kernel_rfl
theorem ext_1 : sa.extract 1 2 = ⟨#[46]⟩ := by kernel_rfl
theorem ext_1b : sa.extract 1 3 = ⟨#[46, 98]⟩ := by kernel_rfl
theorem ext_2 : sa.extract 2 3 = ⟨#[98]⟩ := by kernel_rfl
theorem ext_3 : sa.extract 3 5 = ⟨#[60, 61]⟩ := by kernel_rfl
theorem ext_5 : sa.extract 5 9 = ⟨#[49, 46, 53, 48]⟩ := by kernel_rfl
theorem nam_1 (c : UInt8) (h : ltr (bt ⟨#[c]⟩ 0) = true) : nam ⟨#[c]⟩ = true := by
 have h1 : nmA ⟨#[c]⟩ 0 = true := by rw [nmA_in (show 0 < 1 by decide), nmA_end (show ¬ 0 + 1 < 1 by decide), h]; rfl
 unfold nam
 rw [h, h1]; rfl
theorem rch_a0 : rch sa 0 = (1, 1) := by unfold rch; rw [if_pos (by decide), nme_end (by decide)]
theorem rch_a1 : rch sa 1 = (4, 2) := by unfold rch; rw [if_neg (by decide), if_neg (by decide), if_neg (by decide), if_neg (fun h => by have h2 := h.2; rw [ext_1b, symb_d] at h2; revert h2; decide)]
theorem rch_a2 : rch sa 2 = (1, 3) := by unfold rch; rw [if_pos (by decide), nme_end (by decide)]
theorem rch_a3 : rch sa 3 = (4, 5) := by unfold rch; rw [if_neg (by decide), if_neg (by decide), if_neg (by decide), if_pos ⟨by decide, by rw [ext_3, symb_d]; decide⟩]
theorem rch_a5 : rch sa 5 = (2, 9) := by unfold rch; rw [if_neg (by decide), if_pos (by decide), show sa.extract 5 sa.size = sn from ext_sn, pfx_sn]
theorem blk_a {k : Nat} (h1 : isb (bt sa k) = false) (h2 : ((bt sa k == 47) && (bt sa (k + 1) == 47)) = false) : blk sa k = k := blk_n h1 h2
theorem blk_a9 : blk sa 9 = 12 := by
 rw [blk_c (by decide) (by decide) (by decide)]
 rw [lnx_on (by decide) (by decide), lnx_on (by decide) (by decide), lnx_end (by decide), blk_end (by decide)]
theorem df_5 : Df (by8 ⟨#[49, 46, 53, 48]⟩) false [49] [53, 48] := ⟨rfl, by decide, by decide, by decide, by decide, fun h => by cases h⟩
theorem par_5 (w : World) : Calls Tryd.prog 48 #[.string (sa.extract 5 9)] w fun e w' => e = .returned (.tuple #[dc false 150 ((2 : Nat) : Int), .int .i64 0]) ∧ Mo w w' := by
 rw [ext_5]
 exact parse13_df df_5 (by decide) w
def La : List (List Value) := [[.int .i64 ((1 : Nat) : Int), .string (sa.extract 0 1), .int .i64 0, .bool false, .int .u64 0, .int .u64 0, .int .u64 0, .int .u64 0, .int .i64 0, .bool false, .string ⟨#[]⟩, .int .i64 0, .int .i64 ((0 : Nat) : Int)], [.int .i64 ((4 : Nat) : Int), .string (sa.extract 1 2), .int .i64 0, .bool false, .int .u64 0, .int .u64 0, .int .u64 0, .int .u64 0, .int .i64 0, .bool false, .string ⟨#[]⟩, .int .i64 0, .int .i64 ((1 : Nat) : Int)], [.int .i64 ((1 : Nat) : Int), .string (sa.extract 2 3), .int .i64 0, .bool false, .int .u64 0, .int .u64 0, .int .u64 0, .int .u64 0, .int .i64 0, .bool false, .string ⟨#[]⟩, .int .i64 0, .int .i64 ((2 : Nat) : Int)], [.int .i64 ((4 : Nat) : Int), .string (sa.extract 3 5), .int .i64 0, .bool false, .int .u64 0, .int .u64 0, .int .u64 0, .int .u64 0, .int .i64 0, .bool false, .string ⟨#[]⟩, .int .i64 0, .int .i64 ((3 : Nat) : Int)], [.int .i64 ((2 : Nat) : Int), .string (sa.extract 5 9), .int .i64 1, .bool false, .int .u64 (l0 (150)), .int .u64 (l1 (150)), .int .u64 (l2 (150)), .int .u64 (l3 (150)), .int .i64 (((2 : Nat) : Int)), .bool false, .string ⟨#[]⟩, .int .i64 0, .int .i64 ((5 : Nat) : Int)]]
theorem sc_sa : Sc sa (blk sa 0) La 0 0 := by
 rw [blk_a (by decide) (by decide)]
 have m0 : ∀ w, Calls Tryd.prog 28 #[.int .i64 ((1 : Nat) : Int), .string (sa.extract 0 1)] w fun e' w' => e' = .returned (.tuple #[.agg #[.int .i64 0, .bool false, .int .u64 0, .int .u64 0, .int .u64 0, .int .u64 0, .int .i64 0, .bool false, .string ⟨#[]⟩, .int .i64 0], .bool true]) ∧ Mw w w' := fun w => by
  have h := meaning_1 (sa.extract 0 1) w (by decide)
  rw [show nam (sa.extract 0 1) = true from by rw [ext_0]; exact nam_1 _ (by decide)] at h; exact h
 have m1 : ∀ w, Calls Tryd.prog 28 #[.int .i64 ((4 : Nat) : Int), .string (sa.extract 1 2)] w fun e' w' => e' = .returned (.tuple #[.agg #[.int .i64 0, .bool false, .int .u64 0, .int .u64 0, .int .u64 0, .int .u64 0, .int .i64 0, .bool false, .string ⟨#[]⟩, .int .i64 0], .bool true]) ∧ Mw w w' := fun w => by
  have h := meaning_4 (sa.extract 1 2) w
  rw [show symb (sa.extract 1 2) = true from by rw [ext_1, symb_d]; decide] at h; exact h
 have m2 : ∀ w, Calls Tryd.prog 28 #[.int .i64 ((1 : Nat) : Int), .string (sa.extract 2 3)] w fun e' w' => e' = .returned (.tuple #[.agg #[.int .i64 0, .bool false, .int .u64 0, .int .u64 0, .int .u64 0, .int .u64 0, .int .i64 0, .bool false, .string ⟨#[]⟩, .int .i64 0], .bool true]) ∧ Mw w w' := fun w => by
  have h := meaning_1 (sa.extract 2 3) w (by decide)
  rw [show nam (sa.extract 2 3) = true from by rw [ext_2]; exact nam_1 _ (by decide)] at h; exact h
 have m3 : ∀ w, Calls Tryd.prog 28 #[.int .i64 ((4 : Nat) : Int), .string (sa.extract 3 5)] w fun e' w' => e' = .returned (.tuple #[.agg #[.int .i64 0, .bool false, .int .u64 0, .int .u64 0, .int .u64 0, .int .u64 0, .int .i64 0, .bool false, .string ⟨#[]⟩, .int .i64 0], .bool true]) ∧ Mw w w' := fun w => by
  have h := meaning_4 (sa.extract 3 5) w
  rw [show symb (sa.extract 3 5) = true from by rw [ext_3, symb_d]; decide] at h; exact h
 have m5 : ∀ w, Calls Tryd.prog 28 #[.int .i64 ((2 : Nat) : Int), .string (sa.extract 5 9)] w fun e' w' => e' = .returned (.tuple #[.agg #[.int .i64 1, .bool false, .int .u64 (l0 (150)), .int .u64 (l1 (150)), .int .u64 (l2 (150)), .int .u64 (l3 (150)), .int .i64 (((2 : Nat) : Int)), .bool false, .string ⟨#[]⟩, .int .i64 0], .bool true]) ∧ Mw w w' := fun w => meaning_2 (sa.extract 5 9) w false 150 0 2 par_5
 refine Sc.tok (by decide) (by decide) (by decide) rfl (fun w => next_1t sa 0 1 w (by decide) (by decide) rch_a0 m0) ?_
 rw [blk_a (by decide) (by decide)]
 refine Sc.tok (by decide) (by decide) (by decide) rfl (fun w => next_4t sa 1 2 w (by decide) (by decide) rch_a1 m1) ?_
 rw [blk_a (by decide) (by decide)]
 refine Sc.tok (by decide) (by decide) (by decide) rfl (fun w => next_1t sa 2 3 w (by decide) (by decide) rch_a2 m2) ?_
 rw [blk_a (by decide) (by decide)]
 refine Sc.tok (by decide) (by decide) (by decide) rfl (fun w => next_4t sa 3 5 w (by decide) (by decide) rch_a3 m3) ?_
 rw [blk_a (by decide) (by decide)]
 refine Sc.tok (by decide) (by decide) (by decide) rfl (fun w => next_2t sa 5 9 false 150 2 w (by decide) (by decide) rch_a5 m5) ?_
 rw [blk_a9]
 exact Sc.done (by decide)
end Go.Proofs.YthgknegocfhdbaaDoor.V
/-
 exciselaw07.live.
-/
namespace Go.Proofs.YthgknegocfhdbaaDoor.V
open Go.RowKit
theorem own_at37 {w : World} {N g cap n : Nat} {xs : List Value} (h : w.ownsRow N 37 13 (.slice (some ⟨g, 0, none⟩) n cap) n xs) : At w g xs := by
 have hl := h.1
 refine ⟨fun j v hv => ?_, fun o => h.frozenAt o, (h.lt g rfl).2⟩
 have hj : j < xs.length := (List.getElem?_eq_some_iff.1 hv).1
 rw [Nat.zero_add, h.cellAt j (by omega)]; exact hv
theorem ix22t (g j n c : Nat) (h : j < n) (w : World) : (Instr.indexAt 22 (.slice (some ⟨g, 0, none⟩) n c) (.int .i64 (j : Int))).run Tryd.prog w = .ok (pt g (j * 13)) w := by
 have e : (Instr.indexAt 22 (.slice (some ⟨g, 0, none⟩) n c) (.int .i64 (j : Int))).run Tryd.prog w = .ok (.pointer (some ((⟨g, 0, none⟩ : Addr).add (j * 13)))) w := by simp [go_sem, h]
 rw [e, Addr.add_mid, Nat.zero_add]
theorem len22t (ρ : Operand → Value) (x : Operand) (p : Option Addr) (m c : Nat) (hx : ρ x = .slice p m c) (dst : Option Tmp) (type : TypeId) (pos : String) (after : Array Edge) (guard : Option (Nat × Bool)) (w : World) : (execOp ρ { dst, op := .call { callee := .builtin .len, args := #[x], argTypes := #[22] }, type, pos, after, guard }).run Tryd.prog w = .ok (.value (.int .i64 (m : Int))) w := by
 simp [go_sem, hx]
theorem live_n (w : World) : Calls Tryd.prog 10 #[] w fun e w' => e = .returned (.bool true) ∧ Mw w w' := by
 refine w_enter 53 Tryd.func10 Tryd.ntmps10 rfl rfl ?_
 have M : Mw w w := Mw.refl _
 refine w_seq (w_reg ?_)
 refine wl_m (.const (.bool false)) (.bool false) ?_
 refine w_nil (xn_then (w_seq (w_reg ?_)))
 refine wl_callx 8 [(.const (.string ⟨#[97, 46, 98, 60, 61, 49, 46, 53, 48, 47, 47, 99]⟩))] _ [.string ⟨#[97, 46, 98, 60, 61, 49, 46, 53, 48, 47, 47, 99]⟩] rfl rfl (fun _ _ => by kernel_rfl) (scan_n sa La 0 0 _ sc_sa (by decide)) rfl ?_
 rintro _ w1 ⟨va, rfl, hoa, _, hq⟩
 refine ⟨_, rfl, ?_⟩
 replace hoa := hoa rfl
 obtain ⟨ga, ca, hva, _⟩ := hoa.form (by decide)
 subst hva
 have QA := own_at37 hoa
 replace M := M.trans hq
 clear hq
 refine wl_m (.tmp 8) (.tuple #[.slice (some ⟨ga, 0, none⟩) La.length ca, .int .i64 ((0 : Nat) : Int), .int .i64 (0)]) ?_
 refine wl_un (fun v => Instr.extract v 0) (.tmp 7) (.tuple #[.slice (some ⟨ga, 0, none⟩) La.length ca, .int .i64 ((0 : Nat) : Int), .int .i64 (0)]) (.slice (some ⟨ga, 0, none⟩) La.length ca) (fun _ => rfl) rfl (by kernel_rfl) rfl ?_
 refine wl_un (fun v => Instr.extract v 1) (.tmp 7) (.tuple #[.slice (some ⟨ga, 0, none⟩) La.length ca, .int .i64 ((0 : Nat) : Int), .int .i64 (0)]) (.int .i64 ((0 : Nat) : Int)) (fun _ => rfl) rfl (by kernel_rfl) rfl ?_
 refine wl_un (fun v => Instr.extract v 2) (.tmp 7) (.tuple #[.slice (some ⟨ga, 0, none⟩) La.length ca, .int .i64 ((0 : Nat) : Int), .int .i64 (0)]) (.int .i64 (0)) (fun _ => rfl) rfl (by kernel_rfl) rfl ?_
 refine wl_m (.tmp 9) (.slice (some ⟨ga, 0, none⟩) La.length ca) ?_
 refine wl_m (.tmp 10) (.int .i64 ((0 : Nat) : Int)) ?_
 refine wl_m (.tmp 11) (.int .i64 (0)) ?_
 refine w_nil (xn_then (w_seq (w_reg ?_)))
 refine wl_callx 8 [(.const (.string ⟨#[32, 35]⟩))] _ [.string ⟨#[32, 35]⟩] rfl rfl (fun _ _ => by kernel_rfl) (scan_n sb [] 1 70 _ sc_sb (by decide)) rfl ?_
 rintro _ w2 ⟨vb, rfl, _, hvb, hq⟩
 refine ⟨_, rfl, ?_⟩
 obtain rfl := hvb (by decide)
 replace QA := QA.mo hq
 replace M := M.trans hq
 clear hq
 refine wl_m (.tmp 13) (.tuple #[.slice none 0 0, .int .i64 ((1 : Nat) : Int), .int .i64 (70)]) ?_
 refine wl_un (fun v => Instr.extract v 0) (.tmp 12) (.tuple #[.slice none 0 0, .int .i64 ((1 : Nat) : Int), .int .i64 (70)]) (.slice none 0 0) (fun _ => rfl) rfl (by kernel_rfl) rfl ?_
 refine wl_un (fun v => Instr.extract v 1) (.tmp 12) (.tuple #[.slice none 0 0, .int .i64 ((1 : Nat) : Int), .int .i64 (70)]) (.int .i64 ((1 : Nat) : Int)) (fun _ => rfl) rfl (by kernel_rfl) rfl ?_
 refine wl_un (fun v => Instr.extract v 2) (.tmp 12) (.tuple #[.slice none 0 0, .int .i64 ((1 : Nat) : Int), .int .i64 (70)]) (.int .i64 (70)) (fun _ => rfl) rfl (by kernel_rfl) rfl ?_
 refine wl_m (.tmp 14) (.slice none 0 0) ?_
 refine wl_m (.tmp 15) (.int .i64 ((1 : Nat) : Int)) ?_
 refine wl_m (.tmp 16) (.int .i64 (70)) ?_
 refine w_nil (xn_then (w_seq (w_reg ?_)))
 refine wl_m (.tmp 3) (.int .i64 (0)) ?_
 refine wl_b .eql 23 (.tmp 17) (.const (.int .i64 (0))) (.int .i64 (0)) (.int .i64 (0)) (.bool true) (by kernel_rfl) ?_
 refine wl_m (.tmp 18) (.bool true) ?_
 refine wl_m (.tmp 2) (.int .i64 ((0 : Nat) : Int)) ?_
 refine wl_b .eql 3 (.tmp 20) (.const (.int .i64 (0))) (.int .i64 ((0 : Nat) : Int)) (.int .i64 (0)) (.bool true) (by kernel_rfl) ?_
 refine wl_pick (.tmp 19) (.tmp 21) (.const (.bool false)) true (.bool true) (fun _ => rfl) rfl rfl rfl ?_
 refine wl_m (.tmp 22) (.bool true) ?_
 refine wl_m (.tmp 1) (.slice (some ⟨ga, 0, none⟩) La.length ca) ?_
 refine wl_val (.int .i64 ((La.length : Nat) : Int)) (len22t _ _ _ _ _ (by exact rfl) _ _ _ _ _ _) rfl ?_
 refine wl_b .eql 3 (.tmp 25) (.const (.int .i64 (5))) (.int .i64 ((La.length : Nat) : Int)) (.int .i64 (5)) (.bool true) (by kernel_rfl) ?_
 refine wl_pick (.tmp 23) (.tmp 26) (.const (.bool false)) true (.bool true) (fun _ => rfl) rfl rfl rfl ?_
 refine wl_m (.tmp 27) (.bool true) ?_
 refine wl_m (.tmp 1) (.slice (some ⟨ga, 0, none⟩) La.length ca) ?_
 refine wl_bin (fun x y => Instr.indexAt 22 x y) (.tmp 29) (.const (.int .i64 (3))) (.slice (some ⟨ga, 0, none⟩) La.length ca) (.int .i64 (3)) (pt ga 39) (fun _ => rfl) rfl rfl (ix22t ga 3 La.length ca (by decide) _) rfl ?_
 refine wl_f 37 1 (.tmp 30) (pt ga 39) (pt ga 40) ?_
 refine wl_l 9 (.tmp 31) (pt ga 40) (.string (sa.extract 3 5)) (run_one QA 9 40 rfl Tryd.underlying9 rfl) ?_
 refine wl_b .eql 9 (.tmp 32) (.const (.string ⟨#[60, 61]⟩)) (.string (sa.extract 3 5)) (.string ⟨#[60, 61]⟩) (.bool true) (eq9 (by rw [ext_3]; exact beq_self_eq_true _) _ _ _) ?_
 refine wl_pick (.tmp 28) (.tmp 33) (.const (.bool false)) true (.bool true) (fun _ => rfl) rfl rfl rfl ?_
 refine wl_m (.tmp 34) (.bool true) ?_
 refine wl_m (.tmp 1) (.slice (some ⟨ga, 0, none⟩) La.length ca) ?_
 refine wl_bin (fun x y => Instr.indexAt 22 x y) (.tmp 36) (.const (.int .i64 (4))) (.slice (some ⟨ga, 0, none⟩) La.length ca) (.int .i64 (4)) (pt ga 52) (fun _ => rfl) rfl rfl (ix22t ga 4 La.length ca (by decide) _) rfl ?_
 refine wl_f 37 2 (.tmp 37) (pt ga 52) (pt ga 54) ?_
 refine wl_f 35 1 (.tmp 38) (pt ga 54) (pt ga 55) ?_
 refine wl_l 33 (.tmp 39) (pt ga 55) (.agg #[.bool false, .int .u64 (l0 (150)), .int .u64 (l1 (150)), .int .u64 (l2 (150)), .int .u64 (l3 (150)), .int .i64 (((2 : Nat) : Int))]) (run_row QA 33 55 6 _ rfl Tryd.underlying33 rfl sz33) ?_
 refine wl_build 31 [(0, (.const (.int .u64 (150))))] [(0, .int .u64 (150))] (.agg #[.int .u64 (150), .int .u64 0, .int .u64 0, .int .u64 0]) rfl rfl (by kernel_rfl) rfl ?_
 refine wl_build 33 [(1, (.tmp 41)), (2, (.const (.int .i64 (2))))] [(1, .agg #[.int .u64 (150), .int .u64 0, .int .u64 0, .int .u64 0]), (2, .int .i64 (2))] (.agg #[.bool false, .int .u64 (150), .int .u64 0, .int .u64 0, .int .u64 0, .int .i64 (2)]) rfl rfl (by kernel_rfl) rfl ?_
 refine wl_b .eql 33 (.tmp 40) (.tmp 42) (.agg #[.bool false, .int .u64 (l0 (150)), .int .u64 (l1 (150)), .int .u64 (l2 (150)), .int .u64 (l3 (150)), .int .i64 (((2 : Nat) : Int))]) (.agg #[.bool false, .int .u64 (150), .int .u64 0, .int .u64 0, .int .u64 0, .int .i64 (2)]) (.bool true) (by kernel_rfl) ?_
 refine wl_pick (.tmp 35) (.tmp 43) (.const (.bool false)) true (.bool true) (fun _ => rfl) rfl rfl rfl ?_
 refine wl_m (.tmp 44) (.bool true) ?_
 refine wl_m (.tmp 6) (.int .i64 (70)) ?_
 refine wl_b .eql 23 (.tmp 46) (.const (.int .i64 (70))) (.int .i64 (70)) (.int .i64 (70)) (.bool true) (by kernel_rfl) ?_
 refine wl_pick (.tmp 45) (.tmp 47) (.const (.bool false)) true (.bool true) (fun _ => rfl) rfl rfl rfl ?_
 refine wl_m (.tmp 48) (.bool true) ?_
 refine wl_m (.tmp 5) (.int .i64 ((1 : Nat) : Int)) ?_
 refine wl_b .eql 3 (.tmp 50) (.const (.int .i64 (1))) (.int .i64 ((1 : Nat) : Int)) (.int .i64 (1)) (.bool true) (by kernel_rfl) ?_
 refine wl_pick (.tmp 49) (.tmp 51) (.const (.bool false)) true (.bool true) (fun _ => rfl) rfl rfl rfl ?_
 refine wl_m (.tmp 52) (.bool true) ?_
 refine w_nil (xn_then (w_ret ?_))
 exact w_ret1 _ _ rfl rfl ⟨rfl, M⟩
end Go.Proofs.YthgknegocfhdbaaDoor.V
/-
 The document's Scan and Same; exciselaw07.LexScans and LexNext.
-/
namespace Go.Proofs.YthgknegocfhdbaaDoor.V
open Go.RowKit
theorem eq3z {a : Int} (x y : Operand) (w : World) : (do eqGuard .eql 3 x y (.int .i64 a) (.int .i64 a); binOp .eql 3 (.int .i64 a) (.int .i64 a)).run Tryd.prog w = .ok (.bool true) w := by
 have e : (do eqGuard .eql 3 x y (.int .i64 a) (.int .i64 a); binOp .eql 3 (.int .i64 a) (.int .i64 a)).run Tryd.prog w = .ok (.bool (a == a)) w := by kernel_rfl
 rw [e, beq_self_eq_true]
theorem eq23z {a : Int} (x y : Operand) (w : World) : (do eqGuard .eql 23 x y (.int .i64 a) (.int .i64 a); binOp .eql 23 (.int .i64 a) (.int .i64 a)).run Tryd.prog w = .ok (.bool true) w := eq23 (beq_self_eq_true a) _ _ _
theorem eq4z {a : Bool} (x y : Operand) (w : World) : (do eqGuard .eql 4 x y (.bool a) (.bool a); binOp .eql 4 (.bool a) (.bool a)).run Tryd.prog w = .ok (.bool true) w := by
 have e : (do eqGuard .eql 4 x y (.bool a) (.bool a); binOp .eql 4 (.bool a) (.bool a)).run Tryd.prog w = .ok (.bool (a == a)) w := by kernel_rfl
 rw [e, beq_self_eq_true]
end Go.Proofs.YthgknegocfhdbaaDoor.V
/-
 exciselaw07.LexNext.
-/
namespace Go.Proofs.YthgknegocfhdbaaDoor.V
open Go.RowKit
theorem ge3i {a b : Int} {r : Bool} (h : decide (b ≤ a) = r) (x y : Operand) (w : World) : (do eqGuard .geq 3 x y (.int .i64 a) (.int .i64 b); binOp .geq 3 (.int .i64 a) (.int .i64 b)).run Tryd.prog w = .ok (.bool r) w := by
 subst h; simp [go_sem]
theorem lt3i {a b : Int} {r : Bool} (h : decide (a < b) = r) (x y : Operand) (w : World) : (do eqGuard .lss 3 x y (.int .i64 a) (.int .i64 b); binOp .lss 3 (.int .i64 a) (.int .i64 b)).run Tryd.prog w = .ok (.bool r) w := by
 subst h; simp [go_sem]
theorem next_lo (s : ByteArray) (a : Int) (w : World) (h1 : decide (a < 0) = true) : Calls Tryd.prog 12 #[.string s, .int .i64 a] w fun e w' => e = .returned (.tuple #[.agg #[.int .i64 0, .string ⟨#[]⟩, .int .i64 0, .bool false, .int .u64 0, .int .u64 0, .int .u64 0, .int .u64 0, .int .i64 0, .bool false, .string ⟨#[]⟩, .int .i64 0, .int .i64 0], .int .i64 4]) ∧ Mw w w' := by
 refine w_enter 45 Tryd.func12 Tryd.ntmps12 rfl rfl ?_
 have M : Mw w w := Mw.refl _
 refine w_seq (w_reg ?_)
 refine wl_alloc 37 #[.int .i64 0, .string ⟨#[]⟩, .int .i64 0, .bool false, .int .u64 0, .int .u64 0, .int .u64 0, .int .u64 0, .int .i64 0, .bool false, .string ⟨#[]⟩, .int .i64 0, .int .i64 0] rfl (fun _ => by kernel_rfl) rfl ?_
 intro k1 w1 hk hz hq Q1
 have N_k1 : w.heap.size ≤ k1 := by have := M.size; omega
 replace M := M.trans hq
 clear hk hz hq
 refine wl_m (.const (.int .i64 (0))) (.int .i64 (0)) ?_
 refine w_nil (xn_then (w_seq (w_seq (w_reg ?_))))
 refine wl_m (.tmp 1) (.int .i64 (a)) ?_
 refine wl_b .lss 3 (.tmp 10) (.const (.int .i64 (0))) (.int .i64 (a)) (.int .i64 (0)) (.bool true) (lt3i h1 _ _ _) ?_
 refine wl_m (.tmp 11) (.bool true) ?_
 refine wl_skip rfl (wl_skip rfl (wl_skip rfl (wl_skip rfl ?_)))
 refine wl_pick (.tmp 12) (.const (.bool true)) (.tmp 16) true (.bool true) (fun _ => rfl) rfl rfl rfl ?_
 refine w_nil (xn_then (w_condT rfl (w_seq (w_reg ?_))))
 refine wl_build 37 [] [] (.agg #[.int .i64 0, .string ⟨#[]⟩, .int .i64 0, .bool false, .int .u64 0, .int .u64 0, .int .u64 0, .int .u64 0, .int .i64 0, .bool false, .string ⟨#[]⟩, .int .i64 0, .int .i64 0]) rfl rfl (by kernel_rfl) rfl ?_
 refine wl_st 37 (.tmp 4) (.tmp 18) k1 0 #[.int .i64 0, .string ⟨#[]⟩, .int .i64 0, .bool false, .int .u64 0, .int .u64 0, .int .u64 0, .int .u64 0, .int .i64 0, .bool false, .string ⟨#[]⟩, .int .i64 0, .int .i64 0] _ [.int .i64 0, .string ⟨#[]⟩, .int .i64 0, .bool false, .int .u64 0, .int .u64 0, .int .u64 0, .int .u64 0, .int .i64 0, .bool false, .string ⟨#[]⟩, .int .i64 0, .int .i64 0] Q1 rfl rfl rfl rfl rfl sz37 rfl rfl rfl ?_
 intro w2 hS Qn
 replace Q1 := Qn
 clear Qn
 replace M := hS.mo _ N_k1 M
 clear hS
 refine wl_m (.const (.int .i64 (4))) (.int .i64 (4)) ?_
 refine w_nil (xn_then (w_ret (xr_then ?_)))
 exact w_ret2 _ _ (.agg #[.int .i64 0, .string ⟨#[]⟩, .int .i64 0, .bool false, .int .u64 0, .int .u64 0, .int .u64 0, .int .u64 0, .int .i64 0, .bool false, .string ⟨#[]⟩, .int .i64 0, .int .i64 0]) (.int .i64 (4)) rfl ⟨k1, rfl, (run_row Q1 37 0 13 _ rfl Tryd.underlying37 rfl sz37)⟩ rfl ⟨rfl, M⟩
theorem next_hi (s : ByteArray) (a : Int) (w : World) (h1 : decide (a < 0) = false) (h2 : decide (((s.size : Nat) : Int) ≤ a) = true) : Calls Tryd.prog 12 #[.string s, .int .i64 a] w fun e w' => e = .returned (.tuple #[.agg #[.int .i64 0, .string ⟨#[]⟩, .int .i64 0, .bool false, .int .u64 0, .int .u64 0, .int .u64 0, .int .u64 0, .int .i64 0, .bool false, .string ⟨#[]⟩, .int .i64 0, .int .i64 0], .int .i64 4]) ∧ Mw w w' := by
 refine w_enter 45 Tryd.func12 Tryd.ntmps12 rfl rfl ?_
 have M : Mw w w := Mw.refl _
 refine w_seq (w_reg ?_)
 refine wl_alloc 37 #[.int .i64 0, .string ⟨#[]⟩, .int .i64 0, .bool false, .int .u64 0, .int .u64 0, .int .u64 0, .int .u64 0, .int .i64 0, .bool false, .string ⟨#[]⟩, .int .i64 0, .int .i64 0] rfl (fun _ => by kernel_rfl) rfl ?_
 intro k1 w1 hk hz hq Q1
 have N_k1 : w.heap.size ≤ k1 := by have := M.size; omega
 replace M := M.trans hq
 clear hk hz hq
 refine wl_m (.const (.int .i64 (0))) (.int .i64 (0)) ?_
 refine w_nil (xn_then (w_seq (w_seq (w_reg ?_))))
 refine wl_m (.tmp 1) (.int .i64 (a)) ?_
 refine wl_b .lss 3 (.tmp 10) (.const (.int .i64 (0))) (.int .i64 (a)) (.int .i64 (0)) (.bool false) (lt3i h1 _ _ _) ?_
 refine wl_m (.tmp 11) (.bool false) ?_
 refine wl_m (.tmp 1) (.int .i64 (a)) ?_
 refine wl_m (.tmp 0) (.string s) ?_
 refine wl_val (.int .i64 ((s.size : Nat) : Int)) (len_s _ _ s (by exact rfl) _ _ _ _ _ _) rfl ?_
 refine wl_b .geq 3 (.tmp 13) (.tmp 15) (.int .i64 (a)) (.int .i64 ((s.size : Nat) : Int)) (.bool true) (ge3i h2 _ _ _) ?_
 refine wl_pick (.tmp 12) (.const (.bool true)) (.tmp 16) false (.bool true) (fun _ => rfl) rfl rfl rfl ?_
 refine w_nil (xn_then (w_condT rfl (w_seq (w_reg ?_))))
 refine wl_build 37 [] [] (.agg #[.int .i64 0, .string ⟨#[]⟩, .int .i64 0, .bool false, .int .u64 0, .int .u64 0, .int .u64 0, .int .u64 0, .int .i64 0, .bool false, .string ⟨#[]⟩, .int .i64 0, .int .i64 0]) rfl rfl (by kernel_rfl) rfl ?_
 refine wl_st 37 (.tmp 4) (.tmp 18) k1 0 #[.int .i64 0, .string ⟨#[]⟩, .int .i64 0, .bool false, .int .u64 0, .int .u64 0, .int .u64 0, .int .u64 0, .int .i64 0, .bool false, .string ⟨#[]⟩, .int .i64 0, .int .i64 0] _ [.int .i64 0, .string ⟨#[]⟩, .int .i64 0, .bool false, .int .u64 0, .int .u64 0, .int .u64 0, .int .u64 0, .int .i64 0, .bool false, .string ⟨#[]⟩, .int .i64 0, .int .i64 0] Q1 rfl rfl rfl rfl rfl sz37 rfl rfl rfl ?_
 intro w2 hS Qn
 replace Q1 := Qn
 clear Qn
 replace M := hS.mo _ N_k1 M
 clear hS
 refine wl_m (.const (.int .i64 (4))) (.int .i64 (4)) ?_
 refine w_nil (xn_then (w_ret (xr_then ?_)))
 exact w_ret2 _ _ (.agg #[.int .i64 0, .string ⟨#[]⟩, .int .i64 0, .bool false, .int .u64 0, .int .u64 0, .int .u64 0, .int .u64 0, .int .i64 0, .bool false, .string ⟨#[]⟩, .int .i64 0, .int .i64 0]) (.int .i64 (4)) rfl ⟨k1, rfl, (run_row Q1 37 0 13 _ rfl Tryd.underlying37 rfl sz37)⟩ rfl ⟨rfl, M⟩
theorem rnext_lo (s : ByteArray) (a : Int) (w : World) (h1 : decide (a < 0) = true) : Calls Tryd.prog 13 #[.string s, .int .i64 a] w fun e w' => e = .returned (.tuple #[.agg #[.int .i64 0, .string ⟨#[]⟩, .int .i64 0, .bool false, .int .u64 0, .int .u64 0, .int .u64 0, .int .u64 0, .int .i64 0, .bool false, .string ⟨#[]⟩, .int .i64 0, .int .i64 0], .int .i64 4]) ∧ Mw w w' := by
 refine w_enter 134 Tryd.func13 Tryd.ntmps13 rfl rfl ?_
 have M : Mw w w := Mw.refl _
 refine w_seq (w_reg ?_)
 refine wl_alloc 37 #[.int .i64 0, .string ⟨#[]⟩, .int .i64 0, .bool false, .int .u64 0, .int .u64 0, .int .u64 0, .int .u64 0, .int .i64 0, .bool false, .string ⟨#[]⟩, .int .i64 0, .int .i64 0] rfl (fun _ => by kernel_rfl) rfl ?_
 intro k1 w1 hk hz hq Q1
 have N_k1 : w.heap.size ≤ k1 := by have := M.size; omega
 replace M := M.trans hq
 clear hk hz hq
 refine wl_m (.const (.int .i64 (0))) (.int .i64 (0)) ?_
 refine w_nil (xn_then (w_seq (w_seq (w_reg ?_))))
 refine wl_m (.tmp 1) (.int .i64 (a)) ?_
 refine wl_b .lss 3 (.tmp 15) (.const (.int .i64 (0))) (.int .i64 (a)) (.int .i64 (0)) (.bool true) (lt3i h1 _ _ _) ?_
 refine wl_m (.tmp 16) (.bool true) ?_
 refine wl_skip rfl (wl_skip rfl (wl_skip rfl (wl_skip rfl ?_)))
 refine wl_pick (.tmp 17) (.const (.bool true)) (.tmp 21) true (.bool true) (fun _ => rfl) rfl rfl rfl ?_
 refine w_nil (xn_then (w_condT rfl (w_seq (w_reg ?_))))
 refine wl_build 37 [] [] (.agg #[.int .i64 0, .string ⟨#[]⟩, .int .i64 0, .bool false, .int .u64 0, .int .u64 0, .int .u64 0, .int .u64 0, .int .i64 0, .bool false, .string ⟨#[]⟩, .int .i64 0, .int .i64 0]) rfl rfl (by kernel_rfl) rfl ?_
 refine wl_st 37 (.tmp 4) (.tmp 23) k1 0 #[.int .i64 0, .string ⟨#[]⟩, .int .i64 0, .bool false, .int .u64 0, .int .u64 0, .int .u64 0, .int .u64 0, .int .i64 0, .bool false, .string ⟨#[]⟩, .int .i64 0, .int .i64 0] _ [.int .i64 0, .string ⟨#[]⟩, .int .i64 0, .bool false, .int .u64 0, .int .u64 0, .int .u64 0, .int .u64 0, .int .i64 0, .bool false, .string ⟨#[]⟩, .int .i64 0, .int .i64 0] Q1 rfl rfl rfl rfl rfl sz37 rfl rfl rfl ?_
 intro w2 hS Qn
 replace Q1 := Qn
 clear Qn
 replace M := hS.mo _ N_k1 M
 clear hS
 refine wl_m (.const (.int .i64 (4))) (.int .i64 (4)) ?_
 refine w_nil (xn_then (w_ret (xr_then ?_)))
 exact w_ret2 _ _ (.agg #[.int .i64 0, .string ⟨#[]⟩, .int .i64 0, .bool false, .int .u64 0, .int .u64 0, .int .u64 0, .int .u64 0, .int .i64 0, .bool false, .string ⟨#[]⟩, .int .i64 0, .int .i64 0]) (.int .i64 (4)) rfl ⟨k1, rfl, (run_row Q1 37 0 13 _ rfl Tryd.underlying37 rfl sz37)⟩ rfl ⟨rfl, M⟩
theorem rnext_hi (s : ByteArray) (a : Int) (w : World) (h1 : decide (a < 0) = false) (h2 : decide (((s.size : Nat) : Int) ≤ a) = true) : Calls Tryd.prog 13 #[.string s, .int .i64 a] w fun e w' => e = .returned (.tuple #[.agg #[.int .i64 0, .string ⟨#[]⟩, .int .i64 0, .bool false, .int .u64 0, .int .u64 0, .int .u64 0, .int .u64 0, .int .i64 0, .bool false, .string ⟨#[]⟩, .int .i64 0, .int .i64 0], .int .i64 4]) ∧ Mw w w' := by
 refine w_enter 134 Tryd.func13 Tryd.ntmps13 rfl rfl ?_
 have M : Mw w w := Mw.refl _
 refine w_seq (w_reg ?_)
 refine wl_alloc 37 #[.int .i64 0, .string ⟨#[]⟩, .int .i64 0, .bool false, .int .u64 0, .int .u64 0, .int .u64 0, .int .u64 0, .int .i64 0, .bool false, .string ⟨#[]⟩, .int .i64 0, .int .i64 0] rfl (fun _ => by kernel_rfl) rfl ?_
 intro k1 w1 hk hz hq Q1
 have N_k1 : w.heap.size ≤ k1 := by have := M.size; omega
 replace M := M.trans hq
 clear hk hz hq
 refine wl_m (.const (.int .i64 (0))) (.int .i64 (0)) ?_
 refine w_nil (xn_then (w_seq (w_seq (w_reg ?_))))
 refine wl_m (.tmp 1) (.int .i64 (a)) ?_
 refine wl_b .lss 3 (.tmp 15) (.const (.int .i64 (0))) (.int .i64 (a)) (.int .i64 (0)) (.bool false) (lt3i h1 _ _ _) ?_
 refine wl_m (.tmp 16) (.bool false) ?_
 refine wl_m (.tmp 1) (.int .i64 (a)) ?_
 refine wl_m (.tmp 0) (.string s) ?_
 refine wl_val (.int .i64 ((s.size : Nat) : Int)) (len_s _ _ s (by exact rfl) _ _ _ _ _ _) rfl ?_
 refine wl_b .geq 3 (.tmp 18) (.tmp 20) (.int .i64 (a)) (.int .i64 ((s.size : Nat) : Int)) (.bool true) (ge3i h2 _ _ _) ?_
 refine wl_pick (.tmp 17) (.const (.bool true)) (.tmp 21) false (.bool true) (fun _ => rfl) rfl rfl rfl ?_
 refine w_nil (xn_then (w_condT rfl (w_seq (w_reg ?_))))
 refine wl_build 37 [] [] (.agg #[.int .i64 0, .string ⟨#[]⟩, .int .i64 0, .bool false, .int .u64 0, .int .u64 0, .int .u64 0, .int .u64 0, .int .i64 0, .bool false, .string ⟨#[]⟩, .int .i64 0, .int .i64 0]) rfl rfl (by kernel_rfl) rfl ?_
 refine wl_st 37 (.tmp 4) (.tmp 23) k1 0 #[.int .i64 0, .string ⟨#[]⟩, .int .i64 0, .bool false, .int .u64 0, .int .u64 0, .int .u64 0, .int .u64 0, .int .i64 0, .bool false, .string ⟨#[]⟩, .int .i64 0, .int .i64 0] _ [.int .i64 0, .string ⟨#[]⟩, .int .i64 0, .bool false, .int .u64 0, .int .u64 0, .int .u64 0, .int .u64 0, .int .i64 0, .bool false, .string ⟨#[]⟩, .int .i64 0, .int .i64 0] Q1 rfl rfl rfl rfl rfl sz37 rfl rfl rfl ?_
 intro w2 hS Qn
 replace Q1 := Qn
 clear Qn
 replace M := hS.mo _ N_k1 M
 clear hS
 refine wl_m (.const (.int .i64 (4))) (.int .i64 (4)) ?_
 refine w_nil (xn_then (w_ret (xr_then ?_)))
 exact w_ret2 _ _ (.agg #[.int .i64 0, .string ⟨#[]⟩, .int .i64 0, .bool false, .int .u64 0, .int .u64 0, .int .u64 0, .int .u64 0, .int .i64 0, .bool false, .string ⟨#[]⟩, .int .i64 0, .int .i64 0]) (.int .i64 (4)) rfl ⟨k1, rfl, (run_row Q1 37 0 13 _ rfl Tryd.underlying37 rfl sz37)⟩ rfl ⟨rfl, M⟩
theorem lnext_g (s : ByteArray) (a E B : Int) (c0 c1 c2 c3 c4 c5 c6 c7 c8 c9 c10 c11 c12 : Value) (w : World) (hs : s.size ≤ maxLen) (hoc : ([c0, c1, c2, c3, c4, c5, c6, c7, c8, c9, c10, c11, c12] : List Value).all (·.oneCell') = true) (hse : SelfE #[c0, c1, c2, c3, c4, c5, c6, c7, c8, c9, c10, c11, c12]) (h12 : ∀ w, Calls Tryd.prog 12 #[.string s, .int .i64 a] w fun e w' => e = .returned (.tuple #[.agg #[c0, c1, c2, c3, c4, c5, c6, c7, c8, c9, c10, c11, c12], .int .i64 E]) ∧ Mw w w') (h13 : ∀ w, Calls Tryd.prog 13 #[.string s, .int .i64 a] w fun e w' => e = .returned (.tuple #[.agg #[c0, c1, c2, c3, c4, c5, c6, c7, c8, c9, c10, c11, c12], .int .i64 E]) ∧ Mw w w') (h14 : ∀ w, Calls Tryd.prog 14 #[.string s, .int .i64 a] w fun e w' => e = .returned (.int .i64 B) ∧ Mw w w') (h15 : ∀ w, Calls Tryd.prog 15 #[.string s, .int .i64 a] w fun e w' => e = .returned (.int .i64 B) ∧ Mw w w') : Calls Tryd.prog 4 #[.string s, .int .i64 a] w fun e w' => e = .returned (.bool true) ∧ Mw w w' := by
 refine w_enter 55 Tryd.func4 Tryd.ntmps4 rfl rfl ?_
 have M : Mw w w := Mw.refl _
 refine w_seq (w_reg ?_)
 refine wl_m (.const (.bool false)) (.bool false) ?_
 refine w_nil (xn_then (w_seq (w_reg ?_)))
 refine wl_m (.tmp 0) (.string s) ?_
 refine wl_m (.tmp 1) (.int .i64 (a)) ?_
 refine wl_call 12 [(.tmp 10), (.tmp 11)] _ [.string s, .int .i64 (a)] (.tuple #[.agg #[c0, c1, c2, c3, c4, c5, c6, c7, c8, c9, c10, c11, c12], .int .i64 (E)]) rfl rfl (fun _ _ => by kernel_rfl) (h12 _) rfl ?_
 intro w1 hq
 replace M := M.trans hq
 clear hq
 refine wl_m (.tmp 12) (.tuple #[.agg #[c0, c1, c2, c3, c4, c5, c6, c7, c8, c9, c10, c11, c12], .int .i64 (E)]) ?_
 refine wl_un (fun v => Instr.extract v 0) (.tmp 9) (.tuple #[.agg #[c0, c1, c2, c3, c4, c5, c6, c7, c8, c9, c10, c11, c12], .int .i64 (E)]) (.agg #[c0, c1, c2, c3, c4, c5, c6, c7, c8, c9, c10, c11, c12]) (fun _ => rfl) rfl (by kernel_rfl) rfl ?_
 refine wl_un (fun v => Instr.extract v 1) (.tmp 9) (.tuple #[.agg #[c0, c1, c2, c3, c4, c5, c6, c7, c8, c9, c10, c11, c12], .int .i64 (E)]) (.int .i64 (E)) (fun _ => rfl) rfl (by kernel_rfl) rfl ?_
 refine wl_alloc 37 #[.int .i64 0, .string ⟨#[]⟩, .int .i64 0, .bool false, .int .u64 0, .int .u64 0, .int .u64 0, .int .u64 0, .int .i64 0, .bool false, .string ⟨#[]⟩, .int .i64 0, .int .i64 0] rfl (fun _ => by kernel_rfl) rfl ?_
 intro k1 w2 hk hz hq Q1
 have N_k1 : w.heap.size ≤ k1 := by have := M.size; omega
 replace M := M.trans hq
 clear hk hz hq
 refine wl_st 37 (.tmp 5) (.tmp 13) k1 0 #[c0, c1, c2, c3, c4, c5, c6, c7, c8, c9, c10, c11, c12] _ [c0, c1, c2, c3, c4, c5, c6, c7, c8, c9, c10, c11, c12] Q1 rfl rfl rfl rfl rfl sz37 hoc rfl rfl ?_
 intro w3 hS Qn
 replace Q1 := Qn
 clear Qn
 replace M := hS.mo _ N_k1 M
 clear hS
 refine wl_m (.tmp 14) (.int .i64 (E)) ?_
 refine w_nil (xn_then (w_seq (w_reg ?_)))
 refine wl_m (.tmp 0) (.string s) ?_
 refine wl_m (.tmp 1) (.int .i64 (a)) ?_
 refine wl_call 13 [(.tmp 16), (.tmp 17)] _ [.string s, .int .i64 (a)] (.tuple #[.agg #[c0, c1, c2, c3, c4, c5, c6, c7, c8, c9, c10, c11, c12], .int .i64 (E)]) rfl rfl (fun _ _ => by kernel_rfl) (h13 _) rfl ?_
 intro w4 hq
 replace Q1 := Q1.mo hq
 replace M := M.trans hq
 clear hq
 refine wl_m (.tmp 18) (.tuple #[.agg #[c0, c1, c2, c3, c4, c5, c6, c7, c8, c9, c10, c11, c12], .int .i64 (E)]) ?_
 refine wl_un (fun v => Instr.extract v 0) (.tmp 15) (.tuple #[.agg #[c0, c1, c2, c3, c4, c5, c6, c7, c8, c9, c10, c11, c12], .int .i64 (E)]) (.agg #[c0, c1, c2, c3, c4, c5, c6, c7, c8, c9, c10, c11, c12]) (fun _ => rfl) rfl (by kernel_rfl) rfl ?_
 refine wl_un (fun v => Instr.extract v 1) (.tmp 15) (.tuple #[.agg #[c0, c1, c2, c3, c4, c5, c6, c7, c8, c9, c10, c11, c12], .int .i64 (E)]) (.int .i64 (E)) (fun _ => rfl) rfl (by kernel_rfl) rfl ?_
 refine wl_alloc 37 #[.int .i64 0, .string ⟨#[]⟩, .int .i64 0, .bool false, .int .u64 0, .int .u64 0, .int .u64 0, .int .u64 0, .int .i64 0, .bool false, .string ⟨#[]⟩, .int .i64 0, .int .i64 0] rfl (fun _ => by kernel_rfl) rfl ?_
 intro k2 w5 hk hz hq Q2
 have ne_k1_k2 : k1 ≠ k2 := by have := Q1.lt; omega
 have N_k2 : w.heap.size ≤ k2 := by have := M.size; omega
 replace Q1 := Q1.mo hq
 replace M := M.trans hq
 clear hk hz hq
 refine wl_st 37 (.tmp 7) (.tmp 19) k2 0 #[c0, c1, c2, c3, c4, c5, c6, c7, c8, c9, c10, c11, c12] _ [c0, c1, c2, c3, c4, c5, c6, c7, c8, c9, c10, c11, c12] Q2 rfl rfl rfl rfl rfl sz37 hoc rfl rfl ?_
 intro w6 hS Qn
 replace Q2 := Qn
 clear Qn
 replace Q1 := hS.other _ _ ne_k1_k2 Q1
 replace M := hS.mo _ N_k2 M
 clear hS
 refine wl_m (.tmp 20) (.int .i64 (E)) ?_
 refine w_nil (xn_then (w_seq (w_reg ?_)))
 refine wl_call 10 [] _ [] (.bool true) rfl rfl (fun _ _ => by kernel_rfl) (live_n _) rfl ?_
 intro w7 hq
 replace Q1 := Q1.mo hq
 replace Q2 := Q2.mo hq
 replace M := M.trans hq
 clear hq
 refine wl_m (.tmp 21) (.bool true) ?_
 refine wl_l 37 (.tmp 5) (pt k1 0) (.agg #[c0, c1, c2, c3, c4, c5, c6, c7, c8, c9, c10, c11, c12]) (run_row Q1 37 0 13 _ rfl Tryd.underlying37 rfl sz37) ?_
 refine wl_l 37 (.tmp 7) (pt k2 0) (.agg #[c0, c1, c2, c3, c4, c5, c6, c7, c8, c9, c10, c11, c12]) (run_row Q2 37 0 13 _ rfl Tryd.underlying37 rfl sz37) ?_
 refine wl_b .eql 37 (.tmp 23) (.tmp 24) (.agg #[c0, c1, c2, c3, c4, c5, c6, c7, c8, c9, c10, c11, c12]) (.agg #[c0, c1, c2, c3, c4, c5, c6, c7, c8, c9, c10, c11, c12]) (.bool true) (SelfE.eq hse _ _ _) ?_
 refine wl_pick (.tmp 22) (.tmp 25) (.const (.bool false)) true (.bool true) (fun _ => rfl) rfl rfl rfl ?_
 refine wl_m (.tmp 26) (.bool true) ?_
 refine wl_m (.tmp 6) (.int .i64 (E)) ?_
 refine wl_m (.tmp 8) (.int .i64 (E)) ?_
 refine wl_b .eql 23 (.tmp 28) (.tmp 29) (.int .i64 (E)) (.int .i64 (E)) (.bool true) (eq23z _ _ _) ?_
 refine wl_pick (.tmp 27) (.tmp 30) (.const (.bool false)) true (.bool true) (fun _ => rfl) rfl rfl rfl ?_
 refine wl_m (.tmp 31) (.bool true) ?_
 refine wl_m (.tmp 0) (.string s) ?_
 refine wl_m (.tmp 1) (.int .i64 (a)) ?_
 refine wl_call 14 [(.tmp 33), (.tmp 34)] _ [.string s, .int .i64 (a)] (.int .i64 (B)) rfl rfl (fun _ _ => by kernel_rfl) (h14 _) rfl ?_
 intro w8 hq
 replace Q1 := Q1.mo hq
 replace Q2 := Q2.mo hq
 replace M := M.trans hq
 clear hq
 refine wl_m (.tmp 0) (.string s) ?_
 refine wl_m (.tmp 1) (.int .i64 (a)) ?_
 refine wl_call 15 [(.tmp 36), (.tmp 37)] _ [.string s, .int .i64 (a)] (.int .i64 (B)) rfl rfl (fun _ _ => by kernel_rfl) (h15 _) rfl ?_
 intro w9 hq
 replace Q1 := Q1.mo hq
 replace Q2 := Q2.mo hq
 replace M := M.trans hq
 clear hq
 refine wl_b .eql 3 (.tmp 35) (.tmp 38) (.int .i64 (B)) (.int .i64 (B)) (.bool true) (eq3z _ _ _) ?_
 refine wl_pick (.tmp 32) (.tmp 39) (.const (.bool false)) true (.bool true) (fun _ => rfl) rfl rfl rfl ?_
 refine wl_m (.tmp 40) (.bool true) ?_
 refine wl_m (.tmp 0) (.string s) ?_
 refine wl_call 16 [(.tmp 42)] _ [.string s] (.bool (nam s)) rfl rfl (fun _ _ => by kernel_rfl) (wk (name_n s _ hs)) rfl ?_
 intro w10 hq
 replace Q1 := Q1.mo hq
 replace Q2 := Q2.mo hq
 replace M := M.trans hq
 clear hq
 refine wl_m (.tmp 0) (.string s) ?_
 refine wl_call 17 [(.tmp 44)] _ [.string s] (.bool (nam s)) rfl rfl (fun _ _ => by kernel_rfl) (wk (rname_n s _ hs)) rfl ?_
 intro w11 hq
 replace Q1 := Q1.mo hq
 replace Q2 := Q2.mo hq
 replace M := M.trans hq
 clear hq
 refine wl_b .eql 4 (.tmp 43) (.tmp 45) (.bool (nam s)) (.bool (nam s)) (.bool true) (eq4z _ _ _) ?_
 refine wl_pick (.tmp 41) (.tmp 46) (.const (.bool false)) true (.bool true) (fun _ => rfl) rfl rfl rfl ?_
 refine wl_m (.tmp 47) (.bool true) ?_
 refine wl_m (.tmp 0) (.string s) ?_
 refine wl_call 18 [(.tmp 49)] _ [.string s] (.bool (symb s)) rfl rfl (fun _ _ => by kernel_rfl) (wk (sym_n s _)) rfl ?_
 intro w12 hq
 replace Q1 := Q1.mo hq
 replace Q2 := Q2.mo hq
 replace M := M.trans hq
 clear hq
 refine wl_m (.tmp 0) (.string s) ?_
 refine wl_call 19 [(.tmp 51)] _ [.string s] (.bool (symb s)) rfl rfl (fun _ _ => by kernel_rfl) (wk (rsym_n s _)) rfl ?_
 intro w13 hq
 replace Q1 := Q1.mo hq
 replace Q2 := Q2.mo hq
 replace M := M.trans hq
 clear hq
 refine wl_b .eql 4 (.tmp 50) (.tmp 52) (.bool (symb s)) (.bool (symb s)) (.bool true) (eq4z _ _ _) ?_
 refine wl_pick (.tmp 48) (.tmp 53) (.const (.bool false)) true (.bool true) (fun _ => rfl) rfl rfl rfl ?_
 refine wl_m (.tmp 54) (.bool true) ?_
 refine w_nil (xn_then (w_ret ?_))
 exact w_ret1 _ _ rfl rfl ⟨rfl, M⟩
theorem lnext_n (s : ByteArray) (a : Int) (w : World) (hs : s.size ≤ 1000000000000) : Calls Tryd.prog 4 #[.string s, .int .i64 a] w fun e w' => e = .returned (.bool true) ∧ Mw w w' := by
 have hs2 : s.size ≤ maxLen := by unfold maxLen; omega
 cases h1 : decide (a < 0) with
 | true =>
  exact lnext_g s a 4 a _ _ _ _ _ _ _ _ _ _ _ _ _ w hs2 rfl (fun w => q37s _ _ _ _ _ _ _ _ _ _ _ _ _ w) (fun w => next_lo s a w h1) (fun w => rnext_lo s a w h1) (fun w => wk (blank_lo s a w h1)) (fun w => wk (rblank_lo s a w h1))
 | false =>
  have ha := of_decide_eq_false h1
  cases h2 : decide (((s.size : Nat) : Int) ≤ a) with
  | true =>
   have hB : ∃ B : Int, (∀ w, Calls Tryd.prog 14 #[.string s, .int .i64 a] w fun e w' => e = .returned (.int .i64 B) ∧ Mw w w') ∧ (∀ w, Calls Tryd.prog 15 #[.string s, .int .i64 a] w fun e w' => e = .returned (.int .i64 B) ∧ Mw w w') := by
    cases h3 : decide (a > ((s.size : Nat) : Int)) with
    | true => exact ⟨a, fun w => wk (blank_hi s a w h1 h3), fun w => wk (rblank_hi s a w h1 h3)⟩
    | false =>
     have h4 := of_decide_eq_true h2
     have h5 := of_decide_eq_false h3
     have e : a = ((s.size : Nat) : Int) := by omega
     subst e
     exact ⟨_, fun w => wk (blank_n s s.size w hs2 (Nat.le_refl _)), fun w => wk (rblank_n s s.size w hs2 (Nat.le_refl _))⟩
   obtain ⟨B, hb1, hb2⟩ := hB
   exact lnext_g s a 4 B _ _ _ _ _ _ _ _ _ _ _ _ _ w hs2 rfl (fun w => q37s _ _ _ _ _ _ _ _ _ _ _ _ _ w) (fun w => next_hi s a w h1 h2) (fun w => rnext_hi s a w h1 h2) hb1 hb2
  | false =>
   have h4 := of_decide_eq_false h2
   obtain ⟨k, rfl⟩ : ∃ k : Nat, a = (k : Int) := ⟨a.toNat, by omega⟩
   rcases nx_both s hs k (by omega) with ⟨e, K, v0, v1, v2, v3, v4, v5, v6, v7, v8, v9, h⟩ | h
   ·exact lnext_g s _ 0 _ _ _ _ _ _ _ _ _ _ _ _ _ _ w hs2 h.oc h.se h.n1 h.n2 (fun w => wk (blank_n s k w hs2 (by omega))) (fun w => wk (rblank_n s k w hs2 (by omega)))
   ·exact lnext_g s _ 70 _ _ _ _ _ _ _ _ _ _ _ _ _ _ w hs2 rfl (fun w => q37s _ _ _ _ _ _ _ _ _ _ _ _ _ w) h.n1 h.n2 (fun w => wk (blank_n s k w hs2 (by omega))) (fun w => wk (rblank_n s k w hs2 (by omega)))
end Go.Proofs.YthgknegocfhdbaaDoor.V
/-
 A world in which the library's two tables lie; the end of a row over a law that leaves what was there as it was.
-/
namespace Go.Proofs.YthgknegocfhdbaaDoor
open Go.ChangeShapes Go.WideShapes Go.ChangeAt Go.RowKit Go.ChangeMaps
theorem Tryd.own : ownKnob Tryd.prog.godebug = none := by kernel_rfl
def firstCells : Array Value := #[.int .u8 240, .int .u8 240, .int .u8 240, .int .u8 240, .int .u8 240, .int .u8 240, .int .u8 240, .int .u8 240, .int .u8 240, .int .u8 240, .int .u8 240, .int .u8 240, .int .u8 240, .int .u8 240, .int .u8 240, .int .u8 240, .int .u8 240, .int .u8 240, .int .u8 240, .int .u8 240, .int .u8 240, .int .u8 240, .int .u8 240, .int .u8 240, .int .u8 240, .int .u8 240, .int .u8 240, .int .u8 240, .int .u8 240, .int .u8 240, .int .u8 240, .int .u8 240, .int .u8 240, .int .u8 240, .int .u8 240, .int .u8 240, .int .u8 240, .int .u8 240, .int .u8 240, .int .u8 240, .int .u8 240, .int .u8 240, .int .u8 240, .int .u8 240, .int .u8 240, .int .u8 240, .int .u8 240, .int .u8 240, .int .u8 240, .int .u8 240, .int .u8 240, .int .u8 240, .int .u8 240, .int .u8 240, .int .u8 240, .int .u8 240, .int .u8 240, .int .u8 240, .int .u8 240, .int .u8 240, .int .u8 240, .int .u8 240, .int .u8 240, .int .u8 240, .int .u8 240, .int .u8 240, .int .u8 240, .int .u8 240, .int .u8 240, .int .u8 240, .int .u8 240, .int .u8 240, .int .u8 240, .int .u8 240, .int .u8 240, .int .u8 240, .int .u8 240, .int .u8 240, .int .u8 240, .int .u8 240, .int .u8 240, .int .u8 240, .int .u8 240, .int .u8 240, .int .u8 240, .int .u8 240, .int .u8 240, .int .u8 240, .int .u8 240, .int .u8 240, .int .u8 240, .int .u8 240, .int .u8 240, .int .u8 240, .int .u8 240, .int .u8 240, .int .u8 240, .int .u8 240, .int .u8 240, .int .u8 240, .int .u8 240, .int .u8 240, .int .u8 240, .int .u8 240, .int .u8 240, .int .u8 240, .int .u8 240, .int .u8 240, .int .u8 240, .int .u8 240, .int .u8 240, .int .u8 240, .int .u8 240, .int .u8 240, .int .u8 240, .int .u8 240, .int .u8 240, .int .u8 240, .int .u8 240, .int .u8 240, .int .u8 240, .int .u8 240, .int .u8 240, .int .u8 240, .int .u8 240, .int .u8 240, .int .u8 240, .int .u8 240, .int .u8 241, .int .u8 241, .int .u8 241, .int .u8 241, .int .u8 241, .int .u8 241, .int .u8 241, .int .u8 241, .int .u8 241, .int .u8 241, .int .u8 241, .int .u8 241, .int .u8 241, .int .u8 241, .int .u8 241, .int .u8 241, .int .u8 241, .int .u8 241, .int .u8 241, .int .u8 241, .int .u8 241, .int .u8 241, .int .u8 241, .int .u8 241, .int .u8 241, .int .u8 241, .int .u8 241, .int .u8 241, .int .u8 241, .int .u8 241, .int .u8 241, .int .u8 241, .int .u8 241, .int .u8 241, .int .u8 241, .int .u8 241, .int .u8 241, .int .u8 241, .int .u8 241, .int .u8 241, .int .u8 241, .int .u8 241, .int .u8 241, .int .u8 241, .int .u8 241, .int .u8 241, .int .u8 241, .int .u8 241, .int .u8 241, .int .u8 241, .int .u8 241, .int .u8 241, .int .u8 241, .int .u8 241, .int .u8 241, .int .u8 241, .int .u8 241, .int .u8 241, .int .u8 241, .int .u8 241, .int .u8 241, .int .u8 241, .int .u8 241, .int .u8 241, .int .u8 241, .int .u8 241, .int .u8 2, .int .u8 2, .int .u8 2, .int .u8 2, .int .u8 2, .int .u8 2, .int .u8 2, .int .u8 2, .int .u8 2, .int .u8 2, .int .u8 2, .int .u8 2, .int .u8 2, .int .u8 2, .int .u8 2, .int .u8 2, .int .u8 2, .int .u8 2, .int .u8 2, .int .u8 2, .int .u8 2, .int .u8 2, .int .u8 2, .int .u8 2, .int .u8 2, .int .u8 2, .int .u8 2, .int .u8 2, .int .u8 2, .int .u8 2, .int .u8 19, .int .u8 3, .int .u8 3, .int .u8 3, .int .u8 3, .int .u8 3, .int .u8 3, .int .u8 3, .int .u8 3, .int .u8 3, .int .u8 3, .int .u8 3, .int .u8 3, .int .u8 35, .int .u8 3, .int .u8 3, .int .u8 52, .int .u8 4, .int .u8 4, .int .u8 4, .int .u8 68, .int .u8 241, .int .u8 241, .int .u8 241, .int .u8 241, .int .u8 241, .int .u8 241, .int .u8 241, .int .u8 241, .int .u8 241, .int .u8 241, .int .u8 241]
def acceptCells : Array Value := #[.int .u8 128, .int .u8 191, .int .u8 160, .int .u8 191, .int .u8 128, .int .u8 159, .int .u8 144, .int .u8 191, .int .u8 128, .int .u8 143, .int .u8 0, .int .u8 0, .int .u8 0, .int .u8 0, .int .u8 0, .int .u8 0, .int .u8 0, .int .u8 0, .int .u8 0, .int .u8 0, .int .u8 0, .int .u8 0, .int .u8 0, .int .u8 0, .int .u8 0, .int .u8 0, .int .u8 0, .int .u8 0, .int .u8 0, .int .u8 0, .int .u8 0, .int .u8 0]
def layW (w0 : World) : World :=
 { w0 with heap := (w0.heap.modify 1 fun
   | .cells _ t frozen => .cells firstCells t frozen
   | o => o).modify 2 fun
   | .cells _ t frozen => .cells acceptCells t frozen
   | o => o }
set_option maxRecDepth 100000 in
theorem laidWorld_met (os : Os) (args : Array Value) : laidMetH Tryd.prog Rows.lexPlacesRow.laid ((layW (World.holding Tryd.prog os ⟨#[], #[], []⟩)).forCall (fun _ _ => 0) ⟨#[], args, []⟩).memory := by
 show laidMet Tryd.prog [("unicode/utf8.acceptRanges", Rows.laid_unicode_utf8_acceptRanges), ("unicode/utf8.first", Rows.laid_unicode_utf8_first)] _
 exact (LaidIn.of_run [1, 2] 8 (by kernel_rfl) (by kernel_rfl) (by kernel_rfl) (by kernel_rfl)).met
theorem post_mw {H : Type} {enc : TypeId × Value → H} {P : Program} {f : Func} {s : ChangeSpec} {apart fresh handsOn : Bool} {W W' : World} {args : Array Value} {v : Value} {ds gs : List (DataW H)}
  (hW : DataW.Whole enc P f.params.toList s.vars apart W args.toList ds gs [])
  (hres : ∀ (b : Nat) (sp : Nat → Bool) (hd : Bool), DataW.TrodAll enc P W' b sp hd f.resultTypes.toList (v.resultList f.resultTypes.size) (s.fn H (ds ++ gs)).results [])
  (hargs : ∀ sp : Nat → Bool, DataW.TrodAll enc P W' 0 sp true f.params.toList args.toList (s.fn H (ds ++ gs)).args [])
  (hvars : ∀ sp : Nat → Bool, DataW.TrodVars enc P W' sp s.vars (s.fn H (ds ++ gs)).vars []) (hk : V.Mw W W') :
  s.post enc P f apart fresh handsOn false W args v W' :=
 ⟨ds, gs, [], [], [], [], hW, hres _ _ _, hargs _, hvars _, Below.frame hk _, fun h => by cases h⟩
end Go.Proofs.YthgknegocfhdbaaDoor
/-
 A row of the second form over a world with variables laid: the condition, the reach and what lies there are handed to the contract.
-/
namespace Go.Proofs.YthgknegocfhdbaaDoor
open Go.ChangeShapes Go.WideShapes Go.ChangeAt Go.RowKit Go.ChangeMaps
section
variable {H : Type} {enc : TypeId × Value → H}
theorem rih_cond {a : Assume} {C : Checked} {os : Os} {f : FuncId} {fn : Func} {s : OpenSpec} {k : (H : Type) → List (DataW H) → Bool} (hk : s.cond = some k) {F : Stop.Interp} {conds : List PathCond} {apart fresh handsOn again : Bool} {X : World → Array Value → Prop}
  (hX : ∀ (w w' : World) (args : Array Value), w.heap = w'.heap → X w args → X w' args)
  (own : ownKnob C.prog.godebug = none) (started : os.Started) (noInit : C.prog.inits.idxOf? f = none) (hfn : C.prog.funcs[f]? = some fn)
  (witness : ∃ (w : World) (tape : Tape) (i : Input), w.os = os ∧ (w.forCall tape i).Shaped C.prog ∧ i.vars = [] ∧ Input.okWide C.prog (w.forCall tape i) .any w.heap.size f i ∧
   ((s.pre enc C.prog fn conds apart (w.forCall tape i).memory i.args ∧ X (w.forCall tape i).memory i.args) ∧ sizedMet enc C.prog fn s apart (w.forCall tape i).memory i.args) ∧ a.holds C.prog (lone (Frame.enter C.prog f i.args .normal) [] (w.forCall tape i)))
  (contract : ∀ (W : World) (base : Nat) (args : Array Value) (ds gs : List (DataW H)) (before : List MemPlace),
   (∀ (j : Nat) t v, fn.params[j]? = some t → args[j]? = some v → Value.okWide C.prog W .any base t v) →
   DataW.Whole enc C.prog fn.params.toList s.vars apart W args.toList ds gs before → k H (ds ++ gs) = true → X W args →
   Calls C.prog f args W fun e W' => ∃ v, e = .returned v ∧ (s.at F).post enc C.prog fn apart fresh handsOn again W args v W') :
  ReturnsInHanded a C os f .any (fun w args => (s.pre enc C.prog fn conds apart w args ∧ X w args) ∧ sizedMet enc C.prog fn s apart w args) ((s.at F).post enc C.prog fn apart fresh handsOn again) := by
 refine returnsInHanded_of_calls own started noInit witness ?_
 intro w tape i _ _ _ hok hpre _
 obtain ⟨_, _, _, fn', hfn', _, _, _, _, hval⟩ := hok
 have e : fn' = fn := Option.some.inj (hfn'.symm.trans hfn)
 subst e
 obtain ⟨⟨hp0, hx⟩, _⟩ := hpre
 obtain ⟨ds, gs, before, hw, _, hkk⟩ := (OpenSpec.pre_some hk conds apart _ _).1 hp0
 have hw' := DataW.Whole.of_heap (w' := w.forCall tape i) (by rfl) hw
 refine (contract (w.forCall tape i) w.heap.size i.args ds gs before hval hw' hkk (hX _ _ _ (by rfl) hx)).mono fun e W' ⟨v, he, hp⟩ => ?_
 subst he
 exact ChangeSpec.post_blind hp
theorem wit_cond {C : Checked} {os : Os} {f : FuncId} {fn : Func} {s : OpenSpec} {k : (H : Type) → List (DataW H) → Bool} (hk : s.cond = some k) {conds : List PathCond} {apart : Bool} {X : World → Array Value → Prop} (modest : Bool) (w0 : World) (args : Array Value) (fuel : Nat) (hos : w0.os = os)
  (hv : (w0.forCall (fun _ _ => 0) ⟨#[], args, []⟩).variablesB C.prog = true)
  (hr : ((w0.forCall (fun _ _ => 0) ⟨#[], args, []⟩).heap.toList.drop C.prog.globals.size).take ((begin C.prog (fun _ _ => 0) default).world.heap.size - C.prog.globals.size) =
   (begin C.prog (fun _ _ => 0) default).world.heap.toList.drop C.prog.globals.size)
  (hok : Input.okWideB C.prog (w0.forCall (fun _ _ => 0) ⟨#[], args, []⟩) f ⟨#[], args, []⟩ = true)
  {x : List (DataW H) × List (DataW H) × List MemPlace} (hx : DataW.whole enc C.prog (w0.forCall (fun _ _ => 0) ⟨#[], args, []⟩).memory fn.params.toList s.vars apart args.toList fuel = some x)
  (hconds : conds.all (PathCond.test C.prog ⟨fn.params.toList, x.1, s.bare.plain.varTypes C.prog, x.2.1⟩) = true) (hkk : k H (x.1 ++ x.2.1) = true)
  (hsz : s.bare.sizedB enc C.prog fn apart (w0.forCall (fun _ _ => 0) ⟨#[], args, []⟩).memory args fuel = true)
  (hX : X (w0.forCall (fun _ _ => 0) ⟨#[], args, []⟩).memory args) :
  ∃ (w : World) (tape : Tape) (i : Input), w.os = os ∧ (w.forCall tape i).Shaped C.prog ∧ i.vars = [] ∧ Input.okWide C.prog (w.forCall tape i) .any w.heap.size f i ∧
   ((s.pre enc C.prog fn conds apart (w.forCall tape i).memory i.args ∧ X (w.forCall tape i).memory i.args) ∧ sizedMet enc C.prog fn s apart (w.forCall tape i).memory i.args) ∧ ({ modest := modest } : Assume).holds C.prog (lone (Frame.enter C.prog f i.args .normal) [] (w.forCall tape i)) :=
 ⟨w0, fun _ _ => 0, ⟨#[], args, []⟩, hos, World.shaped_of_B hv hr, (Input.okWide_of_okWideB (base := 0) hok).1, (Input.okWide_of_okWideB hok).2,
  ⟨⟨(OpenSpec.pre_some hk conds apart _ _).2 ⟨x.1, x.2.1, x.2.2, DataW.Whole_of_whole hx, hconds, hkk⟩, hX⟩, sizedMet_of_sizedB hsz⟩, by
  simp only [Assume.holds]
  exact ⟨by simp, by simp, fun _ => Modest.zero, by simp, by simp⟩⟩
end
set_option maxRecDepth 100000 in
theorem open_i64 {H : Type} {enc : TypeId × Value → H} {W : World} {base : Nat} {T : TypeId} {v : Value} {d : DataW H} {p : List MemPlace} (hu : Tryd.prog.underlying T = some (.int .i64)) (hv : Value.okWide Tryd.prog W .any base T v) (h : DataW.Trod enc Tryd.prog W 0 (fun _ => true) true T v d p) :
  ∃ x : Int, v = .int .i64 x ∧ p = [] ∧ ∀ (W' : World) (sp : Nat → Bool), DataW.Trod enc Tryd.prog W' 0 sp true T v d [] := by
 obtain ⟨n, rfl, rfl, rfl, hw⟩ := open_int hu hv h
 exact ⟨n, rfl, rfl, fun W' sp => shut_int hu hw⟩
theorem bulk_str {H : Type} {l : List UInt8} {r : List (DataW H)} (hk : Rows.uptoSmall H (.lit (.string l) :: r) = true) : l.length ≤ 1048576 := by
 have h := of_decide_eq_true hk
 simp only [Rows.uptoBulkAll, Rows.uptoBulk] at h
 omega
end Go.Proofs.YthgknegocfhdbaaDoor
