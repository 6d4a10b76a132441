/-
  A part of the proof.
-/
import Derived.Test.YthgknegocfhdbaaDoorC8
import Derived.Test.YthgknegocfhdbaaDoorC10
import Derived.Test.YthgknegocfhdbaaDoorRows
import Derived.Test.YthgknegocfhdbaaDoorC2
import Derived.Carry
import Derived.ChangeMaps5
import Derived.ChangeSame
import Derived.ChangeVars
import Derived.JoinedOf
import Derived.RowKitTokens
import Derived.LaidLaws
import Derived.LaidHandle
import Derived.Stop.Joined
import Derived.Lib.LaidIn
/-
 What Scan tells, of every text.
-/
namespace Go.Proofs.YthgknegocfhdbaaDoor.V
open Go.RowKit
theorem rch_1 {s : ByteArray} {k e : Nat} (hk : k < s.size) (h : rch s k = (1, e)) : k < e := by
 unfold rch at h
 split at h
 ·have h9 := (Prod.mk.inj h).2
  have := nme_rg s _ (k + 1) rfl (by omega)
  omega
 ·split at h
  ·cases (Prod.mk.inj h).1
  ·split at h
   ·cases (Prod.mk.inj h).1
   ·cases (Prod.mk.inj h).1
theorem size_ext {s : ByteArray} {k e : Nat} (he : e ≤ s.size) : (s.extract k e).size = e - k := by rw [ByteArray.size_extract, Nat.min_eq_left he]
theorem isDec_0 {t : ByteArray} (h : t.size = 0) : isDec t = false := by
 have h2 : t.toList.isEmpty = true := by rw [Lib.toList_data, List.isEmpty_iff]; exact List.length_eq_zero_iff.1 (by rw [by8_len]; exact h)
 unfold isDec
 rw [h2]; rfl
end Go.Proofs.YthgknegocfhdbaaDoor.V
/-
 Words against themselves; both Nexts say the same; what Scan tells, of both.
-/
namespace Go.Proofs.YthgknegocfhdbaaDoor.V
open Go.RowKit
theorem eqaS {ty : TypeId} {a b : Array Value} {r : Bool} {w : World} (hg : Tryd.prog.eqGuardType Tryd.prog.depth ty = false) (q : (Op.equalIn 10000 ty (.agg a) (.agg b)).run Tryd.prog w = .ok r w) (x y : Operand) :
  (do eqGuard .eql ty x y (.agg a) (.agg b); binOp .eql ty (.agg a) (.agg b)).run Tryd.prog w = .ok (.bool r) w := by
 have e : binOp .eql ty (.agg a) (.agg b) = (do pure (.bool (← Op.equalIn 10000 ty (.agg a) (.agg b)))) := rfl
 rw [Sem.run_bind, run_eqGuard_agg _ _ _ _ _ _ _ hg, e, Result.andThen_ok, Sem.run_bind, q]; rfl
theorem neaS {ty : TypeId} {a b : Array Value} {r : Bool} {w : World} (hg : Tryd.prog.eqGuardType Tryd.prog.depth ty = false) (q : (Op.equalIn 10000 ty (.agg a) (.agg b)).run Tryd.prog w = .ok r w) (x y : Operand) :
  (do eqGuard .neq ty x y (.agg a) (.agg b); binOp .neq ty (.agg a) (.agg b)).run Tryd.prog w = .ok (.bool (!r)) w := by
 have e : binOp .neq ty (.agg a) (.agg b) = (do pure (.bool (!(← Op.equalIn 10000 ty (.agg a) (.agg b))))) := rfl
 rw [Sem.run_bind, run_eqGuard_agg _ _ _ _ _ _ _ hg, e, Result.andThen_ok, Sem.run_bind, q]; rfl
theorem ht33 : Tryd.prog.underlying 33 = some (.struct (Tryd.prog.fieldsOf 33)) := by kernel_rfl
theorem hp33 : Tryd.prog.stoodInHeld 33 = false := by kernel_rfl
theorem fo33 : (Tryd.prog.fieldsOf 33).toList.map (fun f => (f.name, f.type, f.offset)) = [("Neg", 4, 0), ("N", 31, 1), ("Scale", 3, 5)] := by kernel_rfl
theorem ht35 : Tryd.prog.underlying 35 = some (.struct (Tryd.prog.fieldsOf 35)) := by kernel_rfl
theorem hp35 : Tryd.prog.stoodInHeld 35 = false := by kernel_rfl
theorem fo35 : (Tryd.prog.fieldsOf 35).toList.map (fun f => (f.name, f.type, f.offset)) = [("Kind", 3, 0), ("Num", 33, 1), ("Flag", 4, 7), ("Text", 9, 8), ("Err", 3, 9)] := by kernel_rfl
theorem ht37 : Tryd.prog.underlying 37 = some (.struct (Tryd.prog.fieldsOf 37)) := by kernel_rfl
theorem hp37 : Tryd.prog.stoodInHeld 37 = false := by kernel_rfl
theorem fo37 : (Tryd.prog.fieldsOf 37).toList.map (fun f => (f.name, f.type, f.offset)) = [("Kind", 3, 0), ("Text", 9, 1), ("Value", 35, 2), ("At", 3, 12)] := by kernel_rfl
theorem q33_0 (x0 x1 x2 x3 x4 x5 : Value) (w : World) : (part 4 #[x0, x1, x2, x3, x4, x5] 0).run Tryd.prog w = .ok x0 w := by kernel_rfl
theorem q33_1 (x0 x1 x2 x3 x4 x5 : Value) (w : World) : (part 31 #[x0, x1, x2, x3, x4, x5] 1).run Tryd.prog w = .ok (.agg #[x1, x2, x3, x4]) w := by kernel_rfl
theorem q33_5 (x0 x1 x2 x3 x4 x5 : Value) (w : World) : (part 3 #[x0, x1, x2, x3, x4, x5] 5).run Tryd.prog w = .ok x5 w := by kernel_rfl
theorem q35_0 (x0 x1 x2 x3 x4 x5 x6 x7 x8 x9 : Value) (w : World) : (part 3 #[x0, x1, x2, x3, x4, x5, x6, x7, x8, x9] 0).run Tryd.prog w = .ok x0 w := by kernel_rfl
theorem q35_1 (x0 x1 x2 x3 x4 x5 x6 x7 x8 x9 : Value) (w : World) : (part 33 #[x0, x1, x2, x3, x4, x5, x6, x7, x8, x9] 1).run Tryd.prog w = .ok (.agg #[x1, x2, x3, x4, x5, x6]) w := by kernel_rfl
theorem q35_7 (x0 x1 x2 x3 x4 x5 x6 x7 x8 x9 : Value) (w : World) : (part 4 #[x0, x1, x2, x3, x4, x5, x6, x7, x8, x9] 7).run Tryd.prog w = .ok x7 w := by kernel_rfl
theorem q35_8 (x0 x1 x2 x3 x4 x5 x6 x7 x8 x9 : Value) (w : World) : (part 9 #[x0, x1, x2, x3, x4, x5, x6, x7, x8, x9] 8).run Tryd.prog w = .ok x8 w := by kernel_rfl
theorem q35_9 (x0 x1 x2 x3 x4 x5 x6 x7 x8 x9 : Value) (w : World) : (part 3 #[x0, x1, x2, x3, x4, x5, x6, x7, x8, x9] 9).run Tryd.prog w = .ok x9 w := by kernel_rfl
theorem q37_0 (x0 x1 x2 x3 x4 x5 x6 x7 x8 x9 xa xb xc : Value) (w : World) : (part 3 #[x0, x1, x2, x3, x4, x5, x6, x7, x8, x9, xa, xb, xc] 0).run Tryd.prog w = .ok x0 w := by kernel_rfl
theorem q37_1 (x0 x1 x2 x3 x4 x5 x6 x7 x8 x9 xa xb xc : Value) (w : World) : (part 9 #[x0, x1, x2, x3, x4, x5, x6, x7, x8, x9, xa, xb, xc] 1).run Tryd.prog w = .ok x1 w := by kernel_rfl
theorem q37_2 (x0 x1 x2 x3 x4 x5 x6 x7 x8 x9 xa xb xc : Value) (w : World) : (part 35 #[x0, x1, x2, x3, x4, x5, x6, x7, x8, x9, xa, xb, xc] 2).run Tryd.prog w = .ok (.agg #[x2, x3, x4, x5, x6, x7, x8, x9, xa, xb]) w := by kernel_rfl
theorem q37_c (x0 x1 x2 x3 x4 x5 x6 x7 x8 x9 xa xb xc : Value) (w : World) : (part 3 #[x0, x1, x2, x3, x4, x5, x6, x7, x8, x9, xa, xb, xc] 12).run Tryd.prog w = .ok xc w := by kernel_rfl
theorem q31s (d : Nat) (a b c e : Int) (w : World) : (Op.equalIn (d + 1 + 1) 31 (.agg #[.int .u64 a, .int .u64 b, .int .u64 c, .int .u64 e]) (.agg #[.int .u64 a, .int .u64 b, .int .u64 c, .int .u64 e])).run Tryd.prog w = .ok true w := by
 obtain ⟨j, hj⟩ := info22
 rw [run_equalIn_array w (d + 1) _ _ Tryd.underlying31 hj, cells22]
 have q : ∀ (x : Int), (Op.equalIn (d + 1) 29 (.int .u64 x) (.int .u64 x)).run Tryd.prog w = .ok true w := fun x => by rw [run_equalIn_int w d 29 .u64 .u64 x x Tryd.underlying29]; simp
 rw [show List.range 4 = [0, 1, 2, 3] from rfl]
 simp [Op.eqItems, Sem.run_bind, part0, part1, part2, part3, Result.andThen_ok, q, Sem.run_pure]
theorem qbool (d : Nat) (b : Bool) (w : World) : (Op.equalIn (d + 1) 4 (.bool b) (.bool b)).run Tryd.prog w = .ok true w := by
 have : (Op.equalIn (d + 1) 4 (.bool b) (.bool b)).run Tryd.prog w = .ok (b == b) w := by kernel_rfl
 rw [this]; simp
theorem qint (d : Nat) (x : Int) (w : World) : (Op.equalIn (d + 1) 3 (.int .i64 x) (.int .i64 x)).run Tryd.prog w = .ok true w := by rw [run_equalIn_int w d 3 .i64 .i64 x x Tryd.underlying3]; simp
theorem qstr (d : Nat) (t : ByteArray) (w : World) : (Op.equalIn (d + 1) 9 (.string t) (.string t)).run Tryd.prog w = .ok true w := by
 have : (Op.equalIn (d + 1) 9 (.string t) (.string t)).run Tryd.prog w = .ok (t == t) w := by kernel_rfl
 have h2 : (t == t) = true := by
  obtain ⟨a⟩ := t
  show (a == a) = true
  exact beq_self_eq_true a
 rw [this, h2]
theorem q33s (d : Nat) (b : Bool) (n0 n1 n2 n3 s : Int) (w : World) : (Op.equalIn (d + 1 + 1 + 1) 33 (.agg #[.bool b, .int .u64 n0, .int .u64 n1, .int .u64 n2, .int .u64 n3, .int .i64 s]) (.agg #[.bool b, .int .u64 n0, .int .u64 n1, .int .u64 n2, .int .u64 n3, .int .i64 s])).run Tryd.prog w = .ok true w := by
 rw [run_equalIn_struct w (d + 1 + 1) 33 _ _ ht33 hp33]
 have h := fo33
 generalize (Tryd.prog.fieldsOf 33).toList = L at h
 have hl : L.length = 3 := by have := congrArg List.length h; simpa using this
 match L, hl with
 | [f0, f1, f2], _ =>
  simp at h
  obtain ⟨⟨a0, a1, a2⟩, ⟨b0, b1, b2⟩, ⟨c0, c1, c2⟩⟩ := h
  simp [Op.eqFields, a0, a1, a2, b0, b1, b2, c0, c1, c2, Sem.run_bind, q33_0, q33_1, q33_5, Result.andThen_ok, qbool, q31s, qint, Sem.run_pure]
theorem q35s (d : Nat) (K : Int) (b : Bool) (n0 n1 n2 n3 s : Int) (fl : Bool) (t : ByteArray) (er : Int) (w : World) : (Op.equalIn (d + 1 + 1 + 1 + 1) 35 (.agg #[.int .i64 K, .bool b, .int .u64 n0, .int .u64 n1, .int .u64 n2, .int .u64 n3, .int .i64 s, .bool fl, .string t, .int .i64 er]) (.agg #[.int .i64 K, .bool b, .int .u64 n0, .int .u64 n1, .int .u64 n2, .int .u64 n3, .int .i64 s, .bool fl, .string t, .int .i64 er])).run Tryd.prog w = .ok true w := by
 rw [run_equalIn_struct w (d + 1 + 1 + 1) 35 _ _ ht35 hp35]
 have h := fo35
 generalize (Tryd.prog.fieldsOf 35).toList = L at h
 have hl : L.length = 5 := by have := congrArg List.length h; simpa using this
 match L, hl with
 | [f0, f1, f2, f3, f4], _ =>
  simp at h
  obtain ⟨⟨a0, a1, a2⟩, ⟨b0, b1, b2⟩, ⟨c0, c1, c2⟩, ⟨g0, g1, g2⟩, ⟨i0, i1, i2⟩⟩ := h
  simp [Op.eqFields, a0, a1, a2, b0, b1, b2, c0, c1, c2, g0, g1, g2, i0, i1, i2, Sem.run_bind, q35_0, q35_1, q35_7, q35_8, q35_9, Result.andThen_ok, qbool, q33s, qint, qstr, Sem.run_pure]
theorem q37g (d : Nat) (A K B : Int) (u : ByteArray) (b : Bool) (n0 n1 n2 n3 s : Int) (fl : Bool) (t : ByteArray) (er : Int) (w : World) : (Op.equalIn (d + 1 + 1 + 1 + 1 + 1) 37 (.agg #[.int .i64 A, .string u, .int .i64 K, .bool b, .int .u64 n0, .int .u64 n1, .int .u64 n2, .int .u64 n3, .int .i64 s, .bool fl, .string t, .int .i64 er, .int .i64 B]) (.agg #[.int .i64 A, .string u, .int .i64 K, .bool b, .int .u64 n0, .int .u64 n1, .int .u64 n2, .int .u64 n3, .int .i64 s, .bool fl, .string t, .int .i64 er, .int .i64 B])).run Tryd.prog w = .ok true w := by
 rw [run_equalIn_struct w (d + 1 + 1 + 1 + 1) 37 _ _ ht37 hp37]
 have h := fo37
 generalize (Tryd.prog.fieldsOf 37).toList = L at h
 have hl : L.length = 4 := by have := congrArg List.length h; simpa using this
 match L, hl with
 | [f0, f1, f2, f3], _ =>
  simp at h
  obtain ⟨⟨a0, a1, a2⟩, ⟨b0, b1, b2⟩, ⟨c0, c1, c2⟩, ⟨g0, g1, g2⟩⟩ := h
  simp [Op.eqFields, a0, a1, a2, b0, b1, b2, c0, c1, c2, g0, g1, g2, Sem.run_bind, q37_0, q37_1, q37_2, q37_c, Result.andThen_ok, q35s, qint, qstr, Sem.run_pure]
theorem q37s (A K B : Int) (u : ByteArray) (b : Bool) (n0 n1 n2 n3 s : Int) (fl : Bool) (t : ByteArray) (er : Int) (w : World) : (Op.equalIn 10000 37 (.agg #[.int .i64 A, .string u, .int .i64 K, .bool b, .int .u64 n0, .int .u64 n1, .int .u64 n2, .int .u64 n3, .int .i64 s, .bool fl, .string t, .int .i64 er, .int .i64 B]) (.agg #[.int .i64 A, .string u, .int .i64 K, .bool b, .int .u64 n0, .int .u64 n1, .int .u64 n2, .int .u64 n3, .int .i64 s, .bool fl, .string t, .int .i64 er, .int .i64 B])).run Tryd.prog w = .ok true w := q37g 9995 A K B u b n0 n1 n2 n3 s fl t er w
theorem gt37 : Tryd.prog.eqGuardType Tryd.prog.depth 37 = false := by kernel_rfl
def SelfE (a : Array Value) : Prop := ∀ w : World, (Op.equalIn 10000 37 (.agg a) (.agg a)).run Tryd.prog w = .ok true w
theorem SelfE.eq {a : Array Value} (h : SelfE a) (x y : Operand) (w : World) : (do eqGuard .eql 37 x y (.agg a) (.agg a); binOp .eql 37 (.agg a) (.agg a)).run Tryd.prog w = .ok (.bool true) w := eqaS gt37 (h w) x y
theorem SelfE.ne {a : Array Value} (h : SelfE a) (x y : Operand) (w : World) : (do eqGuard .neq 37 x y (.agg a) (.agg a); binOp .neq 37 (.agg a) (.agg a)).run Tryd.prog w = .ok (.bool false) w := neaS gt37 (h w) x y
structure Nt (s : ByteArray) (k e K : Nat) (v0 v1 v2 v3 v4 v5 v6 v7 v8 v9 : Value) : Prop where
 lt : k < e
 le : e ≤ s.size
 oc : ([.int .i64 ((K : Nat) : Int), .string (s.extract k e), v0, v1, v2, v3, v4, v5, v6, v7, v8, v9, .int .i64 ((k : Nat) : Int)] : List Value).all (·.oneCell') = true
 se : SelfE #[.int .i64 ((K : Nat) : Int), .string (s.extract k e), v0, v1, v2, v3, v4, v5, v6, v7, v8, v9, .int .i64 ((k : Nat) : Int)]
 n1 : ∀ w, Calls Tryd.prog 12 #[.string s, .int .i64 ((k : Nat) : Int)] w fun e' w' => e' = .returned (.tuple #[.agg #[.int .i64 ((K : Nat) : Int), .string (s.extract k e), v0, v1, v2, v3, v4, v5, v6, v7, v8, v9, .int .i64 ((k : Nat) : Int)], .int .i64 0]) ∧ Mw w w'
 n2 : ∀ w, Calls Tryd.prog 13 #[.string s, .int .i64 ((k : Nat) : Int)] w fun e' w' => e' = .returned (.tuple #[.agg #[.int .i64 ((K : Nat) : Int), .string (s.extract k e), v0, v1, v2, v3, v4, v5, v6, v7, v8, v9, .int .i64 ((k : Nat) : Int)], .int .i64 0]) ∧ Mw w w'
structure Nf (s : ByteArray) (k : Nat) : Prop where
 n1 : ∀ w, Calls Tryd.prog 12 #[.string s, .int .i64 ((k : Nat) : Int)] w fun e' w' => e' = .returned (.tuple #[.agg #[.int .i64 0, .string ⟨#[]⟩, .int .i64 0, .bool false, .int .u64 0, .int .u64 0, .int .u64 0, .int .u64 0, .int .i64 0, .bool false, .string ⟨#[]⟩, .int .i64 0, .int .i64 0], .int .i64 70]) ∧ Mw w w'
 n2 : ∀ w, Calls Tryd.prog 13 #[.string s, .int .i64 ((k : Nat) : Int)] w fun e' w' => e' = .returned (.tuple #[.agg #[.int .i64 0, .string ⟨#[]⟩, .int .i64 0, .bool false, .int .u64 0, .int .u64 0, .int .u64 0, .int .u64 0, .int .i64 0, .bool false, .string ⟨#[]⟩, .int .i64 0, .int .i64 0], .int .i64 70]) ∧ Mw w w'
theorem rch_1l {s : ByteArray} {k : Nat} (h : ltr (bt s k) = true) : rch s k = (1, nme s k) := by
 unfold rch; rw [if_pos h, nme_on (k := k) (by rw [h]; rfl)]
theorem rch_2l {s : ByteArray} {k : Nat} (h : ltr (bt s k) = false) (h2 : dgt (bt s k) = true) : rch s k = (2, k + pfx (s.extract k s.size)) := by
 unfold rch; rw [if_neg (by rw [h]; simp), if_pos h2]
theorem rch_3l {s : ByteArray} {k : Nat} (h : ltr (bt s k) = false) (h2 : dgt (bt s k) = false) (h3 : (bt s k == 34) = true) : rch s k = (3, (cl s (k + 1)).getD k) := by
 unfold rch; rw [if_neg (by rw [h]; simp), if_neg (by rw [h2]; simp), if_pos h3, qte_cl s k _ k (Nat.le_refl _)]
theorem rch_4l {s : ByteArray} {k : Nat} (h : ltr (bt s k) = false) (h2 : dgt (bt s k) = false) (h3 : (bt s k == 34) = false) : rch s k = (4, if k + 2 ≤ s.size ∧ symb (s.extract k (k + 2)) = true then k + 2 else k + 1) := by
 unfold rch; rw [if_neg (by rw [h]; simp), if_neg (by rw [h2]; simp), if_neg (by rw [h3]; simp)]
theorem unq_0 {t : ByteArray} (h : t.size = 0) : (unq t).2 = false := by
 unfold unq; rw [if_pos (Or.inl (by omega))]
theorem nx_both (s : ByteArray) (hs : s.size ≤ 1000000000000) (k : Nat) (hk : k < s.size) : (∃ (e K : Nat) (v0 v1 v2 v3 v4 v5 v6 v7 v8 v9 : Value), Nt s k e K v0 v1 v2 v3 v4 v5 v6 v7 v8 v9) ∨ Nf s k := by
 have hs47 : s.size ≤ 140737488355328 := by omega
 have hrg := rch_rg hk
 have hzz : ∀ e, (s.extract k e).size ≤ s.size := fun e => by rw [ByteArray.size_extract]; omega
 cases h1 : ltr (bt s k) with
 | true =>
  have hr := rch_1l h1
  obtain ⟨e, he⟩ : ∃ e, nme s k = e := ⟨_, rfl⟩
  rw [he] at hr
  rw [hr] at hrg
  simp only at hrg
  cases ho : nam (s.extract k e) with
  | true =>
   have hm := fun w => meaning_1 (s.extract k e) w (by have := hzz e; unfold maxLen; omega)
   simp only [ho] at hm
   exact Or.inl ⟨e, 1, _, _, _, _, _, _, _, _, _, _, rch_1 hk hr, hrg.2, rfl, fun w => q37s _ _ _ _ _ _ _ _ _ _ _ _ _ w, fun w => next_1t s k e w hs47 hk hr hm, fun w => rnext_1t s k e w hs hk h1 he ho⟩
  | false =>
   have hm := fun w => meaning_1 (s.extract k e) w (by have := hzz e; unfold maxLen; omega)
   simp only [ho] at hm
   exact Or.inr ⟨fun w => next_1f s k e w hs47 hk hr hm, fun w => rnext_1f s k e w hs hk h1 he ho⟩
 | false =>
  cases h2 : dgt (bt s k) with
  | true =>
   have hr := rch_2l h1 h2
   obtain ⟨e, he⟩ : ∃ e, k + pfx (s.extract k s.size) = e := ⟨_, rfl⟩
   rw [he] at hr
   rw [hr] at hrg
   simp only at hrg
   have hz := size_ext (s := s) (k := k) hrg.2
   obtain ⟨b, N, E, kk, _, _, _, _, h30, hP, hP2⟩ := parse_both (s.extract k e) (by have := hzz e; omega)
   have hm := fun w => meaning_2 (s.extract k e) w b N E kk hP
   cases ho : (E == 0) with
   | true =>
    have hke : k < e := by
     rcases Nat.lt_or_ge k e with h | h
     ·exact h
     ·rw [isDec_0 (by rw [hz]; exact Nat.sub_eq_zero_of_le h), eq_of_beq ho] at h30; cases h30
    simp only [ho] at hm
    exact Or.inl ⟨e, 2, _, _, _, _, _, _, _, _, _, _, hke, hrg.2, rfl, fun w => q37s _ _ _ _ _ _ _ _ _ _ _ _ _ w, fun w => next_2t s k e b N kk w hs47 hk hr hm, fun w => rnext_2t s k e w hs hk h1 h2 he hrg.2 b N E kk ho hP2⟩
   | false =>
    simp only [ho] at hm
    exact Or.inr ⟨fun w => next_2f s k e b N kk w hs47 hk hr hm, fun w => rnext_2f s k e w hs hk h1 h2 he hrg.2 b N E kk ho hP2⟩
  | false =>
   cases h3 : (bt s k == 34) with
   | true =>
    have hr := rch_3l h1 h2 h3
    cases hc : cl s (k + 1) with
    | none =>
     rw [hc] at hr
     simp only [Option.getD_none] at hr
     have hm := fun w => meaning_3 (s.extract k k) w (by have := hzz k; omega)
     have hu := unq_0 (t := s.extract k k) (by rw [size_ext (by omega)]; omega)
     simp only [hu, Bool.false_and] at hm
     exact Or.inr ⟨fun w => next_3f s k k w hs47 hk hr hm, fun w => rnext_3n s k w hs hk h1 h2 h3 hc⟩
    | some e =>
     rw [hc] at hr
     simp only [Option.getD_some] at hr
     have hg := cl_rg s _ (k + 1) (Nat.le_refl _) e hc
     have hm := fun w => meaning_3 (s.extract k e) w (by have := hzz e; omega)
     cases hu : (unq (s.extract k e)).2 with
     | false =>
      simp only [hu, Bool.false_and] at hm
      exact Or.inr ⟨fun w => next_3f s k e w hs47 hk hr hm, fun w => rnext_3f s k e w hs hk h1 h2 h3 hc hu⟩
     | true =>
      cases h64 : decide ((unq (s.extract k e)).1.size ≤ 64) with
      | true =>
       simp only [hu, h64, Bool.true_and] at hm
       exact Or.inl ⟨e, 3, _, _, _, _, _, _, _, _, _, _, by omega, hg.2, rfl, fun w => q37s _ _ _ _ _ _ _ _ _ _ _ _ _ w, fun w => next_3t s k e w hs47 hk hr hm, fun w => rnext_3t s k e w hs hk h1 h2 h3 hc hu h64⟩
      | false =>
       simp only [hu, h64, Bool.true_and] at hm
       exact Or.inr ⟨fun w => next_3f s k e w hs47 hk hr hm, fun w => rnext_3g s k e w hs hk h1 h2 h3 hc hu h64⟩
   | false =>
    have hr := rch_4l h1 h2 h3
    by_cases h4 : k + 2 ≤ s.size ∧ symb (s.extract k (k + 2)) = true
    ·rw [if_pos h4] at hr
     have hm := fun w => meaning_4 (s.extract k (k + 2)) w
     simp only [h4.2] at hm
     exact Or.inl ⟨k + 2, 4, _, _, _, _, _, _, _, _, _, _, by omega, h4.1, rfl, fun w => q37s _ _ _ _ _ _ _ _ _ _ _ _ _ w, fun w => next_4t s k (k + 2) w hs47 hk hr hm, fun w => rnext_6 s k (k + 2) w hs hk h1 h2 h3 (by omega) rfl h4.2⟩
    ·rw [if_neg h4] at hr
     have hm := fun w => meaning_4 (s.extract k (k + 1)) w
     cases ho : symb (s.extract k (k + 1)) with
     | true =>
      simp only [ho] at hm
      refine Or.inl ⟨k + 1, 4, _, _, _, _, _, _, _, _, _, _, by omega, by omega, rfl, fun w => q37s _ _ _ _ _ _ _ _ _ _ _ _ _ w, fun w => next_4t s k (k + 1) w hs47 hk hr hm, fun w => ?_⟩
      by_cases hz : k + 1 < s.size
      ·exact rnext_4t s k (k + 1) w hs hk h1 h2 h3 hz (by cases e : symb (s.extract k (k + 2)) with | false => rfl | true => exact absurd ⟨by omega, e⟩ h4) rfl ho
      ·exact rnext_5t s k (k + 1) w hs hk h1 h2 h3 hz rfl ho
     | false =>
      simp only [ho] at hm
      refine Or.inr ⟨fun w => next_4f s k (k + 1) w hs47 hk hr hm, fun w => ?_⟩
      by_cases hz : k + 1 < s.size
      ·exact rnext_4f s k (k + 1) w hs hk h1 h2 h3 hz (by cases e : symb (s.extract k (k + 2)) with | false => rfl | true => exact absurd ⟨by omega, e⟩ h4) rfl ho
      ·exact rnext_5f s k (k + 1) w hs hk h1 h2 h3 hz rfl ho
inductive Sd (s : ByteArray) : Nat → List (List Value) → Nat → Int → Prop
 | done {k : Nat} (h : ¬ k < s.size) : Sd s k [] 0 0
 | err {k : Nat} (h : k < s.size) (hn : Nf s k) : Sd s k [] k 70
 | tok {k e K : Nat} {v0 v1 v2 v3 v4 v5 v6 v7 v8 v9 : Value} {L : List (List Value)} {p : Nat} {E : Int} (h : k < s.size) (hn : Nt s k e K v0 v1 v2 v3 v4 v5 v6 v7 v8 v9) (hr : Sd s (blk s e) L p E) : Sd s k ([.int .i64 ((K : Nat) : Int), .string (s.extract k e), v0, v1, v2, v3, v4, v5, v6, v7, v8, v9, .int .i64 ((k : Nat) : Int)] :: L) p E
theorem Sd.sc {s : ByteArray} {k : Nat} {L : List (List Value)} {p : Nat} {E : Int} (h : Sd s k L p E) : Sc s k L p E := by
 induction h with
 | done h => exact Sc.done h
 | err h hn => exact Sc.err h hn.n1
 | tok h hn _ ih => exact Sc.tok h hn.lt hn.le hn.oc hn.n1 ih
theorem sd_ex (s : ByteArray) (hs : s.size ≤ 16384) : ∀ (d k : Nat), s.size - k ≤ d → k ≤ s.size → ∃ L p E, Sd s k L p E ∧ (E = 0 ∨ E = 70) := by
 intro d
 induction d with
 | zero => intro k hd hk; exact ⟨_, _, _, Sd.done (by omega), Or.inl rfl⟩
 | succ d ih =>
  intro k hd hk9
  by_cases hk : k < s.size
  ·rcases nx_both s (by omega) k hk with ⟨e, K, v0, v1, v2, v3, v4, v5, v6, v7, v8, v9, h⟩ | h
   ·have hbl := blk_rg s _ e (Nat.le_refl _) h.le
    have := h.lt
    obtain ⟨L, p, E, hS, hE⟩ := ih (blk s e) (by omega) hbl.2
    exact ⟨_, _, _, Sd.tok hk h hS, hE⟩
   ·exact ⟨_, _, _, Sd.err hk h, Or.inr rfl⟩
  ·exact ⟨_, _, _, Sd.done hk, Or.inl rfl⟩
end Go.Proofs.YthgknegocfhdbaaDoor.V
/-
 What Scan tells of the two texts that the law fixes.
-/
namespace Go.Proofs.YthgknegocfhdbaaDoor.V
open Go.RowKit
abbrev sa : ByteArray := ⟨#[97, 46, 98, 60, 61, 49, 46, 53, 48, 47, 47, 99]⟩
abbrev sb : ByteArray := ⟨#[32, 35]⟩
abbrev sn : ByteArray := ⟨#[49, 46, 53, 48, 47, 47, 99]⟩
theorem symb_d (s : ByteArray) : symb s = sys.any (fun x => by8 s == by8 x) := by
 unfold symb
 simp only [Lib.toList_data]
theorem blk_sb0 : blk sb 0 = 1 := by
 rw [blk_b (by decide) (by decide), blk_n (by decide) (by decide)]
theorem rch_sb : rch sb 1 = (4, 2) := by
 unfold rch
 rw [if_neg (by decide), if_neg (by decide), if_neg (by decide), if_neg (by decide)]
theorem ext_sb : sb.extract 1 2 = ⟨#[35]⟩ := by kernel_rfl
theorem sc_sb : Sc sb (blk sb 0) [] 1 70 := by
 rw [blk_sb0]
 refine Sc.err (by decide) (fun w => next_4f sb 1 2 w (by decide) (by decide) rch_sb (fun w => ?_))
 have h := meaning_4 (sb.extract 1 2) w
 have hs : symb (sb.extract 1 2) = false := by rw [ext_sb, symb_d]; decide
 rw [hs] at h
 exact h
theorem pfx_sn : pfx sn = 4 := by
 have b0 : bt sn 0 = 49 := rfl
 have b1 : bt sn 1 = 46 := rfl
 have b2 : bt sn 2 = 53 := rfl
 have b3 : bt sn 3 = 48 := rfl
 have b4 : bt sn 4 = 47 := rfl
 have r1 : re sn 1 = 1 := re_end (by rw [b1]; rfl)
 have r0 : re sn 0 = 1 := by rw [re_on (by rw [b0]; rfl), r1]
 have r4 : re sn 4 = 4 := re_end (by rw [b4]; rfl)
 have r3 : re sn 3 = 4 := by rw [re_on (by rw [b3]; rfl), r4]
 have r2 : re sn 2 = 4 := by rw [re_on (by rw [b2]; rfl), r3]
 unfold pfx fi
 rw [b0, r0]
 unfold ah
 rw [b1, b2, r2]
 rfl
theorem ext_sn : sa.extract 5 12 = sn := by kernel_rfl
theorem ext_0 : sa.extract 0 1 = ⟨#[97]⟩ := by kernel_rfl
theorem ext_1 : sa.extract 1 2 = ⟨#[46]⟩ := by kernel_rfl
theorem ext_1b : sa.extract 1 3 = ⟨#[46, 98]⟩ := by kernel_rfl
theorem ext_2 : sa.extract 2 3 = ⟨#[98]⟩ := by kernel_rfl
theorem ext_3 : sa.extract 3 5 = ⟨#[60, 61]⟩ := by kernel_rfl
theorem ext_5 : sa.extract 5 9 = ⟨#[49, 46, 53, 48]⟩ := by kernel_rfl
theorem nam_1 (c : UInt8) (h : ltr (bt ⟨#[c]⟩ 0) = true) : nam ⟨#[c]⟩ = true := by
 have h1 : nmA ⟨#[c]⟩ 0 = true := by rw [nmA_in (show 0 < 1 by decide), nmA_end (show ¬ 0 + 1 < 1 by decide), h]; rfl
 unfold nam
 rw [h, h1]; rfl
theorem rch_a0 : rch sa 0 = (1, 1) := by unfold rch; rw [if_pos (by decide), nme_end (by decide)]
theorem rch_a1 : rch sa 1 = (4, 2) := by unfold rch; rw [if_neg (by decide), if_neg (by decide), if_neg (by decide), if_neg (fun h => by have h2 := h.2; rw [ext_1b, symb_d] at h2; revert h2; decide)]
theorem rch_a2 : rch sa 2 = (1, 3) := by unfold rch; rw [if_pos (by decide), nme_end (by decide)]
theorem rch_a3 : rch sa 3 = (4, 5) := by unfold rch; rw [if_neg (by decide), if_neg (by decide), if_neg (by decide), if_pos ⟨by decide, by rw [ext_3, symb_d]; decide⟩]
theorem rch_a5 : rch sa 5 = (2, 9) := by unfold rch; rw [if_neg (by decide), if_pos (by decide), show sa.extract 5 sa.size = sn from ext_sn, pfx_sn]
theorem blk_a {k : Nat} (h1 : isb (bt sa k) = false) (h2 : ((bt sa k == 47) && (bt sa (k + 1) == 47)) = false) : blk sa k = k := blk_n h1 h2
theorem blk_a9 : blk sa 9 = 12 := by
 rw [blk_c (by decide) (by decide) (by decide)]
 rw [lnx_on (by decide) (by decide), lnx_on (by decide) (by decide), lnx_end (by decide), blk_end (by decide)]
theorem df_5 : Df (by8 ⟨#[49, 46, 53, 48]⟩) false [49] [53, 48] := ⟨rfl, by decide, by decide, by decide, by decide, fun h => by cases h⟩
theorem par_5 (w : World) : Calls Tryd.prog 48 #[.string (sa.extract 5 9)] w fun e w' => e = .returned (.tuple #[dc false 150 ((2 : Nat) : Int), .int .i64 0]) ∧ Mo w w' := by
 rw [ext_5]
 exact parse13_df df_5 (by decide) w
def La : List (List Value) := [[.int .i64 ((1 : Nat) : Int), .string (sa.extract 0 1), .int .i64 0, .bool false, .int .u64 0, .int .u64 0, .int .u64 0, .int .u64 0, .int .i64 0, .bool false, .string ⟨#[]⟩, .int .i64 0, .int .i64 ((0 : Nat) : Int)], [.int .i64 ((4 : Nat) : Int), .string (sa.extract 1 2), .int .i64 0, .bool false, .int .u64 0, .int .u64 0, .int .u64 0, .int .u64 0, .int .i64 0, .bool false, .string ⟨#[]⟩, .int .i64 0, .int .i64 ((1 : Nat) : Int)], [.int .i64 ((1 : Nat) : Int), .string (sa.extract 2 3), .int .i64 0, .bool false, .int .u64 0, .int .u64 0, .int .u64 0, .int .u64 0, .int .i64 0, .bool false, .string ⟨#[]⟩, .int .i64 0, .int .i64 ((2 : Nat) : Int)], [.int .i64 ((4 : Nat) : Int), .string (sa.extract 3 5), .int .i64 0, .bool false, .int .u64 0, .int .u64 0, .int .u64 0, .int .u64 0, .int .i64 0, .bool false, .string ⟨#[]⟩, .int .i64 0, .int .i64 ((3 : Nat) : Int)], [.int .i64 ((2 : Nat) : Int), .string (sa.extract 5 9), .int .i64 1, .bool false, .int .u64 (l0 (150)), .int .u64 (l1 (150)), .int .u64 (l2 (150)), .int .u64 (l3 (150)), .int .i64 (((2 : Nat) : Int)), .bool false, .string ⟨#[]⟩, .int .i64 0, .int .i64 ((5 : Nat) : Int)]]
theorem sc_sa : Sc sa (blk sa 0) La 0 0 := by
 rw [blk_a (by decide) (by decide)]
 have m0 : ∀ w, Calls Tryd.prog 28 #[.int .i64 ((1 : Nat) : Int), .string (sa.extract 0 1)] w fun e' w' => e' = .returned (.tuple #[.agg #[.int .i64 0, .bool false, .int .u64 0, .int .u64 0, .int .u64 0, .int .u64 0, .int .i64 0, .bool false, .string ⟨#[]⟩, .int .i64 0], .bool true]) ∧ Mw w w' := fun w => by
  have h := meaning_1 (sa.extract 0 1) w (by decide)
  rw [show nam (sa.extract 0 1) = true from by rw [ext_0]; exact nam_1 _ (by decide)] at h; exact h
 have m1 : ∀ w, Calls Tryd.prog 28 #[.int .i64 ((4 : Nat) : Int), .string (sa.extract 1 2)] w fun e' w' => e' = .returned (.tuple #[.agg #[.int .i64 0, .bool false, .int .u64 0, .int .u64 0, .int .u64 0, .int .u64 0, .int .i64 0, .bool false, .string ⟨#[]⟩, .int .i64 0], .bool true]) ∧ Mw w w' := fun w => by
  have h := meaning_4 (sa.extract 1 2) w
  rw [show symb (sa.extract 1 2) = true from by rw [ext_1, symb_d]; decide] at h; exact h
 have m2 : ∀ w, Calls Tryd.prog 28 #[.int .i64 ((1 : Nat) : Int), .string (sa.extract 2 3)] w fun e' w' => e' = .returned (.tuple #[.agg #[.int .i64 0, .bool false, .int .u64 0, .int .u64 0, .int .u64 0, .int .u64 0, .int .i64 0, .bool false, .string ⟨#[]⟩, .int .i64 0], .bool true]) ∧ Mw w w' := fun w => by
  have h := meaning_1 (sa.extract 2 3) w (by decide)
  rw [show nam (sa.extract 2 3) = true from by rw [ext_2]; exact nam_1 _ (by decide)] at h; exact h
 have m3 : ∀ w, Calls Tryd.prog 28 #[.int .i64 ((4 : Nat) : Int), .string (sa.extract 3 5)] w fun e' w' => e' = .returned (.tuple #[.agg #[.int .i64 0, .bool false, .int .u64 0, .int .u64 0, .int .u64 0, .int .u64 0, .int .i64 0, .bool false, .string ⟨#[]⟩, .int .i64 0], .bool true]) ∧ Mw w w' := fun w => by
  have h := meaning_4 (sa.extract 3 5) w
  rw [show symb (sa.extract 3 5) = true from by rw [ext_3, symb_d]; decide] at h; exact h
 have m5 : ∀ w, Calls Tryd.prog 28 #[.int .i64 ((2 : Nat) : Int), .string (sa.extract 5 9)] w fun e' w' => e' = .returned (.tuple #[.agg #[.int .i64 1, .bool false, .int .u64 (l0 (150)), .int .u64 (l1 (150)), .int .u64 (l2 (150)), .int .u64 (l3 (150)), .int .i64 (((2 : Nat) : Int)), .bool false, .string ⟨#[]⟩, .int .i64 0], .bool true]) ∧ Mw w w' := fun w => meaning_2 (sa.extract 5 9) w false 150 0 2 par_5
 refine Sc.tok (by decide) (by decide) (by decide) rfl (fun w => next_1t sa 0 1 w (by decide) (by decide) rch_a0 m0) ?_
 rw [blk_a (by decide) (by decide)]
 refine Sc.tok (by decide) (by decide) (by decide) rfl (fun w => next_4t sa 1 2 w (by decide) (by decide) rch_a1 m1) ?_
 rw [blk_a (by decide) (by decide)]
 refine Sc.tok (by decide) (by decide) (by decide) rfl (fun w => next_1t sa 2 3 w (by decide) (by decide) rch_a2 m2) ?_
 rw [blk_a (by decide) (by decide)]
 refine Sc.tok (by decide) (by decide) (by decide) rfl (fun w => next_4t sa 3 5 w (by decide) (by decide) rch_a3 m3) ?_
 rw [blk_a (by decide) (by decide)]
 refine Sc.tok (by decide) (by decide) (by decide) rfl (fun w => next_2t sa 5 9 false 150 2 w (by decide) (by decide) rch_a5 m5) ?_
 rw [blk_a9]
 exact Sc.done (by decide)
end Go.Proofs.YthgknegocfhdbaaDoor.V
/-
 exciselaw07.live.
-/
namespace Go.Proofs.YthgknegocfhdbaaDoor.V
open Go.RowKit
theorem own_at37 {w : World} {N g cap n : Nat} {xs : List Value} (h : w.ownsRow N 37 13 (.slice (some ⟨g, 0, none⟩) n cap) n xs) : At w g xs := by
 have hl := h.1
 refine ⟨fun j v hv => ?_, fun o => h.frozenAt o, (h.lt g rfl).2⟩
 have hj : j < xs.length := (List.getElem?_eq_some_iff.1 hv).1
 rw [Nat.zero_add, h.cellAt j (by omega)]; exact hv
theorem ix22t (g j n c : Nat) (h : j < n) (w : World) : (Instr.indexAt 22 (.slice (some ⟨g, 0, none⟩) n c) (.int .i64 (j : Int))).run Tryd.prog w = .ok (pt g (j * 13)) w := by
 have e : (Instr.indexAt 22 (.slice (some ⟨g, 0, none⟩) n c) (.int .i64 (j : Int))).run Tryd.prog w = .ok (.pointer (some ((⟨g, 0, none⟩ : Addr).add (j * 13)))) w := by simp [go_sem, h]
 rw [e, Addr.add_mid, Nat.zero_add]
theorem len22t (ρ : Operand → Value) (x : Operand) (p : Option Addr) (m c : Nat) (hx : ρ x = .slice p m c) (dst : Option Tmp) (type : TypeId) (pos : String) (after : Array Edge) (guard : Option (Nat × Bool)) (w : World) : (execOp ρ { dst, op := .call { callee := .builtin .len, args := #[x], argTypes := #[22] }, type, pos, after, guard }).run Tryd.prog w = .ok (.value (.int .i64 (m : Int))) w := by
 simp [go_sem, hx]
theorem live_n (w : World) : Calls Tryd.prog 10 #[] w fun e w' => e = .returned (.bool true) ∧ Mw w w' := by
 refine w_enter 53 Tryd.func10 Tryd.ntmps10 rfl rfl ?_
 have M : Mw w w := Mw.refl _
 refine w_seq (w_reg ?_)
 refine wl_m (.const (.bool false)) (.bool false) ?_
 refine w_nil (xn_then (w_seq (w_reg ?_)))
 refine wl_callx 8 [(.const (.string ⟨#[97, 46, 98, 60, 61, 49, 46, 53, 48, 47, 47, 99]⟩))] _ [.string ⟨#[97, 46, 98, 60, 61, 49, 46, 53, 48, 47, 47, 99]⟩] rfl rfl (fun _ _ => by kernel_rfl) (scan_n sa La 0 0 _ sc_sa (by decide)) rfl ?_
 rintro _ w1 ⟨va, rfl, hoa, _, hq⟩
 refine ⟨_, rfl, ?_⟩
 replace hoa := hoa rfl
 obtain ⟨ga, ca, hva, _⟩ := hoa.form (by decide)
 subst hva
 have QA := own_at37 hoa
 replace M := M.trans hq
 clear hq
 refine wl_m (.tmp 8) (.tuple #[.slice (some ⟨ga, 0, none⟩) La.length ca, .int .i64 ((0 : Nat) : Int), .int .i64 (0)]) ?_
 refine wl_un (fun v => Instr.extract v 0) (.tmp 7) (.tuple #[.slice (some ⟨ga, 0, none⟩) La.length ca, .int .i64 ((0 : Nat) : Int), .int .i64 (0)]) (.slice (some ⟨ga, 0, none⟩) La.length ca) (fun _ => rfl) rfl (by kernel_rfl) rfl ?_
 refine wl_un (fun v => Instr.extract v 1) (.tmp 7) (.tuple #[.slice (some ⟨ga, 0, none⟩) La.length ca, .int .i64 ((0 : Nat) : Int), .int .i64 (0)]) (.int .i64 ((0 : Nat) : Int)) (fun _ => rfl) rfl (by kernel_rfl) rfl ?_
 refine wl_un (fun v => Instr.extract v 2) (.tmp 7) (.tuple #[.slice (some ⟨ga, 0, none⟩) La.length ca, .int .i64 ((0 : Nat) : Int), .int .i64 (0)]) (.int .i64 (0)) (fun _ => rfl) rfl (by kernel_rfl) rfl ?_
 refine wl_m (.tmp 9) (.slice (some ⟨ga, 0, none⟩) La.length ca) ?_
 refine wl_m (.tmp 10) (.int .i64 ((0 : Nat) : Int)) ?_
 refine wl_m (.tmp 11) (.int .i64 (0)) ?_
 refine w_nil (xn_then (w_seq (w_reg ?_)))
 refine wl_callx 8 [(.const (.string ⟨#[32, 35]⟩))] _ [.string ⟨#[32, 35]⟩] rfl rfl (fun _ _ => by kernel_rfl) (scan_n sb [] 1 70 _ sc_sb (by decide)) rfl ?_
 rintro _ w2 ⟨vb, rfl, _, hvb, hq⟩
 refine ⟨_, rfl, ?_⟩
 obtain rfl := hvb (by decide)
 replace QA := QA.mo hq
 replace M := M.trans hq
 clear hq
 refine wl_m (.tmp 13) (.tuple #[.slice none 0 0, .int .i64 ((1 : Nat) : Int), .int .i64 (70)]) ?_
 refine wl_un (fun v => Instr.extract v 0) (.tmp 12) (.tuple #[.slice none 0 0, .int .i64 ((1 : Nat) : Int), .int .i64 (70)]) (.slice none 0 0) (fun _ => rfl) rfl (by kernel_rfl) rfl ?_
 refine wl_un (fun v => Instr.extract v 1) (.tmp 12) (.tuple #[.slice none 0 0, .int .i64 ((1 : Nat) : Int), .int .i64 (70)]) (.int .i64 ((1 : Nat) : Int)) (fun _ => rfl) rfl (by kernel_rfl) rfl ?_
 refine wl_un (fun v => Instr.extract v 2) (.tmp 12) (.tuple #[.slice none 0 0, .int .i64 ((1 : Nat) : Int), .int .i64 (70)]) (.int .i64 (70)) (fun _ => rfl) rfl (by kernel_rfl) rfl ?_
 refine wl_m (.tmp 14) (.slice none 0 0) ?_
 refine wl_m (.tmp 15) (.int .i64 ((1 : Nat) : Int)) ?_
 refine wl_m (.tmp 16) (.int .i64 (70)) ?_
 refine w_nil (xn_then (w_seq (w_reg ?_)))
 refine wl_m (.tmp 3) (.int .i64 (0)) ?_
 refine wl_b .eql 23 (.tmp 17) (.const (.int .i64 (0))) (.int .i64 (0)) (.int .i64 (0)) (.bool true) (by kernel_rfl) ?_
 refine wl_m (.tmp 18) (.bool true) ?_
 refine wl_m (.tmp 2) (.int .i64 ((0 : Nat) : Int)) ?_
 refine wl_b .eql 3 (.tmp 20) (.const (.int .i64 (0))) (.int .i64 ((0 : Nat) : Int)) (.int .i64 (0)) (.bool true) (by kernel_rfl) ?_
 refine wl_pick (.tmp 19) (.tmp 21) (.const (.bool false)) true (.bool true) (fun _ => rfl) rfl rfl rfl ?_
 refine wl_m (.tmp 22) (.bool true) ?_
 refine wl_m (.tmp 1) (.slice (some ⟨ga, 0, none⟩) La.length ca) ?_
 refine wl_val (.int .i64 ((La.length : Nat) : Int)) (len22t _ _ _ _ _ (by exact rfl) _ _ _ _ _ _) rfl ?_
 refine wl_b .eql 3 (.tmp 25) (.const (.int .i64 (5))) (.int .i64 ((La.length : Nat) : Int)) (.int .i64 (5)) (.bool true) (by kernel_rfl) ?_
 refine wl_pick (.tmp 23) (.tmp 26) (.const (.bool false)) true (.bool true) (fun _ => rfl) rfl rfl rfl ?_
 refine wl_m (.tmp 27) (.bool true) ?_
 refine wl_m (.tmp 1) (.slice (some ⟨ga, 0, none⟩) La.length ca) ?_
 refine wl_bin (fun x y => Instr.indexAt 22 x y) (.tmp 29) (.const (.int .i64 (3))) (.slice (some ⟨ga, 0, none⟩) La.length ca) (.int .i64 (3)) (pt ga 39) (fun _ => rfl) rfl rfl (ix22t ga 3 La.length ca (by decide) _) rfl ?_
 refine wl_f 37 1 (.tmp 30) (pt ga 39) (pt ga 40) ?_
 refine wl_l 9 (.tmp 31) (pt ga 40) (.string (sa.extract 3 5)) (run_one QA 9 40 rfl Tryd.underlying9 rfl) ?_
 refine wl_b .eql 9 (.tmp 32) (.const (.string ⟨#[60, 61]⟩)) (.string (sa.extract 3 5)) (.string ⟨#[60, 61]⟩) (.bool true) (eq9 (by rw [ext_3]; exact beq_self_eq_true _) _ _ _) ?_
 refine wl_pick (.tmp 28) (.tmp 33) (.const (.bool false)) true (.bool true) (fun _ => rfl) rfl rfl rfl ?_
 refine wl_m (.tmp 34) (.bool true) ?_
 refine wl_m (.tmp 1) (.slice (some ⟨ga, 0, none⟩) La.length ca) ?_
 refine wl_bin (fun x y => Instr.indexAt 22 x y) (.tmp 36) (.const (.int .i64 (4))) (.slice (some ⟨ga, 0, none⟩) La.length ca) (.int .i64 (4)) (pt ga 52) (fun _ => rfl) rfl rfl (ix22t ga 4 La.length ca (by decide) _) rfl ?_
 refine wl_f 37 2 (.tmp 37) (pt ga 52) (pt ga 54) ?_
 refine wl_f 35 1 (.tmp 38) (pt ga 54) (pt ga 55) ?_
 refine wl_l 33 (.tmp 39) (pt ga 55) (.agg #[.bool false, .int .u64 (l0 (150)), .int .u64 (l1 (150)), .int .u64 (l2 (150)), .int .u64 (l3 (150)), .int .i64 (((2 : Nat) : Int))]) (run_row QA 33 55 6 _ rfl Tryd.underlying33 rfl sz33) ?_
 refine wl_build 31 [(0, (.const (.int .u64 (150))))] [(0, .int .u64 (150))] (.agg #[.int .u64 (150), .int .u64 0, .int .u64 0, .int .u64 0]) rfl rfl (by kernel_rfl) rfl ?_
 refine wl_build 33 [(1, (.tmp 41)), (2, (.const (.int .i64 (2))))] [(1, .agg #[.int .u64 (150), .int .u64 0, .int .u64 0, .int .u64 0]), (2, .int .i64 (2))] (.agg #[.bool false, .int .u64 (150), .int .u64 0, .int .u64 0, .int .u64 0, .int .i64 (2)]) rfl rfl (by kernel_rfl) rfl ?_
 refine wl_b .eql 33 (.tmp 40) (.tmp 42) (.agg #[.bool false, .int .u64 (l0 (150)), .int .u64 (l1 (150)), .int .u64 (l2 (150)), .int .u64 (l3 (150)), .int .i64 (((2 : Nat) : Int))]) (.agg #[.bool false, .int .u64 (150), .int .u64 0, .int .u64 0, .int .u64 0, .int .i64 (2)]) (.bool true) (by kernel_rfl) ?_
 refine wl_pick (.tmp 35) (.tmp 43) (.const (.bool false)) true (.bool true) (fun _ => rfl) rfl rfl rfl ?_
 refine wl_m (.tmp 44) (.bool true) ?_
 refine wl_m (.tmp 6) (.int .i64 (70)) ?_
 refine wl_b .eql 23 (.tmp 46) (.const (.int .i64 (70))) (.int .i64 (70)) (.int .i64 (70)) (.bool true) (by kernel_rfl) ?_
 refine wl_pick (.tmp 45) (.tmp 47) (.const (.bool false)) true (.bool true) (fun _ => rfl) rfl rfl rfl ?_
 refine wl_m (.tmp 48) (.bool true) ?_
 refine wl_m (.tmp 5) (.int .i64 ((1 : Nat) : Int)) ?_
 refine wl_b .eql 3 (.tmp 50) (.const (.int .i64 (1))) (.int .i64 ((1 : Nat) : Int)) (.int .i64 (1)) (.bool true) (by kernel_rfl) ?_
 refine wl_pick (.tmp 49) (.tmp 51) (.const (.bool false)) true (.bool true) (fun _ => rfl) rfl rfl rfl ?_
 refine wl_m (.tmp 52) (.bool true) ?_
 refine w_nil (xn_then (w_ret ?_))
 exact w_ret1 _ _ rfl rfl ⟨rfl, M⟩
end Go.Proofs.YthgknegocfhdbaaDoor.V
/-
 exciselaw07.LexPlaces, whatever the text.
-/
namespace Go.Proofs.YthgknegocfhdbaaDoor.V
open Go.RowKit
theorem qf_mw {X : Prop} {pa : Option Addr} {w w' : World} {xs : List Value} (h : X → ∃ g : Nat, pa = some ⟨g, 0, none⟩ ∧ At w g xs) (m : Mw w w') : X → ∃ g : Nat, pa = some ⟨g, 0, none⟩ ∧ At w' g xs := fun x => by
 obtain ⟨g, hp, hA⟩ := h x; exact ⟨g, hp, hA.mo m⟩
theorem sc_len {s : ByteArray} {k : Nat} {L : List (List Value)} {p : Nat} {E : Int} (h : Sc s k L p E) : ∀ x ∈ L, x.length = 13 := by
 induction h with
 | done => intro x hx; cases hx
 | err => intro x hx; cases hx
 | tok _ _ _ _ _ _ ih =>
  intro x hx
  rcases List.mem_cons.1 hx with rfl | hx
  ·rfl
  ·exact ih x hx
theorem flat_len : ∀ {D : List (List Value)}, (∀ x ∈ D, x.length = 13) → D.flatten.length = D.length * 13
 | [], _ => rfl
 | c :: D, h => by
  rw [List.flatten_cons, List.length_append, flat_len (fun x hx => h x (List.mem_cons_of_mem _ hx)), h c (List.mem_cons_self ..), List.length_cons]
  omega
theorem flat_at {D R : List (List Value)} {c : List Value} (h : ∀ x ∈ D, x.length = 13) (hc : c.length = 13) : c = ((D ++ c :: R).flatten.drop (D.length * 13)).take 13 := by
 rw [List.flatten_append, ← flat_len h, List.drop_left, List.flatten_cons, ← hc, List.take_left]
theorem own_sl37 {w : World} {N n : Nat} {v : Value} {xs : List Value} (h : w.ownsRow N 37 13 v n xs) : ∃ p cap, v = .slice p n cap ∧ (xs ≠ [] → ∃ g, p = some ⟨g, 0, none⟩ ∧ At w g xs) := by
 have h0 := h
 have hl := h.1
 rcases h.2 with ⟨rfl, rfl⟩ | ⟨g, cap, cur, rfl, _⟩
 ·exact ⟨none, 0, rfl, fun e => absurd (List.length_eq_zero_iff.1 (by omega)) e⟩
 ·exact ⟨some ⟨g, 0, none⟩, cap, rfl, fun _ => ⟨g, rfl, own_at37 h0⟩⟩
theorem scan_long (s : ByteArray) (w : World) (hlong : decide (16384 < s.size) = true) : Calls Tryd.prog 8 #[.string s] w fun e' w' => e' = .returned (.tuple #[.slice none 0 0, .int .i64 (0), .int .i64 (3)]) ∧ Mw w w' := by
 refine w_enter 40 Tryd.func8 Tryd.ntmps8 rfl rfl ?_
 have M : Mw w w := Mw.refl _
 refine w_seq (w_reg ?_)
 refine wl_m (.const (.slice none 0 0)) (.slice none 0 0) ?_
 refine wl_m (.const (.int .i64 (0))) (.int .i64 (0)) ?_
 refine wl_m (.const (.int .i64 (0))) (.int .i64 (0)) ?_
 refine w_nil (xn_then (w_seq (w_seq (w_reg ?_))))
 refine wl_m (.tmp 0) (.string s) ?_
 refine wl_val (.int .i64 ((s.size : Nat) : Int)) (len_s _ _ s (by exact rfl) _ _ _ _ _ _) rfl ?_
 refine wl_b .gtr 3 (.tmp 10) (.const (.int .i64 (16384))) (.int .i64 ((s.size : Nat) : Int)) (.int .i64 (16384)) (.bool true) (gtN hlong _ _ _) ?_
 refine w_nil (xn_then (w_condT rfl (w_seq (w_reg ?_))))
 refine wl_m (.const (.slice none 0 0)) (.slice none 0 0) ?_
 refine wl_m (.const (.int .i64 (0))) (.int .i64 (0)) ?_
 refine wl_m (.const (.int .i64 (3))) (.int .i64 (3)) ?_
 refine w_nil (xn_then (w_ret (xr_then ?_)))
 exact w_ret3 _ _ _ (.slice none 0 0) (.int .i64 (0)) (.int .i64 (3)) rfl rfl rfl rfl ⟨rfl, M⟩
theorem ne3z {a : Int} (x y : Operand) (w : World) : (do eqGuard .neq 3 x y (.int .i64 a) (.int .i64 a); binOp .neq 3 (.int .i64 a) (.int .i64 a)).run Tryd.prog w = .ok (.bool false) w := by
 have e : (do eqGuard .neq 3 x y (.int .i64 a) (.int .i64 a); binOp .neq 3 (.int .i64 a) (.int .i64 a)).run Tryd.prog w = .ok (.bool (!(a == a))) w := by kernel_rfl
 rw [e, beq_self_eq_true]; rfl
end Go.Proofs.YthgknegocfhdbaaDoor.V
/-
 The document's Scan and Same; exciselaw07.LexScans and LexNext.
-/
namespace Go.Proofs.YthgknegocfhdbaaDoor.V
open Go.RowKit
theorem rscan_n (s : ByteArray) (L : List (List Value)) (p : Nat) (E : Int) (w : World) (hS0 : Sd s (blk s 0) L p E) (hlong : decide (16384 < s.size) = false) : Calls Tryd.prog 9 #[.string s] w fun e' w' => ∃ v, e' = .returned (.tuple #[v, .int .i64 ((p : Nat) : Int), .int .i64 E]) ∧ (E = 0 → w'.ownsRow w.heap.size 37 13 v L.length L.flatten) ∧ (E ≠ 0 → v = .slice none 0 0) ∧ Mw w w' := by
 have hlp := of_decide_eq_false hlong
 refine w_enter 40 Tryd.func9 Tryd.ntmps9 rfl rfl ?_
 have M : Mw w w := Mw.refl _
 refine w_seq (w_reg ?_)
 refine wl_m (.const (.slice none 0 0)) (.slice none 0 0) ?_
 refine wl_m (.const (.int .i64 (0))) (.int .i64 (0)) ?_
 refine wl_m (.const (.int .i64 (0))) (.int .i64 (0)) ?_
 refine w_nil (xn_then (w_seq (w_seq (w_reg ?_))))
 refine wl_m (.tmp 0) (.string s) ?_
 refine wl_val (.int .i64 ((s.size : Nat) : Int)) (len_s _ _ s (by exact rfl) _ _ _ _ _ _) rfl ?_
 refine wl_b .gtr 3 (.tmp 10) (.const (.int .i64 (16384))) (.int .i64 ((s.size : Nat) : Int)) (.int .i64 (16384)) (.bool false) (gtN hlong _ _ _) ?_
 refine w_nil (xn_then (w_condF rfl (w_skip (xn_then (w_seq (w_reg ?_))))))
 refine wl_m (.const (.slice none 0 0)) (.slice none 0 0) ?_
 refine w_nil (xn_then (w_seq (w_reg ?_)))
 refine wl_m (.tmp 0) (.string s) ?_
 refine wl_call 15 [(.tmp 12), (.const (.int .i64 (0)))] _ [.string s, .int .i64 (0)] (.int .i64 ((blk s 0 : Nat) : Int)) rfl rfl (fun _ _ => by kernel_rfl) (wk (rblank_n s 0 _ (by unfold maxLen; omega) (by omega))) rfl ?_
 intro w1 hq
 replace M := M.trans hq
 clear hq
 refine wl_m (.tmp 13) (.int .i64 ((blk s 0 : Nat) : Int)) ?_
 refine w_nil (xn_then (w_seq (w_block ?_)))
 refine w_loop (fun m l w1 => ∃ (k : Nat) (D R : List (List Value)) (v : Value), m = s.size + 1 - k ∧ look l 0 = .string s ∧ look l 5 = v ∧ look l 6 = .int .i64 ((k : Nat) : Int) ∧ k ≤ s.size ∧ D.length ≤ k ∧ w1.ownsRow w.heap.size 37 13 v D.length D.flatten ∧ Sd s k R p E ∧ (E = 0 → L = D ++ R) ∧ Mw w w1) _ ⟨blk s 0, [], L, .slice none 0 0, rfl, rfl, rfl, rfl, (blk_rg s _ 0 (Nat.le_refl _) (by omega)).2, Nat.zero_le _, ⟨rfl, .inl ⟨rfl, rfl⟩⟩, hS0, fun _ => rfl, M⟩ ?_
 clear M
 rintro m l wl ⟨k, D, R, v, rfl, e0, e5, e6, hk, hDk, hown, hSc, hLD, M⟩
 cases hSc with
 | done h =>
  have hkd := decide_eq_false h
  refine w_seq (w_seq (w_reg ?_))
  refine wl_mv (.tmp 6) (.int .i64 ((k : Nat) : Int)) (fun _ => rfl) e6 rfl ?_
  refine wl_mv (.tmp 0) (.string s) (fun _ => rfl) e0 rfl ?_
  refine wl_val (.int .i64 ((s.size : Nat) : Int)) (len_s _ _ s (by exact rfl) _ _ _ _ _ _) rfl ?_
  refine wl_b .lss 3 (.tmp 14) (.tmp 16) (.int .i64 ((k : Nat) : Int)) (.int .i64 ((s.size : Nat) : Int)) (.bool false) (ltN hkd _ _ _) ?_
  refine w_nil (xn_then (w_condF rfl (w_exit (xx_then (xx_then (xx_blk (xn_then (w_seq (w_reg ?_)))))))))
  refine wl_mv (.tmp 5) (v) (fun _ => rfl) e5 rfl ?_
  refine wl_m (.tmp 39) (v) ?_
  refine wl_m (.const (.int .i64 (0))) (.int .i64 (0)) ?_
  refine wl_m (.const (.int .i64 (0))) (.int .i64 (0)) ?_
  refine w_nil (xn_then (w_ret ?_))
  exact w_ret3 _ _ _ (v) (.int .i64 (0)) (.int .i64 (0)) rfl rfl rfl rfl ⟨v, rfl, fun _ => by rw [hLD rfl, List.append_nil]; exact hown, fun h => absurd rfl h, M⟩
 | err h hn =>
  have hkd := decide_eq_true h
  refine w_seq (w_seq (w_reg ?_))
  refine wl_mv (.tmp 6) (.int .i64 ((p : Nat) : Int)) (fun _ => rfl) e6 rfl ?_
  refine wl_mv (.tmp 0) (.string s) (fun _ => rfl) e0 rfl ?_
  refine wl_val (.int .i64 ((s.size : Nat) : Int)) (len_s _ _ s (by exact rfl) _ _ _ _ _ _) rfl ?_
  refine wl_b .lss 3 (.tmp 14) (.tmp 16) (.int .i64 ((p : Nat) : Int)) (.int .i64 ((s.size : Nat) : Int)) (.bool true) (ltN hkd _ _ _) ?_
  refine w_nil (xn_then (w_condT rfl (w_skip (xn_then (w_block (w_seq (w_reg ?_)))))))
  refine wl_mv (.tmp 0) (.string s) (fun _ => rfl) e0 rfl ?_
  refine wl_mv (.tmp 6) (.int .i64 ((p : Nat) : Int)) (fun _ => rfl) e6 rfl ?_
  refine wl_call 13 [(.tmp 19), (.tmp 20)] _ [.string s, .int .i64 ((p : Nat) : Int)] (.tuple #[.agg #[.int .i64 0, .string ⟨#[]⟩, .int .i64 0, .bool false, .int .u64 0, .int .u64 0, .int .u64 0, .int .u64 0, .int .i64 0, .bool false, .string ⟨#[]⟩, .int .i64 0, .int .i64 0], .int .i64 (70)]) rfl rfl (fun _ _ => by kernel_rfl) (hn.n2 _) rfl ?_
  intro w11 hq
  replace hown := own_mo hown hq
  replace M := M.trans hq
  clear hq
  refine wl_m (.tmp 21) (.tuple #[.agg #[.int .i64 0, .string ⟨#[]⟩, .int .i64 0, .bool false, .int .u64 0, .int .u64 0, .int .u64 0, .int .u64 0, .int .i64 0, .bool false, .string ⟨#[]⟩, .int .i64 0, .int .i64 0], .int .i64 (70)]) ?_
  refine wl_un (fun v => Instr.extract v 0) (.tmp 18) (.tuple #[.agg #[.int .i64 0, .string ⟨#[]⟩, .int .i64 0, .bool false, .int .u64 0, .int .u64 0, .int .u64 0, .int .u64 0, .int .i64 0, .bool false, .string ⟨#[]⟩, .int .i64 0, .int .i64 0], .int .i64 (70)]) (.agg #[.int .i64 0, .string ⟨#[]⟩, .int .i64 0, .bool false, .int .u64 0, .int .u64 0, .int .u64 0, .int .u64 0, .int .i64 0, .bool false, .string ⟨#[]⟩, .int .i64 0, .int .i64 0]) (fun _ => rfl) rfl (by kernel_rfl) rfl ?_
  refine wl_un (fun v => Instr.extract v 1) (.tmp 18) (.tuple #[.agg #[.int .i64 0, .string ⟨#[]⟩, .int .i64 0, .bool false, .int .u64 0, .int .u64 0, .int .u64 0, .int .u64 0, .int .i64 0, .bool false, .string ⟨#[]⟩, .int .i64 0, .int .i64 0], .int .i64 (70)]) (.int .i64 (70)) (fun _ => rfl) rfl (by kernel_rfl) rfl ?_
  refine wl_alloc 37 #[.int .i64 0, .string ⟨#[]⟩, .int .i64 0, .bool false, .int .u64 0, .int .u64 0, .int .u64 0, .int .u64 0, .int .i64 0, .bool false, .string ⟨#[]⟩, .int .i64 0, .int .i64 0] rfl (fun _ => by kernel_rfl) rfl ?_
  intro k1 w12 hk hz hq Q1
  have on_k1 : v.ownBlock ≠ some k1 := fun e => by have := (hown.lt _ e).2; omega
  have N_k1 : w.heap.size ≤ k1 := by have := M.size; omega
  replace hown := own_mo hown hq
  replace M := M.trans hq
  clear hk hz hq
  refine wl_stx 37 (.tmp 7) (.tmp 22) k1 0 #[.int .i64 0, .string ⟨#[]⟩, .int .i64 0, .bool false, .int .u64 0, .int .u64 0, .int .u64 0, .int .u64 0, .int .i64 0, .bool false, .string ⟨#[]⟩, .int .i64 0, .int .i64 0] _ [.int .i64 0, .string ⟨#[]⟩, .int .i64 0, .bool false, .int .u64 0, .int .u64 0, .int .u64 0, .int .u64 0, .int .i64 0, .bool false, .string ⟨#[]⟩, .int .i64 0, .int .i64 0] Q1 rfl rfl rfl rfl rfl sz37 rfl rfl rfl ?_
  intro w13 hS Qn
  replace Q1 := Qn
  clear Qn
  replace hown := own_st hS hown on_k1
  replace M := hS.mo _ N_k1 M
  clear hS
  refine wl_m (.tmp 23) (.int .i64 (70)) ?_
  refine w_nil (xn_then (w_seq (w_seq (w_reg ?_))))
  refine wl_m (.tmp 8) (.int .i64 (70)) ?_
  refine wl_b .neq 23 (.tmp 24) (.const (.int .i64 (0))) (.int .i64 (70)) (.int .i64 (0)) (.bool true) (by kernel_rfl) ?_
  refine w_nil (xn_then (w_condT rfl (w_seq (w_reg ?_))))
  refine wl_mv (.tmp 6) (.int .i64 ((p : Nat) : Int)) (fun _ => rfl) e6 rfl ?_
  refine wl_m (.tmp 8) (.int .i64 (70)) ?_
  refine wl_m (.const (.slice none 0 0)) (.slice none 0 0) ?_
  refine wl_m (.tmp 26) (.int .i64 ((p : Nat) : Int)) ?_
  refine wl_m (.tmp 27) (.int .i64 (70)) ?_
  refine w_nil (xn_then (w_ret (xr_then (xr_blk (xr_then (xr_blk (xr_then ?_)))))))
  exact w_ret3 _ _ _ (.slice none 0 0) (.int .i64 ((p : Nat) : Int)) (.int .i64 (70)) rfl rfl rfl rfl ⟨_, rfl, (fun h => by cases h), fun _ => rfl, M⟩
 | @tok _ e K v0 v1 v2 v3 v4 v5 v6 v7 v8 v9 R9 _ _ h hn hr =>
  have hke := hn.lt
  have hes := hn.le
  have hoc := hn.oc
  have hkd := decide_eq_true h
  have hsz : (s.extract k e).size = e - k := by rw [ByteArray.size_extract, Nat.min_eq_left hes]
  refine w_seq (w_seq (w_reg ?_))
  refine wl_mv (.tmp 6) (.int .i64 ((k : Nat) : Int)) (fun _ => rfl) e6 rfl ?_
  refine wl_mv (.tmp 0) (.string s) (fun _ => rfl) e0 rfl ?_
  refine wl_val (.int .i64 ((s.size : Nat) : Int)) (len_s _ _ s (by exact rfl) _ _ _ _ _ _) rfl ?_
  refine wl_b .lss 3 (.tmp 14) (.tmp 16) (.int .i64 ((k : Nat) : Int)) (.int .i64 ((s.size : Nat) : Int)) (.bool true) (ltN hkd _ _ _) ?_
  refine w_nil (xn_then (w_condT rfl (w_skip (xn_then (w_block (w_seq (w_reg ?_)))))))
  refine wl_mv (.tmp 0) (.string s) (fun _ => rfl) e0 rfl ?_
  refine wl_mv (.tmp 6) (.int .i64 ((k : Nat) : Int)) (fun _ => rfl) e6 rfl ?_
  refine wl_call 13 [(.tmp 19), (.tmp 20)] _ [.string s, .int .i64 ((k : Nat) : Int)] (.tuple #[.agg #[.int .i64 ((K : Nat) : Int), .string (s.extract k e), v0, v1, v2, v3, v4, v5, v6, v7, v8, v9, .int .i64 ((k : Nat) : Int)], .int .i64 (0)]) rfl rfl (fun _ _ => by kernel_rfl) (hn.n2 _) rfl ?_
  intro w11 hq
  replace hown := own_mo hown hq
  replace M := M.trans hq
  clear hq
  refine wl_m (.tmp 21) (.tuple #[.agg #[.int .i64 ((K : Nat) : Int), .string (s.extract k e), v0, v1, v2, v3, v4, v5, v6, v7, v8, v9, .int .i64 ((k : Nat) : Int)], .int .i64 (0)]) ?_
  refine wl_un (fun v => Instr.extract v 0) (.tmp 18) (.tuple #[.agg #[.int .i64 ((K : Nat) : Int), .string (s.extract k e), v0, v1, v2, v3, v4, v5, v6, v7, v8, v9, .int .i64 ((k : Nat) : Int)], .int .i64 (0)]) (.agg #[.int .i64 ((K : Nat) : Int), .string (s.extract k e), v0, v1, v2, v3, v4, v5, v6, v7, v8, v9, .int .i64 ((k : Nat) : Int)]) (fun _ => rfl) rfl (by kernel_rfl) rfl ?_
  refine wl_un (fun v => Instr.extract v 1) (.tmp 18) (.tuple #[.agg #[.int .i64 ((K : Nat) : Int), .string (s.extract k e), v0, v1, v2, v3, v4, v5, v6, v7, v8, v9, .int .i64 ((k : Nat) : Int)], .int .i64 (0)]) (.int .i64 (0)) (fun _ => rfl) rfl (by kernel_rfl) rfl ?_
  refine wl_alloc 37 #[.int .i64 0, .string ⟨#[]⟩, .int .i64 0, .bool false, .int .u64 0, .int .u64 0, .int .u64 0, .int .u64 0, .int .i64 0, .bool false, .string ⟨#[]⟩, .int .i64 0, .int .i64 0] rfl (fun _ => by kernel_rfl) rfl ?_
  intro k1 w12 hk hz hq Q1
  have on_k1 : v.ownBlock ≠ some k1 := fun e => by have := (hown.lt _ e).2; omega
  have N_k1 : w.heap.size ≤ k1 := by have := M.size; omega
  replace hown := own_mo hown hq
  replace M := M.trans hq
  clear hk hz hq
  refine wl_stx 37 (.tmp 7) (.tmp 22) k1 0 #[.int .i64 ((K : Nat) : Int), .string (s.extract k e), v0, v1, v2, v3, v4, v5, v6, v7, v8, v9, .int .i64 ((k : Nat) : Int)] _ [.int .i64 ((K : Nat) : Int), .string (s.extract k e), v0, v1, v2, v3, v4, v5, v6, v7, v8, v9, .int .i64 ((k : Nat) : Int)] Q1 rfl rfl rfl rfl rfl sz37 hoc rfl rfl ?_
  intro w13 hS Qn
  replace Q1 := Qn
  clear Qn
  replace hown := own_st hS hown on_k1
  replace M := hS.mo _ N_k1 M
  clear hS
  refine wl_m (.tmp 23) (.int .i64 (0)) ?_
  refine w_nil (xn_then (w_seq (w_seq (w_reg ?_))))
  refine wl_m (.tmp 8) (.int .i64 (0)) ?_
  refine wl_b .neq 23 (.tmp 24) (.const (.int .i64 (0))) (.int .i64 (0)) (.int .i64 (0)) (.bool false) (by kernel_rfl) ?_
  refine w_nil (xn_then (w_condF rfl (w_skip (xn_then (w_seq (w_reg ?_))))))
  refine wl_mv (.tmp 5) (v) (fun _ => rfl) e5 rfl ?_
  refine wl_l 37 (.tmp 7) (pt k1 0) (.agg #[.int .i64 ((K : Nat) : Int), .string (s.extract k e), v0, v1, v2, v3, v4, v5, v6, v7, v8, v9, .int .i64 ((k : Nat) : Int)]) (run_row Q1 37 0 13 _ rfl Tryd.underlying37 rfl sz37) ?_
  refine wl_bs22 (.tmp 29) (.int .i64 ((K : Nat) : Int)) (.string (s.extract k e)) (v0) (v1) (v2) (v3) (v4) (v5) (v6) (v7) (v8) (v9) (.int .i64 ((k : Nat) : Int)) rfl rfl rfl ?_
  intro kn w14 hkn hzn hq QN
  replace hown := own_mo hown hq
  replace Q1 := Q1.mo hq
  replace M := M.trans hq
  clear hq
  refine wl_app37 (.tmp 28) (.tmp 30) w.heap.size v D.length D.flatten kn 1 1 [.int .i64 ((K : Nat) : Int), .string (s.extract k e), v0, v1, v2, v3, v4, v5, v6, v7, v8, v9, .int .i64 ((k : Nat) : Int)] rfl rfl rfl hown rfl QN (fun u hu => by have := List.all_eq_true.1 hoc u hu; exact this) (by decide) (by omega) (by have := M.size; omega) rfl ?_
  intro va9 w15 hO9 hA9 hb9
  replace Q1 : At w15 k1 [.int .i64 ((K : Nat) : Int), .string (s.extract k e), v0, v1, v2, v3, v4, v5, v6, v7, v8, v9, .int .i64 ((k : Nat) : Int)] := AppW.at hA9 Q1 on_k1
  replace M := AppW.mw hA9 M (fun j e => (hown.lt j e).1)
  replace hown := hO9
  refine wl_m (.tmp 31) (va9) ?_
  refine w_nil (xn_then (w_reg ?_))
  refine wl_mv (.tmp 0) (.string s) (fun _ => rfl) e0 rfl ?_
  refine wl_mv (.tmp 6) (.int .i64 ((k : Nat) : Int)) (fun _ => rfl) e6 rfl ?_
  refine wl_f 37 1 (.tmp 7) (pt k1 0) (pt k1 1) ?_
  refine wl_l 9 (.tmp 34) (pt k1 1) (.string (s.extract k e)) (run_one Q1 9 1 rfl Tryd.underlying9 rfl) ?_
  refine wl_val (.int .i64 ((e - k : Nat) : Int)) (len_e hsz _ _ (by exact rfl) _ _ _ _ _ _) rfl ?_
  refine wl_b .add 3 (.tmp 33) (.tmp 36) (.int .i64 ((k : Nat) : Int)) (.int .i64 ((e - k : Nat) : Int)) (.int .i64 ((e : Nat) : Int)) (addk (by omega) (by omega) _ _ _) ?_
  refine wl_call 15 [(.tmp 32), (.tmp 37)] _ [.string s, .int .i64 ((e : Nat) : Int)] (.int .i64 ((blk s e : Nat) : Int)) rfl rfl (fun _ _ => by kernel_rfl) (wk (rblank_n s e _ (by unfold maxLen; omega) (by omega))) rfl ?_
  intro w16 hq
  replace hown := own_mo hown hq
  replace Q1 := Q1.mo hq
  replace M := M.trans hq
  clear hq
  refine wl_m (.tmp 38) (.int .i64 ((blk s e : Nat) : Int)) ?_
  refine w_nil (xn_blk ?_)
  exact xn_loop (s.size + 1 - blk s e) (by have := blk_rg s _ e (Nat.le_refl _) hes; omega) ⟨blk s e, D ++ [_], R9, va9, rfl, e0, rfl, rfl, (blk_rg s _ e (Nat.le_refl _) hes).2, by have := blk_rg s _ e (Nat.le_refl _) hes; rw [List.length_append]; simp only [List.length_singleton]; omega, by rw [List.length_append, List.flatten_append]; simpa using hown, hr, fun hE => by rw [hLD hE, List.append_assoc]; rfl, M⟩
theorem rscan_long (s : ByteArray) (w : World) (hlong : decide (16384 < s.size) = true) : Calls Tryd.prog 9 #[.string s] w fun e' w' => e' = .returned (.tuple #[.slice none 0 0, .int .i64 (0), .int .i64 (3)]) ∧ Mw w w' := by
 refine w_enter 40 Tryd.func9 Tryd.ntmps9 rfl rfl ?_
 have M : Mw w w := Mw.refl _
 refine w_seq (w_reg ?_)
 refine wl_m (.const (.slice none 0 0)) (.slice none 0 0) ?_
 refine wl_m (.const (.int .i64 (0))) (.int .i64 (0)) ?_
 refine wl_m (.const (.int .i64 (0))) (.int .i64 (0)) ?_
 refine w_nil (xn_then (w_seq (w_seq (w_reg ?_))))
 refine wl_m (.tmp 0) (.string s) ?_
 refine wl_val (.int .i64 ((s.size : Nat) : Int)) (len_s _ _ s (by exact rfl) _ _ _ _ _ _) rfl ?_
 refine wl_b .gtr 3 (.tmp 10) (.const (.int .i64 (16384))) (.int .i64 ((s.size : Nat) : Int)) (.int .i64 (16384)) (.bool true) (gtN hlong _ _ _) ?_
 refine w_nil (xn_then (w_condT rfl (w_seq (w_reg ?_))))
 refine wl_m (.const (.slice none 0 0)) (.slice none 0 0) ?_
 refine wl_m (.const (.int .i64 (0))) (.int .i64 (0)) ?_
 refine wl_m (.const (.int .i64 (3))) (.int .i64 (3)) ?_
 refine w_nil (xn_then (w_ret (xr_then ?_)))
 exact w_ret3 _ _ _ (.slice none 0 0) (.int .i64 (0)) (.int .i64 (3)) rfl rfl rfl rfl ⟨rfl, M⟩
theorem sd_len {s : ByteArray} {k : Nat} {L : List (List Value)} {p : Nat} {E : Int} (h : Sd s k L p E) : ∀ x ∈ L, x.length = 13 := sc_len h.sc
theorem sd_sz {s : ByteArray} {k : Nat} {L : List (List Value)} {p : Nat} {E : Int} (h : Sd s k L p E) : L.length ≤ s.size - k := by
 induction h with
 | done => exact Nat.zero_le _
 | err => exact Nat.zero_le _
 | tok h hn hr ih =>
  have h1 := hn.lt
  have h2 := hn.le
  have := blk_rg s _ _ (Nat.le_refl _) h2
  rw [List.length_cons]; omega
theorem same_n (s : ByteArray) (k0 : Nat) (L : List (List Value)) (p : Nat) (pa pb : Option Addr) (ca cb : Nat) (w : World) (hS0 : Sd s k0 L p 0) (hz : s.size ≤ 16384) (hQA : L.flatten ≠ [] → ∃ g, pa = some ⟨g, 0, none⟩ ∧ At w g L.flatten) (hQB : L.flatten ≠ [] → ∃ g, pb = some ⟨g, 0, none⟩ ∧ At w g L.flatten) : Calls Tryd.prog 11 #[.slice pa L.length ca, .slice pb L.length cb] w fun e' w' => e' = .returned (.bool true) ∧ Mw w w' := by
 have hls := sd_sz hS0
 refine w_enter 26 Tryd.func11 Tryd.ntmps11 rfl rfl ?_
 have M : Mw w w := Mw.refl _
 refine w_seq (w_reg ?_)
 refine wl_m (.const (.bool false)) (.bool false) ?_
 refine w_nil (xn_then (w_seq (w_seq (w_reg ?_))))
 refine wl_m (.tmp 0) (.slice pa L.length ca) ?_
 refine wl_val (.int .i64 ((L.length : Nat) : Int)) (len22t _ _ _ _ _ (by exact rfl) _ _ _ _ _ _) rfl ?_
 refine wl_m (.tmp 1) (.slice pb L.length cb) ?_
 refine wl_val (.int .i64 ((L.length : Nat) : Int)) (len22t _ _ _ _ _ (by exact rfl) _ _ _ _ _ _) rfl ?_
 refine wl_b .neq 3 (.tmp 7) (.tmp 9) (.int .i64 ((L.length : Nat) : Int)) (.int .i64 ((L.length : Nat) : Int)) (.bool false) (ne3z _ _ _) ?_
 refine w_nil (xn_then (w_condF rfl (w_skip (xn_then (w_seq (w_seq (w_reg ?_)))))))
 refine wl_m (.const (.int .i64 (0))) (.int .i64 (0)) ?_
 refine w_nil (xn_then (w_block ?_))
 refine w_loop (fun m l w1 => ∃ (k : Nat) (D R : List (List Value)), m = R.length ∧ look l 0 = .slice pa L.length ca ∧ look l 1 = .slice pb L.length cb ∧ look l 5 = .int .i64 ((D.length : Nat) : Int) ∧ L = D ++ R ∧ Sd s k R p 0 ∧ Mw w w1) _ ⟨k0, [], L, rfl, rfl, rfl, rfl, rfl, hS0, M⟩ ?_
 clear M
 rintro m l wl ⟨k, D, R, rfl, e0, e1, e5, hLD, hSc, M⟩
 have h13 := sd_len hS0
 have hll := congrArg List.length hLD
 rw [List.length_append] at hll
 cases hSc with
 | done h =>
  have hjd : decide (D.length < L.length) = false := decide_eq_false (by rw [hLD, List.append_nil]; omega)
  refine w_seq (w_seq (w_reg ?_))
  refine wl_mv (.tmp 5) (.int .i64 ((D.length : Nat) : Int)) (fun _ => rfl) e5 rfl ?_
  refine wl_mv (.tmp 0) (.slice pa L.length ca) (fun _ => rfl) e0 rfl ?_
  refine wl_val (.int .i64 ((L.length : Nat) : Int)) (len22t _ _ _ _ _ (by exact rfl) _ _ _ _ _ _) rfl ?_
  refine wl_b .lss 3 (.tmp 11) (.tmp 13) (.int .i64 ((D.length : Nat) : Int)) (.int .i64 ((L.length : Nat) : Int)) (.bool false) (ltN hjd _ _ _) ?_
  refine w_nil (xn_then (w_condF rfl (w_exit (xx_then (xx_then (xx_blk (xn_then (w_seq (w_reg ?_)))))))))
  refine wl_m (.const (.bool true)) (.bool true) ?_
  refine w_nil (xn_then (w_ret ?_))
  exact w_ret1 _ _ rfl rfl ⟨rfl, M⟩
 | @tok _ e Kd v0 v1 v2 v3 v4 v5 v6 v7 v8 v9 R9 _ _ h hn hr =>
  have hjd : decide (D.length < L.length) = true := decide_eq_true (by rw [hLD, List.length_append, List.length_cons]; omega)
  have hD13 : ∀ x ∈ D, x.length = 13 := fun x hx => h13 x (by rw [hLD]; exact List.mem_append_left _ hx)
  have hne : L.flatten ≠ [] := fun h0 => by rw [hLD, List.flatten_append, List.flatten_cons] at h0; simp at h0
  obtain ⟨ga, hpa, QA⟩ := hQA hne
  obtain ⟨gb, hpb, QB⟩ := hQB hne
  replace QA := QA.mo M
  replace QB := QB.mo M
  refine w_seq (w_seq (w_reg ?_))
  refine wl_mv (.tmp 5) (.int .i64 ((D.length : Nat) : Int)) (fun _ => rfl) e5 rfl ?_
  refine wl_mv (.tmp 0) (.slice pa L.length ca) (fun _ => rfl) e0 rfl ?_
  refine wl_val (.int .i64 ((L.length : Nat) : Int)) (len22t _ _ _ _ _ (by exact rfl) _ _ _ _ _ _) rfl ?_
  refine wl_b .lss 3 (.tmp 11) (.tmp 13) (.int .i64 ((D.length : Nat) : Int)) (.int .i64 ((L.length : Nat) : Int)) (.bool true) (ltN hjd _ _ _) ?_
  refine w_nil (xn_then (w_condT rfl (w_skip (xn_then (w_seq (w_block (w_seq ?_)))))))
  refine w_any 8 [.inl (.slice pa L.length ca), .inl (.int .i64 ((D.length : Nat) : Int)), .inl (pt ga (D.length * 13)), .inl (.agg #[.int .i64 ((Kd : Nat) : Int), .string (s.extract k e), v0, v1, v2, v3, v4, v5, v6, v7, v8, v9, .int .i64 ((k : Nat) : Int)]), .inl (.slice pb L.length cb), .inl (.int .i64 ((D.length : Nat) : Int)), .inl (pt gb (D.length * 13)), .inl (.agg #[.int .i64 ((Kd : Nat) : Int), .string (s.extract k e), v0, v1, v2, v3, v4, v5, v6, v7, v8, v9, .int .i64 ((k : Nat) : Int)])] [] (by kernel_rfl) (by kernel_rfl) (by kernel_rfl) (by kernel_rfl) rfl (by kernel_rfl) (by kernel_rfl) late_nil ?_ ?_ ?_
  ·exact Ds.none rfl
  ·refine ea_cons ?_ (ea_cons ?_ (ea_cons ?_ (ea_cons ?_ (ea_cons ?_ (ea_cons ?_ (ea_cons ?_ (ea_cons ?_ (ea_nil))))))))
   ·exact og_eq _ rfl (fun f wf hq hd K hK => go_run rfl (wo_mv (.tmp 0) (.slice pa L.length ca) (fun _ => rfl) e0 (hK _ (Mw.refl _))))
   ·exact og_eq _ rfl (fun f wf hq hd K hK => go_run rfl (wo_mv (.tmp 5) (.int .i64 ((D.length : Nat) : Int)) (fun _ => rfl) e5 (hK _ (Mw.refl _))))
   ·exact og_eq _ rfl (fun f wf hq hd K hK => go_run rfl (wo_bin (fun x y => Instr.indexAt 22 x y) (.tmp 17) (.tmp 18) (.slice pa L.length ca) (.int .i64 ((D.length : Nat) : Int)) (pt ga (D.length * 13)) (fun _ => rfl) (hd 0 rfl) (hd 1 rfl) (by rw [hpa]; exact ix22t ga D.length _ _ (of_decide_eq_true hjd) _) (hK _ (Mw.refl _))))
   ·exact og_eq _ rfl (fun f wf hq hd K hK => have QA := QA.mo hq; go_run rfl (wo_load 37 (.tmp 19) (pt ga (D.length * 13)) (.agg #[.int .i64 ((Kd : Nat) : Int), .string (s.extract k e), v0, v1, v2, v3, v4, v5, v6, v7, v8, v9, .int .i64 ((k : Nat) : Int)]) rfl (hd 2 rfl) (run_row QA 37 (D.length * 13) 13 _ (by rw [hLD]; exact flat_at hD13 rfl) Tryd.underlying37 rfl sz37) (hK _ (Mw.refl _))))
   ·exact og_eq _ rfl (fun f wf hq hd K hK => go_run rfl (wo_mv (.tmp 1) (.slice pb L.length cb) (fun _ => rfl) e1 (hK _ (Mw.refl _))))
   ·exact og_eq _ rfl (fun f wf hq hd K hK => go_run rfl (wo_mv (.tmp 5) (.int .i64 ((D.length : Nat) : Int)) (fun _ => rfl) e5 (hK _ (Mw.refl _))))
   ·exact og_eq _ rfl (fun f wf hq hd K hK => go_run rfl (wo_bin (fun x y => Instr.indexAt 22 x y) (.tmp 21) (.tmp 22) (.slice pb L.length cb) (.int .i64 ((D.length : Nat) : Int)) (pt gb (D.length * 13)) (fun _ => rfl) (hd 4 rfl) (hd 5 rfl) (by rw [hpb]; exact ix22t gb D.length _ _ (of_decide_eq_true hjd) _) (hK _ (Mw.refl _))))
   ·exact og_eq _ rfl (fun f wf hq hd K hK => have QB := QB.mo hq; go_run rfl (wo_load 37 (.tmp 23) (pt gb (D.length * 13)) (.agg #[.int .i64 ((Kd : Nat) : Int), .string (s.extract k e), v0, v1, v2, v3, v4, v5, v6, v7, v8, v9, .int .i64 ((k : Nat) : Int)]) rfl (hd 6 rfl) (run_row QB 37 (D.length * 13) 13 _ (by rw [hLD]; exact flat_at hD13 rfl) Tryd.underlying37 rfl sz37) (hK _ (Mw.refl _))))
  intro kf11 w11 hq hR hne
  replace QA := QA.mo hq
  replace QB := QB.mo hq
  replace M := M.trans hq
  clear hq hR hne
  refine wl_b .neq 37 (.tmp 20) (.tmp 24) (.agg #[.int .i64 ((Kd : Nat) : Int), .string (s.extract k e), v0, v1, v2, v3, v4, v5, v6, v7, v8, v9, .int .i64 ((k : Nat) : Int)]) (.agg #[.int .i64 ((Kd : Nat) : Int), .string (s.extract k e), v0, v1, v2, v3, v4, v5, v6, v7, v8, v9, .int .i64 ((k : Nat) : Int)]) (.bool false) (hn.se.ne _ _ _) ?_
  refine w_nil (xn_then (w_condF rfl (w_skip (xn_blk (xn_then (w_reg ?_))))))
  refine wl_mv (.tmp 5) (.int .i64 ((D.length : Nat) : Int)) (fun _ => rfl) e5 rfl ?_
  refine wl_b .add 3 (.tmp 15) (.const (.int .i64 (1))) (.int .i64 ((D.length : Nat) : Int)) (.int .i64 (1)) (.int .i64 ((D.length + 1 : Nat) : Int)) (addk (a := D.length) (b := 1) rfl (by omega) _ _ _) ?_
  refine wl_m (.tmp 16) (.int .i64 ((D.length + 1 : Nat) : Int)) ?_
  refine w_nil ?_
  exact xn_loop R9.length (by simp) ⟨blk s e, D ++ [[.int .i64 ((Kd : Nat) : Int), .string (s.extract k e), v0, v1, v2, v3, v4, v5, v6, v7, v8, v9, .int .i64 ((k : Nat) : Int)]], R9, rfl, e0, e1, by rw [List.length_append]; rfl, by rw [hLD, List.append_assoc]; rfl, hr, M⟩
theorem eq3z {a : Int} (x y : Operand) (w : World) : (do eqGuard .eql 3 x y (.int .i64 a) (.int .i64 a); binOp .eql 3 (.int .i64 a) (.int .i64 a)).run Tryd.prog w = .ok (.bool true) w := by
 have e : (do eqGuard .eql 3 x y (.int .i64 a) (.int .i64 a); binOp .eql 3 (.int .i64 a) (.int .i64 a)).run Tryd.prog w = .ok (.bool (a == a)) w := by kernel_rfl
 rw [e, beq_self_eq_true]
theorem eq23z {a : Int} (x y : Operand) (w : World) : (do eqGuard .eql 23 x y (.int .i64 a) (.int .i64 a); binOp .eql 23 (.int .i64 a) (.int .i64 a)).run Tryd.prog w = .ok (.bool true) w := eq23 (beq_self_eq_true a) _ _ _
theorem scans_k (s : ByteArray) (L : List (List Value)) (p : Nat) (w : World) (hS0 : Sd s (blk s 0) L p 0) (hlong : decide (16384 < s.size) = false) : Calls Tryd.prog 3 #[.string s] w fun e' w' => e' = .returned (.bool true) ∧ Mw w w' := by
 have hlp := of_decide_eq_false hlong
 refine w_enter 37 Tryd.func3 Tryd.ntmps3 rfl rfl ?_
 have M : Mw w w := Mw.refl _
 refine w_seq (w_reg ?_)
 refine wl_m (.const (.bool false)) (.bool false) ?_
 refine w_nil (xn_then (w_seq (w_reg ?_)))
 refine wl_m (.tmp 0) (.string s) ?_
 refine wl_callx 8 [(.tmp 10)] _ [.string s] rfl rfl (fun _ _ => by kernel_rfl) (scan_n s L p 0 _ hS0.sc hlong) rfl ?_
 rintro _ w1 ⟨va, rfl, hoa, _, hq⟩
 refine ⟨_, rfl, ?_⟩
 obtain ⟨pa, ca, hva, hQa⟩ := own_sl37 (hoa rfl)
 subst hva
 clear hoa
 replace M := M.trans hq
 clear hq
 refine wl_m (.tmp 11) (.tuple #[.slice pa L.length ca, .int .i64 ((p : Nat) : Int), .int .i64 (0)]) ?_
 refine wl_un (fun v => Instr.extract v 0) (.tmp 9) (.tuple #[.slice pa L.length ca, .int .i64 ((p : Nat) : Int), .int .i64 (0)]) (.slice pa L.length ca) (fun _ => rfl) rfl (by kernel_rfl) rfl ?_
 refine wl_un (fun v => Instr.extract v 1) (.tmp 9) (.tuple #[.slice pa L.length ca, .int .i64 ((p : Nat) : Int), .int .i64 (0)]) (.int .i64 ((p : Nat) : Int)) (fun _ => rfl) rfl (by kernel_rfl) rfl ?_
 refine wl_un (fun v => Instr.extract v 2) (.tmp 9) (.tuple #[.slice pa L.length ca, .int .i64 ((p : Nat) : Int), .int .i64 (0)]) (.int .i64 (0)) (fun _ => rfl) rfl (by kernel_rfl) rfl ?_
 refine wl_m (.tmp 12) (.slice pa L.length ca) ?_
 refine wl_m (.tmp 13) (.int .i64 ((p : Nat) : Int)) ?_
 refine wl_m (.tmp 14) (.int .i64 (0)) ?_
 refine w_nil (xn_then (w_seq (w_reg ?_)))
 refine wl_m (.tmp 0) (.string s) ?_
 refine wl_callx 9 [(.tmp 16)] _ [.string s] rfl rfl (fun _ _ => by kernel_rfl) (rscan_n s L p 0 _ hS0 hlong) rfl ?_
 rintro _ w2 ⟨vb, rfl, hob, _, hq⟩
 refine ⟨_, rfl, ?_⟩
 obtain ⟨pb, cb, hvb, hQb⟩ := own_sl37 (hob rfl)
 subst hvb
 clear hob
 replace hQa := qf_mw hQa hq
 replace M := M.trans hq
 clear hq
 refine wl_m (.tmp 17) (.tuple #[.slice pb L.length cb, .int .i64 ((p : Nat) : Int), .int .i64 (0)]) ?_
 refine wl_un (fun v => Instr.extract v 0) (.tmp 15) (.tuple #[.slice pb L.length cb, .int .i64 ((p : Nat) : Int), .int .i64 (0)]) (.slice pb L.length cb) (fun _ => rfl) rfl (by kernel_rfl) rfl ?_
 refine wl_un (fun v => Instr.extract v 1) (.tmp 15) (.tuple #[.slice pb L.length cb, .int .i64 ((p : Nat) : Int), .int .i64 (0)]) (.int .i64 ((p : Nat) : Int)) (fun _ => rfl) rfl (by kernel_rfl) rfl ?_
 refine wl_un (fun v => Instr.extract v 2) (.tmp 15) (.tuple #[.slice pb L.length cb, .int .i64 ((p : Nat) : Int), .int .i64 (0)]) (.int .i64 (0)) (fun _ => rfl) rfl (by kernel_rfl) rfl ?_
 refine wl_m (.tmp 18) (.slice pb L.length cb) ?_
 refine wl_m (.tmp 19) (.int .i64 ((p : Nat) : Int)) ?_
 refine wl_m (.tmp 20) (.int .i64 (0)) ?_
 refine w_nil (xn_then (w_seq (w_reg ?_)))
 refine wl_call 10 [] _ [] (.bool true) rfl rfl (fun _ _ => by kernel_rfl) (live_n _) rfl ?_
 intro w3 hq
 replace hQa := qf_mw hQa hq
 replace hQb := qf_mw hQb hq
 replace M := M.trans hq
 clear hq
 refine wl_m (.tmp 21) (.bool true) ?_
 refine wl_m (.tmp 4) (.int .i64 ((p : Nat) : Int)) ?_
 refine wl_m (.tmp 7) (.int .i64 ((p : Nat) : Int)) ?_
 refine wl_b .eql 3 (.tmp 23) (.tmp 24) (.int .i64 ((p : Nat) : Int)) (.int .i64 ((p : Nat) : Int)) (.bool true) (eq3z _ _ _) ?_
 refine wl_pick (.tmp 22) (.tmp 25) (.const (.bool false)) true (.bool true) (fun _ => rfl) rfl rfl rfl ?_
 refine wl_m (.tmp 26) (.bool true) ?_
 refine wl_m (.tmp 5) (.int .i64 (0)) ?_
 refine wl_m (.tmp 8) (.int .i64 (0)) ?_
 refine wl_b .eql 23 (.tmp 28) (.tmp 29) (.int .i64 (0)) (.int .i64 (0)) (.bool true) (eq23z _ _ _) ?_
 refine wl_pick (.tmp 27) (.tmp 30) (.const (.bool false)) true (.bool true) (fun _ => rfl) rfl rfl rfl ?_
 refine wl_m (.tmp 31) (.bool true) ?_
 refine wl_m (.tmp 3) (.slice pa L.length ca) ?_
 refine wl_m (.tmp 6) (.slice pb L.length cb) ?_
 refine wl_call 11 [(.tmp 33), (.tmp 34)] _ [.slice pa L.length ca, .slice pb L.length cb] (.bool true) rfl rfl (fun _ _ => by kernel_rfl) (same_n s (blk s 0) L p pa pb ca cb _ hS0 (by omega) hQa hQb) rfl ?_
 intro w4 hq
 replace hQa := qf_mw hQa hq
 replace hQb := qf_mw hQb hq
 replace M := M.trans hq
 clear hq
 refine wl_pick (.tmp 32) (.tmp 35) (.const (.bool false)) true (.bool true) (fun _ => rfl) rfl rfl rfl ?_
 refine wl_m (.tmp 36) (.bool true) ?_
 refine w_nil (xn_then (w_ret ?_))
 exact w_ret1 _ _ rfl rfl ⟨rfl, M⟩
theorem scans_x (s : ByteArray) (p E : Int) (w : World) (h8 : ∀ w, Calls Tryd.prog 8 #[.string s] w fun e' w' => e' = .returned (.tuple #[.slice none 0 0, .int .i64 p, .int .i64 E]) ∧ Mw w w') (h9 : ∀ w, Calls Tryd.prog 9 #[.string s] w fun e' w' => e' = .returned (.tuple #[.slice none 0 0, .int .i64 p, .int .i64 E]) ∧ Mw w w') : Calls Tryd.prog 3 #[.string s] w fun e' w' => e' = .returned (.bool true) ∧ Mw w w' := by
 refine w_enter 37 Tryd.func3 Tryd.ntmps3 rfl rfl ?_
 have M : Mw w w := Mw.refl _
 refine w_seq (w_reg ?_)
 refine wl_m (.const (.bool false)) (.bool false) ?_
 refine w_nil (xn_then (w_seq (w_reg ?_)))
 refine wl_m (.tmp 0) (.string s) ?_
 refine wl_call 8 [(.tmp 10)] _ [.string s] (.tuple #[.slice none 0 0, .int .i64 (p), .int .i64 (E)]) rfl rfl (fun _ _ => by kernel_rfl) (h8 _) rfl ?_
 intro w1 hq
 replace M := M.trans hq
 clear hq
 refine wl_m (.tmp 11) (.tuple #[.slice none 0 0, .int .i64 (p), .int .i64 (E)]) ?_
 refine wl_un (fun v => Instr.extract v 0) (.tmp 9) (.tuple #[.slice none 0 0, .int .i64 (p), .int .i64 (E)]) (.slice none 0 0) (fun _ => rfl) rfl (by kernel_rfl) rfl ?_
 refine wl_un (fun v => Instr.extract v 1) (.tmp 9) (.tuple #[.slice none 0 0, .int .i64 (p), .int .i64 (E)]) (.int .i64 (p)) (fun _ => rfl) rfl (by kernel_rfl) rfl ?_
 refine wl_un (fun v => Instr.extract v 2) (.tmp 9) (.tuple #[.slice none 0 0, .int .i64 (p), .int .i64 (E)]) (.int .i64 (E)) (fun _ => rfl) rfl (by kernel_rfl) rfl ?_
 refine wl_m (.tmp 12) (.slice none 0 0) ?_
 refine wl_m (.tmp 13) (.int .i64 (p)) ?_
 refine wl_m (.tmp 14) (.int .i64 (E)) ?_
 refine w_nil (xn_then (w_seq (w_reg ?_)))
 refine wl_m (.tmp 0) (.string s) ?_
 refine wl_call 9 [(.tmp 16)] _ [.string s] (.tuple #[.slice none 0 0, .int .i64 (p), .int .i64 (E)]) rfl rfl (fun _ _ => by kernel_rfl) (h9 _) rfl ?_
 intro w2 hq
 replace M := M.trans hq
 clear hq
 refine wl_m (.tmp 17) (.tuple #[.slice none 0 0, .int .i64 (p), .int .i64 (E)]) ?_
 refine wl_un (fun v => Instr.extract v 0) (.tmp 15) (.tuple #[.slice none 0 0, .int .i64 (p), .int .i64 (E)]) (.slice none 0 0) (fun _ => rfl) rfl (by kernel_rfl) rfl ?_
 refine wl_un (fun v => Instr.extract v 1) (.tmp 15) (.tuple #[.slice none 0 0, .int .i64 (p), .int .i64 (E)]) (.int .i64 (p)) (fun _ => rfl) rfl (by kernel_rfl) rfl ?_
 refine wl_un (fun v => Instr.extract v 2) (.tmp 15) (.tuple #[.slice none 0 0, .int .i64 (p), .int .i64 (E)]) (.int .i64 (E)) (fun _ => rfl) rfl (by kernel_rfl) rfl ?_
 refine wl_m (.tmp 18) (.slice none 0 0) ?_
 refine wl_m (.tmp 19) (.int .i64 (p)) ?_
 refine wl_m (.tmp 20) (.int .i64 (E)) ?_
 refine w_nil (xn_then (w_seq (w_reg ?_)))
 refine wl_call 10 [] _ [] (.bool true) rfl rfl (fun _ _ => by kernel_rfl) (live_n _) rfl ?_
 intro w3 hq
 replace M := M.trans hq
 clear hq
 refine wl_m (.tmp 21) (.bool true) ?_
 refine wl_m (.tmp 4) (.int .i64 (p)) ?_
 refine wl_m (.tmp 7) (.int .i64 (p)) ?_
 refine wl_b .eql 3 (.tmp 23) (.tmp 24) (.int .i64 (p)) (.int .i64 (p)) (.bool true) (eq3z _ _ _) ?_
 refine wl_pick (.tmp 22) (.tmp 25) (.const (.bool false)) true (.bool true) (fun _ => rfl) rfl rfl rfl ?_
 refine wl_m (.tmp 26) (.bool true) ?_
 refine wl_m (.tmp 5) (.int .i64 (E)) ?_
 refine wl_m (.tmp 8) (.int .i64 (E)) ?_
 refine wl_b .eql 23 (.tmp 28) (.tmp 29) (.int .i64 (E)) (.int .i64 (E)) (.bool true) (eq23z _ _ _) ?_
 refine wl_pick (.tmp 27) (.tmp 30) (.const (.bool false)) true (.bool true) (fun _ => rfl) rfl rfl rfl ?_
 refine wl_m (.tmp 31) (.bool true) ?_
 refine wl_m (.tmp 3) (.slice none 0 0) ?_
 refine wl_m (.tmp 6) (.slice none 0 0) ?_
 refine wl_call 11 [(.tmp 33), (.tmp 34)] _ [.slice none 0 0, .slice none 0 0] (.bool true) rfl rfl (fun _ _ => by kernel_rfl) (same_n ⟨#[]⟩ 0 [] 0 none none 0 0 _ (Sd.done (by decide)) (by decide) (fun h => absurd rfl h) (fun h => absurd rfl h)) rfl ?_
 intro w4 hq
 replace M := M.trans hq
 clear hq
 refine wl_pick (.tmp 32) (.tmp 35) (.const (.bool false)) true (.bool true) (fun _ => rfl) rfl rfl rfl ?_
 refine wl_m (.tmp 36) (.bool true) ?_
 refine w_nil (xn_then (w_ret ?_))
 exact w_ret1 _ _ rfl rfl ⟨rfl, M⟩
theorem scans_n (s : ByteArray) (w : World) : Calls Tryd.prog 3 #[.string s] w fun e' w' => e' = .returned (.bool true) ∧ Mw w w' := by
 cases hl : decide (16384 < s.size) with
 | true => exact scans_x s 0 3 w (fun w => scan_long s w hl) (fun w => rscan_long s w hl)
 | false =>
  have hlp := of_decide_eq_false hl
  obtain ⟨L, p, E, hS, hE⟩ := sd_ex s (by omega) _ (blk s 0) (Nat.le_refl _) (blk_rg s _ 0 (Nat.le_refl _) (by omega)).2
  rcases hE with rfl | rfl
  ·exact scans_k s L p w hS hl
  ·refine scans_x s p 70 w (fun w => (scan_n s L p 70 w hS.sc hl).mono fun e' w' ⟨v, h1, _, h3, h4⟩ => ⟨?_, h4⟩) (fun w => (rscan_n s L p 70 w hS hl).mono fun e' w' ⟨v, h1, _, h3, h4⟩ => ⟨?_, h4⟩)
   ·rw [h1, h3 (by decide)]
   ·rw [h1, h3 (by decide)]
end Go.Proofs.YthgknegocfhdbaaDoor.V
/-
 A world in which the library's two tables lie; the end of a row over a law that leaves what was there as it was.
-/
namespace Go.Proofs.YthgknegocfhdbaaDoor
open Go.ChangeShapes Go.WideShapes Go.ChangeAt Go.RowKit Go.ChangeMaps
theorem Tryd.own : ownKnob Tryd.prog.godebug = none := by kernel_rfl
def firstCells : Array Value := #[.int .u8 240, .int .u8 240, .int .u8 240, .int .u8 240, .int .u8 240, .int .u8 240, .int .u8 240, .int .u8 240, .int .u8 240, .int .u8 240, .int .u8 240, .int .u8 240, .int .u8 240, .int .u8 240, .int .u8 240, .int .u8 240, .int .u8 240, .int .u8 240, .int .u8 240, .int .u8 240, .int .u8 240, .int .u8 240, .int .u8 240, .int .u8 240, .int .u8 240, .int .u8 240, .int .u8 240, .int .u8 240, .int .u8 240, .int .u8 240, .int .u8 240, .int .u8 240, .int .u8 240, .int .u8 240, .int .u8 240, .int .u8 240, .int .u8 240, .int .u8 240, .int .u8 240, .int .u8 240, .int .u8 240, .int .u8 240, .int .u8 240, .int .u8 240, .int .u8 240, .int .u8 240, .int .u8 240, .int .u8 240, .int .u8 240, .int .u8 240, .int .u8 240, .int .u8 240, .int .u8 240, .int .u8 240, .int .u8 240, .int .u8 240, .int .u8 240, .int .u8 240, .int .u8 240, .int .u8 240, .int .u8 240, .int .u8 240, .int .u8 240, .int .u8 240, .int .u8 240, .int .u8 240, .int .u8 240, .int .u8 240, .int .u8 240, .int .u8 240, .int .u8 240, .int .u8 240, .int .u8 240, .int .u8 240, .int .u8 240, .int .u8 240, .int .u8 240, .int .u8 240, .int .u8 240, .int .u8 240, .int .u8 240, .int .u8 240, .int .u8 240, .int .u8 240, .int .u8 240, .int .u8 240, .int .u8 240, .int .u8 240, .int .u8 240, .int .u8 240, .int .u8 240, .int .u8 240, .int .u8 240, .int .u8 240, .int .u8 240, .int .u8 240, .int .u8 240, .int .u8 240, .int .u8 240, .int .u8 240, .int .u8 240, .int .u8 240, .int .u8 240, .int .u8 240, .int .u8 240, .int .u8 240, .int .u8 240, .int .u8 240, .int .u8 240, .int .u8 240, .int .u8 240, .int .u8 240, .int .u8 240, .int .u8 240, .int .u8 240, .int .u8 240, .int .u8 240, .int .u8 240, .int .u8 240, .int .u8 240, .int .u8 240, .int .u8 240, .int .u8 240, .int .u8 240, .int .u8 240, .int .u8 240, .int .u8 240, .int .u8 240, .int .u8 241, .int .u8 241, .int .u8 241, .int .u8 241, .int .u8 241, .int .u8 241, .int .u8 241, .int .u8 241, .int .u8 241, .int .u8 241, .int .u8 241, .int .u8 241, .int .u8 241, .int .u8 241, .int .u8 241, .int .u8 241, .int .u8 241, .int .u8 241, .int .u8 241, .int .u8 241, .int .u8 241, .int .u8 241, .int .u8 241, .int .u8 241, .int .u8 241, .int .u8 241, .int .u8 241, .int .u8 241, .int .u8 241, .int .u8 241, .int .u8 241, .int .u8 241, .int .u8 241, .int .u8 241, .int .u8 241, .int .u8 241, .int .u8 241, .int .u8 241, .int .u8 241, .int .u8 241, .int .u8 241, .int .u8 241, .int .u8 241, .int .u8 241, .int .u8 241, .int .u8 241, .int .u8 241, .int .u8 241, .int .u8 241, .int .u8 241, .int .u8 241, .int .u8 241, .int .u8 241, .int .u8 241, .int .u8 241, .int .u8 241, .int .u8 241, .int .u8 241, .int .u8 241, .int .u8 241, .int .u8 241, .int .u8 241, .int .u8 241, .int .u8 241, .int .u8 241, .int .u8 241, .int .u8 2, .int .u8 2, .int .u8 2, .int .u8 2, .int .u8 2, .int .u8 2, .int .u8 2, .int .u8 2, .int .u8 2, .int .u8 2, .int .u8 2, .int .u8 2, .int .u8 2, .int .u8 2, .int .u8 2, .int .u8 2, .int .u8 2, .int .u8 2, .int .u8 2, .int .u8 2, .int .u8 2, .int .u8 2, .int .u8 2, .int .u8 2, .int .u8 2, .int .u8 2, .int .u8 2, .int .u8 2, .int .u8 2, .int .u8 2, .int .u8 19, .int .u8 3, .int .u8 3, .int .u8 3, .int .u8 3, .int .u8 3, .int .u8 3, .int .u8 3, .int .u8 3, .int .u8 3, .int .u8 3, .int .u8 3, .int .u8 3, .int .u8 35, .int .u8 3, .int .u8 3, .int .u8 52, .int .u8 4, .int .u8 4, .int .u8 4, .int .u8 68, .int .u8 241, .int .u8 241, .int .u8 241, .int .u8 241, .int .u8 241, .int .u8 241, .int .u8 241, .int .u8 241, .int .u8 241, .int .u8 241, .int .u8 241]
def acceptCells : Array Value := #[.int .u8 128, .int .u8 191, .int .u8 160, .int .u8 191, .int .u8 128, .int .u8 159, .int .u8 144, .int .u8 191, .int .u8 128, .int .u8 143, .int .u8 0, .int .u8 0, .int .u8 0, .int .u8 0, .int .u8 0, .int .u8 0, .int .u8 0, .int .u8 0, .int .u8 0, .int .u8 0, .int .u8 0, .int .u8 0, .int .u8 0, .int .u8 0, .int .u8 0, .int .u8 0, .int .u8 0, .int .u8 0, .int .u8 0, .int .u8 0, .int .u8 0, .int .u8 0]
def layW (w0 : World) : World :=
 { w0 with heap := (w0.heap.modify 1 fun
   | .cells _ t frozen => .cells firstCells t frozen
   | o => o).modify 2 fun
   | .cells _ t frozen => .cells acceptCells t frozen
   | o => o }
set_option maxRecDepth 100000 in
theorem laidWorld_met (os : Os) (args : Array Value) : laidMetH Tryd.prog Rows.lexPlacesRow.laid ((layW (World.holding Tryd.prog os ⟨#[], #[], []⟩)).forCall (fun _ _ => 0) ⟨#[], args, []⟩).memory := by
 show laidMet Tryd.prog [("unicode/utf8.acceptRanges", Rows.laid_unicode_utf8_acceptRanges), ("unicode/utf8.first", Rows.laid_unicode_utf8_first)] _
 exact (LaidIn.of_run [1, 2] 8 (by kernel_rfl) (by kernel_rfl) (by kernel_rfl) (by kernel_rfl)).met
theorem post_mw {H : Type} {enc : TypeId × Value → H} {P : Program} {f : Func} {s : ChangeSpec} {apart fresh handsOn : Bool} {W W' : World} {args : Array Value} {v : Value} {ds gs : List (DataW H)}
  (hW : DataW.Whole enc P f.params.toList s.vars apart W args.toList ds gs [])
  (hres : ∀ (b : Nat) (sp : Nat → Bool) (hd : Bool), DataW.TrodAll enc P W' b sp hd f.resultTypes.toList (v.resultList f.resultTypes.size) (s.fn H (ds ++ gs)).results [])
  (hargs : ∀ sp : Nat → Bool, DataW.TrodAll enc P W' 0 sp true f.params.toList args.toList (s.fn H (ds ++ gs)).args [])
  (hvars : ∀ sp : Nat → Bool, DataW.TrodVars enc P W' sp s.vars (s.fn H (ds ++ gs)).vars []) (hk : V.Mw W W') :
  s.post enc P f apart fresh handsOn false W args v W' :=
 ⟨ds, gs, [], [], [], [], hW, hres _ _ _, hargs _, hvars _, Below.frame hk _, fun h => by cases h⟩
end Go.Proofs.YthgknegocfhdbaaDoor
