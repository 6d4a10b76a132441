/-
  == of numbers, of decimals, of values.
-/
import Derived.Test.YtepfokoepibkcaaGreatB1
import Derived.Laws.StructEq
namespace Go.Proofs.YtepfokoepibkcaaGreat
open Go.RowKit
theorem part0 (x0 x1 x2 x3 : Value) (w : World) : (part 43 #[x0, x1, x2, x3] 0).run Tryz.prog w = .ok x0 w := by kernel_rfl
theorem part1 (x0 x1 x2 x3 : Value) (w : World) : (part 43 #[x0, x1, x2, x3] 1).run Tryz.prog w = .ok x1 w := by kernel_rfl
theorem part2 (x0 x1 x2 x3 : Value) (w : World) : (part 43 #[x0, x1, x2, x3] 2).run Tryz.prog w = .ok x2 w := by kernel_rfl
theorem part3 (x0 x1 x2 x3 : Value) (w : World) : (part 43 #[x0, x1, x2, x3] 3).run Tryz.prog w = .ok x3 w := by kernel_rfl
theorem cells22 : Tryz.prog.cellsOf 43 = 1 := by kernel_rfl
theorem info43 : ∃ i, Tryz.prog.info? 43 = some i := Option.isSome_iff_exists.1 (by kernel_rfl)
def s4 (n0 n1 n2 n3 m0 m1 m2 m3 : Int) : Bool := n0 == m0 && (n1 == m1 && (n2 == m2 && n3 == m3))
theorem eq4d (d : Nat) (a b c e f g h i : Int) (w : World) : (Op.equalIn (d + 1 + 1) 45 (.agg #[.int .u64 a, .int .u64 b, .int .u64 c, .int .u64 e]) (.agg #[.int .u64 f, .int .u64 g, .int .u64 h, .int .u64 i])).run Tryz.prog w = .ok (a == f && (b == g && (c == h && e == i))) w := by
  obtain ⟨j, hj⟩ := info43
  rw [run_equalIn_array w (d + 1) _ _ Tryz.underlying45 hj, cells22]
  have q : ∀ (x y : Int), (Op.equalIn (d + 1) 43 (.int .u64 x) (.int .u64 y)).run Tryz.prog w = .ok (x == y) w := fun x y => run_equalIn_int w d 43 .u64 .u64 x y Tryz.underlying43
  rw [show List.range 4 = [0, 1, 2, 3] from rfl]
  cases ha : a == f <;> cases hb : b == g <;> cases hc : c == h <;> cases hd : e == i <;> simp [Op.eqItems, Sem.run_bind, part0, part1, part2, part3, Result.andThen_ok, q, ha, hb, hc, hd, Sem.run_pure]
theorem ht40 : Tryz.prog.underlying 47 = some (.struct (Tryz.prog.fieldsOf 47)) := by kernel_rfl
theorem hp40 : Tryz.prog.stoodInHeld 47 = false := by kernel_rfl
theorem fo40 : (Tryz.prog.fieldsOf 47).toList.map (fun f => (f.name, f.type, f.offset)) = [("Neg", 4, 0), ("N", 45, 1), ("Scale", 3, 5)] := by kernel_rfl
theorem pt40 (x0 x1 x2 x3 x4 x5 : Value) (w : World) : (part 4 #[x0, x1, x2, x3, x4, x5] 0).run Tryz.prog w = .ok x0 w := by kernel_rfl
theorem pt41 (x0 x1 x2 x3 x4 x5 : Value) (w : World) : (part 45 #[x0, x1, x2, x3, x4, x5] 1).run Tryz.prog w = .ok (.agg #[x1, x2, x3, x4]) w := by kernel_rfl
theorem pt45 (x0 x1 x2 x3 x4 x5 : Value) (w : World) : (part 3 #[x0, x1, x2, x3, x4, x5] 5).run Tryz.prog w = .ok x5 w := by kernel_rfl
theorem ht28 : Tryz.prog.underlying 49 = some (.struct (Tryz.prog.fieldsOf 49)) := by kernel_rfl
theorem hp28 : Tryz.prog.stoodInHeld 49 = false := by kernel_rfl
theorem fo28 : (Tryz.prog.fieldsOf 49).toList.map (fun f => (f.name, f.type, f.offset)) = [("Kind", 3, 0), ("Num", 47, 1), ("Flag", 4, 7), ("Text", 9, 8), ("Err", 3, 9)] := by kernel_rfl
theorem p28_0 (x0 x1 x2 x3 x4 x5 x6 x7 x8 x9 : Value) (w : World) : (part 3 #[x0, x1, x2, x3, x4, x5, x6, x7, x8, x9] 0).run Tryz.prog w = .ok x0 w := by kernel_rfl
theorem p28_1 (x0 x1 x2 x3 x4 x5 x6 x7 x8 x9 : Value) (w : World) : (part 47 #[x0, x1, x2, x3, x4, x5, x6, x7, x8, x9] 1).run Tryz.prog w = .ok (.agg #[x1, x2, x3, x4, x5, x6]) w := by kernel_rfl
theorem p28_7 (x0 x1 x2 x3 x4 x5 x6 x7 x8 x9 : Value) (w : World) : (part 4 #[x0, x1, x2, x3, x4, x5, x6, x7, x8, x9] 7).run Tryz.prog w = .ok x7 w := by kernel_rfl
theorem p28_8 (x0 x1 x2 x3 x4 x5 x6 x7 x8 x9 : Value) (w : World) : (part 9 #[x0, x1, x2, x3, x4, x5, x6, x7, x8, x9] 8).run Tryz.prog w = .ok x8 w := by kernel_rfl
theorem p28_9 (x0 x1 x2 x3 x4 x5 x6 x7 x8 x9 : Value) (w : World) : (part 3 #[x0, x1, x2, x3, x4, x5, x6, x7, x8, x9] 9).run Tryz.prog w = .ok x9 w := by kernel_rfl
theorem gt28 : Tryz.prog.eqGuardType Tryz.prog.depth 49 = false := by kernel_rfl
theorem guard_run {op : BinOp} {ty : TypeId} {a b : Array Value} {w : World} (x y : Operand) (hg : Tryz.prog.eqGuardType Tryz.prog.depth ty = false) : (eqGuard op ty x y (.agg a) (.agg b)).run Tryz.prog w = .ok () w := by
  unfold eqGuard
  cases op <;> simp [hg]
theorem eqa_run {ty : TypeId} {a b : Array Value} {r : Bool} {w : World} (hg : Tryz.prog.eqGuardType Tryz.prog.depth ty = false) (q : (Op.equalIn 10000 ty (.agg a) (.agg b)).run Tryz.prog w = .ok r w) (x y : Operand) :
    (do eqGuard .eql ty x y (.agg a) (.agg b); binOp .eql ty (.agg a) (.agg b)).run Tryz.prog w = .ok (.bool r) w := by
  have e : binOp .eql ty (.agg a) (.agg b) = (do pure (.bool (← Op.equalIn 10000 ty (.agg a) (.agg b)))) := rfl
  rw [Sem.run_bind, guard_run x y hg, e, Result.andThen_ok, Sem.run_bind, q]; rfl
theorem nea_run {ty : TypeId} {a b : Array Value} {r : Bool} {w : World} (hg : Tryz.prog.eqGuardType Tryz.prog.depth ty = false) (q : (Op.equalIn 10000 ty (.agg a) (.agg b)).run Tryz.prog w = .ok r w) (x y : Operand) :
    (do eqGuard .neq ty x y (.agg a) (.agg b); binOp .neq ty (.agg a) (.agg b)).run Tryz.prog w = .ok (.bool (!r)) w := by
  have e : binOp .neq ty (.agg a) (.agg b) = (do pure (.bool (!(← Op.equalIn 10000 ty (.agg a) (.agg b))))) := rfl
  rw [Sem.run_bind, guard_run x y hg, e, Result.andThen_ok, Sem.run_bind, q]; rfl
theorem gt24 : Tryz.prog.eqGuardType Tryz.prog.depth 45 = false := by kernel_rfl
/-- The same value: kind, number, flag, text, error. -/
def sv (k : Int) (b : Bool) (n0 n1 n2 n3 s : Int) (f : Bool) (t : ByteArray) (e : Int) (k' : Int) (b' : Bool) (m0 m1 m2 m3 s' : Int) (f' : Bool) (t' : ByteArray) (e' : Int) : Bool :=
  k == k' && ((b == b' && (s4 n0 n1 n2 n3 m0 m1 m2 m3 && s == s')) && (f == f' && (t == t' && e == e')))
theorem eqn_run {n0 n1 n2 n3 m0 m1 m2 m3 : Int} {r : Bool} (h : s4 n0 n1 n2 n3 m0 m1 m2 m3 = r) (x y : Operand) (w : World) :
    (do eqGuard .eql 45 x y (.agg #[.int .u64 n0, .int .u64 n1, .int .u64 n2, .int .u64 n3]) (.agg #[.int .u64 m0, .int .u64 m1, .int .u64 m2, .int .u64 m3]); binOp .eql 45 (.agg #[.int .u64 n0, .int .u64 n1, .int .u64 n2, .int .u64 n3]) (.agg #[.int .u64 m0, .int .u64 m1, .int .u64 m2, .int .u64 m3])).run Tryz.prog w = .ok (.bool r) w :=
  eqa_run gt24 (by rw [← h]; exact eq4d 9998 n0 n1 n2 n3 m0 m1 m2 m3 w) x y
theorem eq26 (d : Nat) (b c : Bool) (n0 n1 n2 n3 m0 m1 m2 m3 s t : Int) (w : World) : (Op.equalIn (d + 1 + 1 + 1) 47 (.agg #[.bool b, .int .u64 n0, .int .u64 n1, .int .u64 n2, .int .u64 n3, .int .i64 s]) (.agg #[.bool c, .int .u64 m0, .int .u64 m1, .int .u64 m2, .int .u64 m3, .int .i64 t])).run Tryz.prog w = .ok (b == c && (s4 n0 n1 n2 n3 m0 m1 m2 m3 && s == t)) w := by
  rw [run_equalIn_struct w (d + 1 + 1) 47 _ _ ht40 hp40]
  have h := fo40
  generalize (Tryz.prog.fieldsOf 47).toList = L at h
  have hl : L.length = 3 := by have := congrArg List.length h; simpa using this
  match L, hl with
  | [f0, f1, f2], _ =>
    simp at h
    obtain ⟨⟨a0, a1, a2⟩, ⟨b0, b1, b2⟩, ⟨c0, c1, c2⟩⟩ := h
    have q1 : (Op.equalIn (d + 1 + 1) 4 (.bool b) (.bool c)).run Tryz.prog w = .ok (b == c) w := by kernel_rfl
    have q2 : _ = Result.ok (s4 n0 n1 n2 n3 m0 m1 m2 m3) w := eq4d d n0 n1 n2 n3 m0 m1 m2 m3 w
    have q3 : (Op.equalIn (d + 1 + 1) 3 (.int .i64 s) (.int .i64 t)).run Tryz.prog w = .ok (s == t) w := run_equalIn_int w (d + 1) 3 .i64 .i64 s t Tryz.underlying3
    generalize s4 n0 n1 n2 n3 m0 m1 m2 m3 = z at q2 ⊢
    simp only [Op.eqFields, a0, a1, a2, b0, b1, b2, c0, c1, c2]
    cases h1 : (b == c) <;> cases z <;> cases h3 : (s == t) <;> simp [Sem.run_bind, pt40, pt41, pt45, Result.andThen_ok, q1, q2, q3, h1, h3, Sem.run_pure]
theorem eq28 (k : Int) (b : Bool) (n0 n1 n2 n3 s : Int) (f : Bool) (t : ByteArray) (e : Int) (k' : Int) (b' : Bool) (m0 m1 m2 m3 s' : Int) (f' : Bool) (t' : ByteArray) (e' : Int) (w : World) : (Op.equalIn 10000 49 (.agg #[.int .i64 k, .bool b, .int .u64 n0, .int .u64 n1, .int .u64 n2, .int .u64 n3, .int .i64 s, .bool f, .string t, .int .i64 e]) (.agg #[.int .i64 k', .bool b', .int .u64 m0, .int .u64 m1, .int .u64 m2, .int .u64 m3, .int .i64 s', .bool f', .string t', .int .i64 e'])).run Tryz.prog w = .ok (sv k b n0 n1 n2 n3 s f t e k' b' m0 m1 m2 m3 s' f' t' e') w := by
  rw [show (10000 : Nat) = 9999 + 1 from rfl, run_equalIn_struct w 9999 49 _ _ ht28 hp28]
  have h := fo28
  generalize (Tryz.prog.fieldsOf 49).toList = L at h
  have hl : L.length = 5 := by have := congrArg List.length h; simpa using this
  match L, hl with
  | [f0, f1, f2, f3, f4], _ =>
    simp at h
    obtain ⟨⟨a0, a1, a2⟩, ⟨b0, b1, b2⟩, ⟨c0, c1, c2⟩, ⟨g0, g1, g2⟩, ⟨i0, i1, i2⟩⟩ := h
    have qi : ∀ x y : Int, (Op.equalIn 9999 3 (.int .i64 x) (.int .i64 y)).run Tryz.prog w = .ok (x == y) w := fun x y => run_equalIn_int w 9998 3 .i64 .i64 x y Tryz.underlying3
    have q2 : (Op.equalIn 9999 47 _ _).run Tryz.prog w = _ := eq26 9996 b b' n0 n1 n2 n3 m0 m1 m2 m3 s s' w
    have q3 : (Op.equalIn 9999 4 (.bool f) (.bool f')).run Tryz.prog w = .ok (f == f') w := by kernel_rfl
    have q4 : (Op.equalIn 9999 9 (.string t) (.string t')).run Tryz.prog w = .ok (t == t') w := by kernel_rfl
    unfold sv
    generalize (b == b' && (s4 n0 n1 n2 n3 m0 m1 m2 m3 && s == s')) = z at q2 ⊢
    simp only [Op.eqFields, a0, a1, a2, b0, b1, b2, c0, c1, c2, g0, g1, g2, i0, i1, i2]
    cases h1 : (k == k') <;> cases z <;> cases h3 : (f == f') <;> cases h4 : (t == t') <;> cases h5 : (e == e') <;> simp [Sem.run_bind, p28_0, p28_1, p28_7, p28_8, p28_9, Result.andThen_ok, qi, q2, q3, q4, h1, h3, h4, h5, Sem.run_pure]
section
variable {k : Int} {b : Bool} {n0 n1 n2 n3 s : Int} {f : Bool} {t : ByteArray} {e : Int} {k' : Int} {b' : Bool} {m0 m1 m2 m3 s' : Int} {f' : Bool} {t' : ByteArray} {e' : Int} {r : Bool}
theorem eqV (h : sv k b n0 n1 n2 n3 s f t e k' b' m0 m1 m2 m3 s' f' t' e' = r) (x y : Operand) (w : World) : (do eqGuard .eql 49 x y (.agg #[.int .i64 k, .bool b, .int .u64 n0, .int .u64 n1, .int .u64 n2, .int .u64 n3, .int .i64 s, .bool f, .string t, .int .i64 e]) (.agg #[.int .i64 k', .bool b', .int .u64 m0, .int .u64 m1, .int .u64 m2, .int .u64 m3, .int .i64 s', .bool f', .string t', .int .i64 e']); binOp .eql 49 (.agg #[.int .i64 k, .bool b, .int .u64 n0, .int .u64 n1, .int .u64 n2, .int .u64 n3, .int .i64 s, .bool f, .string t, .int .i64 e]) (.agg #[.int .i64 k', .bool b', .int .u64 m0, .int .u64 m1, .int .u64 m2, .int .u64 m3, .int .i64 s', .bool f', .string t', .int .i64 e'])).run Tryz.prog w = .ok (.bool r) w := eqa_run gt28 (by rw [← h]; exact eq28 ..) x y
theorem neV (h : sv k b n0 n1 n2 n3 s f t e k' b' m0 m1 m2 m3 s' f' t' e' = r) (x y : Operand) (w : World) : (do eqGuard .neq 49 x y (.agg #[.int .i64 k, .bool b, .int .u64 n0, .int .u64 n1, .int .u64 n2, .int .u64 n3, .int .i64 s, .bool f, .string t, .int .i64 e]) (.agg #[.int .i64 k', .bool b', .int .u64 m0, .int .u64 m1, .int .u64 m2, .int .u64 m3, .int .i64 s', .bool f', .string t', .int .i64 e']); binOp .neq 49 (.agg #[.int .i64 k, .bool b, .int .u64 n0, .int .u64 n1, .int .u64 n2, .int .u64 n3, .int .i64 s, .bool f, .string t, .int .i64 e]) (.agg #[.int .i64 k', .bool b', .int .u64 m0, .int .u64 m1, .int .u64 m2, .int .u64 m3, .int .i64 s', .bool f', .string t', .int .i64 e'])).run Tryz.prog w = .ok (.bool (!r)) w := nea_run gt28 (by rw [← h]; exact eq28 ..) x y
end
theorem eq4b {a b r : Bool} (h : (a == b) = r) (x y : Operand) (w : World) : (do eqGuard .eql 4 x y (.bool a) (.bool b); binOp .eql 4 (.bool a) (.bool b)).run Tryz.prog w = .ok (.bool r) w := by subst h; kernel_rfl
theorem wnt_u {n : Nat} {l : List (Nat × Value)} {ops : Array Oper} {o : Oper} {j d : Nat} {want : Bool} (hg : o.guard = some (j, want)) (hd : (ops[j]?).bind (·.dst) = some d) (hn : Nat.blt d n = true) (hv : look l d = undef) : wnt n l ops o = false := by
  unfold wnt
  simp only [hg, hd, hn, cond_true, hv]
  cases want <;> rfl
theorem sz3 : (Tryz.prog.info? 3).map (·.size) = some 1 := by kernel_rfl
theorem sz4 : (Tryz.prog.info? 4).map (·.size) = some 1 := by kernel_rfl
theorem sz9 : (Tryz.prog.info? 9).map (·.size) = some 1 := by kernel_rfl
theorem sz45 : (Tryz.prog.info? 45).map (·.size) = some 4 := by kernel_rfl
theorem sz47 : (Tryz.prog.info? 47).map (·.size) = some 6 := by kernel_rfl
theorem sz49 : (Tryz.prog.info? 49).map (·.size) = some 10 := by kernel_rfl
theorem sz42 : (Tryz.prog.info? 42).map (·.size) = some 2 := by kernel_rfl
end Go.Proofs.YtepfokoepibkcaaGreat

