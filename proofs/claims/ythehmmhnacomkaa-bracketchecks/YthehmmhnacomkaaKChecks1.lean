/-
  A part of the proof.
-/
import Derived.Test.YthehmmhnacomkaaKa1
import Derived.RegionTactic
import Derived.Test.YthehmmhnacomkaaProg
import Derived.WalkKit
import Derived.WalkSpells
import Derived.Handy
import Derived.BigQuiet
import Derived.Deep.RegionHeld3
import Derived.Deep.MidRow
import Derived.BigCall
import Derived.Test.YthehmmhnacomkaaKa2
import Derived.Test.YthehmmhnacomkaaKa3
import Derived.Test.YthehmmhnacomkaaKa14
import Derived.Test.YthehmmhnacomkaaKa11
import Derived.Test.YthehmmhnacomkaaKa10
import Derived.Test.YthehmmhnacomkaaKa9
import Derived.Test.YthehmmhnacomkaaKa8
import Derived.Test.YthehmmhnacomkaaKa5
import Derived.Test.YthehmmhnacomkaaKa4
import Derived.Shelf.Small.Bits
import Derived.Shelf.Strconv.Itoa0
import Derived.Shelf.Bits.Mul64
import Derived.Deep.CutBlock
import Derived.Deep.CutRange
import Derived.Test.YthehmmhnacomkaaKa7
import Derived.Test.YthehmmhnacomkaaKa6
import Derived.ChangeKeysEq
import Derived.ScopeJumps
import Derived.WalkMore
import Derived.Laws.StructEq
import Derived.Test.YthehmmhnacomkaaKa13
import Derived.Test.YthehmmhnacomkaaKa12
import Derived.Test.YthehmmhnacomkaaKa17
import Derived.Test.YthehmmhnacomkaaKa16
import Derived.Test.YthehmmhnacomkaaKa15
import Derived.Lib.CutLaws
import Derived.Maps.OwnSet
import Derived.WalkArith
import Derived.StringKeys
import Derived.ProofKit
import Derived.OpenShut
import Derived.ChangeArms
import Derived.Deep.Slices
import Derived.ReadAgain
import Derived.WideKeyArgs
import Derived.Maps.AppendAt
import Derived.Test.YthehmmhnacomkaaKa18
import Derived.Test.YthehmmhnacomkaaKa20
import Derived.Test.YthehmmhnacomkaaKa19
namespace Go.Proofs.Ythehmmhnacomkaa
open Go.RowKit
/-! Frames as lists of what was put where, the last first. -/
/-! The laws of the steps. -/
section steps
variable {P : Program} {o : Oper} {n : Nat} {l : List (Nat × Value)} {w : World} {ops : Array Oper} {rest : List Oper} {Q : Exit → Act → World → Prop} {K : Act → World → Prop}
theorem li1 {a b : Value} (h : a = b) : [a] = [b] := by rw [h]
end steps
end Go.Proofs.Ythehmmhnacomkaa

namespace Go.Proofs.Ythehmmhnacomkaa
open Go.RowKit
section
variable {P : Program} {ops : List Oper} {Q : Exit → Act → World → Prop} {n : Nat} {l : List (Nat × Value)}
theorem wnt_g {ops : Array Oper} {o : Oper} {j d : Nat} {want b r : Bool} (hg : o.guard = some (j, want)) (hd : (ops[j]?).bind (·.dst) = some d) (hn : Nat.blt d n = true) (hv : look l d = .bool b) (hr : (b == want) = r) : wnt n l ops o = r := by
 unfold wnt
 simp only [hg, hd, hn, cond_true, hv]
 subst hr
 cases b <;> cases want <;> rfl
variable {o : Oper} {w : World} {K : Act → World → Prop}
end
end Go.Proofs.Ythehmmhnacomkaa

namespace Go.Proofs.Ythehmmhnacomkaa
open Go.RowKit
section
variable {P : Program} {o : Oper} {n : Nat} {l : List (Nat × Value)} {w : World} {ops : Array Oper} {rest : List Oper} {Q : Exit → Act → World → Prop} {K : Act → World → Prop}
theorem wo_pick (c x y : Operand) (t : Bool) (v : Value) (ho : ∀ ρ, execOp ρ o = (do pure (.value (if ← asBool (ρ c) then ρ x else ρ y)))) (hc : evl n l c = .bool t) (hv : evl n l (bif t then x else y) = v) (hk : K (fr n (ext l o.dst v)) w) : WO P o n l w K Q := ⟨o_pick c x y t v ho hc hv hk⟩
end
end Go.Proofs.Ythehmmhnacomkaa

namespace Go.Proofs.Ythehmmhnacomkaa
open Go.RowKit
theorem nea_run {ty : TypeId} {a b : Array Value} {r : Bool} {w : World} (hg : Try.prog.eqGuardType Try.prog.depth ty = false) (q : (Op.equalIn 10000 ty (.agg a) (.agg b)).run Try.prog w = .ok r w) (x y : Operand) :
  (do eqGuard .neq ty x y (.agg a) (.agg b); binOp .neq ty (.agg a) (.agg b)).run Try.prog w = .ok (.bool (!r)) w := by
 have e : binOp .neq ty (.agg a) (.agg b) = (do pure (.bool (!(← Op.equalIn 10000 ty (.agg a) (.agg b))))) := rfl
 rw [Sem.run_bind, guard_run x y hg, e, Result.andThen_ok, Sem.run_bind, q]; rfl
end Go.Proofs.Ythehmmhnacomkaa

namespace Go.Proofs.Ythehmmhnacomkaa
open Go.RowKit Go.ChangeMaps
theorem ne3 {a b : Int} {r : Bool} (h : decide (a = b) = r) (x y : Operand) (w : World) : (do eqGuard .neq 3 x y (.int .i64 a) (.int .i64 b); binOp .neq 3 (.int .i64 a) (.int .i64 b)).run Try.prog w = .ok (.bool (!r)) w := by
 subst h
 have e : (do eqGuard .neq 3 x y (.int .i64 a) (.int .i64 b); binOp .neq 3 (.int .i64 a) (.int .i64 b)).run Try.prog w = .ok (.bool (!(a == b))) w := by kernel_rfl
 rw [e]; congr 2
theorem sn9 {a b : ByteArray} {r : Bool} (h : decide (a = b) = r) (x y : Operand) (w : World) : (do eqGuard .neq 9 x y (.string a) (.string b); binOp .neq 9 (.string a) (.string b)).run Try.prog w = .ok (.bool (!r)) w := by
 subst h; rw [← ba_eq]; simp [go_sem]
/-! Maps from names to whole numbers, and from names to flags. -/
variable {w w' : World} {b : Nat} {al : List (ByteArray × Int)}
end Go.Proofs.Ythehmmhnacomkaa

namespace Go.Proofs.Ythehmmhnacomkaa
open Go.RowKit
theorem eq4b {a b r : Bool} (h : (a == b) = r) (x y : Operand) (w : World) : (do eqGuard .eql 4 x y (.bool a) (.bool b); binOp .eql 4 (.bool a) (.bool b)).run Try.prog w = .ok (.bool r) w := by subst h; kernel_rfl
end Go.Proofs.Ythehmmhnacomkaa

namespace Go.Proofs.Ythehmmhnacomkaa
open Go.RowKit D
def sS (x y : Stp) : Bool := sD x.a y.a && (sD x.b y.b && sD x.c y.c)
theorem sS_self (x : Stp) : sS x x = true := by simp [sS, sD_self]
theorem ht45 : Try.prog.underlying 45 = some (.struct (Try.prog.fieldsOf 45)) := by kernel_rfl
theorem hp45 : Try.prog.stoodInHeld 45 = false := by kernel_rfl
theorem fo45 : (Try.prog.fieldsOf 45).toList.map (fun f => (f.name, f.type, f.offset)) = [("From", 33, 0), ("Base", 33, 6), ("Rate", 33, 12)] := by kernel_rfl
theorem gt45 : Try.prog.eqGuardType Try.prog.depth 45 = false := by kernel_rfl
theorem pS0 (x : Stp) (w : World) : (part 33 x.cells.toArray 0).run Try.prog w = .ok x.a.v w := by kernel_rfl
theorem pS1 (x : Stp) (w : World) : (part 33 x.cells.toArray 6).run Try.prog w = .ok x.b.v w := by kernel_rfl
theorem pS2 (x : Stp) (w : World) : (part 33 x.cells.toArray 12).run Try.prog w = .ok x.c.v w := by kernel_rfl
theorem eqS (x y : Stp) (w : World) : (Op.equalIn 10000 45 x.v y.v).run Try.prog w = .ok (sS x y) w := by
 rw [show (10000 : Nat) = 9999 + 1 from rfl, run_equalIn_struct w 9999 45 _ _ ht45 hp45]
 have h := fo45
 generalize (Try.prog.fieldsOf 45).toList = L at h
 have hl : L.length = 3 := by have := congrArg List.length h; simpa using this
 match L, hl with
 | [f0, f1, f2], _ =>
  simp at h
  obtain ⟨⟨a0, a1, a2⟩, ⟨b0, b1, b2⟩, ⟨c0, c1, c2⟩⟩ := h
  have q : ∀ p q : Dn, (Op.equalIn 9999 33 p.v q.v).run Try.prog w = .ok (sD p q) w := fun p q => eq26 9996 p.b q.b _ _ _ _ _ _ _ _ p.s q.s w
  have q1 := q x.a y.a
  have q2 := q x.b y.b
  have q3 := q x.c y.c
  unfold sS
  simp only [Op.eqFields, a0, a1, a2, b0, b1, b2, c0, c1, c2]
  generalize sD x.a y.a = z1 at q1 ⊢
  generalize sD x.b y.b = z2 at q2 ⊢
  generalize sD x.c y.c = z3 at q3 ⊢
  cases z1 <;> cases z2 <;> cases z3 <;> simp [Sem.run_bind, pS0, pS1, pS2, Result.andThen_ok, q1, q2, q3, Sem.run_pure]
theorem neSp {x y : Stp} {r : Bool} (h : sS x y = r) (p q : Operand) (w : World) : (do eqGuard .neq 45 p q x.v y.v; binOp .neq 45 x.v y.v).run Try.prog w = .ok (.bool (!r)) w := nea_run gt45 (by rw [← h]; exact eqS x y w) p q
end Go.Proofs.Ythehmmhnacomkaa
namespace Go.Proofs.Ythehmmhnacomkaa
open Go.RowKit D
theorem qck_n {x : Tb} (w : World) (hT : LT w x) : Calls Try.prog 10 #[ .agg (x.cells).toArray] w fun e9 w' => e9 = .returned (.int .i64 (chkT x.st)) ∧ Mo w w' := by
 refine w_enter 64 Try.func10 Try.ntmps10 rfl rfl ?_
 have M : Mo w w := Mo.refl _
 refine w_seq (w_reg ?_)
 refine wl_box 24 (.tmp 0) _ (((x.cells).toArray)) rfl rfl (fun _ => by kernel_rfl) rfl ?_
 intro k1 u1 hk hz hq Q1
 have N_k1 : w.heap.size ≤ k1 := by have := M.size; omega
 replace M := M.trans hq
 clear hk hz hq
 refine wl_m (.const (.int .i64 (0))) (.int .i64 (0)) ?_
 refine w_nil (xn_then (w_seq (w_seq (w_reg ?_))))
 refine wl_f 24 1 (.tmp 1) (pt k1 0) (pt k1 1) ?_
 refine wl_l 22 (.tmp 6) (pt k1 1) (.slice x.pa x.st.length x.cap) (run_one Q1 22 1 rfl Try.underlying22 rfl) ?_
 refine wl_val (.int .i64 ((x.st.length : Nat) : Int)) (len22 _ _ _ _ _ (by exact rfl) _ _ _ _ _ _) rfl ?_
 cases hf0 : decide (32 < x.st.length) with
 | true =>
  have hf0p := of_decide_eq_true hf0
  refine wl_b .gtr 3 (.tmp 8) (.const (.int .i64 (32))) (.int .i64 ((x.st.length : Nat) : Int)) (.int .i64 (32)) (.bool true) (gtN hf0 _ _ _) ?_
  refine w_nil (xn_then (w_condT rfl (w_seq (w_reg ?_))))
  refine wl_m (.const (.int .i64 (3))) (.int .i64 (3)) ?_
  refine w_nil (xn_then (w_ret (xr_then ?_)))
  exact w_ret1 _ (.int .i64 (3)) rfl rfl ⟨congrArg (fun v => Ending.returned (.int .i64 v)) (Eq.symm (by unfold chkT; rw [if_pos hf0p])), M⟩
 | false =>
  have hf0p := of_decide_eq_false hf0
  refine wl_b .gtr 3 (.tmp 8) (.const (.int .i64 (32))) (.int .i64 ((x.st.length : Nat) : Int)) (.int .i64 (32)) (.bool false) (gtN hf0 _ _ _) ?_
  refine w_nil (xn_then (w_condF rfl (w_skip (xn_then (w_seq (w_seq (w_reg ?_)))))))
  refine wl_f 24 1 (.tmp 1) (pt k1 0) (pt k1 1) ?_
  refine wl_l 22 (.tmp 10) (pt k1 1) (.slice x.pa x.st.length x.cap) (run_one Q1 22 1 rfl Try.underlying22 rfl) ?_
  refine wl_val (.int .i64 ((x.st.length : Nat) : Int)) (len22 _ _ _ _ _ (by exact rfl) _ _ _ _ _ _) rfl ?_
  cases hf1 : decide (((x.st.length : Nat) : Int) = 0) with
  | true =>
   have hf1p := of_decide_eq_true hf1
   refine wl_b .eql 3 (.tmp 12) (.const (.int .i64 (0))) (.int .i64 ((x.st.length : Nat) : Int)) (.int .i64 (0)) (.bool true) (eq3 hf1 _ _ _) ?_
   refine w_nil (xn_then (w_condT rfl (w_seq (w_reg ?_))))
   refine wl_m (.const (.int .i64 (140))) (.int .i64 (140)) ?_
   refine w_nil (xn_then (w_ret (xr_then ?_)))
   exact w_ret1 _ (.int .i64 (140)) rfl rfl ⟨congrArg (fun v => Ending.returned (.int .i64 v)) (Eq.symm (by unfold chkT; rw [if_neg (by omega), if_pos (by omega)])), M⟩
  | false =>
   have hf1p := of_decide_eq_false hf1
   refine wl_b .eql 3 (.tmp 12) (.const (.int .i64 (0))) (.int .i64 ((x.st.length : Nat) : Int)) (.int .i64 (0)) (.bool false) (eq3 hf1 _ _ _) ?_
   refine w_nil (xn_then (w_condF rfl (w_skip (xn_then (w_seq (w_seq (w_reg ?_)))))))
   refine wl_m (.const (.int .i64 (0))) (.int .i64 (0)) ?_
   refine w_nil (xn_then (w_block ?_))
   have hz9 := hT.sl.1
   unfold maxLen at hz9
   refine w_loop (fun m l w1 => ∃ i : Nat, m = x.st.length - i ∧ i ≤ x.st.length ∧ look l 1 = pt k1 0 ∧ look l 3 = .int .i64 ((i : Nat) : Int) ∧ At w1 k1 (x.cells) ∧ (∀ j < i, ∀ y, x.st[j]? = some y → okS y = true) ∧ Mo w w1) _ ⟨0, rfl, Nat.zero_le _, rfl, rfl, Q1, (fun j hj => absurd hj (Nat.not_lt_zero j)), M⟩ ?_
   clear Q1 M
   rintro m l40 wl40 ⟨i, rfl, hi, e40_1, e40_i, Q1, hok, M⟩
   by_cases hil : i < x.st.length
   ·skip
    have hid : decide (i < x.st.length) = true := decide_eq_true hil
    obtain ⟨y, hy⟩ := get_of_lt hil
    have hmy := List.mem_of_getElem? hy
    obtain ⟨bp, op, hpp, hRp⟩ := D.SL.rw hT.sl hy
    refine w_seq (w_seq (w_reg ?_))
    refine wl_mv (.tmp 3) (.int .i64 ((i : Nat) : Int)) (fun _ => rfl) e40_i rfl ?_
    refine wl_un (fun v => Instr.fieldAt 24 v 1) (.tmp 1) (pt k1 0) (pt k1 1) (fun _ => rfl) e40_1 (by kernel_rfl) rfl ?_
    refine wl_l 22 (.tmp 15) (pt k1 1) (.slice x.pa x.st.length x.cap) (run_one Q1 22 1 rfl Try.underlying22 rfl) ?_
    refine wl_val (.int .i64 ((x.st.length : Nat) : Int)) (len22 _ _ _ _ _ (by exact rfl) _ _ _ _ _ _) rfl ?_
    refine wl_b .lss 3 (.tmp 14) (.tmp 17) (.int .i64 ((i : Nat) : Int)) (.int .i64 ((x.st.length : Nat) : Int)) (.bool true) (ltN hid _ _ _) ?_
    refine w_nil (xn_then (w_condT rfl (w_skip (xn_then (w_seq (w_block (w_seq (w_reg ?_))))))))
    refine wl_un (fun v => Instr.fieldAt 24 v 1) (.tmp 1) (pt k1 0) (pt k1 1) (fun _ => rfl) e40_1 (by kernel_rfl) rfl ?_
    refine wl_l 22 (.tmp 21) (pt k1 1) (.slice x.pa x.st.length x.cap) (run_one Q1 22 1 rfl Try.underlying22 rfl) ?_
    refine wl_mv (.tmp 3) (.int .i64 ((i : Nat) : Int)) (fun _ => rfl) e40_i rfl ?_
    refine wl_bin (fun x y => Instr.indexAt 22 x y) (.tmp 22) (.tmp 23) (.slice x.pa x.st.length x.cap) (.int .i64 ((i : Nat) : Int)) (pt bp (op + i * 18)) (fun _ => rfl) rfl rfl (ix22 (i := i) hpp hil _) rfl ?_
    refine wl_l 45 (.tmp 24) (pt bp (op + i * 18)) (.agg (y.cells).toArray) (D.run_partR (hRp.mo M).at' 45 0 18 (y.cells) rfl Try.underlying45 rfl sz45) ?_
    refine wl_alloc 45 #[.bool false, .int .u64 0, .int .u64 0, .int .u64 0, .int .u64 0, .int .i64 0, .bool false, .int .u64 0, .int .u64 0, .int .u64 0, .int .u64 0, .int .i64 0, .bool false, .int .u64 0, .int .u64 0, .int .u64 0, .int .u64 0, .int .i64 0] rfl (fun _ => by kernel_rfl) rfl ?_
    intro k2 u41 hk hz hq Q2
    have ne_k1_k2 : k1 ≠ k2 := by have := Q1.lt; omega
    have N_k2 : w.heap.size ≤ k2 := by have := M.size; omega
    replace Q1 := Q1.mo hq
    replace M := M.trans hq
    clear hk hz hq
    refine wl_st 45 (.tmp 4) (.tmp 25) k2 0 ((y.cells).toArray) _ (y.cells) Q2 rfl rfl rfl rfl rfl sz45 rfl rfl rfl ?_
    intro u42 hS Qn
    replace Q2 := Qn
    clear Qn
    replace Q1 := hS.other _ _ ne_k1_k2 Q1
    replace M := hS.mo _ N_k2 M
    clear hS
    refine w_nil (xn_then (w_seq (w_reg ?_)))
    refine wl_f 45 0 (.tmp 4) (pt k2 0) (pt k2 0) ?_
    refine wl_l 33 (.tmp 26) (pt k2 0) (.agg #[.bool y.a.b, .int .u64 (l0 y.a.n), .int .u64 (l1 y.a.n), .int .u64 (l2 y.a.n), .int .u64 (l3 y.a.n), .int .i64 y.a.s]) (run_row Q2 33 0 6 _ rfl Try.underlying33 rfl sz33) ?_
    refine wl_call 23 [(.tmp 27)] _ [.agg #[.bool y.a.b, .int .u64 (l0 y.a.n), .int .u64 (l1 y.a.n), .int .u64 (l2 y.a.n), .int .u64 (l3 y.a.n), .int .i64 y.a.s]] (.int .i64 (y.a.er)) rfl rfl (fun _ _ => by kernel_rfl) (qchk_n (hT.ok y hmy).1 _) rfl ?_
    intro u43 hq
    replace Q1 := Q1.mo hq
    replace Q2 := Q2.mo hq
    replace M := M.trans hq
    clear hq
    cases hf30 : decide (y.a.er = 0) with
    | true =>
     have hf30p := of_decide_eq_true hf30
     refine wl_b .neq 26 (.tmp 28) (.const (.int .i64 (0))) (.int .i64 (y.a.er)) (.int .i64 (0)) (.bool false) (ne34 hf30 _ _ _) ?_
     refine wl_m (.tmp 29) (.bool false) ?_
     refine wl_f 45 1 (.tmp 4) (pt k2 0) (pt k2 6) ?_
     refine wl_l 33 (.tmp 31) (pt k2 6) (.agg #[.bool y.b.b, .int .u64 (l0 y.b.n), .int .u64 (l1 y.b.n), .int .u64 (l2 y.b.n), .int .u64 (l3 y.b.n), .int .i64 y.b.s]) (run_row Q2 33 6 6 _ rfl Try.underlying33 rfl sz33) ?_
     refine wl_call 23 [(.tmp 32)] _ [.agg #[.bool y.b.b, .int .u64 (l0 y.b.n), .int .u64 (l1 y.b.n), .int .u64 (l2 y.b.n), .int .u64 (l3 y.b.n), .int .i64 y.b.s]] (.int .i64 (y.b.er)) rfl rfl (fun _ _ => by kernel_rfl) (qchk_n (hT.ok y hmy).2.1 _) rfl ?_
     intro u44 hq
     replace Q1 := Q1.mo hq
     replace Q2 := Q2.mo hq
     replace M := M.trans hq
     clear hq
     cases hf31 : decide (y.b.er = 0) with
     | true =>
      have hf31p := of_decide_eq_true hf31
      refine wl_b .neq 26 (.tmp 33) (.const (.int .i64 (0))) (.int .i64 (y.b.er)) (.int .i64 (0)) (.bool false) (ne34 hf31 _ _ _) ?_
      refine wl_pick (.tmp 30) (.const (.bool true)) (.tmp 34) false (.bool false) (fun _ => rfl) rfl rfl rfl ?_
      refine wl_m (.tmp 35) (.bool false) ?_
      refine wl_f 45 2 (.tmp 4) (pt k2 0) (pt k2 12) ?_
      refine wl_l 33 (.tmp 37) (pt k2 12) (.agg #[.bool y.c.b, .int .u64 (l0 y.c.n), .int .u64 (l1 y.c.n), .int .u64 (l2 y.c.n), .int .u64 (l3 y.c.n), .int .i64 y.c.s]) (run_row Q2 33 12 6 _ rfl Try.underlying33 rfl sz33) ?_
      refine wl_call 23 [(.tmp 38)] _ [.agg #[.bool y.c.b, .int .u64 (l0 y.c.n), .int .u64 (l1 y.c.n), .int .u64 (l2 y.c.n), .int .u64 (l3 y.c.n), .int .i64 y.c.s]] (.int .i64 (y.c.er)) rfl rfl (fun _ _ => by kernel_rfl) (qchk_n (hT.ok y hmy).2.2 _) rfl ?_
      intro u45 hq
      replace Q1 := Q1.mo hq
      replace Q2 := Q2.mo hq
      replace M := M.trans hq
      clear hq
      cases hf32 : decide (y.c.er = 0) with
      | true =>
       have hf32p := of_decide_eq_true hf32
       refine wl_b .neq 26 (.tmp 39) (.const (.int .i64 (0))) (.int .i64 (y.c.er)) (.int .i64 (0)) (.bool false) (ne34 hf32 _ _ _) ?_
       refine wl_pick (.tmp 36) (.const (.bool true)) (.tmp 40) false (.bool false) (fun _ => rfl) rfl rfl rfl ?_
       refine w_nil (xn_then (w_condF rfl (w_skip (xn_blk (xn_then (w_reg ?_))))))
       refine wl_mv (.tmp 3) (.int .i64 ((i : Nat) : Int)) (fun _ => rfl) e40_i rfl ?_
       refine wl_b .add 3 (.tmp 19) (.const (.int .i64 (1))) (.int .i64 ((i : Nat) : Int)) (.int .i64 (1)) (.int .i64 ((i + 1 : Nat) : Int)) (add1r (k := i) (by omega) _ _ _) ?_
       refine wl_m (.tmp 20) (.int .i64 ((i + 1 : Nat) : Int)) ?_
       refine w_nil ?_
       exact xn_loop (x.st.length - (i + 1)) (by omega) ⟨i + 1, rfl, by omega, e40_1, rfl, Q1, (ok_next hok hy (by simp [okS, *])), M⟩
      | false =>
       have hf32p := of_decide_eq_false hf32
       refine wl_b .neq 26 (.tmp 39) (.const (.int .i64 (0))) (.int .i64 (y.c.er)) (.int .i64 (0)) (.bool true) (ne34 hf32 _ _ _) ?_
       refine wl_pick (.tmp 36) (.const (.bool true)) (.tmp 40) false (.bool true) (fun _ => rfl) rfl rfl rfl ?_
       refine w_nil (xn_then (w_condT rfl (w_seq (w_reg ?_))))
       refine wl_m (.const (.int .i64 (20))) (.int .i64 (20)) ?_
       refine w_nil (xn_then (w_ret (xr_blk (xr_then (xr_then (xr_blk (xr_then ?_)))))))
       exact w_ret1 _ (.int .i64 (20)) rfl rfl ⟨congrArg (fun v => Ending.returned (.int .i64 v)) (Eq.symm (chk_bad (by omega) (by omega) hmy (by simp [okS, hf30p, hf31p, hf32p]))), M⟩
     | false =>
      have hf31p := of_decide_eq_false hf31
      refine wl_b .neq 26 (.tmp 33) (.const (.int .i64 (0))) (.int .i64 (y.b.er)) (.int .i64 (0)) (.bool true) (ne34 hf31 _ _ _) ?_
      refine wl_pick (.tmp 30) (.const (.bool true)) (.tmp 34) false (.bool true) (fun _ => rfl) rfl rfl rfl ?_
      refine wl_m (.tmp 35) (.bool true) ?_
      refine wl_skip rfl (wl_skip rfl (wl_skip rfl (wl_skip rfl ?_)))
      refine wl_pick (.tmp 36) (.const (.bool true)) (.tmp 40) true (.bool true) (fun _ => rfl) rfl rfl rfl ?_
      refine w_nil (xn_then (w_condT rfl (w_seq (w_reg ?_))))
      refine wl_m (.const (.int .i64 (20))) (.int .i64 (20)) ?_
      refine w_nil (xn_then (w_ret (xr_blk (xr_then (xr_then (xr_blk (xr_then ?_)))))))
      exact w_ret1 _ (.int .i64 (20)) rfl rfl ⟨congrArg (fun v => Ending.returned (.int .i64 v)) (Eq.symm (chk_bad (by omega) (by omega) hmy (by simp [okS, hf30p, hf31p]))), M⟩
    | false =>
     have hf30p := of_decide_eq_false hf30
     refine wl_b .neq 26 (.tmp 28) (.const (.int .i64 (0))) (.int .i64 (y.a.er)) (.int .i64 (0)) (.bool true) (ne34 hf30 _ _ _) ?_
     refine wl_m (.tmp 29) (.bool true) ?_
     refine wl_skip rfl (wl_skip rfl (wl_skip rfl (wl_skip rfl ?_)))
     refine wl_pick (.tmp 30) (.const (.bool true)) (.tmp 34) true (.bool true) (fun _ => rfl) rfl rfl rfl ?_
     refine wl_m (.tmp 35) (.bool true) ?_
     refine wl_skip rfl (wl_skip rfl (wl_skip rfl (wl_skip rfl ?_)))
     refine wl_pick (.tmp 36) (.const (.bool true)) (.tmp 40) true (.bool true) (fun _ => rfl) rfl rfl rfl ?_
     refine w_nil (xn_then (w_condT rfl (w_seq (w_reg ?_))))
     refine wl_m (.const (.int .i64 (20))) (.int .i64 (20)) ?_
     refine w_nil (xn_then (w_ret (xr_blk (xr_then (xr_then (xr_blk (xr_then ?_)))))))
     exact w_ret1 _ (.int .i64 (20)) rfl rfl ⟨congrArg (fun v => Ending.returned (.int .i64 v)) (Eq.symm (chk_bad (by omega) (by omega) hmy (by simp [okS, hf30p]))), M⟩
   ·skip
    have hid : decide (i < x.st.length) = false := decide_eq_false hil
    have hie : i = x.st.length := by omega
    have hall := all_of (by rw [← hie]; exact hok)
    refine w_seq (w_seq (w_reg ?_))
    refine wl_mv (.tmp 3) (.int .i64 ((i : Nat) : Int)) (fun _ => rfl) e40_i rfl ?_
    refine wl_un (fun v => Instr.fieldAt 24 v 1) (.tmp 1) (pt k1 0) (pt k1 1) (fun _ => rfl) e40_1 (by kernel_rfl) rfl ?_
    refine wl_l 22 (.tmp 15) (pt k1 1) (.slice x.pa x.st.length x.cap) (run_one Q1 22 1 rfl Try.underlying22 rfl) ?_
    refine wl_val (.int .i64 ((x.st.length : Nat) : Int)) (len22 _ _ _ _ _ (by exact rfl) _ _ _ _ _ _) rfl ?_
    refine wl_b .lss 3 (.tmp 14) (.tmp 17) (.int .i64 ((i : Nat) : Int)) (.int .i64 ((x.st.length : Nat) : Int)) (.bool false) (ltN hid _ _ _) ?_
    refine w_nil (xn_then (w_condF rfl (w_exit (xx_then (xx_then (xx_blk (xn_then (w_seq (w_seq (w_reg ?_))))))))))
    refine wl_m (.const (.int .i64 (1))) (.int .i64 (1)) ?_
    refine w_nil (xn_then (w_block ?_))
    refine w_loop (fun m l w1 => ∃ i : Nat, m = x.st.length - i ∧ i ≤ x.st.length ∧ look l 1 = pt k1 0 ∧ look l 5 = .int .i64 ((i + 1 : Nat) : Int) ∧ At w1 k1 (x.cells) ∧ (∀ j < i, ∀ a b, x.st[j]? = some a → x.st[j + 1]? = some b → 0 < cmpD b.a a.a) ∧ Mo w w1) _ ⟨0, rfl, Nat.zero_le _, e40_1, rfl, Q1, (fun j hj => absurd hj (Nat.not_lt_zero j)), M⟩ ?_
    clear Q1 M
    rintro m l80 wl80 ⟨i, rfl, hi, e80_1, e80_i, Q1, has, M⟩
    by_cases hil : i + 1 < x.st.length
    ·skip
     have hid : decide (i + 1 < x.st.length) = true := decide_eq_true hil
     obtain ⟨y1, hy1⟩ := get_of_lt hil
     have hmy1 := List.mem_of_getElem? hy1
     obtain ⟨bp, op, hpp, hRp⟩ := D.SL.rw hT.sl hy1
     have hil0 : i < x.st.length := by omega
     obtain ⟨y0, hy0⟩ := get_of_lt hil0
     have hmy0 := List.mem_of_getElem? hy0
     obtain ⟨bq, oq, hpq, hRq⟩ := D.SL.rw hT.sl hy0
     refine w_seq (w_seq (w_reg ?_))
     refine wl_mv (.tmp 5) (.int .i64 ((i + 1 : Nat) : Int)) (fun _ => rfl) e80_i rfl ?_
     refine wl_un (fun v => Instr.fieldAt 24 v 1) (.tmp 1) (pt k1 0) (pt k1 1) (fun _ => rfl) e80_1 (by kernel_rfl) rfl ?_
     refine wl_l 22 (.tmp 43) (pt k1 1) (.slice x.pa x.st.length x.cap) (run_one Q1 22 1 rfl Try.underlying22 rfl) ?_
     refine wl_val (.int .i64 ((x.st.length : Nat) : Int)) (len22 _ _ _ _ _ (by exact rfl) _ _ _ _ _ _) rfl ?_
     refine wl_b .lss 3 (.tmp 42) (.tmp 45) (.int .i64 ((i + 1 : Nat) : Int)) (.int .i64 ((x.st.length : Nat) : Int)) (.bool true) (ltN hid _ _ _) ?_
     refine w_nil (xn_then (w_condT rfl (w_skip (xn_then (w_seq (w_block (w_seq ?_)))))))
     cases hf80 : decide (cmpD y1.a y0.a ≤ 0) with
     | true =>
      have hf80p := of_decide_eq_true hf80
      refine w_any 13 [.inl (pt k1 1), .inl (.slice x.pa x.st.length x.cap), .inl (.int .i64 ((i + 1 : Nat) : Int)), .inl (pt bp (op + (i + 1) * 18)), .inl (pt bp (op + (i + 1) * 18)), .inl (.agg (y1.a.cells).toArray), .inl (pt k1 1), .inl (.slice x.pa x.st.length x.cap), .inl (.int .i64 ((i + 1 : Nat) : Int)), .inl (.int .i64 ((i : Nat) : Int)), .inl (pt bq (oq + i * 18)), .inl (pt bq (oq + i * 18)), .inl (.agg (y0.a.cells).toArray)] [] (by kernel_rfl) (by kernel_rfl) (by kernel_rfl) (by kernel_rfl) rfl (by kernel_rfl) (by kernel_rfl) late_nil ?_ ?_ ?_
      ·exact Ds.none rfl
      ·refine ea_cons ?_ (ea_cons ?_ (ea_cons ?_ (ea_cons ?_ (ea_cons ?_ (ea_cons ?_ (ea_cons ?_ (ea_cons ?_ (ea_cons ?_ (ea_cons ?_ (ea_cons ?_ (ea_cons ?_ (ea_cons ?_ (ea_nil)))))))))))))
       ·exact og_eq _ rfl (fun f wf hq hd K hK => go_run rfl (wo_un (fun v => Instr.fieldAt 24 v 1) (.tmp 1) (pt k1 0) (pt k1 1) (fun _ => rfl) e80_1 (by kernel_rfl) (hK _ (Mo.refl _))))
       ·exact og_eq _ rfl (fun f wf hq hd K hK => have Q1 := Q1.mo hq; go_run rfl (wo_load 22 (.tmp 49) (pt k1 1) (.slice x.pa x.st.length x.cap) rfl (hd 0 rfl) (run_one Q1 22 1 rfl Try.underlying22 rfl) (hK _ (Mo.refl _))))
       ·exact og_eq _ rfl (fun f wf hq hd K hK => go_run rfl (wo_mv (.tmp 5) (.int .i64 ((i + 1 : Nat) : Int)) (fun _ => rfl) e80_i (hK _ (Mo.refl _))))
       ·exact og_eq _ rfl (fun f wf hq hd K hK => go_run rfl (wo_bin (fun x y => Instr.indexAt 22 x y) (.tmp 50) (.tmp 51) (.slice x.pa x.st.length x.cap) (.int .i64 ((i + 1 : Nat) : Int)) (pt bp (op + (i + 1) * 18)) (fun _ => rfl) (hd 1 rfl) (hd 2 rfl) (ix22 (i := i + 1) hpp hil _) (hK _ (Mo.refl _))))
       ·exact og_eq _ rfl (fun f wf hq hd K hK => go_run rfl (wo_un (fun v => Instr.fieldAt 45 v 0) (.tmp 52) (pt bp (op + (i + 1) * 18)) (pt bp (op + (i + 1) * 18)) (fun _ => rfl) (hd 3 rfl) (by kernel_rfl) (hK _ (Mo.refl _))))
       ·exact og_eq _ rfl (fun f wf hq hd K hK => go_run rfl (wo_load 33 (.tmp 53) (pt bp (op + (i + 1) * 18)) (.agg (y1.a.cells).toArray) rfl (hd 4 rfl) (D.run_partR (hRp.mo (M.trans hq)).at' 33 0 6 (y1.a.cells) rfl Try.underlying33 rfl sz33) (hK _ (Mo.refl _))))
       ·exact og_eq _ rfl (fun f wf hq hd K hK => go_run rfl (wo_un (fun v => Instr.fieldAt 24 v 1) (.tmp 1) (pt k1 0) (pt k1 1) (fun _ => rfl) e80_1 (by kernel_rfl) (hK _ (Mo.refl _))))
       ·exact og_eq _ rfl (fun f wf hq hd K hK => have Q1 := Q1.mo hq; go_run rfl (wo_load 22 (.tmp 55) (pt k1 1) (.slice x.pa x.st.length x.cap) rfl (hd 6 rfl) (run_one Q1 22 1 rfl Try.underlying22 rfl) (hK _ (Mo.refl _))))
       ·exact og_eq _ rfl (fun f wf hq hd K hK => go_run rfl (wo_mv (.tmp 5) (.int .i64 ((i + 1 : Nat) : Int)) (fun _ => rfl) e80_i (hK _ (Mo.refl _))))
       ·exact og_eq _ rfl (fun f wf hq hd K hK => go_run rfl (wo_bin (fun x y => do eqGuard .sub 3 (.tmp 57) (.const (.int .i64 (1))) x y; binOp .sub 3 x y) (.tmp 57) (.const (.int .i64 (1))) (.int .i64 ((i + 1 : Nat) : Int)) (.int .i64 (1)) (.int .i64 ((i : Nat) : Int)) (fun _ => rfl) (hd 8 rfl) rfl (sub1r (k := i) (by omega) _ _ _) (hK _ (Mo.refl _))))
       ·exact og_eq _ rfl (fun f wf hq hd K hK => go_run rfl (wo_bin (fun x y => Instr.indexAt 22 x y) (.tmp 56) (.tmp 58) (.slice x.pa x.st.length x.cap) (.int .i64 ((i : Nat) : Int)) (pt bq (oq + i * 18)) (fun _ => rfl) (hd 7 rfl) (hd 9 rfl) (ix22 (i := i) hpq hil0 _) (hK _ (Mo.refl _))))
       ·exact og_eq _ rfl (fun f wf hq hd K hK => go_run rfl (wo_un (fun v => Instr.fieldAt 45 v 0) (.tmp 59) (pt bq (oq + i * 18)) (pt bq (oq + i * 18)) (fun _ => rfl) (hd 10 rfl) (by kernel_rfl) (hK _ (Mo.refl _))))
       ·exact og_eq _ rfl (fun f wf hq hd K hK => go_run rfl (wo_load 33 (.tmp 60) (pt bq (oq + i * 18)) (.agg (y0.a.cells).toArray) rfl (hd 11 rfl) (D.run_partR (hRq.mo (M.trans hq)).at' 33 0 6 (y0.a.cells) rfl Try.underlying33 rfl sz33) (hK _ (Mo.refl _))))
      intro kf81 u81 hq hR hne
      replace Q1 := Q1.mo hq
      replace M := M.trans hq
      clear hq hR hne
      refine wl_call 24 [(.tmp 54), (.tmp 61)] _ [.agg (y1.a.cells).toArray, .agg (y0.a.cells).toArray] (.int .i64 (cmpD y1.a y0.a)) rfl rfl (fun _ _ => by kernel_rfl) (qcmp_n (fit_of hT.ok hall hy1).1 (fit_of hT.ok hall hy0).1 _) rfl ?_
      intro u82 hq
      replace Q1 := Q1.mo hq
      replace M := M.trans hq
      clear hq
      refine wl_b .leq 3 (.tmp 62) (.const (.int .i64 (0))) (.int .i64 (cmpD y1.a y0.a)) (.int .i64 (0)) (.bool true) (le3 hf80 _ _ _) ?_
      refine w_nil (xn_then (w_condT rfl (w_seq (w_reg ?_))))
      refine wl_m (.const (.int .i64 (140))) (.int .i64 (140)) ?_
      refine w_nil (xn_then (w_ret (xr_blk (xr_then (xr_then (xr_blk (xr_then ?_)))))))
      exact w_ret1 _ (.int .i64 (140)) rfl rfl ⟨congrArg (fun v => Ending.returned (.int .i64 v)) (Eq.symm (chk_low (by omega) (by omega) hall hy0 hy1 (by omega))), M⟩
     | false =>
      have hf80p := of_decide_eq_false hf80
      refine w_any 13 [.inl (pt k1 1), .inl (.slice x.pa x.st.length x.cap), .inl (.int .i64 ((i + 1 : Nat) : Int)), .inl (pt bp (op + (i + 1) * 18)), .inl (pt bp (op + (i + 1) * 18)), .inl (.agg (y1.a.cells).toArray), .inl (pt k1 1), .inl (.slice x.pa x.st.length x.cap), .inl (.int .i64 ((i + 1 : Nat) : Int)), .inl (.int .i64 ((i : Nat) : Int)), .inl (pt bq (oq + i * 18)), .inl (pt bq (oq + i * 18)), .inl (.agg (y0.a.cells).toArray)] [] (by kernel_rfl) (by kernel_rfl) (by kernel_rfl) (by kernel_rfl) rfl (by kernel_rfl) (by kernel_rfl) late_nil ?_ ?_ ?_
      ·exact Ds.none rfl
      ·refine ea_cons ?_ (ea_cons ?_ (ea_cons ?_ (ea_cons ?_ (ea_cons ?_ (ea_cons ?_ (ea_cons ?_ (ea_cons ?_ (ea_cons ?_ (ea_cons ?_ (ea_cons ?_ (ea_cons ?_ (ea_cons ?_ (ea_nil)))))))))))))
       ·exact og_eq _ rfl (fun f wf hq hd K hK => go_run rfl (wo_un (fun v => Instr.fieldAt 24 v 1) (.tmp 1) (pt k1 0) (pt k1 1) (fun _ => rfl) e80_1 (by kernel_rfl) (hK _ (Mo.refl _))))
       ·exact og_eq _ rfl (fun f wf hq hd K hK => have Q1 := Q1.mo hq; go_run rfl (wo_load 22 (.tmp 49) (pt k1 1) (.slice x.pa x.st.length x.cap) rfl (hd 0 rfl) (run_one Q1 22 1 rfl Try.underlying22 rfl) (hK _ (Mo.refl _))))
       ·exact og_eq _ rfl (fun f wf hq hd K hK => go_run rfl (wo_mv (.tmp 5) (.int .i64 ((i + 1 : Nat) : Int)) (fun _ => rfl) e80_i (hK _ (Mo.refl _))))
       ·exact og_eq _ rfl (fun f wf hq hd K hK => go_run rfl (wo_bin (fun x y => Instr.indexAt 22 x y) (.tmp 50) (.tmp 51) (.slice x.pa x.st.length x.cap) (.int .i64 ((i + 1 : Nat) : Int)) (pt bp (op + (i + 1) * 18)) (fun _ => rfl) (hd 1 rfl) (hd 2 rfl) (ix22 (i := i + 1) hpp hil _) (hK _ (Mo.refl _))))
       ·exact og_eq _ rfl (fun f wf hq hd K hK => go_run rfl (wo_un (fun v => Instr.fieldAt 45 v 0) (.tmp 52) (pt bp (op + (i + 1) * 18)) (pt bp (op + (i + 1) * 18)) (fun _ => rfl) (hd 3 rfl) (by kernel_rfl) (hK _ (Mo.refl _))))
       ·exact og_eq _ rfl (fun f wf hq hd K hK => go_run rfl (wo_load 33 (.tmp 53) (pt bp (op + (i + 1) * 18)) (.agg (y1.a.cells).toArray) rfl (hd 4 rfl) (D.run_partR (hRp.mo (M.trans hq)).at' 33 0 6 (y1.a.cells) rfl Try.underlying33 rfl sz33) (hK _ (Mo.refl _))))
       ·exact og_eq _ rfl (fun f wf hq hd K hK => go_run rfl (wo_un (fun v => Instr.fieldAt 24 v 1) (.tmp 1) (pt k1 0) (pt k1 1) (fun _ => rfl) e80_1 (by kernel_rfl) (hK _ (Mo.refl _))))
       ·exact og_eq _ rfl (fun f wf hq hd K hK => have Q1 := Q1.mo hq; go_run rfl (wo_load 22 (.tmp 55) (pt k1 1) (.slice x.pa x.st.length x.cap) rfl (hd 6 rfl) (run_one Q1 22 1 rfl Try.underlying22 rfl) (hK _ (Mo.refl _))))
       ·exact og_eq _ rfl (fun f wf hq hd K hK => go_run rfl (wo_mv (.tmp 5) (.int .i64 ((i + 1 : Nat) : Int)) (fun _ => rfl) e80_i (hK _ (Mo.refl _))))
       ·exact og_eq _ rfl (fun f wf hq hd K hK => go_run rfl (wo_bin (fun x y => do eqGuard .sub 3 (.tmp 57) (.const (.int .i64 (1))) x y; binOp .sub 3 x y) (.tmp 57) (.const (.int .i64 (1))) (.int .i64 ((i + 1 : Nat) : Int)) (.int .i64 (1)) (.int .i64 ((i : Nat) : Int)) (fun _ => rfl) (hd 8 rfl) rfl (sub1r (k := i) (by omega) _ _ _) (hK _ (Mo.refl _))))
       ·exact og_eq _ rfl (fun f wf hq hd K hK => go_run rfl (wo_bin (fun x y => Instr.indexAt 22 x y) (.tmp 56) (.tmp 58) (.slice x.pa x.st.length x.cap) (.int .i64 ((i : Nat) : Int)) (pt bq (oq + i * 18)) (fun _ => rfl) (hd 7 rfl) (hd 9 rfl) (ix22 (i := i) hpq hil0 _) (hK _ (Mo.refl _))))
       ·exact og_eq _ rfl (fun f wf hq hd K hK => go_run rfl (wo_un (fun v => Instr.fieldAt 45 v 0) (.tmp 59) (pt bq (oq + i * 18)) (pt bq (oq + i * 18)) (fun _ => rfl) (hd 10 rfl) (by kernel_rfl) (hK _ (Mo.refl _))))
       ·exact og_eq _ rfl (fun f wf hq hd K hK => go_run rfl (wo_load 33 (.tmp 60) (pt bq (oq + i * 18)) (.agg (y0.a.cells).toArray) rfl (hd 11 rfl) (D.run_partR (hRq.mo (M.trans hq)).at' 33 0 6 (y0.a.cells) rfl Try.underlying33 rfl sz33) (hK _ (Mo.refl _))))
      intro kf81 u81 hq hR hne
      replace Q1 := Q1.mo hq
      replace M := M.trans hq
      clear hq hR hne
      refine wl_call 24 [(.tmp 54), (.tmp 61)] _ [.agg (y1.a.cells).toArray, .agg (y0.a.cells).toArray] (.int .i64 (cmpD y1.a y0.a)) rfl rfl (fun _ _ => by kernel_rfl) (qcmp_n (fit_of hT.ok hall hy1).1 (fit_of hT.ok hall hy0).1 _) rfl ?_
      intro u82 hq
      replace Q1 := Q1.mo hq
      replace M := M.trans hq
      clear hq
      refine wl_b .leq 3 (.tmp 62) (.const (.int .i64 (0))) (.int .i64 (cmpD y1.a y0.a)) (.int .i64 (0)) (.bool false) (le3 hf80 _ _ _) ?_
      refine w_nil (xn_then (w_condF rfl (w_skip (xn_blk (xn_then (w_reg ?_))))))
      refine wl_mv (.tmp 5) (.int .i64 ((i + 1 : Nat) : Int)) (fun _ => rfl) e80_i rfl ?_
      refine wl_b .add 3 (.tmp 47) (.const (.int .i64 (1))) (.int .i64 ((i + 1 : Nat) : Int)) (.int .i64 (1)) (.int .i64 ((i + 1 + 1 : Nat) : Int)) (add1r (k := i + 1) (by omega) _ _ _) ?_
      refine wl_m (.tmp 48) (.int .i64 ((i + 1 + 1 : Nat) : Int)) ?_
      refine w_nil ?_
      exact xn_loop (x.st.length - (i + 1)) (by omega) ⟨i + 1, rfl, by omega, e80_1, rfl, Q1, (as_next has hy0 hy1 (by omega)), M⟩
    ·skip
     have hid : decide (i + 1 < x.st.length) = false := decide_eq_false hil
     refine w_seq (w_seq (w_reg ?_))
     refine wl_mv (.tmp 5) (.int .i64 ((i + 1 : Nat) : Int)) (fun _ => rfl) e80_i rfl ?_
     refine wl_un (fun v => Instr.fieldAt 24 v 1) (.tmp 1) (pt k1 0) (pt k1 1) (fun _ => rfl) e80_1 (by kernel_rfl) rfl ?_
     refine wl_l 22 (.tmp 43) (pt k1 1) (.slice x.pa x.st.length x.cap) (run_one Q1 22 1 rfl Try.underlying22 rfl) ?_
     refine wl_val (.int .i64 ((x.st.length : Nat) : Int)) (len22 _ _ _ _ _ (by exact rfl) _ _ _ _ _ _) rfl ?_
     refine wl_b .lss 3 (.tmp 42) (.tmp 45) (.int .i64 ((i + 1 : Nat) : Int)) (.int .i64 ((x.st.length : Nat) : Int)) (.bool false) (ltN hid _ _ _) ?_
     refine w_nil (xn_then (w_condF rfl (w_exit (xx_then (xx_then (xx_blk (xn_then (w_seq (w_reg ?_)))))))))
     refine wl_m (.const (.int .i64 (0))) (.int .i64 (0)) ?_
     refine w_nil (xn_then (w_ret ?_))
     exact w_ret1 _ (.int .i64 (0)) rfl rfl ⟨congrArg (fun v => Ending.returned (.int .i64 v)) (Eq.symm (chk_fine (by omega) (by omega) hall (as_end has (by omega)))), M⟩
end Go.Proofs.Ythehmmhnacomkaa
namespace Go.Proofs.Ythehmmhnacomkaa
open Go.RowKit D
def sameL (A B : List Stp) : Bool := decide (A.length = B.length) && (A.zip B).all (fun p => sS p.1 p.2)
def sameT (x y : Tb) : Bool := decide (x.nm = y.nm) && sameL x.st y.st
section
variable {A B : List Stp}
theorem same_ln (h : ¬ A.length = B.length) : sameL A B = false := by unfold sameL; simp [h]
theorem same_no {i : Nat} {a b : Stp} (ha : A[i]? = some a) (hb : B[i]? = some b) (h : sS a b = false) : sameL A B = false := by
 have : (A.zip B).all (fun p => sS p.1 p.2) = false := by
  rw [List.all_eq_false]
  refine ⟨(a, b), ?_, by simp [h]⟩
  refine List.mem_of_getElem? (i := i) ?_
  rw [List.getElem?_zip_eq_some]
  exact ⟨ha, hb⟩
 unfold sameL; rw [this, Bool.and_false]
theorem same_yes (h : A.length = B.length) (hs : ∀ j < A.length, ∀ a b, A[j]? = some a → B[j]? = some b → sS a b = true) : sameL A B = true := by
 unfold sameL
 simp only [Bool.and_eq_true, decide_eq_true_eq, List.all_eq_true]
 refine ⟨h, fun p hp => ?_⟩
 obtain ⟨j, hj⟩ := List.getElem?_of_mem hp
 rw [List.getElem?_zip_eq_some] at hj
 exact hs j (lt_of_get hj.1) p.1 p.2 hj.1 hj.2
theorem same_next {i : Nat} {a b : Stp} (h : ∀ j < i, ∀ a b, A[j]? = some a → B[j]? = some b → sS a b = true) (ha : A[i]? = some a) (hb : B[i]? = some b) (hs : sS a b = true) : ∀ j < i + 1, ∀ a b, A[j]? = some a → B[j]? = some b → sS a b = true := by
 intro j hj c d hc hd
 by_cases e : j = i
 ·subst e; rw [ha] at hc; rw [hb] at hd; cases hc; cases hd; exact hs
 ·exact h j (by omega) c d hc hd
theorem sameT_self (x : Tb) : sameT x x = true := by
 unfold sameT
 rw [same_yes rfl (fun j _ a b ha hb => by rw [ha] at hb; cases hb; exact sS_self a)]
 simp
end
theorem equal_n {x y : Tb} (w : World) (hX : LT w x) (hY : LT w y) : Calls Try.prog 28 #[.slice x.pa x.st.length x.cap, .slice y.pa y.st.length y.cap] w fun e9 w' => e9 = .returned (.bool (sameL x.st y.st)) ∧ Mo w w' := by
 refine w_enter 26 Try.func28 Try.ntmps28 rfl rfl ?_
 have M : Mo w w := Mo.refl _
 refine w_seq (w_reg ?_)
 refine wl_m (.const (.bool false)) (.bool false) ?_
 refine w_nil (xn_then (w_seq (w_seq (w_reg ?_))))
 refine wl_m (.tmp 0) (.slice x.pa x.st.length x.cap) ?_
 refine wl_val (.int .i64 ((x.st.length : Nat) : Int)) (len22 _ _ _ _ _ (by exact rfl) _ _ _ _ _ _) rfl ?_
 refine wl_m (.tmp 1) (.slice y.pa y.st.length y.cap) ?_
 refine wl_val (.int .i64 ((y.st.length : Nat) : Int)) (len22 _ _ _ _ _ (by exact rfl) _ _ _ _ _ _) rfl ?_
 cases hf0 : decide (((x.st.length : Nat) : Int) = ((y.st.length : Nat) : Int)) with
 | true =>
  have hf0p := of_decide_eq_true hf0
  refine wl_b .neq 3 (.tmp 7) (.tmp 9) (.int .i64 ((x.st.length : Nat) : Int)) (.int .i64 ((y.st.length : Nat) : Int)) (.bool false) (ne3 hf0 _ _ _) ?_
  refine w_nil (xn_then (w_condF rfl (w_skip (xn_then (w_seq (w_seq (w_reg ?_)))))))
  refine wl_m (.tmp 0) (.slice x.pa x.st.length x.cap) ?_
  refine wl_val (.int .i64 ((x.st.length : Nat) : Int)) (len22 _ _ _ _ _ (by exact rfl) _ _ _ _ _ _) rfl ?_
  refine wl_m (.const (.int .i64 (0))) (.int .i64 (0)) ?_
  refine w_nil (xn_then (w_block ?_))
  have hz9 := hX.sl.1
  unfold maxLen at hz9
  refine w_loop (fun m l w1 => ∃ i : Nat, m = x.st.length - i ∧ i ≤ x.st.length ∧ look l 0 = .slice x.pa x.st.length x.cap ∧ look l 1 = .slice y.pa y.st.length y.cap ∧ look l 12 = .int .i64 ((x.st.length : Nat) : Int) ∧ look l 13 = .int .i64 ((i : Nat) : Int) ∧ (∀ j < i, ∀ a b, x.st[j]? = some a → y.st[j]? = some b → sS a b = true) ∧ Mo w w1) _ ⟨0, rfl, Nat.zero_le _, rfl, rfl, rfl, rfl, (fun j hj => absurd hj (Nat.not_lt_zero j)), M⟩ ?_
  clear M
  rintro m l40 wl40 ⟨i, rfl, hi, e40_0, e40_1, e40_12, e40_i, hsm, M⟩
  by_cases hil : i < x.st.length
  ·skip
   have hid : decide (i < x.st.length) = true := decide_eq_true hil
   obtain ⟨a, ha⟩ := get_of_lt hil
   have hma := List.mem_of_getElem? ha
   obtain ⟨bp, op, hpp, hRp⟩ := D.SL.rw hX.sl ha
   have hil2 : i < y.st.length := by omega
   obtain ⟨b, hb⟩ := get_of_lt hil2
   have hmb := List.mem_of_getElem? hb
   obtain ⟨bq, oq, hpq, hRq⟩ := D.SL.rw hY.sl hb
   refine w_seq (w_reg ?_)
   refine wl_bin (fun x y => do eqGuard .lss 3 (.tmp 13) (.tmp 12) x y; binOp .lss 3 x y) (.tmp 13) (.tmp 12) (.int .i64 ((i : Nat) : Int)) (.int .i64 ((x.st.length : Nat) : Int)) (.bool true) (fun _ => rfl) e40_i e40_12 (ltN hid _ _ _) rfl ?_
   refine w_nil (xn_then (w_seq (w_condT rfl (w_skip (xn_then (w_seq (w_block (w_seq (w_reg ?_)))))))))
   refine wl_mv (.tmp 13) (.int .i64 ((i : Nat) : Int)) (fun _ => rfl) e40_i rfl ?_
   refine wl_m (.tmp 15) (.int .i64 ((i : Nat) : Int)) ?_
   refine w_nil (xn_then (w_seq ?_))
   cases hf30 : sS a b with
   | true =>
    refine w_any 8 [.inl (.slice x.pa x.st.length x.cap), .inl (.int .i64 ((i : Nat) : Int)), .inl (pt bp (op + i * 18)), .inl (.agg (a.cells).toArray), .inl (.slice y.pa y.st.length y.cap), .inl (.int .i64 ((i : Nat) : Int)), .inl (pt bq (oq + i * 18)), .inl (.agg (b.cells).toArray)] [] (by kernel_rfl) (by kernel_rfl) (by kernel_rfl) (by kernel_rfl) rfl (by kernel_rfl) (by kernel_rfl) late_nil ?_ ?_ ?_
    ·exact Ds.none rfl
    ·refine ea_cons ?_ (ea_cons ?_ (ea_cons ?_ (ea_cons ?_ (ea_cons ?_ (ea_cons ?_ (ea_cons ?_ (ea_cons ?_ (ea_nil))))))))
     ·exact og_eq _ rfl (fun f wf hq hd K hK => go_run rfl (wo_mv (.tmp 0) (.slice x.pa x.st.length x.cap) (fun _ => rfl) e40_0 (hK _ (Mo.refl _))))
     ·exact og_eq _ rfl (fun f wf hq hd K hK => go_run rfl (wo_mv (.tmp 5) (.int .i64 ((i : Nat) : Int)) (fun _ => rfl) rfl (hK _ (Mo.refl _))))
     ·exact og_eq _ rfl (fun f wf hq hd K hK => go_run rfl (wo_bin (fun x y => Instr.indexAt 22 x y) (.tmp 16) (.tmp 17) (.slice x.pa x.st.length x.cap) (.int .i64 ((i : Nat) : Int)) (pt bp (op + i * 18)) (fun _ => rfl) (hd 0 rfl) (hd 1 rfl) (ix22 (i := i) hpp hil _) (hK _ (Mo.refl _))))
     ·exact og_eq _ rfl (fun f wf hq hd K hK => go_run rfl (wo_load 45 (.tmp 18) (pt bp (op + i * 18)) (.agg (a.cells).toArray) rfl (hd 2 rfl) (D.run_partR (hRp.mo (M.trans hq)).at' 45 0 18 (a.cells) rfl Try.underlying45 rfl sz45) (hK _ (Mo.refl _))))
     ·exact og_eq _ rfl (fun f wf hq hd K hK => go_run rfl (wo_mv (.tmp 1) (.slice y.pa y.st.length y.cap) (fun _ => rfl) e40_1 (hK _ (Mo.refl _))))
     ·exact og_eq _ rfl (fun f wf hq hd K hK => go_run rfl (wo_mv (.tmp 5) (.int .i64 ((i : Nat) : Int)) (fun _ => rfl) rfl (hK _ (Mo.refl _))))
     ·exact og_eq _ rfl (fun f wf hq hd K hK => go_run rfl (wo_bin (fun x y => Instr.indexAt 22 x y) (.tmp 20) (.tmp 21) (.slice y.pa y.st.length y.cap) (.int .i64 ((i : Nat) : Int)) (pt bq (oq + i * 18)) (fun _ => rfl) (hd 4 rfl) (hd 5 rfl) (ix22 (i := i) hpq hil2 _) (hK _ (Mo.refl _))))
     ·exact og_eq _ rfl (fun f wf hq hd K hK => go_run rfl (wo_load 45 (.tmp 22) (pt bq (oq + i * 18)) (.agg (b.cells).toArray) rfl (hd 6 rfl) (D.run_partR (hRq.mo (M.trans hq)).at' 45 0 18 (b.cells) rfl Try.underlying45 rfl sz45) (hK _ (Mo.refl _))))
    intro kf41 u41 hq hR hne
    replace M := M.trans hq
    clear hq hR hne
    refine wl_b .neq 45 (.tmp 19) (.tmp 23) (.agg (a.cells).toArray) (.agg (b.cells).toArray) (.bool false) (neSp hf30 _ _ _) ?_
    refine w_nil (xn_then (w_condF rfl (w_skip (xn_blk (xn_then (w_reg ?_))))))
    refine wl_bin (fun x y => do eqGuard .add 3 (.tmp 13) (.const (.int .i64 (1))) x y; binOp .add 3 x y) (.tmp 13) (.const (.int .i64 (1))) (.int .i64 ((i : Nat) : Int)) (.int .i64 (1)) (.int .i64 ((i + 1 : Nat) : Int)) (fun _ => rfl) e40_i rfl (add1r (k := i) (by omega) _ _ _) rfl ?_
    refine wl_m (.tmp 25) (.int .i64 ((i + 1 : Nat) : Int)) ?_
    refine w_nil ?_
    exact xn_loop (x.st.length - (i + 1)) (by omega) ⟨i + 1, rfl, by omega, e40_0, e40_1, e40_12, rfl, (same_next hsm ha hb hf30), M⟩
   | false =>
    refine w_any 8 [.inl (.slice x.pa x.st.length x.cap), .inl (.int .i64 ((i : Nat) : Int)), .inl (pt bp (op + i * 18)), .inl (.agg (a.cells).toArray), .inl (.slice y.pa y.st.length y.cap), .inl (.int .i64 ((i : Nat) : Int)), .inl (pt bq (oq + i * 18)), .inl (.agg (b.cells).toArray)] [] (by kernel_rfl) (by kernel_rfl) (by kernel_rfl) (by kernel_rfl) rfl (by kernel_rfl) (by kernel_rfl) late_nil ?_ ?_ ?_
    ·exact Ds.none rfl
    ·refine ea_cons ?_ (ea_cons ?_ (ea_cons ?_ (ea_cons ?_ (ea_cons ?_ (ea_cons ?_ (ea_cons ?_ (ea_cons ?_ (ea_nil))))))))
     ·exact og_eq _ rfl (fun f wf hq hd K hK => go_run rfl (wo_mv (.tmp 0) (.slice x.pa x.st.length x.cap) (fun _ => rfl) e40_0 (hK _ (Mo.refl _))))
     ·exact og_eq _ rfl (fun f wf hq hd K hK => go_run rfl (wo_mv (.tmp 5) (.int .i64 ((i : Nat) : Int)) (fun _ => rfl) rfl (hK _ (Mo.refl _))))
     ·exact og_eq _ rfl (fun f wf hq hd K hK => go_run rfl (wo_bin (fun x y => Instr.indexAt 22 x y) (.tmp 16) (.tmp 17) (.slice x.pa x.st.length x.cap) (.int .i64 ((i : Nat) : Int)) (pt bp (op + i * 18)) (fun _ => rfl) (hd 0 rfl) (hd 1 rfl) (ix22 (i := i) hpp hil _) (hK _ (Mo.refl _))))
     ·exact og_eq _ rfl (fun f wf hq hd K hK => go_run rfl (wo_load 45 (.tmp 18) (pt bp (op + i * 18)) (.agg (a.cells).toArray) rfl (hd 2 rfl) (D.run_partR (hRp.mo (M.trans hq)).at' 45 0 18 (a.cells) rfl Try.underlying45 rfl sz45) (hK _ (Mo.refl _))))
     ·exact og_eq _ rfl (fun f wf hq hd K hK => go_run rfl (wo_mv (.tmp 1) (.slice y.pa y.st.length y.cap) (fun _ => rfl) e40_1 (hK _ (Mo.refl _))))
     ·exact og_eq _ rfl (fun f wf hq hd K hK => go_run rfl (wo_mv (.tmp 5) (.int .i64 ((i : Nat) : Int)) (fun _ => rfl) rfl (hK _ (Mo.refl _))))
     ·exact og_eq _ rfl (fun f wf hq hd K hK => go_run rfl (wo_bin (fun x y => Instr.indexAt 22 x y) (.tmp 20) (.tmp 21) (.slice y.pa y.st.length y.cap) (.int .i64 ((i : Nat) : Int)) (pt bq (oq + i * 18)) (fun _ => rfl) (hd 4 rfl) (hd 5 rfl) (ix22 (i := i) hpq hil2 _) (hK _ (Mo.refl _))))
     ·exact og_eq _ rfl (fun f wf hq hd K hK => go_run rfl (wo_load 45 (.tmp 22) (pt bq (oq + i * 18)) (.agg (b.cells).toArray) rfl (hd 6 rfl) (D.run_partR (hRq.mo (M.trans hq)).at' 45 0 18 (b.cells) rfl Try.underlying45 rfl sz45) (hK _ (Mo.refl _))))
    intro kf41 u41 hq hR hne
    replace M := M.trans hq
    clear hq hR hne
    refine wl_b .neq 45 (.tmp 19) (.tmp 23) (.agg (a.cells).toArray) (.agg (b.cells).toArray) (.bool true) (neSp hf30 _ _ _) ?_
    refine w_nil (xn_then (w_condT rfl (w_seq (w_reg ?_))))
    refine wl_m (.const (.bool false)) (.bool false) ?_
    refine w_nil (xn_then (w_ret (xr_blk (xr_then (xr_then (xr_blk (xr_then ?_)))))))
    exact w_ret1 _ (.bool false) rfl rfl ⟨congrArg (fun v => Ending.returned (.bool v)) (same_no ha hb hf30).symm, M⟩
  ·skip
   have hid : decide (i < x.st.length) = false := decide_eq_false hil
   have hie : i = x.st.length := by omega
   refine w_seq (w_reg ?_)
   refine wl_bin (fun x y => do eqGuard .lss 3 (.tmp 13) (.tmp 12) x y; binOp .lss 3 x y) (.tmp 13) (.tmp 12) (.int .i64 ((i : Nat) : Int)) (.int .i64 ((x.st.length : Nat) : Int)) (.bool false) (fun _ => rfl) e40_i e40_12 (ltN hid _ _ _) rfl ?_
   refine w_nil (xn_then (w_seq (w_condF rfl (w_exit (xx_then (xx_then (xx_blk (xn_then (w_seq (w_reg ?_))))))))))
   refine wl_m (.const (.bool true)) (.bool true) ?_
   refine w_nil (xn_then (w_ret ?_))
   exact w_ret1 _ (.bool true) rfl rfl ⟨congrArg (fun v => Ending.returned (.bool v)) (same_yes (by omega) (by rw [← hie]; exact hsm)).symm, M⟩
 | false =>
  have hf0p := of_decide_eq_false hf0
  refine wl_b .neq 3 (.tmp 7) (.tmp 9) (.int .i64 ((x.st.length : Nat) : Int)) (.int .i64 ((y.st.length : Nat) : Int)) (.bool true) (ne3 hf0 _ _ _) ?_
  refine w_nil (xn_then (w_condT rfl (w_seq (w_reg ?_))))
  refine wl_m (.const (.bool false)) (.bool false) ?_
  refine w_nil (xn_then (w_ret (xr_then ?_)))
  exact w_ret1 _ (.bool false) rfl rfl ⟨congrArg (fun v => Ending.returned (.bool v)) (same_ln (by omega)).symm, M⟩
theorem psame_n {x y : Tb} (w : World) (hX : LT w x) (hY : LT w y) : Calls Try.prog 11 #[.agg (x.cells).toArray, .agg (y.cells).toArray] w fun e9 w' => e9 = .returned (.bool (sameT x y)) ∧ Mo w w' := by
 refine w_enter 17 Try.func11 Try.ntmps11 rfl rfl ?_
 have M : Mo w w := Mo.refl _
 refine w_seq (w_reg ?_)
 refine wl_box 24 (.tmp 0) _ (((x.cells).toArray)) rfl rfl (fun _ => by kernel_rfl) rfl ?_
 intro k1 u1 hk hz hq Q1
 have N_k1 : w.heap.size ≤ k1 := by have := M.size; omega
 replace M := M.trans hq
 clear hk hz hq
 refine wl_box 24 (.tmp 1) _ (((y.cells).toArray)) rfl rfl (fun _ => by kernel_rfl) rfl ?_
 intro k2 u2 hk hz hq Q2
 have ne_k1_k2 : k1 ≠ k2 := by have := Q1.lt; omega
 have N_k2 : w.heap.size ≤ k2 := by have := M.size; omega
 replace Q1 := Q1.mo hq
 replace M := M.trans hq
 clear hk hz hq
 refine wl_m (.const (.bool false)) (.bool false) ?_
 refine w_nil (xn_then (w_seq (w_reg ?_)))
 refine wl_f 24 0 (.tmp 2) (pt k1 0) (pt k1 0) ?_
 refine wl_l 9 (.tmp 5) (pt k1 0) (.string x.nm) (run_one Q1 9 0 rfl Try.underlying9 rfl) ?_
 refine wl_f 24 0 (.tmp 3) (pt k2 0) (pt k2 0) ?_
 refine wl_l 9 (.tmp 7) (pt k2 0) (.string y.nm) (run_one Q2 9 0 rfl Try.underlying9 rfl) ?_
 cases hf0 : decide (x.nm = y.nm) with
 | true =>
  have hf0p := of_decide_eq_true hf0
  refine wl_b .eql 9 (.tmp 6) (.tmp 8) (.string x.nm) (.string y.nm) (.bool true) (s9 hf0 _ _ _) ?_
  refine wl_m (.tmp 9) (.bool true) ?_
  refine wl_f 24 1 (.tmp 2) (pt k1 0) (pt k1 1) ?_
  refine wl_l 22 (.tmp 11) (pt k1 1) (.slice x.pa x.st.length x.cap) (run_one Q1 22 1 rfl Try.underlying22 rfl) ?_
  refine wl_f 24 1 (.tmp 3) (pt k2 0) (pt k2 1) ?_
  refine wl_l 22 (.tmp 13) (pt k2 1) (.slice y.pa y.st.length y.cap) (run_one Q2 22 1 rfl Try.underlying22 rfl) ?_
  refine wl_call 28 [(.tmp 12), (.tmp 14)] _ [.slice x.pa x.st.length x.cap, .slice y.pa y.st.length y.cap] (.bool ((sameL x.st y.st))) rfl rfl (fun _ _ => by kernel_rfl) (equal_n _ (hX.mo M) (hY.mo M)) rfl ?_
  intro u3 hq
  replace Q1 := Q1.mo hq
  replace Q2 := Q2.mo hq
  replace M := M.trans hq
  clear hq
  refine wl_pick (.tmp 10) (.tmp 15) (.const (.bool false)) true (.bool ((sameL x.st y.st))) (fun _ => rfl) rfl rfl rfl ?_
  refine wl_m (.tmp 16) (.bool ((sameL x.st y.st))) ?_
  refine w_nil (xn_then (w_ret ?_))
  exact w_ret1 _ (.bool ((sameL x.st y.st))) rfl rfl ⟨congrArg (fun v => Ending.returned (.bool v)) (by simp [sameT, hf0p]), M⟩
 | false =>
  have hf0p := of_decide_eq_false hf0
  refine wl_b .eql 9 (.tmp 6) (.tmp 8) (.string x.nm) (.string y.nm) (.bool false) (s9 hf0 _ _ _) ?_
  refine wl_m (.tmp 9) (.bool false) ?_
  refine wl_skip rfl (wl_skip rfl (wl_skip rfl (wl_skip rfl (wl_skip rfl ?_))))
  refine wl_pick (.tmp 10) (.tmp 15) (.const (.bool false)) false (.bool false) (fun _ => rfl) rfl rfl rfl ?_
  refine wl_m (.tmp 16) (.bool false) ?_
  refine w_nil (xn_then (w_ret ?_))
  exact w_ret1 _ (.bool false) rfl rfl ⟨congrArg (fun v => Ending.returned (.bool v)) (by simp [sameT, hf0p]), M⟩
theorem qsame_n {x y : Tb} (w : World) (hX : LT w x) (hY : LT w y) : Calls Try.prog 12 #[.agg (x.cells).toArray, .agg (y.cells).toArray] w fun e9 w' => e9 = .returned (.bool (sameT x y)) ∧ Mo w w' := by
 refine w_enter 38 Try.func12 Try.ntmps12 rfl rfl ?_
 have M : Mo w w := Mo.refl _
 refine w_seq (w_reg ?_)
 refine wl_box 24 (.tmp 0) _ (((x.cells).toArray)) rfl rfl (fun _ => by kernel_rfl) rfl ?_
 intro k1 u1 hk hz hq Q1
 have N_k1 : w.heap.size ≤ k1 := by have := M.size; omega
 replace M := M.trans hq
 clear hk hz hq
 refine wl_box 24 (.tmp 1) _ (((y.cells).toArray)) rfl rfl (fun _ => by kernel_rfl) rfl ?_
 intro k2 u2 hk hz hq Q2
 have ne_k1_k2 : k1 ≠ k2 := by have := Q1.lt; omega
 have N_k2 : w.heap.size ≤ k2 := by have := M.size; omega
 replace Q1 := Q1.mo hq
 replace M := M.trans hq
 clear hk hz hq
 refine wl_m (.const (.bool false)) (.bool false) ?_
 refine w_nil (xn_then (w_seq (w_seq (w_reg ?_))))
 refine wl_f 24 0 (.tmp 2) (pt k1 0) (pt k1 0) ?_
 refine wl_l 9 (.tmp 6) (pt k1 0) (.string x.nm) (run_one Q1 9 0 rfl Try.underlying9 rfl) ?_
 refine wl_f 24 0 (.tmp 3) (pt k2 0) (pt k2 0) ?_
 refine wl_l 9 (.tmp 8) (pt k2 0) (.string y.nm) (run_one Q2 9 0 rfl Try.underlying9 rfl) ?_
 cases hf0 : decide (x.nm = y.nm) with
 | true =>
  have hf0p := of_decide_eq_true hf0
  refine wl_b .neq 9 (.tmp 7) (.tmp 9) (.string x.nm) (.string y.nm) (.bool false) (sn9 hf0 _ _ _) ?_
  refine wl_m (.tmp 10) (.bool false) ?_
  refine wl_f 24 1 (.tmp 2) (pt k1 0) (pt k1 1) ?_
  refine wl_l 22 (.tmp 12) (pt k1 1) (.slice x.pa x.st.length x.cap) (run_one Q1 22 1 rfl Try.underlying22 rfl) ?_
  refine wl_val (.int .i64 ((x.st.length : Nat) : Int)) (len22 _ _ _ _ _ (by exact rfl) _ _ _ _ _ _) rfl ?_
  refine wl_f 24 1 (.tmp 3) (pt k2 0) (pt k2 1) ?_
  refine wl_l 22 (.tmp 15) (pt k2 1) (.slice y.pa y.st.length y.cap) (run_one Q2 22 1 rfl Try.underlying22 rfl) ?_
  refine wl_val (.int .i64 ((y.st.length : Nat) : Int)) (len22 _ _ _ _ _ (by exact rfl) _ _ _ _ _ _) rfl ?_
  cases hf1 : decide (((x.st.length : Nat) : Int) = ((y.st.length : Nat) : Int)) with
  | true =>
   have hf1p := of_decide_eq_true hf1
   refine wl_b .neq 3 (.tmp 14) (.tmp 17) (.int .i64 ((x.st.length : Nat) : Int)) (.int .i64 ((y.st.length : Nat) : Int)) (.bool false) (ne3 hf1 _ _ _) ?_
   refine wl_pick (.tmp 11) (.const (.bool true)) (.tmp 18) false (.bool false) (fun _ => rfl) rfl rfl rfl ?_
   refine w_nil (xn_then (w_condF rfl (w_skip (xn_then (w_seq (w_seq (w_reg ?_)))))))
   refine wl_m (.const (.int .i64 (0))) (.int .i64 (0)) ?_
   refine w_nil (xn_then (w_block ?_))
   have hz9 := hX.sl.1
   unfold maxLen at hz9
   refine w_loop (fun m l w1 => ∃ i : Nat, m = x.st.length - i ∧ i ≤ x.st.length ∧ look l 2 = pt k1 0 ∧ look l 3 = pt k2 0 ∧ look l 5 = .int .i64 ((i : Nat) : Int) ∧ At w1 k1 (x.cells) ∧ At w1 k2 (y.cells) ∧ (∀ j < i, ∀ a b, x.st[j]? = some a → y.st[j]? = some b → sS a b = true) ∧ Mo w w1) _ ⟨0, rfl, Nat.zero_le _, rfl, rfl, rfl, Q1, Q2, (fun j hj => absurd hj (Nat.not_lt_zero j)), M⟩ ?_
   clear Q1 Q2 M
   rintro m l40 wl40 ⟨i, rfl, hi, e40_2, e40_3, e40_i, Q1, Q2, hsm, M⟩
   by_cases hil : i < x.st.length
   ·skip
    have hid : decide (i < x.st.length) = true := decide_eq_true hil
    obtain ⟨a, ha⟩ := get_of_lt hil
    have hma := List.mem_of_getElem? ha
    obtain ⟨bp, op, hpp, hRp⟩ := D.SL.rw hX.sl ha
    have hil2 : i < y.st.length := by omega
    obtain ⟨b, hb⟩ := get_of_lt hil2
    have hmb := List.mem_of_getElem? hb
    obtain ⟨bq, oq, hpq, hRq⟩ := D.SL.rw hY.sl hb
    refine w_seq (w_seq (w_reg ?_))
    refine wl_mv (.tmp 5) (.int .i64 ((i : Nat) : Int)) (fun _ => rfl) e40_i rfl ?_
    refine wl_un (fun v => Instr.fieldAt 24 v 1) (.tmp 2) (pt k1 0) (pt k1 1) (fun _ => rfl) e40_2 (by kernel_rfl) rfl ?_
    refine wl_l 22 (.tmp 21) (pt k1 1) (.slice x.pa x.st.length x.cap) (run_one Q1 22 1 rfl Try.underlying22 rfl) ?_
    refine wl_val (.int .i64 ((x.st.length : Nat) : Int)) (len22 _ _ _ _ _ (by exact rfl) _ _ _ _ _ _) rfl ?_
    refine wl_b .lss 3 (.tmp 20) (.tmp 23) (.int .i64 ((i : Nat) : Int)) (.int .i64 ((x.st.length : Nat) : Int)) (.bool true) (ltN hid _ _ _) ?_
    refine w_nil (xn_then (w_condT rfl (w_skip (xn_then (w_seq (w_block (w_seq ?_)))))))
    cases hf30 : sS a b with
    | true =>
     refine w_any 10 [.inl (pt k1 1), .inl (.slice x.pa x.st.length x.cap), .inl (.int .i64 ((i : Nat) : Int)), .inl (pt bp (op + i * 18)), .inl (.agg (a.cells).toArray), .inl (pt k2 1), .inl (.slice y.pa y.st.length y.cap), .inl (.int .i64 ((i : Nat) : Int)), .inl (pt bq (oq + i * 18)), .inl (.agg (b.cells).toArray)] [] (by kernel_rfl) (by kernel_rfl) (by kernel_rfl) (by kernel_rfl) rfl (by kernel_rfl) (by kernel_rfl) late_nil ?_ ?_ ?_
     ·exact Ds.none rfl
     ·refine ea_cons ?_ (ea_cons ?_ (ea_cons ?_ (ea_cons ?_ (ea_cons ?_ (ea_cons ?_ (ea_cons ?_ (ea_cons ?_ (ea_cons ?_ (ea_cons ?_ (ea_nil))))))))))
      ·exact og_eq _ rfl (fun f wf hq hd K hK => go_run rfl (wo_un (fun v => Instr.fieldAt 24 v 1) (.tmp 2) (pt k1 0) (pt k1 1) (fun _ => rfl) e40_2 (by kernel_rfl) (hK _ (Mo.refl _))))
      ·exact og_eq _ rfl (fun f wf hq hd K hK => have Q1 := Q1.mo hq; go_run rfl (wo_load 22 (.tmp 27) (pt k1 1) (.slice x.pa x.st.length x.cap) rfl (hd 0 rfl) (run_one Q1 22 1 rfl Try.underlying22 rfl) (hK _ (Mo.refl _))))
      ·exact og_eq _ rfl (fun f wf hq hd K hK => go_run rfl (wo_mv (.tmp 5) (.int .i64 ((i : Nat) : Int)) (fun _ => rfl) e40_i (hK _ (Mo.refl _))))
      ·exact og_eq _ rfl (fun f wf hq hd K hK => go_run rfl (wo_bin (fun x y => Instr.indexAt 22 x y) (.tmp 28) (.tmp 29) (.slice x.pa x.st.length x.cap) (.int .i64 ((i : Nat) : Int)) (pt bp (op + i * 18)) (fun _ => rfl) (hd 1 rfl) (hd 2 rfl) (ix22 (i := i) hpp hil _) (hK _ (Mo.refl _))))
      ·exact og_eq _ rfl (fun f wf hq hd K hK => go_run rfl (wo_load 45 (.tmp 30) (pt bp (op + i * 18)) (.agg (a.cells).toArray) rfl (hd 3 rfl) (D.run_partR (hRp.mo (M.trans hq)).at' 45 0 18 (a.cells) rfl Try.underlying45 rfl sz45) (hK _ (Mo.refl _))))
      ·exact og_eq _ rfl (fun f wf hq hd K hK => go_run rfl (wo_un (fun v => Instr.fieldAt 24 v 1) (.tmp 3) (pt k2 0) (pt k2 1) (fun _ => rfl) e40_3 (by kernel_rfl) (hK _ (Mo.refl _))))
      ·exact og_eq _ rfl (fun f wf hq hd K hK => have Q2 := Q2.mo hq; go_run rfl (wo_load 22 (.tmp 32) (pt k2 1) (.slice y.pa y.st.length y.cap) rfl (hd 5 rfl) (run_one Q2 22 1 rfl Try.underlying22 rfl) (hK _ (Mo.refl _))))
      ·exact og_eq _ rfl (fun f wf hq hd K hK => go_run rfl (wo_mv (.tmp 5) (.int .i64 ((i : Nat) : Int)) (fun _ => rfl) e40_i (hK _ (Mo.refl _))))
      ·exact og_eq _ rfl (fun f wf hq hd K hK => go_run rfl (wo_bin (fun x y => Instr.indexAt 22 x y) (.tmp 33) (.tmp 34) (.slice y.pa y.st.length y.cap) (.int .i64 ((i : Nat) : Int)) (pt bq (oq + i * 18)) (fun _ => rfl) (hd 6 rfl) (hd 7 rfl) (ix22 (i := i) hpq hil2 _) (hK _ (Mo.refl _))))
      ·exact og_eq _ rfl (fun f wf hq hd K hK => go_run rfl (wo_load 45 (.tmp 35) (pt bq (oq + i * 18)) (.agg (b.cells).toArray) rfl (hd 8 rfl) (D.run_partR (hRq.mo (M.trans hq)).at' 45 0 18 (b.cells) rfl Try.underlying45 rfl sz45) (hK _ (Mo.refl _))))
     intro kf41 u41 hq hR hne
     replace Q1 := Q1.mo hq
     replace Q2 := Q2.mo hq
     replace M := M.trans hq
     clear hq hR hne
     refine wl_b .neq 45 (.tmp 31) (.tmp 36) (.agg (a.cells).toArray) (.agg (b.cells).toArray) (.bool false) (neSp hf30 _ _ _) ?_
     refine w_nil (xn_then (w_condF rfl (w_skip (xn_blk (xn_then (w_reg ?_))))))
     refine wl_mv (.tmp 5) (.int .i64 ((i : Nat) : Int)) (fun _ => rfl) e40_i rfl ?_
     refine wl_b .add 3 (.tmp 25) (.const (.int .i64 (1))) (.int .i64 ((i : Nat) : Int)) (.int .i64 (1)) (.int .i64 ((i + 1 : Nat) : Int)) (add1r (k := i) (by omega) _ _ _) ?_
     refine wl_m (.tmp 26) (.int .i64 ((i + 1 : Nat) : Int)) ?_
     refine w_nil ?_
     exact xn_loop (x.st.length - (i + 1)) (by omega) ⟨i + 1, rfl, by omega, e40_2, e40_3, rfl, Q1, Q2, (same_next hsm ha hb hf30), M⟩
    | false =>
     refine w_any 10 [.inl (pt k1 1), .inl (.slice x.pa x.st.length x.cap), .inl (.int .i64 ((i : Nat) : Int)), .inl (pt bp (op + i * 18)), .inl (.agg (a.cells).toArray), .inl (pt k2 1), .inl (.slice y.pa y.st.length y.cap), .inl (.int .i64 ((i : Nat) : Int)), .inl (pt bq (oq + i * 18)), .inl (.agg (b.cells).toArray)] [] (by kernel_rfl) (by kernel_rfl) (by kernel_rfl) (by kernel_rfl) rfl (by kernel_rfl) (by kernel_rfl) late_nil ?_ ?_ ?_
     ·exact Ds.none rfl
     ·refine ea_cons ?_ (ea_cons ?_ (ea_cons ?_ (ea_cons ?_ (ea_cons ?_ (ea_cons ?_ (ea_cons ?_ (ea_cons ?_ (ea_cons ?_ (ea_cons ?_ (ea_nil))))))))))
      ·exact og_eq _ rfl (fun f wf hq hd K hK => go_run rfl (wo_un (fun v => Instr.fieldAt 24 v 1) (.tmp 2) (pt k1 0) (pt k1 1) (fun _ => rfl) e40_2 (by kernel_rfl) (hK _ (Mo.refl _))))
      ·exact og_eq _ rfl (fun f wf hq hd K hK => have Q1 := Q1.mo hq; go_run rfl (wo_load 22 (.tmp 27) (pt k1 1) (.slice x.pa x.st.length x.cap) rfl (hd 0 rfl) (run_one Q1 22 1 rfl Try.underlying22 rfl) (hK _ (Mo.refl _))))
      ·exact og_eq _ rfl (fun f wf hq hd K hK => go_run rfl (wo_mv (.tmp 5) (.int .i64 ((i : Nat) : Int)) (fun _ => rfl) e40_i (hK _ (Mo.refl _))))
      ·exact og_eq _ rfl (fun f wf hq hd K hK => go_run rfl (wo_bin (fun x y => Instr.indexAt 22 x y) (.tmp 28) (.tmp 29) (.slice x.pa x.st.length x.cap) (.int .i64 ((i : Nat) : Int)) (pt bp (op + i * 18)) (fun _ => rfl) (hd 1 rfl) (hd 2 rfl) (ix22 (i := i) hpp hil _) (hK _ (Mo.refl _))))
      ·exact og_eq _ rfl (fun f wf hq hd K hK => go_run rfl (wo_load 45 (.tmp 30) (pt bp (op + i * 18)) (.agg (a.cells).toArray) rfl (hd 3 rfl) (D.run_partR (hRp.mo (M.trans hq)).at' 45 0 18 (a.cells) rfl Try.underlying45 rfl sz45) (hK _ (Mo.refl _))))
      ·exact og_eq _ rfl (fun f wf hq hd K hK => go_run rfl (wo_un (fun v => Instr.fieldAt 24 v 1) (.tmp 3) (pt k2 0) (pt k2 1) (fun _ => rfl) e40_3 (by kernel_rfl) (hK _ (Mo.refl _))))
      ·exact og_eq _ rfl (fun f wf hq hd K hK => have Q2 := Q2.mo hq; go_run rfl (wo_load 22 (.tmp 32) (pt k2 1) (.slice y.pa y.st.length y.cap) rfl (hd 5 rfl) (run_one Q2 22 1 rfl Try.underlying22 rfl) (hK _ (Mo.refl _))))
      ·exact og_eq _ rfl (fun f wf hq hd K hK => go_run rfl (wo_mv (.tmp 5) (.int .i64 ((i : Nat) : Int)) (fun _ => rfl) e40_i (hK _ (Mo.refl _))))
      ·exact og_eq _ rfl (fun f wf hq hd K hK => go_run rfl (wo_bin (fun x y => Instr.indexAt 22 x y) (.tmp 33) (.tmp 34) (.slice y.pa y.st.length y.cap) (.int .i64 ((i : Nat) : Int)) (pt bq (oq + i * 18)) (fun _ => rfl) (hd 6 rfl) (hd 7 rfl) (ix22 (i := i) hpq hil2 _) (hK _ (Mo.refl _))))
      ·exact og_eq _ rfl (fun f wf hq hd K hK => go_run rfl (wo_load 45 (.tmp 35) (pt bq (oq + i * 18)) (.agg (b.cells).toArray) rfl (hd 8 rfl) (D.run_partR (hRq.mo (M.trans hq)).at' 45 0 18 (b.cells) rfl Try.underlying45 rfl sz45) (hK _ (Mo.refl _))))
     intro kf41 u41 hq hR hne
     replace Q1 := Q1.mo hq
     replace Q2 := Q2.mo hq
     replace M := M.trans hq
     clear hq hR hne
     refine wl_b .neq 45 (.tmp 31) (.tmp 36) (.agg (a.cells).toArray) (.agg (b.cells).toArray) (.bool true) (neSp hf30 _ _ _) ?_
     refine w_nil (xn_then (w_condT rfl (w_seq (w_reg ?_))))
     refine wl_m (.const (.bool false)) (.bool false) ?_
     refine w_nil (xn_then (w_ret (xr_blk (xr_then (xr_then (xr_blk (xr_then ?_)))))))
     exact w_ret1 _ (.bool false) rfl rfl ⟨congrArg (fun v => Ending.returned (.bool v)) (by unfold sameT; rw [same_no ha hb hf30]; simp [hf0p]), M⟩
   ·skip
    have hid : decide (i < x.st.length) = false := decide_eq_false hil
    have hie : i = x.st.length := by omega
    refine w_seq (w_seq (w_reg ?_))
    refine wl_mv (.tmp 5) (.int .i64 ((i : Nat) : Int)) (fun _ => rfl) e40_i rfl ?_
    refine wl_un (fun v => Instr.fieldAt 24 v 1) (.tmp 2) (pt k1 0) (pt k1 1) (fun _ => rfl) e40_2 (by kernel_rfl) rfl ?_
    refine wl_l 22 (.tmp 21) (pt k1 1) (.slice x.pa x.st.length x.cap) (run_one Q1 22 1 rfl Try.underlying22 rfl) ?_
    refine wl_val (.int .i64 ((x.st.length : Nat) : Int)) (len22 _ _ _ _ _ (by exact rfl) _ _ _ _ _ _) rfl ?_
    refine wl_b .lss 3 (.tmp 20) (.tmp 23) (.int .i64 ((i : Nat) : Int)) (.int .i64 ((x.st.length : Nat) : Int)) (.bool false) (ltN hid _ _ _) ?_
    refine w_nil (xn_then (w_condF rfl (w_exit (xx_then (xx_then (xx_blk (xn_then (w_seq (w_reg ?_)))))))))
    refine wl_m (.const (.bool true)) (.bool true) ?_
    refine w_nil (xn_then (w_ret ?_))
    exact w_ret1 _ (.bool true) rfl rfl ⟨congrArg (fun v => Ending.returned (.bool v)) (by unfold sameT; rw [same_yes (by omega) (by rw [← hie]; exact hsm)]; simp [hf0p]), M⟩
  | false =>
   have hf1p := of_decide_eq_false hf1
   refine wl_b .neq 3 (.tmp 14) (.tmp 17) (.int .i64 ((x.st.length : Nat) : Int)) (.int .i64 ((y.st.length : Nat) : Int)) (.bool true) (ne3 hf1 _ _ _) ?_
   refine wl_pick (.tmp 11) (.const (.bool true)) (.tmp 18) false (.bool true) (fun _ => rfl) rfl rfl rfl ?_
   refine w_nil (xn_then (w_condT rfl (w_seq (w_reg ?_))))
   refine wl_m (.const (.bool false)) (.bool false) ?_
   refine w_nil (xn_then (w_ret (xr_then ?_)))
   exact w_ret1 _ (.bool false) rfl rfl ⟨congrArg (fun v => Ending.returned (.bool v)) (by unfold sameT; rw [same_ln (by omega)]; simp [hf0p]), M⟩
 | false =>
  have hf0p := of_decide_eq_false hf0
  refine wl_b .neq 9 (.tmp 7) (.tmp 9) (.string x.nm) (.string y.nm) (.bool true) (sn9 hf0 _ _ _) ?_
  refine wl_m (.tmp 10) (.bool true) ?_
  refine wl_skip rfl (wl_skip rfl (wl_skip rfl (wl_skip rfl (wl_skip rfl (wl_skip rfl (wl_skip rfl ?_))))))
  refine wl_pick (.tmp 11) (.const (.bool true)) (.tmp 18) true (.bool true) (fun _ => rfl) rfl rfl rfl ?_
  refine w_nil (xn_then (w_condT rfl (w_seq (w_reg ?_))))
  refine wl_m (.const (.bool false)) (.bool false) ?_
  refine w_nil (xn_then (w_ret (xr_then ?_)))
  exact w_ret1 _ (.bool false) rfl rfl ⟨congrArg (fun v => Ending.returned (.bool v)) (by simp [sameT, hf0p]), M⟩
end Go.Proofs.Ythehmmhnacomkaa
namespace Go.Proofs.Ythehmmhnacomkaa
open Go.RowKit D
theorem checks_n {x y : Tb} (w : World) (hX : LT w x) (hY : LT w y) : Calls Try.prog 3 #[.agg (x.cells).toArray, .agg (y.cells).toArray] w fun e9 w' => e9 = .returned (.bool true) ∧ Mo w w' := by
 refine w_enter 27 Try.func3 Try.ntmps3 rfl rfl ?_
 have M : Mo w w := Mo.refl _
 refine w_seq (w_reg ?_)
 refine wl_box 24 (.tmp 0) _ (((x.cells).toArray)) rfl rfl (fun _ => by kernel_rfl) rfl ?_
 intro k1 u1 hk hz hq Q1
 have N_k1 : w.heap.size ≤ k1 := by have := M.size; omega
 replace M := M.trans hq
 clear hk hz hq
 refine wl_box 24 (.tmp 1) _ (((y.cells).toArray)) rfl rfl (fun _ => by kernel_rfl) rfl ?_
 intro k2 u2 hk hz hq Q2
 have ne_k1_k2 : k1 ≠ k2 := by have := Q1.lt; omega
 have N_k2 : w.heap.size ≤ k2 := by have := M.size; omega
 replace Q1 := Q1.mo hq
 replace M := M.trans hq
 clear hk hz hq
 refine wl_m (.const (.bool false)) (.bool false) ?_
 refine w_nil (xn_then (w_seq ?_))
 refine w_any 20 [.inl (.bool true), .inl (.bool true), .inl (.agg (x.cells).toArray), .inl (.int .i64 (chkT x.st)), .inl (.agg (x.cells).toArray), .inl (.int .i64 (chkT x.st)), .inl (.bool true), .inl (.bool true), .inl (.bool true), .inl (.agg (x.cells).toArray), .inl (.agg (y.cells).toArray), .inl (.bool ((sameT x y))), .inl (.agg (x.cells).toArray), .inl (.agg (y.cells).toArray), .inl (.bool ((sameT x y))), .inl (.bool true), .inl (.bool true), .inl (.bool true), .inl (.agg (x.cells).toArray), .inl (.agg (x.cells).toArray)] [] (by kernel_rfl) (by kernel_rfl) (by kernel_rfl) (by kernel_rfl) rfl (by kernel_rfl) (by kernel_rfl) late_nil ?_ ?_ ?_
 ·exact Ds.none rfl
 ·refine ea_cons ?_ (ea_cons ?_ (ea_cons ?_ (ea_cons ?_ (ea_cons ?_ (ea_cons ?_ (ea_cons ?_ (ea_cons ?_ (ea_cons ?_ (ea_cons ?_ (ea_cons ?_ (ea_cons ?_ (ea_cons ?_ (ea_cons ?_ (ea_cons ?_ (ea_cons ?_ (ea_cons ?_ (ea_cons ?_ (ea_cons ?_ (ea_cons ?_ (ea_nil))))))))))))))))))))
  ·exact og_eq _ rfl (fun f wf hq hd K hK => go_run rfl (wo_call 8 [] _ [] (.bool true) rfl rfl (fun _ _ => by kernel_rfl) (begun_n _) hK))
  ·exact og_eq _ rfl (fun f wf hq hd K hK => go_run rfl (wo_mv (.tmp 5) (.bool true) (fun _ => rfl) (hd 0 rfl) (hK _ (Mo.refl _))))
  ·exact og_eq _ rfl (fun f wf hq hd K hK => have Q1 := Q1.mo hq; go_run (wnt_g rfl rfl rfl (hd 1 rfl) rfl) (wo_load 24 (.tmp 2) (pt k1 0) (.agg (x.cells).toArray) rfl rfl (run_row Q1 24 0 2 (x.cells) rfl Try.underlying24 rfl szT24) (hK _ (Mo.refl _))))
  ·exact og_eq _ rfl (fun f wf hq hd K hK => go_run (wnt_g rfl rfl rfl (hd 1 rfl) rfl) (wo_call 9 [(.tmp 7)] _ [.agg (x.cells).toArray] (.int .i64 (chkT x.st)) rfl (li1 (hd 2 rfl)) (fun _ _ => by kernel_rfl) (pck_n _ (hX.mo (M.trans hq))) hK))
  ·exact og_eq _ rfl (fun f wf hq hd K hK => have Q1 := Q1.mo hq; go_run (wnt_g rfl rfl rfl (hd 1 rfl) rfl) (wo_load 24 (.tmp 2) (pt k1 0) (.agg (x.cells).toArray) rfl rfl (run_row Q1 24 0 2 (x.cells) rfl Try.underlying24 rfl szT24) (hK _ (Mo.refl _))))
  ·exact og_eq _ rfl (fun f wf hq hd K hK => go_run (wnt_g rfl rfl rfl (hd 1 rfl) rfl) (wo_call 10 [(.tmp 9)] _ [.agg (x.cells).toArray] (.int .i64 (chkT x.st)) rfl (li1 (hd 4 rfl)) (fun _ _ => by kernel_rfl) (qck_n _ (hX.mo (M.trans hq))) hK))
  ·exact og_eq _ rfl (fun f wf hq hd K hK => go_run (wnt_g rfl rfl rfl (hd 1 rfl) rfl) (wo_bin (fun x y => do eqGuard .eql 26 (.tmp 8) (.tmp 10) x y; binOp .eql 26 x y) (.tmp 8) (.tmp 10) (.int .i64 (chkT x.st)) (.int .i64 (chkT x.st)) (.bool true) (fun _ => rfl) (hd 3 rfl) (hd 5 rfl) (eq34 (r := true) (decide_eq_true rfl) _ _ _) (hK _ (Mo.refl _))))
  ·exact og_eq _ rfl (fun f wf hq hd K hK => go_run rfl (wo_pick (.tmp 6) (.tmp 11) (.const (.bool false)) true (.bool true) (fun _ => rfl) (hd 1 rfl) (hd 6 rfl) (hK _ (Mo.refl _))))
  ·exact og_eq _ rfl (fun f wf hq hd K hK => go_run rfl (wo_mv (.tmp 12) (.bool true) (fun _ => rfl) (hd 7 rfl) (hK _ (Mo.refl _))))
  ·exact og_eq _ rfl (fun f wf hq hd K hK => have Q1 := Q1.mo hq; go_run (wnt_g rfl rfl rfl (hd 8 rfl) rfl) (wo_load 24 (.tmp 2) (pt k1 0) (.agg (x.cells).toArray) rfl rfl (run_row Q1 24 0 2 (x.cells) rfl Try.underlying24 rfl szT24) (hK _ (Mo.refl _))))
  ·exact og_eq _ rfl (fun f wf hq hd K hK => have Q2 := Q2.mo hq; go_run (wnt_g rfl rfl rfl (hd 8 rfl) rfl) (wo_load 24 (.tmp 3) (pt k2 0) (.agg (y.cells).toArray) rfl rfl (run_row Q2 24 0 2 (y.cells) rfl Try.underlying24 rfl szT24) (hK _ (Mo.refl _))))
  ·exact og_eq _ rfl (fun f wf hq hd K hK => go_run (wnt_g rfl rfl rfl (hd 8 rfl) rfl) (wo_call 11 [(.tmp 14), (.tmp 15)] _ [.agg (x.cells).toArray, .agg (y.cells).toArray] (.bool ((sameT x y))) rfl (li2 (hd 9 rfl) (hd 10 rfl)) (fun _ _ => by kernel_rfl) (psame_n _ (hX.mo (M.trans hq)) (hY.mo (M.trans hq))) hK))
  ·exact og_eq _ rfl (fun f wf hq hd K hK => have Q1 := Q1.mo hq; go_run (wnt_g rfl rfl rfl (hd 8 rfl) rfl) (wo_load 24 (.tmp 2) (pt k1 0) (.agg (x.cells).toArray) rfl rfl (run_row Q1 24 0 2 (x.cells) rfl Try.underlying24 rfl szT24) (hK _ (Mo.refl _))))
  ·exact og_eq _ rfl (fun f wf hq hd K hK => have Q2 := Q2.mo hq; go_run (wnt_g rfl rfl rfl (hd 8 rfl) rfl) (wo_load 24 (.tmp 3) (pt k2 0) (.agg (y.cells).toArray) rfl rfl (run_row Q2 24 0 2 (y.cells) rfl Try.underlying24 rfl szT24) (hK _ (Mo.refl _))))
  ·exact og_eq _ rfl (fun f wf hq hd K hK => go_run (wnt_g rfl rfl rfl (hd 8 rfl) rfl) (wo_call 12 [(.tmp 17), (.tmp 18)] _ [.agg (x.cells).toArray, .agg (y.cells).toArray] (.bool ((sameT x y))) rfl (li2 (hd 12 rfl) (hd 13 rfl)) (fun _ _ => by kernel_rfl) (qsame_n _ (hX.mo (M.trans hq)) (hY.mo (M.trans hq))) hK))
  ·exact og_eq _ rfl (fun f wf hq hd K hK => go_run (wnt_g rfl rfl rfl (hd 8 rfl) rfl) (wo_bin (fun x y => do eqGuard .eql 4 (.tmp 16) (.tmp 19) x y; binOp .eql 4 x y) (.tmp 16) (.tmp 19) (.bool ((sameT x y))) (.bool ((sameT x y))) (.bool true) (fun _ => rfl) (hd 11 rfl) (hd 14 rfl) (eq4b (r := true) (beq_self_eq_true _) _ _ _) (hK _ (Mo.refl _))))
  ·exact og_eq _ rfl (fun f wf hq hd K hK => go_run rfl (wo_pick (.tmp 13) (.tmp 20) (.const (.bool false)) true (.bool true) (fun _ => rfl) (hd 8 rfl) (hd 15 rfl) (hK _ (Mo.refl _))))
  ·exact og_eq _ rfl (fun f wf hq hd K hK => go_run rfl (wo_mv (.tmp 21) (.bool true) (fun _ => rfl) (hd 16 rfl) (hK _ (Mo.refl _))))
  ·exact og_eq _ rfl (fun f wf hq hd K hK => have Q1 := Q1.mo hq; go_run (wnt_g rfl rfl rfl (hd 17 rfl) rfl) (wo_load 24 (.tmp 2) (pt k1 0) (.agg (x.cells).toArray) rfl rfl (run_row Q1 24 0 2 (x.cells) rfl Try.underlying24 rfl szT24) (hK _ (Mo.refl _))))
  ·exact og_eq _ rfl (fun f wf hq hd K hK => have Q1 := Q1.mo hq; go_run (wnt_g rfl rfl rfl (hd 17 rfl) rfl) (wo_load 24 (.tmp 2) (pt k1 0) (.agg (x.cells).toArray) rfl rfl (run_row Q1 24 0 2 (x.cells) rfl Try.underlying24 rfl szT24) (hK _ (Mo.refl _))))
 intro kf3 u3 hq hR hne
 replace Q1 := Q1.mo hq
 replace Q2 := Q2.mo hq
 replace M := M.trans hq
 clear hq hR hne
 refine wl_call 11 [(.tmp 23), (.tmp 24)] _ [.agg (x.cells).toArray, .agg (x.cells).toArray] (.bool true) rfl rfl (fun _ _ => by kernel_rfl) (cB (sameT_self x) (psame_n _ (hX.mo M) (hX.mo M))) rfl ?_
 intro u4 hq
 replace Q1 := Q1.mo hq
 replace Q2 := Q2.mo hq
 replace M := M.trans hq
 clear hq
 refine wl_pick (.tmp 22) (.tmp 25) (.const (.bool false)) true (.bool true) (fun _ => rfl) rfl rfl rfl ?_
 refine wl_m (.tmp 26) (.bool true) ?_
 refine w_nil (xn_then (w_ret ?_))
 exact w_ret1 _ _ rfl rfl ⟨rfl, M⟩
end Go.Proofs.Ythehmmhnacomkaa
