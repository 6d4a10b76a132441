/-
  Sums of columns: what they come to, the program. What an aggregate says of a column: the program. Brackets: numbers, steps; what tables say of a number (the pure side). A scope in which the run jumps back to a label; what a loop over a falling number is for a loop. Brackets: which tables may be (the program). Brackets: Check (the program). Brackets: the step of a number, what a table says of it (the program). Brackets: Step and At (the program). Maps of one's own by keys of any kind, to whole numbers. Names and columns as keys of maps. Maps by keys of any kind to values of any kind: those that came in, those of one's own. Formulas: what they come to (the pure side); small calls of the program. Looks into maps of one's own, and changes of these. Looks into maps of one's own, and changes of these: values of any kind. Formulas: the tables that names mean, what they say (the program). Formulas: the table that a name means, what it says of a number (the program). Formulas: bracket tables (the program). What formulas come to may be (the pure side). Formulas: nodes (the program). Formulas: what an expression comes to (the program). Formulas: Eval (the program). A closed call's run, reckoned: own blocks in a tree, what is read and written kept. The trees' laws; when a value that was reckoned stands for a value of the run. Memory that was reckoned against memory of the run; one thing done behind another. Each operation, reckoned, is what the run does: those that only make values.
-/
import Derived.Test.YtfmfeipeeedfpaaGreatKb
import Derived.Test.YtfmfeipeeedfpaaGreatKc
import Derived.ScopeJumps
import Derived.Laws.StructEq
import Derived.Test.YtfmfeipeeedfpaaGreatProg
import Derived.LoopN
import Derived.CheckFast
import Derived.RegionTactic
import Derived.Deep.AppendSrc
import Derived.Deep.MidRow
import Derived.Great.BuildSlice
namespace Go.Proofs.YtfmfeipeeedfpaaGreat
open S
abbrev dcs (b : Bool) (n s : Int) : List Value := [.bool b, .int .u64 (l0 n), .int .u64 (l1 n), .int .u64 (l2 n), .int .u64 (l3 n), .int .i64 s]
def sb (a : Int) : Int := IntKind.u64.wrap ((BitVec.ofInt IntKind.u64.bits a &&& BitVec.ofInt IntKind.u64.bits 9223372036854775808).toNat : Int)
def nrD (a0 a1 a2 a3 a4 s : Int) : DR := if s < 0 ∨ 18 < s then ⟨false, 0, 0, 1⟩ else if sb a4 = 0 then (if a4 = 0 then ⟨false, vl a0 a1 a2 a3, s, 0⟩ else ⟨false, 0, 0, 7⟩)
  else (if m4 a0 a1 a2 a3 a4 = 0 then ⟨true, vl (m0 a0) (m1 a0 a1) (m2 a0 a1 a2) (m3 a0 a1 a2 a3), s, 0⟩ else ⟨false, 0, 0, 7⟩)
set_option maxRecDepth 20000 in
theorem p_narrow (a0 a1 a2 a3 a4 s : Int) (w : World) (ha0 : 0 ≤ a0 ∧ a0 < M64) (ha1 : 0 ≤ a1 ∧ a1 < M64) (ha2 : 0 ≤ a2 ∧ a2 < M64) (ha3 : 0 ≤ a3 ∧ a3 < M64) (ha4 : 0 ≤ a4 ∧ a4 < M64) :
    Calls Tryz.prog 215 #[.agg (wd a0 a1 a2 a3 a4).toArray, .int .i64 s] w fun r W => r = .returned (nrD a0 a1 a2 a3 a4 s).v ∧ Mb w W := by
  refine fn_pure [.agg (wd a0 a1 a2 a3 a4).toArray, .int .i64 s] Tryz.func215 rfl rfl rfl (run_ok (st mo ?_))
  refine ⟨fun h => st mo ?_, fun h => st mo ⟨fun h2 => st mo ?_, fun h2 => st mo ?_⟩⟩
  · show _ = _; rw [nrD, if_pos (by omega)]; rfl
  · show _ = _; rw [nrD, if_pos (by omega)]; rfl
  · refine ⟨sb a4, rfl, st mo ⟨fun q => st mo ?_, fun q => st mo ?_⟩⟩
    · refine ⟨_, fun nn => r_call (t := .agg (wd (m0 a0) (m1 a0 a1) (m2 a0 a1 a2) (m3 a0 a1 a2 a3) (m4 a0 a1 a2 a3 a4)).toArray) rfl rfl Tryz.func227 (fun W M E => p_minus a0 a1 a2 a3 a4 W ha0 ha1 ha2 ha3 ha4), st mo ⟨fun z => st mo ?_, fun z => st mo ?_⟩⟩
      · show _ = _; rw [nrD, if_neg (by omega), if_neg q, if_neg z]; rfl
      · have um : U4 (m0 a0) (m1 a0 a1) (m2 a0 a1 a2) (m3 a0 a1 a2 a3) := ⟨ad_b _ _ _, ad_b _ _ _, ad_b _ _ _, ad_b _ _ _⟩
        refine S.w_loop (fun i : Nat => ⟨⟨Tryz.f215.ntmps, [(2, .pointer (some ⟨0, 0, none⟩)), (4, .pointer (some ⟨1, 0, none⟩)), (7, .pointer (some ⟨2, 0, none⟩)), (30, .int .i64 (i : Int))]⟩, [(0, some ((wd (m0 a0) (m1 a0 a1) (m2 a0 a1 a2) (m3 a0 a1 a2 a3) (m4 a0 a1 a2 a3 a4)).map rel1)), (1, some ((dcs false 0 0).map rel1)), (2, some [litT, .int .u64 (sw i 0 (m0 a0)), .int .u64 (sw i 1 (m1 a0 a1)), .int .u64 (sw i 2 (m2 a0 a1 a2)), .int .u64 (sw i 3 (m3 a0 a1 a2 a3)), .int .i64 s])], 3, w⟩) (fun i => i ≤ 4) (fun i => 4 - i) 0 (by omega) [0, 1, 2] ⟨rfl, ⟨fp, fp, fp, fv, trivial⟩, ⟨flr rfl, flr rfl, fl rfl rfl, trivial⟩, xf, rfl, rfl⟩ ?_
        intro i hi
        rcases i with _ | i
        · refine st mo ⟨fun _ => st mo ⟨0, rfl, by decide, st mo ⟨.int .u64 (m0 a0), rfl, st mo ⟨0, rfl, by decide, st mo ⟨Nat.le_of_ble_eq_true rfl, [litT, .int .u64 (sw 1 0 (m0 a0)), .int .u64 (sw 1 1 (m1 a0 a1)), .int .u64 (sw 1 2 (m2 a0 a1 a2)), .int .u64 (sw 1 3 (m3 a0 a1 a2 a3)), .int .i64 s], rfl, st mo ?_⟩⟩⟩⟩, fun h => absurd h (by omega)⟩
          refine ⟨_, wz 1 rfl, st mo ?_⟩
          exact ⟨1, by omega, by decide, [0, 1, 2], rfl, ⟨fp, fp, fp, fv, trivial⟩, ⟨flr rfl, flr rfl, fl rfl rfl, trivial⟩, xf, rfl, rfl⟩
        rcases i with _ | i
        · refine st mo ⟨fun _ => st mo ⟨1, rfl, by decide, st mo ⟨.int .u64 (m1 a0 a1), rfl, st mo ⟨1, rfl, by decide, st mo ⟨Nat.le_of_ble_eq_true rfl, [litT, .int .u64 (sw 2 0 (m0 a0)), .int .u64 (sw 2 1 (m1 a0 a1)), .int .u64 (sw 2 2 (m2 a0 a1 a2)), .int .u64 (sw 2 3 (m3 a0 a1 a2 a3)), .int .i64 s], rfl, st mo ?_⟩⟩⟩⟩, fun h => absurd h (by omega)⟩
          refine ⟨_, wz 2 rfl, st mo ?_⟩
          exact ⟨2, by omega, by decide, [0, 1, 2], rfl, ⟨fp, fp, fp, fv, trivial⟩, ⟨flr rfl, flr rfl, fl rfl rfl, trivial⟩, xf, rfl, rfl⟩
        rcases i with _ | i
        · refine st mo ⟨fun _ => st mo ⟨2, rfl, by decide, st mo ⟨.int .u64 (m2 a0 a1 a2), rfl, st mo ⟨2, rfl, by decide, st mo ⟨Nat.le_of_ble_eq_true rfl, [litT, .int .u64 (sw 3 0 (m0 a0)), .int .u64 (sw 3 1 (m1 a0 a1)), .int .u64 (sw 3 2 (m2 a0 a1 a2)), .int .u64 (sw 3 3 (m3 a0 a1 a2 a3)), .int .i64 s], rfl, st mo ?_⟩⟩⟩⟩, fun h => absurd h (by omega)⟩
          refine ⟨_, wz 3 rfl, st mo ?_⟩
          exact ⟨3, by omega, by decide, [0, 1, 2], rfl, ⟨fp, fp, fp, fv, trivial⟩, ⟨flr rfl, flr rfl, fl rfl rfl, trivial⟩, xf, rfl, rfl⟩
        rcases i with _ | i
        · refine st mo ⟨fun _ => st mo ⟨3, rfl, by decide, st mo ⟨.int .u64 (m3 a0 a1 a2 a3), rfl, st mo ⟨3, rfl, by decide, st mo ⟨Nat.le_of_ble_eq_true rfl, [litT, .int .u64 (sw 4 0 (m0 a0)), .int .u64 (sw 4 1 (m1 a0 a1)), .int .u64 (sw 4 2 (m2 a0 a1 a2)), .int .u64 (sw 4 3 (m3 a0 a1 a2 a3)), .int .i64 s], rfl, st mo ?_⟩⟩⟩⟩, fun h => absurd h (by omega)⟩
          refine ⟨_, wz 4 rfl, st mo ?_⟩
          exact ⟨4, by omega, by decide, [0, 1, 2], rfl, ⟨fp, fp, fp, fv, trivial⟩, ⟨flr rfl, flr rfl, fl rfl rfl, trivial⟩, xf, rfl, rfl⟩
        obtain rfl : i = 0 := by omega
        refine st mo ⟨fun h => absurd h (by omega), fun _ => st mo (st mo ?_)⟩
        show _ = _; rw [nrD, if_neg (by omega), if_neg q, if_pos z]; simp only [DR.v, dc, l0_vl um, l1_vl um, l2_vl um, l3_vl um]; rfl
    · refine ⟨fun z => st mo ?_, fun z => st mo ?_⟩
      · show _ = _; rw [nrD, if_neg (by omega), if_pos q, if_neg z]; rfl
      · have ua : U4 a0 a1 a2 a3 := ⟨ha0, ha1, ha2, ha3⟩
        refine S.w_loop (fun i : Nat => ⟨⟨Tryz.f215.ntmps, [(2, .pointer (some ⟨0, 0, none⟩)), (4, .pointer (some ⟨1, 0, none⟩)), (7, .pointer (some ⟨2, 0, none⟩)), (30, .int .i64 (i : Int))]⟩, [(0, some ((wd (a0) (a1) (a2) (a3) (a4)).map rel1)), (1, some ((dcs false 0 0).map rel1)), (2, some [litF, .int .u64 (sw i 0 (a0)), .int .u64 (sw i 1 (a1)), .int .u64 (sw i 2 (a2)), .int .u64 (sw i 3 (a3)), .int .i64 s])], 3, w⟩) (fun i => i ≤ 4) (fun i => 4 - i) 0 (by omega) [0, 1, 2] ⟨rfl, ⟨fp, fp, fp, fv, trivial⟩, ⟨flr rfl, flr rfl, fl rfl rfl, trivial⟩, xf, rfl, rfl⟩ ?_
        intro i hi
        rcases i with _ | i
        · refine st mo ⟨fun _ => st mo ⟨0, rfl, by decide, st mo ⟨.int .u64 (a0), rfl, st mo ⟨0, rfl, by decide, st mo ⟨Nat.le_of_ble_eq_true rfl, [litF, .int .u64 (sw 1 0 (a0)), .int .u64 (sw 1 1 (a1)), .int .u64 (sw 1 2 (a2)), .int .u64 (sw 1 3 (a3)), .int .i64 s], rfl, st mo ?_⟩⟩⟩⟩, fun h => absurd h (by omega)⟩
          refine ⟨_, wz 1 rfl, st mo ?_⟩
          exact ⟨1, by omega, by decide, [0, 1, 2], rfl, ⟨fp, fp, fp, fv, trivial⟩, ⟨flr rfl, flr rfl, fl rfl rfl, trivial⟩, xf, rfl, rfl⟩
        rcases i with _ | i
        · refine st mo ⟨fun _ => st mo ⟨1, rfl, by decide, st mo ⟨.int .u64 (a1), rfl, st mo ⟨1, rfl, by decide, st mo ⟨Nat.le_of_ble_eq_true rfl, [litF, .int .u64 (sw 2 0 (a0)), .int .u64 (sw 2 1 (a1)), .int .u64 (sw 2 2 (a2)), .int .u64 (sw 2 3 (a3)), .int .i64 s], rfl, st mo ?_⟩⟩⟩⟩, fun h => absurd h (by omega)⟩
          refine ⟨_, wz 2 rfl, st mo ?_⟩
          exact ⟨2, by omega, by decide, [0, 1, 2], rfl, ⟨fp, fp, fp, fv, trivial⟩, ⟨flr rfl, flr rfl, fl rfl rfl, trivial⟩, xf, rfl, rfl⟩
        rcases i with _ | i
        · refine st mo ⟨fun _ => st mo ⟨2, rfl, by decide, st mo ⟨.int .u64 (a2), rfl, st mo ⟨2, rfl, by decide, st mo ⟨Nat.le_of_ble_eq_true rfl, [litF, .int .u64 (sw 3 0 (a0)), .int .u64 (sw 3 1 (a1)), .int .u64 (sw 3 2 (a2)), .int .u64 (sw 3 3 (a3)), .int .i64 s], rfl, st mo ?_⟩⟩⟩⟩, fun h => absurd h (by omega)⟩
          refine ⟨_, wz 3 rfl, st mo ?_⟩
          exact ⟨3, by omega, by decide, [0, 1, 2], rfl, ⟨fp, fp, fp, fv, trivial⟩, ⟨flr rfl, flr rfl, fl rfl rfl, trivial⟩, xf, rfl, rfl⟩
        rcases i with _ | i
        · refine st mo ⟨fun _ => st mo ⟨3, rfl, by decide, st mo ⟨.int .u64 (a3), rfl, st mo ⟨3, rfl, by decide, st mo ⟨Nat.le_of_ble_eq_true rfl, [litF, .int .u64 (sw 4 0 (a0)), .int .u64 (sw 4 1 (a1)), .int .u64 (sw 4 2 (a2)), .int .u64 (sw 4 3 (a3)), .int .i64 s], rfl, st mo ?_⟩⟩⟩⟩, fun h => absurd h (by omega)⟩
          refine ⟨_, wz 4 rfl, st mo ?_⟩
          exact ⟨4, by omega, by decide, [0, 1, 2], rfl, ⟨fp, fp, fp, fv, trivial⟩, ⟨flr rfl, flr rfl, fl rfl rfl, trivial⟩, xf, rfl, rfl⟩
        obtain rfl : i = 0 := by omega
        refine st mo ⟨fun h => absurd h (by omega), fun _ => st mo (st mo ?_)⟩
        show _ = _; rw [nrD, if_neg (by omega), if_pos q, if_pos z]; simp only [DR.v, dc, l0_vl ua, l1_vl ua, l2_vl ua, l3_vl ua]; rfl
/-- A column's summary. -/
structure SM where
  ro : Int
  fi : Int
  bl : Int
  bd : Int
  er : Int
  t0 : Int
  t1 : Int
  t2 : Int
  t3 : Int
  t4 : Int
  so : Bool
  nb : Bool
  nn : Int
  ns : Int
  xb : Bool
  xn : Int
  xs : Int
def SM.cells (m : SM) : List Value := [.int .i64 m.ro, .int .i64 m.fi, .int .i64 m.bl, .int .i64 m.bd, .int .i64 m.er, .int .u64 m.t0, .int .u64 m.t1, .int .u64 m.t2, .int .u64 m.t3, .int .u64 m.t4, .bool m.so, .bool m.nb, .int .u64 (l0 m.nn), .int .u64 (l1 m.nn), .int .u64 (l2 m.nn), .int .u64 (l3 m.nn), .int .i64 m.ns, .bool m.xb, .int .u64 (l0 m.xn), .int .u64 (l1 m.xn), .int .u64 (l2 m.xn), .int .u64 (l3 m.xn), .int .i64 m.xs]
abbrev SM.v (m : SM) : Value := .agg m.cells.toArray
abbrev SM.y (m : SM) : Value := .agg (m.cells.map rel1).toArray
structure SM.ok (m : SM) : Prop where
  ro : -9223372036854775808 ≤ m.ro ∧ m.ro < 9223372036854775808
  fi : -9223372036854775808 ≤ m.fi ∧ m.fi < 9223372036854775808
  t0 : 0 ≤ m.t0 ∧ m.t0 < M64
  t1 : 0 ≤ m.t1 ∧ m.t1 < M64
  t2 : 0 ≤ m.t2 ∧ m.t2 < M64
  t3 : 0 ≤ m.t3 ∧ m.t3 < M64
  t4 : 0 ≤ m.t4 ∧ m.t4 < M64
  nn : 0 ≤ m.nn ∧ m.nn < MM
  xn : 0 ≤ m.xn ∧ m.xn < MM
def cntV (n : Int) : VL := vNu (decide (n < 0)) (ab n) 0
def nrV (m : SM) (s : Int) : DR := nrD m.t0 m.t1 m.t2 m.t3 m.t4 s
def totV (m : SM) (s : Int) : VL := if (nrV m s).e = 0 then vNu (nrV m s).b (nrV m s).n (nrV m s).s else vEr 1
def ofnV (op : Int) (m : SM) (s : Int) : VL := if m.er = 0 then (if op = 12 then totV m s else if m.so then (if op = 14 then vNu m.nb m.nn m.ns else vNu m.xb m.xn m.xs) else vEr 4) else vEr m.er
def agV (op : Int) (m : SM) (s : Int) : VL := if op = 16 then cntV m.ro else if op = 13 then cntV m.fi else if op = 12 ∨ op = 14 ∨ op = 15 then ofnV op m s else vEr 2
set_option maxRecDepth 20000 in
theorem p_snum (b : Bool) (n s : Int) (w : World) : Calls Tryz.prog 176 #[dc b n s] w fun r W => r = .returned (vNu b n s).v ∧ Mb w W :=
  fn_pure [dc b n s] Tryz.func176 rfl rfl rfl (run_ok (st mo rfl))
set_option maxRecDepth 20000 in
theorem p_fail (e : Int) (w : World) : Calls Tryz.prog 144 #[.int .i64 e] w fun r W => r = .returned (vEr e).v ∧ Mb w W :=
  fn_pure [.int .i64 e] Tryz.func144 rfl rfl rfl (run_ok (st mo rfl))
set_option maxRecDepth 20000 in
theorem p_ofInt (n : Int) (hn : -9223372036854775808 ≤ n ∧ n < 9223372036854775808) (w : World) : Calls Tryz.prog 175 #[.int .i64 n, .int .i64 0] w fun r W => r = .returned (.tuple #[dc (decide (n < 0)) (ab n) 0, .int .i64 0]) ∧ Mb w W := by
  refine fn_pure [.int .i64 n, .int .i64 0] Tryz.func175 rfl rfl rfl (run_ok (st mo ?_))
  refine ⟨_, fun nn => r_call (t := litT) rfl rfl Tryz.func184 (fun W M E => p_isSc' rfl W), st mo ?_⟩
  have ha : 0 ≤ ab n ∧ ab n ≤ 9223372036854775808 := by unfold ab; split <;> omega
  have hU : U1 (ab n) := ⟨ha.1, by omega⟩
  have hM : ab n < MM := by unfold MM; omega
  refine ⟨n % 18446744073709551616, IntKind.wrap_u64 n, st mo ⟨fun h => st mo ⟨ab n, ?_, st mo ⟨fun _ => st mo ?_, fun h' => absurd h (by omega)⟩⟩, fun h => st mo ⟨fun h' => absurd h (by omega), fun _ => st mo ?_⟩⟩⟩
  · rw [IntKind.wrap_u64]; unfold ab; rw [if_pos h]; omega
  · refine ⟨_, fun nn => r_call (t := nv (ab n)) rfl rfl Tryz.func159 (fun W M E => p_from (ab n) hU W), st mo ?_⟩
    refine ⟨_, fun nn => r_call (t := dc (decide (n < 0)) (ab n) 0) rfl rfl Tryz.func168 (fun W M E => by
      have q := p_sgnd true (ab n) 0 ⟨ha.1, hM⟩ W
      rw [show (true && !decide (ab n = 0)) = decide (n < 0) by rw [decide_eq_true h, decide_eq_false (by unfold ab; rw [if_pos h]; omega)]; rfl] at q
      exact q), st mo ?_⟩
    rfl
  · have e : n % 18446744073709551616 = ab n := by unfold ab; rw [if_neg (by omega)]; omega
    refine ⟨_, fun nn => r_call (t := nv (ab n)) rfl rfl Tryz.func159 (fun W M E => p_from (ab n) hU W) (by rw [← e]; rfl), st mo ?_⟩
    refine ⟨_, fun nn => r_call (t := dc (decide (n < 0)) (ab n) 0) rfl rfl Tryz.func168 (fun W M E => by
      have q := p_sgnd false (ab n) 0 ⟨ha.1, hM⟩ W
      rw [show (false && !decide (ab n = 0)) = decide (n < 0) by rw [decide_eq_false (show ¬ n < 0 by omega)]; rfl] at q
      exact q), st mo ?_⟩
    rfl
set_option maxRecDepth 20000 in
theorem p_count (n : Int) (hn : -9223372036854775808 ≤ n ∧ n < 9223372036854775808) (w : World) : Calls Tryz.prog 142 #[.int .i64 n] w fun r W => r = .returned (cntV n).v ∧ Mb w W := by
  refine fn_pure [.int .i64 n] Tryz.func142 rfl rfl rfl (run_ok (st mo ?_))
  refine ⟨_, fun nn => r_call (t := .tuple #[dc (decide (n < 0)) (ab n) 0, .int .i64 0]) rfl rfl Tryz.func175 (fun W M E => p_ofInt n hn W), st mo ?_⟩
  refine ⟨_, fun nn => r_call (t := (cntV n).y) rfl rfl Tryz.func176 (fun W M E => p_snum (decide (n < 0)) (ab n) 0 W), st mo ?_⟩
  rfl
set_option maxRecDepth 20000 in
theorem p_Total (m : SM) (hm : m.ok) (s : Int) (w : World) : Calls Tryz.prog 202 #[m.v, .int .i64 s] w fun r W => r = .returned (nrV m s).v ∧ Mb w W := by
  refine fn_pure [m.y, .int .i64 s] Tryz.func202 rfl rfl rfl (run_ok (st mo ?_))
  refine ⟨_, fun nn => r_call (t := (nrV m s).y) rfl rfl Tryz.func215 (fun W M E => p_narrow m.t0 m.t1 m.t2 m.t3 m.t4 s W hm.t0 hm.t1 hm.t2 hm.t3 hm.t4), st mo ?_⟩
  rfl
set_option maxRecDepth 20000 in
theorem p_total (m : SM) (hm : m.ok) (s : Int) (w : World) : Calls Tryz.prog 177 #[m.v, .int .i64 s] w fun r W => r = .returned (totV m s).v ∧ Mb w W := by
  refine fn_pure [m.y, .int .i64 s] Tryz.func177 rfl rfl rfl (run_ok (st mo ?_))
  refine ⟨_, fun nn => r_call (t := (nrV m s).y) rfl rfl Tryz.func202 (fun W M E => p_Total m hm s W), st mo ⟨fun h => st mo ?_, fun h => st mo ?_⟩⟩
  · refine ⟨_, fun nn => r_call (t := (vEr 1).y) rfl rfl Tryz.func144 (fun W M E => p_fail 1 W), st mo ?_⟩
    show _ = _; rw [totV, if_neg h]; rfl
  · refine ⟨_, fun nn => r_call (t := (vNu (nrV m s).b (nrV m s).n (nrV m s).s).y) rfl rfl Tryz.func176 (fun W M E => p_snum (nrV m s).b (nrV m s).n (nrV m s).s W), st mo ?_⟩
    show _ = _; rw [totV, if_pos h]; rfl
set_option maxRecDepth 20000 in
theorem p_ofn (op : Int) (m : SM) (hm : m.ok) (s : Int) (w : World) : Calls Tryz.prog 143 #[.int .i64 op, m.v, .int .i64 s] w fun r W => r = .returned (ofnV op m s).v ∧ Mb w W := by
  refine fn_pure [.int .i64 op, m.y, .int .i64 s] Tryz.func143 rfl rfl rfl (run_ok (st mo ?_))
  refine ⟨fun h => st mo ?_, fun h => st mo ⟨fun h1 => st mo ?_, fun h1 => st mo ?_⟩⟩
  · refine ⟨_, fun nn => r_call (t := (vEr m.er).y) rfl rfl Tryz.func144 (fun W M E => p_fail m.er W), st mo ?_⟩
    show _ = _; rw [ofnV, if_neg h]; rfl
  · refine ⟨_, fun nn => r_call (t := (totV m s).y) rfl rfl Tryz.func177 (fun W M E => p_total m hm s W), st mo ?_⟩
    show _ = _; rw [ofnV, if_pos h, if_pos h1]; rfl
  · refine ⟨fun q => st mo ?_, fun q => st mo ⟨fun h2 => st mo ?_, fun h2 => st mo ?_⟩⟩
    · have q : m.so = false := by cases hs : m.so <;> simp [hs] at q ⊢
      refine ⟨_, fun nn => r_call (t := (vEr 4).y) rfl rfl Tryz.func144 (fun W M E => p_fail 4 W), st mo ?_⟩
      show _ = _; rw [ofnV, if_pos h, if_neg h1, q]; rfl
    · have q : m.so = true := by cases hs : m.so <;> simp [hs] at q ⊢
      refine ⟨_, fun nn => r_call (t := (vNu m.nb m.nn m.ns).y) rfl rfl Tryz.func176 (fun W M E => p_snum m.nb m.nn m.ns W), st mo ?_⟩
      show _ = _; rw [ofnV, if_pos h, if_neg h1, q, if_pos rfl, if_pos h2]; rfl
    · have q : m.so = true := by cases hs : m.so <;> simp [hs] at q ⊢
      refine ⟨_, fun nn => r_call (t := (vNu m.xb m.xn m.xs).y) rfl rfl Tryz.func176 (fun W M E => p_snum m.xb m.xn m.xs W), st mo ?_⟩
      show _ = _; rw [ofnV, if_pos h, if_neg h1, q, if_pos rfl, if_neg h2]; rfl
set_option maxRecDepth 20000 in
theorem p_value (op : Int) (m : SM) (hm : m.ok) (s : Int) (w : World) : Calls Tryz.prog 98 #[.int .i64 op, m.v, .int .i64 s] w fun r W => r = .returned (agV op m s).v ∧ Mb w W := by
  refine fn_pure [.int .i64 op, m.y, .int .i64 s] Tryz.func98 rfl rfl rfl (run_ok (st mo ?_))
  refine ⟨fun h => st mo ?_, fun h => st mo ⟨fun h1 => st mo ?_, fun h1 => st mo ⟨fun h2 => st mo ?_, fun h2 => st mo ⟨fun h3 => st mo ?_, fun h3 => st mo ⟨fun h4 => st mo ?_, fun h4 => st mo ?_⟩⟩⟩⟩⟩
  · refine ⟨_, fun nn => r_call (t := (cntV m.ro).y) rfl rfl Tryz.func142 (fun W M E => p_count m.ro hm.ro W), st mo ?_⟩
    show _ = _; rw [agV, if_pos h]; rfl
  · refine ⟨_, fun nn => r_call (t := (cntV m.fi).y) rfl rfl Tryz.func142 (fun W M E => p_count m.fi hm.fi W), st mo ?_⟩
    show _ = _; rw [agV, if_neg h, if_pos h1]; rfl
  · refine ⟨_, fun nn => r_call (t := (ofnV op m s).y) rfl rfl Tryz.func143 (fun W M E => p_ofn op m hm s W), st mo ?_⟩
    show _ = _; rw [agV, if_neg h, if_neg h1, if_pos (Or.inl h2)]; rfl
  · refine ⟨_, fun nn => r_call (t := (ofnV op m s).y) rfl rfl Tryz.func143 (fun W M E => p_ofn op m hm s W), st mo ?_⟩
    show _ = _; rw [agV, if_neg h, if_neg h1, if_pos (Or.inr (Or.inl h3))]; rfl
  · refine ⟨_, fun nn => r_call (t := (ofnV op m s).y) rfl rfl Tryz.func143 (fun W M E => p_ofn op m hm s W), st mo ?_⟩
    show _ = _; rw [agV, if_neg h, if_neg h1, if_pos (Or.inr (Or.inr h4))]; rfl
  · refine ⟨_, fun nn => r_call (t := (vEr 2).y) rfl rfl Tryz.func144 (fun W M E => p_fail 2 W), st mo ?_⟩
    show _ = _; rw [agV, if_neg h, if_neg h1, if_neg (by omega)]; rfl
end Go.Proofs.YtfmfeipeeedfpaaGreat
namespace Go.Proofs.YtfmfeipeeedfpaaGreat
open S Go.RowKit
/-- A number: its sign, its digits, its scale. -/
structure Dn where
  b : Bool
  n : Int
  s : Int
def Dn.cells (d : Dn) : List Value := [.bool d.b, .int .u64 (l0 d.n), .int .u64 (l1 d.n), .int .u64 (l2 d.n), .int .u64 (l3 d.n), .int .i64 d.s]
abbrev Dn.v (d : Dn) : Value := .agg d.cells.toArray
/-- Its digits have room. -/
def Dn.ok (d : Dn) : Prop := 0 ≤ d.n ∧ d.n < MM
/-- Check's answer. -/
def Dn.er (d : Dn) : Int := ck d.b d.n d.s
def Dn.fit (d : Dn) : Prop := d.ok ∧ d.er = 0
def dn0 : Dn := ⟨false, 0, 0⟩
theorem er_or (d : Dn) : d.er = 0 ∨ d.er = 20 := by
  unfold Dn.er ck
  split
  · exact .inl rfl
  · exact .inr rfl
/-- A step: from, base, rate. -/
structure Stp where
  a : Dn
  b : Dn
  c : Dn
def Stp.cells (s : Stp) : List Value := s.a.cells ++ (s.b.cells ++ s.c.cells)
abbrev Stp.v (s : Stp) : Value := .agg s.cells.toArray
def Stp.ok (s : Stp) : Prop := s.a.ok ∧ s.b.ok ∧ s.c.ok
def Stp.fit (s : Stp) : Prop := s.a.fit ∧ s.b.fit ∧ s.c.fit
theorem Stp.len (s : Stp) : s.cells.length = 18 := rfl
def Dn.z (d : Dn) : Int := sgn d.b d.n
theorem Dn.fit.s {d : Dn} (h : d.fit) : 0 ≤ d.s ∧ d.s ≤ 18 := sc_iff.1 (ck_s h.2)
abbrev DR.d (r : DR) : Dn := ⟨r.b, r.n, r.s⟩
def addD (x y : Dn) : DR := addR x.b x.n x.s y.b y.n y.s
def subD (x y : Dn) : DR := subR x.b x.n x.s y.b y.n y.s
def mulD (x y : Dn) : DR := mulR x.b x.n x.s y.b y.n y.s
def cmpD (x y : Dn) : Int := cmpR x.b x.n x.s y.b y.n y.s
theorem ro_nn {b : Bool} {X : Int} {k : Nat} {p : Int} (h : 0 ≤ X) : 0 ≤ ro b X k p := by
  have := Int.ediv_nonneg h (show (0 : Int) ≤ 10 ^ k from Int.le_of_lt (Int.pow_pos (by decide)))
  unfold ro; split <;> omega
theorem ck_dz {v s : Int} (h : sc s = true) : ck (decide (v < 0)) (ab v) s = 0 := ck_ok h (fun q => by have := of_decide_eq_true q; unfold ab; rw [if_pos this]; omega)
theorem lt_of_get {α : Type} {L : List α} {i : Nat} {y : α} (h : L[i]? = some y) : i < L.length := (List.getElem?_eq_some_iff.1 h).1
theorem get_of_lt {α : Type} {L : List α} {k : Nat} (h : k < L.length) : ∃ y, L[k]? = some y := ⟨_, List.getElem?_eq_getElem h⟩
/-- The number that decimal answers has room, and may be. -/
def DR.good (r : DR) : Prop := r.d.ok ∧ (r.e = 0 → r.d.er = 0)
theorem DR.good.fit {r : DR} (h : r.good) (e : r.e = 0) : r.d.fit := ⟨h.1, h.2 e⟩
theorem good_er {c : Int} : (erR c).good := ⟨⟨by show (0 : Int) ≤ 0; decide, by show (0 : Int) < MM; decide⟩, fun _ => by show ck false 0 0 = 0; decide⟩
theorem good_fz {V S : Int} (hS : sc S = true) : (fzR V S).good := by
  unfold fzR
  split
  next h => exact ⟨⟨ab_nn V, h⟩, fun _ => ck_dz hS⟩
  next => exact good_er
theorem good_fx {b : Bool} {V S : Int} (h0 : 0 ≤ V) (hS : sc S = true) : (fxR b V S).good := by
  unfold fxR
  split
  next h =>
    refine ⟨⟨h0, h⟩, fun _ => ?_⟩
    show ck (b && !decide (V = 0)) V S = 0
    unfold ck
    rw [hS]
    by_cases hv : V = 0 <;> simp [hv]
  next => exact good_er
theorem sc_max {s t : Int} (h : sc s = true) (k : sc t = true) : sc (max s t) = true := by
  have a := sc_iff.1 h
  have b := sc_iff.1 k
  exact sc_iff.2 ⟨by omega, by omega⟩
theorem sc_min {s t : Int} (h : sc s = true) (k : sc t = true) : sc (min (s + t) 18) = true := by
  have a := sc_iff.1 h
  have b := sc_iff.1 k
  exact sc_iff.2 ⟨by omega, by omega⟩
theorem rdV_nn {b : Bool} {X f S p : Int} (h : 0 ≤ X) : 0 ≤ rdV b X f S p := by
  unfold rdV
  split
  · exact Int.mul_nonneg h (Int.le_of_lt (pw_pos _))
  · exact ro_nn h
theorem good_add {x y : Dn} (hx : x.fit) (hy : y.fit) : (addD x y).good := good_fz (sc_max (ck_s hx.2) (ck_s hy.2))
theorem good_sub {x y : Dn} (hx : x.fit) (hy : y.fit) : (subD x y).good := good_fz (sc_max (ck_s hx.2) (ck_s hy.2))
theorem good_mul {x y : Dn} (hx : x.fit) (hy : y.fit) : (mulD x y).good := good_fx (rdV_nn (Int.mul_nonneg hx.1.1 hy.1.1)) (sc_min (ck_s hx.2) (ck_s hy.2))
/-- What a step says of a number. -/
def saysD (s : Stp) (x : Dn) : DR :=
  if (subD x s.a).e = 0 then (if (mulD (subD x s.a).d s.c).e = 0 then addD (mulD (subD x s.a).d s.c).d s.b else erR (mulD (subD x s.a).d s.c).e) else erR (subD x s.a).e
theorem good_says {s : Stp} {x : Dn} (hs : s.fit) (hx : x.fit) : (saysD s x).good := by
  unfold saysD
  split
  next e1 =>
    have g1 := (good_sub hx hs.1).fit e1
    split
    next e2 => exact good_add ((good_mul g1 hs.2.2).fit e2) hs.2.1
    next => exact good_er
  next => exact good_er
/-- Which tables may be. -/
def okS (s : Stp) : Bool := decide (s.a.er = 0) && (decide (s.b.er = 0) && decide (s.c.er = 0))
def ckS (s : Stp) : Int := if s.a.er = 0 then (if s.b.er = 0 then s.c.er else s.b.er) else s.a.er
theorem ckS_ok {s : Stp} : ckS s = if okS s then 0 else 20 := by
  unfold ckS okS
  rcases er_or s.a with h1 | h1 <;> rcases er_or s.b with h2 | h2 <;> rcases er_or s.c with h3 | h3 <;> simp [h1, h2, h3]
theorem okS_fit {s : Stp} (hs : s.ok) (h : okS s = true) : s.fit := by
  unfold okS at h
  simp at h
  exact ⟨⟨hs.1, h.1⟩, ⟨hs.2.1, h.2.1⟩, ⟨hs.2.2, h.2.2⟩⟩
def asc : List Stp → Bool
  | x :: y :: r => decide (0 < cmpD y.a x.a) && asc (y :: r)
  | _ => true
theorem asc_at : ∀ {L : List Stp}, asc L = true → ∀ {i : Nat} {x y : Stp}, L[i]? = some x → L[i + 1]? = some y → 0 < cmpD y.a x.a
  | [], _, i, x, y, hx, _ => by simp at hx
  | [_], _, i, x, y, _, hy => by simp at hy
  | a :: b :: r, h, i, x, y, hx, hy => by
    rw [asc] at h
    simp only [Bool.and_eq_true, decide_eq_true_eq] at h
    cases i with
    | zero => simp at hx hy; subst hx hy; exact h.1
    | succ i => exact asc_at h.2 (by simpa using hx) (by simpa using hy)
theorem asc_of : ∀ {L : List Stp}, (∀ i x y, L[i]? = some x → L[i + 1]? = some y → 0 < cmpD y.a x.a) → asc L = true
  | [], _ => rfl
  | [_], _ => rfl
  | a :: b :: r, h => by
    rw [asc]
    simp only [Bool.and_eq_true, decide_eq_true_eq]
    exact ⟨h 0 a b rfl rfl, asc_of (fun i x y hx hy => h (i + 1) x y (by simpa using hx) (by simpa using hy))⟩
def chkT (L : List Stp) : Int := if 32 < L.length then 3 else if L.length = 0 then 140 else if L.all okS then (if asc L then 0 else 140) else 20
section
variable {L : List Stp}
theorem chk_bad (h1 : ¬ 32 < L.length) (h2 : ¬ L.length = 0) {y : Stp} (hy : y ∈ L) (h : okS y = false) : chkT L = 20 := by
  have : L.all okS = false := by rw [List.all_eq_false]; exact ⟨y, hy, by simp [h]⟩
  unfold chkT; rw [if_neg h1, if_neg h2, this]; rfl
theorem chk_low (h1 : ¬ 32 < L.length) (h2 : ¬ L.length = 0) (ha : L.all okS = true) {i : Nat} {x y : Stp} (hx : L[i]? = some x) (hy : L[i + 1]? = some y) (h : ¬ 0 < cmpD y.a x.a) : chkT L = 140 := by
  have : asc L = false := by cases q : asc L with
    | false => rfl
    | true => exact absurd (asc_at q hx hy) h
  unfold chkT; rw [if_neg h1, if_neg h2, ha, this]; rfl
theorem chk_fine (h1 : ¬ 32 < L.length) (h2 : ¬ L.length = 0) (ha : L.all okS = true) (h : asc L = true) : chkT L = 0 := by
  unfold chkT; rw [if_neg h1, if_neg h2, ha, h]; rfl
end
theorem chk_0 {L : List Stp} (h : chkT L = 0) : L.length ≤ 32 ∧ L.length ≠ 0 ∧ L.all okS = true ∧ asc L = true := by
  unfold chkT at h
  split at h; · exact absurd h (by decide)
  split at h; · exact absurd h (by decide)
  split at h
  · split at h
    · exact ⟨by omega, by assumption, by assumption, by assumption⟩
    · exact absurd h (by decide)
  · exact absurd h (by decide)
theorem all_of {L : List Stp} (h : ∀ j < L.length, ∀ y, L[j]? = some y → okS y = true) : L.all okS = true := by
  rw [List.all_eq_true]
  intro y hy
  obtain ⟨j, hj⟩ := List.getElem?_of_mem hy
  exact h j (lt_of_get hj) y hj
/-- The last number below n of which p holds. -/
def lastP (p : Nat → Bool) : Nat → Option Nat
  | 0 => none
  | n + 1 => if p n then some n else lastP p n
theorem lastP_inv {p : Nat → Bool} : ∀ {n k : Nat}, lastP p n = some k → k < n ∧ p k = true
  | 0, k, h => by simp [lastP] at h
  | n + 1, k, h => by
    rw [lastP] at h
    split at h
    next q => simp at h; subst h; exact ⟨by omega, q⟩
    next => have := lastP_inv h; exact ⟨by omega, this.2⟩
/-- Is the step of a number not above x? -/
def rchd (L : List Stp) (x : Dn) (i : Nat) : Bool := match L[i]? with
  | some s => decide (cmpD s.a x ≤ 0)
  | none => false
theorem rchd_at {L : List Stp} {x : Dn} {i : Nat} {s : Stp} (h : L[i]? = some s) : rchd L x i = decide (cmpD s.a x ≤ 0) := by unfold rchd; rw [h]
/-- The step of x: its number (or none), an error. -/
def stpE (L : List Stp) (x : Dn) : Int := if chkT L = 0 then (if x.er = 0 then (if (lastP (rchd L x) L.length).isSome then 0 else 141) else 20) else chkT L
def stpN (L : List Stp) (x : Dn) : Int := if stpE L x = 0 then (((lastP (rchd L x) L.length).getD 0 : Nat) : Int) else 0
def atD (L : List Stp) (x : Dn) : DR := if stpE L x = 0 then saysD (L.getD ((lastP (rchd L x) L.length).getD 0) ⟨dn0, dn0, dn0⟩) x else erR (stpE L x)
theorem pw_add {a b : Int} (ha : 0 ≤ a) (hb : 0 ≤ b) : pw a * pw b = pw (a + b) := by
  obtain ⟨a, rfl⟩ := Int.eq_ofNat_of_zero_le ha
  obtain ⟨b, rfl⟩ := Int.eq_ofNat_of_zero_le hb
  show (10 : Int) ^ a * 10 ^ b = 10 ^ ((a : Int) + b).toNat
  rw [show ((a : Int) + b).toNat = a + b by omega, Int.pow_add]
theorem cm_mul {a b k : Int} (hk : 0 < k) : cm (a * k) (b * k) = cm a b := by
  unfold cm
  have h1 : a * k < b * k ↔ a < b := ⟨fun h => Int.lt_of_mul_lt_mul_right h (Int.le_of_lt hk), fun h => Int.mul_lt_mul_of_pos_right h hk⟩
  have h2 : b * k < a * k ↔ b < a := ⟨fun h => Int.lt_of_mul_lt_mul_right h (Int.le_of_lt hk), fun h => Int.mul_lt_mul_of_pos_right h hk⟩
  simp only [h1, h2]
/-- The number in last digits of the greatest scale. -/
def Dn.q (d : Dn) : Int := d.z * pw (18 - d.s)
theorem pw_join {s t : Int} (h0 : 0 ≤ t - s) (h1 : 0 ≤ 18 - t) : pw (t - s) * pw (18 - t) = pw (18 - s) := by
  rw [pw_add h0 h1]; congr 1; omega
theorem cmp_q {x y : Dn} (hx : x.fit) (hy : y.fit) : cmpD x y = cm x.q y.q := by
  obtain ⟨a0, a1⟩ := hx.s
  obtain ⟨b0, b1⟩ := hy.s
  unfold cmpD cmpR Dn.q Dn.z
  rw [← cm_mul (pw_pos (18 - max x.s y.s)), Int.mul_assoc, Int.mul_assoc, pw_join (by omega) (by omega), pw_join (by omega) (by omega)]
theorem cm_le {a b : Int} : cm a b ≤ 0 ↔ a ≤ b := by unfold cm; split; · omega
                                                     split <;> omega
theorem cm_pos {a b : Int} : 0 < cm a b ↔ b < a := by unfold cm; split; · omega
                                                      split <;> omega
theorem fit_of {L : List Stp} (hk : ∀ y ∈ L, y.ok) (ha : L.all okS = true) {i : Nat} {y : Stp} (h : L[i]? = some y) : y.fit :=
  okS_fit (hk y (List.mem_of_getElem? h)) (List.all_eq_true.1 ha y (List.mem_of_getElem? h))
/-- The froms rise. -/
theorem asc_lt {L : List Stp} (hk : ∀ y ∈ L, y.ok) (ha : L.all okS = true) (h : asc L = true) : ∀ (d i : Nat) {x y : Stp}, L[i]? = some x → L[i + d + 1]? = some y → x.a.q < y.a.q
  | 0, i, x, y, hx, hy => by
    have := asc_at h hx hy
    rw [cmp_q (fit_of hk ha hy).1 (fit_of hk ha hx).1, cm_pos] at this
    exact this
  | d + 1, i, x, y, hx, hy => by
    obtain ⟨z, hz⟩ := get_of_lt (k := i + d + 1) (L := L) (by have := lt_of_get hy; omega)
    have h1 := asc_lt hk ha h d i hx hz
    have h2 := asc_at h hz hy
    rw [cmp_q (fit_of hk ha hy).1 (fit_of hk ha hz).1, cm_pos] at h2
    omega
theorem asc_le {L : List Stp} (hk : ∀ y ∈ L, y.ok) (ha : L.all okS = true) (h : asc L = true) {i j : Nat} {x y : Stp} (hij : i ≤ j) (hx : L[i]? = some x) (hy : L[j]? = some y) : x.a.q ≤ y.a.q := by
  rcases Nat.lt_or_ge i j with hl | hl
  · exact Int.le_of_lt (asc_lt hk ha h (j - i - 1) i hx (by rw [show i + (j - i - 1) + 1 = j by omega]; exact hy))
  · have : i = j := by omega
    subst this; rw [hx] at hy; cases hy; exact Int.le_refl _
theorem rchd_q {L : List Stp} {x : Dn} (hk : ∀ y ∈ L, y.ok) (ha : L.all okS = true) (hx : x.fit) {i : Nat} {s : Stp} (h : L[i]? = some s) : rchd L x i = decide (s.a.q ≤ x.q) := by
  rw [rchd_at h, cmp_q (fit_of hk ha h).1 hx]
  exact decide_eq_decide.2 cm_le
theorem lastP_more {p : Nat → Bool} : ∀ {n k : Nat}, lastP p n = some k → ∀ j, k < j → j < n → p j = false
  | 0, k, h => by simp [lastP] at h
  | n + 1, k, h => fun j h1 h2 => by
    rw [lastP] at h
    split at h
    next q => simp at h; subst h; omega
    next q =>
      by_cases e : j = n
      · subst e; simpa using q
      · exact lastP_more h j h1 (by omega)
theorem lastP_no {p : Nat → Bool} : ∀ {n : Nat}, lastP p n = none → ∀ j, j < n → p j = false
  | 0, _ => fun j h => absurd h (Nat.not_lt_zero j)
  | n + 1, h => fun j h2 => by
    rw [lastP] at h
    split at h
    next => simp at h
    next q =>
      by_cases e : j = n
      · subst e; simpa using q
      · exact lastP_no h j (by omega)
/-- How many steps are reached. -/
def cntT (L : List Stp) (x : Dn) : Nat := match lastP (rchd L x) L.length with
  | some k => k + 1
  | none => 0
theorem cnt_le (L : List Stp) (x : Dn) : cntT L x ≤ L.length := by
  unfold cntT
  split
  next k h => have := (lastP_inv h).1; omega
  next => omega
theorem cnt_mono {L : List Stp} {x : Dn} (hk : ∀ y ∈ L, y.ok) (hc : chkT L = 0) (hx : x.fit) (j : Nat) (hj : j < L.length) : rchd L x j = decide (j < cntT L x) := by
  obtain ⟨_, _, ha, hs⟩ := chk_0 hc
  unfold cntT
  split
  next k h =>
    obtain ⟨h1, h2⟩ := lastP_inv h
    by_cases e : k < j
    · rw [lastP_more h j e hj]; simp; omega
    · obtain ⟨u, hu⟩ := get_of_lt hj
      obtain ⟨v, hv⟩ := get_of_lt h1
      rw [rchd_q hk ha hx hv] at h2
      have h3 := of_decide_eq_true h2
      have h4 := asc_le hk ha hs (by omega : j ≤ k) hu hv
      rw [rchd_q hk ha hx hu]
      have h5 : u.a.q ≤ x.q := by omega
      simp [h5]; omega
  next h => rw [lastP_no h j hj]; simp
theorem stp_c0 {L : List Stp} {x : Dn} (h : chkT L = 0) (hx : x.er = 0) (e : cntT L x = 0) : stpE L x = 141 ∧ stpN L x = 0 := by
  have hn : lastP (rchd L x) L.length = none := by
    unfold cntT at e; split at e
    · omega
    · assumption
  have h1 : stpE L x = 141 := by unfold stpE; rw [if_pos h, if_pos hx, hn]; rfl
  exact ⟨h1, by unfold stpN; rw [h1]; rfl⟩
theorem stp_c1 {L : List Stp} {x : Dn} (h : chkT L = 0) (hx : x.er = 0) {k : Nat} (e : lastP (rchd L x) L.length = some k) : stpE L x = 0 ∧ stpN L x = (k : Int) := by
  have h1 : stpE L x = 0 := by unfold stpE; rw [if_pos h, if_pos hx, e]; rfl
  exact ⟨h1, by unfold stpN; rw [h1, e]; rfl⟩
theorem cnt_some {L : List Stp} {x : Dn} {k : Nat} (h : cntT L x = k + 1) : lastP (rchd L x) L.length = some k := by
  unfold cntT at h
  split at h
  next k' e => rw [e]; congr 1; omega
  next => omega
end Go.Proofs.YtfmfeipeeedfpaaGreat
namespace Go.Proofs.YtfmfeipeeedfpaaGreat
namespace S
section
variable {P : Program} {w0 : B0}
def gotoK {α : Type} (m0 l : Nat) (J : α → St) (pre lt : α → Prop) (C : Exit → St → Prop) (e : Exit) (s : St) : Prop := match e with
  | .goto l' => l' = l ∧ ∃ a', pre a' ∧ lt a' ∧ ∃ σ, Fit m0 s (J a') σ
  | e => C e s
theorem least {p : Nat → Prop} : ∀ (n : Nat), p n → ∃ m, p m ∧ ∀ i, p i → m ≤ i := by
  intro n
  induction n using Nat.strongRecOn with
  | _ n ih =>
    intro h
    by_cases q : ∃ i, i < n ∧ p i
    · obtain ⟨i, hi, hp⟩ := q; exact ih i hi hp
    · exact ⟨n, h, fun i hi => Nat.le_of_not_lt fun hlt => q ⟨i, hlt, hi⟩⟩
theorem w_scope {c rest : Code} {s : St} {C : Exit → St → Prop} {α : Type} (l : Nat) (hf : findLabel c l = some rest) (J : α → St) (pre : α → Prop) (μ : α → Nat) (first : Rn P w0 (gotoK w0.m l J pre (fun _ => True) C) (cf s [co c]))
    (pass : ∀ a, pre a → Rn P w0 (gotoK w0.m l J pre (fun a' => μ a' < μ a) C) (cf (J a) [co rest])) : WC P w0 (.scope c) s C := by
  intro Q k W act R hK
  let p : Act → World → Nat → Prop := fun act W m => ∃ a k, pre a ∧ Rl w0 (J a) k W act ∧ μ a = m
  let f : Act → World → Nat := fun act W => Classical.epsilon fun m => p act W m ∧ ∀ i, p act W i → m ≤ i
  have hfs : ∀ act W, (∃ n, p act W n) → p act W (f act W) ∧ ∀ i, p act W i → f act W ≤ i := fun act W ⟨n, hn⟩ => Classical.epsilon_spec (p := fun m => p act W m ∧ ∀ i, p act W i → m ≤ i) (least n hn)
  refine wp_scope_jumps l (fun act W => ∃ n, p act W n) f hf ?_ ?_
  · refine run_ok first _ _ _ _ R fun e s' k' W' a' R' hC => ?_
    cases e with
    | goto l' => obtain ⟨h1, a2, h2, _, σ, hF⟩ := hC; exact ⟨h1, _, a2, _, h2, hF.rl R', rfl⟩
    | _ => exact hK _ _ _ _ _ R' hC
  · intro act W hn
    obtain ⟨⟨a, k, hpa, hR, hμ⟩, hle⟩ := hfs act W hn
    refine run_ok (pass a hpa) _ _ _ _ hR fun e s' k' W' a' R' hC => ?_
    cases e with
    | goto l' =>
      obtain ⟨h1, a2, h2, h3, σ, hF⟩ := hC
      have q : p a' W' (μ a2) := ⟨a2, _, h2, hF.rl R', rfl⟩
      exact ⟨h1, ⟨_, q⟩, by have := (hfs a' W' ⟨_, q⟩).2 _ q; omega⟩
    | _ => exact hK _ _ _ _ _ R' hC
end
end S
end Go.Proofs.YtfmfeipeeedfpaaGreat
namespace Go.Proofs.YtfmfeipeeedfpaaGreat
open S Go.RowKit
/-- A table of brackets as it came in: its name, where its steps lie, the steps. -/
structure Tb where
  nm : ByteArray
  pa : Option Addr
  cap : Nat
  st : List Stp
abbrev Tb.cells (x : Tb) : List Value := [.string x.nm, .slice x.pa x.st.length x.cap]
abbrev Tb.v (x : Tb) : Value := .agg x.cells.toArray
abbrev Tb.y (x : Tb) : Value := .agg (x.cells.map rel1).toArray
/-- Its steps lie there. -/
structure TbL (W : World) (x : Tb) : Prop where
  sl : ∀ i y, x.st[i]? = some y → ∃ b o, x.pa = some ⟨b, o, none⟩ ∧ Lies W b (o + i * 18) y.cells
  ok : ∀ y ∈ x.st, y.ok
  ln : x.st.length ≤ 9223372036854775807
theorem TbL.mono {W W' : World} {x : Tb} (h : TbL W x) (E : ∀ a u, W.cell? a = some u → W'.cell? a = some u) : TbL W' x :=
  ⟨fun i y hy => by obtain ⟨b, o, h1, h2⟩ := h.sl i y hy; exact ⟨b, o, h1, fun j u hj => E _ _ (h2 j u hj)⟩, h.ok, h.ln⟩
theorem xce {X' X : World} (h : Xf X' X) (a : Addr) (u : Value) (hc : X.cell? a = some u) : X'.cell? a = some u := by
  unfold World.cell? at hc ⊢
  split at hc
  · rename_i c ty fz hx
    have : (Obj.cells c ty fz) ≠ hole X := fun e => by
      unfold hole at e
      cases e
      split at hc <;> simp at hc
    rw [(h.2 _ _ hx this).1]; exact hc
  · cases hc
theorem TbL.xf {X X' : World} {x : Tb} (h : TbL X x) (hX : Xf X' X) : TbL X' x := h.mono (xce hX)
theorem Lies.part {W : World} {b o : Nat} {l1 l2 l3 : List Value} (h : Lies W b o (l1 ++ l2 ++ l3)) : Lies W b (o + l1.length) l2 := fun j u hj => by
  have := h (l1.length + j) u (by rw [List.append_assoc, List.getElem?_append_right (by omega)]; simp only [Nat.add_sub_cancel_left]; rw [List.getElem?_append_left (List.getElem?_eq_some_iff.1 hj).1]; exact hj)
  rw [Nat.add_assoc]; exact this
theorem Stp.lc {W : World} {b o : Nat} {s : Stp} (h : Lies W b o s.cells) : Lies W b o s.a.cells ∧ Lies W b (o + 6) s.b.cells ∧ Lies W b (o + 12) s.c.cells :=
  ⟨Lies.part (l1 := []) (l3 := s.b.cells ++ s.c.cells) (by simpa [Stp.cells, List.append_assoc] using h), Lies.part (l1 := s.a.cells) (l3 := s.c.cells) (by simpa [Stp.cells, List.append_assoc] using h), Lies.part (l1 := s.a.cells ++ s.b.cells) (l3 := []) (by simpa [Stp.cells, List.append_assoc] using h)⟩
abbrev Dn.r (d : Dn) : List Value := d.cells.map rel1
def ck3 : List Dn → Int
  | [] => 0
  | x :: l => if x.er = 0 then ck3 l else x.er
set_option maxRecDepth 20000 in
theorem b_nums (X : World) (x y z : Dn) (hx : x.ok) (hy : y.ok) (hz : z.ok) : Ctr Tryz.prog X 226 [.slice (some ⟨0, 0, none⟩) 3 6] [(0, some ((x.cells ++ (y.cells ++ z.cells)).map rel1))] 1 1 (.int .i64 (ck3 [x, y, z])) [(0, some ((x.cells ++ (y.cells ++ z.cells)).map rel1))] 1 := by
  refine fn_c _ Tryz.func226 rfl rfl rfl rfl (fun w l X' hX => run_ok (st mo ?_))
  refine st mo ?_
  refine S.w_loop (fun i : Nat => ⟨⟨18, [(6, .slice (some ⟨0, 0, none⟩) 3 6), (7, .int .i64 3), (8, .int .i64 (i : Int))]⟩, [(0, some ((x.cells ++ (y.cells ++ z.cells)).map rel1))], 1, X'⟩) (fun i => i ≤ 3 ∧ (1 ≤ i → x.er = 0) ∧ (2 ≤ i → y.er = 0) ∧ (i = 3 → z.er = 0)) (fun i => 3 - i) 0 ⟨by omega, by omega, by omega, by omega⟩ [0] ⟨rfl, ⟨fs, fv, fv, trivial⟩, ⟨flr rfl, trivial⟩, xf, rfl, rfl⟩ ?_
  intro i hi
  rcases i with _ | i
  · refine st mo ⟨fun _ => st mo ⟨0, rfl, by decide, st mo ⟨x.r, rfl, rfl, Or.inl (st mo ?_)⟩⟩, fun h => absurd h (by omega)⟩
    refine ⟨_, fun nn => r_call (t := .int .i64 x.er) rfl rfl Tryz.func157 (fun W M E => p_dck x.b x.n x.s hx W), st mo ⟨fun h => st mo ?_, fun h => st mo ?_⟩⟩
    · exact ⟨rfl, [0], fe (by simp_all [ck3]), ⟨flr rfl, trivial⟩, rfl, rfl⟩
    · have h : x.er = 0 := Classical.byContradiction fun q => q h
      refine ⟨_, wz 1 rfl, st mo ?_⟩
      exact ⟨1, ⟨by omega, by simp_all, by simp_all, by simp_all⟩, by decide, [0], rfl, ⟨fs, fv, fv, trivial⟩, ⟨flr rfl, trivial⟩, xf, rfl, rfl⟩
  rcases i with _ | i
  · refine st mo ⟨fun _ => st mo ⟨1, rfl, by decide, st mo ⟨y.r, rfl, rfl, Or.inl (st mo ?_)⟩⟩, fun h => absurd h (by omega)⟩
    refine ⟨_, fun nn => r_call (t := .int .i64 y.er) rfl rfl Tryz.func157 (fun W M E => p_dck y.b y.n y.s hy W), st mo ⟨fun h => st mo ?_, fun h => st mo ?_⟩⟩
    · exact ⟨rfl, [0], fe (by simp_all [ck3]), ⟨flr rfl, trivial⟩, rfl, rfl⟩
    · have h : y.er = 0 := Classical.byContradiction fun q => q h
      refine ⟨_, wz 2 rfl, st mo ?_⟩
      exact ⟨2, ⟨by omega, by simp_all, by simp_all, by simp_all⟩, by decide, [0], rfl, ⟨fs, fv, fv, trivial⟩, ⟨flr rfl, trivial⟩, xf, rfl, rfl⟩
  rcases i with _ | i
  · refine st mo ⟨fun _ => st mo ⟨2, rfl, by decide, st mo ⟨z.r, rfl, rfl, Or.inl (st mo ?_)⟩⟩, fun h => absurd h (by omega)⟩
    refine ⟨_, fun nn => r_call (t := .int .i64 z.er) rfl rfl Tryz.func157 (fun W M E => p_dck z.b z.n z.s hz W), st mo ⟨fun h => st mo ?_, fun h => st mo ?_⟩⟩
    · exact ⟨rfl, [0], fe (by simp_all [ck3]), ⟨flr rfl, trivial⟩, rfl, rfl⟩
    · have h : z.er = 0 := Classical.byContradiction fun q => q h
      refine ⟨_, wz 3 rfl, st mo ?_⟩
      exact ⟨3, ⟨by omega, by simp_all, by simp_all, by simp_all⟩, by decide, [0], rfl, ⟨fs, fv, fv, trivial⟩, ⟨flr rfl, trivial⟩, xf, rfl, rfl⟩
  obtain rfl : i = 0 := by omega
  refine st mo ⟨fun h => absurd h (by omega), fun _ => st mo (st mo ?_)⟩
  exact ⟨rfl, [0], fe (by simp_all [ck3]), ⟨flr rfl, trivial⟩, rfl, rfl⟩
theorem ck3_S (s : Stp) : ck3 [s.a, s.b, s.c] = if okS s then 0 else 20 := by rw [← ckS_ok]; unfold ckS; simp only [ck3]; repeat (first | rfl | omega | split)
theorem TbL.at {W : World} {x : Tb} (h : TbL W x) {i : Nat} (hi : i < x.st.length) : ∃ y, x.st[i]? = some y ∧ y.ok ∧ ∃ b o, x.pa = some ⟨b, o, none⟩ ∧ Lies W b (o + i * 18) y.cells := by
  obtain ⟨y, hy⟩ := get_of_lt hi
  exact ⟨y, hy, h.ok y (List.mem_of_getElem? hy), h.sl i y hy⟩
set_option maxRecDepth 20000 in
theorem b_check (x : Tb) (w : World) (hT : TbL w x) : Calls Tryz.prog 212 #[x.v] w fun r W => r = .returned (.int .i64 (chkT x.st)) ∧ Mb w W := by
  have hln := hT.ln
  refine fn_pure [x.y] Tryz.func212 rfl rfl rfl (run_ok (st mo (st mo ?_)))
  refine ⟨fun h => st mo ?_, fun h1 => st mo (st mo ⟨fun h => st mo ?_, fun h2 => st mo (st mo ?_)⟩)⟩
  · show _ = _; rw [chkT, if_pos (by omega)]
  · show _ = _; rw [chkT, if_neg (by omega), if_pos (by omega)]
  refine S.w_loop (fun i : Nat => ⟨⟨56, [(1, .pointer (some ⟨0, 0, none⟩)), (16, raw (.slice x.pa x.st.length x.cap)), (17, .int .i64 (x.st.length : Int)), (18, .int .i64 (i : Int))]⟩, [(0, some (x.cells.map rel1))], 1, w⟩) (fun i => i ≤ x.st.length ∧ ∀ j < i, ∀ y, x.st[j]? = some y → okS y = true) (fun i => x.st.length - i) 0 ⟨by omega, fun j hj => absurd hj (Nat.not_lt_zero j)⟩ [0] ⟨rfl, ⟨fp, fv, fv, fv, trivial⟩, ⟨flr rfl, trivial⟩, xf, rfl, rfl⟩ ?_
  intro i hi
  refine st mo ⟨fun hlt => st mo ?_, fun hge => st mo (st mo ?_)⟩
  · have hil : i < x.st.length := by omega
    obtain ⟨y, hy, hok, b, o, h4, h5⟩ := hT.at hil
    refine ⟨b, o, i, h4, rfl, hil, st mo ⟨y.cells, rfl, h5, st mo ?_⟩⟩
    refine ⟨_, fun nn => r_c (tc := .int .i64 (ck3 [y.a, y.b, y.c])) [2] [some ((y.a.cells ++ (y.b.cells ++ y.c.cells)).map rel1)] [] rfl rfl (b_nums w y.a y.b y.c hok.1 hok.2.1 hok.2.2) (by exact fitL_cons fs rfl) ⟨flr rfl, trivial⟩ uv ⟨ulr rfl, trivial⟩, st mo ?_⟩
    have e := ck3_S y
    refine ⟨fun h => st mo ?_, fun h => st mo ?_⟩
    · have hb : okS y = false := by cases q : okS y with
        | false => rfl
        | true => rw [q] at e; exact absurd e h
      rw [hb] at e
      show _ = _; rw [e, chk_bad (by omega) (by omega) (List.mem_of_getElem? hy) hb]; rfl
    · have hb : okS y = true := by cases q : okS y with
        | true => rfl
        | false => rw [q] at e; exact absurd (e.symm.trans (Classical.byContradiction fun q => q h)) (by decide)
      refine ⟨_, wz (i + 1) rfl, st mo ?_⟩
      refine ⟨i + 1, ⟨hil, fun j hj z hz => ?_⟩, by dsimp; omega, [0], rfl, ⟨fp, fv, fv, fv, trivial⟩, ⟨flr rfl, trivial⟩, xf, rfl, rfl⟩
      rcases Nat.lt_or_ge j i with q | q
      · exact hi.2 j q z hz
      · obtain rfl : j = i := by omega
        rw [hy] at hz; cases hz; exact hb
  have hall : x.st.all okS = true := all_of (fun j hj y hy => hi.2 j (by omega) y hy)
  refine S.w_loop (fun i : Nat => ⟨⟨56, [(1, .pointer (some ⟨0, 0, none⟩)), (6, .int .i64 ((i + 1 : Nat) : Int))]⟩, [(0, some (x.cells.map rel1))], 1, w⟩) (fun i => i < x.st.length ∧ ∀ j < i, ∀ y z, x.st[j]? = some y → x.st[j + 1]? = some z → 0 < cmpD z.a y.a) (fun i => x.st.length - i) 0 ⟨by omega, fun j hj => absurd hj (Nat.not_lt_zero j)⟩ [0] ⟨rfl, ⟨fp, fv, trivial⟩, ⟨flr rfl, trivial⟩, xf, rfl, rfl⟩ ?_
  intro i hi
  refine st mo (st mo ⟨fun hlt => st mo ?_, fun hge => st mo (st mo ?_)⟩)
  · have hil : i + 1 < x.st.length := by omega
    obtain ⟨y, hy, hok, b, o, h4, h5⟩ := hT.at (Nat.lt_of_succ_lt hil)
    obtain ⟨z, hz, hokz, b', o', h6, h7⟩ := hT.at hil
    obtain ⟨rfl, rfl⟩ : b' = b ∧ o' = o := by rw [h4] at h6; cases h6; exact ⟨rfl, rfl⟩
    have fy := fit_of hT.ok hall hy
    have fz := fit_of hT.ok hall hz
    refine ⟨b', o', i + 1, h4, rfl, hil, st mo ⟨z.a.cells, rfl, (Stp.lc h7).1, st mo ?_⟩⟩
    refine ⟨(i : Int), wz i (by omega), st mo ⟨b', o', i, h4, rfl, by omega, st mo ⟨y.a.cells, rfl, (Stp.lc h5).1, st mo ?_⟩⟩⟩
    refine ⟨_, fun nn => r_call (t := .int .i64 (cmpD z.a y.a)) rfl rfl Tryz.func172 (fun W M E => p_dcmp z.a.b z.a.n z.a.s y.a.b y.a.n y.a.s fz.1.1 fy.1.1 fz.1.2 fy.1.2 W), st mo ⟨fun h => st mo ⟨dk, st mo ?_⟩, fun h => st mo ⟨dk, st mo ?_⟩⟩⟩
    · show _ = _; rw [chk_low (by omega) (by omega) hall hy hz (by omega)]
    · refine ⟨_, wz (i + 1 + 1) rfl, st mo ?_⟩
      refine ⟨i + 1, ⟨hil, fun j hj u v hu hv => ?_⟩, by dsimp; omega, [0], rfl, ⟨fp, fv, trivial⟩, ⟨flr rfl, trivial⟩, xf, rfl, rfl⟩
      rcases Nat.lt_or_ge j i with q | q
      · exact hi.2 j q u v hu hv
      · obtain rfl : j = i := by omega
        rw [hy] at hu; cases hu; rw [hz] at hv; cases hv; omega
  · have hs : asc x.st = true := asc_of fun j u v hu hv => hi.2 j (by have := lt_of_get hv; omega) u v hu hv
    show _ = _; rw [chk_fine (by omega) (by omega) hall hs]
abbrev q0 (i : Nat) : Value := .pointer (some ⟨i, 0, none⟩)
abbrev hB (x : Tb) (d : Dn) : HT := [(0, some (x.cells.map rel1)), (1, some d.r)]
set_option maxRecDepth 20000 in
theorem b_reach (X : World) (x : Tb) (d : Dn) (i : Nat) (hT : TbL X x) (hall : x.st.all okS = true) (hd : d.fit) (hi : i < x.st.length) (t : Value) (ht : t = if rchd x.st d i then litT else litF) : Ctr Tryz.prog X 214 [.int .i64 (i : Int), q0 0, q0 1] (hB x d) 2 2 t (hB x d) 2 := by
  subst ht
  refine fn_c _ Tryz.func214 rfl rfl rfl rfl (fun w l X' hX => run_ok (st mo ?_))
  obtain ⟨y, hy, hok, b, o, h4, h5⟩ := (hT.xf hX).at hi
  have fy := fit_of hT.ok hall hy
  rw [rchd_at hy]
  refine ⟨b, o, i, h4, rfl, hi, st mo ⟨y.a.cells, rfl, (Stp.lc h5).1, st mo ?_⟩⟩
  refine ⟨_, fun nn => r_call (t := .int .i64 (cmpD y.a d)) rfl rfl Tryz.func172 (fun W M E => p_dcmp y.a.b y.a.n y.a.s d.b d.n d.s fy.1.1 hd.1 fy.1.2 hd.2 W), st mo ⟨fun h => st mo ⟨dk, st mo ?_⟩, fun h => st mo ⟨dk, st mo ?_⟩⟩⟩
  · rw [decide_eq_true h]; exact ⟨rfl, [0, 1], fv, ⟨flr rfl, flr rfl, trivial⟩, rfl, rfl⟩
  · rw [decide_eq_false (by omega)]; exact ⟨rfl, [0, 1], fv, ⟨flr rfl, flr rfl, trivial⟩, rfl, rfl⟩
set_option maxRecDepth 20000 in
theorem b_halve (X : World) (x : Tb) (d : Dn) (hT : TbL X x) (hc : chkT x.st = 0) (hd : d.fit) : Ctr Tryz.prog X 213 [.int .i64 (x.st.length : Int), .func (.func 214) #[] #[q0 0, q0 1]] (hB x d) 2 2 (.int .i64 (cntT x.st d : Int)) (hB x d) 2 := by
  obtain ⟨hl, _, hall, hasc⟩ := chk_0 hc
  have hcl := cnt_le x.st d
  have hmono := cnt_mono hT.ok hc hd
  refine fn_c _ Tryz.func213 rfl rfl rfl rfl (fun w l X' hX => run_ok (st mo ?_))
  refine w_scope 0 rfl (fun p : Nat × Nat => ⟨⟨25, [(1, .func (.func 214) #[] #[q0 0, q0 1]), (5, .int .i64 (p.1 : Int)), (6, .int .i64 (p.2 : Int))]⟩, hB x d, 2, X'⟩) (fun p => p.1 ≤ cntT x.st d ∧ cntT x.st d ≤ p.2 ∧ p.2 ≤ x.st.length) (fun p => p.2 - p.1) ?_ ?_
  · refine st mo ⟨fun heq => st mo ?_, fun hne => st mo ?_⟩
    · exact ⟨rfl, [0, 1], fe (by omega), ⟨flr rfl, flr rfl, trivial⟩, rfl, rfl⟩
    · obtain ⟨g, hg⟩ : ∃ g : Nat, g = (x.st.length - 0) / 2 := ⟨_, rfl⟩
      obtain ⟨m, hm⟩ : ∃ m : Nat, m = 0 + g := ⟨_, rfl⟩
      refine ⟨((x.st.length - 0 : Nat) : Int), wz _ (by omega), st mo ⟨by decide, (g : Int), by rw [Int.tdiv_eq_ediv_of_nonneg (by omega)]; exact wz _ (by omega), st mo ⟨(m : Int), wz _ (by omega), st mo ?_⟩⟩⟩
      have hmr := hmono m (by omega)
      by_cases hlt : m < cntT x.st d
      · refine ⟨_, fun nn => r_c (tc := litT) [0, 1] [some (x.cells.map rel1), some d.r] [] rfl rfl (b_reach X' x d m (hT.xf hX) hall hd (by omega) litT (by rw [hmr, decide_eq_true hlt]; rfl)) (fitL_cons fv (fitL_cons fp (fitL_cons fp rfl))) ⟨flr rfl, flr rfl, trivial⟩ uv ⟨ulr rfl, ulr rfl, trivial⟩, st mo ⟨((m + 1 : Nat) : Int), wz _ (by omega), st mo ?_⟩⟩
        exact ⟨rfl, (m + 1, x.st.length), ⟨by dsimp; omega, by dsimp; omega, by dsimp; omega⟩, trivial, [0, 1], rfl, ⟨ff (fitL_cons fp (fitL_cons fp rfl)), fv, fv, trivial⟩, ⟨flr rfl, flr rfl, trivial⟩, xf, rfl, rfl⟩
      · refine ⟨_, fun nn => r_c (tc := litF) [0, 1] [some (x.cells.map rel1), some d.r] [] rfl rfl (b_reach X' x d m (hT.xf hX) hall hd (by omega) litF (by rw [hmr, decide_eq_false hlt]; rfl)) (fitL_cons fv (fitL_cons fp (fitL_cons fp rfl))) ⟨flr rfl, flr rfl, trivial⟩ uv ⟨ulr rfl, ulr rfl, trivial⟩, st mo ?_⟩
        exact ⟨rfl, (0, m), ⟨by dsimp; omega, by dsimp; omega, by dsimp; omega⟩, trivial, [0, 1], rfl, ⟨ff (fitL_cons fp (fitL_cons fp rfl)), fv, fv, trivial⟩, ⟨flr rfl, flr rfl, trivial⟩, xf, rfl, rfl⟩
  · intro ⟨lo, hi⟩ ⟨hp1, hp2, hp3⟩
    dsimp only at hp1 hp2 hp3
    refine st mo ⟨fun heq => st mo ?_, fun hne => st mo ?_⟩
    · exact ⟨rfl, [0, 1], fe (by omega), ⟨flr rfl, flr rfl, trivial⟩, rfl, rfl⟩
    · obtain ⟨g, hg⟩ : ∃ g : Nat, g = (hi - lo) / 2 := ⟨_, rfl⟩
      obtain ⟨m, hm⟩ : ∃ m : Nat, m = lo + g := ⟨_, rfl⟩
      refine ⟨((hi - lo : Nat) : Int), wz _ (by omega), st mo ⟨by decide, (g : Int), by rw [Int.tdiv_eq_ediv_of_nonneg (by omega)]; exact wz _ (by omega), st mo ⟨(m : Int), wz _ (by omega), st mo ?_⟩⟩⟩
      have hmr := hmono m (by omega)
      by_cases hlt : m < cntT x.st d
      · refine ⟨_, fun nn => r_c (tc := litT) [0, 1] [some (x.cells.map rel1), some d.r] [] rfl rfl (b_reach X' x d m (hT.xf hX) hall hd (by omega) litT (by rw [hmr, decide_eq_true hlt]; rfl)) (fitL_cons fv (fitL_cons fp (fitL_cons fp rfl))) ⟨flr rfl, flr rfl, trivial⟩ uv ⟨ulr rfl, ulr rfl, trivial⟩, st mo ⟨((m + 1 : Nat) : Int), wz _ (by omega), st mo ?_⟩⟩
        exact ⟨rfl, (m + 1, hi), ⟨by dsimp; omega, by dsimp; omega, by dsimp; omega⟩, by dsimp; omega, [0, 1], rfl, ⟨ff (fitL_cons fp (fitL_cons fp rfl)), fv, fv, trivial⟩, ⟨flr rfl, flr rfl, trivial⟩, xf, rfl, rfl⟩
      · refine ⟨_, fun nn => r_c (tc := litF) [0, 1] [some (x.cells.map rel1), some d.r] [] rfl rfl (b_reach X' x d m (hT.xf hX) hall hd (by omega) litF (by rw [hmr, decide_eq_false hlt]; rfl)) (fitL_cons fv (fitL_cons fp (fitL_cons fp rfl))) ⟨flr rfl, flr rfl, trivial⟩ uv ⟨ulr rfl, ulr rfl, trivial⟩, st mo ?_⟩
        exact ⟨rfl, (lo, m), ⟨by dsimp; omega, by dsimp; omega, by dsimp; omega⟩, by dsimp; omega, [0, 1], rfl, ⟨ff (fitL_cons fp (fitL_cons fp rfl)), fv, fv, trivial⟩, ⟨flr rfl, flr rfl, trivial⟩, xf, rfl, rfl⟩
abbrev Dn.v' (d : Dn) : Value := dc d.b d.n d.s
theorem er_20 {d : Dn} (h : ¬ d.er = 0) : d.er = 20 := (er_or d).resolve_left h
set_option maxRecDepth 20000 in
theorem b_step (x : Tb) (d : Dn) (hd : d.ok) (w : World) (hT : TbL w x) : Calls Tryz.prog 200 #[x.v, d.v'] w fun r W => r = .returned (.tuple #[.int .i64 (stpN x.st d), .int .i64 (stpE x.st d)]) ∧ Mb w W := by
  refine fn_pure [x.y, d.v'] Tryz.func200 rfl rfl rfl (run_ok (st mo ?_))
  refine ⟨_, fun nn => r_call (t := .int .i64 (chkT x.st)) rfl rfl Tryz.func212 (fun W M E => b_check x W (hT.mono E)), st mo ⟨fun h => st mo ?_, fun h => st mo ?_⟩⟩
  · have e1 : stpE x.st d = chkT x.st := by unfold stpE; rw [if_neg h]
    have e2 : stpN x.st d = 0 := by unfold stpN; rw [if_neg (by rw [e1]; exact h)]
    show _ = _; rw [e1, e2]; rfl
  · have hc : chkT x.st = 0 := h
    refine ⟨_, fun nn => r_call (t := .int .i64 d.er) rfl rfl Tryz.func157 (fun W M E => p_dck d.b d.n d.s hd W), st mo ⟨fun h => st mo ?_, fun h => st mo (st mo ?_)⟩⟩
    · have e1 : stpE x.st d = d.er := by unfold stpE; rw [if_pos hc, if_neg h, er_20 h]
      have e2 : stpN x.st d = 0 := by unfold stpN; rw [if_neg (by rw [e1]; exact h)]
      show _ = _; rw [e1, e2]; rfl
    · have he : d.er = 0 := h
      refine ⟨_, fun nn => r_c (tc := .int .i64 (cntT x.st d : Int)) [0, 1] [some (x.cells.map rel1), some d.r] [] rfl rfl (b_halve w x d hT hc ⟨hd, he⟩) (fitL_cons fv (fitL_cons (ff (fitL_cons fp (fitL_cons fp rfl))) rfl)) ⟨flr rfl, flr rfl, trivial⟩ uv ⟨ulr rfl, ulr rfl, trivial⟩, st mo ⟨fun h0 => st mo ?_, fun h0 => st mo ?_⟩⟩
      · obtain ⟨e1, e2⟩ := stp_c0 hc he (by omega)
        show _ = _; rw [e1, e2]; rfl
      · obtain ⟨k, hk⟩ : ∃ k, cntT x.st d = k + 1 := ⟨cntT x.st d - 1, by omega⟩
        obtain ⟨e1, e2⟩ := stp_c1 hc he (cnt_some hk)
        have := cnt_le x.st d
        have := hT.ln
        refine ⟨(k : Int), wz k (by omega), st mo ?_⟩
        show _ = _; rw [e1, e2]; rfl
set_option maxRecDepth 20000 in
theorem b_says (s : Stp) (d : Dn) (hs : s.fit) (hd : d.fit) (w : World) : Calls Tryz.prog 201 #[s.v, d.v'] w fun r W => r = .returned (saysD s d).v ∧ Mb w W := by
  refine fn_pure [.agg (s.cells.map rel1).toArray, d.v'] Tryz.func201 rfl rfl rfl (run_ok (st mo ?_))
  have g1 := good_sub hd hs.1
  refine ⟨_, fun nn => r_call (t := (subD d s.a).y) rfl rfl Tryz.func170 (fun W M E => p_sub d.b d.n d.s s.a.b s.a.n s.a.s hd.1 hs.1.1 hd.2 hs.1.2 W), st mo ⟨fun h => st mo ?_, fun h => st mo ?_⟩⟩
  · show _ = _; rw [saysD, if_neg h]; rfl
  · have h : (subD d s.a).e = 0 := h
    have f1 := g1.fit h
    have b1 := f1.s
    have b2 := hs.2.2.s
    have g2 := good_mul f1 hs.2.2
    refine ⟨(subD d s.a).s + s.c.s, wi (by have : (subD d s.a).s = (subD d s.a).d.s := rfl; omega), st mo ⟨_, fun nn => r_min ((subD d s.a).s + s.c.s) 18, st mo ?_⟩⟩
    refine ⟨_, fun nn => r_call (t := (mulD (subD d s.a).d s.c).y) rfl rfl Tryz.func158 (fun W M E => d_mul (subD d s.a).b (subD d s.a).n (subD d s.a).s s.c.b s.c.n s.c.s W f1.1 hs.2.2.1 f1.2 hs.2.2.2), st mo ⟨fun h2 => st mo ?_, fun h2 => st mo ?_⟩⟩
    · show _ = _; rw [saysD, if_pos h, if_neg h2]; rfl
    · have h2 : (mulD (subD d s.a).d s.c).e = 0 := h2
      have f2 := g2.fit h2
      refine ⟨_, fun nn => r_call (t := (addD (mulD (subD d s.a).d s.c).d s.b).y) rfl rfl Tryz.func169 (fun W M E => p_add _ _ _ s.b.b s.b.n s.b.s f2.1 hs.2.1.1 f2.2 hs.2.1.2 W), st mo ?_⟩
      show _ = _; rw [saysD, if_pos h, if_pos h2]; rfl
theorem stp_0 {L : List Stp} {d : Dn} (h : stpE L d = 0) : chkT L = 0 ∧ d.er = 0 ∧ ∃ k, lastP (rchd L d) L.length = some k ∧ stpN L d = (k : Int) := by
  unfold stpE at h
  split at h
  next h1 =>
    split at h
    next h2 =>
      refine ⟨h1, h2, ?_⟩
      cases q : lastP (rchd L d) L.length with
      | none => rw [q] at h; exact absurd h (by decide)
      | some k => exact ⟨k, rfl, (stp_c1 h1 h2 q).2⟩
    next => exact absurd h (by decide)
  next h1 => exact absurd h h1
set_option maxRecDepth 20000 in
theorem b_at (x : Tb) (d : Dn) (hd : d.ok) (w : World) (hT : TbL w x) : Calls Tryz.prog 174 #[x.v, d.v'] w fun r W => r = .returned (atD x.st d).v ∧ Mb w W := by
  refine fn_pure [x.y, d.v'] Tryz.func174 rfl rfl rfl (run_ok (st mo ?_))
  refine ⟨_, fun nn => r_call (t := .tuple #[.int .i64 (stpN x.st d), .int .i64 (stpE x.st d)]) rfl rfl Tryz.func200 (fun W M E => b_step x d hd W (hT.mono E)), st mo ⟨fun h => st mo ?_, fun h => st mo ?_⟩⟩
  · show _ = _; rw [atD, if_neg h]; rfl
  · have h : stpE x.st d = 0 := h
    obtain ⟨hc, he, k, hk, hN⟩ := stp_0 h
    have hkl := (lastP_inv hk).1
    obtain ⟨y, hy, hok, b, o, h4, h5⟩ := hT.at hkl
    have fy := fit_of hT.ok (chk_0 hc).2.2.1 hy
    have e : atD x.st d = saysD y d := by unfold atD; rw [if_pos h, hk]; simp only [Option.getD_some, List.getD_eq_getElem?_getD, hy]
    rw [e]
    refine ⟨b, o, k, h4, hN.symm, hkl, st mo ⟨y.cells, rfl, h5, st mo ?_⟩⟩
    refine ⟨_, fun nn => r_call (t := (saysD y d).y) rfl rfl Tryz.func201 (fun W M E => b_says y d fy ⟨hd, he⟩ W), st mo ⟨dk, st mo ?_⟩⟩
    rfl
end Go.Proofs.YtfmfeipeeedfpaaGreat
namespace Go.Proofs.YtfmfeipeeedfpaaGreat
open S
theorem map_mod {α β : Type} {f : α → α} {g : α → β} {h : β → β} (hh : ∀ x, g (f x) = h (g x)) : ∀ (l : List α) (i : Nat), (l.modify i f).map g = (l.map g).modify i h
  | [], i => by simp
  | x :: l, 0 => by simp [hh]
  | x :: l, i + 1 => by simp [map_mod hh l i]
/-- Its pairs as they lie there. -/
abbrev prs {κ : Type} (enc : κ → Value) (al : List (κ × Int)) : List (Value × Value) := al.map fun p => (enc p.1, .int .i64 p.2)
theorem key_at {κ : Type} {enc : κ → Value} {al : List (κ × Int)} {es : Array MapEntry} (he : es.toList.map (fun e => (e.key, e.val)) = prs enc al) {a : κ} {j : Nat} (h4 : (al[j]?).map (·.1) = some a) : (es[j]?).map (·.key) = some (enc a) := by
  have h6 := congrArg (fun L => (L[j]?).map (·.1)) he
  simp only [prs, List.getElem?_map, Option.map_map] at h6
  rw [← Array.getElem?_toList]
  have h7 : Option.map (fun e : MapEntry => e.key) es.toList[j]? = (al[j]?).map (fun p => enc p.1) := h6
  rw [h7]
  cases hj : al[j]? with
  | none => rw [hj] at h4; cases h4
  | some p => rw [hj] at h4; simp at h4; simp [h4]
section maps
variable {κ : Type} [DecidableEq κ]
/-- What a list of pairs says of a key. -/
def lkq : List (κ × Int) → κ → Option Int
  | [], _ => none
  | (b, u) :: r, a => if b = a then some u else lkq r a
/-- The first of a key is changed, or it comes at the end. -/
def putq : List (κ × Int) → κ → Int → List (κ × Int)
  | [], a, v => [(a, v)]
  | (b, u) :: r, a, v => if b = a then (a, v) :: r else (b, u) :: putq r a v
theorem putq_len : ∀ (al : List (κ × Int)) (a : κ) (v : Int), (putq al a v).length = if (lkq al a).isSome then al.length else al.length + 1
  | [], a, v => by simp [putq, lkq]
  | (b, u) :: r, a, v => by
    by_cases h : b = a
    · simp [putq, lkq, h]
    · simp only [putq, if_neg h, lkq, List.length_cons, putq_len r a v]; split <;> rfl
def fdq : List (κ × Int) → κ → Nat → Option (Nat × Value)
  | [], _, _ => none
  | (b, u) :: r, a, i => if b = a then some (i, .int .i64 u) else fdq r a (i + 1)
theorem fdq_none : ∀ (al : List (κ × Int)) (a : κ) (i : Nat), fdq al a i = none → lkq al a = none
  | [], _, _, _ => rfl
  | (b, u) :: r, a, i, h => by
    by_cases e : b = a
    · simp [fdq, e] at h
    · simp only [fdq, if_neg e] at h; simp only [lkq, if_neg e]; exact fdq_none r a (i + 1) h
theorem fdq_some : ∀ (al : List (κ × Int)) (a : κ) (i j : Nat) (v : Value), fdq al a i = some (j, v) → ∃ u, v = .int .i64 u ∧ lkq al a = some u ∧ i ≤ j ∧ (al[j - i]?).map (·.1) = some a ∧ ∀ x, putq al a x = al.modify (j - i) (fun _ => (a, x))
  | [], _, _, _, _, h => by cases h
  | (b, u) :: r, a, i, j, v, h => by
    by_cases e : b = a
    · simp only [fdq, if_pos e] at h; cases h; subst e
      exact ⟨u, rfl, by simp [lkq], Nat.le_refl _, by simp, fun x => by simp [putq]⟩
    · simp only [fdq, if_neg e] at h
      obtain ⟨u', h1, h2, h3, h4, h5⟩ := fdq_some r a (i + 1) j v h
      refine ⟨u', h1, by simp only [lkq, if_neg e]; exact h2, by omega, ?_, fun x => ?_⟩
      · rw [show j - i = (j - (i + 1)) + 1 by omega, List.getElem?_cons_succ]; exact h4
      · rw [show j - i = (j - (i + 1)) + 1 by omega]; simp only [putq, if_neg e, h5 x, List.modify_succ_cons]
theorem putq_none : ∀ (al : List (κ × Int)) (a : κ) (v : Int), lkq al a = none → putq al a v = al ++ [(a, v)]
  | [], _, _, _ => rfl
  | (b, u) :: r, a, v, h => by
    by_cases e : b = a
    · simp [lkq, e] at h
    · simp only [lkq, if_neg e] at h; simp only [putq, if_neg e, putq_none r a v h, List.cons_append]
/-- What keys are: how they are found. -/
structure KT (kt : TypeId) (enc : κ → Value) : Prop where
  fd : ∀ (a : κ) (es : List MapEntry) (al : List (κ × Int)) (w : World), es.map (fun e => (e.key, e.val)) = al.map (fun p => (enc p.1, .int .i64 p.2)) → (Instr.findKey kt (enc a) es).run Tryz.prog w = .ok (fdq al a 0) w
  ck : ∀ (e : Bool) (a : κ) (w : World), (Instr.checkKey e 10000 kt (enc a)).run Tryz.prog w = .ok () w
  sb : ∀ a, Instr.sameBits 10000 (enc a) (enc a) = true
def nof (al : List (κ × Int)) (a : κ) : Int := (lkq al a).getD 0
variable {enc : κ → Value}
theorem put_m {mt kt : TypeId} (K : KT kt enc) (hu : Tryz.prog.underlying mt = some (.map kt 3)) {al : List (κ × Int)} {W : World} {b : Nat} {es : Array MapEntry} (hb : MapAt W b es) (he : es.toList.map (fun e => (e.key, e.val)) = prs enc al) (a : κ) (x : Int) : ∃ es' : Array MapEntry, (Instr.mapUpdate mt (.map (some b)) (enc a) (.int .i64 x)).run Tryz.prog W = .ok () { W with heap := W.heap.setIfInBounds b (.map es' es'.size) } ∧ (∀ (j : Nat) (e : MapEntry), es'[j]? = some e → e.born = j) ∧ es'.toList.map (fun e => (e.key, e.val)) = prs enc (putq al a x) := by
  have hf := K.fd a es.toList al W he
  cases e : fdq al a 0 with
  | none =>
    rw [e] at hf
    refine ⟨es.push { key := enc a, val := .int .i64 x, born := es.size }, ?_, born_push hb.2, ?_⟩
    · unfold Instr.mapUpdate
      simp [run_underlying hu, MapKept.run_getObj_map hb.1, K.ck, hf, MapKept.run_setObj_map _ hb.1, Result.andThen]
    · rw [putq_none al a x (fdq_none al a 0 e)]
      simp [he, prs]
  | some q =>
    obtain ⟨j, v⟩ := q
    rw [e] at hf
    obtain ⟨u, rfl, h2, _, h4, h5⟩ := fdq_some al a 0 j v e
    rw [Nat.sub_zero] at h4 h5
    have hkey := key_at he h4
    refine ⟨es.modify j fun e => { e with key := enc a, val := .int .i64 x }, ?_, born_mod hb.2 (fun _ => rfl), ?_⟩
    · unfold Instr.mapUpdate
      simp only [Sem.run_bind, run_underlying hu, MapKept.run_getObj_map hb.1, K.ck, hf, Result.andThen_ok, hkey, Option.getD_some, Instr.keyThatStays, K.sb a, if_true, Sem.run_pure, MapKept.run_setObj_map _ hb.1, Array.size_modify]
    · rw [h5 x, Array.toList_modify]
      exact (map_mod (f := fun e : MapEntry => { e with key := enc a, val := .int .i64 x }) (g := fun e => (e.key, e.val)) (h := fun _ => (enc a, .int .i64 x)) (fun _ => rfl) es.toList j).trans (by rw [he]; exact (map_mod (f := fun _ => (a, x)) (g := fun p : κ × Int => (enc p.1, Value.int .i64 p.2)) (h := fun _ => (enc a, .int .i64 x)) (fun _ => rfl) al j).symm)
end maps
theorem beq_dec (a b : ByteArray) : (a == b) = decide (a = b) := by
  by_cases h : a = b
  · rw [decide_eq_true h]; exact (MapKept.bytes_beq a b).2 h
  · rw [decide_eq_false h]
    cases e : (a == b) with
    | false => rfl
    | true => exact absurd ((MapKept.bytes_beq a b).1 e) h
theorem kt_now {κ : Type} [DecidableEq κ] {kt : TypeId} {d : TypeDesc} {enc : κ → Value} (hu : Tryz.prog.underlying kt = some d) (hs : ∀ a b : κ, Instr.sameNow d (enc a) (enc b) = some (decide (a = b))) (a : κ) (es : List MapEntry) (al : List (κ × Int)) (w : World) (h : es.map (fun e => (e.key, e.val)) = al.map (fun p => (enc p.1, .int .i64 p.2))) : (Instr.findKey kt (enc a) es).run Tryz.prog w = .ok (fdq al a 0) w := by
  have key : ∀ (es : List MapEntry) (al : List (κ × Int)) (i : Nat), es.map (fun e => (e.key, e.val)) = al.map (fun p => (enc p.1, .int .i64 p.2)) → Instr.findNow d (enc a) es i = some (fdq al a i) := by
    intro es
    induction es with
    | nil => intro al i h; cases al with
      | nil => rfl
      | cons _ _ => simp at h
    | cons e es ih =>
      intro al i h
      cases al with
      | nil => simp at h
      | cons p al =>
        simp only [List.map_cons, List.cons.injEq, Prod.mk.injEq] at h
        obtain ⟨⟨h1, h2⟩, h3⟩ := h
        obtain ⟨q, u⟩ := p
        unfold Instr.findNow
        rw [h1, hs a q]
        by_cases e2 : a = q
        · subst e2; simp [fdq, h2]
        · simp only [decide_eq_false e2, fdq, if_neg (fun e3 => e2 (Eq.symm e3))]; exact ih al (i + 1) h3
  unfold Instr.findKey
  rw [Sem.run_bind, run_underlying hu, Result.andThen_ok, key es al 0 h]
  rfl
theorem kt_ask {κ : Type} [DecidableEq κ] {kt : TypeId} {d : TypeDesc} {enc : κ → Value} (hu : Tryz.prog.underlying kt = some d) (hs : ∀ (a b : κ), Instr.sameNow d (enc a) (enc b) = none) (he : ∀ (a b : κ) (w : World), (Op.equal kt (enc a) (enc b)).run Tryz.prog w = .ok (decide (a = b)) w) (a : κ) (es : List MapEntry) (al : List (κ × Int)) (w : World) (h : es.map (fun e => (e.key, e.val)) = al.map (fun p => (enc p.1, .int .i64 p.2))) : (Instr.findKey kt (enc a) es).run Tryz.prog w = .ok (fdq al a 0) w := by
  have key : ∀ (es : List MapEntry) (al : List (κ × Int)) (i : Nat), es.map (fun e => (e.key, e.val)) = al.map (fun p => (enc p.1, .int .i64 p.2)) → (Instr.findAsking kt (enc a) es i).run Tryz.prog w = .ok (fdq al a i) w := by
    intro es
    induction es with
    | nil => intro al i h; cases al with
      | nil => rfl
      | cons _ _ => simp at h
    | cons e es ih =>
      intro al i h
      cases al with
      | nil => simp at h
      | cons p al =>
        simp only [List.map_cons, List.cons.injEq, Prod.mk.injEq] at h
        obtain ⟨⟨h1, h2⟩, h3⟩ := h
        obtain ⟨q, u⟩ := p
        unfold Instr.findAsking
        rw [Sem.run_bind, h1, he a q w, Result.andThen_ok]
        by_cases e2 : a = q
        · subst e2; simp [fdq, h2, Sem.run_pure]
        · simp only [decide_eq_false e2, fdq, if_neg (fun e3 => e2 (Eq.symm e3))]; exact ih al (i + 1) h3
  unfold Instr.findKey
  rw [Sem.run_bind, run_underlying hu, Result.andThen_ok]
  cases es with
  | nil => cases al with
    | nil => rfl
    | cons _ _ => simp at h
  | cons e es =>
    cases al with
    | nil => simp at h
    | cons p al =>
      have h' := h
      simp only [List.map_cons, List.cons.injEq, Prod.mk.injEq] at h'
      have : Instr.findNow d (enc a) (e :: es) 0 = none := by unfold Instr.findNow; rw [h'.1.1, hs]
      rw [this]
      exact key (e :: es) (p :: al) 0 h
/-- A name as a key. -/
abbrev es9 (s : ByteArray) : Value := .string s
theorem kt9 : KT 9 es9 where
  fd := kt_now Tryz.underlying9 (fun a b => by show some (a == b) = _; rw [beq_dec])
  ck := fun e a w => by cases e <;> kernel_rfl
  sb := fun a => by show (a == a) = true; rw [beq_dec]; simp
/-- A column as a key. -/
abbrev es53 (p : ByteArray × ByteArray) : Value := .agg #[.string p.1, .string p.2]
theorem ht53 : Tryz.prog.underlying 53 = some (.struct (Tryz.prog.fieldsOf 53)) := by kernel_rfl
theorem hp53 : Tryz.prog.stoodInHeld 53 = false := by kernel_rfl
theorem fo53 : (Tryz.prog.fieldsOf 53).toList.map (fun f => (f.name, f.type, f.offset)) = [("Section", 9, 0), ("Name", 9, 1)] := by kernel_rfl
theorem p53_0 (x0 x1 : Value) (w : World) : (part 9 #[x0, x1] 0).run Tryz.prog w = .ok x0 w := by kernel_rfl
theorem p53_1 (x0 x1 : Value) (w : World) : (part 9 #[x0, x1] 1).run Tryz.prog w = .ok x1 w := by kernel_rfl
theorem eq53 (p q : ByteArray × ByteArray) (w : World) : (Op.equalIn 10000 53 (es53 p) (es53 q)).run Tryz.prog w = .ok (decide (p = q)) w := by
  obtain ⟨a, b⟩ := p
  obtain ⟨c, d⟩ := q
  rw [show (10000 : Nat) = 9999 + 1 from rfl, run_equalIn_struct w 9999 53 _ _ ht53 hp53]
  have h := fo53
  generalize (Tryz.prog.fieldsOf 53).toList = L at h
  have hl : L.length = 2 := by have := congrArg List.length h; simpa using this
  match L, hl with
  | [f0, f1], _ =>
    simp at h
    obtain ⟨⟨a0, a1, a2⟩, ⟨b0, b1, b2⟩⟩ := h
    have q4 : ∀ t t' : ByteArray, (Op.equalIn 9999 9 (.string t) (.string t')).run Tryz.prog w = .ok (decide (t = t')) w := fun t t' => by rw [← beq_dec]; kernel_rfl
    simp only [Op.eqFields, a0, a1, a2, b0, b1, b2]
    by_cases h1 : a = c <;> by_cases h2 : b = d <;> simp [Sem.run_bind, p53_0, p53_1, Result.andThen_ok, q4, h1, h2, Sem.run_pure]
theorem kt53 : KT 53 es53 where
  fd := kt_ask ht53 (fun _ _ => rfl) (fun a b w => eq53 a b w)
  ck := fun e a w => by cases e <;> kernel_rfl
  sb := fun a => by
    show ((2 == 2) && ((a.1 == a.1) && ((a.2 == a.2) && true))) = true
    rw [beq_dec, beq_dec]; simp
section
variable {κ β : Type} [DecidableEq κ]
/-- What a list of pairs says of a key. -/
def lkB : List (κ × β) → κ → Option β
  | [], _ => none
  | (b, u) :: r, a => if b = a then some u else lkB r a
def putB : List (κ × β) → κ → β → List (κ × β)
  | [], a, v => [(a, v)]
  | (b, u) :: r, a, v => if b = a then (a, v) :: r else (b, u) :: putB r a v
def fdB : List (κ × β) → κ → Nat → Option (Nat × β)
  | [], _, _ => none
  | (b, u) :: r, a, i => if b = a then some (i, u) else fdB r a (i + 1)
theorem lkB_put : ∀ (al : List (κ × β)) (a : κ) (v : β) (c : κ), lkB (putB al a v) c = if a = c then some v else lkB al c
  | [], a, v, c => by simp [putB, lkB]
  | (b, u) :: r, a, v, c => by
    by_cases h : b = a
    · subst h; by_cases h2 : b = c <;> simp [putB, lkB, h2]
    · simp only [putB, if_neg h, lkB, lkB_put r a v c]
      by_cases h2 : b = c
      · subst h2; have h3 : ¬ a = b := fun e => h (Eq.symm e); simp [h3]
      · simp [h2]
theorem fdB_none : ∀ (al : List (κ × β)) (a : κ) (i : Nat), fdB al a i = none → lkB al a = none
  | [], _, _, _ => rfl
  | (b, u) :: r, a, i, h => by
    by_cases e : b = a
    · simp [fdB, e] at h
    · simp only [fdB, if_neg e] at h; simp only [lkB, if_neg e]; exact fdB_none r a (i + 1) h
theorem fdB_some : ∀ (al : List (κ × β)) (a : κ) (i j : Nat) (v : β), fdB al a i = some (j, v) → lkB al a = some v ∧ i ≤ j ∧ (al[j - i]?).map (·.1) = some a ∧ ∀ x, putB al a x = al.modify (j - i) (fun _ => (a, x))
  | [], _, _, _, _, h => by cases h
  | (b, u) :: r, a, i, j, v, h => by
    by_cases e : b = a
    · simp only [fdB, if_pos e] at h; cases h; subst e
      exact ⟨by simp [lkB], Nat.le_refl _, by simp, fun x => by simp [putB]⟩
    · simp only [fdB, if_neg e] at h
      obtain ⟨h2, h3, h4, h5⟩ := fdB_some r a (i + 1) j v h
      refine ⟨by simp only [lkB, if_neg e]; exact h2, by omega, ?_, fun x => ?_⟩
      · rw [show j - i = (j - (i + 1)) + 1 by omega, List.getElem?_cons_succ]; exact h4
      · rw [show j - i = (j - (i + 1)) + 1 by omega]; simp only [putB, if_neg e, h5 x, List.modify_succ_cons]
theorem putB_none : ∀ (al : List (κ × β)) (a : κ) (v : β), lkB al a = none → putB al a v = al ++ [(a, v)]
  | [], _, _, _ => rfl
  | (b, u) :: r, a, v, h => by
    by_cases e : b = a
    · simp [lkB, e] at h
    · simp only [lkB, if_neg e] at h; simp only [putB, if_neg e, putB_none r a v h, List.cons_append]
end
/-- A map's pairs as they lie there. -/
abbrev prB {κ β : Type} (enc : κ → Value) (ev : β → Value) (al : List (κ × β)) : List (Value × Value) := al.map fun p => (enc p.1, ev p.2)
/-- What keys are: how they are found. -/
structure KB {κ : Type} [DecidableEq κ] (kt : TypeId) (enc : κ → Value) : Prop where
  fd : ∀ (β : Type) (ev : β → Value) (a : κ) (es : List MapEntry) (al : List (κ × β)) (w : World), es.map (fun e => (e.key, e.val)) = prB enc ev al → (Instr.findKey kt (enc a) es).run Tryz.prog w = .ok ((fdB al a 0).map fun q => (q.1, ev q.2)) w
  ck : ∀ (e : Bool) (a : κ) (w : World), (Instr.checkKey e 10000 kt (enc a)).run Tryz.prog w = .ok () w
  sb : ∀ a, Instr.sameBits 10000 (enc a) (enc a) = true
section
variable {κ : Type} [DecidableEq κ] {kt : TypeId} {d : TypeDesc} {enc : κ → Value}
theorem kb_now (hu : Tryz.prog.underlying kt = some d) (hs : ∀ a b : κ, Instr.sameNow d (enc a) (enc b) = some (decide (a = b))) (β : Type) (ev : β → Value) (a : κ) (es : List MapEntry) (al : List (κ × β)) (w : World) (h : es.map (fun e => (e.key, e.val)) = prB enc ev al) : (Instr.findKey kt (enc a) es).run Tryz.prog w = .ok ((fdB al a 0).map fun q => (q.1, ev q.2)) w := by
  have key : ∀ (es : List MapEntry) (al : List (κ × β)) (i : Nat), es.map (fun e => (e.key, e.val)) = prB enc ev al → Instr.findNow d (enc a) es i = some ((fdB al a i).map fun q => (q.1, ev q.2)) := by
    intro es
    induction es with
    | nil => intro al i h; cases al with
      | nil => rfl
      | cons _ _ => simp [prB] at h
    | cons e es ih =>
      intro al i h
      cases al with
      | nil => simp [prB] at h
      | cons p al =>
        simp only [prB, List.map_cons, List.cons.injEq, Prod.mk.injEq] at h
        obtain ⟨⟨h1, h2⟩, h3⟩ := h
        obtain ⟨q, u⟩ := p
        unfold Instr.findNow
        rw [h1, hs a q]
        by_cases e2 : a = q
        · subst e2; simp [fdB, h2]
        · simp only [decide_eq_false e2, fdB, if_neg (fun e3 => e2 (Eq.symm e3))]; exact ih al (i + 1) h3
  unfold Instr.findKey
  rw [Sem.run_bind, run_underlying hu, Result.andThen_ok, key es al 0 h]
  rfl
theorem kb_ask (hu : Tryz.prog.underlying kt = some d) (hs : ∀ (a b : κ), Instr.sameNow d (enc a) (enc b) = none) (he : ∀ (a b : κ) (w : World), (Op.equal kt (enc a) (enc b)).run Tryz.prog w = .ok (decide (a = b)) w) (β : Type) (ev : β → Value) (a : κ) (es : List MapEntry) (al : List (κ × β)) (w : World) (h : es.map (fun e => (e.key, e.val)) = prB enc ev al) : (Instr.findKey kt (enc a) es).run Tryz.prog w = .ok ((fdB al a 0).map fun q => (q.1, ev q.2)) w := by
  have key : ∀ (es : List MapEntry) (al : List (κ × β)) (i : Nat), es.map (fun e => (e.key, e.val)) = prB enc ev al → (Instr.findAsking kt (enc a) es i).run Tryz.prog w = .ok ((fdB al a i).map fun q => (q.1, ev q.2)) w := by
    intro es
    induction es with
    | nil => intro al i h; cases al with
      | nil => rfl
      | cons _ _ => simp [prB] at h
    | cons e es ih =>
      intro al i h
      cases al with
      | nil => simp [prB] at h
      | cons p al =>
        simp only [prB, List.map_cons, List.cons.injEq, Prod.mk.injEq] at h
        obtain ⟨⟨h1, h2⟩, h3⟩ := h
        obtain ⟨q, u⟩ := p
        unfold Instr.findAsking
        rw [Sem.run_bind, h1, he a q w, Result.andThen_ok]
        by_cases e2 : a = q
        · subst e2; simp [fdB, h2, Sem.run_pure]
        · simp only [decide_eq_false e2, fdB, if_neg (fun e3 => e2 (Eq.symm e3))]; exact ih al (i + 1) h3
  unfold Instr.findKey
  rw [Sem.run_bind, run_underlying hu, Result.andThen_ok]
  cases es with
  | nil => cases al with
    | nil => rfl
    | cons _ _ => simp [prB] at h
  | cons e es =>
    cases al with
    | nil => simp [prB] at h
    | cons p al =>
      have h' := h
      simp only [prB, List.map_cons, List.cons.injEq, Prod.mk.injEq] at h'
      have : Instr.findNow d (enc a) (e :: es) 0 = none := by unfold Instr.findNow; rw [h'.1.1, hs]
      rw [this]
      exact key (e :: es) (p :: al) 0 h
end
theorem kb9 : KB 9 es9 where
  fd := kb_now Tryz.underlying9 (fun a b => by show some (a == b) = _; rw [beq_dec])
  ck := kt9.ck
  sb := kt9.sb
theorem kb53 : KB 53 es53 where
  fd := kb_ask ht53 (fun _ _ => rfl) (fun a b w => eq53 a b w)
  ck := kt53.ck
  sb := kt53.sb
/-- A map that came in: none, or what lies there. -/
def MapV {κ β : Type} (X : World) (enc : κ → Value) (ev : β → Value) (v : Value) (al : List (κ × β)) : Prop := (v = .map none ∧ al = []) ∨ ∃ b es n, v = .map (some b) ∧ X.heap[b]? = some (.map es n) ∧ es.toList.map (fun e => (e.key, e.val)) = prB enc ev al
theorem MapV.mono {κ β : Type} {enc : κ → Value} {ev : β → Value} {X W : World} {v : Value} {al : List (κ × β)} (h : MapV X enc ev v al) (E : ∀ (b : Nat) es n, X.heap[b]? = some (.map es n) → W.heap[b]? = some (.map es n)) : MapV W enc ev v al := by
  rcases h with h | ⟨b, es, n, h1, h2, h3⟩
  · exact Or.inl h
  · exact Or.inr ⟨b, es, n, h1, E _ _ _ h2, h3⟩
section
variable {κ β : Type} [DecidableEq κ] {mt kt vt : TypeId} {enc : κ → Value} {ev : β → Value} {z : Value}
theorem lookV (K : KB kt enc) (hu : Tryz.prog.underlying mt = some (.map kt vt)) {X : World} (hz : (zeroValue vt).run Tryz.prog X = .ok z X) {v : Value} {al : List (κ × β)} (h : MapV X enc ev v al) (a : κ) (ok : Bool) : (Instr.lookup mt v (enc a) ok).run Tryz.prog X = .ok (if ok then .tuple #[((lkB al a).map ev).getD z, .bool (lkB al a).isSome] else ((lkB al a).map ev).getD z) X := by
  rcases h with ⟨rfl, rfl⟩ | ⟨b, es, n, rfl, h2, h3⟩
  · have hf := K.fd β ev a [] [] X rfl
    have hc := K.ck true a X
    unfold Instr.lookup
    cases ok <;> simp [run_underlying hu, hc, hf, hz, Result.andThen, fdB, lkB]
  · have hf := K.fd β ev a es.toList al X h3
    unfold Instr.lookup
    cases e : fdB al a 0 with
    | none =>
      rw [e] at hf
      rw [fdB_none al a 0 e]
      cases ok <;> simp [run_underlying hu, MapKept.run_getObj_map h2, K.ck, hf, hz, Result.andThen]
    | some q =>
      obtain ⟨j, u⟩ := q
      rw [e] at hf
      rw [(fdB_some al a 0 j u e).1]
      cases ok <;> simp [run_underlying hu, MapKept.run_getObj_map h2, K.ck, hf, Result.andThen]
end
end Go.Proofs.YtfmfeipeeedfpaaGreat
namespace Go.Proofs.YtfmfeipeeedfpaaGreat
open S Go.RowKit
/-- A column: its sum, its scale. -/
structure CL where
  m : SM
  s : Int
def CL.cells (c : CL) : List Value := c.m.cells ++ [.int .i64 c.s]
abbrev CL.v (c : CL) : Value := .agg c.cells.toArray
def sm0 : SM := ⟨0, 0, 0, 0, 0, 0, 0, 0, 0, 0, false, false, 0, 0, false, 0, 0⟩
def cl0 : CL := ⟨sm0, 0⟩
/-- What is handed in to evaluate in: names, columns, tables. -/
structure Ev where
  nm : Option Nat
  cm : Option Nat
  tp : Option Addr
  cp : Nat
  N : List (ByteArray × VL)
  C : List ((ByteArray × ByteArray) × CL)
  tb : List Tb
abbrev Ev.cells (e : Ev) : List Value := [.map e.nm, .map e.cm, .slice e.tp e.tb.length e.cp]
abbrev Ev.v (e : Ev) : Value := .agg e.cells.toArray
abbrev Ev.y (e : Ev) : Value := .agg (e.cells.map rel1).toArray
structure EvL (X : World) (e : Ev) : Prop where
  n : MapV X es9 VL.v (.map e.nm) e.N
  c : MapV X es53 CL.v (.map e.cm) e.C
  no : ∀ p ∈ e.N, p.2.ok
  co : ∀ p ∈ e.C, p.2.m.ok
  sl : ∀ i t, e.tb[i]? = some t → ∃ b o, e.tp = some ⟨b, o, none⟩ ∧ Lies X b (o + i * 2) t.cells
  tl : ∀ t ∈ e.tb, TbL X t
  ln : e.tb.length ≤ 9223372036854775807
theorem EvL.mono {X W : World} {e : Ev} (h : EvL X e) (E : ∀ a u, X.cell? a = some u → W.cell? a = some u) (M : ∀ (b : Nat) es n, X.heap[b]? = some (.map es n) → W.heap[b]? = some (.map es n)) : EvL W e :=
  ⟨h.n.mono M, h.c.mono M, h.no, h.co, fun i t ht => by obtain ⟨b, o, h1, h2⟩ := h.sl i t ht; exact ⟨b, o, h1, fun j u hj => E _ _ (h2 j u hj)⟩, fun t ht => (h.tl t ht).mono E, h.ln⟩
theorem hole_map {X : World} {es : Array MapEntry} {n : Nat} : Obj.map es n ≠ hole X := fun e => by unfold hole at e; cases e
theorem EvL.xf {X X' : World} {e : Ev} (h : EvL X e) (hX : Xf X' X) : EvL X' e := h.mono (xce hX) (fun b _ _ hb => (hX.2 b _ hb hole_map).1)
theorem EvL.mb {X W : World} {e : Ev} (h : EvL X e) (M : Mb X W) (E : ∀ a u, X.cell? a = some u → W.cell? a = some u) : EvL W e := h.mono E (fun b _ _ hb => by rw [M.block b (Array.getElem?_eq_some_iff.1 hb).1]; exact hb)
theorem EvL.at {X : World} {e : Ev} (h : EvL X e) {i : Nat} (hi : i < e.tb.length) : ∃ t, e.tb[i]? = some t ∧ TbL X t ∧ ∃ b o, e.tp = some ⟨b, o, none⟩ ∧ Lies X b (o + i * 2) t.cells := by
  obtain ⟨t, ht⟩ := get_of_lt hi
  exact ⟨t, ht, h.tl t (List.mem_of_getElem? ht), h.sl i t ht⟩
/-- The value that an expression holds. -/
def Ex.val (x : Ex) : VL := ⟨x.vk, x.ng, vl x.l0 x.l1 x.l2 x.l3, x.vs, x.fl, x.tx, x.er⟩
/-- Its limbs are limbs. -/
def Ex.u4 (x : Ex) : Prop := U4 x.l0 x.l1 x.l2 x.l3
theorem Ex.u4.ok {x : Ex} (h : x.u4) : x.val.ok := vl_bd h
theorem Ex.u4.cells {x : Ex} (h : x.u4) : x.val.cells = [.int .i64 x.vk, .bool x.ng, .int .u64 x.l0, .int .u64 x.l1, .int .u64 x.l2, .int .u64 x.l3, .int .i64 x.vs, .bool x.fl, .string x.tx, .int .i64 x.er] := by
  unfold VL.cells Ex.val; dsimp only; rw [l0_vl h, l1_vl h, l2_vl h, l3_vl h]
def XU : Nat → Ex → Prop
  | 0, x => x.u4
  | d + 1, x => x.u4 ∧ ∀ y ∈ x.a, XU d y
theorem XU.u {d : Nat} {x : Ex} (h : XU d x) : x.u4 := by cases d with
  | zero => exact h
  | succ d => exact h.1
/-- How many arguments a node must have. -/
def whN (x : Ex) : Option Nat := if x.k = 1 ∨ x.k = 2 ∨ x.k = 10 then some 0 else if x.k = 3 ∨ x.k = 4 ∨ x.k = 7 ∨ x.k = 8 ∨ x.k = 9 then some 1 else if x.k = 5 then some 2 else if x.k = 6 then some 3 else none
def whl (x : Ex) : Bool := decide (whN x = some x.a.length)
def tabE (e : Ev) (s : ByteArray) : Option Tb := e.tb.find? (fun t => decide (t.nm = s))
def frmE (e : Ev) (s : ByteArray) (d : Dn) : VL := match tabE e s with
  | none => vBad 2
  | some t => if (atD t.st d).e = 0 then vNu (atD t.st d).b (atD t.st d).n (atD t.st d).s else if (atD t.st d).e = 141 then vBad 5 else if (atD t.st d).e = 7 then vBad 1 else vBad 2
def brkE (e : Ev) (s : ByteArray) (v : VL) : VL := if v.k = 4 then v else if v.k = 0 then vBad 3 else if v.k = 1 then frmE e s ⟨v.b, v.n, v.s⟩ else vBad 2
/-- The column that an aggregate asks for. -/
def colE (x : Ex) : ByteArray × ByteArray := if x.op = 16 then (x.sc, E0) else (x.sc, x.nm)
def aggE (e : Ev) (x : Ex) : VL := mayV (agV x.op ((lkB e.C (colE x)).getD cl0).m ((lkB e.C (colE x)).getD cl0).s)
def nodE (e : Ev) (x : Ex) (a : Nat → VL) : VL :=
  if x.k = 1 then mayV x.val else if x.k = 2 then mayV ((lkB e.N x.nm).getD vBl) else if x.k = 3 then negV (a 0) else if x.k = 4 then notV (a 0) else if x.k = 5 then opV x.op (a 0) (a 1) else if x.k = 6 then ifV (a 0) (a 1) (a 2)
  else if x.k = 7 then rndV (a 0) x.s x.pl else if x.k = 8 then brkE e x.nm (a 0) else if x.k = 9 then blkV (a 0) else aggE e x
def evE (e : Ev) : Nat → Ex → VL
  | 0, x => if whl x then nodE e x (fun _ => vBl) else vBad 2
  | d + 1, x => if whl x then nodE e x (fun j => ((x.a[j]?).map (evE e d)).getD vBl) else vBad 2
set_option maxRecDepth 20000 in
theorem f_may (v : VL) (hv : v.ok) (w : World) : Calls Tryz.prog 91 #[v.v] w fun r W => r = .returned (mayV v).v ∧ Mb w W := by
  refine fn_pure [v.y] Tryz.func91 rfl rfl rfl (run_ok (st mo ?_))
  refine ⟨_, fun nn => r_call (t := .int .i64 (ckI v)) rfl rfl Tryz.func77 (fun W M E => p_check v hv W), st mo ⟨fun h => st mo ?_, fun h => st mo ?_⟩⟩
  · refine ⟨_, fun nn => r_call (t := (vBad 2).y) rfl rfl Tryz.func44 (fun W M E => p_bad 2 W), st mo ?_⟩
    show _ = _; rw [mayV, if_neg (by rw [ckI_1 h]; decide)]; rfl
  · show _ = _; rw [mayV, if_pos (ckI_0 h)]; rfl
set_option maxRecDepth 20000 in
theorem f_whole (x : Ex) (w : World) : Calls Tryz.prog 60 #[.agg x.c.toArray] w fun r W => r = .returned (.bool (whl x)) ∧ Mb w W := by
  refine fn_pure [.agg (x.c.map rel1).toArray] Tryz.func60 rfl rfl rfl (run_ok (st mo ?_))
  refine ⟨fun h1 => st mo (st mo ⟨fun h => st mo ?_, fun h => st mo ?_⟩), fun h1 => st mo ?_⟩
  · show _ = _; rw [whl, whN, if_pos (by omega), decide_eq_true (by congr 1; omega)]
  · show _ = _; rw [whl, whN, if_pos (by omega), decide_eq_false (by intro q; injection q; omega)]
  refine ⟨fun h2 => st mo (st mo ⟨fun h => st mo ?_, fun h => st mo ?_⟩), fun h2 => st mo ?_⟩
  · show _ = _; rw [whl, whN, if_pos (by omega), decide_eq_true (by congr 1; omega)]
  · show _ = _; rw [whl, whN, if_pos (by omega), decide_eq_false (by intro q; injection q; omega)]
  refine ⟨fun h10 => st mo (st mo ⟨fun h => st mo ?_, fun h => st mo ?_⟩), fun h10 => st mo ?_⟩
  · show _ = _; rw [whl, whN, if_pos (by omega), decide_eq_true (by congr 1; omega)]
  · show _ = _; rw [whl, whN, if_pos (by omega), decide_eq_false (by intro q; injection q; omega)]
  refine ⟨fun h3 => st mo (st mo ⟨fun h => st mo ?_, fun h => st mo ?_⟩), fun h3 => st mo ?_⟩
  · show _ = _; rw [whl, whN, if_neg (by omega), if_pos (by omega), decide_eq_true (by congr 1; omega)]
  · show _ = _; rw [whl, whN, if_neg (by omega), if_pos (by omega), decide_eq_false (by intro q; injection q; omega)]
  refine ⟨fun h4 => st mo (st mo ⟨fun h => st mo ?_, fun h => st mo ?_⟩), fun h4 => st mo ?_⟩
  · show _ = _; rw [whl, whN, if_neg (by omega), if_pos (by omega), decide_eq_true (by congr 1; omega)]
  · show _ = _; rw [whl, whN, if_neg (by omega), if_pos (by omega), decide_eq_false (by intro q; injection q; omega)]
  refine ⟨fun h7 => st mo (st mo ⟨fun h => st mo ?_, fun h => st mo ?_⟩), fun h7 => st mo ?_⟩
  · show _ = _; rw [whl, whN, if_neg (by omega), if_pos (by omega), decide_eq_true (by congr 1; omega)]
  · show _ = _; rw [whl, whN, if_neg (by omega), if_pos (by omega), decide_eq_false (by intro q; injection q; omega)]
  refine ⟨fun h8 => st mo (st mo ⟨fun h => st mo ?_, fun h => st mo ?_⟩), fun h8 => st mo ?_⟩
  · show _ = _; rw [whl, whN, if_neg (by omega), if_pos (by omega), decide_eq_true (by congr 1; omega)]
  · show _ = _; rw [whl, whN, if_neg (by omega), if_pos (by omega), decide_eq_false (by intro q; injection q; omega)]
  refine ⟨fun h9 => st mo (st mo ⟨fun h => st mo ?_, fun h => st mo ?_⟩), fun h9 => st mo ?_⟩
  · show _ = _; rw [whl, whN, if_neg (by omega), if_pos (by omega), decide_eq_true (by congr 1; omega)]
  · show _ = _; rw [whl, whN, if_neg (by omega), if_pos (by omega), decide_eq_false (by intro q; injection q; omega)]
  refine ⟨fun h5 => st mo (st mo ⟨fun h => st mo ?_, fun h => st mo ?_⟩), fun h5 => st mo ?_⟩
  · show _ = _; rw [whl, whN, if_neg (by omega), if_neg (by omega), if_pos h5, decide_eq_true (by congr 1; omega)]
  · show _ = _; rw [whl, whN, if_neg (by omega), if_neg (by omega), if_pos h5, decide_eq_false (by intro q; injection q; omega)]
  refine ⟨fun h6 => st mo (st mo ⟨fun h => st mo ?_, fun h => st mo ?_⟩), fun h6 => st mo ?_⟩
  · show _ = _; rw [whl, whN, if_neg (by omega), if_neg (by omega), if_neg h5, if_pos h6, decide_eq_true (by congr 1; omega)]
  · show _ = _; rw [whl, whN, if_neg (by omega), if_neg (by omega), if_neg h5, if_pos h6, decide_eq_false (by intro q; injection q; omega)]
  show _ = _; rw [whl, whN, if_neg (by omega), if_neg (by omega), if_neg h5, if_neg h6]; rfl
theorem f_whole' {x : Ex} {b : Bool} (h : whl x = b) (w : World) : Calls Tryz.prog 60 #[.agg x.c.toArray] w fun r W => r = .returned (.bool b) ∧ Mb w W := h ▸ f_whole x w
set_option maxRecDepth 20000 in
theorem f_col (x : Ex) (w : World) : Calls Tryz.prog 52 #[.agg x.c.toArray] w fun r W => r = .returned (es53 (colE x)) ∧ Mb w W := by
  refine fn_pure [.agg (x.c.map rel1).toArray] Tryz.func52 rfl rfl rfl (run_ok (st mo ?_))
  refine ⟨fun h => st mo ?_, fun h => st mo ?_⟩
  · show _ = _; rw [colE, if_pos h]; rfl
  · show _ = _; rw [colE, if_neg h]; rfl
end Go.Proofs.YtfmfeipeeedfpaaGreat
namespace Go.Proofs.YtfmfeipeeedfpaaGreat
open S
/-- Each was met, and all are few. -/
structure Iv {κ : Type} (al : List (κ × Int)) (c : Nat) : Prop where
  p : ∀ q ∈ al, 1 ≤ q.2 ∧ q.2 ≤ (c : Int)
  l : al.length ≤ c
theorem Iv.up {κ : Type} {al : List (κ × Int)} {c c' : Nat} (h : Iv al c) (hc : c ≤ c') : Iv al c' := ⟨fun q hq => by have := h.p q hq; omega, by have := h.l; omega⟩
/-- What an expression's nodes are, counted. -/
def nds : Nat → Ex → Nat
  | 0, _ => 1
  | d + 1, x => x.a.foldl (fun n y => n + nds d y) 1
section
variable {κ : Type} [DecidableEq κ]
def stp (al : List (κ × Int)) (a : κ) : List (κ × Int) := putq al a (nof al a + 1)
def one (kx : Ex → Option κ) (x : Ex) (al : List (κ × Int)) : List (κ × Int) := match kx x with
  | some a => stp al a
  | none => al
theorem lkq_mem : ∀ {al : List (κ × Int)} {a : κ} {v : Int}, lkq al a = some v → (a, v) ∈ al
  | [], _, _, h => by cases h
  | (b, u) :: r, a, v, h => by
    by_cases e : b = a
    · simp [lkq, e] at h; simp [e, h]
    · simp only [lkq, if_neg e] at h; exact List.mem_cons_of_mem _ (lkq_mem h)
theorem putq_mem : ∀ {al : List (κ × Int)} {a : κ} {v : Int} {q : κ × Int}, q ∈ putq al a v → q = (a, v) ∨ q ∈ al
  | [], a, v, q, h => by simp [putq] at h; exact Or.inl h
  | (b, u) :: r, a, v, q, h => by
    by_cases e : b = a
    · simp only [putq, if_pos e] at h; rcases List.mem_cons.1 h with h | h
      · exact Or.inl h
      · exact Or.inr (List.mem_cons_of_mem _ h)
    · simp only [putq, if_neg e] at h; rcases List.mem_cons.1 h with h | h
      · exact Or.inr (by rw [h]; exact List.mem_cons_self ..)
      · exact (putq_mem h).imp id (List.mem_cons_of_mem _)
theorem Iv.nof {al : List (κ × Int)} {c : Nat} (h : Iv al c) (a : κ) : 0 ≤ nof al a ∧ nof al a ≤ (c : Int) ∧ (_root_.Go.Proofs.YtfmfeipeeedfpaaGreat.nof al a = 0 → lkq al a = none) := by
  unfold _root_.Go.Proofs.YtfmfeipeeedfpaaGreat.nof
  cases e : lkq al a with
  | none => exact ⟨by simp, by simp, fun _ => rfl⟩
  | some v => have := h.p _ (lkq_mem e); exact ⟨by simp; omega, by simp; omega, fun h0 => by simp at h0; omega⟩
theorem Iv.stp {al : List (κ × Int)} {c : Nat} (h : Iv al c) (a : κ) : Iv (_root_.Go.Proofs.YtfmfeipeeedfpaaGreat.stp al a) (c + 1) := by
  have h0 := h.nof a
  refine ⟨fun q hq => ?_, ?_⟩
  · rcases putq_mem hq with rfl | hq
    · exact ⟨by show 1 ≤ _root_.Go.Proofs.YtfmfeipeeedfpaaGreat.nof al a + 1; omega, by show _root_.Go.Proofs.YtfmfeipeeedfpaaGreat.nof al a + 1 ≤ _; omega⟩
    · have := h.p q hq; omega
  · unfold _root_.Go.Proofs.YtfmfeipeeedfpaaGreat.stp; rw [putq_len]; have := h.l; split <;> omega
theorem Iv.one {kx : Ex → Option κ} {al : List (κ × Int)} {c : Nat} (h : Iv al c) (x : Ex) : Iv (_root_.Go.Proofs.YtfmfeipeeedfpaaGreat.one kx x al) (c + 1) := by
  unfold _root_.Go.Proofs.YtfmfeipeeedfpaaGreat.one
  split
  · exact h.stp _
  · exact h.up (by omega)
theorem fold_nds {d : Nat} : ∀ (l : List Ex) (c : Nat), l.foldl (fun n y => n + nds d y) c = c + l.foldl (fun n y => n + nds d y) 0
  | [], c => by simp
  | y :: l, c => by simp only [List.foldl_cons]; rw [fold_nds l (c + nds d y), fold_nds l (0 + nds d y)]; omega
end
theorem key_atB {κ β : Type} {enc : κ → Value} {ev : β → Value} {al : List (κ × β)} {es : Array MapEntry} (he : es.toList.map (fun e => (e.key, e.val)) = prB enc ev al) {a : κ} {j : Nat} (h4 : (al[j]?).map (·.1) = some a) : (es[j]?).map (·.key) = some (enc a) := by
  have h6 := congrArg (fun L => (L[j]?).map (·.1)) he
  simp only [prB, List.getElem?_map, Option.map_map] at h6
  rw [← Array.getElem?_toList]
  have h7 : Option.map (fun e : MapEntry => e.key) es.toList[j]? = (al[j]?).map (fun p => enc p.1) := h6
  rw [h7]
  cases hj : al[j]? with
  | none => rw [hj] at h4; cases h4
  | some p => rw [hj] at h4; simp at h4; simp [h4]
section
variable {κ β : Type} [DecidableEq κ] {mt kt vt : TypeId} {enc : κ → Value} {ev : β → Value} {z : Value}
theorem put_B (K : KB kt enc) (hu : Tryz.prog.underlying mt = some (.map kt vt)) {al : List (κ × β)} {W : World} {b : Nat} {es : Array MapEntry} (hb : MapAt W b es) (he : es.toList.map (fun e => (e.key, e.val)) = prB enc ev al) (a : κ) (x : β) : ∃ es' : Array MapEntry, (Instr.mapUpdate mt (.map (some b)) (enc a) (ev x)).run Tryz.prog W = .ok () { W with heap := W.heap.setIfInBounds b (.map es' es'.size) } ∧ (∀ (j : Nat) (e : MapEntry), es'[j]? = some e → e.born = j) ∧ es'.toList.map (fun e => (e.key, e.val)) = prB enc ev (putB al a x) := by
  have hf := K.fd β ev a es.toList al W he
  cases e : fdB al a 0 with
  | none =>
    rw [e] at hf
    refine ⟨es.push { key := enc a, val := ev x, born := es.size }, ?_, born_push hb.2, ?_⟩
    · unfold Instr.mapUpdate
      simp [run_underlying hu, MapKept.run_getObj_map hb.1, K.ck, hf, MapKept.run_setObj_map _ hb.1, Result.andThen]
    · rw [putB_none al a x (fdB_none al a 0 e)]
      simp [he, prB]
  | some q =>
    obtain ⟨j, v⟩ := q
    rw [e] at hf
    obtain ⟨h2, _, h4, h5⟩ := fdB_some al a 0 j v e
    rw [Nat.sub_zero] at h4 h5
    have hkey := key_atB he h4
    refine ⟨es.modify j fun e => { e with key := enc a, val := ev x }, ?_, born_mod hb.2 (fun _ => rfl), ?_⟩
    · unfold Instr.mapUpdate
      simp only [Sem.run_bind, run_underlying hu, MapKept.run_getObj_map hb.1, K.ck, hf, Option.map_some, Result.andThen_ok, hkey, Option.getD_some, Instr.keyThatStays, K.sb a, if_true, Sem.run_pure, MapKept.run_setObj_map _ hb.1, Array.size_modify]
    · rw [h5 x, Array.toList_modify]
      exact (map_mod (f := fun e : MapEntry => { e with key := enc a, val := ev x }) (g := fun e => (e.key, e.val)) (h := fun _ => (enc a, ev x)) (fun _ => rfl) es.toList j).trans (by rw [he]; exact (map_mod (f := fun _ => (a, x)) (g := fun p : κ × β => (enc p.1, ev p.2)) (h := fun _ => (enc a, ev x)) (fun _ => rfl) al j).symm)
variable {w0 : B0} {X : World} {o : Oper} {fr : FT} {h : HT} {n : Nat} {i : Nat} {al : List (κ × β)} {a : κ}
theorem r_lkT {x ix : Operand} {t : Value} (K : KB kt enc) (hu : Tryz.prog.underlying mt = some (.map kt vt)) (hz : ∀ W, (zeroValue vt).run Tryz.prog W = .ok z W) (hk : den2 (evo fr ix) = enc a) (hcs : hget h i = some (mpl (prB enc ev al))) (ht : den t = .tuple #[((lkB al a).map ev).getD z, .bool (lkB al a).isSome]) (ho : o.op = .lookup mt x ix true := by rfl) (hx : evo fr x = .map (some i) := by rfl) (hp : pur2 (evo fr ix) = true := by rfl) (htp : pur t = true := by rfl) : Oa (Am w0 X) Tryz.prog o fr h n ⟨t, h, n, bit i, 0⟩ :=
  r_see (m := x) (u := den t) t (fun W b es ac h1 h2 hb he => by
    have h3 := h2 ix (by simp [ho, Op.operands]) hp
    have := lookV K hu (hz W) (v := .map (some b)) (al := al) (Or.inr ⟨b, es, _, rfl, hb.1, he⟩) a true
    simp [execOp, ho, h1, h3, hk, this, ht]) (by simp [ho, Op.operands]) hx hcs rfl htp
theorem r_mpB {m x y : Operand} {v : β} (K : KB kt enc) (hu : Tryz.prog.underlying mt = some (.map kt vt)) (nn : ∀ i, n ≤ i → hget h i = none) (hk : den2 (evo fr x) = enc a) (hcs : hget h i = some (mpl (prB enc ev al))) (hv : den2 (evo fr y) = ev v) (ho : o.op = .mapUpdate mt m x y := by rfl) (hm : evo fr m = .map (some i) := by rfl) (hp : pur2 (evo fr x) = true := by rfl) (hpy : pur2 (evo fr y) = true := by rfl) : Oa (Am w0 X) Tryz.prog o fr h n ⟨undef, msk (hs12 h i (some (mpl (prB enc ev (putB al a v))))) i, n, bit i, bit i⟩ :=
  r_chg (m := m) undef (prB enc ev (putB al a v)) nn (fun W b es ac h1 h2 hb he => by
    have h3 := h2 x (by simp [ho, Op.operands]) hp
    have h4 := h2 y (by simp [ho, Op.operands]) hpy
    obtain ⟨es', g1, g2, g3⟩ := put_B K hu hb he a v
    exact ⟨es', Or.inr ⟨rfl, by simp [execOp, ho, h1, h3, hk, h4, hv, g1]⟩, g2, g3⟩) (by simp [ho, Op.operands]) hm hcs rfl rfl
end
end Go.Proofs.YtfmfeipeeedfpaaGreat
namespace Go.Proofs.YtfmfeipeeedfpaaGreat
open S Go.RowKit
/-- The first places of names, as they are gathered. -/
def fpl : Nat → List Tb → List (ByteArray × Int) → List (ByteArray × Int)
  | _, [], al => al
  | i, t :: r, al => fpl (i + 1) r (if (lkB al t.nm).isSome then al else putB al t.nm (i : Int))
theorem fpl_lk (s : ByteArray) : ∀ (l : List Tb) (i : Nat) (al : List (ByteArray × Int)), lkB (fpl i l al) s = match lkB al s with
    | some v => some v
    | none => (l.findIdx? (fun t => decide (t.nm = s))).map fun j => ((i + j : Nat) : Int)
  | [], i, al => by simp only [fpl, List.findIdx?_nil, Option.map_none]; cases lkB al s <;> rfl
  | t :: r, i, al => by
    rw [fpl, fpl_lk s r (i + 1)]
    by_cases q : t.nm = s
    · subst q
      cases e : lkB al t.nm with
      | some v => simp [e]
      | none => simp [lkB_put, List.findIdx?_cons]
    · have : lkB (if (lkB al t.nm).isSome then al else putB al t.nm (i : Int)) s = lkB al s := by
        split
        · rfl
        · rw [lkB_put, if_neg q]
      rw [this]
      cases e : lkB al s with
      | some v => rfl
      | none =>
        simp only [List.findIdx?_cons, q, decide_false, Bool.false_eq_true, if_false, Option.map_map]
        congr 1
        funext j
        show ((i + 1 + j : Nat) : Int) = ((i + (j + 1) : Nat) : Int)
        omega
theorem fpl_snoc : ∀ (l : List Tb) (i : Nat) (al : List (ByteArray × Int)) (t : Tb), fpl i (l ++ [t]) al = (if (lkB (fpl i l al) t.nm).isSome then fpl i l al else putB (fpl i l al) t.nm ((i + l.length : Nat) : Int))
  | [], i, al, t => rfl
  | u :: r, i, al, t => by
    rw [List.cons_append, fpl, fpl_snoc r (i + 1), fpl]
    rw [show i + 1 + r.length = i + (u :: r).length by simp; omega]
abbrev iv (x : Int) : Value := .int .i64 x
abbrev hM (i : Nat) (al : List (ByteArray × Int)) : HT := [(i + 4096, none), (i, some (mpl (prB es9 iv al)))]
theorem z3 (W : World) : (zeroValue 3).run Tryz.prog W = .ok (.int .i64 0) W := by kernel_rfl
theorem u72 : Tryz.prog.underlying 72 = some (.map 9 3) := by kernel_rfl
set_option maxRecDepth 20000 in
theorem f_first (X : World) (e : Ev) (he : EvL X e) : Ctr Tryz.prog X 199 [raw (.slice e.tp e.tb.length e.cp)] [] 0 0 (.map (some 0)) (hM 0 (fpl 0 e.tb [])) 1 := by
  refine fn_c _ Tryz.func199 rfl rfl rfl rfl (fun w l X' hX => run_ok (st mo ?_))
  refine ⟨_, fun nn => r_mk, st mo (st mo ?_)⟩
  refine S.w_loop (fun i : Nat => ⟨⟨31, [(3, .map (some 0)), (9, raw (.slice e.tp e.tb.length e.cp)), (10, .int .i64 (e.tb.length : Int)), (11, .int .i64 (i : Int))]⟩, hM 0 (fpl 0 (e.tb.take i) []), 1, X'⟩) (fun i => i ≤ e.tb.length) (fun i => e.tb.length - i) 0 (by omega) [0] ⟨rfl, ⟨fm, fv, fv, fv, trivial⟩, ⟨trivial, fml, trivial⟩, xf, rfl, rfl⟩ ?_
  intro i hi
  have hln := he.ln
  refine st mo ⟨fun hlt => st mo ?_, fun hge => st mo (st mo ?_)⟩
  · have hil : i < e.tb.length := by omega
    obtain ⟨t, ht, hT, b, o, h4, h5⟩ := (he.xf hX).at hil
    have hstep : fpl 0 (e.tb.take (i + 1)) [] = if (lkB (fpl 0 (e.tb.take i) []) t.nm).isSome then fpl 0 (e.tb.take i) [] else putB (fpl 0 (e.tb.take i) []) t.nm (i : Int) := by
      rw [List.take_add_one, ht, Option.toList_some, fpl_snoc, List.length_take, Nat.min_eq_left (by omega), Nat.zero_add]
    refine ⟨b, o, i, h4, rfl, hil, st mo ⟨t.cells, rfl, h5, st mo ?_⟩⟩
    cases hk : lkB (fpl 0 (e.tb.take i) []) t.nm with
    | some v =>
      rw [hk] at hstep
      refine ⟨_, fun nn => r_lkT (t := .tuple #[.int .i64 v, litT]) kb9 u72 z3 rfl rfl (by rw [hk]; rfl), st mo ⟨_, wz (i + 1) rfl, st mo ?_⟩⟩
      exact ⟨i + 1, hil, by dsimp; omega, [0], rfl, ⟨fm, fv, fv, fv, trivial⟩, ⟨trivial, fml (by rw [hstep]; rfl), trivial⟩, xf, rfl, rfl⟩
    | none =>
      rw [hk] at hstep
      refine ⟨_, fun nn => r_lkT (t := .tuple #[.int .i64 0, litF]) kb9 u72 z3 rfl rfl (by rw [hk]; rfl), st mo ?_⟩
      refine ⟨_, fun nn => r_mpB (v := (i : Int)) kb9 u72 nn rfl rfl rfl, st mo ⟨_, wz (i + 1) rfl, st mo ?_⟩⟩
      exact ⟨i + 1, hil, by dsimp; omega, [0], rfl, ⟨fm, fv, fv, fv, trivial⟩, ⟨trivial, fml (by rw [hstep]; rfl), trivial⟩, xf, rfl, rfl⟩
  · have : i = e.tb.length := by omega
    subst this
    rw [List.take_length]
    exact ⟨rfl, [0], fm, ⟨trivial, fml, trivial⟩, rfl, rfl⟩
theorem idx_find {α : Type} (p : α → Bool) : ∀ (l : List α), match l.findIdx? p with
    | some j => ∃ t, l[j]? = some t ∧ l.find? p = some t
    | none => l.find? p = none
  | [] => rfl
  | t :: r => by
    have ih := idx_find p r
    rw [List.findIdx?_cons, List.find?_cons]
    cases h : p t with
    | true => exact ⟨t, rfl, rfl⟩
    | false =>
      simp only [Bool.false_eq_true, if_false]
      cases q : r.findIdx? p with
      | none => rw [q] at ih; exact ih
      | some j => rw [q] at ih; obtain ⟨u, h1, h2⟩ := ih; exact ⟨u, by simpa using h1, h2⟩
abbrev mcR (b : Nat) (mk : Bool) : Value := match mk with
  | true => .map (some b)
  | false => .map none
def rdC (e : Ev) (mc : Value) : List Value := [raw (.map e.nm), raw (.map e.cm), raw (.slice e.tp e.tb.length e.cp), mc]
abbrev fpC (e : Ev) : List Value := mpl (prB es9 iv (fpl 0 e.tb []))
abbrev cR (e : Ev) (mk : Bool) (jk : List Value) : List Value := match mk with
  | true => fpC e
  | false => jk.map rel1
/-- The reader, and the first places if they are made. -/
def hR (e : Ev) (mk : Bool) (jk : List Value) : HT := [(0, some (rdC e (mcR 1 mk))), (1 + 4096, none), (1, some (cR e mk jk))]
theorem rdC_fit {σ : List Nat} {e : Ev} {i j : Nat} (h : σ[j]? = some i := by rfl) : fitL σ (rdC e (.map (some i))) (rdC e (.map (some j))) := fitL_cons fv (fitL_cons fv (fitL_cons fv (fitL_cons (fm h) rfl)))
theorem mc_fit {σ : List Nat} {e : Ev} {mk : Bool} {i j : Nat} (h : σ[j]? = some i := by rfl) : fitL σ (rdC e (mcR i mk)) (rdC e (mcR j mk)) := by
  refine fitL_cons fv (fitL_cons fv (fitL_cons fv (fitL_cons ?_ rfl)))
  cases mk
  · exact fv
  · exact fm h
theorem mc_un {τ : List Nat} {e : Ev} {mk : Bool} {i j : Nat} (h : τ[j]? = some i := by rfl) : unL τ (rdC e (mcR j mk)) (rdC e (mcR i mk)) := by
  refine unL_cons uv (unL_cons uv (unL_cons uv (unL_cons ?_ rfl)))
  cases mk
  · exact uv
  · exact um h
theorem cR_fit {σ : List Nat} {e : Ev} {mk : Bool} {jk : List Value} : fitL σ (cR e mk jk) (cR e mk jk) := by
  cases mk
  · exact flr rfl
  · exact fml
theorem cR_un {τ : List Nat} {e : Ev} {mk : Bool} {jk : List Value} : unL τ (cR e mk jk) (cR e mk jk) := by
  cases mk
  · exact ulr rfl
  · exact uml
theorem f_nilrun0 (x y : Operand) (W : World) : (do eqGuard .eql 72 x y (.map none) (.map none); binOp .eql 72 (.map none) (.map none) : Sem Value).run Tryz.prog W = .ok (.bool true) W := by kernel_rfl
theorem r_nilT {w0 : B0} {X : World} {o : Oper} {fr : FT} {h : HT} {n : Nat} {y : Operand} {t' : TypeId} (ho : o.op = .binOp .eql 72 y (.const (.map none)) t' := by rfl) (hy : evo fr y = .map none := by rfl) : Oa (Am w0 X) Tryz.prog o fr h n ⟨.bool true, h, n, 0, 0⟩ :=
  Oa.val fun k W ac _ hop => ⟨.bool true, pur1_vx rfl, by
    have h1 := pur2_eq (hop y (by rw [ho]; simp [Op.operands])) (by rw [hy]; rfl)
    rw [hy] at h1
    have h1 : ac.eval y = .map none := h1
    have h2 : ac.eval (.const (.map none)) = .map none := rfl
    have := f_nilrun0 y (.const (.map none)) W
    simp only [execOp, ho, h1, h2]
    rw [Sem.run_bind, this]; rfl⟩
theorem f_nilrun (b : Nat) (x y : Operand) (W : World) : (do eqGuard .eql 72 x y (.map (some b)) (.map none); binOp .eql 72 (.map (some b)) (.map none) : Sem Value).run Tryz.prog W = .ok (.bool false) W := by kernel_rfl
theorem r_nilF {w0 : B0} {X : World} {o : Oper} {fr : FT} {h : HT} {n i : Nat} {y : Operand} {t' : TypeId} (ho : o.op = .binOp .eql 72 y (.const (.map none)) t' := by rfl) (hy : evo fr y = .map (some i) := by rfl) : Oa (Am w0 X) Tryz.prog o fr h n ⟨.bool false, h, n, 0, 0⟩ :=
  Oa.val fun k W ac _ hop => ⟨.bool false, pur1_vx rfl, by
    have h1 := hop y (by rw [ho]; simp [Op.operands])
    rw [hy] at h1
    obtain ⟨b, _, h3⟩ := h1.map_inv
    have h2 : ac.eval (.const (.map none)) = .map none := rfl
    have := f_nilrun b y (.const (.map none)) W
    simp only [execOp, ho, h3, h2]
    rw [Sem.run_bind, this]; rfl⟩
theorem fvt {σ : List Nat} {u v : Value} (h : u = v := by rfl) (hp : pur v = true := by rfl) : S.fitV σ u v := fun k w hw => by
  subst h; rw [pur_eq hw hp]; exact pur_vx hp
abbrev tbT (t : Option Tb) : Value := match t with
  | some t => .tuple #[t.y, litT]
  | none => .tuple #[.agg #[.string E0, .slice none 0 0], litF]
set_option maxRecDepth 20000 in
theorem f_table (X : World) (e : Ev) (he : EvL X e) (s : ByteArray) (mk : Bool) (jk : List Value) : Ctr Tryz.prog X 173 [q0 0, .string s] (hR e mk jk) 2 1 (tbT (tabE e s)) (hR e true jk) 2 := by
  have hf := fpl_lk s e.tb 0 []
  have hd := idx_find (fun t : Tb => decide (t.nm = s)) e.tb
  have hln := he.ln
  cases mk
  · refine fn_c _ Tryz.func173 rfl rfl rfl rfl (fun w l X' hX => run_ok (st mo ?_))
    refine ⟨_, r_nilT, fun _ => st mo ?_, fun h => absurd h (by decide)⟩
    refine ⟨_, fun nn => r_c (tc := .map (some 3)) [] [some (mpl (prB es9 iv (fpl 0 e.tb [])))] [3] rfl rfl (f_first X' e (he.xf hX)) (fitL_cons fv rfl) trivial (um rfl) ⟨uml, trivial⟩, st mo ?_⟩
    cases hi : e.tb.findIdx? (fun t => decide (t.nm = s)) with
    | none =>
      rw [hi] at hf hd
      refine ⟨_, fun nn => r_lkT (t := .tuple #[.int .i64 0, litF]) (ev := iv) kb9 u72 z3 rfl rfl (by rw [hf]; rfl), st mo ?_⟩
      rw [show tabE e s = none from hd]
      exact ⟨rfl, [0, 3], fvt, ⟨rdC_fit, trivial, fml, trivial⟩, rfl, rfl⟩
    | some j =>
      rw [hi] at hf hd
      simp only [lkB, Option.map_some, Nat.zero_add] at hf
      obtain ⟨t, ht, hft⟩ := hd
      have hj := lt_of_get ht
      obtain ⟨t', ht', hT, b, o, h4, h5⟩ := (he.xf hX).at hj
      rw [ht] at ht'; cases ht'
      refine ⟨_, fun nn => r_lkT (t := .tuple #[.int .i64 (j : Int), litT]) (ev := iv) kb9 u72 z3 rfl rfl (by rw [hf]; rfl), st mo ?_⟩
      refine ⟨b, o, j, h4, rfl, hj, st mo ⟨t.cells, rfl, h5, st mo ?_⟩⟩
      rw [show tabE e s = some t from hft]
      exact ⟨rfl, [0, 3], fvt, ⟨rdC_fit, trivial, fml, trivial⟩, rfl, rfl⟩
  · refine fn_c _ Tryz.func173 rfl rfl rfl rfl (fun w l X' hX => run_ok (st mo ?_))
    refine ⟨_, r_nilF, fun h => absurd h (by decide), fun _ => st mo ?_⟩
    cases hi : e.tb.findIdx? (fun t => decide (t.nm = s)) with
    | none =>
      rw [hi] at hf hd
      refine ⟨_, fun nn => r_lkT (t := .tuple #[.int .i64 0, litF]) (ev := iv) kb9 u72 z3 rfl rfl (by rw [hf]; rfl), st mo ?_⟩
      rw [show tabE e s = none from hd]
      exact ⟨rfl, [0, 1], fvt, ⟨rdC_fit, trivial, fml, trivial⟩, rfl, rfl⟩
    | some j =>
      rw [hi] at hf hd
      simp only [lkB, Option.map_some, Nat.zero_add] at hf
      obtain ⟨t, ht, hft⟩ := hd
      have hj := lt_of_get ht
      obtain ⟨t', ht', hT, b, o, h4, h5⟩ := (he.xf hX).at hj
      rw [ht] at ht'; cases ht'
      refine ⟨_, fun nn => r_lkT (t := .tuple #[.int .i64 (j : Int), litT]) (ev := iv) kb9 u72 z3 rfl rfl (by rw [hf]; rfl), st mo ?_⟩
      refine ⟨b, o, j, h4, rfl, hj, st mo ⟨t.cells, rfl, h5, st mo ?_⟩⟩
      rw [show tabE e s = some t from hft]
      exact ⟨rfl, [0, 1], fvt, ⟨rdC_fit, trivial, fml, trivial⟩, rfl, rfl⟩
set_option maxRecDepth 20000 in
theorem f_from (X : World) (e : Ev) (he : EvL X e) (s : ByteArray) (d : Dn) (hd : d.ok) (mk : Bool) (jk : List Value) : Ctr Tryz.prog X 141 [q0 0, .string s, d.v'] (hR e mk jk) 2 1 (frmE e s d).y (hR e true jk) 2 := by
  refine fn_c _ Tryz.func141 rfl rfl rfl rfl (fun w l X' hX => run_ok (st mo ?_))
  have hc := f_table X' e (he.xf hX) s mk jk
  cases ht : tabE e s with
  | none =>
    rw [ht] at hc
    refine ⟨_, fun nn => r_c (tc := tbT none) [0, 1] [some (rdC e (mcR 4 true)), some (cR e true jk)] [4] rfl rfl hc (fitL_cons fp (fitL_cons fv rfl)) ⟨mc_fit, trivial, cR_fit, trivial⟩ uv ⟨mc_un, cR_un, trivial⟩, st mo ?_⟩
    refine ⟨_, fun nn => r_call (t := (vBad 2).y) rfl rfl Tryz.func44 (fun W M E => p_bad 2 W), st mo ?_⟩
    rw [show frmE e s d = vBad 2 by unfold frmE; rw [ht]]
    exact ⟨rfl, [0, 4], fv, ⟨mc_fit, trivial, cR_fit, trivial⟩, rfl, rfl⟩
  | some t =>
    rw [ht] at hc
    have hT := (he.xf hX).tl t (List.mem_of_find?_eq_some ht)
    refine ⟨_, fun nn => r_c (tc := tbT (some t)) [0, 1] [some (rdC e (mcR 4 true)), some (cR e true jk)] [4] rfl rfl hc (fitL_cons fp (fitL_cons fv rfl)) ⟨mc_fit, trivial, cR_fit, trivial⟩ uv ⟨mc_un, cR_un, trivial⟩, st mo ?_⟩
    refine ⟨_, fun nn => r_call (t := (atD t.st d).y) rfl rfl Tryz.func174 (fun W M E => b_at t d hd W (hT.mono E)), st mo ?_⟩
    refine ⟨fun h0 => st mo ?_, fun h0 => st mo ⟨fun h1 => st mo ?_, fun h1 => st mo ⟨fun h7 => st mo ?_, fun h7 => st mo ?_⟩⟩⟩
    · rw [show frmE e s d = vNu (atD t.st d).b (atD t.st d).n (atD t.st d).s by unfold frmE; rw [ht]; dsimp only; rw [if_pos h0]]
      exact ⟨rfl, [0, 4], fv, ⟨mc_fit, trivial, cR_fit, trivial⟩, rfl, rfl⟩
    · refine ⟨_, fun nn => r_call (t := (vBad 5).y) rfl rfl Tryz.func44 (fun W M E => p_bad 5 W), st mo ?_⟩
      rw [show frmE e s d = vBad 5 by unfold frmE; rw [ht]; dsimp only; rw [if_neg h0, if_pos h1]]
      exact ⟨rfl, [0, 4], fv, ⟨mc_fit, trivial, cR_fit, trivial⟩, rfl, rfl⟩
    · refine ⟨_, fun nn => r_call (t := (vBad 1).y) rfl rfl Tryz.func44 (fun W M E => p_bad 1 W), st mo ?_⟩
      rw [show frmE e s d = vBad 1 by unfold frmE; rw [ht]; dsimp only; rw [if_neg h0, if_neg h1, if_pos h7]]
      exact ⟨rfl, [0, 4], fv, ⟨mc_fit, trivial, cR_fit, trivial⟩, rfl, rfl⟩
    · refine ⟨_, fun nn => r_call (t := (vBad 2).y) rfl rfl Tryz.func44 (fun W M E => p_bad 2 W), st mo ?_⟩
      rw [show frmE e s d = vBad 2 by unfold frmE; rw [ht]; dsimp only; rw [if_neg h0, if_neg h1, if_neg h7]]
      exact ⟨rfl, [0, 4], fv, ⟨mc_fit, trivial, cR_fit, trivial⟩, rfl, rfl⟩
set_option maxRecDepth 20000 in
theorem f_brk (e : Ev) (s : ByteArray) (v : VL) (hv : v.ok) (mk : Bool) (jk : List Value) : ∃ mk', ∀ X, EvL X e → Ctr Tryz.prog X 96 [q0 0, .string s, v.y] (hR e mk jk) 2 1 (brkE e s v).y (hR e mk' jk) 2 := by
  by_cases h1 : v.k = 1
  · refine ⟨true, fun X he => ?_⟩
    rw [show brkE e s v = frmE e s ⟨v.b, v.n, v.s⟩ by unfold brkE; rw [if_neg (by omega), if_neg (by omega), if_pos h1]]
    refine fn_c _ Tryz.func96 rfl rfl rfl rfl (fun w l X' hX => run_ok (st mo ?_))
    refine ⟨fun h => absurd h (by omega), fun _ => st mo ⟨fun h => absurd h (by omega), fun _ => st mo ⟨fun _ => st mo ?_, fun h => absurd h1 h⟩⟩⟩
    refine ⟨_, fun nn => r_c (tc := (frmE e s ⟨v.b, v.n, v.s⟩).y) [0, 1] [some (rdC e (mcR 4 true)), some (cR e true jk)] [4] rfl rfl (f_from X' e (he.xf hX) s ⟨v.b, v.n, v.s⟩ hv mk jk) (fitL_cons fp (fitL_cons fv (fitL_cons fv rfl))) ⟨mc_fit, trivial, cR_fit, trivial⟩ uv ⟨mc_un, cR_un, trivial⟩, st mo ?_⟩
    exact ⟨rfl, [0, 4], fv, ⟨mc_fit, trivial, cR_fit, trivial⟩, rfl, rfl⟩
  · refine ⟨mk, fun X he => ?_⟩
    refine fn_c _ Tryz.func96 rfl rfl rfl rfl (fun w l X' hX => run_ok (st mo ?_))
    refine ⟨fun h4 => st mo ?_, fun h4 => st mo ⟨fun h0 => st mo ?_, fun h0 => st mo ⟨fun h => absurd h h1, fun _ => st mo ?_⟩⟩⟩
    · rw [show brkE e s v = v by unfold brkE; rw [if_pos h4]]
      exact ⟨rfl, [0, 1], fv, ⟨mc_fit, trivial, cR_fit, trivial⟩, rfl, rfl⟩
    · refine ⟨_, fun nn => r_call (t := (vBad 3).y) rfl rfl Tryz.func44 (fun W M E => p_bad 3 W), st mo ?_⟩
      rw [show brkE e s v = vBad 3 by unfold brkE; rw [if_neg h4, if_pos h0]]
      exact ⟨rfl, [0, 1], fv, ⟨mc_fit, trivial, cR_fit, trivial⟩, rfl, rfl⟩
    · refine ⟨_, fun nn => r_call (t := (vBad 2).y) rfl rfl Tryz.func44 (fun W M E => p_bad 2 W), st mo ?_⟩
      rw [show brkE e s v = vBad 2 by unfold brkE; rw [if_neg h4, if_neg h0, if_neg h1]]
      exact ⟨rfl, [0, 1], fv, ⟨mc_fit, trivial, cR_fit, trivial⟩, rfl, rfl⟩
theorem ok_bad (e : Int) : (vBad e).ok := ok_0 _ _ _ _ _ _
theorem ok_fl (f : Bool) : (vFl f).ok := ok_0 _ _ _ _ _ _
theorem good_neg {b : Bool} {n s : Int} (h0 : 0 ≤ n) (h : n < MM) (h1 : ck b n s = 0) : (negR b n s).good :=
  ⟨⟨h0, h⟩, fun _ => neg_ck h1⟩
theorem good_rnd {b : Bool} {n s S p : Int} (h0 : 0 ≤ n) : (rndR b n s S p).good := by
  unfold rndR
  split
  next h =>
    split
    · exact good_fx (rdV_nn h0) h
    · exact good_er
  next => exact good_er
theorem num_good {r : DR} (h : r.good) : (numV r).ok ∧ ckv (numV r) = true := by
  unfold numV
  split
  next e => exact ⟨h.1, ckv_vNu (h.2 e)⟩
  next =>
    split
    · exact ⟨ok_bad _, ckv_vBad _⟩
    · exact ⟨ok_bad _, ckv_vBad _⟩
/-- A value that may be. -/
def VL.fit (x : VL) : Prop := x.ok ∧ ckv x = true
theorem fit_bad (e : Int) : (vBad e).fit := ⟨ok_bad e, ckv_vBad e⟩
theorem fit_fl (f : Bool) : (vFl f).fit := ⟨ok_fl f, ckv_vFl f⟩
theorem fit_ord (op o : Int) : (ordV op o).fit := by
  unfold ordV
  split; · exact fit_fl _
  split; · exact fit_fl _
  split; · exact fit_fl _
  split; · exact fit_fl _
  split; · exact fit_fl _
  split; · exact fit_fl _
  exact fit_bad _
theorem fit_opF (op : Int) (f g : Bool) : (opF op f g).fit := by
  unfold opF
  split; · exact fit_fl _
  split; · exact fit_fl _
  exact fit_bad _
theorem fit_opN (op : Int) {b c : Bool} {n s m t : Int} (hn : 0 ≤ n ∧ n < MM) (hm : 0 ≤ m ∧ m < MM) (h1 : ck b n s = 0) (h2 : ck c m t = 0) : (opN op b n s c m t).fit := by
  unfold opN
  split; · exact num_good (good_add (x := ⟨b, n, s⟩) (y := ⟨c, m, t⟩) ⟨hn, h1⟩ ⟨hm, h2⟩)
  split; · exact num_good (good_sub (x := ⟨b, n, s⟩) (y := ⟨c, m, t⟩) ⟨hn, h1⟩ ⟨hm, h2⟩)
  split; · exact num_good (good_mul (x := ⟨b, n, s⟩) (y := ⟨c, m, t⟩) ⟨hn, h1⟩ ⟨hm, h2⟩)
  exact fit_ord _ _
theorem fit_op (op : Int) {x y : VL} (hx : x.ok) (hy : y.ok) : (opV op x y).fit := by
  unfold opV
  split
  next a =>
    split
    next hk =>
      split
      next k => exact fit_opN op hx hy (ckv_num hx (ask_0 hx (ask2_0 a).1).1 k).2 (ckv_num hy (ask_0 hy (ask2_0 a).2).1 (hk ▸ k)).2
      next =>
        split; · exact fit_fl _
        split; · exact fit_fl _
        split; · exact fit_opF _ _ _
        exact fit_bad _
    next => exact fit_bad _
  next => exact fit_bad _
theorem fit_neg {x : VL} (hx : x.ok) : (negV x).fit := by
  unfold negV
  split
  next a => exact num_good (good_neg hx.1 hx.2 (num_of hx (askK_0 a).1 (askK_0 a).2))
  next => exact fit_bad _
theorem fit_not (x : VL) : (notV x).fit := by
  unfold notV
  split
  · exact fit_fl _
  · exact fit_bad _
theorem fit_may {x : VL} (hx : x.ok) : (mayV x).fit := by
  unfold mayV
  split
  next c => exact ⟨hx, c⟩
  next => exact fit_bad _
theorem fit_if {c x y : VL} (hx : x.ok) (hy : y.ok) : (ifV c x y).fit := by
  unfold ifV
  split
  · refine fit_may ?_
    split
    · exact hx
    · exact hy
  · exact fit_bad _
theorem fit_blk {x : VL} (hx : x.ok) : (blkV x).fit := by
  unfold blkV
  split
  next c =>
    split
    · exact ⟨hx, c⟩
    · exact fit_fl _
  next => exact fit_bad _
theorem fit_rnd {x : VL} (S p : Int) (hx : x.ok) : (rndV x S p).fit := by
  unfold rndV
  split
  next => exact num_good (good_rnd hx.1)
  next => exact fit_bad _
theorem vEr_ok (e : Int) : (vEr e).ok := ok_0 _ _ _ _ _ _
theorem nrV_ok {m : SM} (h : m.ok) (s : Int) : 0 ≤ (nrV m s).n ∧ (nrV m s).n < MM := by
  have um : U4 (m0 m.t0) (m1 m.t0 m.t1) (m2 m.t0 m.t1 m.t2) (m3 m.t0 m.t1 m.t2 m.t3) := ⟨ad_b _ _ _, ad_b _ _ _, ad_b _ _ _, ad_b _ _ _⟩
  have ua : U4 m.t0 m.t1 m.t2 m.t3 := ⟨h.t0, h.t1, h.t2, h.t3⟩
  unfold nrV nrD
  repeat (first | exact MM_0 | exact vl_bd um | exact vl_bd ua | split)
theorem cnt_ok {n : Int} (h : -9223372036854775808 ≤ n ∧ n < 9223372036854775808) : (cntV n).ok := ⟨ab_nn n, by show ab n < MM; have := ab_c n; unfold MM; omega⟩
theorem ag_ok {op : Int} {m : SM} {s : Int} (h : m.ok) : (agV op m s).ok := by
  unfold agV
  split; · exact cnt_ok h.ro
  split; · exact cnt_ok h.fi
  split
  · unfold ofnV totV
    repeat (first | exact vEr_ok _ | exact nrV_ok h s | exact h.nn | exact h.xn | split)
  · exact vEr_ok _
theorem good_at {t : Tb} (ht : ∀ y ∈ t.st, y.ok) {d : Dn} (hd : d.ok) : (atD t.st d).good := by
  by_cases h : stpE t.st d = 0
  · obtain ⟨hc, he, k, hk, _⟩ := stp_0 h
    obtain ⟨y, hy⟩ := get_of_lt (lastP_inv hk).1
    have fy := fit_of ht (chk_0 hc).2.2.1 hy
    have e : atD t.st d = saysD y d := by unfold atD; rw [if_pos h, hk]; simp only [Option.getD_some, List.getD_eq_getElem?_getD, hy]
    rw [e]; exact good_says fy ⟨hd, he⟩
  · unfold atD; rw [if_neg h]; exact good_er
theorem fit_brk {X : World} {e : Ev} (he : EvL X e) {s : ByteArray} {v : VL} (hv : v.fit) : (brkE e s v).fit := by
  unfold brkE
  split; · exact hv
  split; · exact fit_bad _
  split
  · unfold frmE
    split
    · exact fit_bad _
    next t ht =>
      have g := good_at (he.tl t (List.mem_of_find?_eq_some ht)).ok (d := ⟨v.b, v.n, v.s⟩) hv.1
      split
      next h => exact ⟨g.1, ckv_vNu (g.2 h)⟩
      split; · exact fit_bad _
      split; · exact fit_bad _
      exact fit_bad _
  · exact fit_bad _
abbrev agC (a : Nat → VL) : List Value := (a 0).cells ++ ((a 1).cells ++ (a 2).cells)
abbrev agY (a : Nat → VL) : Value := .agg ((agC a).map rel1).toArray
abbrev CL.y (c : CL) : Value := .agg (c.cells.map rel1).toArray
theorem z28 (W : World) : (zeroValue 28).run Tryz.prog W = .ok vBl.v W := by kernel_rfl
theorem z66 (W : World) : (zeroValue 66).run Tryz.prog W = .ok cl0.v W := by kernel_rfl
theorem u32 : Tryz.prog.underlying 32 = some (.map 9 28) := by kernel_rfl
theorem u33 : Tryz.prog.underlying 33 = some (.map 53 66) := by kernel_rfl
theorem f_may' {x : Ex} (h : x.u4) (W : World) : Calls Tryz.prog 91 #[.agg #[.int .i64 x.vk, .bool x.ng, .int .u64 x.l0, .int .u64 x.l1, .int .u64 x.l2, .int .u64 x.l3, .int .i64 x.vs, .bool x.fl, .string x.tx, .int .i64 x.er]] W fun r W' => r = .returned (mayV x.val).v ∧ Mb W W' := by
  have := f_may x.val h.ok W
  rw [show x.val.v = .agg #[.int .i64 x.vk, .bool x.ng, .int .u64 x.l0, .int .u64 x.l1, .int .u64 x.l2, .int .u64 x.l3, .int .i64 x.vs, .bool x.fl, .string x.tx, .int .i64 x.er] by rw [VL.v, h.cells]] at this
  exact this
theorem lk_getD {κ β γ : Type} [DecidableEq κ] (f : β → γ) (al : List (κ × β)) (a : κ) (z : β) : ((lkB al a).map f).getD (f z) = f ((lkB al a).getD z) := by cases lkB al a <;> rfl
theorem lkB_mem {κ β : Type} [DecidableEq κ] : ∀ {al : List (κ × β)} {a : κ} {v : β}, lkB al a = some v → (a, v) ∈ al
  | [], _, _, h => by cases h
  | (b, u) :: r, a, v, h => by
    by_cases e : b = a
    · simp [lkB, e] at h; simp [e, h]
    · simp only [lkB, if_neg e] at h; exact List.mem_cons_of_mem _ (lkB_mem h)
theorem vBl_ok : vBl.ok := ok_0 _ _ _ _ _ _
theorem sm0_ok : sm0.ok := by constructor <;> decide
theorem EvL.nv {X : World} {e : Ev} (h : EvL X e) (s : ByteArray) : ((lkB e.N s).getD vBl).ok := by
  cases q : lkB e.N s with
  | none => exact vBl_ok
  | some v => exact h.no _ (lkB_mem q)
theorem EvL.cv {X : World} {e : Ev} (h : EvL X e) (k : ByteArray × ByteArray) : ((lkB e.C k).getD cl0).m.ok := by
  cases q : lkB e.C k with
  | none => exact sm0_ok
  | some v => exact h.co _ (lkB_mem q)
theorem EvL.lkn {X W : World} {e : Ev} (h : EvL X e) (M : ∀ (b : Nat) (o : Obj), X.heap[b]? = some o → o ≠ hole X → W.heap[b]? = some o) (s : ByteArray) : (Instr.lookup 32 (.map e.nm) (.string s) false).run Tryz.prog W = .ok ((lkB e.N s).getD vBl).v W := by
  have := lookV kb9 u32 (z28 W) (h.n.mono fun b _ _ hb => M b _ hb hole_map) s false
  rw [this, ← lk_getD VL.v]; rfl
theorem EvL.lkc {X W : World} {e : Ev} (h : EvL X e) (M : ∀ (b : Nat) (o : Obj), X.heap[b]? = some o → o ≠ hole X → W.heap[b]? = some o) (k : ByteArray × ByteArray) : (Instr.lookup 33 (.map e.cm) (es53 k) false).run Tryz.prog W = .ok ((lkB e.C k).getD cl0).v W := by
  have := lookV kb53 u33 (z66 W) (h.c.mono fun b _ _ hb => M b _ hb hole_map) k false
  rw [this, ← lk_getD CL.v]; rfl
set_option maxRecDepth 20000 in
theorem f_node (e : Ev) (x : Ex) (hx : x.u4) (a : Nat → VL) (ha : ∀ i, (a i).ok) (mk : Bool) (jk : List Value) : ∃ mk', ∀ X, EvL X e → Ctr Tryz.prog X 61 [q0 0, .agg (x.c.map rel1).toArray, agY a] (hR e mk jk) 2 1 (nodE e x a).y (hR e mk' jk) 2 := by
  obtain ⟨mk', hb⟩ := f_brk e x.nm (a 0) (ha 0) mk jk
  by_cases h8 : x.k = 8
  · refine ⟨mk', fun X he => ?_⟩
    rw [show nodE e x a = brkE e x.nm (a 0) by unfold nodE; simp [h8]]
    refine fn_c _ Tryz.func61 rfl rfl rfl rfl (fun w l X' hX => run_ok (st mo ?_))
    refine ⟨fun h => absurd h (by omega), fun _ => st mo ?_⟩
    refine ⟨fun h => absurd h (by omega), fun _ => st mo ?_⟩
    refine ⟨fun h => absurd h (by omega), fun _ => st mo ?_⟩
    refine ⟨fun h => absurd h (by omega), fun _ => st mo ?_⟩
    refine ⟨fun h => absurd h (by omega), fun _ => st mo ?_⟩
    refine ⟨fun h => absurd h (by omega), fun _ => st mo ?_⟩
    refine ⟨fun h => absurd h (by omega), fun _ => st mo ?_⟩
    refine ⟨fun _ => st mo ?_, fun h => absurd h8 h⟩
    refine ⟨_, fun nn => r_c (tc := (brkE e x.nm (a 0)).y) [0, 1] [some (rdC e (mcR 5 mk')), some (cR e mk' jk)] [5] rfl rfl (hb X' (he.xf hX)) (fitL_cons fp (fitL_cons fv (fitL_cons fv rfl))) ⟨mc_fit, trivial, cR_fit, trivial⟩ uv ⟨mc_un, cR_un, trivial⟩, st mo ?_⟩
    exact ⟨rfl, [0, 5], fv, ⟨mc_fit, trivial, cR_fit, trivial⟩, rfl, rfl⟩
  · refine ⟨mk, fun X he => ?_⟩
    refine fn_c _ Tryz.func61 rfl rfl rfl rfl (fun w l X' hX => run_ok (st mo ?_))
    refine ⟨fun h1 => st mo ?_, fun h1 => st mo ?_⟩
    · refine ⟨_, fun nn => r_call (t := (mayV x.val).y) rfl rfl Tryz.func91 (fun W M E => f_may' hx W), st mo ?_⟩
      rw [show nodE e x a = mayV x.val by unfold nodE; rw [if_pos h1]]
      exact ⟨rfl, [0, 1], fv, ⟨mc_fit, trivial, cR_fit, trivial⟩, rfl, rfl⟩
    refine ⟨fun h2 => st mo ?_, fun h2 => st mo ?_⟩
    · refine ⟨_, fun nn => r_look (t := ((lkB e.N x.nm).getD vBl).y) rfl (fun W M => (he.xf hX).lkn M x.nm), st mo ?_⟩
      refine ⟨_, fun nn => r_call (t := (mayV ((lkB e.N x.nm).getD vBl)).y) rfl rfl Tryz.func91 (fun W M E => f_may _ (he.nv x.nm) W), st mo ⟨dk, st mo ?_⟩⟩
      rw [show nodE e x a = mayV ((lkB e.N x.nm).getD vBl) by unfold nodE; rw [if_neg h1, if_pos h2]]
      exact ⟨rfl, [0, 1], fv, ⟨mc_fit, trivial, cR_fit, trivial⟩, rfl, rfl⟩
    refine ⟨fun h3 => st mo ?_, fun h3 => st mo ?_⟩
    · refine ⟨_, fun nn => r_call (t := (negV (a 0)).y) rfl rfl Tryz.func92 (fun W M E => p_neg (a 0) (ha 0) W), st mo ?_⟩
      rw [show nodE e x a = negV (a 0) by unfold nodE; rw [if_neg h1, if_neg h2, if_pos h3]]
      exact ⟨rfl, [0, 1], fv, ⟨mc_fit, trivial, cR_fit, trivial⟩, rfl, rfl⟩
    refine ⟨fun h4 => st mo ?_, fun h4 => st mo ?_⟩
    · refine ⟨_, fun nn => r_call (t := (notV (a 0)).y) rfl rfl Tryz.func93 (fun W M E => p_not (a 0) (ha 0) W), st mo ?_⟩
      rw [show nodE e x a = notV (a 0) by unfold nodE; rw [if_neg h1, if_neg h2, if_neg h3, if_pos h4]]
      exact ⟨rfl, [0, 1], fv, ⟨mc_fit, trivial, cR_fit, trivial⟩, rfl, rfl⟩
    refine ⟨fun h5 => st mo ?_, fun h5 => st mo ?_⟩
    · refine ⟨_, fun nn => r_call (t := (opV x.op (a 0) (a 1)).y) rfl rfl Tryz.func94 (fun W M E => p_op x.op (a 0) (a 1) (ha 0) (ha 1) W), st mo ?_⟩
      rw [show nodE e x a = opV x.op (a 0) (a 1) by unfold nodE; rw [if_neg h1, if_neg h2, if_neg h3, if_neg h4, if_pos h5]]
      exact ⟨rfl, [0, 1], fv, ⟨mc_fit, trivial, cR_fit, trivial⟩, rfl, rfl⟩
    refine ⟨fun h6 => st mo ?_, fun h6 => st mo ?_⟩
    · refine ⟨_, fun nn => r_call (t := (ifV (a 0) (a 1) (a 2)).y) rfl rfl Tryz.func95 (fun W M E => p_if (a 0) (a 1) (a 2) (ha 0) (ha 1) (ha 2) W), st mo ?_⟩
      rw [show nodE e x a = ifV (a 0) (a 1) (a 2) by unfold nodE; rw [if_neg h1, if_neg h2, if_neg h3, if_neg h4, if_neg h5, if_pos h6]]
      exact ⟨rfl, [0, 1], fv, ⟨mc_fit, trivial, cR_fit, trivial⟩, rfl, rfl⟩
    refine ⟨fun h7 => st mo ?_, fun h7 => st mo ?_⟩
    · refine ⟨_, fun nn => r_call (t := (rndV (a 0) x.s x.pl).y) rfl rfl Tryz.func78 (fun W M E => p_round (a 0) (ha 0) x.s x.pl W), st mo ?_⟩
      rw [show nodE e x a = rndV (a 0) x.s x.pl by unfold nodE; rw [if_neg h1, if_neg h2, if_neg h3, if_neg h4, if_neg h5, if_neg h6, if_pos h7]]
      exact ⟨rfl, [0, 1], fv, ⟨mc_fit, trivial, cR_fit, trivial⟩, rfl, rfl⟩
    refine ⟨fun h => absurd h h8, fun _ => st mo ?_⟩
    refine ⟨fun h9 => st mo ?_, fun h9 => st mo ?_⟩
    · refine ⟨_, fun nn => r_call (t := (blkV (a 0)).y) rfl rfl Tryz.func97 (fun W M E => p_blank (a 0) (ha 0) W), st mo ?_⟩
      rw [show nodE e x a = blkV (a 0) by unfold nodE; rw [if_neg h1, if_neg h2, if_neg h3, if_neg h4, if_neg h5, if_neg h6, if_neg h7, if_neg h8, if_pos h9]]
      exact ⟨rfl, [0, 1], fv, ⟨mc_fit, trivial, cR_fit, trivial⟩, rfl, rfl⟩
    refine ⟨_, fun nn => r_call (t := es53 (colE x)) rfl rfl Tryz.func52 (fun W M E => f_col x W), st mo ?_⟩
    refine ⟨_, fun nn => r_look (t := ((lkB e.C (colE x)).getD cl0).y) rfl (fun W M => (he.xf hX).lkc M (colE x)), st mo ⟨dk, st mo ?_⟩⟩
    refine ⟨_, fun nn => r_call (t := (agV x.op ((lkB e.C (colE x)).getD cl0).m ((lkB e.C (colE x)).getD cl0).s).y) rfl rfl Tryz.func98 (fun W M E => p_value x.op _ (he.cv (colE x)) _ W), st mo ?_⟩
    refine ⟨_, fun nn => r_call (t := (aggE e x).y) rfl rfl Tryz.func91 (fun W M E => f_may _ (ag_ok (he.cv (colE x))) W), st mo ?_⟩
    rw [show nodE e x a = aggE e x by unfold nodE; rw [if_neg h1, if_neg h2, if_neg h3, if_neg h4, if_neg h5, if_neg h6, if_neg h7, if_neg h8, if_neg h9]]
    exact ⟨rfl, [0, 1], fv, ⟨mc_fit, trivial, cR_fit, trivial⟩, rfl, rfl⟩
theorem fit_node {X : World} {e : Ev} (he : EvL X e) {x : Ex} (hx : x.u4) {a : Nat → VL} (ha : ∀ i, (a i).fit) : (nodE e x a).fit := by
  unfold nodE
  split; · exact fit_may hx.ok
  split; · exact fit_may (he.nv _)
  split; · exact fit_neg (ha 0).1
  split; · exact fit_not _
  split; · exact fit_op _ (ha 0).1 (ha 1).1
  split; · exact fit_if (ha 1).1 (ha 2).1
  split; · exact fit_rnd _ _ (ha 0).1
  split; · exact fit_brk he (ha 0)
  split; · exact fit_blk (ha 0).1
  exact fit_may (ag_ok (he.cv _))
theorem vBl_fit : vBl.fit := ⟨vBl_ok, by decide⟩
theorem fit_ev {X : World} {e : Ev} (he : EvL X e) : ∀ {d : Nat} {x : Ex}, XU d x → (evE e d x).fit
  | 0, x, h => by
    unfold evE; split
    · exact fit_node he h.u fun _ => vBl_fit
    · exact fit_bad _
  | d + 1, x, h => by
    unfold evE; split
    · refine fit_node he h.u fun i => ?_
      cases q : x.a[i]? with
      | none => exact vBl_fit
      | some y => exact fit_ev he (h.2 y (List.mem_of_getElem? q))
    · exact fit_bad _
abbrev aI (a : Nat → VL) (i j : Nat) : VL := bif Nat.blt j i then a j else vBl
theorem whl_le {x : Ex} (h : whl x = true) : x.a.length ≤ 3 := by
  have h := of_decide_eq_true h
  unfold whN at h
  repeat (first | (injection h; omega) | cases h | split at h)
/-- The arguments of a node, evaluated one behind the other. -/
theorem chain {l : List Ex} {P : Ex → Bool → Bool → Prop} (h : ∀ y ∈ l, ∀ b, ∃ b', P y b b') (b0 : Bool) : ∃ f : Nat → Bool, f 0 = b0 ∧ ∀ i y, l[i]? = some y → P y (f i) (f (i + 1)) := by
  have h1 : ∀ (i : Nat) (b : Bool), ∃ b', ∀ y, l[i]? = some y → P y b b' := fun i b => by
    cases q : l[i]? with
    | none => exact ⟨b, fun y hy => by cases hy⟩
    | some y => obtain ⟨b', hb⟩ := h y (List.mem_of_getElem? q) b; exact ⟨b', fun z hz => by cases hz; exact hb⟩
  exact ⟨fun n => Nat.rec b0 (fun i b => Classical.choose (h1 i b)) n, rfl, fun i y hy => Classical.choose_spec (h1 i _) y hy⟩
abbrev EvC (e : Ev) (jk : List Value) (x : Ex) (v : VL) (mk mk' : Bool) (d : Nat) : Prop := ∀ X, EvL X e → LT X d x → Ctr Tryz.prog X 30 [q0 0, .agg (x.c.map rel1).toArray] (hR e mk jk) 2 1 v.y (hR e mk' jk) 2
set_option maxRecDepth 20000 in
theorem f_no (e : Ev) (jk : List Value) (x : Ex) (h : whl x = false) (mk : Bool) (d : Nat) : EvC e jk x (vBad 2) mk mk d := fun X he hL => by
  refine fn_c _ Tryz.func30 rfl rfl rfl rfl (fun w l X' hX => run_ok (st mo ?_))
  refine ⟨_, fun nn => r_call (t := litF) rfl rfl Tryz.func60 (fun W M E => f_whole' h W), st mo ?_⟩
  refine ⟨_, fun nn => r_call (t := (vBad 2).y) rfl rfl Tryz.func44 (fun W M E => p_bad 2 W), st mo ?_⟩
  exact ⟨rfl, [0, 1], fv, ⟨mc_fit, trivial, cR_fit, trivial⟩, rfl, rfl⟩
set_option maxRecDepth 20000 in
theorem f_yes (e : Ev) (jk : List Value) (x : Ex) (hw : whl x = true) (hx : x.u4) (f : Nat → Bool) (a : Nat → VL) (ha : ∀ i, (a i).ok) (h0 : ∀ j, x.a.length ≤ j → a j = vBl) (d : Nat)
    (hs : ∀ i y, x.a[i]? = some y → ∀ X, EvL X e → LT X (d + 1) x → Ctr Tryz.prog X 30 [q0 0, .agg (y.c.map rel1).toArray] (hR e (f i) jk) 2 1 (a i).y (hR e (f (i + 1)) jk) 2) :
    ∃ mk', EvC e jk x (nodE e x a) (f 0) mk' (d + 1) := by
  have hl := whl_le hw
  have ea : aI a x.a.length = a := funext fun j => by
    unfold aI
    by_cases q : j < x.a.length
    · rw [show Nat.blt j x.a.length = true by rw [Nat.blt_eq]; exact q]; rfl
    · rw [h0 j (by omega)]; cases Nat.blt j x.a.length <;> rfl
  obtain ⟨mk', hn⟩ := f_node e x hx a ha (f x.a.length) jk
  refine ⟨mk', fun X he hL => ?_⟩
  refine fn_c _ Tryz.func30 rfl rfl rfl rfl (fun w l X' hX => run_ok (st mo ?_))
  refine ⟨_, fun nn => r_call (t := litT) rfl rfl Tryz.func60 (fun W M E => f_whole' hw W), st mo (st mo ?_)⟩
  refine S.w_loop (fun i : Nat => ⟨⟨30, [(0, q0 0), (3, q0 2), (4, q0 3), (5, q0 4), (13, raw (.slice x.p x.a.length x.cl)), (14, .int .i64 (x.a.length : Int)), (15, .int .i64 (i : Int))]⟩, [(2, some (x.c.map rel1)), (0, some (rdC e (mcR 1 (f i)))), (1 + 4096, none), (1, some (cR e (f i) jk)), (3, some (vBl.cells.map rel1)), (4, some ((agC (aI a i)).map rel1))], 5, X'⟩)
    (fun i => i ≤ x.a.length) (fun i => x.a.length - i) 0 (by omega) [0, 1, 2, 3, 4] ⟨rfl, ⟨fp, fp, fp, fp, fv, fv, fv, trivial⟩, ⟨flr rfl, mc_fit, trivial, cR_fit, flr rfl, flr rfl, trivial⟩, xf, rfl, rfl⟩ ?_
  intro i hi
  have hL' : LT X' (d + 1) x := hL.mono (xce hX)
  refine st mo ⟨fun hlt => st mo ?_, fun hge => st mo (st mo ?_)⟩
  · have hil : i < x.a.length := by omega
    obtain ⟨y, hy⟩ : ∃ y, x.a[i]? = some y := ⟨_, List.getElem?_eq_getElem hil⟩
    obtain ⟨⟨b, o, h4, h5⟩, h8⟩ := hL'.at hy
    refine ⟨b, o, i, h4, rfl, hil, st mo ⟨y.c, rfl, h5, st mo ?_⟩⟩
    refine ⟨_, fun nn => r_c (tc := (a i).y) [0, 1] [some (rdC e (mcR 6 (f (i + 1)))), some (cR e (f (i + 1)) jk)] [6] rfl rfl (hs i y hy X' (he.xf hX) hL') (fitL_cons fp (fitL_cons fv rfl)) ⟨mc_fit, trivial, cR_fit, trivial⟩ uv ⟨mc_un, cR_un, trivial⟩, st mo ?_⟩
    rcases i with _ | _ | _ | i
    · refine ⟨0, rfl, by decide, st mo ⟨Nat.le_of_ble_eq_true rfl, (agC (aI a 1)).map rel1, rfl, st mo ⟨_, wz 1 rfl, st mo ?_⟩⟩⟩
      exact ⟨1, hil, by dsimp; omega, [0, 6, 2, 3, 4], rfl, ⟨fp, fp, fp, fp, fv, fv, fv, trivial⟩, ⟨flr rfl, mc_fit, trivial, cR_fit, flr rfl, flr rfl, trivial⟩, xf, rfl, rfl⟩
    · refine ⟨1, rfl, by decide, st mo ⟨Nat.le_of_ble_eq_true rfl, (agC (aI a 2)).map rel1, rfl, st mo ⟨_, wz 2 rfl, st mo ?_⟩⟩⟩
      exact ⟨2, hil, by dsimp; omega, [0, 6, 2, 3, 4], rfl, ⟨fp, fp, fp, fp, fv, fv, fv, trivial⟩, ⟨flr rfl, mc_fit, trivial, cR_fit, flr rfl, flr rfl, trivial⟩, xf, rfl, rfl⟩
    · refine ⟨2, rfl, by decide, st mo ⟨Nat.le_of_ble_eq_true rfl, (agC (aI a 3)).map rel1, rfl, st mo ⟨_, wz 3 rfl, st mo ?_⟩⟩⟩
      exact ⟨3, hil, by dsimp; omega, [0, 6, 2, 3, 4], rfl, ⟨fp, fp, fp, fp, fv, fv, fv, trivial⟩, ⟨flr rfl, mc_fit, trivial, cR_fit, flr rfl, flr rfl, trivial⟩, xf, rfl, rfl⟩
    · omega
  · obtain rfl : i = x.a.length := by omega
    refine ⟨_, fun nn => r_c (tc := (nodE e x a).y) [0, 1] [some (rdC e (mcR 5 mk')), some (cR e mk' jk)] [5] rfl rfl (hn X' (he.xf hX)) (fitL_cons fp (fitL_cons fv (fitL_cons (fv (by rw [ea]; rfl)) rfl))) ⟨mc_fit, trivial, cR_fit, trivial⟩ uv ⟨mc_un, cR_un, trivial⟩, st mo ?_⟩
    exact ⟨rfl, [0, 5], fv, ⟨mc_fit, trivial, cR_fit, trivial⟩, rfl, rfl⟩
theorem f_eval (e : Ev) (jk : List Value) : ∀ (d : Nat) (x : Ex) (mk : Bool), XU d x → ∃ mk', EvC e jk x (evE e d x) mk mk' d
  | 0, x, mk, hu => by
    by_cases hx : x.a = []
    · cases hw : whl x with
      | false => exact ⟨mk, by rw [show evE e 0 x = vBad 2 by unfold evE; rw [hw]; rfl]; exact f_no e jk x hw mk 0⟩
      | true =>
        obtain ⟨mk', h⟩ := f_yes e jk x hw hu.u (fun _ => mk) (fun _ => vBl) (fun _ => vBl_ok) (fun _ _ => rfl) 0 (fun i y hy => by rw [hx] at hy; cases hy)
        exact ⟨mk', fun X he hL => by rw [show evE e 0 x = nodE e x (fun _ => vBl) by unfold evE; rw [hw]; rfl]; exact h X he hL.up⟩
    · exact ⟨mk, fun X he hL => absurd hL hx⟩
  | d + 1, x, mk, hu => by
    cases hw : whl x with
    | false => exact ⟨mk, by rw [show evE e (d + 1) x = vBad 2 by unfold evE; rw [hw]; rfl]; exact f_no e jk x hw mk (d + 1)⟩
    | true =>
      obtain ⟨f, h0, hf⟩ := chain (l := x.a) (P := fun y b b' => EvC e jk y (evE e d y) b b' d) (fun y hy b => f_eval e jk d y b (hu.2 y hy)) mk
      by_cases hne : ∃ X, EvL X e
      · obtain ⟨X0, he0⟩ := hne
        obtain ⟨mk', h⟩ := f_yes e jk x hw hu.u f (fun j => ((x.a[j]?).map (evE e d)).getD vBl) (fun i => by
          cases q : x.a[i]? with
          | none => exact vBl_ok
          | some y => exact (fit_ev he0 (hu.2 y (List.mem_of_getElem? q))).1) (fun j hj => by rw [List.getElem?_eq_none hj]; rfl) d (fun i y hy X he hL => by
            have := hf i y hy X he (hL.at hy).2
            rw [hy]; exact this)
        rw [h0] at h
        exact ⟨mk', by rw [show evE e (d + 1) x = nodE e x (fun j => ((x.a[j]?).map (evE e d)).getD vBl) by rw [evE, hw]; rfl]; exact h⟩
      · exact ⟨mk, fun X he _ => absurd ⟨X, he⟩ hne⟩
abbrev xY (x : Ex) : Value := .agg (x.c.map rel1).toArray
theorem rdN_fit {σ : List Nat} {e : Ev} {j : Nat} : fitL σ (rdC e (.map none)) (rdC e (mcR j false)) := fitL_cons fv (fitL_cons fv (fitL_cons fv (fitL_cons fv rfl)))
set_option maxRecDepth 20000 in
theorem f_Eval {d : Nat} {x : Ex} {e : Ev} (hu : XU d x) (w : World) (hL : LT w d x) (he : EvL w e) : Calls Tryz.prog 12 #[.agg x.c.toArray, e.v] w fun r W => r = .returned (evE e d x).v ∧ Mb w W := by
  obtain ⟨mk', h⟩ := f_eval e x.c d x false hu
  refine fn_pure [xY x, e.y] Tryz.func12 rfl rfl rfl (run_ok (st mo ?_))
  refine ⟨_, fun nn => r_c (tc := (evE e d x).y) [3, 0] [some (rdC e (mcR 4 mk')), some (cR e mk' x.c)] [4] rfl rfl (h w he hL) (fitL_cons fp (fitL_cons fv rfl)) ⟨rdN_fit, trivial, flr rfl, trivial⟩ uv ⟨mc_un, cR_un, trivial⟩, st mo ?_⟩
  rfl
/-- An item. -/
structure It where
  nm : ByteArray
  k : Int
  tk : Int
  ts : Int
  nd : Bool
  pl : Int
  x : Ex
def It.c (i : It) : List Value := [.string i.nm, .int .i64 i.k, .int .i64 i.tk, .int .i64 i.ts, .bool i.nd, .int .i64 i.pl] ++ i.x.c
end Go.Proofs.YtfmfeipeeedfpaaGreat
namespace Go.Proofs.YtfmfeipeeedfpaaGreat
namespace E
open Go.CheckFast (force)
/-! Frames of 256 values, memory of 4096 blocks: trees of pairs. -/
abbrev F0 := Value
abbrev H0 := Option (List Value)
abbrev F1 := F0 × F0
abbrev F2 := F1 × F1
abbrev F3 := F2 × F2
abbrev F4 := F3 × F3
abbrev F5 := F4 × F4
abbrev F6 := F5 × F5
abbrev F7 := F6 × F6
abbrev F8 := F7 × F7
abbrev H1 := H0 × H0
abbrev H2 := H1 × H1
abbrev H3 := H2 × H2
abbrev H4 := H3 × H3
abbrev H5 := H4 × H4
abbrev H6 := H5 × H5
abbrev H7 := H6 × H6
abbrev H8 := H7 × H7
abbrev H9 := H8 × H8
abbrev H10 := H9 × H9
abbrev H11 := H10 × H10
abbrev H12 := H11 × H11
def gS {α β : Type} (g : α → Nat → β) (p : α × α) (t : Nat) : β := Nat.casesOn (motive := fun _ => β) (Nat.mod t 2) (g p.1 (Nat.div t 2)) (fun _ => g p.2 (Nat.div t 2))
def sS {α β : Type} (s : α → Nat → β → α) (p : α × α) (t : Nat) (v : β) : α × α := Nat.casesOn (motive := fun _ => α × α) (Nat.mod t 2) (s p.1 (Nat.div t 2) v, p.2) (fun _ => (p.1, s p.2 (Nat.div t 2) v))
def fg0 (p : F0) (_ : Nat) : Value := p
def fs0 (_ : F0) (_ : Nat) (v : Value) : F0 := v
def hg0 (p : H0) (_ : Nat) : H0 := p
def hs0 (_ : H0) (_ : Nat) (v : H0) : H0 := v
def fe0 : F0 := undef
def he0 : H0 := none
def fg1 : F1 → Nat → Value := gS fg0
def fs1 : F1 → Nat → Value → F1 := sS fs0
def fe1 : F1 := (fe0, fe0)
def fg2 : F2 → Nat → Value := gS fg1
def fs2 : F2 → Nat → Value → F2 := sS fs1
def fe2 : F2 := (fe1, fe1)
def fg3 : F3 → Nat → Value := gS fg2
def fs3 : F3 → Nat → Value → F3 := sS fs2
def fe3 : F3 := (fe2, fe2)
def fg4 : F4 → Nat → Value := gS fg3
def fs4 : F4 → Nat → Value → F4 := sS fs3
def fe4 : F4 := (fe3, fe3)
def fg5 : F5 → Nat → Value := gS fg4
def fs5 : F5 → Nat → Value → F5 := sS fs4
def fe5 : F5 := (fe4, fe4)
def fg6 : F6 → Nat → Value := gS fg5
def fs6 : F6 → Nat → Value → F6 := sS fs5
def fe6 : F6 := (fe5, fe5)
def fg7 : F7 → Nat → Value := gS fg6
def fs7 : F7 → Nat → Value → F7 := sS fs6
def fe7 : F7 := (fe6, fe6)
def fg8 : F8 → Nat → Value := gS fg7
def fs8 : F8 → Nat → Value → F8 := sS fs7
def fe8 : F8 := (fe7, fe7)
def hg1 : H1 → Nat → H0 := gS hg0
def hs1 : H1 → Nat → H0 → H1 := sS hs0
def he1 : H1 := (he0, he0)
def hg2 : H2 → Nat → H0 := gS hg1
def hs2 : H2 → Nat → H0 → H2 := sS hs1
def he2 : H2 := (he1, he1)
def hg3 : H3 → Nat → H0 := gS hg2
def hs3 : H3 → Nat → H0 → H3 := sS hs2
def he3 : H3 := (he2, he2)
def hg4 : H4 → Nat → H0 := gS hg3
def hs4 : H4 → Nat → H0 → H4 := sS hs3
def he4 : H4 := (he3, he3)
def hg5 : H5 → Nat → H0 := gS hg4
def hs5 : H5 → Nat → H0 → H5 := sS hs4
def he5 : H5 := (he4, he4)
def hg6 : H6 → Nat → H0 := gS hg5
def hs6 : H6 → Nat → H0 → H6 := sS hs5
def he6 : H6 := (he5, he5)
def hg7 : H7 → Nat → H0 := gS hg6
def hs7 : H7 → Nat → H0 → H7 := sS hs6
def he7 : H7 := (he6, he6)
def hg8 : H8 → Nat → H0 := gS hg7
def hs8 : H8 → Nat → H0 → H8 := sS hs7
def he8 : H8 := (he7, he7)
def hg9 : H9 → Nat → H0 := gS hg8
def hs9 : H9 → Nat → H0 → H9 := sS hs8
def he9 : H9 := (he8, he8)
def hg10 : H10 → Nat → H0 := gS hg9
def hs10 : H10 → Nat → H0 → H10 := sS hs9
def he10 : H10 := (he9, he9)
def hg11 : H11 → Nat → H0 := gS hg10
def hs11 : H11 → Nat → H0 → H11 := sS hs10
def he11 : H11 := (he10, he10)
def hg12 : H12 → Nat → H0 := gS hg11
def hs12 : H12 → Nat → H0 → H12 := sS hs11
def he12 : H12 := (he11, he11)

/-- A frame: how many slots, the first 32 of them, the others. -/
structure FT where
  m : Nat
  a : F5
  b : F8
abbrev HT := H12
def fget (f : FT) (t : Nat) : Value := bif Nat.blt t 32 then fg5 f.a t else bif Nat.blt t 256 then fg8 f.b t else undef
def fput (f : FT) (t : Nat) (v : Value) : FT := bif Nat.blt t f.m then (bif Nat.blt t 32 then ⟨f.m, fs5 f.a t v, f.b⟩ else ⟨f.m, f.a, fs8 f.b t v⟩) else f
def hget (h : HT) (i : Nat) : Option (List Value) := bif Nat.blt i 4096 then hg12 h i else none
/-- What a run without effects comes to. -/
def pr (P : Program) {α : Type} : Sem α → Option α
  | .pure a => some a
  | .program k => pr P (k P)
  | .mark _ k => pr P k
  | _ => none
def flat1 (v : Value) : Bool := match v with
  | .bool _ => true
  | .int _ _ => true
  | .string _ => true
  | _ => false
def flat (v : Value) : Bool := match v with
  | .agg cs => cs.toList.all flat1
  | v => flat1 v
/-- What is not known. -/
def unk : Value := .chan (some 0)
def cok1 (v : Value) : Bool := match v with
  | .bool _ => true
  | .int _ _ => true
  | .string _ => true
  | .pointer none => true
  | .slice none _ _ => true
  | .map none => true
  | .nilFunc => true
  | .nilIface => true
  | _ => false
def cok (v : Value) : Bool := match v with
  | .agg cs => cs.toList.all cok1
  | v => cok1 v
def evo (fr : FT) (x : Operand) : Value := match x with
  | .tmp t => fget fr t
  | .const v => bif cok v then v else unk
  | .global _ => unk
  | .func f => .func (.func f) #[] #[]
structure R5 where
  v : Value
  h : HT
  n : Nat
  r : Nat
  w : Nat
def bit (i : Nat) : Nat := Nat.shiftLeft 1 i
def szOf (P : Program) (t : TypeId) : Option Nat := (P.info? t).map (·.size)
def isRow (P : Program) (t : TypeId) : Option Bool := match P.underlying t with
  | some (.struct _) => some true
  | some (.array _ _) => some true
  | some _ => some false
  | none => none
def zeroOf (P : Program) (t : TypeId) : Option Value := (P.info? t).bind (·.zero)
def onI {α : Type} (v : Value) (k : IntKind → Int → Option α) : Option α := match v with
  | .int a b => k a b
  | _ => none
def onP {α : Type} (v : Value) (k : Nat → Nat → Option α) : Option α := match v with
  | .pointer (some ⟨b, o, none⟩) => k b o
  | _ => none
def onS {α : Type} (v : Value) (k : Nat → Nat → Nat → Nat → Option α) : Option α := match v with
  | .slice (some ⟨b, o, none⟩) n e => k b o n e
  | _ => none
def onB {α : Type} (v : Value) (x y : Option α) : Option α := match v with
  | .bool true => x
  | .bool false => y
  | _ => none
def drop' : Nat → List Value → List Value
  | 0, l => l
  | n + 1, l => match l with
    | [] => []
    | _ :: l => drop' n l
def take' : Nat → List Value → Option (List Value)
  | 0, _ => some []
  | n + 1, l => match l with
    | [] => none
    | x :: l => match take' n l with
      | some r => some (x :: r)
      | none => none
/-- Other cells from a place on. -/
def lay' : List Value → List Value → Option (List Value)
  | [], l => some l
  | u :: us, l => match l with
    | [] => none
    | _ :: l => match lay' us l with
      | some r => some (u :: r)
      | none => none
def over : Nat → List Value → List Value → Option (List Value)
  | 0, us, l => lay' us l
  | n + 1, us, l => match l with
    | [] => none
    | x :: l => match over n us l with
      | some r => some (x :: r)
      | none => none
def one (v : Value) : Bool := match v with
  | .agg _ => false
  | .tuple _ => false
  | .chan _ => false
  | _ => true
def allOne : List Value → Bool
  | [] => true
  | v :: l => bif one v then allOne l else false
def nth : Nat → List Value → Option Value
  | 0, l => match l with
    | [] => none
    | x :: _ => some x
  | n + 1, l => match l with
    | [] => none
    | _ :: l => nth n l
/-- A value's parts laid over cells. -/
def fillL (place : Nat → Option (Nat × Nat)) : List (Nat × Value) → List Value → Option (List Value)
  | [], cs => some cs
  | p :: r, cs => match place p.1 with
    | none => none
    | some q => bif Nat.beq p.2.cells.toList.length q.2 && allOne p.2.cells.toList then (over q.1 p.2.cells.toList cs).bind (fillL place r) else none
def fplaces (P : Program) : List Field → Option (List (Nat × Nat))
  | [] => some []
  | f :: r => match szOf P f.type with
    | none => none
    | some n => match fplaces P r with
      | none => none
      | some l => some ((f.offset, n) :: l)
def times : Nat → List Value → List Value
  | 0, _ => []
  | n + 1, z => z ++ times n z
/-- A whole number as a place below a bound. -/
def idx (i : Int) (len : Nat) : Option Nat := match i with
  | .ofNat n => bif Nat.blt n len then some n else none
  | .negSucc _ => none
def lo (x : Option Value) (d : Nat) (m : Nat) : Option Nat := match x with
  | none => some d
  | some v => onI v fun _ i => idx i (Nat.succ m)
def val (h : HT) (nx : Nat) (v : Value) : Option R5 := some ⟨v, h, nx, 0, 0⟩
def inR (i : Int) : Bool := match i with
  | .ofNat n => Nat.blt n 9223372036854775808
  | .negSucc n => Nat.blt n 9223372036854775808
def ieq (a b : Int) : Bool := match a with
  | .ofNat m => match b with
    | .ofNat n => Nat.beq m n
    | .negSucc _ => false
  | .negSucc m => match b with
    | .ofNat _ => false
    | .negSucc n => Nat.beq m n
def ilt (a b : Int) : Bool := match a with
  | .ofNat m => match b with
    | .ofNat n => Nat.blt m n
    | .negSucc _ => false
  | .negSucc m => match b with
    | .ofNat _ => true
    | .negSucc n => Nat.blt n m
def beqL : List UInt8 → List UInt8 → Bool
  | [], l => match l with
    | [] => true
    | _ :: _ => false
  | a :: x, l => match l with
    | [] => false
    | b :: y => bif Nat.beq a.toNat b.toNat then beqL x y else false
/-- An int's number worked out. -/
def forceI {α : Type} (i : Int) (k : Int → α) : α := match i with
  | .ofNat n => force n fun n => k (.ofNat n)
  | .negSucc n => force n fun n => k (.negSucc n)
def i64 (P : Program) (op : BinOp) (a b : Int) (r : Int) : Option Value := forceI r fun r => bif inR r then some (.int .i64 r) else pr P (Op.intArith op .i64 a b)
def u64 (n : Nat) : Option Value := force (Nat.mod n 18446744073709551616) fun n => some (.int .u64 (.ofNat n))
def onN {α : Type} (a b : Int) (k : Nat → Nat → Option α) (d : Option α) : Option α := match a with
  | .ofNat m => match b with
    | .ofNat n => k m n
    | .negSucc _ => d
  | .negSucc _ => d
def slow (P : Program) (op : BinOp) (k : IntKind) (a : Int) (k' : IntKind) (b : Int) : Option Value := (pr P (binOp op 0 (.int k a) (.int k' b))).bind fun v => bif flat1 v then some v else none
def bin64 (P : Program) (op : BinOp) (a b : Int) : Option Value := match op with
  | .add => i64 P .add a b (Int.add a b)
  | .sub => i64 P .sub a b (Int.sub a b)
  | .mul => i64 P .mul a b (Int.mul a b)
  | op => slow P op .i64 a .i64 b
def binu (P : Program) (op : BinOp) (a b : Int) : Option Value := match op with
  | .add => onN a b (fun m n => u64 (Nat.add m n)) (slow P .add .u64 a .u64 b)
  | .mul => onN a b (fun m n => u64 (Nat.mul m n)) (slow P .mul .u64 a .u64 b)
  | op => slow P op .u64 a .u64 b
def bini (P : Program) (op : BinOp) (k : IntKind) (a b : Int) : Option Value := match op with
  | .eql => some (.bool (ieq a b))
  | .neq => some (.bool (!ieq a b))
  | .lss => some (.bool (ilt a b))
  | .leq => some (.bool (!ilt b a))
  | .gtr => some (.bool (ilt b a))
  | .geq => some (.bool (!ilt a b))
  | op => match k with
    | .i64 => bin64 P op a b
    | .u64 => binu P op a b
    | k => slow P op k a k b
def isSh (op : BinOp) : Bool := match op with
  | .shl => true
  | .shr => true
  | _ => false
def bins (P : Program) (op : BinOp) (a b : ByteArray) : Option Value := match op with
  | .eql => some (.bool (beqL a.data.toList b.data.toList))
  | .neq => some (.bool (!beqL a.data.toList b.data.toList))
  | op => (pr P (Op.stringOp op a b)).bind fun v => bif flat1 v then some v else none
def keq (a b : IntKind) : Bool := decide (a = b)
def oBinI (P : Program) (op : BinOp) (k : IntKind) (a : Int) (q : Value) : Option Value := onI q fun k' b => bif isSh op then slow P op k a k' b else bif keq k k' then bini P op k a b else none
def oBinS (P : Program) (op : BinOp) (a : ByteArray) (q : Value) : Option Value := match q with
  | .string b => bins P op a b
  | _ => none
def oBinF (P : Program) (op : BinOp) (t : TypeId) (x y : Operand) (p q : Value) : Option Value := bif flat p && flat q then (pr P (do eqGuard op t x y p q; binOp op t p q)).bind fun v => bif flat1 v then some v else none else none
def oBinV (P : Program) (op : BinOp) (t : TypeId) (x y : Operand) (p q : Value) : Option Value := match p with
  | .int k a => oBinI P op k a q
  | .string a => oBinS P op a q
  | p => oBinF P op t x y p q
def oBin (P : Program) (op : BinOp) (t : TypeId) (x y : Operand) (fr : FT) (h : HT) (nx : Nat) : Option R5 := (oBinV P op t x y (evo fr x) (evo fr y)).bind (val h nx)
def oMove (x : Operand) (fr : FT) (h : HT) (nx : Nat) : Option R5 := val h nx (evo fr x)
def oUnV (P : Program) (op : UnOp) (p : Value) : Option Value := bif flat1 p then (pr P (Op.unary op p)).bind fun v => bif flat1 v then some v else none else none
def oUn (P : Program) (op : UnOp) (x : Operand) (fr : FT) (h : HT) (nx : Nat) : Option R5 := (oUnV P op (evo fr x)).bind (val h nx)
def bytes' : List Value → Option (List UInt8)
  | [] => some []
  | v :: l => match v with
    | .int .u8 n => match bytes' l with
      | some r => some (UInt8.ofNat n.toNat :: r)
      | none => none
    | _ => none
def oCvB (P : Program) (s d : TypeId) (h : HT) (nx : Nat) (b o n : Nat) : Option R5 := match P.underlying s, P.underlying d with
  | some (.slice e), some .string => match P.underlying e with
    | some (.int .u8) => ((hget h b).bind fun cs => (take' n (drop' o cs)).bind bytes').bind fun l => some ⟨.string ⟨l.toArray⟩, h, nx, bit b, 0⟩
    | _ => none
  | _, _ => none
def oCvV (P : Program) (s d : TypeId) (p : Value) (h : HT) (nx : Nat) : Option R5 := match p with
  | .slice (some ⟨b, o, none⟩) n _ => oCvB P s d h nx b o n
  | p => bif flat1 p then (pr P (convert s d p)).bind fun v => bif flat1 v then val h nx v else none else none
def oConv (P : Program) (s d : TypeId) (x : Operand) (fr : FT) (h : HT) (nx : Nat) : Option R5 := oCvV P s d (evo fr x) h nx
def oPick (c a b : Operand) (fr : FT) (h : HT) (nx : Nat) : Option R5 := onB (evo fr c) (val h nx (evo fr a)) (val h nx (evo fr b))
def onT {α : Type} (v : Value) (k : List Value → Option α) : Option α := match v with
  | .tuple vs => k vs.toList
  | _ => none
def oExt (x : Operand) (i : Nat) (fr : FT) (h : HT) (nx : Nat) : Option R5 := onT (evo fr x) fun vs => (nth i vs).bind (val h nx)
def oNil (x : Operand) (fr : FT) (h : HT) (nx : Nat) : Option R5 := onP (evo fr x) fun b o => val h nx (.pointer (some ⟨b, o, none⟩))
/-- Where a field lies, if it has cells. -/
def fOff (P : Program) (s : TypeId) (f : Nat) : Option Nat := match P.underlying s with
  | some (.struct fs) => match fs.toList[f]? with
    | some fd => match szOf P fd.type with
      | some (_ + 1) => some fd.offset
      | _ => none
    | none => none
  | _ => none
def oField (P : Program) (s : TypeId) (x : Operand) (f : Nat) (fr : FT) (h : HT) (nx : Nat) : Option R5 := (fOff P s f).bind fun d => onP (evo fr x) fun b o => force (Nat.add o d) fun o => val h nx (.pointer (some ⟨b, o, none⟩))
def oAt (h : HT) (nx : Nat) (b o n : Nat) (i : Int) (len : Nat) : Option R5 := (idx i len).bind fun j => force (Nat.add o (Nat.mul j n)) fun o => val h nx (.pointer (some ⟨b, o, none⟩))
def oIndA (P : Program) (t : TypeId) (x ix : Operand) (fr : FT) (h : HT) (nx : Nat) : Option R5 := match P.underlying t with
  | some (.slice e) => (szOf P e).bind fun n => onS (evo fr x) fun b o len _ => onI (evo fr ix) fun _ i => oAt h nx b o n i len
  | some (.array len e) => (szOf P e).bind fun n => onP (evo fr x) fun b o => onI (evo fr ix) fun _ i => oAt h nx b o n i len
  | _ => none
def nthB : Nat → List UInt8 → Option UInt8
  | 0, l => match l with
    | [] => none
    | x :: _ => some x
  | n + 1, l => match l with
    | [] => none
    | _ :: l => nthB n l
def onStr {α : Type} (v : Value) (k : ByteArray → Option α) : Option α := match v with
  | .string s => k s
  | _ => none
def isStr (P : Program) (t : TypeId) : Bool := match P.underlying t with
  | some .string => true
  | _ => false
def oInd (P : Program) (t : TypeId) (x ix : Operand) (fr : FT) (h : HT) (nx : Nat) : Option R5 := bif isStr P t then onStr (evo fr x) fun s => onI (evo fr ix) fun _ i => match i with
    | .ofNat n => (nthB n s.data.toList).bind fun b => force b.toNat fun m => val h nx (.int .u8 (.ofNat m))
    | .negSucc _ => none
  else none
def oPart (P : Program) (t : TypeId) (cs : List Value) (off : Nat) : Option Value := (isRow P t).bind fun row => bif row then (szOf P t).bind fun n => (take' n (drop' off cs)).bind fun us => some (.agg us.toArray) else nth off cs
def onA {α : Type} (v : Value) (k : List Value → Option α) : Option α := match v with
  | .agg cs => k cs.toList
  | _ => none
def oIndV (P : Program) (t : TypeId) (x ix : Operand) (fr : FT) (h : HT) (nx : Nat) : Option R5 := match P.underlying t with
  | some (.array len e) => onA (evo fr x) fun cs => onI (evo fr ix) fun _ i => (idx i len).bind fun j => (szOf P e).bind fun n => (oPart P e cs (Nat.mul j n)).bind (val h nx)
  | _ => none
def oInd2 (P : Program) (t : TypeId) (x ix : Operand) (fr : FT) (h : HT) (nx : Nat) : Option R5 := bif isStr P t then oInd P t x ix fr h nx else oIndV P t x ix fr h nx
def oFieldV (P : Program) (s : TypeId) (x : Operand) (f : Nat) (fr : FT) (h : HT) (nx : Nat) : Option R5 := match P.underlying s with
  | some (.struct fs) => match fs.toList[f]? with
    | some fd => onA (evo fr x) fun cs => (oPart P fd.type cs fd.offset).bind (val h nx)
    | none => none
  | _ => none
def oSlV (P : Program) (t : TypeId) (x : Value) (l hi : Option Value) (h : HT) (nx : Nat) : Option R5 := match x with
  | .string s => bif isStr P t then (lo hi s.data.toList.length s.data.toList.length).bind fun b => (lo l 0 b).bind fun a => val h nx (.string ⟨((s.data.toList.drop a).take (b - a)).toArray⟩) else none
  | .slice (some ⟨b, o, none⟩) len es => match P.underlying t with
    | some (.slice e) => (szOf P e).bind fun n => (lo hi len len).bind fun q => (lo l 0 q).bind fun p => bif Nat.beq n es && Nat.blt p len then force (Nat.add o (Nat.mul p n)) fun o => force (Nat.sub q p) fun k => val h nx (.slice (some ⟨b, o, none⟩) k es) else none
    | _ => none
  | _ => none
def oSlice (P : Program) (t : TypeId) (x : Operand) (l hi m : Option Operand) (fr : FT) (h : HT) (nx : Nat) : Option R5 := bif m.isNone then oSlV P t (evo fr x) (l.map (evo fr)) (hi.map (evo fr)) h nx else none
def evp (fr : FT) : List (Nat × Operand) → List (Nat × Value)
  | [] => []
  | p :: l => (p.1, evo fr p.2) :: evp fr l
def evl (fr : FT) : List Operand → List Value
  | [] => []
  | x :: l => evo fr x :: evl fr l
def zok (z : Value) : Bool := z.cells.toList.all cok1
def oBuild (P : Program) (t : TypeId) (parts : Array (Nat × Operand)) (fr : FT) (h : HT) (nx : Nat) : Option R5 := (zeroOf P t).bind fun z => bif zok z then match P.underlying t with
    | some (.struct fs) => (fplaces P fs.toList).bind fun pl => (fillL (fun i => pl[i]?) (evp fr parts.toList) z.cells.toList).bind fun cs => val h nx (.agg cs.toArray)
    | some (.array _ e) => (szOf P e).bind fun n => (fillL (fun i => some (i * n, n)) (evp fr parts.toList) z.cells.toList).bind fun cs => val h nx (.agg cs.toArray)
    | _ => none
  else none
def oNew (h : HT) (nx : Nat) (v : Value) (cs : List Value) (r w : Nat) : Option R5 := bif Nat.blt nx 4096 then some ⟨v, hs12 h nx (some cs), Nat.succ nx, r, Nat.lor w (bit nx)⟩ else none
def oBuildS (P : Program) (t : TypeId) (len : Nat) (parts : Array (Nat × Operand)) (fr : FT) (h : HT) (nx : Nat) : Option R5 := match P.underlying t with
  | some (.slice e) => (szOf P e).bind fun n => (zeroOf P e).bind fun z => bif Nat.ble (len * n) 10000 && Nat.beq z.cells.toList.length n && Nat.blt 0 n && Nat.blt 0 len && zok z then (fillL (fun i => some (i * n, n)) (evp fr parts.toList) (times len z.cells.toList)).bind fun cs => oNew h nx (.slice (some ⟨nx, 0, none⟩) len n) cs 0 0 else none
  | _ => none
def oLd (P : Program) (t : TypeId) (h : HT) (nx : Nat) (b o : Nat) : Option R5 := (hget h b).bind fun cs => (isRow P t).bind fun row => bif row then (szOf P t).bind fun n => (take' n (drop' o cs)).bind fun us => some ⟨.agg us.toArray, h, nx, bit b, 0⟩ else (nth o cs).bind fun v => some ⟨v, h, nx, bit b, 0⟩
def oLoad (P : Program) (t : TypeId) (x : Operand) (fr : FT) (h : HT) (nx : Nat) : Option R5 := onP (evo fr x) (oLd P t h nx)
def oSt (P : Program) (t : TypeId) (us : List Value) (h : HT) (nx : Nat) (b o : Nat) : Option R5 := (hget h b).bind fun cs => (szOf P t).bind fun n => bif Nat.beq us.length n && allOne us then (over o us cs).bind fun cs => some ⟨undef, hs12 h b (some cs), nx, bit b, bit b⟩ else none
def oStore (P : Program) (t : TypeId) (x y : Operand) (fr : FT) (h : HT) (nx : Nat) : Option R5 := onP (evo fr x) (oSt P t (evo fr y).cells.toList h nx)
def oAlloc (P : Program) (t : TypeId) (_ : FT) (h : HT) (nx : Nat) : Option R5 := (zeroOf P t).bind fun z => bif zok z then oNew h nx (.pointer (some ⟨nx, 0, none⟩)) z.cells.toList 0 0 else none
def oBox (x : Operand) (fr : FT) (h : HT) (nx : Nat) : Option R5 := bif allOne (evo fr x).cells.toList then oNew h nx (.pointer (some ⟨nx, 0, none⟩)) (evo fr x).cells.toList 0 0 else none
def oMkS (P : Program) (t : TypeId) (l c : Value) (h : HT) (nx : Nat) : Option R5 := match P.underlying t with
  | some (.slice e) => (szOf P e).bind fun n => (zeroOf P e).bind fun z => ((P.info? e).map (·.bytes)).bind fun by' => onI l fun _ i => onI c fun _ j => (idx i 1001).bind fun a => (idx j 1001).bind fun b =>
      bif Nat.beq a b && Nat.ble by' 1000 && Nat.beq z.cells.toList.length n && Nat.blt 0 n && zok z then oNew h nx (.slice (some ⟨nx, 0, none⟩) a n) (times a z.cells.toList) 0 0 else none
  | _ => none
def oMake (P : Program) (t : TypeId) (l c : Operand) (fr : FT) (h : HT) (nx : Nat) : Option R5 := oMkS P t (evo fr l) (evo fr c) h nx
def oFunc (fn : Fn) (first captured : Array Operand) (fr : FT) (h : HT) (nx : Nat) : Option R5 := match fn with
  | .func f => match first.toList with
    | [] => val h nx (.func (.func f) #[] (evl fr captured.toList).toArray)
    | _ :: _ => none
  | _ => none
def oLen (P : Program) (ts : List TypeId) (vs : List Value) (h : HT) (nx : Nat) : Option R5 := match ts with
  | t :: _ => match vs with
    | x :: _ => match P.underlying t with
      | some .string => onStr x fun s => force s.data.toList.length fun n => val h nx (.int .i64 (.ofNat n))
      | some (.slice _) => match x with
        | .slice _ n _ => val h nx (.int .i64 (.ofNat n))
        | _ => none
      | _ => none
    | [] => none
  | [] => none
def oAp2 (h : HT) (nx : Nat) (n : Nat) (x : Value) (b m : Nat) (zs : List Value) : Option R5 := match x with
  | .slice none 0 0 => oNew h nx (.slice (some ⟨nx, 0, none⟩) m n) zs (bit b) 0
  | .slice (some ⟨a, 0, none⟩) len es => (hget h a).bind fun cs => bif Nat.beq cs.length (len * n) && Nat.beq es n && !Nat.beq a b && Nat.ble len 10000 then
      force (Nat.add len m) fun k => oNew (hs12 h a none) nx (.slice (some ⟨nx, 0, none⟩) k n) (cs ++ zs) (Nat.lor (bit a) (bit b)) (bit a) else none
  | _ => none
/-- Of the elements: how many bytes, and that nought has as many cells. -/
def apOk (P : Program) (e : TypeId) (n : Nat) : Bool := match P.info? e with
  | some i => match i.zero with
    | some z => Nat.ble i.bytes 100000 && Nat.beq z.cells.toList.length n
    | none => false
  | none => false
def oApp (P : Program) (ts : List TypeId) (vs : List Value) (h : HT) (nx : Nat) : Option R5 := match ts with
  | [t, t'] => match vs with
    | [x, y] => match P.underlying t with
      | some (.slice e) => bif Nat.beq t t' then (szOf P e).bind fun n => onS y fun b o m bs => bif Nat.beq bs n && Nat.blt 0 m && Nat.blt 0 n then (hget h b).bind fun us => (take' (m * n) (drop' o us)).bind fun zs => bif allOne zs && apOk P e n && Nat.ble m 10000 then oAp2 h nx n x b m zs else none else none else none
      | _ => none
    | _ => none
  | _ => none
def oMin (P : Program) (vs : List Value) (h : HT) (nx : Nat) : Option R5 := bif vs.all flat1 then (pr P (Builtin.min_ #[] 0 vs.toArray)).bind fun v => bif flat1 v then val h nx v else none else none
def oBuiltin (P : Program) (b : Builtin) (ts : Array TypeId) (xs : Array Operand) (fr : FT) (h : HT) (nx : Nat) : Option R5 := match b with
  | .len => oLen P ts.toList (evl fr xs.toList) h nx
  | .append => oApp P ts.toList (evl fr xs.toList) h nx
  | .min => oMin P (evl fr xs.toList) h nx
  | _ => none
def mkeq (k a : Value) : Option Bool := match k with
  | .string s => match a with
    | .string t => some (beqL s.data.toList t.data.toList)
    | _ => none
  | .int j x => match a with
    | .int j' y => bif keq j j' then some (ieq x y) else none
    | _ => none
  | _ => none
/-- Where a key stands among keys and values, and what stands there. -/
def mfd (k : Value) : Nat → List Value → Option (Option (Nat × Value))
  | _, [] => some none
  | _, [_] => none
  | i, a :: v :: l => match mkeq k a with
    | some true => some (some (i, v))
    | some false => mfd k (Nat.succ i) l
    | none => none
def mset (k v : Value) : Nat → List Value → List Value
  | 0, _ :: _ :: l => k :: v :: l
  | i + 1, a :: b :: l => a :: b :: mset k v i l
  | _, l => l
def isKey (P : Program) (t : TypeId) (k : Value) : Bool := match P.underlying t with
  | some .string => match k with
    | .string _ => true
    | _ => false
  | some (.int _) => match k with
    | .int _ _ => true
    | _ => false
  | _ => false
def mapT (P : Program) (t : TypeId) : Option (TypeId × TypeId) := match P.underlying t with
  | some (.map a b) => some (a, b)
  | _ => none
def pack (ok : Bool) (v : Value) (b : Bool) : Value := bif ok then .tuple #[v, .bool b] else v
def oMap (r : Option Operand) (_ : FT) (h : HT) (nx : Nat) : Option R5 := bif r.isNone then oNew h nx (.map (some nx)) [] 0 0 else none
def oGet0 (P : Program) (e : TypeId) (ok : Bool) (h : HT) (nx r : Nat) : Option R5 := (zeroOf P e).bind fun z => bif cok z then some ⟨pack ok z false, h, nx, r, 0⟩ else none
def oGetV (P : Program) (e : TypeId) (ok : Bool) (h : HT) (nx : Nat) (k m : Value) : Option R5 := match m with
  | .map none => oGet0 P e ok h nx 0
  | .map (some i) => (hget h i).bind fun cs => (mfd k 0 cs).bind fun r => match r with
    | some p => some ⟨pack ok p.2 true, h, nx, bit i, 0⟩
    | none => oGet0 P e ok h nx (bit i)
  | _ => none
def oGet (P : Program) (t : TypeId) (x ix : Operand) (ok : Bool) (fr : FT) (h : HT) (nx : Nat) : Option R5 := (mapT P t).bind fun p => bif isKey P p.1 (evo fr ix) then oGetV P p.2 ok h nx (evo fr ix) (evo fr x) else none
def oPutV (h : HT) (nx : Nat) (k v m : Value) : Option R5 := match m with
  | .map (some i) => (hget h i).bind fun cs => (mfd k 0 cs).bind fun r => match r with
    | some p => some ⟨undef, hs12 h i (some (mset k v p.1 cs)), nx, bit i, bit i⟩
    | none => some ⟨undef, hs12 h i (some (cs ++ [k, v])), nx, bit i, bit i⟩
  | _ => none
def oPut (P : Program) (t : TypeId) (m k v : Operand) (fr : FT) (h : HT) (nx : Nat) : Option R5 := (mapT P t).bind fun p => bif isKey P p.1 (evo fr k) then oPutV h nx (evo fr k) (evo fr v) (evo fr m) else none
def oCall (cf : Nat → List Value → HT → Nat → Option R5) (v : Value) (vs : List Value) (h : HT) (nx : Nat) : Option R5 := match v with
  | .func (.func f) first captured => cf f (first.toList ++ vs ++ captured.toList) h nx
  | _ => none
def oNone (_ : FT) (_ : HT) (_ : Nat) : Option R5 := none
def oC (P : Program) (cf : Nat → List Value → HT → Nat → Option R5) (c : Call) (fr : FT) (h : HT) (nx : Nat) : Option R5 := match c.callee with
  | .value x => oCall cf (evo fr x) (evl fr c.args.toList) h nx
  | .builtin b => oBuiltin P b c.argTypes c.args fr h nx
  | _ => none
def op1 (P : Program) (cf : Nat → List Value → HT → Nat → Option R5) (o : Op) : FT → HT → Nat → Option R5 :=
  match o with
  | .move x => oMove x
  | .assign x => oMove x
  | .pick c a b => oPick c a b
  | .extract x i => oExt x i
  | .nilCheck x => oNil x
  | .fieldAddr s x f => oField P s x f
  | .indexAddr t x ix => oIndA P t x ix
  | .index t x ix => oInd2 P t x ix
  | .field s x f => oFieldV P s x f
  | .slice t x l hi m => oSlice P t x l hi m
  | .build t parts => oBuild P t parts
  | .buildSlice t len parts => oBuildS P t len parts
  | .load t x => oLoad P t x
  | .store t x y => oStore P t x y
  | .alloc t => oAlloc P t
  | .box _ x => oBox x
  | .binOp op t x y _ => oBin P op t x y
  | .unOp op _ x => oUn P op x
  | .convert s d x => oConv P s d x
  | .makeSlice t l c => oMake P t l c
  | .makeFunc fn first captured => oFunc fn first captured
  | .call c => oC P cf c
  | .makeMap _ r => oMap r
  | .lookup t x i ok => oGet P t x i ok
  | .mapUpdate t m k v => oPut P t m k v
  | .insert t m k v => oPut P t m k v
  | _ => oNone
def want (fr : FT) (ops : Array Oper) (g : Option (Nat × Bool)) : Option Bool := match g with
  | none => some true
  | some (j, w) => match (ops[j]?).bind (·.dst) with
    | some t => match fget fr t with
      | .bool b => some (b == w)
      | .tuple _ => some false
      | _ => none
    | none => none
def put (fr : FT) (d : Option Tmp) (v : Value) : FT := match d with
  | some t => fput fr t v
  | none => fr
/-! Calls whose answers are known: values and blocks, the blocks by numbers from 0 on. -/
def s0 (g : Nat → Nat) (v : Value) : Value := match v with
  | .pointer (some a) => .pointer (some ⟨g a.block, a.off, a.spot⟩)
  | .slice (some a) m e => .slice (some ⟨g a.block, a.off, a.spot⟩) m e
  | v => v
def sL (g : Nat → Nat) : List Value → List Value
  | [] => []
  | v :: l => s0 g v :: sL g l
def s1 (g : Nat → Nat) (v : Value) : Value := match v with
  | .agg cs => .agg (sL g cs.toList).toArray
  | v => s0 g v
def sM (g : Nat → Nat) : List Value → List Value
  | [] => []
  | v :: l => s1 g v :: sM g l
def s2 (g : Nat → Nat) (v : Value) : Value := match v with
  | .tuple cs => .tuple (sM g cs.toList).toArray
  | v => s1 g v
/-- Values whose blocks' numbers can be told. -/
def at0 (v : Value) : Bool := match v with
  | .agg _ => false
  | .tuple _ => false
  | .func _ _ _ => false
  | .iface _ _ => false
  | .chan _ => false
  | .map _ => false
  | _ => true
def at1 (v : Value) : Bool := match v with
  | .agg cs => cs.toList.all at0
  | v => at0 v
def at2 (v : Value) : Bool := match v with
  | .tuple cs => cs.toList.all at1
  | v => at1 v
structure En where
  f : Nat
  args : List Value
  v : Value
  bs : List (List Value)
def aeq (v u : Value) : Bool := match v with
  | .bool a => match u with
    | .bool b => a == b
    | _ => false
  | .int k a => match u with
    | .int k' b => keq k k' && ieq a b
    | _ => false
  | .string a => match u with
    | .string b => beqL a.data.toList b.data.toList
    | _ => false
  | .pointer none => match u with
    | .pointer none => true
    | _ => false
  | .pointer (some ⟨b, o, none⟩) => match u with
    | .pointer (some ⟨b', o', none⟩) => Nat.beq b b' && Nat.beq o o'
    | _ => false
  | .slice none n c => match u with
    | .slice none n' c' => Nat.beq n n' && Nat.beq c c'
    | _ => false
  | .slice (some ⟨b, o, none⟩) n c => match u with
    | .slice (some ⟨b', o', none⟩) n' c' => Nat.beq b b' && Nat.beq o o' && Nat.beq n n' && Nat.beq c c'
    | _ => false
  | .nilFunc => match u with
    | .nilFunc => true
    | _ => false
  | .nilIface => match u with
    | .nilIface => true
    | _ => false
  | _ => false
def leq : List Value → List Value → Bool
  | [], l => match l with
    | [] => true
    | _ :: _ => false
  | v :: x, l => match l with
    | [] => false
    | u :: y => bif aeq v u then leq x y else false
def veq1 (v u : Value) : Bool := match v with
  | .agg cs => match u with
    | .agg us => leq cs.toList us.toList
    | _ => false
  | v => aeq v u
def leq1 : List Value → List Value → Bool
  | [], l => match l with
    | [] => true
    | _ :: _ => false
  | v :: x, l => match l with
    | [] => false
    | u :: y => bif veq1 v u then leq1 x y else false
def veq2 (v u : Value) : Bool := match v with
  | .tuple cs => match u with
    | .tuple us => leq1 cs.toList us.toList
    | _ => false
  | v => veq1 v u
def find (f : Nat) (args : List Value) : List En → Option En
  | [] => none
  | e :: l => bif Nat.beq f e.f && leq args e.args then some e else find f args l
def lays (n : Nat) : List (List Value) → Nat → HT → HT
  | [], _, h => h
  | b :: l, i, h => lays n l (Nat.succ i) (hs12 h i (some (sL (Nat.add n) b)))
/-- The numbers from one up to another. -/
def bits : Nat → Nat → Nat
  | _, 0 => 0
  | i, m + 1 => Nat.lor (bit i) (bits (Nat.succ i) m)
def known (e : En) (h : HT) (nx : Nat) : Option R5 := bif Nat.ble (nx + e.bs.length) 4096 then some ⟨s2 (Nat.add nx) e.v, lays nx e.bs nx h, nx + e.bs.length, 0, bits nx e.bs.length⟩ else none
structure RL where
  f : FT
  h : HT
  n : Nat
  r : Nat
  w : Nat
  l : List (Nat × Nat)
structure RC where
  e : Exit
  f : FT
  h : HT
  n : Nat
  r : Nat
  w : Nat
def opsL (P : Program) (cf : Nat → List Value → HT → Nat → Option R5) (ops : Array Oper) : List Oper → RL → Option RL
  | [], s => some s
  | o :: rest, s => (want s.f ops o.guard).bind fun b => bif b then
      (op1 P cf o.op s.f s.h s.n).bind fun x => force x.n fun nx => force (Nat.lor s.r x.r) fun R => force (Nat.lor s.w x.w) fun W => opsL P cf ops rest ⟨put s.f o.dst x.v, x.h, nx, R, W, (x.r, x.w) :: s.l⟩
    else opsL P cf ops rest ⟨put s.f o.dst undef, s.h, s.n, s.r, s.w, (0, 0) :: s.l⟩
/-- What was done last is not at odds with what was done ahead of it, but where it waits for it. -/
def odds (b r w : Nat) : Nat → List (Nat × Nat) → Bool
  | _, [] => true
  | j, x :: l => bif Nat.testBit b (Nat.pred j) || (Nat.beq (Nat.land w (Nat.lor x.1 x.2)) 0 && Nat.beq (Nat.land x.2 r) 0) then odds b r w (Nat.pred j) l else false
def drawn (bs : List Nat) : Nat → List (Nat × Nat) → Bool
  | _, [] => true
  | j, x :: l => bif odds (bs.getD (Nat.pred j) 0) x.1 x.2 (Nat.pred j) l then drawn bs (Nat.pred j) l else false
def res (P : Program) (fr : FT) (h : HT) : List ResultVar → Option (List Value × Nat)
  | [] => some ([], 0)
  | x :: l => (res P fr h l).bind fun y => match x with
    | .tmp t => some (fget fr t :: y.1, y.2)
    | .cell a t => (oLoad P t (.tmp a) fr h 0).bind fun z => some (z.v :: y.1, Nat.lor y.2 z.r)
def args' (fr : FT) : Nat → List Value → FT
  | _, [] => fr
  | i, v :: l => args' (fput fr i v) (Nat.succ i) l
def single (vs : List Value) : Value := match vs with
  | [v] => v
  | vs => .tuple vs.toArray
def ends (e : Exit) : Bool := match e with
  | .normal => true
  | .ret => true
  | _ => false
def callB (P : Program) (rn : Code → FT → HT → Nat → Option RC) (fn : Func) (c : Code) (args : List Value) (h : HT) (nx : Nat) : Option R5 :=
  (rn c (args' ⟨fn.ntmps, fe5, fe8⟩ 0 args) h nx).bind fun x => (res P x.f x.h fn.results.toList).bind fun y => bif ends x.e then some ⟨single y.1, x.h, x.n, Nat.lor x.r y.2, x.w⟩ else none
def fnok (fn : Func) (n : Nat) : Bool := Nat.ble n fn.ntmps && Nat.ble fn.ntmps 256 && !(fn.name == "runtime.NumGoroutine")
def call0 (P : Program) (rn : Code → FT → HT → Nat → Option RC) (f : Nat) (args : List Value) (h : HT) (nx : Nat) : Option R5 :=
  match P.funcs[f]? with
  | some fn => match fn.body with
    | some c => bif fnok fn args.length then callB P rn fn c args h nx else none
    | none => none
  | none => none
/-- Calls whose answers are known: those in a list, and functions that the model stands in for. -/
structure Tb where
  l : List En
  x : Nat → List Value → Option Value
def call (P : Program) (tb' : Tb) (rn : Code → FT → HT → Nat → Option RC) (f : Nat) (args : List Value) (h : HT) (nx : Nat) : Option R5 := match tb'.x f args with
  | some v => val h nx v
  | none => match find f args tb'.l with
    | some e => known e h nx
    | none => call0 P rn f args h nx
def orC (x : Option RC) (r w : Nat) : Option RC := x.bind fun x => force (Nat.lor r x.r) fun r => force (Nat.lor w x.w) fun w => some ⟨x.e, x.f, x.h, x.n, r, w⟩
def isN {α : Type} (e : Exit) (x y : α) : α := match e with
  | .normal => x
  | _ => y
def thenC (x : Option RC) (k : FT → HT → Nat → Option RC) : Option RC := x.bind fun x => isN x.e (orC (k x.f x.h x.n) x.r x.w) (some x)
def outE (id : Nat) (e : Exit) : Exit := match e with
  | .exit i => bif Nat.beq i id then .normal else .exit i
  | e => e
def inC (id : Nat) (x : Option RC) : Option RC := x.bind fun x => some ⟨outE id x.e, x.f, x.h, x.n, x.r, x.w⟩
/-- No two that do not wait for each other write a slot that the other looks at. -/
def tmpOf (x : Operand) : Nat := match x with
  | .tmp t => bit t
  | _ => 0
def lookT (ops : Array Oper) (o : Oper) : Nat := Nat.lor (o.op.operands.toList.foldl (fun m x => Nat.lor m (tmpOf x)) 0) (match o.guard with
  | none => 0
  | some (j, _) => match (ops[j]?).bind (·.dst) with
    | some t => bit t
    | none => 0)
def setT (o : Oper) : Nat := match o.dst with
  | some t => bit t
  | none => 0
def bef (ops : Array Oper) : List Nat := (Go.CheckFast.beforeF ops).toList
def edgesBack (ops : Array Oper) : Bool := (List.range ops.size).all fun i => match ops[i]? with
  | some o => o.after.all (fun e => !Region.binds .any e || decide (e.on < i))
  | none => true
def drawOk (ops : Array Oper) : Bool := edgesBack ops && drawn (bef ops) ops.size (ops.toList.reverse.map fun o => (lookT ops o, setT o))
def onG {α : Type} (e : Exit) (k : Nat → α) (d : α) : α := match e with
  | .goto l => k l
  | _ => d
/-- A scope's jumps, so many at most. -/
def jumps (rn : Code → FT → HT → Nat → Option RC) (c : Code) : Nat → Option RC → Option RC
  | 0, _ => none
  | m + 1, x => x.bind fun x => onG x.e (fun l => match findLabel c l with
    | some r => orC (jumps rn c m (rn r x.f x.h x.n)) x.r x.w
    | none => none) (some x)
def regC (ops : Array Oper) (draw : Bool) (x : Option RL) : Option RC := x.bind fun s => bif !draw || (drawOk ops && drawn (bef ops) ops.size s.l) then some ⟨.normal, s.f, s.h, s.n, s.r, s.w⟩ else none
def step (P : Program) (tb' : Tb) (rn : Code → FT → HT → Nat → Option RC) (c : Code) (fr : FT) (h : HT) (nx : Nat) : Option RC := match c with
  | .skip => some ⟨.normal, fr, h, nx, 0, 0⟩
  | .label _ => some ⟨.normal, fr, h, nx, 0, 0⟩
  | .ret => some ⟨.ret, fr, h, nx, 0, 0⟩
  | .exit i => some ⟨.exit i, fr, h, nx, 0, 0⟩
  | .seq a b => thenC (rn a fr h nx) (rn b)
  | .cond c a b => onB (evo fr c) (rn a fr h nx) (rn b fr h nx)
  | .block id a => inC id (rn a fr h nx)
  | .loop a => thenC (rn a fr h nx) (rn (.loop a))
  | .goto l => some ⟨.goto l, fr, h, nx, 0, 0⟩
  | .scope c => jumps rn c 100000 (rn c fr h nx)
  | .region _ ops draw => regC ops draw (opsL P (call P tb' rn) ops ops.toList ⟨fr, h, nx, 0, 0, []⟩)
  | _ => none
def run (P : Program) (tb' : Tb) : Nat → Code → FT → HT → Nat → Option RC
  | 0 => fun _ _ _ _ => none
  | n + 1 => step P tb' (run P tb' n)
/-- The number that an entry's block had. -/
def ix (ids : List Nat) (i : Nat) : Nat := (ids[i]?).getD 4096
def blocksOk (h : HT) (g : Nat → Nat) : List Nat → List (List Value) → Bool
  | [], l => match l with
    | [] => true
    | _ :: _ => false
  | i :: is, l => match l with
    | [] => false
    | b :: bs => match hget h i with
      | some cs => bif leq cs (sL g b) then blocksOk h g is bs else false
      | none => false
def apartL : List Nat → Bool
  | [] => true
  | i :: l => bif l.any (Nat.beq i) then false else apartL l
def entOk (x : Option R5) (ids : List Nat) (e : En) : Bool := match x with
  | some x => bif veq2 x.v (s2 (ix ids) e.v) then bif apartL ids && Nat.ble x.n 4096 && at2 e.v && e.bs.all (·.all at0) && e.args.all flat1 then blocksOk x.h (ix ids) ids e.bs else false else false
  | none => false
def isTrue (x : Option R5) : Bool := match x with
  | some x => match x.v with
    | .bool b => b
    | _ => false
  | none => false
end E
end Go.Proofs.YtfmfeipeeedfpaaGreat
namespace Go.Proofs.YtfmfeipeeedfpaaGreat
namespace E
open Go.CheckFast (force force_eq)
structure TLaw {α β : Type} (n : Nat) (g : α → Nat → β) (s : α → Nat → β → α) : Prop where
  same : ∀ p t v, t < n → g (s p t v) t = v
  other : ∀ p t u v, t < n → u < n → t ≠ u → g (s p t v) u = g p u
theorem gS_eq {α β : Type} (g : α → Nat → β) (p : α × α) (t : Nat) : gS g p t = if t % 2 = 0 then g p.1 (t / 2) else g p.2 (t / 2) := by
  unfold gS
  show Nat.casesOn (motive := fun _ => β) (t % 2) (g p.1 (t / 2)) (fun _ => g p.2 (t / 2)) = _
  cases h : t % 2 with
  | zero => rfl
  | succ n => rw [if_neg (by omega)]
theorem sS_eq {α β : Type} (s : α → Nat → β → α) (p : α × α) (t : Nat) (v : β) : sS s p t v = if t % 2 = 0 then (s p.1 (t / 2) v, p.2) else (p.1, s p.2 (t / 2) v) := by
  unfold sS
  show Nat.casesOn (motive := fun _ => α × α) (t % 2) (s p.1 (t / 2) v, p.2) (fun _ => (p.1, s p.2 (t / 2) v)) = _
  cases h : t % 2 with
  | zero => rfl
  | succ n => rw [if_neg (by omega)]
theorem TLaw.up {α β : Type} {n : Nat} {g : α → Nat → β} {s : α → Nat → β → α} (h : TLaw n g s) : TLaw (2 * n) (gS g) (sS s) where
  same := fun p t v ht => by
    rw [gS_eq, sS_eq]
    by_cases e : t % 2 = 0
    · simp only [e, if_true]; exact h.same _ _ _ (by omega)
    · simp only [e, if_false]; exact h.same _ _ _ (by omega)
  other := fun p t u v ht hu hne => by
    rw [gS_eq, sS_eq, gS_eq]
    by_cases e : t % 2 = 0 <;> by_cases e' : u % 2 = 0
    · simp only [e, e', if_true]; exact h.other _ _ _ _ (by omega) (by omega) (by omega)
    · simp only [e, e', if_true, if_false]
    · simp only [e, e', if_true, if_false]
    · simp only [e, e', if_false]; exact h.other _ _ _ _ (by omega) (by omega) (by omega)
theorem fl0 : TLaw 1 fg0 fs0 := ⟨fun _ _ _ _ => rfl, fun _ t u _ ht hu hne => absurd (show t = u by omega) hne⟩
theorem hl0 : TLaw 1 hg0 hs0 := ⟨fun _ _ _ _ => rfl, fun _ t u _ ht hu hne => absurd (show t = u by omega) hne⟩
theorem fl5 : TLaw 32 fg5 fs5 := fl0.up.up.up.up.up
theorem fl8 : TLaw 256 fg8 fs8 := fl5.up.up.up
theorem hl12 : TLaw 4096 hg12 hs12 := hl0.up.up.up.up.up.up.up.up.up.up.up.up
theorem gS_const {α β : Type} {g : α → Nat → β} {e : α} {v : β} (h : ∀ t, g e t = v) (t : Nat) : gS g (e, e) t = v := by
  rw [gS_eq]; split <;> exact h _
theorem fe5_get : ∀ t, fg5 fe5 t = undef := gS_const (gS_const (gS_const (gS_const (gS_const fun _ => rfl))))
theorem fe8_get : ∀ t, fg8 fe8 t = undef := gS_const (gS_const (gS_const fe5_get))
theorem he12_get : ∀ t, hg12 he12 t = none := gS_const (gS_const (gS_const (gS_const (gS_const (gS_const (gS_const (gS_const (gS_const (gS_const (gS_const (gS_const fun _ => rfl)))))))))))
theorem blt_t {a b : Nat} (h : a < b) : Nat.blt a b = true := by rw [Nat.blt_eq]; exact h
theorem blt_f {a b : Nat} (h : ¬ a < b) : Nat.blt a b = false := by
  cases e : Nat.blt a b with
  | false => rfl
  | true => rw [Nat.blt_eq] at e; exact absurd e h
theorem fget_new (m t : Nat) : fget ⟨m, fe5, fe8⟩ t = undef := by
  unfold fget
  cases Nat.blt t 32 with
  | true => exact fe5_get t
  | false => cases Nat.blt t 256 with
    | true => exact fe8_get t
    | false => rfl
theorem fput_m (f : FT) (t : Nat) (v : Value) : (fput f t v).m = f.m := by
  unfold fput; cases Nat.blt t f.m <;> cases Nat.blt t 32 <;> rfl
theorem fget_same {f : FT} {t : Nat} (v : Value) (hm : f.m ≤ 256) (ht : t < f.m) : fget (fput f t v) t = v := by
  unfold fget fput
  rw [blt_t ht]
  by_cases h : t < 32
  · rw [blt_t h]; exact fl5.same _ _ _ h
  · rw [blt_f h, blt_t (show t < 256 by omega)]; exact fl8.same _ _ _ (by omega)
theorem fget_ne {f : FT} {t u : Nat} (v : Value) (hm : f.m ≤ 256) (h : t ≠ u) : fget (fput f t v) u = fget f u := by
  unfold fput
  by_cases ht : t < f.m
  · rw [blt_t ht]
    unfold fget
    by_cases h3 : t < 32 <;> by_cases h4 : u < 32
    · rw [blt_t h3, blt_t h4]; exact fl5.other _ _ _ _ h3 h4 h
    · rw [blt_t h3, blt_f h4]; rfl
    · rw [blt_f h3, blt_t h4]; rfl
    · rw [blt_f h3, blt_f h4]
      by_cases h5 : u < 256
      · rw [blt_t h5]; exact fl8.other _ _ _ _ (by omega) h5 h
      · rw [blt_f h5]; rfl
  · rw [blt_f ht]; rfl
theorem hget_same {h : HT} {i : Nat} (c : Option (List Value)) (hi : i < 4096) : hget (hs12 h i c) i = c := by
  unfold hget; rw [blt_t hi]; exact hl12.same _ _ _ hi
theorem hget_ne {h : HT} {i j : Nat} (c : Option (List Value)) (hi : i < 4096) (hj : i ≠ j) : hget (hs12 h i c) j = hget h j := by
  unfold hget
  by_cases h2 : j < 4096
  · rw [blt_t h2]; exact hl12.other _ _ _ _ hi h2 hj
  · rw [blt_f h2]; rfl
theorem hget_new (i : Nat) : hget he12 i = none := by
  unfold hget; cases Nat.blt i 4096 with
  | true => exact he12_get i
  | false => rfl
theorem hget_lt {h : HT} {i : Nat} {c : List Value} (e : hget h i = some c) : i < 4096 := by
  unfold hget at e
  by_cases h2 : i < 4096
  · exact h2
  · rw [blt_f h2] at e; cases e
/-! Values. -/
/-- Own numbers of blocks, where they lie, and how many cells they have. -/
abbrev K := Nat → Option (Nat × Nat)
def V0 (k : K) (v u : Value) : Prop := match v with
  | .pointer (some a) => a.spot = none ∧ ∃ b z, k a.block = some (b, z + 1) ∧ u = .pointer (some ⟨b, a.off, none⟩)
  | .slice (some a) n e => a.spot = none ∧ ∃ b z c, k a.block = some (b, z + 1) ∧ u = .slice (some ⟨b, a.off, none⟩) n c ∧ n ≤ c ∧ a.off + c * e ≤ z
  | .chan (some _) => True
  | .agg _ => False
  | .tuple _ => False
  | .func _ _ _ => False
  | .iface _ _ => False
  | .map (some i) => ∃ b, k i = some (b, 0) ∧ u = .map (some b)
  | v => u = v
def LR (R : Value → Value → Prop) : List Value → List Value → Prop
  | [], l => l = []
  | x :: xs, l => ∃ y ys, l = y :: ys ∧ R x y ∧ LR R xs ys
def VR (k : K) : Nat → Value → Value → Prop
  | 0 => V0 k
  | d + 1 => fun v u => match v with
    | .agg cs => ∃ us : Array Value, u = .agg us ∧ LR (VR k d) cs.toList us.toList
    | .tuple cs => ∃ us : Array Value, u = .tuple us ∧ LR (VR k d) cs.toList us.toList
    | .func f a c => ∃ a' c' : Array Value, u = .func f a' c' ∧ LR (VR k d) a.toList a'.toList ∧ LR (VR k d) c.toList c'.toList
    | v => V0 k v u
def VX (k : K) (v u : Value) : Prop := ∃ d, VR k d v u
theorem LR.mono {R S : Value → Value → Prop} (h : ∀ v u, R v u → S v u) : ∀ l m, LR R l m → LR S l m
  | [], _, e => e
  | _ :: xs, _, ⟨y, ys, e, r, q⟩ => ⟨y, ys, e, h _ _ r, LR.mono h xs ys q⟩
theorem VR.up {k : K} : ∀ d v u, VR k d v u → VR k (d + 1) v u
  | 0, v, u, h => by
    cases v <;> first | exact h | exact (h : False).elim
  | d + 1, v, u, h => by
    cases v with
    | agg cs => obtain ⟨us, e, l⟩ := h; exact ⟨us, e, LR.mono (VR.up d) _ _ l⟩
    | tuple cs => obtain ⟨us, e, l⟩ := h; exact ⟨us, e, LR.mono (VR.up d) _ _ l⟩
    | func f a c => obtain ⟨us, us', e, l, l'⟩ := h; exact ⟨us, us', e, LR.mono (VR.up d) _ _ l, LR.mono (VR.up d) _ _ l'⟩
    | _ => exact h
theorem VR.le {k : K} {d e : Nat} (h : d ≤ e) {v u : Value} (r : VR k d v u) : VR k e v u := by
  induction h with
  | refl => exact r
  | step _ ih => exact VR.up _ _ _ ih
theorem V0.mono {k k' : K} (h : ∀ i p, k i = some p → k' i = some p) {v u : Value} (r : V0 k v u) : V0 k' v u := by
  cases v with
  | pointer a => cases a with
    | none => exact r
    | some a => obtain ⟨s, b, z, e, r⟩ := r; exact ⟨s, b, z, h _ _ e, r⟩
  | slice a n c => cases a with
    | none => exact r
    | some a => obtain ⟨s, b, z, c, e, r⟩ := r; exact ⟨s, b, z, c, h _ _ e, r⟩
  | chan a => cases a <;> exact r
  | map a => cases a with
    | none => exact r
    | some a => obtain ⟨b, e, r⟩ := r; exact ⟨b, h _ _ e, r⟩
  | _ => exact r
theorem VR.mono {k k' : K} (h : ∀ i p, k i = some p → k' i = some p) : ∀ d v u, VR k d v u → VR k' d v u
  | 0, _, _, r => V0.mono h r
  | d + 1, v, u, r => by
    cases v with
    | agg cs => obtain ⟨us, e, l⟩ := r; exact ⟨us, e, LR.mono (VR.mono h d) _ _ l⟩
    | tuple cs => obtain ⟨us, e, l⟩ := r; exact ⟨us, e, LR.mono (VR.mono h d) _ _ l⟩
    | func f a c => obtain ⟨us, us', e, l, l'⟩ := r; exact ⟨us, us', e, LR.mono (VR.mono h d) _ _ l, LR.mono (VR.mono h d) _ _ l'⟩
    | pointer a => exact V0.mono (v := .pointer a) h r
    | slice a n c => exact V0.mono (v := .slice a n c) h r
    | chan a => exact V0.mono (v := .chan a) h r
    | map a => exact V0.mono (v := .map a) h r
    | _ => exact r
theorem VX.mono {k k' : K} (h : ∀ i p, k i = some p → k' i = some p) {v u : Value} (r : VX k v u) : VX k' v u := ⟨r.choose, VR.mono h _ _ _ r.choose_spec⟩
theorem LX.mono {k k' : K} (h : ∀ i p, k i = some p → k' i = some p) {l m : List Value} (r : LR (VX k) l m) : LR (VX k') l m := LR.mono (fun _ _ => VX.mono h) _ _ r
/-- One depth for all. -/
theorem LR.deep {k : K} : ∀ l m, LR (VX k) l m → ∃ d, LR (VR k d) l m
  | [], _, e => ⟨0, e⟩
  | x :: xs, _, ⟨y, ys, e, ⟨d, r⟩, q⟩ => by
    obtain ⟨d', q'⟩ := LR.deep xs ys q
    exact ⟨max d d', y, ys, e, VR.le (by omega) r, LR.mono (fun _ _ => VR.le (by omega)) _ _ q'⟩
theorem LR.flat {k : K} {d : Nat} {l m : List Value} (h : LR (VR k d) l m) : LR (VX k) l m := LR.mono (fun _ _ r => ⟨d, r⟩) _ _ h
theorem VX.agg {k : K} {cs us : List Value} (h : LR (VX k) cs us) : VX k (.agg cs.toArray) (.agg us.toArray) := by
  obtain ⟨d, h⟩ := LR.deep _ _ h; exact ⟨d + 1, _, rfl, by simpa using h⟩
theorem VX.tuple {k : K} {cs us : List Value} (h : LR (VX k) cs us) : VX k (.tuple cs.toArray) (.tuple us.toArray) := by
  obtain ⟨d, h⟩ := LR.deep _ _ h; exact ⟨d + 1, _, rfl, by simpa using h⟩
theorem VX.func {k : K} {f : Fn} {cs us : List Value} (h : LR (VX k) cs us) : VX k (.func f #[] cs.toArray) (.func f #[] us.toArray) := by
  obtain ⟨d, h⟩ := LR.deep _ _ h; exact ⟨d + 1, _, _, rfl, by simp [LR], by simpa using h⟩
theorem VX.agg_inv {k : K} {cs : Array Value} {u : Value} (h : VX k (.agg cs) u) : ∃ us : List Value, u = .agg us.toArray ∧ LR (VX k) cs.toList us := by
  obtain ⟨d, h⟩ := h
  cases d with
  | zero => exact (h : False).elim
  | succ d => obtain ⟨us, e, l⟩ := h; exact ⟨us.toList, by simpa using e, l.flat⟩
theorem VX.tuple_inv {k : K} {cs : Array Value} {u : Value} (h : VX k (.tuple cs) u) : ∃ us : List Value, u = .tuple us.toArray ∧ LR (VX k) cs.toList us := by
  obtain ⟨d, h⟩ := h
  cases d with
  | zero => exact (h : False).elim
  | succ d => obtain ⟨us, e, l⟩ := h; exact ⟨us.toList, by simpa using e, l.flat⟩
theorem VX.func_inv {k : K} {f : Fn} {a c : Array Value} {u : Value} (h : VX k (.func f a c) u) : ∃ a' c' : List Value, u = .func f a'.toArray c'.toArray ∧ LR (VX k) a.toList a' ∧ LR (VX k) c.toList c' := by
  obtain ⟨d, h⟩ := h
  cases d with
  | zero => exact (h : False).elim
  | succ d => obtain ⟨us, us', e, l, l'⟩ := h; exact ⟨us.toList, us'.toList, by simpa using e, l.flat, l'.flat⟩
/-- Values without parts. -/
theorem VX.v0 {k : K} {v u : Value} (h : VX k v u) (hv : match v with | .agg _ => False | .tuple _ => False | .func _ _ _ => False | _ => True) : V0 k v u := by
  obtain ⟨d, h⟩ := h
  cases d with
  | zero => exact h
  | succ d => cases v <;> first | exact hv.elim | exact h
theorem VX.of0 {k : K} {v u : Value} (h : V0 k v u) : VX k v u := ⟨0, h⟩
theorem VX.ptr_inv {k : K} {a : Addr} {u : Value} (h : VX k (.pointer (some a)) u) : a.spot = none ∧ ∃ b z, k a.block = some (b, z + 1) ∧ u = .pointer (some ⟨b, a.off, none⟩) := h.v0 trivial
theorem VX.slc_inv {k : K} {a : Addr} {n e : Nat} {u : Value} (h : VX k (.slice (some a) n e) u) : a.spot = none ∧ ∃ b z c, k a.block = some (b, z + 1) ∧ u = .slice (some ⟨b, a.off, none⟩) n c ∧ n ≤ c ∧ a.off + c * e ≤ z := h.v0 trivial
theorem VX.map_inv {k : K} {i : Nat} {u : Value} (h : VX k (.map (some i)) u) : ∃ b, k i = some (b, 0) ∧ u = .map (some b) := h.v0 trivial
theorem VX.int_inv {k : K} {a : IntKind} {b : Int} {u : Value} (h : VX k (.int a b) u) : u = .int a b := h.v0 trivial
theorem VX.bool_inv {k : K} {b : Bool} {u : Value} (h : VX k (.bool b) u) : u = .bool b := h.v0 trivial
theorem VX.str_inv {k : K} {b : ByteArray} {u : Value} (h : VX k (.string b) u) : u = .string b := h.v0 trivial
theorem VX.nilslc_inv {k : K} {n c : Nat} {u : Value} (h : VX k (.slice none n c) u) : u = .slice none n c := h.v0 trivial
theorem flat1_eq {k : K} {v u : Value} (h : VX k v u) (hf : flat1 v = true) : u = v := by
  cases v <;> first | exact h.int_inv | exact h.bool_inv | exact h.str_inv | cases hf
theorem flatL_eq {k : K} : ∀ {l m : List Value}, LR (VX k) l m → l.all flat1 = true → m = l
  | [], _, e, _ => e
  | x :: xs, _, ⟨y, ys, e, r, q⟩, hf => by
    simp only [List.all_cons, Bool.and_eq_true] at hf
    rw [e, flat1_eq r hf.1, flatL_eq q hf.2]
theorem flat_eq {k : K} {v u : Value} (h : VX k v u) (hf : flat v = true) : u = v := by
  cases v with
  | agg cs =>
    obtain ⟨us, e, l⟩ := h.agg_inv
    rw [e, flatL_eq l hf]
  | _ => exact flat1_eq h hf
theorem flat1_vx {k : K} {v : Value} (hf : flat1 v = true) : VX k v v := by
  cases v <;> first | exact VX.of0 rfl | cases hf
theorem cok1_vx {k : K} {v : Value} (hf : cok1 v = true) : VX k v v := by
  cases v with
  | pointer a => cases a <;> first | exact VX.of0 rfl | cases hf
  | slice a _ _ => cases a <;> first | exact VX.of0 rfl | cases hf
  | map a => cases a <;> first | exact VX.of0 rfl | cases hf
  | _ => first | exact VX.of0 rfl | cases hf
theorem cokL_vx {k : K} : ∀ {l : List Value}, l.all cok1 = true → LR (VX k) l l
  | [], _ => rfl
  | x :: xs, hf => by
    simp only [List.all_cons, Bool.and_eq_true] at hf
    exact ⟨x, xs, rfl, cok1_vx hf.1, cokL_vx hf.2⟩
theorem cok_vx {k : K} {v : Value} (hf : cok v = true) : VX k v v := by
  cases v with
  | agg cs => have := VX.agg (cokL_vx (k := k) (l := cs.toList) hf); simpa using this
  | _ => exact cok1_vx hf
theorem unk_vx {k : K} {u : Value} : VX k unk u := VX.of0 trivial
theorem undef_vx {k : K} : VX k undef undef := VX.tuple (cs := []) (us := []) rfl
end E
end Go.Proofs.YtfmfeipeeedfpaaGreat
namespace Go.Proofs.YtfmfeipeeedfpaaGreat
namespace E
open Go.CheckFast (force force_eq)
def tb (m i : Nat) : Prop := m.testBit i = true
theorem tb_or {a b i : Nat} : tb (Nat.lor a b) i ↔ tb a i ∨ tb b i := by
  unfold tb
  show (a ||| b).testBit i = true ↔ _
  rw [Nat.testBit_or, Bool.or_eq_true]
theorem tb_zero {i : Nat} : ¬ tb 0 i := by unfold tb; simp
theorem tb_bit {i j : Nat} : tb (bit i) j ↔ i = j := by
  unfold tb bit
  show (1 <<< i).testBit j = true ↔ _
  rw [Nat.one_shiftLeft, Nat.testBit_two_pow]
  simp
def live (h : HT) (i : Nat) : Prop := ∃ cs, hget h i = some cs
theorem not_live {h : HT} {i : Nat} (e : hget h i = none) : ¬ live h i := fun ⟨cs, h'⟩ => by rw [e] at h'; cases h'
/-- Keys and values of a map, one behind the other. -/
def kvs (es : Array MapEntry) : List Value := es.toList.flatMap fun e => [e.key, e.val]
/-- A map as it is made and filled: each entry bears its place. -/
def MapAt (W : World) (b : Nat) (es : Array MapEntry) : Prop := W.heap[b]? = some (.map es es.size) ∧ ∀ (j : Nat) (e : MapEntry), es[j]? = some e → e.born = j
/-- A block lies there: cells, or a map. -/
def RB (k : K) (W : World) (i : Nat) (cs : List Value) : Prop :=
  (∃ b us sp ty, k i = some (b, us.length + sp.length + 1) ∧ W.heap[b]? = some (.cells (us ++ sp).toArray ty (0, 0)) ∧ LR (VX k) cs us) ∨
  (∃ b es, k i = some (b, 0) ∧ MapAt W b es ∧ LR (VX k) cs (kvs es))
theorem RB.cel {k : K} {W : World} {i : Nat} {cs : List Value} {b' z : Nat} (h : RB k W i cs) (hk : k i = some (b', z + 1)) : ∃ b us sp ty, k i = some (b, us.length + sp.length + 1) ∧ W.heap[b]? = some (.cells (us ++ sp).toArray ty (0, 0)) ∧ LR (VX k) cs us := by
  rcases h with h | ⟨b, es, e, _⟩
  · exact h
  · rw [hk] at e; cases e
theorem RB.map {k : K} {W : World} {i : Nat} {cs : List Value} {b : Nat} (h : RB k W i cs) (hk : k i = some (b, 0)) : ∃ es, MapAt W b es ∧ LR (VX k) cs (kvs es) := by
  rcases h with ⟨b', us, sp, ty, e, _⟩ | ⟨b', es, e, h1, h2⟩
  · rw [hk] at e; cases e
  · rw [hk] at e; cases e; exact ⟨es, h1, h2⟩
theorem RB.blk {k : K} {W : World} {i : Nat} {cs : List Value} (h : RB k W i cs) : ∃ b z o, k i = some (b, z) ∧ W.heap[b]? = some o := by
  rcases h with ⟨b, us, sp, ty, e, h, _⟩ | ⟨b, es, e, h, _⟩
  · exact ⟨b, _, _, e, h⟩
  · exact ⟨b, _, _, e, h.1⟩
theorem RB.mono {k k' : K} {W W' : World} {i j : Nat} {cs cs' : List Value} (h : RB k W i cs) (hk : ∀ p, k i = some p → k' j = some p) (hW : ∀ b z, k i = some (b, z) → b < W.heap.size → W'.heap[b]? = W.heap[b]?) (hl : ∀ us, LR (VX k) cs us → LR (VX k') cs' us) : RB k' W' j cs' := by
  rcases h with ⟨b, us, sp, ty, e, h, l⟩ | ⟨b, es, e, h, l⟩
  · exact Or.inl ⟨b, us, sp, ty, hk _ e, by rw [hW b _ e (Array.getElem?_eq_some_iff.1 h).1]; exact h, hl _ l⟩
  · exact Or.inr ⟨b, es, hk _ e, ⟨by rw [hW b _ e (Array.getElem?_eq_some_iff.1 h.1).1]; exact h.1, h.2⟩, hl _ l⟩
def Rp (k : K) (h : HT) (W : World) (i : Nat) : Prop := ∀ cs, hget h i = some cs → RB k W i cs
structure HR (k : K) (h : HT) (W : World) (m : Nat) : Prop where
  rep : ∀ i, tb m i → Rp k h W i
  inj : ∀ i j, tb m i → tb m j → live h i → live h j → i ≠ j → ∀ b z b' z', k i = some (b, z) → k j = some (b', z') → b ≠ b'
theorem HR.sub {k : K} {h : HT} {W : World} {m m' : Nat} (H : HR k h W m) (s : ∀ i, tb m' i → tb m i) : HR k h W m' :=
  ⟨fun i hi => H.rep i (s i hi), fun i j hi hj => H.inj i j (s i hi) (s j hj)⟩
theorem HR.none {k : K} {h : HT} {W : World} : HR k h W 0 := ⟨fun _ h => absurd h tb_zero, fun _ _ h => absurd h tb_zero⟩
theorem Rp.lt {k : K} {h : HT} {W : World} {i : Nat} (r : Rp k h W i) (l : live h i) : ∃ b z, k i = some (b, z) ∧ b < W.heap.size := by
  obtain ⟨cs, e⟩ := l
  obtain ⟨b, z, o, h1, h2⟩ := (r cs e).blk
  exact ⟨b, _, h1, (Array.getElem?_eq_some_iff.1 h2).1⟩
/-- What is done, by itself. -/
structure Ss (h : HT) (n : Nat) (h' : HT) (n' r w : Nat) : Prop where
  le : n ≤ n'
  nn : (∀ i, n ≤ i → hget h i = Option.none) → ∀ i, n' ≤ i → hget h' i = Option.none
  same : ∀ i, ¬ tb w i → hget h' i = hget h i
  old : ∀ i, tb w i → i < n → tb r i
  lt : ∀ i, tb w i → i < n'
  back : ∀ i, i < n → live h' i → live h i
/-- The tape as it was; draws go on. -/
def Tp (W' W : World) : Prop := W'.tape = W.tape ∧ W.drawn ≤ W'.drawn
theorem Tp.trans {A B C : World} (h : Tp A B) (g : Tp B C) : Tp A C := ⟨h.1.trans g.1, Nat.le_trans g.2 h.2⟩
/-- What is done to a world. -/
structure Sd (h : HT) (n : Nat) (h' : HT) (n' r w : Nat) (k : K) (W : World) (k' : K) (W' : World) : Prop where
  ext : ∀ i p, k i = some p → k' i = some p
  dom : ∀ i, i < n ∨ n' ≤ i → k' i = k i
  rep : HR k' h' W' (Nat.lor r w)
  frm : ∀ b, b < W.heap.size → (∀ j z, tb w j → live h j → k j ≠ some (b, z)) → W'.heap[b]? = W.heap[b]?
  fresh : ∀ i b z, n ≤ i → i < n' → live h' i → k' i = some (b, z) → W.heap.size ≤ b ∨ ∃ j z', tb w j ∧ j < n ∧ live h j ∧ ¬ live h' j ∧ k j = some (b, z')
  size : W.heap.size ≤ W'.heap.size
  os : W'.os = W.os
  tape : Tp W' W
  output : W'.output = W.output
  fz : ∀ a, W'.frozen? a = W.frozen? a
theorem Ss.refl (h : HT) (n : Nat) : Ss h n h n 0 0 := ⟨Nat.le_refl _, fun h => h, fun _ _ => rfl, fun _ h => absurd h tb_zero, fun _ h => absurd h tb_zero, fun _ _ h => h⟩
theorem Sd.refl (h : HT) (n : Nat) (k : K) (W : World) : Sd h n h n 0 0 k W k W :=
  ⟨fun _ _ h => h, fun _ _ => rfl, HR.none, fun _ _ _ => rfl, fun _ _ _ h1 h2 => absurd h2 (by omega), Nat.le_refl _, rfl, ⟨rfl, Nat.le_refl _⟩, rfl, fun _ => rfl⟩
theorem Ss.trans {h h1 h2 : HT} {n n1 n2 r1 w1 r2 w2 : Nat} (s : Ss h n h1 n1 r1 w1) (t : Ss h1 n1 h2 n2 r2 w2) : Ss h n h2 n2 (Nat.lor r1 r2) (Nat.lor w1 w2) where
  le := Nat.le_trans s.le t.le
  nn := fun h => t.nn (s.nn h)
  same := fun i hi => by rw [tb_or] at hi; rw [t.same i (fun h => hi (Or.inr h)), s.same i (fun h => hi (Or.inl h))]
  old := fun i hi hn => by
    rw [tb_or] at hi ⊢
    rcases hi with hi | hi
    · exact Or.inl (s.old i hi hn)
    · exact Or.inr (t.old i hi (Nat.lt_of_lt_of_le hn s.le))
  lt := fun i hi => by
    rw [tb_or] at hi
    rcases hi with hi | hi
    · exact Nat.lt_of_lt_of_le (s.lt i hi) t.le
    · exact t.lt i hi
  back := fun i hi hl => s.back i hi (t.back i (Nat.lt_of_lt_of_le hi s.le) hl)
section
variable {h h1 h2 : HT} {n n1 n2 r1 w1 r2 w2 x : Nat} {k k1 k2 : K} {W W1 W2 : World}
/-- Blocks that were not looked at stay beside those that were. -/
theorem Sd.next (s : Ss h n h1 n1 r1 w1) (d : Sd h n h1 n1 r1 w1 k W k1 W1) (nn : ∀ i, n ≤ i → hget h i = Option.none) (H : HR k h W (Nat.lor r1 x)) : HR k1 h1 W1 (Nat.lor (Nat.lor r1 w1) x) := by
  have lo : ∀ j, live h j → j < n := fun j hl => by
    rcases Nat.lt_or_ge j n with h' | h'
    · exact h'
    · exact absurd hl (not_live (nn j h'))
  have lo1 : ∀ j, live h1 j → j < n1 := fun j hl => by
    rcases Nat.lt_or_ge j n1 with h' | h'
    · exact h'
    · exact absurd hl (not_live (s.nn nn j h'))
  -- one that was not looked at, against one that was
  have mix : ∀ i j, ¬ tb (Nat.lor r1 w1) i → tb x i → (tb (Nat.lor r1 w1) j ∨ tb x j) → live h1 i → live h1 j → i ≠ j → ∀ b z b' z', k1 i = some (b, z) → k1 j = some (b', z') → b ≠ b' := by
    intro i j hi hxi hj li lj hne b z b' z' ki kj
    have hiw : ¬ tb w1 i := fun h => hi (tb_or.2 (Or.inr h))
    have li0 : live h i := by obtain ⟨cs, e⟩ := li; exact ⟨cs, by rw [← s.same i hiw]; exact e⟩
    have hin := lo i li0
    have ki0 : k i = some (b, z) := by rw [← d.dom i (Or.inl hin)]; exact ki
    rcases Nat.lt_or_ge j n with hjn | hjn
    · have lj0 := s.back j hjn lj
      have kj0 : k j = some (b', z') := by rw [← d.dom j (Or.inl hjn)]; exact kj
      refine H.inj i j (tb_or.2 (Or.inr hxi)) ?_ li0 lj0 hne b z b' z' ki0 kj0
      rcases hj with hj | hj
      · rcases tb_or.1 hj with hj | hj
        · exact tb_or.2 (Or.inl hj)
        · exact tb_or.2 (Or.inl (s.old j hj hjn))
      · exact tb_or.2 (Or.inr hj)
    · rcases d.fresh j b' z' hjn (lo1 j lj) lj kj with hb | ⟨j0, z0, hw0, hn0, hl0, _, hk0⟩
      · obtain ⟨b2, z2, e2, hlt⟩ := (H.rep i (tb_or.2 (Or.inr hxi))).lt li0
        rw [ki0] at e2; cases e2
        omega
      · exact H.inj i j0 (tb_or.2 (Or.inr hxi)) (tb_or.2 (Or.inl (s.old j0 hw0 hn0))) li0 hl0 (fun e => hiw (e ▸ hw0)) b z b' z0 ki0 hk0
  refine ⟨fun i hi => ?_, fun i j hi hj li lj hne b z b' z' ki kj => ?_⟩
  · by_cases hin : tb (Nat.lor r1 w1) i
    · exact d.rep.rep i hin
    · have hxi : tb x i := (tb_or.1 hi).resolve_left hin
      have hiw : ¬ tb w1 i := fun h => hin (tb_or.2 (Or.inr h))
      intro cs e
      rw [s.same i hiw] at e
      refine (H.rep i (tb_or.2 (Or.inr hxi)) cs e).mono (d.ext i) (fun b z e1 hb => ?_) (fun us => LX.mono d.ext)
      refine d.frm b hb (fun j z hj hl hk => ?_)
      exact H.inj i j (tb_or.2 (Or.inr hxi)) (tb_or.2 (Or.inl (s.old j hj (lo j hl)))) ⟨cs, e⟩ hl (fun e => hiw (e ▸ hj)) _ _ _ _ e1 hk rfl
  · by_cases hi' : tb (Nat.lor r1 w1) i
    · by_cases hj' : tb (Nat.lor r1 w1) j
      · exact d.rep.inj i j hi' hj' li lj hne b z b' z' ki kj
      · exact fun e => mix j i hj' ((tb_or.1 hj).resolve_left hj') (Or.inl hi') lj li (Ne.symm hne) b' z' b z kj ki e.symm
    · exact mix i j hi' ((tb_or.1 hi).resolve_left hi') (tb_or.1 hj) li lj hne b z b' z' ki kj
theorem Sd.trans (s : Ss h n h1 n1 r1 w1) (d : Sd h n h1 n1 r1 w1 k W k1 W1) (t : Ss h1 n1 h2 n2 r2 w2) (e : Sd h1 n1 h2 n2 r2 w2 k1 W1 k2 W2) (nn : ∀ i, n ≤ i → hget h i = Option.none) (H : HR k h W (Nat.lor r1 r2)) :
    Sd h n h2 n2 (Nat.lor r1 r2) (Nat.lor w1 w2) k W k2 W2 where
  ext := fun i p hp => e.ext i p (d.ext i p hp)
  dom := fun i hi => by
    have := s.le; have := t.le
    rw [e.dom i (by omega), d.dom i (by omega)]
  rep := by
    have H1 := Sd.next s d nn H
    have H2 := Sd.next (x := Nat.lor r1 w1) t e (s.nn nn) (H1.sub fun i hi => by rw [tb_or] at hi ⊢; exact hi.symm)
    refine H2.sub fun i hi => ?_
    simp only [tb_or] at hi ⊢
    rcases hi with (h | h) | (h | h)
    · exact Or.inr (Or.inl h)
    · exact Or.inl (Or.inl h)
    · exact Or.inr (Or.inr h)
    · exact Or.inl (Or.inr h)
  frm := fun b hb hj => by
    rw [e.frm b (Nat.lt_of_lt_of_le hb d.size) (fun j z hw hl hk => ?_), d.frm b hb (fun j z hw hl => hj j z (tb_or.2 (Or.inl hw)) hl)]
    rcases Nat.lt_or_ge j n with hjn | hjn
    · exact hj j z (tb_or.2 (Or.inr hw)) (s.back j hjn hl) (by rw [← d.dom j (Or.inl hjn)]; exact hk)
    · have hj1 : j < n1 := by
        rcases Nat.lt_or_ge j n1 with h' | h'
        · exact h'
        · exact absurd hl (not_live (s.nn nn j h'))
      rcases d.fresh j b z hjn hj1 hl hk with h' | ⟨j0, z0, a1, a2, a3, _, a5⟩
      · omega
      · exact hj j0 z0 (tb_or.2 (Or.inl a1)) a3 a5
  fresh := fun i b z hi hi2 hl hk => by
    rcases Nat.lt_or_ge i n1 with h1' | h1'
    · have hk1 : k1 i = some (b, z) := by rw [← e.dom i (Or.inl h1')]; exact hk
      rcases d.fresh i b z hi h1' (t.back i h1' hl) hk1 with h' | ⟨j0, z0, a1, a2, a3, a4, a5⟩
      · exact Or.inl h'
      · exact Or.inr ⟨j0, z0, tb_or.2 (Or.inl a1), a2, a3, fun h => a4 (t.back j0 (Nat.lt_of_lt_of_le a2 s.le) h), a5⟩
    · rcases e.fresh i b z h1' hi2 hl hk with h' | ⟨j, z', b1, b2, b3, b4, b5⟩
      · exact Or.inl (Nat.le_trans d.size h')
      · rcases Nat.lt_or_ge j n with hjn | hjn
        · exact Or.inr ⟨j, z', tb_or.2 (Or.inr b1), hjn, s.back j hjn b3, b4, by rw [← d.dom j (Or.inl hjn)]; exact b5⟩
        · rcases d.fresh j b z' hjn b2 b3 b5 with h' | ⟨j0, z0, a1, a2, a3, a4, a5⟩
          · exact Or.inl h'
          · exact Or.inr ⟨j0, z0, tb_or.2 (Or.inl a1), a2, a3, fun h => a4 (t.back j0 (Nat.lt_of_lt_of_le a2 s.le) h), a5⟩
  size := Nat.le_trans d.size e.size
  os := e.os.trans d.os
  tape := e.tape.trans d.tape
  output := e.output.trans d.output
  fz := fun a => (e.fz a).trans (d.fz a)
end
end E
end Go.Proofs.YtfmfeipeeedfpaaGreat
namespace Go.Proofs.YtfmfeipeeedfpaaGreat
namespace E
open Go.CheckFast (force force_eq)
theorem bind_some {α β : Type} {x : Option α} {f : α → Option β} {b : β} (h : x.bind f = some b) : ∃ a, x = some a ∧ f a = some b := by
  cases x with
  | none => cases h
  | some a => exact ⟨a, rfl, h⟩
theorem bif_some {β : Type} {c : Bool} {x : Option β} {b : β} (h : (bif c then x else none) = some b) : c = true ∧ x = some b := by
  cases c with
  | false => cases h
  | true => exact ⟨rfl, h⟩
theorem force_some {β : Type} {n : Nat} {f : Nat → Option β} {b : β} (h : force n f = some b) : f n = some b := by rw [force_eq] at h; exact h
theorem onI_some {α : Type} {v : Value} {f : IntKind → Int → Option α} {x : α} (h : onI v f = some x) : ∃ a b, v = .int a b ∧ f a b = some x := by
  cases v <;> first | exact ⟨_, _, rfl, h⟩ | cases h
theorem onP_some {α : Type} {v : Value} {f : Nat → Nat → Option α} {x : α} (h : onP v f = some x) : ∃ b o, v = .pointer (some ⟨b, o, none⟩) ∧ f b o = some x := by
  unfold onP at h
  split at h
  · exact ⟨_, _, rfl, h⟩
  · cases h
theorem onS_some {α : Type} {v : Value} {f : Nat → Nat → Nat → Nat → Option α} {x : α} (h : onS v f = some x) : ∃ b o n e, v = .slice (some ⟨b, o, none⟩) n e ∧ f b o n e = some x := by
  unfold onS at h
  split at h
  · exact ⟨_, _, _, _, rfl, h⟩
  · cases h
theorem onB_some {α : Type} {v : Value} {y z : Option α} {x : α} (h : onB v y z = some x) : ∃ t, v = .bool t ∧ (bif t then y else z) = some x := by
  unfold onB at h
  split at h
  · exact ⟨true, rfl, h⟩
  · exact ⟨false, rfl, h⟩
  · cases h
theorem onT_some {α : Type} {v : Value} {f : List Value → Option α} {x : α} (h : onT v f = some x) : ∃ vs, v = .tuple vs ∧ f vs.toList = some x := by
  cases v <;> first | exact ⟨_, rfl, h⟩ | cases h
theorem onStr_some {α : Type} {v : Value} {f : ByteArray → Option α} {x : α} (h : onStr v f = some x) : ∃ s, v = .string s ∧ f s = some x := by
  cases v <;> first | exact ⟨_, rfl, h⟩ | cases h
theorem pr_run {P : Program} {α : Type} : ∀ (s : Sem α) (v : α), pr P s = some v → ∀ w, s.run P w = .ok v w := by
  intro s
  induction s with
  | pure a => intro v h w; cases h; rfl
  | program k ih => intro v h w; exact ih P v h w
  | mark m k ih => intro v h w; exact ih v h w
  | _ => intro v h; cases h
theorem nth_get : ∀ (i : Nat) (l : List Value), nth i l = l[i]?
  | 0, [] => rfl
  | 0, _ :: _ => rfl
  | i + 1, [] => rfl
  | i + 1, _ :: l => by simp only [nth, nth_get i l, List.getElem?_cons_succ]
theorem LR.get {R : Value → Value → Prop} : ∀ {l m : List Value} {i : Nat} {v : Value}, LR R l m → l[i]? = some v → ∃ u, m[i]? = some u ∧ R v u
  | [], _, _, _, _, h => by cases h
  | x :: xs, _, 0, v, ⟨y, ys, e, r, _⟩, h => by subst e; simp at h; subst h; exact ⟨y, by simp, r⟩
  | x :: xs, _, i + 1, v, ⟨y, ys, e, _, q⟩, h => by subst e; simp at h; obtain ⟨u, h1, h2⟩ := LR.get q h; exact ⟨u, by simpa using h1, h2⟩
theorem LR.len {R : Value → Value → Prop} : ∀ {l m : List Value}, LR R l m → m.length = l.length
  | [], _, e => by rw [e]
  | x :: xs, _, ⟨y, ys, e, _, q⟩ => by rw [e]; simp [q.len]
theorem LR.app {R : Value → Value → Prop} : ∀ {l m l' m' : List Value}, LR R l m → LR R l' m' → LR R (l ++ l') (m ++ m')
  | [], _, _, _, e, h => by rw [e]; exact h
  | x :: xs, _, _, _, ⟨y, ys, e, r, q⟩, h => ⟨y, ys ++ _, by rw [e]; rfl, r, q.app h⟩
theorem LR.drop {R : Value → Value → Prop} : ∀ {l m : List Value} (n : Nat), LR R l m → LR R (l.drop n) (m.drop n)
  | l, m, 0, h => h
  | [], _, n + 1, e => by rw [e]; rfl
  | x :: xs, _, n + 1, ⟨y, ys, e, _, q⟩ => by rw [e]; exact q.drop n
theorem LR.take {R : Value → Value → Prop} : ∀ {l m : List Value} (n : Nat), LR R l m → LR R (l.take n) (m.take n)
  | l, m, 0, h => by simp [LR]
  | [], _, n + 1, e => by rw [e]; rfl
  | x :: xs, _, n + 1, ⟨y, ys, e, r, q⟩ => by rw [e]; exact ⟨y, ys.take n, rfl, r, q.take n⟩
theorem szOf_info {P : Program} {t n : Nat} (h : szOf P t = some n) : ∃ i, P.info? t = some i ∧ i.size = n := by
  unfold szOf at h
  cases e : P.info? t with
  | none => rw [e] at h; cases h
  | some i => rw [e] at h; exact ⟨i, rfl, by simpa using h⟩
theorem zeroOf_info {P : Program} {t : Nat} {z : Value} (h : zeroOf P t = some z) : ∃ i, P.info? t = some i ∧ i.zero = some z := by
  unfold zeroOf at h
  cases e : P.info? t with
  | none => rw [e] at h; cases h
  | some i => rw [e] at h; exact ⟨i, rfl, by simpa using h⟩
/-- What is said of an operation. -/
structure Oo (P : Program) (o : Oper) (fr : FT) (h : HT) (n : Nat) (x : R5) : Prop where
  ss : Ss h n x.h x.n x.r x.w
  ok : ∀ (k : K) (W : World) (a : Act) (K' : Act → World → Prop) (Q : Exit → Act → World → Prop), (∀ y ∈ o.op.operands.toList, VX k (evo fr y) (a.eval y)) → HR k h W x.r → (∀ i, n ≤ i → i < x.n → k i = none) →
    (∀ u W' k', Sd h n x.h x.n x.r x.w k W k' W' → VX k' x.v u → K' (a.put o.dst u) W') → o.wp P a W K' Q
theorem Oo.val {P : Program} {o : Oper} {fr : FT} {h : HT} {n : Nat} {x : R5} {v : Value} (hx : val h n v = some x)
    (hr : ∀ (k : K) (W : World) (a : Act), (∀ y ∈ o.op.operands.toList, VX k (evo fr y) (a.eval y)) → ∃ u, VX k v u ∧ (execOp a.eval o).run P W = .ok (.value u) W) : Oo P o fr h n x := by
  unfold E.val at hx
  cases hx
  refine ⟨Ss.refl h n, fun k W a K' Q ho _ _ hk => ?_⟩
  obtain ⟨u, h1, h2⟩ := hr k W a ho
  unfold Oper.wp
  rw [h2, Oper.upon_value]
  exact hk u W k (Sd.refl h n k W) h1
section
variable {P : Program} {o : Oper} {fr : FT} {h : HT} {n : Nat} {x : R5}
theorem s_move {y : Operand} (ho : o.op = .move y ∨ o.op = .assign y) (e : oMove y fr h n = some x) : Oo P o fr h n x :=
  Oo.val e fun k W a hop => ⟨a.eval y, hop y (by rcases ho with ho | ho <;> simp [ho, Op.operands]), by rcases ho with ho | ho <;> simp [execOp, ho]⟩
theorem s_pick {c y z : Operand} (ho : o.op = .pick c y z) (e : oPick c y z fr h n = some x) : Oo P o fr h n x := by
  obtain ⟨t, hc, e⟩ := onB_some e
  have key : ∀ (k : K) (W : World) (a : Act), (∀ y ∈ o.op.operands.toList, VX k (evo fr y) (a.eval y)) → (execOp a.eval o).run P W = .ok (.value (bif t then a.eval y else a.eval z)) W := by
    intro k W a hop
    have h1 := hop c (by simp [ho, Op.operands])
    rw [hc] at h1
    have h2 := h1.bool_inv
    cases t <;> simp [execOp, ho, h2, asBool]
  cases t with
  | true => exact Oo.val e fun k W a hop => ⟨a.eval y, hop y (by simp [ho, Op.operands]), key k W a hop⟩
  | false => exact Oo.val e fun k W a hop => ⟨a.eval z, hop z (by simp [ho, Op.operands]), key k W a hop⟩
theorem s_ext {y : Operand} {i : Nat} (ho : o.op = .extract y i) (e : oExt y i fr h n = some x) : Oo P o fr h n x := by
  obtain ⟨vs, hv, e⟩ := onT_some e
  obtain ⟨v, h1, e⟩ := bind_some e
  refine Oo.val e fun k W a hop => ?_
  have h2 := hop y (by simp [ho, Op.operands])
  rw [hv] at h2
  obtain ⟨us, h3, h4⟩ := h2.tuple_inv
  rw [nth_get] at h1
  obtain ⟨u, h5, h6⟩ := h4.get h1
  exact ⟨u, h6, by simp [execOp, ho, h3, Instr.extract, h5]⟩
theorem s_nil {y : Operand} (ho : o.op = .nilCheck y) (e : oNil y fr h n = some x) : Oo P o fr h n x := by
  obtain ⟨b, f, hv, e⟩ := onP_some e
  refine Oo.val e fun k W a hop => ?_
  have h2 := hop y (by simp [ho, Op.operands])
  rw [hv] at h2
  obtain ⟨_, b', z, _, h3⟩ := h2.ptr_inv
  exact ⟨a.eval y, h2, by simp [execOp, ho, h3]⟩
theorem s_field {t : TypeId} {y : Operand} {f : Nat} (ho : o.op = .fieldAddr t y f) (e : oField P t y f fr h n = some x) : Oo P o fr h n x := by
  obtain ⟨d, hd, e⟩ := bind_some e
  obtain ⟨b, q, hv, e⟩ := onP_some e
  refine Oo.val (force_some e) fun k W a hop => ?_
  have h2 := hop y (by simp [ho, Op.operands])
  rw [hv] at h2
  obtain ⟨_, b', z, hk, h3⟩ := h2.ptr_inv
  refine ⟨.pointer (some ⟨b', q + d, none⟩), VX.of0 ⟨rfl, b', z, hk, rfl⟩, ?_⟩
  unfold fOff at hd
  split at hd
  · rename_i fs hu
    split at hd
    · rename_i fd hf
      split at hd
      · rename_i m hs
        cases hd
        obtain ⟨i, hi, hsz⟩ := szOf_info hs
        have hf' : fs[f]? = some fd := by simpa using hf
        have hne : ¬ i.size = 0 := by omega
        simp [execOp, ho, h3, Instr.fieldAt, run_underlying hu, hf', Instr.sureAddr, fieldPlace, sizeOf, typeInfo, hi, hne, Addr.add_mid]
      · cases hd
    · cases hd
  · cases hd
theorem idx_some {i : Int} {m j : Nat} (e : idx i m = some j) : i = (j : Int) ∧ j < m := by
  cases i with
  | ofNat a =>
    obtain ⟨h1, h2⟩ := bif_some e
    cases h2
    rw [Nat.blt_eq] at h1
    exact ⟨rfl, h1⟩
  | negSucc a => cases e
theorem s_indA {t : TypeId} {y ix : Operand} (ho : o.op = .indexAddr t y ix) (e : oIndA P t y ix fr h n = some x) : Oo P o fr h n x := by
  unfold oIndA at e
  split at e
  · rename_i e' hu
    obtain ⟨m, hm, e⟩ := bind_some e
    obtain ⟨b, q, len, es, hv, e⟩ := onS_some e
    obtain ⟨ki, i, hi, e⟩ := onI_some e
    obtain ⟨j, hj, e⟩ := bind_some e
    obtain ⟨hj1, hj2⟩ := idx_some hj
    refine Oo.val (force_some e) fun k W a hop => ?_
    have h2 := hop y (by simp [ho, Op.operands])
    have h2' := hop ix (by simp [ho, Op.operands])
    rw [hv] at h2; rw [hi] at h2'
    obtain ⟨_, b', z, c, hk, h3, _⟩ := h2.slc_inv
    have h4 := h2'.int_inv
    obtain ⟨inf, hinf, hsz⟩ := szOf_info hm
    refine ⟨.pointer (some ⟨b', q + j * m, none⟩), VX.of0 ⟨rfl, b', z, hk, rfl⟩, ?_⟩
    have hb : (0 : Int) ≤ (j : Int) ∧ (j : Int) < (len : Int) := by omega
    simp [execOp, ho, h3, h4, hj1, Instr.indexAt, asIntOf, run_underlying hu, sizeOf, typeInfo, hinf, hsz, Addr.add_mid, hj2]
  · rename_i len e' hu
    obtain ⟨m, hm, e⟩ := bind_some e
    obtain ⟨b, q, hv, e⟩ := onP_some e
    obtain ⟨ki, i, hi, e⟩ := onI_some e
    obtain ⟨j, hj, e⟩ := bind_some e
    obtain ⟨hj1, hj2⟩ := idx_some hj
    refine Oo.val (force_some e) fun k W a hop => ?_
    have h2 := hop y (by simp [ho, Op.operands])
    have h2' := hop ix (by simp [ho, Op.operands])
    rw [hv] at h2; rw [hi] at h2'
    obtain ⟨_, b', z, hk, h3⟩ := h2.ptr_inv
    have h4 := h2'.int_inv
    obtain ⟨inf, hinf, hsz⟩ := szOf_info hm
    refine ⟨.pointer (some ⟨b', q + j * m, none⟩), VX.of0 ⟨rfl, b', z, hk, rfl⟩, ?_⟩
    simp [execOp, ho, h3, h4, hj1, Instr.indexAt, asIntOf, Instr.sureAddr, run_underlying hu, sizeOf, typeInfo, hinf, hsz, Addr.add_mid, hj2]
  · cases e
theorem nthB_get : ∀ (i : Nat) (l : List UInt8), nthB i l = l[i]?
  | 0, [] => rfl
  | 0, _ :: _ => rfl
  | i + 1, [] => rfl
  | i + 1, _ :: l => by simp only [nthB, nthB_get i l, List.getElem?_cons_succ]
theorem isStr_some {t : TypeId} (e : isStr P t = true) : P.underlying t = some .string := by
  unfold isStr at e
  split at e
  · assumption
  · cases e
theorem s_ind {t : TypeId} {y ix : Operand} (ho : o.op = .index t y ix) (e : oInd P t y ix fr h n = some x) : Oo P o fr h n x := by
  obtain ⟨hs, e⟩ := bif_some e
  have hu := isStr_some hs
  obtain ⟨s, hv, e⟩ := onStr_some e
  obtain ⟨ki, i, hi, e⟩ := onI_some e
  cases i with
  | negSucc m => cases e
  | ofNat m =>
    obtain ⟨b, hb, e⟩ := bind_some e
    rw [nthB_get] at hb
    refine Oo.val (force_some e) fun k W a hop => ?_
    have h2 := hop y (by simp [ho, Op.operands])
    have h2' := hop ix (by simp [ho, Op.operands])
    rw [hv] at h2; rw [hi] at h2'
    have h3 := h2.str_inv
    have h4 := h2'.int_inv
    refine ⟨_, VX.of0 rfl, ?_⟩
    have hb' : s.data[m]? = some b := by simpa using hb
    have hb2 : s[m]? = some b := by
      obtain ⟨h5, h6⟩ := Array.getElem?_eq_some_iff.1 hb'
      have h7 : m < s.size := h5
      rw [getElem?_pos s m h7]
      exact congrArg some h6
    simp [execOp, ho, h3, h4, Instr.index, asIntOf, run_underlying hu, hb2]
theorem s_func {fn : Fn} {first captured : Array Operand} (ho : o.op = .makeFunc fn first captured) (e : oFunc fn first captured fr h n = some x) : Oo P o fr h n x := by
  unfold oFunc at e
  split at e
  · rename_i f
    split at e
    · rename_i hf
      refine Oo.val e fun k W a hop => ?_
      have hfe : first = #[] := by simpa using hf
      subst hfe
      have key : ∀ l : List Operand, (∀ y ∈ l, VX k (evo fr y) (a.eval y)) → LR (VX k) (evl fr l) (l.map a.eval) := by
        intro l
        induction l with
        | nil => intro _; rfl
        | cons y l ih => intro hl; exact ⟨_, _, rfl, hl y (by simp), ih (fun y hy => hl y (by simp [hy]))⟩
      refine ⟨_, VX.func (key captured.toList (fun y hy => hop y (by rw [ho]; simpa [Op.operands] using hy))), ?_⟩
      have : captured.map a.eval = (captured.toList.map a.eval).toArray := Array.ext' (by simp)
      simp [execOp, ho, Instr.makeFunc, this]
    · cases e
  · cases e
end
end E
end Go.Proofs.YtfmfeipeeedfpaaGreat
