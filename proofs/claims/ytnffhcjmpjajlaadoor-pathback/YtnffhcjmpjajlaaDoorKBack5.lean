/-
  A part of the proof.
-/
import Derived.Test.YtnffhcjmpjajlaaDoorKBack4
import Derived.Test.YtnffhcjmpjajlaaDoorKBack3
import Derived.Test.YtnffhcjmpjajlaaDoorKBack2
import Derived.Test.YtnffhcjmpjajlaaDoorKBack1
import Derived.Test.YtnffhcjmpjajlaaDoorKa15
import Derived.Test.YtnffhcjmpjajlaaDoorKa13
import Derived.Test.YtnffhcjmpjajlaaDoorKa11
import Derived.Test.YtnffhcjmpjajlaaDoorKa10
import Derived.Test.YtnffhcjmpjajlaaDoorKa6
import Derived.Test.YtnffhcjmpjajlaaDoorKa5
import Derived.Test.YtnffhcjmpjajlaaDoorKa4
import Derived.Test.YtnffhcjmpjajlaaDoorKa3
import Derived.Test.YtnffhcjmpjajlaaDoorKa2
import Derived.Test.YtnffhcjmpjajlaaDoorKa1
import Derived.RegionTactic
import Derived.Test.YtnffhcjmpjajlaaDoorProg
import Derived.WalkKit
import Derived.WalkSpells
import Derived.Handy
import Derived.BigQuiet
import Derived.Deep.RegionHeld3
import Derived.Deep.MidRow
import Derived.BigCall
import Derived.ChangeKeysEq
import Derived.Shelf.Small.Bits
import Derived.Shelf.Strconv.Itoa0
import Derived.Shelf.Bits.Mul64
import Derived.Deep.CutRange
import Derived.Deep.CutBlock
import Derived.ScopeJumps
import Derived.WalkMore
import Derived.Laws.StructEq
import Derived.Lib.CutLaws
import Derived.Maps.OwnSet
import Derived.WalkArith
import Derived.StringKeys
import Derived.ProofKit
import Derived.OpenShut
import Derived.ChangeArms
import Derived.Deep.Slices
import Derived.ReadAgain
import Derived.WideKeyArgs
import Derived.Maps.AppendAt
import Derived.Test.YtnffhcjmpjajlaaDoorKa9
import Derived.Test.YtnffhcjmpjajlaaDoorKa7
import Derived.Shelf.Strconv.Itoa4
import Derived.Test.YtnffhcjmpjajlaaDoorKa8
import Derived.Lib.IndexBytes
import Derived.Lib.AppendIntMem
import Derived.Lib.ItoaLen
import Derived.Laws.MakeOwn
import Derived.Test.YtnffhcjmpjajlaaDoorKa12
import Derived.Test.YtnffhcjmpjajlaaDoorKa14
import Derived.Test.YtnffhcjmpjajlaaDoorRows
import Derived.Carry
import Derived.ChangeMaps5
import Derived.ChangeSame
import Derived.ChangeVars
import Derived.JoinedOf
import Derived.RowKitTokens
import Derived.LaidLaws
import Derived.LaidHandle
import Derived.Stop.Joined
import Derived.Lib.LaidIn
import Derived.Lib.LaidTab
import Derived.SizedLaws
import Derived.Deep.Strs
namespace Go.Proofs.YtnffhcjmpjajlaaDoor
open Go.RowKit D
theorem addw {a b : Int} (x y : Operand) (w : World) : (do eqGuard .add 3 x y (.int .i64 a) (.int .i64 b); binOp .add 3 (.int .i64 a) (.int .i64 b)).run Tryd.prog w = .ok (.int .i64 (IntKind.i64.wrap (a + b))) w := by simp [go_sem]
theorem sub1n {m : Nat} (h : m ≤ 1000) (x y : Operand) (w : World) : (do eqGuard .sub 3 x y (.int .i64 ((m + 1 : Nat) : Int)) (.int .i64 1); binOp .sub 3 (.int .i64 ((m + 1 : Nat) : Int)) (.int .i64 1)).run Tryd.prog w = .ok (.int .i64 ((m : Nat) : Int)) w := subI (by omega) (by omega) (by omega) x y w
theorem es_0 {e : Ex} (w : World) : Calls Tryd.prog 41 #[.agg e.cells.toArray, .int .i64 0] w fun e9 w' => ∃ z : Int, e9 = .returned (.int .i64 z) ∧ Mo w w' := by
 refine w_enter 25 Tryd.func41 Tryd.ntmps41 rfl rfl ?_
 have M : Mo w w := Mo.refl _
 refine w_seq (w_reg ?_)
 refine wl_box 77 (.tmp 0) _ (((e.cells).toArray)) rfl rfl (fun _ => by kernel_rfl) rfl ?_
 intro k1 u1 hk hz hq Q1
 have N_k1 : w.heap.size ≤ k1 := by have := M.size; omega
 replace M := M.trans hq
 clear hk hz hq
 refine wl_m (.const (.int .i64 (0))) (.int .i64 (0)) ?_
 refine w_nil (xn_then (w_seq (w_seq (w_reg ?_))))
 refine wl_m (.tmp 1) (.int .i64 0) ?_
 refine wl_b .eql 3 (.tmp 8) (.const (.int .i64 (0))) (.int .i64 0) (.int .i64 (0)) (.bool true) (eq3 (r := true) (decide_eq_true rfl) _ _ _) ?_
 refine w_nil (xn_then (w_condT rfl (w_seq (w_reg ?_))))
 refine wl_m (.const (.int .i64 (10000))) (.int .i64 (10000)) ?_
 refine w_nil (xn_then (w_ret (xr_then ?_)))
 exact w_ret1 _ (.int .i64 (10000)) rfl rfl ⟨_, rfl, M⟩
theorem es_s {e : Ex} {dd : Nat} (hm : dd ≤ 1000) (hrec : ∀ (o : Ex) (w : World), LEx w o → Calls Tryd.prog 41 #[.agg o.cells.toArray, .int .i64 ((dd : Nat) : Int)] w fun e9 w' => ∃ z : Int, e9 = .returned (.int .i64 z) ∧ Mo w w') (w : World) (hE : LEx w e) : Calls Tryd.prog 41 #[.agg e.cells.toArray, .int .i64 ((dd + 1 : Nat) : Int)] w fun e9 w' => ∃ z : Int, e9 = .returned (.int .i64 z) ∧ Mo w w' := by
 refine w_enter 25 Tryd.func41 Tryd.ntmps41 rfl rfl ?_
 have M : Mo w w := Mo.refl _
 refine w_seq (w_reg ?_)
 refine wl_box 77 (.tmp 0) _ (((e.cells).toArray)) rfl rfl (fun _ => by kernel_rfl) rfl ?_
 intro k1 u1 hk hz hq Q1
 have N_k1 : w.heap.size ≤ k1 := by have := M.size; omega
 replace M := M.trans hq
 clear hk hz hq
 refine wl_m (.const (.int .i64 (0))) (.int .i64 (0)) ?_
 refine w_nil (xn_then (w_seq (w_seq (w_reg ?_))))
 refine wl_m (.tmp 1) (.int .i64 ((dd + 1 : Nat) : Int)) ?_
 refine wl_b .eql 3 (.tmp 8) (.const (.int .i64 (0))) (.int .i64 ((dd + 1 : Nat) : Int)) (.int .i64 (0)) (.bool false) (eq3 (r := false) (decide_eq_false (by omega)) _ _ _) ?_
 refine w_nil (xn_then (w_condF rfl (w_skip (xn_then (w_seq (w_reg ?_))))))
 refine wl_m (.const (.int .i64 (1))) (.int .i64 (1)) ?_
 refine w_nil (xn_then (w_seq (w_seq (w_reg ?_))))
 refine wl_f 77 7 (.tmp 2) (pt k1 0) (pt k1 16) ?_
 refine wl_l 75 (.tmp 10) (pt k1 16) (.slice e.pa e.args.length e.cap) (run_one Q1 75 16 rfl Tryd.underlying75 rfl) ?_
 refine wl_val (.int .i64 ((e.args.length : Nat) : Int)) (len75 _ _ _ _ _ (by exact rfl) _ _ _ _ _ _) rfl ?_
 refine wl_m (.const (.int .i64 (0))) (.int .i64 (0)) ?_
 refine w_nil (xn_then (w_block ?_))
 have hz_i := hE.sl.1
 unfold maxLen at hz_i
 refine w_loop (fun m l w1 => ∃ i : Nat, m = e.args.length - i ∧ i ≤ e.args.length ∧ look l 1 = .int .i64 ((dd + 1 : Nat) : Int) ∧ look l 2 = pt k1 0 ∧ look l 11 = .slice e.pa e.args.length e.cap ∧ look l 12 = .int .i64 ((e.args.length : Nat) : Int) ∧ look l 13 = .int .i64 ((i : Nat) : Int) ∧ At w1 k1 (e.cells) ∧ (∃ z1 : Int, look l 5 = .int .i64 z1) ∧ Mo w w1) _ ⟨0, rfl, Nat.zero_le _, rfl, rfl, rfl, rfl, rfl, Q1, ⟨1, rfl⟩, M⟩ ?_
 clear Q1 M
 rintro m l40 wl40 ⟨i, rfl, hi, e40_1, e40_2, e40_11, e40_12, e40_i, Q1, hz5, M⟩
 by_cases hil : i < e.args.length
 ·skip
  have hid : decide (i < e.args.length) = true := decide_eq_true hil
  obtain ⟨z1, e5⟩ := hz5
  obtain ⟨o, ho⟩ := get_of_lt hil
  have hmo := List.mem_of_getElem? ho
  obtain ⟨bpi, opi, hppi, hRpi⟩ := D.SL.rw hE.sl ho
  refine w_seq (w_reg ?_)
  refine wl_bin (fun x y => do eqGuard .lss 3 (.tmp 13) (.tmp 12) x y; binOp .lss 3 x y) (.tmp 13) (.tmp 12) (.int .i64 ((i : Nat) : Int)) (.int .i64 ((e.args.length : Nat) : Int)) (.bool true) (fun _ => rfl) e40_i e40_12 (ltN hid _ _ _) rfl ?_
  refine w_nil (xn_then (w_seq (w_condT rfl (w_skip (xn_then (w_seq (w_block (w_seq (w_reg ?_)))))))))
  refine wl_bin (fun x y => Instr.indexAt 75 x y) (.tmp 11) (.tmp 13) (.slice e.pa e.args.length e.cap) (.int .i64 ((i : Nat) : Int)) (pt bpi (opi + i * 17)) (fun _ => rfl) e40_11 e40_i (ix75 (i := i) hppi hil _) rfl ?_
  refine wl_l 77 (.tmp 15) (pt bpi (opi + i * 17)) (.agg (o.cells).toArray) (D.run_partR (hRpi.mo M).at' 77 0 17 (o.cells) rfl Tryd.underlying77 rfl sz77) ?_
  refine wl_alloc 77 #[.int .i64 0, .int .i64 0, .string ⟨#[]⟩, .string ⟨#[]⟩, .int .i64 0, .bool false, .int .u64 0, .int .u64 0, .int .u64 0, .int .u64 0, .int .i64 0, .bool false, .string ⟨#[]⟩, .int .i64 0, .int .i64 0, .int .i64 0, .slice none 0 0] rfl (fun _ => by kernel_rfl) rfl ?_
  intro k2 u41 hk hz hq Q2
  have ne_k1_k2 : k1 ≠ k2 := by have := Q1.lt; omega
  have N_k2 : w.heap.size ≤ k2 := by have := M.size; omega
  replace Q1 := Q1.mo hq
  replace M := M.trans hq
  clear hk hz hq
  refine wl_st 77 (.tmp 7) (.tmp 16) k2 0 ((o.cells).toArray) _ (o.cells) Q2 rfl rfl rfl rfl rfl sz77 rfl rfl rfl ?_
  intro u42 hS Qn
  replace Q2 := Qn
  clear Qn
  replace Q1 := hS.other _ _ ne_k1_k2 Q1
  replace M := hS.mo _ N_k2 M
  clear hS
  refine w_nil (xn_then (w_reg ?_))
  refine wl_mv (.tmp 5) (.int .i64 (z1)) (fun _ => rfl) e5 rfl ?_
  refine wl_l 77 (.tmp 7) (pt k2 0) (.agg (o.cells).toArray) (run_row Q2 77 0 17 (o.cells) rfl Tryd.underlying77 rfl sz77) ?_
  refine wl_mv (.tmp 1) (.int .i64 ((dd + 1 : Nat) : Int)) (fun _ => rfl) e40_1 rfl ?_
  refine wl_b .sub 3 (.tmp 19) (.const (.int .i64 (1))) (.int .i64 ((dd + 1 : Nat) : Int)) (.int .i64 (1)) (.int .i64 ((dd : Nat) : Int)) (sub1n hm _ _ _) ?_
  refine wl_callx 41 [(.tmp 18), (.tmp 20)] _ [.agg (o.cells).toArray, .int .i64 ((dd : Nat) : Int)] rfl rfl (fun _ _ => by kernel_rfl) (hrec o _ ((hE.ar o hmo).kp M.kp)) rfl ?_
  rintro e9 u43 ⟨z9, rfl, hq⟩
  refine ⟨_, rfl, ?_⟩
  replace Q1 := Q1.mo hq
  replace Q2 := Q2.mo hq
  replace M := M.trans hq
  clear hq
  refine wl_b .add 3 (.tmp 17) (.tmp 21) (.int .i64 (z1)) (.int .i64 (z9)) (.int .i64 (IntKind.i64.wrap (z1 + z9))) (addw _ _ _) ?_
  refine wl_m (.tmp 22) (.int .i64 (IntKind.i64.wrap (z1 + z9))) ?_
  refine w_nil (xn_blk (xn_then (w_reg ?_)))
  refine wl_bin (fun x y => do eqGuard .add 3 (.tmp 13) (.const (.int .i64 (1))) x y; binOp .add 3 x y) (.tmp 13) (.const (.int .i64 (1))) (.int .i64 ((i : Nat) : Int)) (.int .i64 (1)) (.int .i64 ((i + 1 : Nat) : Int)) (fun _ => rfl) e40_i rfl (add1r (k := i) (by omega) _ _ _) rfl ?_
  refine wl_m (.tmp 23) (.int .i64 ((i + 1 : Nat) : Int)) ?_
  refine w_nil ?_
  exact xn_loop (e.args.length - (i + 1)) (by omega) ⟨i + 1, rfl, by omega, e40_1, e40_2, e40_11, e40_12, rfl, Q1, ⟨IntKind.i64.wrap (z1 + z9), rfl⟩, M⟩
 ·skip
  have hid : decide (i < e.args.length) = false := decide_eq_false hil
  have hie : i = e.args.length := by omega
  obtain ⟨z1, e5⟩ := hz5
  refine w_seq (w_reg ?_)
  refine wl_bin (fun x y => do eqGuard .lss 3 (.tmp 13) (.tmp 12) x y; binOp .lss 3 x y) (.tmp 13) (.tmp 12) (.int .i64 ((i : Nat) : Int)) (.int .i64 ((e.args.length : Nat) : Int)) (.bool false) (fun _ => rfl) e40_i e40_12 (ltN hid _ _ _) rfl ?_
  refine w_nil (xn_then (w_seq (w_condF rfl (w_exit (xx_then (xx_then (xx_blk (xn_then (w_seq (w_reg ?_))))))))))
  refine wl_mv (.tmp 5) (.int .i64 (z1)) (fun _ => rfl) e5 rfl ?_
  refine wl_m (.tmp 24) (.int .i64 (z1)) ?_
  refine w_nil (xn_then (w_ret ?_))
  exact w_ret1 _ (.int .i64 (z1)) rfl rfl ⟨_, rfl, M⟩
theorem es_n : ∀ (m : Nat), m ≤ 1000 → ∀ (e : Ex) (w : World), LEx w e → Calls Tryd.prog 41 #[.agg e.cells.toArray, .int .i64 ((m : Nat) : Int)] w fun e9 w' => ∃ z : Int, e9 = .returned (.int .i64 z) ∧ Mo w w'
 | 0, _, _, w, _ => es_0 w
 | m + 1, h, _, w, hE => es_s (by omega) (fun o w' ho => es_n m (by omega) o w' ho) w hE
theorem si_0 {s : Se} (w : World) : Calls Tryd.prog 24 #[.agg s.cells.toArray, .int .i64 0] w fun e9 w' => ∃ z : Int, e9 = .returned (.int .i64 z) ∧ Mo w w' := by
 refine w_enter 41 Tryd.func24 Tryd.ntmps24 rfl rfl ?_
 have M : Mo w w := Mo.refl _
 refine w_seq (w_reg ?_)
 refine wl_box 45 (.tmp 0) _ (((s.cells).toArray)) rfl rfl (fun _ => by kernel_rfl) rfl ?_
 intro k1 u1 hk hz hq Q1
 have N_k1 : w.heap.size ≤ k1 := by have := M.size; omega
 replace M := M.trans hq
 clear hk hz hq
 refine wl_m (.const (.int .i64 (0))) (.int .i64 (0)) ?_
 refine w_nil (xn_then (w_seq (w_seq (w_reg ?_))))
 refine wl_m (.tmp 1) (.int .i64 0) ?_
 refine wl_b .eql 3 (.tmp 10) (.const (.int .i64 (0))) (.int .i64 0) (.int .i64 (0)) (.bool true) (eq3 (r := true) (decide_eq_true rfl) _ _ _) ?_
 refine w_nil (xn_then (w_condT rfl (w_seq (w_reg ?_))))
 refine wl_m (.const (.int .i64 (10000))) (.int .i64 (10000)) ?_
 refine w_nil (xn_then (w_ret (xr_then ?_)))
 exact w_ret1 _ (.int .i64 (10000)) rfl rfl ⟨_, rfl, M⟩
theorem si_s {s : Se} {dd : Nat} (hm : dd ≤ 1000) (hrec : ∀ (o : Se) (w : World), LSe w o → Calls Tryd.prog 24 #[.agg o.cells.toArray, .int .i64 ((dd : Nat) : Int)] w fun e9 w' => ∃ z : Int, e9 = .returned (.int .i64 z) ∧ Mo w w') (w : World) (hE : LSe w s) : Calls Tryd.prog 24 #[.agg s.cells.toArray, .int .i64 ((dd + 1 : Nat) : Int)] w fun e9 w' => ∃ z : Int, e9 = .returned (.int .i64 z) ∧ Mo w w' := by
 refine w_enter 41 Tryd.func24 Tryd.ntmps24 rfl rfl ?_
 have M : Mo w w := Mo.refl _
 refine w_seq (w_reg ?_)
 refine wl_box 45 (.tmp 0) _ (((s.cells).toArray)) rfl rfl (fun _ => by kernel_rfl) rfl ?_
 intro k1 u1 hk hz hq Q1
 have N_k1 : w.heap.size ≤ k1 := by have := M.size; omega
 replace M := M.trans hq
 clear hk hz hq
 refine wl_m (.const (.int .i64 (0))) (.int .i64 (0)) ?_
 refine w_nil (xn_then (w_seq (w_seq (w_reg ?_))))
 refine wl_m (.tmp 1) (.int .i64 ((dd + 1 : Nat) : Int)) ?_
 refine wl_b .eql 3 (.tmp 10) (.const (.int .i64 (0))) (.int .i64 ((dd + 1 : Nat) : Int)) (.int .i64 (0)) (.bool false) (eq3 (r := false) (decide_eq_false (by omega)) _ _ _) ?_
 refine w_nil (xn_then (w_condF rfl (w_skip (xn_then (w_seq (w_reg ?_))))))
 refine wl_m (.const (.int .i64 (1))) (.int .i64 (1)) ?_
 refine w_nil (xn_then (w_seq (w_seq (w_reg ?_))))
 refine wl_f 45 2 (.tmp 2) (pt k1 0) (pt k1 2) ?_
 refine wl_l 42 (.tmp 12) (pt k1 2) (.slice s.pi s.items.length s.ci) (run_one Q1 42 2 rfl Tryd.underlying42 rfl) ?_
 refine wl_val (.int .i64 ((s.items.length : Nat) : Int)) (len42 _ _ _ _ _ (by exact rfl) _ _ _ _ _ _) rfl ?_
 refine wl_m (.const (.int .i64 (0))) (.int .i64 (0)) ?_
 refine w_nil (xn_then (w_block ?_))
 have hz_i := hE.it.1
 unfold maxLen at hz_i
 refine w_loop (fun m l w1 => ∃ i : Nat, m = s.items.length - i ∧ i ≤ s.items.length ∧ look l 1 = .int .i64 ((dd + 1 : Nat) : Int) ∧ look l 2 = pt k1 0 ∧ look l 13 = .slice s.pi s.items.length s.ci ∧ look l 14 = .int .i64 ((s.items.length : Nat) : Int) ∧ look l 15 = .int .i64 ((i : Nat) : Int) ∧ At w1 k1 (s.cells) ∧ (∃ z1 : Int, look l 5 = .int .i64 z1) ∧ Mo w w1) _ ⟨0, rfl, Nat.zero_le _, rfl, rfl, rfl, rfl, rfl, Q1, ⟨1, rfl⟩, M⟩ ?_
 clear Q1 M
 rintro m l40 wl40 ⟨i, rfl, hi, e40_1, e40_2, e40_13, e40_14, e40_i, Q1, hz5, M⟩
 by_cases hil : i < s.items.length
 ·skip
  have hid : decide (i < s.items.length) = true := decide_eq_true hil
  obtain ⟨z1, e5⟩ := hz5
  obtain ⟨o, ho⟩ := get_of_lt hil
  have hmo := List.mem_of_getElem? ho
  obtain ⟨bpi, opi, hppi, hRpi⟩ := D.SL.rw hE.it ho
  refine w_seq (w_reg ?_)
  refine wl_bin (fun x y => do eqGuard .lss 3 (.tmp 15) (.tmp 14) x y; binOp .lss 3 x y) (.tmp 15) (.tmp 14) (.int .i64 ((i : Nat) : Int)) (.int .i64 ((s.items.length : Nat) : Int)) (.bool true) (fun _ => rfl) e40_i e40_14 (ltN hid _ _ _) rfl ?_
  refine w_nil (xn_then (w_seq (w_condT rfl (w_skip (xn_then (w_seq (w_block (w_seq (w_reg ?_)))))))))
  refine wl_bin (fun x y => Instr.indexAt 42 x y) (.tmp 13) (.tmp 15) (.slice s.pi s.items.length s.ci) (.int .i64 ((i : Nat) : Int)) (pt bpi (opi + i * 23)) (fun _ => rfl) e40_13 e40_i (ix42 (i := i) hppi hil _) rfl ?_
  refine wl_l 79 (.tmp 17) (pt bpi (opi + i * 23)) (.agg (o.cells).toArray) (D.run_partR (hRpi.mo M).at' 79 0 23 (o.cells) rfl Tryd.underlying79 rfl sz79) ?_
  refine wl_alloc 79 #[.string ⟨#[]⟩, .int .i64 0, .int .i64 0, .int .i64 0, .bool false, .int .i64 0, .int .i64 0, .int .i64 0, .string ⟨#[]⟩, .string ⟨#[]⟩, .int .i64 0, .bool false, .int .u64 0, .int .u64 0, .int .u64 0, .int .u64 0, .int .i64 0, .bool false, .string ⟨#[]⟩, .int .i64 0, .int .i64 0, .int .i64 0, .slice none 0 0] rfl (fun _ => by kernel_rfl) rfl ?_
  intro k2 u41 hk hz hq Q2
  have ne_k1_k2 : k1 ≠ k2 := by have := Q1.lt; omega
  have N_k2 : w.heap.size ≤ k2 := by have := M.size; omega
  replace Q1 := Q1.mo hq
  replace M := M.trans hq
  clear hk hz hq
  refine wl_st 79 (.tmp 7) (.tmp 18) k2 0 ((o.cells).toArray) _ (o.cells) Q2 rfl rfl rfl rfl rfl sz79 rfl rfl rfl ?_
  intro u42 hS Qn
  replace Q2 := Qn
  clear Qn
  replace Q1 := hS.other _ _ ne_k1_k2 Q1
  replace M := hS.mo _ N_k2 M
  clear hS
  refine w_nil (xn_then (w_reg ?_))
  refine wl_mv (.tmp 5) (.int .i64 (z1)) (fun _ => rfl) e5 rfl ?_
  refine wl_f 79 5 (.tmp 7) (pt k2 0) (pt k2 6) ?_
  refine wl_l 77 (.tmp 20) (pt k2 6) (.agg #[.int .i64 o.ex.k, .int .i64 o.ex.op, .string o.ex.nm, .string o.ex.se, .int .i64 o.ex.v.k, .bool o.ex.v.d.b, .int .u64 o.ex.v.d.n0, .int .u64 o.ex.v.d.n1, .int .u64 o.ex.v.d.n2, .int .u64 o.ex.v.d.n3, .int .i64 o.ex.v.d.s, .bool o.ex.v.f, .string o.ex.v.t, .int .i64 o.ex.v.e, .int .i64 o.ex.sc, .int .i64 o.ex.po, .slice o.ex.pa o.ex.args.length o.ex.cap]) (run_row Q2 77 6 17 _ rfl Tryd.underlying77 rfl sz77) ?_
  refine wl_callx 41 [(.tmp 21), (.const (.int .i64 (60)))] _ [.agg #[.int .i64 o.ex.k, .int .i64 o.ex.op, .string o.ex.nm, .string o.ex.se, .int .i64 o.ex.v.k, .bool o.ex.v.d.b, .int .u64 o.ex.v.d.n0, .int .u64 o.ex.v.d.n1, .int .u64 o.ex.v.d.n2, .int .u64 o.ex.v.d.n3, .int .i64 o.ex.v.d.s, .bool o.ex.v.f, .string o.ex.v.t, .int .i64 o.ex.v.e, .int .i64 o.ex.sc, .int .i64 o.ex.po, .slice o.ex.pa o.ex.args.length o.ex.cap], .int .i64 (60)] rfl rfl (fun _ _ => by kernel_rfl) (es_n 60 (by omega) o.ex _ ((hE.ex o hmo).kp M.kp)) rfl ?_
  rintro e9 u43 ⟨z9, rfl, hq⟩
  refine ⟨_, rfl, ?_⟩
  replace Q1 := Q1.mo hq
  replace Q2 := Q2.mo hq
  replace M := M.trans hq
  clear hq
  refine wl_b .add 3 (.const (.int .i64 (1))) (.tmp 22) (.int .i64 (1)) (.int .i64 (z9)) (.int .i64 (IntKind.i64.wrap (1 + z9))) (addw _ _ _) ?_
  refine wl_b .add 3 (.tmp 19) (.tmp 23) (.int .i64 (z1)) (.int .i64 (IntKind.i64.wrap (1 + z9))) (.int .i64 (IntKind.i64.wrap (z1 + IntKind.i64.wrap (1 + z9)))) (addw _ _ _) ?_
  refine wl_m (.tmp 24) (.int .i64 (IntKind.i64.wrap (z1 + IntKind.i64.wrap (1 + z9)))) ?_
  refine w_nil (xn_blk (xn_then (w_reg ?_)))
  refine wl_bin (fun x y => do eqGuard .add 3 (.tmp 15) (.const (.int .i64 (1))) x y; binOp .add 3 x y) (.tmp 15) (.const (.int .i64 (1))) (.int .i64 ((i : Nat) : Int)) (.int .i64 (1)) (.int .i64 ((i + 1 : Nat) : Int)) (fun _ => rfl) e40_i rfl (add1r (k := i) (by omega) _ _ _) rfl ?_
  refine wl_m (.tmp 25) (.int .i64 ((i + 1 : Nat) : Int)) ?_
  refine w_nil ?_
  exact xn_loop (s.items.length - (i + 1)) (by omega) ⟨i + 1, rfl, by omega, e40_1, e40_2, e40_13, e40_14, rfl, Q1, ⟨IntKind.i64.wrap (z1 + IntKind.i64.wrap (1 + z9)), rfl⟩, M⟩
 ·skip
  have hid : decide (i < s.items.length) = false := decide_eq_false hil
  have hie : i = s.items.length := by omega
  obtain ⟨z1, e5⟩ := hz5
  refine w_seq (w_reg ?_)
  refine wl_bin (fun x y => do eqGuard .lss 3 (.tmp 15) (.tmp 14) x y; binOp .lss 3 x y) (.tmp 15) (.tmp 14) (.int .i64 ((i : Nat) : Int)) (.int .i64 ((s.items.length : Nat) : Int)) (.bool false) (fun _ => rfl) e40_i e40_14 (ltN hid _ _ _) rfl ?_
  refine w_nil (xn_then (w_seq (w_condF rfl (w_exit (xx_then (xx_then (xx_blk (xn_then (w_seq (w_seq (w_reg ?_)))))))))))
  refine wl_un (fun v => Instr.fieldAt 45 v 3) (.tmp 2) (pt k1 0) (pt k1 3) (fun _ => rfl) e40_2 (by kernel_rfl) rfl ?_
  refine wl_l 43 (.tmp 26) (pt k1 3) (.slice s.pk s.kids.length s.ck) (run_one Q1 43 3 rfl Tryd.underlying43 rfl) ?_
  refine wl_val (.int .i64 ((s.kids.length : Nat) : Int)) (len43 _ _ _ _ _ (by exact rfl) _ _ _ _ _ _) rfl ?_
  refine wl_m (.const (.int .i64 (0))) (.int .i64 (0)) ?_
  refine w_nil (xn_then (w_block ?_))
  have hz_j := hE.kd.1
  unfold maxLen at hz_j
  refine w_loop (fun m l w1 => ∃ j : Nat, m = s.kids.length - j ∧ j ≤ s.kids.length ∧ look l 1 = .int .i64 ((dd + 1 : Nat) : Int) ∧ look l 2 = pt k1 0 ∧ look l 27 = .slice s.pk s.kids.length s.ck ∧ look l 28 = .int .i64 ((s.kids.length : Nat) : Int) ∧ look l 29 = .int .i64 ((j : Nat) : Int) ∧ At w1 k1 (s.cells) ∧ (∃ z1 : Int, look l 5 = .int .i64 z1) ∧ Mo w w1) _ ⟨0, rfl, Nat.zero_le _, e40_1, e40_2, rfl, rfl, rfl, Q1, ⟨z1, e5⟩, M⟩ ?_
  clear Q1 M
  rintro m l80 wl80 ⟨j, rfl, hj, e80_1, e80_2, e80_27, e80_28, e80_i, Q1, hz5, M⟩
  by_cases hjl : j < s.kids.length
  ·skip
   have hjd : decide (j < s.kids.length) = true := decide_eq_true hjl
   obtain ⟨z1, e5⟩ := hz5
   obtain ⟨o, ho⟩ := get_of_lt hjl
   have hmo := List.mem_of_getElem? ho
   obtain ⟨bpj, opj, hppj, hRpj⟩ := D.SL.rw hE.kd ho
   refine w_seq (w_reg ?_)
   refine wl_bin (fun x y => do eqGuard .lss 3 (.tmp 29) (.tmp 28) x y; binOp .lss 3 x y) (.tmp 29) (.tmp 28) (.int .i64 ((j : Nat) : Int)) (.int .i64 ((s.kids.length : Nat) : Int)) (.bool true) (fun _ => rfl) e80_i e80_28 (ltN hjd _ _ _) rfl ?_
   refine w_nil (xn_then (w_seq (w_condT rfl (w_skip (xn_then (w_seq (w_block (w_seq (w_reg ?_)))))))))
   refine wl_bin (fun x y => Instr.indexAt 43 x y) (.tmp 27) (.tmp 29) (.slice s.pk s.kids.length s.ck) (.int .i64 ((j : Nat) : Int)) (pt bpj (opj + j * 4)) (fun _ => rfl) e80_27 e80_i (ix43 (i := j) hppj hjl _) rfl ?_
   refine wl_l 45 (.tmp 31) (pt bpj (opj + j * 4)) (.agg (o.cells).toArray) (D.run_partR (hRpj.mo M).at' 45 0 4 (o.cells) rfl Tryd.underlying45 rfl sz45) ?_
   refine wl_alloc 45 #[.string ⟨#[]⟩, .int .i64 0, .slice none 0 0, .slice none 0 0] rfl (fun _ => by kernel_rfl) rfl ?_
   intro k2 u81 hk hz hq Q2
   have ne_k1_k2 : k1 ≠ k2 := by have := Q1.lt; omega
   have N_k2 : w.heap.size ≤ k2 := by have := M.size; omega
   replace Q1 := Q1.mo hq
   replace M := M.trans hq
   clear hk hz hq
   refine wl_st 45 (.tmp 9) (.tmp 32) k2 0 ((o.cells).toArray) _ (o.cells) Q2 rfl rfl rfl rfl rfl sz45 rfl rfl rfl ?_
   intro u82 hS Qn
   replace Q2 := Qn
   clear Qn
   replace Q1 := hS.other _ _ ne_k1_k2 Q1
   replace M := hS.mo _ N_k2 M
   clear hS
   refine w_nil (xn_then (w_reg ?_))
   refine wl_mv (.tmp 5) (.int .i64 (z1)) (fun _ => rfl) e5 rfl ?_
   refine wl_l 45 (.tmp 9) (pt k2 0) (.agg (o.cells).toArray) (run_row Q2 45 0 4 (o.cells) rfl Tryd.underlying45 rfl sz45) ?_
   refine wl_mv (.tmp 1) (.int .i64 ((dd + 1 : Nat) : Int)) (fun _ => rfl) e80_1 rfl ?_
   refine wl_b .sub 3 (.tmp 35) (.const (.int .i64 (1))) (.int .i64 ((dd + 1 : Nat) : Int)) (.int .i64 (1)) (.int .i64 ((dd : Nat) : Int)) (sub1n hm _ _ _) ?_
   refine wl_callx 24 [(.tmp 34), (.tmp 36)] _ [.agg (o.cells).toArray, .int .i64 ((dd : Nat) : Int)] rfl rfl (fun _ _ => by kernel_rfl) (hrec o _ ((hE.kr o hmo).kp M.kp)) rfl ?_
   rintro e9 u83 ⟨z9, rfl, hq⟩
   refine ⟨_, rfl, ?_⟩
   replace Q1 := Q1.mo hq
   replace Q2 := Q2.mo hq
   replace M := M.trans hq
   clear hq
   refine wl_b .add 3 (.tmp 33) (.tmp 37) (.int .i64 (z1)) (.int .i64 (z9)) (.int .i64 (IntKind.i64.wrap (z1 + z9))) (addw _ _ _) ?_
   refine wl_m (.tmp 38) (.int .i64 (IntKind.i64.wrap (z1 + z9))) ?_
   refine w_nil (xn_blk (xn_then (w_reg ?_)))
   refine wl_bin (fun x y => do eqGuard .add 3 (.tmp 29) (.const (.int .i64 (1))) x y; binOp .add 3 x y) (.tmp 29) (.const (.int .i64 (1))) (.int .i64 ((j : Nat) : Int)) (.int .i64 (1)) (.int .i64 ((j + 1 : Nat) : Int)) (fun _ => rfl) e80_i rfl (add1r (k := j) (by omega) _ _ _) rfl ?_
   refine wl_m (.tmp 39) (.int .i64 ((j + 1 : Nat) : Int)) ?_
   refine w_nil ?_
   exact xn_loop (s.kids.length - (j + 1)) (by omega) ⟨j + 1, rfl, by omega, e80_1, e80_2, e80_27, e80_28, rfl, Q1, ⟨IntKind.i64.wrap (z1 + z9), rfl⟩, M⟩
  ·skip
   have hjd : decide (j < s.kids.length) = false := decide_eq_false hjl
   have hje : j = s.kids.length := by omega
   obtain ⟨z1, e5⟩ := hz5
   refine w_seq (w_reg ?_)
   refine wl_bin (fun x y => do eqGuard .lss 3 (.tmp 29) (.tmp 28) x y; binOp .lss 3 x y) (.tmp 29) (.tmp 28) (.int .i64 ((j : Nat) : Int)) (.int .i64 ((s.kids.length : Nat) : Int)) (.bool false) (fun _ => rfl) e80_i e80_28 (ltN hjd _ _ _) rfl ?_
   refine w_nil (xn_then (w_seq (w_condF rfl (w_exit (xx_then (xx_then (xx_blk (xn_then (w_seq (w_reg ?_))))))))))
   refine wl_mv (.tmp 5) (.int .i64 (z1)) (fun _ => rfl) e5 rfl ?_
   refine wl_m (.tmp 40) (.int .i64 (z1)) ?_
   refine w_nil (xn_then (w_ret ?_))
   exact w_ret1 _ (.int .i64 (z1)) rfl rfl ⟨_, rfl, M⟩
theorem si_n : ∀ (m : Nat), m ≤ 1000 → ∀ (e : Se) (w : World), LSe w e → Calls Tryd.prog 24 #[.agg e.cells.toArray, .int .i64 ((m : Nat) : Int)] w fun e9 w' => ∃ z : Int, e9 = .returned (.int .i64 z) ∧ Mo w w'
 | 0, _, _, w, _ => si_0 w
 | m + 1, h, _, w, hE => si_s (by omega) (fun o w' ho => si_n m (by omega) o w' ho) w hE
theorem own_cap {w : World} {N e sz : Nat} {pa : Option Addr} {cap n : Nat} {xs : List Value} (h : w.ownsRow N e sz (.slice pa n cap) n xs) : n ≤ cap := by
 rcases h.2 with ⟨e, h0⟩ | ⟨g, c2, cur, e, hg, hb, hnc, hcm, hcs, htk⟩
 ·rw [h0]; exact Nat.zero_le _
 ·cases e; exact hnc
theorem rFlat_c (d : Df) {w : World} (hD : LDf w d) : Calls Tryd.prog 26 #[.agg (d.cells).toArray] w fun e w' => ∃ pa cap, e = .returned (.slice pa (fla d).length cap) ∧ SL w' 5 S5.cells pa (fla d) ∧ (fla d).length ≤ cap ∧ Mo w w' := by
 refine w_enter 6 Tryd.func26 Tryd.ntmps26 rfl rfl ?_
 have M : Mo w w := Mo.refl _
 refine w_seq (w_reg ?_)
 refine wl_box 49 (.tmp 0) _ (((d.cells).toArray)) rfl rfl (fun _ => by kernel_rfl) rfl ?_
 intro k1 u1 hk hz hq Q1
 have N_k1 : w.heap.size ≤ k1 := by have := M.size; omega
 replace M := M.trans hq
 clear hk hz hq
 refine wl_m (.const (.slice none 0 0)) (.slice none 0 0) ?_
 refine w_nil (xn_then (w_seq (w_reg ?_)))
 refine wl_f 49 1 (.tmp 1) (pt k1 0) (pt k1 1) ?_
 refine wl_l 45 (.tmp 3) (pt k1 1) (.agg (d.rt.cells).toArray) (run_row Q1 45 1 4 (d.rt.cells) rfl Tryd.underlying45 rfl sz45) ?_
 refine wl_callx 48 [(.const (.slice none 0 0)), (.tmp 4), (.const (.int .i64 (-1))), (.const (.int .i64 (1)))] _ [.slice none 0 0, .agg (d.rt.cells).toArray, .int .i64 (-1), .int .i64 (1)] rfl rfl (fun _ _ => by kernel_rfl) (rflat_n d.rt hD.rt [] (-1) 1 none 0 _ M ⟨rfl, Or.inl ⟨rfl, rfl⟩⟩ (by simp) (by omega) (by omega)) rfl ?_
 rintro e9 u2 ⟨pa, cap, rfl, hG⟩
 refine ⟨_, rfl, ?_⟩
 replace M := hG.mo
 refine wl_m (.tmp 5) (.slice pa (fla d).length cap) ?_
 refine w_nil (xn_then (w_ret ?_))
 exact w_ret1 _ (.slice pa (fla d).length cap) rfl rfl ⟨pa, cap, rfl, own_sl (cells := S5.cells) (fun _ => rfl) (Nat.le_trans (fla_len d) (by decide)) hG.ow, own_cap hG.ow, M⟩
end Go.Proofs.YtnffhcjmpjajlaaDoor
namespace Go.Proofs.YtnffhcjmpjajlaaDoor.V
open Go.RowKit D
structure Nms (L : List S5) : Prop where
 root : ∀ x : S5, L[0]? = some x → x.nm = ⟨#[]⟩
 sec : ∀ (n : Nat) (x : S5), L[n]? = some x → n ≠ 0 → nam x.nm = true
 kid : ∀ (m n : Nat) (x y : S5), m < n → L[m]? = some x → L[n]? = some y → 0 ≤ y.pr → x.pr = y.pr → x.nm ≠ y.nm
 itm : ∀ (n : Nat) (x : S5) (i : Nat) (y : It), L[n]? = some x → x.items[i]? = some y → nam y.nm = true
 two : ∀ (n : Nat) (x : S5) (i j : Nat) (y z : It), L[n]? = some x → i < j → x.items[i]? = some y → x.items[j]? = some z → y.nm ≠ z.nm
theorem er_none {b : Value} {e : Int} (h : erY b e = none) : e = 0 := by
 unfold erY at h
 split at h
 ·assumption
 ·cases h
theorem lk_no {al : List (ByteArray × Int)} {s : ByteArray} (h : lk al s = none) : ∀ q ∈ al, q.1 ≠ s := by
 intro q hq e
 unfold lk at h
 rw [Option.map_eq_none_iff, List.find?_eq_none] at h
 exact h q hq (decide_eq_true e)
theorem kdA_mem {L : List S5} {p : Nat} {m : Nat} {x : S5} (hx : L[m]? = some x) (hp : x.pr = p) : ∀ n, m < n → (x.nm, (m : Int)) ∈ kdA L p n
 | 0, h => absurd h (Nat.not_lt_zero m)
 | n + 1, h => by
  rw [kdA]
  by_cases e : m = n
  ·subst e; rw [hx]; dsimp only; rw [if_pos hp]; exact List.mem_cons_self ..
  ·have ih := kdA_mem hx hp n (by omega)
   cases hL : L[n]? with
   | none => exact ih
   | some y =>
    dsimp only
    split
    ·exact List.mem_cons_of_mem _ ih
    ·exact ih
theorem itA_mem {l : List It} {i : Nat} {y : It} (hy : l[i]? = some y) : ∀ n, i < n → (y.nm, y.k) ∈ itA l n
 | 0, h => absurd h (Nat.not_lt_zero i)
 | n + 1, h => by
  rw [itA]
  by_cases e : i = n
  ·subst e; rw [hy]; exact List.mem_cons_self ..
  ·have ih := itA_mem hy n (by omega)
   cases hL : l[n]? with
   | none => exact ih
   | some z => exact List.mem_cons_of_mem _ ih
theorem fs_all {α : Type} {g : Nat → Option α} {N : Nat} (h : (List.range N).findSome? g = none) : ∀ j, j < N → g j = none := fun j hj => List.findSome?_eq_none_iff.1 h j (List.mem_range.2 hj)
theorem may_nam {s : ByteArray} (h : may s = true) : nam s = true := by unfold may at h; simp at h; exact h.1
theorem nms_of {d : Df} (h : chk d = none) : Nms (fla d) ∧ (fla d).length ≤ 16 := by
 unfold chk at h
 rw [Option.or_eq_none_iff, Option.or_eq_none_iff, Option.or_eq_none_iff] at h
 obtain ⟨h0, _, hse, _⟩ := h
 have hw := whE_0 (er_none h0)
 refine ⟨?_, hw.2.2⟩
 have hall := fs_all hse
 have key : ∀ n x, (fla d)[n]? = some x → nsE (fla d) ⟨tbA d.tb d.tb.length, stI (fla d) n 0, stK (fla d) n⟩ n x = 0 ∧ ∀ i y, x.items[i]? = some y → itE (fla d) (stI (fla d) n i) n y = 0 := fun n x hx => by
  have h1 := hall n (lt_of_get hx)
  rw [seG_of hx, Option.or_eq_none_iff] at h1
  refine ⟨?_, fun i y hy => ?_⟩
  ·have h2 := er_none h1.1
   unfold seE at h2
   split at h2
   ·assumption
   ·exact h2
  ·have h2 := fs_all h1.2 i (lt_of_get hy)
   rw [ixG_of hx hy] at h2
   exact er_none h2
 refine ⟨fun x hx => ?_, fun n x hx h0 => ?_, fun m n x y hmn hx hy h0 hp => ?_, fun n x i y hx hy => ?_, fun n x i j y z hx hij hy hz => ?_⟩
 ·have h1 := (key 0 x hx).1
  unfold nsE at h1
  rw [if_pos rfl] at h1
  split at h1
  ·assumption
  ·cases h1
 ·have h1 := (key n x hx).1
  unfold nsE at h1
  rw [if_neg h0] at h1
  split at h1
  ·exact may_nam (by assumption)
  ·cases h1
 ·have h1 := (key n y hy).1
  unfold nsE at h1
  rw [if_neg (by omega)] at h1
  split at h1
  ·split at h1
   ·cases h1
   ·rename_i h3
    simp only [Bool.or_eq_true, not_or] at h3
    have h4' : lk (stK (fla d) n y.pr.toNat) y.nm = none := by simpa using h3.1
    have h4 : lk (kdA (fla d) y.pr.toNat n) y.nm = none := h4'
    exact lk_no h4 _ (kdA_mem hx (by omega) n hmn)
  ·cases h1
 ·have h1 := (key n x hx).2 i y hy
  unfold itE at h1
  split at h1
  ·exact may_nam (by assumption)
  ·cases h1
 ·have h1 := (key n x hx).2 j z hz
  unfold itE at h1
  split at h1
  ·split at h1
   ·cases h1
   ·rename_i h3
    have h4 : tkn (fla d) (stI (fla d) n j) n z.nm = false := by simpa using h3
    unfold tkn at h4
    rw [List.any_eq_false] at h4
    have h5 := h4 n (by rw [anc]; exact List.mem_cons_self ..)
    simp only [Bool.or_eq_true, not_or] at h5
    have h6 : lk (stI (fla d) n j n) z.nm = none := isn (by simpa using h5.2)
    rw [stI_self, itO_of hx] at h6
    exact lk_no h6 _ (itA_mem hy j hij)
  ·cases h1
theorem nmF_at {s : ByteArray} : ∀ (n k : Nat), nmF s n k = true → ∀ j, j < n → ltr (bt s (k + j)) = true ∨ dgt (bt s (k + j)) = true
 | 0, _, _, j, hj => absurd hj (Nat.not_lt_zero j)
 | n + 1, k, h, j, hj => by
  rw [nmF, Bool.and_eq_true] at h
  cases j with
  | zero => simpa using h.1
  | succ j => have := nmF_at n (k + 1) h.2 j (by omega); rw [show k + (j + 1) = k + 1 + j by omega]; exact this
theorem nam_at {s : ByteArray} (h : nam s = true) : 0 < s.size ∧ s.size ≤ 32 ∧ ∀ j, j < s.size → bt s j ≠ 46 ∧ bt s j ≠ 47 ∧ bt s j ≠ 58 := by
 unfold nam at h
 simp only [Bool.and_eq_true, Bool.not_eq_true', decide_eq_false_iff_not] at h
 obtain ⟨⟨⟨h1, h2⟩, _⟩, h4⟩ := h
 refine ⟨by omega, by omega, fun j hj => ?_⟩
 unfold nmAy at h4
 have := nmF_at _ _ h4 j (by omega)
 rw [Nat.zero_add] at this
 unfold ltr dgt at this
 simp at this
 omega
theorem nam_bl {s : ByteArray} (h : nam s = true) : ∀ c ∈ bl s, c ≠ 46 ∧ c ≠ 47 ∧ c ≠ 58 := by
 intro c hc
 obtain ⟨j, hj⟩ := List.getElem?_of_mem hc
 have hlt : j < s.size := by rw [← bl_len]; exact lt_of_get hj
 have h1 := bl_at hlt
 rw [hj] at h1
 have h2 := (nam_at h).2.2 j hlt
 have h3 := bt_bd s j
 have h4 : c.toNat = (bt s j).toNat := by
  rw [Option.some.inj h1, UInt8.toNat_ofNat_of_lt' (by show _ < 256; omega)]
 refine ⟨fun e => ?_, fun e => ?_, fun e => ?_⟩ <;> (rw [e] at h4; have := h4; simp at this; omega)
theorem cut_at {a b : List UInt8} {c : UInt8} {x y : List UInt8} (ha : c ∉ a) (hb : c ∉ b) (h : a ++ c :: x = b ++ c :: y) : a = b ∧ x = y := by
 induction a generalizing b with
 | nil =>
  cases b with
  | nil => simp at h; exact ⟨rfl, h⟩
  | cons d b => simp at h; exact absurd (h.1 ▸ List.mem_cons_self ..) hb
 | cons e a ih =>
  cases b with
  | nil => simp at h; exact absurd (h.1.symm ▸ List.mem_cons_self ..) ha
  | cons d b =>
   simp at h
   obtain ⟨rfl, h2⟩ := h
   have := ih (fun q => ha (List.mem_cons_of_mem _ q)) (fun q => hb (List.mem_cons_of_mem _ q)) h2
   exact ⟨by rw [this.1], this.2⟩
theorem dg_step {v : ByteArray} {i : Nat} {n : Int} {c : UInt8} {d : Nat} (hi : (bl v)[i]? = some c) (hc : c = UInt8.ofNat (48 + d)) (hd : d < 10) (hn : n ≤ 9007199254740992) : dgF v (v.size - i) i n = dgF v (v.size - (i + 1)) (i + 1) (10 * n + (d : Int)) := by
 have hlt : i < v.size := by rw [← bl_len]; exact lt_of_get hi
 have h1 := bl_at hlt
 rw [hi] at h1
 have h3 := bt_bd v i
 have h4 : bt v i = 48 + (d : Int) := by
  have h5 := congrArg UInt8.toNat (Option.some.inj h1)
  rw [UInt8.toNat_ofNat_of_lt' (show (bt v i).toNat < 256 by omega), hc, UInt8.toNat_ofNat_of_lt' (show 48 + d < 256 by omega)] at h5
  omega
 have hcc : dgC v i n = true := by unfold dgC; simp; omega
 rw [dg_on hcc, h4, show 48 + (d : Int) - 48 = (d : Int) by omega]
theorem dg_read {v : ByteArray} : ∀ (k : Nat) (n : Int) (u : List UInt8), n.toNat ≤ k → 0 ≤ n → n ≤ 9007199254740992 → bl v = Lib.itoa n ++ u → dgF v v.size 0 0 = dgF v (v.size - (Lib.itoa n).length) (Lib.itoa n).length n
 | 0, n, u, hk, h0, h1, e => by
  have : n = 0 := by omega
  subst this
  rw [it_one (by omega) (by omega)] at e ⊢
  exact dg_step (i := 0) (n := 0) (d := 0) (by rw [e]; rfl) rfl (by omega) (by omega)
 | k + 1, n, u, hk, h0, h1, e => by
  by_cases q : n ≤ 9
  ·rw [it_one h0 q] at e ⊢
   have := dg_step (v := v) (i := 0) (n := 0) (d := n.toNat) (by rw [e]; rfl) rfl (by omega) (by omega)
   rw [show 10 * (0 : Int) + (n.toNat : Int) = n by omega] at this
   exact this
  ·have hb := it_big (n := n / 10) (d := n % 10) (by omega) (by omega) (by omega)
   rw [show 10 * (n / 10) + n % 10 = n by omega] at hb
   rw [hb, List.append_assoc] at e
   rw [dg_read k (n / 10) _ (by omega) (by omega) (by omega) e]
   have := dg_step (v := v) (i := (Lib.itoa (n / 10)).length) (n := n / 10) (c := UInt8.ofNat (48 + (n % 10).toNat)) (d := (n % 10).toNat) (by rw [e, List.getElem?_append_right (Nat.le_refl _), Nat.sub_self]; rfl) rfl (by omega) (by omega)
   rw [this, hb, List.length_append]
   rw [show 10 * (n / 10) + ((n % 10).toNat : Int) = n by omega]
   rfl
def ndg (u : ByteArray) : Prop := ∀ c r, bl u = c :: r → c = 46 ∨ c = 47
theorem cid_r {n : Int} {u : ByteArray} (hi : idk n = true) (hu : ndg u) : cid (itB n ++ u) = some (n, u) := by
 have hb : 1 ≤ n ∧ n ≤ 9007199254740992 := by unfold idk at hi; simp at hi; exact hi
 have e : bl (itB n ++ u) = Lib.itoa n ++ bl u := by rw [bl_app, bl_it]
 have hsz : (itB n ++ u).size = (Lib.itoa n).length + u.size := by rw [← bl_len, e, List.length_append, bl_len]
 have h1 : dgR (itB n ++ u) = (n, (Lib.itoa n).length) := by
  unfold dgR
  rw [dg_read n.toNat n (bl u) (Nat.le_refl _) (by omega) hb.2 e]
  apply dg_stop
  unfold dgC
  cases hbu : bl u with
  | nil =>
   have : u.size = 0 := by rw [← bl_len, hbu]; rfl
   rw [decide_eq_false (by omega)]; rfl
  | cons c r =>
   have hlt : (Lib.itoa n).length < (itB n ++ u).size := by
    have : u.size = r.length + 1 := by rw [← bl_len, hbu]; rfl
    omega
   have h2 := bl_at hlt
   rw [e, List.getElem?_append_right (Nat.le_refl _), Nat.sub_self, hbu] at h2
   have h3 := bt_bd (itB n ++ u) (Lib.itoa n).length
   have h4 := congrArg UInt8.toNat (Option.some.inj h2)
   rw [UInt8.toNat_ofNat_of_lt' (show (bt (itB n ++ u) (Lib.itoa n).length).toNat < 256 by omega)] at h4
   have h5 : c.toNat = 46 ∨ c.toNat = 47 := by rcases hu c r hbu with q | q <;> (rw [q]; decide)
   rw [decide_eq_false (show ¬ 48 ≤ bt (itB n ++ u) (Lib.itoa n).length by omega)]
   simp
 have h2 := cid_s hi (congrArg Prod.fst h1) (v := itB n ++ u) (u := u) rfl
 rw [h2, h1]
 dsimp only
 have : (itB n ++ u).extract (Lib.itoa n).length (itB n ++ u).size = u := by
  apply ba_ext; rw [bl_ext, e, List.drop_left]
 rw [this]
theorem ndg_nil : ndg ⟨#[]⟩ := fun c r h => by cases h
theorem ndg_46 (u : ByteArray) : ndg (⟨#[46]⟩ ++ u) := fun c r h => by
 rw [bl_app] at h
 have : (46 : UInt8) :: bl u = c :: r := h
 simp at this
 exact .inl this.1.symm
theorem hd_bl {nm x : ByteArray} : bl (catB (catB ⟨#[47]⟩ nm) ⟨#[58]⟩ ++ x) = 47 :: (bl nm ++ 58 :: bl x) := by
 unfold catB
 rw [bl_app, bl_app, bl_app]
 show ([47] ++ bl nm ++ [58]) ++ bl x = _
 simp
theorem ndg_47 {nm x : ByteArray} : ndg (catB (catB ⟨#[47]⟩ nm) ⟨#[58]⟩ ++ x) := fun c r h => by
 rw [hd_bl] at h
 simp at h
 exact .inr h.1.symm
theorem ud_inv {l : List S5} {r : Ro} {y : S5} (h : ckR l r = 0) (h0 : ¬ r.s = 0) (hy : l[r.s.toNat]? = some y) : udR y.dp (parU l r) r.s (idR y.dp r) = r := by
 obtain ⟨hsn, _⟩ := ck_0 h
 have hz : r.s.toNat ≠ 0 := by obtain ⟨_, a, _⟩ := ck_0 h; omega
 obtain ⟨_, _, _, _, _, hd2, hd4⟩ := pr_at hsn hy hz
 unfold parU
 rw [dpA_at hy]
 obtain ⟨s, a, b, c⟩ := r
 rcases dcase hd2 hd4 with e | e | e <;> (rw [e]; simp [udR, setR, idR])
theorem vz_row {l : List S5} {s : ByteArray} : ∀ (k : Nat) (q : Ro) (R : ByteArray), q.s.toNat < k → ckR l q = 0 → s = txW l q ++ R → ndg R → (¬ q.s = 0 → vz l s q.s.toNat = ⟨q, R, true⟩) ∧ (q.s = 0 → R = s ∧ q = ro0)
 | 0, q, R, h, _, _, _ => absurd h (Nat.not_lt_zero _)
 | k + 1, q, R, h, hc, hs, hR => by
  obtain ⟨hsn, a0, a1, hi⟩ := ck_0 hc
  obtain ⟨y, hy⟩ := get_of_lt (show q.s.toNat < l.length by omega)
  refine ⟨fun h0 => ?_, fun h0 => ?_⟩
  ·obtain ⟨x, hx, p0, p1, hd, hd2, hd4⟩ := pr_at hsn hy (by omega)
   rw [dpA_at hy] at hi
   have hik := id_ok hd2 hd4 hi
   have hpc := par_ck hc h0
   have hps : (parU l q).s = y.pr := prA_at hy
   have hseg := hdz_seg (z := q.s.toNat) hy (by omega) hc (by omega)
   rw [hd_nm hy] at hseg
   have hs2 : s = txW l (parU l q) ++ (catB (catB ⟨#[47]⟩ y.nm) ⟨#[58]⟩ ++ (itB (idR y.dp q) ++ R)) := by
    rw [hs, txW_up hc h0, hseg]; simp only [ByteArray.append_assoc]
   have hcst : cst (catB (catB ⟨#[47]⟩ y.nm) ⟨#[58]⟩ ++ (itB (idR y.dp q) ++ R)) y.nm = some (idR y.dp q, R) := by
    unfold cst; rw [bgn_y, Option.bind_some]; exact cid_r hik hR
   obtain ⟨i1, i2⟩ := vz_row k (parU l q) _ (by rw [hps]; omega) hpc hs2 ndg_47
   have hvp : (vz l s y.pr.toNat).s = catB (catB ⟨#[47]⟩ y.nm) ⟨#[58]⟩ ++ (itB (idR y.dp q) ++ R) ∧ (vz l s y.pr.toNat).r = parU l q := by
    rw [hps] at i1 i2
    by_cases hp : y.pr = 0
    ·obtain ⟨e1, e2⟩ := i2 hp
     rw [hp]
     exact ⟨e1.symm, e2.symm⟩
    ·rw [i1 hp]; exact ⟨rfl, rfl⟩
   rw [vz_up hsn hy (by omega), hvp.1, hcst, hvp.2]
   have hq : ((q.s.toNat : Nat) : Int) = q.s := by omega
   dsimp only
   rw [hq, ud_inv hc h0 hy]
  ·have e1 := txW_0 (l := l) h0
   rw [e1] at hs
   refine ⟨by rw [hs]; exact (ByteArray.empty_append).symm, ?_⟩
   have hz := ids_zer hi
   rw [show q.s.toNat = 0 by omega] at hz hy
   rw [dpA_at hy, dp_root hsn hy] at hz
   obtain ⟨za, zb, zc⟩ := hz
   obtain ⟨s', a, b, c⟩ := q
   have := za (by omega); have := zb (by omega); have := zc (by omega)
   unfold ro0
   simp_all
end Go.Proofs.YtnffhcjmpjajlaaDoor.V
namespace Go.Proofs.YtnffhcjmpjajlaaDoor.V
open Go.RowKit D
theorem ar_D {l : List S5} : ∀ (k : Nat) (r : Ro) (R0 : ByteArray), r.s.toNat < k → ckR l r = 0 → ∀ (z : Int) (q : Ro), arO l z r = some q → ckR l q = 0 ∧ q.s = z ∧ ∃ Rq, txW l r ++ R0 = txW l q ++ Rq ∧ ((q = r ∧ Rq = R0) ∨ ∃ q1 R1, arO l q1.s r = some q1 ∧ ckR l q1 = 0 ∧ ¬ q1.s = 0 ∧ parU l q1 = q ∧ Rq = seg l q1 ++ R1)
 | 0, r, R0, h, _, _, _, _ => absurd h (Nat.not_lt_zero _)
 | k + 1, r, R0, h, hc, z, q, e => by
  by_cases hz : r.s = z
  ·rw [ar_hit hz] at e
   cases e
   exact ⟨hc, hz, R0, rfl, .inl ⟨rfl, rfl⟩⟩
  ·cases hp : parO l r with
   | false => rw [ar_no hz hp] at e; cases e
   | true =>
    have ht := par_t hp
    rw [ar_up hz hp] at e
    obtain ⟨i1, i2, Rq, i3, i4⟩ := ar_D k (parU l r) (seg l r ++ R0) (by omega) (par_ck hc ht.2.1) z q e
    refine ⟨i1, i2, Rq, ?_, ?_⟩
    ·rw [← i3, txW_up hc ht.2.1, ByteArray.append_assoc]
    ·rcases i4 with ⟨rfl, rfl⟩ | ⟨q1, R1, j1, j2, j3, j4, j5⟩
     ·exact .inr ⟨r, R0, ar_hit rfl, hc, ht.2.1, rfl, rfl⟩
     ·have hin := ar_in _ _ _ (Nat.le_refl _) j1
      exact .inr ⟨q1, R1, by rw [ar_up (by omega) hp]; exact j1, j2, j3, j4, j5⟩
theorem ar_root {l : List S5} : ∀ (k : Nat) (r : Ro), r.s.toNat < k → ckR l r = 0 → ∃ q, arO l 0 r = some q
 | 0, r, h, _ => absurd h (Nat.not_lt_zero _)
 | k + 1, r, h, hc => by
  by_cases hz : r.s = 0
  ·exact ⟨r, ar_hit hz⟩
  ·have hp := par_v' hc hz
   have ht := par_t hp
   rw [ar_up hz hp]
   exact ar_root k (parU l r) (by omega) (par_ck hc hz)
theorem seg_hd {l : List S5} {q : Ro} (h : ckR l q = 0) (h0 : ¬ q.s = 0) : ∃ y, l[q.s.toNat]? = some y ∧ seg l q = catB (catB ⟨#[47]⟩ y.nm) ⟨#[58]⟩ ++ itB (idR y.dp q) ∧ (parU l q).s = y.pr ∧ 0 ≤ q.s := by
 obtain ⟨hsn, a0, a1, _⟩ := ck_0 h
 obtain ⟨y, hy⟩ := get_of_lt (show q.s.toNat < l.length by omega)
 have := hdz_seg (z := q.s.toNat) hy (by omega) h (by omega)
 rw [hd_nm hy] at this
 exact ⟨y, hy, this, prA_at hy, a0⟩
theorem no58 {s : ByteArray} (h : nam s = true) : (58 : UInt8) ∉ bl s := fun q => (nam_bl h 58 q).2.2 rfl
section
variable {l : List S5} {s R0 : ByteArray} {r : Ro}
theorem only_up (hN : Nms l) (hr : ckR l r = 0) (hs : s = txW l r ++ R0) (hR : ndg R0) (hR2 : ∀ nm, cst R0 nm = none) : ∀ (k z : Nat) (y : S5), z < k → l[z]? = some y → (vz l s z).b = true → ∃ q, arO l (z : Int) r = some q
 | 0, z, y, h, _, _ => absurd h (Nat.not_lt_zero z)
 | k + 1, z, y, h, hy, hv => by
  obtain ⟨hsn, _⟩ := ck_0 hr
  by_cases h0 : z = 0
  ·subst h0; exact ar_root _ r (Nat.lt_succ_self _) hr
  ·obtain ⟨x, hx, p0, p1, hd, hd2, hd4⟩ := pr_at hsn hy h0
   have hpp : ((y.pr.toNat : Nat) : Int) = y.pr := by omega
   rw [vz_up hsn hy h0] at hv
   cases hc : cst (vz l s y.pr.toNat).s y.nm with
   | none => rw [hc] at hv; cases hv
   | some c =>
    have hb : (vz l s y.pr.toNat).b = true := by
     cases q : (vz l s y.pr.toNat).b with
     | true => rfl
     | false =>
      have := ((key hsn s (y.pr.toNat + 1) y.pr.toNat x (by omega) hx).2 q).1
      rw [this, show bg0.s = ⟨#[]⟩ from rfl, cst_0] at hc
      cases hc
    obtain ⟨qp, hqp⟩ := only_up hN hr hs hR hR2 k y.pr.toNat x (by omega) hx hb
    obtain ⟨d1, d2, Rq, d3, d4⟩ := ar_D (r.s.toNat + 1) r R0 (Nat.lt_succ_self _) hr _ qp hqp
    rw [← hs] at d3
    have hnd : ndg Rq := by
     rcases d4 with ⟨_, e⟩ | ⟨q1, R1, _, j2, j3, _, e⟩
     ·rw [e]; exact hR
     ·obtain ⟨y1, _, hse, _⟩ := seg_hd j2 j3
      rw [e, hse, ByteArray.append_assoc]; exact ndg_47
    have hvs : (vz l s y.pr.toNat).s = Rq := by
     obtain ⟨v1, v2⟩ := vz_row (qp.s.toNat + 1) qp Rq (Nat.lt_succ_self _) d1 d3 hnd
     have hq : qp.s.toNat = y.pr.toNat := by omega
     by_cases hz : qp.s = 0
     ·have : y.pr.toNat = 0 := by omega
      rw [this, (v2 hz).1]; rfl
     ·have := v1 hz
      rw [hq] at this
      rw [this]
    rw [hvs] at hc
    rcases d4 with ⟨_, e⟩ | ⟨q1, R1, j1, j2, j3, j4, e⟩
    ·rw [e, hR2] at hc; cases hc
    ·obtain ⟨y1, hy1, hse, hps, hq0⟩ := seg_hd j2 j3
     obtain ⟨v, hv1, _⟩ := cst_inv (n := c.1) (u := c.2) hc
     have hbe := bgn_s hv1
     rw [e, hse, ByteArray.append_assoc] at hbe
     have hbl := congrArg bl hbe
     rw [hd_bl, hd_bl] at hbl
     have hn1 := hN.sec _ _ hy1 (by omega)
     have hn2 := hN.sec _ _ hy h0
     have hcut := cut_at (no58 hn1) (no58 hn2) (List.cons.inj hbl).2
     have hnm : y1.nm = y.nm := ba_ext hcut.1
     have hpr : y1.pr = y.pr := by rw [← hps, j4]; omega
     have hzz : q1.s.toNat = z := by
      rcases Nat.lt_trichotomy q1.s.toNat z with q | q | q
      ·exact absurd hnm (hN.kid _ _ _ _ q hy1 hy (by omega) hpr)
      ·exact q
      ·exact absurd hnm.symm (hN.kid _ _ _ _ q hy hy1 (by omega) hpr.symm)
     have : q1.s = (z : Int) := by omega
     rw [this] at j1
     exact ⟨q1, j1⟩
theorem bqs_get (hs : snd l = true) {i : Nat} (hi : i < l.length) : (bqs l s)[i]? = some (bqS l s (bqL l s i) i) := by
 unfold bqs; rw [if_pos hs]; exact bqL_get _ _ hi
theorem known (hN : Nms l) (hr : ckR l r = 0) (h0 : ¬ r.s = 0) (hs : s = txW l r ++ R0) (hR : ndg R0) (hR2 : ∀ nm, cst R0 nm = none) : (bqs l s)[r.s.toNat]? = some ⟨r, R0, true⟩ ∧ ∀ i, i < r.s.toNat → ∀ g, (bqs l s)[i]? = some g → g.b = true → ∃ c t, bl g.s = c :: t ∧ c ≠ 46 := by
 obtain ⟨hsn, a0, a1, _⟩ := ck_0 hr
 refine ⟨?_, fun i hi g hg hb => ?_⟩
 ·rw [bqs_get hsn (by omega)]
  have := (vz_row (r.s.toNat + 1) r R0 (Nat.lt_succ_self _) hr hs hR).1 h0
  unfold vz at this
  rw [if_neg (by omega)] at this
  rw [this]
 ·obtain ⟨y, hy⟩ := get_of_lt (show i < l.length by omega)
  rw [bqs_get hsn (lt_of_get hy)] at hg
  have hg := Option.some.inj hg
  by_cases hi0 : i = 0
  ·subst hi0
   rw [bqS_0 hy] at hg
   subst hg
   have hbt := bgB_t hb
   obtain ⟨q, hq⟩ := ar_root _ r (Nat.lt_succ_self _) hr
   obtain ⟨d1, d2, Rq, d3, d4⟩ := ar_D (r.s.toNat + 1) r R0 (Nat.lt_succ_self _) hr _ q hq
   rcases d4 with ⟨e, _⟩ | ⟨q1, R1, j1, j2, j3, j4, e⟩
   ·rw [e] at d2; exact absurd d2 h0
   ·obtain ⟨y1, hy1, hse, hps, hq0⟩ := seg_hd j2 j3
    have e1 : s = catB (catB ⟨#[47]⟩ y1.nm) ⟨#[58]⟩ ++ (itB (idR y1.dp q1) ++ R1) := by
     rw [hs, d3, txW_0 d2, e, hse, ByteArray.append_assoc]; exact ByteArray.empty_append
    have e2 := bgn_s hbt
    have hbl := congrArg bl (e2.symm.trans e1)
    rw [hd_bl, bl_app] at hbl
    have hbl2 : (47 : UInt8) :: bl (bgS s ⟨#[47]⟩) = 47 :: (bl y1.nm ++ 58 :: bl (itB (idR y1.dp q1) ++ R1)) := hbl
    have hbl3 := (List.cons.inj hbl2).2
    have hn1 := hN.sec _ _ hy1 (by omega)
    have hpos := (nam_at hn1).1
    cases hb1 : bl y1.nm with
    | nil => rw [← bl_len, hb1] at hpos; exact absurd hpos (Nat.lt_irrefl _)
    | cons c t =>
     rw [hb1] at hbl3
     rw [hbt]
     exact ⟨c, _, hbl3, (nam_bl hn1 c (by rw [hb1]; exact List.mem_cons_self ..)).1⟩
  ·have hv : vz l s i = g := by unfold vz; rw [if_neg hi0]; exact hg
   obtain ⟨q, hq⟩ := only_up hN hr hs hR hR2 (i + 1) i y (Nat.lt_succ_self _) hy (by rw [hv]; exact hb)
   obtain ⟨d1, d2, Rq, d3, d4⟩ := ar_D (r.s.toNat + 1) r R0 (Nat.lt_succ_self _) hr _ q hq
   rcases d4 with ⟨e, _⟩ | ⟨q1, R1, j1, j2, j3, j4, e⟩
   ·rw [e] at d2; omega
   ·obtain ⟨y1, hy1, hse, hps, hq0⟩ := seg_hd j2 j3
    have e1 : Rq = catB (catB ⟨#[47]⟩ y1.nm) ⟨#[58]⟩ ++ (itB (idR y1.dp q1) ++ R1) := by rw [e, hse, ByteArray.append_assoc]
    have hv2 := (vz_row (q.s.toNat + 1) q Rq (Nat.lt_succ_self _) d1 (hs.trans d3) (by rw [e1]; exact ndg_47)).1 (by omega)
    rw [show q.s.toNat = i by omega, hv] at hv2
    rw [hv2]
    exact ⟨47, _, by rw [e1, hd_bl], by decide⟩
end
theorem fst_no {α : Type} {f : Nat → Option α} : ∀ n, (∀ i, i < n → f i = none) → fstN f n = none
 | 0, _ => rfl
 | n + 1, h => fst_next (fst_no n (fun i hi => h i (by omega))) (h n (by omega))
theorem cst_46 {x nm : ByteArray} : cst (⟨#[46]⟩ ++ x) nm = none := by
 cases e : cst (⟨#[46]⟩ ++ x) nm with
 | none => rfl
 | some c =>
  obtain ⟨v, h1, _⟩ := cst_inv (n := c.1) (u := c.2) e
  have := congrArg bl (bgn_s h1)
  rw [hd_bl, bl_app] at this
  have h2 : (46 : UInt8) :: bl x = 47 :: (bl nm ++ 58 :: bl v) := this
  exact absurd (List.cons.inj h2).1 (by decide)
theorem ro_root {l : List S5} {r : Ro} (h : ckR l r = 0) (h0 : r.s = 0) : r = ro0 := ((vz_row (l := l) (s := txW l r ++ ⟨#[]⟩) (r.s.toNat + 1) r ⟨#[]⟩ (Nat.lt_succ_self _) h rfl ndg_nil).2 h0).2
theorem txR_0 {l : List S5} (h : ckR l ro0 = 0) : txR l ro0 = ⟨#[47]⟩ := by unfold txR; rw [if_pos h, if_pos (txW_0 rfl)]
theorem txR_w {l : List S5} {r : Ro} (h : ckR l r = 0) (h0 : ¬ r.s = 0) : txR l r = txW l r := by unfold txR; rw [if_pos h, if_neg (txW_ne h h0)]
theorem root_get {l : List S5} {u : ByteArray} (h : ckR l ro0 = 0) : (bqs l (⟨#[47]⟩ ++ u))[0]? = some ⟨ro0, u, true⟩ ∧ 0 < (bqs l (⟨#[47]⟩ ++ u)).length := by
 obtain ⟨hsn, _, a1, _⟩ := ck_0 h
 have hl : 0 < l.length := by have : (0 : Int) < (l.length : Int) := a1; omega
 obtain ⟨y, hy⟩ := get_of_lt hl
 refine ⟨?_, by unfold bqs; rw [if_pos hsn, bqL_len]; exact hl⟩
 rw [bqs_get hsn hl, bqS_0 hy]
 unfold bgB
 rw [bgn_y]
 rfl
theorem prs_tx {l : List S5} {r : Ro} (hN : Nms l) (hr : ckR l r = 0) : prs l (txR l r) = some r := by
 rw [prs_ppr]
 unfold ppr
 by_cases h0 : r.s = 0
 ·have := ro_root hr h0
  subst this
  rw [txR_0 hr, show (⟨#[47]⟩ : ByteArray) = ⟨#[47]⟩ ++ ⟨#[]⟩ from rfl]
  obtain ⟨g1, g2⟩ := root_get (u := ⟨#[]⟩) hr
  exact fst_hit (i := 0) rfl (by rw [ppA_at g1]; rfl) _ g2
 ·obtain ⟨hsn, a0, a1, _⟩ := ck_0 hr
  rw [txR_w hr h0]
  have hk := known (s := txW l r) (R0 := ⟨#[]⟩) hN hr h0 (ByteArray.append_empty).symm ndg_nil (fun _ => cst_0)
  refine fst_hit (i := r.s.toNat) (fst_no _ (fun i hi => ?_)) (by rw [ppA_at hk.1]; rfl) _ (by unfold bqs; rw [if_pos hsn, bqL_len]; omega)
  cases hg : (bqs l (txW l r))[i]? with
  | none => unfold ppA; rw [hg]
  | some g =>
   rw [ppA_at hg]
   cases hb : g.b with
   | false => rfl
   | true =>
    obtain ⟨c, t, h1, _⟩ := hk.2 i hi g hg hb
    rw [decide_eq_false (fun e => by rw [e] at h1; cases h1)]
    rfl
theorem ifN_at {its : List It} {u : ByteArray} {k : Nat} {z : It} (hz : its[k]? = some z) (hu : z.nm = u) (h : ∀ i y, i < k → its[i]? = some y → y.nm ≠ z.nm) : ifN its u = some k := by
 unfold ifN
 refine fst_hit (i := k) (fst_no _ (fun i hi => ?_)) (by rw [ifA_at hz, if_pos hu]) _ (lt_of_get hz)
 cases hy : its[i]? with
 | none => unfold ifA; rw [hy]
 | some y => rw [ifA_at hy, if_neg (by rw [← hu]; exact h i y hi hy)]
theorem prc_tx {l : List S5} {c : Ce} (hN : Nms l) (hc : ckC l c = 0) : prc l (txC l c) = some c := by
 obtain ⟨hr, hi0, y, z, hy, hz, hn⟩ := cc_0 hc
 obtain ⟨hsn, a0, a1, _⟩ := ck_0 hr
 have ht : txC l c = txR l c.r ++ (⟨#[46]⟩ ++ z.nm) := by
  unfold txC catB; rw [if_pos hc, hn, ByteArray.append_assoc]
 have hif : ifN y.items z.nm = some c.i.toNat := ifN_at hz rfl (fun i y2 hi hy2 => hN.two _ _ _ _ _ _ hy hi hy2 hz)
 have hci : ((c.i.toNat : Nat) : Int) = c.i := by omega
 have hce : (⟨c.r, ((c.i.toNat : Nat) : Int)⟩ : Ce) = c := by rw [hci]
 rw [prc_ppc, ht]
 unfold ppc
 by_cases h0 : c.r.s = 0
 ·have e := ro_root hr h0
  rw [e] at hr
  rw [e, txR_0 hr]
  obtain ⟨g1, g2⟩ := root_get (u := ⟨#[46]⟩ ++ z.nm) hr
  rw [show c.r.s.toNat = 0 by omega] at hy
  refine fst_hit (i := 0) rfl ?_ _ g2
  rw [pcA_at g1 hy]
  show (if true = true then (bgn (⟨#[46]⟩ ++ z.nm) ⟨#[46]⟩).bind _ else none) = some c
  rw [if_pos rfl, bgn_y, Option.bind_some, hif]
  show some (⟨ro0, ((c.i.toNat : Nat) : Int)⟩ : Ce) = some c
  rw [← e, hce]
 ·rw [txR_w hr h0]
  have hk := known (s := txW l c.r ++ (⟨#[46]⟩ ++ z.nm)) (R0 := ⟨#[46]⟩ ++ z.nm) hN hr h0 rfl (ndg_46 _) (fun _ => cst_46)
  refine fst_hit (i := c.r.s.toNat) (fst_no _ (fun i hi => ?_)) ?_ _ (by unfold bqs; rw [if_pos hsn, bqL_len]; omega)
  ·cases hg : (bqs l (txW l c.r ++ (⟨#[46]⟩ ++ z.nm)))[i]? with
   | none => unfold pcA; rw [hg]
   | some g =>
    obtain ⟨y2, hy2⟩ := get_of_lt (show i < l.length by omega)
    rw [pcA_at hg hy2]
    cases hb : g.b with
    | false => rfl
    | true =>
     obtain ⟨c1, t, h1, h2⟩ := hk.2 i hi g hg hb
     rw [if_pos rfl]
     cases hbg : bgn g.s ⟨#[46]⟩ with
     | none => rfl
     | some u =>
      have := congrArg bl (bgn_s hbg)
      rw [h1, bl_app] at this
      have h3 : c1 :: t = (46 : UInt8) :: bl u := this
      exact absurd (List.cons.inj h3).1 h2
  ·rw [pcA_at hk.1 hy]
   show (if true = true then (bgn (⟨#[46]⟩ ++ z.nm) ⟨#[46]⟩).bind _ else none) = some c
   rw [if_pos rfl, bgn_y, Option.bind_some, hif]
   show some (⟨c.r, ((c.i.toNat : Nat) : Int)⟩ : Ce) = some c
   rw [hce]
theorem kid_up {l : List S5} {r : Ro} (h : ckR l r = 0) (h0 : ¬ r.s = 0) : kidE l (parU l r) r.s (idA l r) = 0 ∧ kidR l (parU l r) r.s (idA l r) = r ∧ witB l r (parU l r) = true := by
 obtain ⟨hsn, a0, a1, hi⟩ := ck_0 h
 obtain ⟨y, hy⟩ := get_of_lt (show r.s.toNat < l.length by omega)
 obtain ⟨x, hx, p0, p1, hd, hd2, hd4⟩ := pr_at hsn hy (by omega)
 rw [dpA_at hy] at hi
 have hk := kid_v (r := parU l r) (s := r.s) (n := idA l r) (par_ck h h0) (by omega) a1 hy (prA_at hy).symm (by rw [id_v h h0 hy]; exact id_ok hd2 hd4 hi)
 refine ⟨hk.1, ?_, ?_⟩
 ·rw [hk.2, id_v h h0 hy]
  exact ud_inv h h0 hy
 ·have hp := par_v' h h0
  have ht := par_t hp
  exact wit_iff.2 ⟨h, par_ck h h0, by rw [ar_up (by omega) hp]; exact ar_hit rfl⟩
theorem fla_LL {W W' : World} {d : Df} {pa : Option Addr} (hD : LDf W d) (hN : Nms (fla d)) (hS : SL W' 5 S5.cells pa (fla d)) (m : Kp W W') : LL W' pa (fla d) := by
 have hls : ∀ x ∈ fla d, LS5 W x := flt_ls d.rt hD.rt [] (-1) 1 (fun x hx => by cases hx)
 refine ⟨hS, fun x hx => (hls x hx).it.kp m, fun x hx => ?_, fun x hx y hy => ?_⟩
 ·obtain ⟨n, hn⟩ := List.getElem?_of_mem hx
  by_cases h0 : n = 0
  ·subst h0; rw [hN.root x hn]; show 0 ≤ _; omega
  ·have := (nam_at (hN.sec n x hn h0)).2.1; omega
 ·obtain ⟨n, hn⟩ := List.getElem?_of_mem hx
  obtain ⟨i, hi⟩ := List.getElem?_of_mem hy
  have := (nam_at (hN.itm n x i y hn hi)).2.1; omega
theorem pk_chk (d : Df) : Pk (chk d) := Pk.or (Pk.er _ _ _ _ _ _) (Pk.or (pk_tb _) (Pk.or (pk_se _ _) (Pk.or (pk_fo _ _) (pk_pg _ _ _))))
end Go.Proofs.YtnffhcjmpjajlaaDoor.V
namespace Go.Proofs.YtnffhcjmpjajlaaDoor.V
open Go.RowKit D
theorem sz45 : (Tryd.prog.info? 45).map (·.size) = some 4 := by kernel_rfl
theorem sz49 : (Tryd.prog.info? 49).map (·.size) = some 7 := by kernel_rfl
theorem sz52 : (Tryd.prog.info? 52).map (·.size) = some 5 := by kernel_rfl
theorem neC {x y : Ce} {r : Bool} (h : sCe x y = r) (p q : Operand) (w : World) : (do eqGuard .neq 27 p q x.v y.v; binOp .neq 27 x.v y.v).run Tryd.prog w = .ok (.bool (!r)) w := nea_run gt27 (by rw [← h]; exact eqCe x y w) p q
theorem si_v {d : Df} (w : World) (hD : LDf w d) : Calls Tryd.prog 24 #[.agg d.rt.cells.toArray, .int .i64 50] w fun e9 w' => ∃ z : Int, e9 = .returned (.int .i64 z) ∧ Mw w w' := (si_n 50 (by omega) d.rt w hD.rt).mono (fun _ _ ⟨z, a, b⟩ => ⟨z, a, b.1⟩)
theorem rFlat_v {d : Df} {L : List S5} (hLe : L = fla d) (w : World) (hD : LDf w d) : Calls Tryd.prog 26 #[.agg d.cells.toArray] w fun e9 w' => ∃ pa cap, e9 = .returned (.slice pa L.length cap) ∧ SL w' 5 S5.cells pa L ∧ L.length ≤ cap ∧ Mw w w' := by
 subst hLe
 exact (rFlat_c d hD).mono (fun _ _ ⟨pa, cap, a, b, c, m⟩ => ⟨pa, cap, a, b, c, m.1⟩)
theorem prs_t {L : List S5} {pl : Option Addr} {cl : Nat} {r : Ro} (w : World) (hL : LL w pl L) (hcl : L.length ≤ cl) (hN : Nms L) (h16 : L.length ≤ 16) (hr : ckR L r = 0) : Calls Tryd.prog 20 #[.slice pl L.length cl, .string (txR L r)] w fun e9 w' => e9 = .returned (.tuple #[r.v, .bool true]) ∧ Mw w w' := by
 have q := pprs_v (s := txR L r) w hL hcl (by have := txR_bd hL.nm r; omega) (by omega)
 rw [prs_tx hN hr] at q
 exact q
theorem txC_bd {l : List S5} {c : Ce} (hn : ∀ x ∈ l, x.nm.size ≤ 140737488355328) (hm : ∀ x ∈ l, ∀ y ∈ x.items, y.nm.size ≤ 140737488355328) (hc : ckC l c = 0) : (txC l c).size ≤ 9223372036854775807 := by
 obtain ⟨_, _, y, z, hy, hz, e⟩ := cc_0 hc
 have h1 := txR_bd hn c.r
 have h2 := hm y (List.mem_of_getElem? hy) z (List.mem_of_getElem? hz)
 unfold txC catB
 rw [if_pos hc, e, ByteArray.size_append, ByteArray.size_append, s46]
 omega
theorem prc_t {L : List S5} {pl : Option Addr} {cl : Nat} {c : Ce} (w : World) (hL : LL w pl L) (hcl : L.length ≤ cl) (hN : Nms L) (h16 : L.length ≤ 16) (hr : ckC L c = 0) : Calls Tryd.prog 22 #[.slice pl L.length cl, .string (txC L c)] w fun e9 w' => e9 = .returned (.tuple #[c.v, .bool true]) ∧ Mw w w' := by
 have q := pprc_v (s := txC L c) w hL hcl (txC_bd hL.nm hL.im hr) (by omega)
 rw [prc_tx hN hr] at q
 exact q
theorem par_s {l : List S5} {r : Ro} (h : ckR l r = 0) (hp : parO l r = false) : r.s = 0 := by
 apply Classical.byContradiction
 intro q
 rw [par_v' h q] at hp
 cases hp
set_option maxHeartbeats 1000000 in
theorem pback_n {d : Df} {c : Ce} (w : World) (hD : LDf w d) (hTb : TB w) : Calls Tryd.prog 5 #[.agg d.cells.toArray, c.v] w fun e9 w' => e9 = .returned (.bool true) ∧ Mw w w' := by
 refine w_enter 116 Tryd.func5 Tryd.ntmps5 rfl rfl ?_
 have M : Mw w w := Mw.refl _
 refine w_seq (w_reg ?_)
 refine wl_box 49 (.tmp 0) _ (((d.cells).toArray)) rfl rfl (fun _ => by kernel_rfl) rfl ?_
 intro k1 u1 hk hz hq Q1
 have N_k1 : w.heap.size ≤ k1 := by have := M.size; omega
 replace M := M.trans hq
 clear hk hz hq
 refine wl_box 27 (.tmp 1) _ (((c.cells).toArray)) rfl rfl (fun _ => by kernel_rfl) rfl ?_
 intro k2 u2 hk hz hq Q2
 have ne_k1_k2 : k1 ≠ k2 := by have := Q1.lt; omega
 have N_k2 : w.heap.size ≤ k2 := by have := M.size; omega
 replace Q1 := Q1.mo hq
 replace M := M.trans hq
 clear hk hz hq
 refine wl_m (.const (.bool false)) (.bool false) ?_
 refine w_nil (xn_then (w_seq (w_seq (w_reg ?_))))
 refine wl_f 49 1 (.tmp 2) (pt k1 0) (pt k1 1) ?_
 refine wl_l 45 (.tmp 16) (pt k1 1) (.agg (d.rt.cells).toArray) (run_row Q1 45 1 4 (d.rt.cells) rfl Tryd.underlying45 rfl sz45) ?_
 refine wl_callx 24 [(.tmp 17), (.const (.int .i64 (50)))] _ [.agg (d.rt.cells).toArray, .int .i64 (50)] rfl rfl (fun _ _ => by kernel_rfl) (si_v _ (hD.kp M.kp)) rfl ?_
 rintro e9 u3 ⟨z9, rfl, hq⟩
 refine ⟨_, rfl, ?_⟩
 replace Q1 := Q1.mo hq
 replace Q2 := Q2.mo hq
 replace M := M.trans hq
 clear hq
 cases hf0 : decide (3000 < z9) with
 | true =>
  have hf0p := of_decide_eq_true hf0
  refine wl_b .gtr 3 (.tmp 18) (.const (.int .i64 (3000))) (.int .i64 (z9)) (.int .i64 (3000)) (.bool true) (gt3 hf0 _ _ _) ?_
  refine wl_m (.tmp 19) (.bool true) ?_
  refine wl_skip rfl (wl_skip rfl ?_)
  refine wl_pick (.tmp 20) (.const (.bool true)) (.tmp 22) true (.bool true) (fun _ => rfl) rfl rfl rfl ?_
  refine w_nil (xn_then (w_condT rfl (w_seq (w_reg ?_))))
  refine wl_call 9 [] _ [] (.bool true) rfl rfl (fun _ _ => by kernel_rfl) (live_n _ (hTb.mw M)) rfl ?_
  intro u4 hq
  replace Q1 := Q1.mo hq
  replace Q2 := Q2.mo hq
  replace M := M.trans hq
  clear hq
  refine wl_m (.tmp 24) (.bool true) ?_
  refine w_nil (xn_then (w_ret (xr_then ?_)))
  exact w_ret1 _ _ rfl rfl ⟨rfl, M⟩
 | false =>
  have hf0p := of_decide_eq_false hf0
  refine wl_b .gtr 3 (.tmp 18) (.const (.int .i64 (3000))) (.int .i64 (z9)) (.int .i64 (3000)) (.bool false) (gt3 hf0 _ _ _) ?_
  refine wl_m (.tmp 19) (.bool false) ?_
  refine wl_call 9 [] _ [] (.bool true) rfl rfl (fun _ _ => by kernel_rfl) (live_n _ (hTb.mw M)) rfl ?_
  intro u4 hq
  replace Q1 := Q1.mo hq
  replace Q2 := Q2.mo hq
  replace M := M.trans hq
  clear hq
  refine wl_un (fun v => Op.unary .not v) (.tmp 21) (.bool true) (.bool false) (fun _ => rfl) rfl (by kernel_rfl) rfl ?_
  refine wl_pick (.tmp 20) (.const (.bool true)) (.tmp 22) false (.bool false) (fun _ => rfl) rfl rfl rfl ?_
  refine w_nil (xn_then (w_condF rfl (w_skip (xn_then (w_seq (w_seq (w_reg ?_)))))))
  refine wl_l 49 (.tmp 2) (pt k1 0) (.agg (d.cells).toArray) (run_row Q1 49 0 7 (d.cells) rfl Tryd.underlying49 rfl sz49) ?_
  cases hf1 : (chk d).isSome with
  | true =>
   obtain ⟨kk, ss, ii, tt, pp, ee, hck, hne⟩ := Pk.some (pk_chk d) (show (chk d).isNone = false by cases h9 : chk d with | none => rw [h9] at hf1; cases hf1 | some _ => rfl)
   refine wl_call 25 [(.tmp 26)] _ [.agg (d.cells).toArray] (.tuple #[.agg #[.int .i64 kk, .int .i64 ss, .int .i64 ii, .int .i64 tt, .int .i64 pp], .int .i64 (ee)]) rfl rfl (fun _ _ => by kernel_rfl) (wk (cR (by rw [hck]; rfl) (check_n d (hD.kp M.kp)))) rfl ?_
   intro u5 hq
   replace Q1 := Q1.mo hq
   replace Q2 := Q2.mo hq
   replace M := M.trans hq
   clear hq
   refine wl_m (.tmp 27) (.tuple #[.agg #[.int .i64 kk, .int .i64 ss, .int .i64 ii, .int .i64 tt, .int .i64 pp], .int .i64 (ee)]) ?_
   refine wl_un (fun v => Instr.extract v 0) (.tmp 25) (.tuple #[.agg #[.int .i64 kk, .int .i64 ss, .int .i64 ii, .int .i64 tt, .int .i64 pp], .int .i64 (ee)]) (.agg #[.int .i64 kk, .int .i64 ss, .int .i64 ii, .int .i64 tt, .int .i64 pp]) (fun _ => rfl) rfl (by kernel_rfl) rfl ?_
   refine wl_un (fun v => Instr.extract v 1) (.tmp 25) (.tuple #[.agg #[.int .i64 kk, .int .i64 ss, .int .i64 ii, .int .i64 tt, .int .i64 pp], .int .i64 (ee)]) (.int .i64 (ee)) (fun _ => rfl) rfl (by kernel_rfl) rfl ?_
   refine wl_alloc 52 #[.int .i64 0, .int .i64 0, .int .i64 0, .int .i64 0, .int .i64 0] rfl (fun _ => by kernel_rfl) rfl ?_
   intro k3 u6 hk hz hq Q3
   have ne_k1_k3 : k1 ≠ k3 := by have := Q1.lt; omega
   have ne_k2_k3 : k2 ≠ k3 := by have := Q2.lt; omega
   have N_k3 : w.heap.size ≤ k3 := by have := M.size; omega
   replace Q1 := Q1.mo hq
   replace Q2 := Q2.mo hq
   replace M := M.trans hq
   clear hk hz hq
   refine wl_st 52 (.tmp 5) (.tmp 28) k3 0 #[.int .i64 kk, .int .i64 ss, .int .i64 ii, .int .i64 tt, .int .i64 pp] _ [.int .i64 kk, .int .i64 ss, .int .i64 ii, .int .i64 tt, .int .i64 pp] Q3 rfl rfl rfl rfl rfl sz52 rfl rfl rfl ?_
   intro u7 hS Qn
   replace Q3 := Qn
   clear Qn
   replace Q1 := hS.other _ _ ne_k1_k3 Q1
   replace Q2 := hS.other _ _ ne_k2_k3 Q2
   replace M := hS.mo _ N_k3 M
   clear hS
   refine wl_m (.tmp 29) (.int .i64 (ee)) ?_
   refine w_nil (xn_then (w_seq (w_reg ?_)))
   refine wl_m (.tmp 6) (.int .i64 (ee)) ?_
   refine wl_b .neq 31 (.tmp 30) (.const (.int .i64 (0))) (.int .i64 (ee)) (.int .i64 (0)) (.bool true) (ne34 (r := false) (decide_eq_false hne) _ _ _) ?_
   refine w_nil (xn_then (w_condT rfl (w_seq (w_reg ?_))))
   refine wl_m (.const (.bool true)) (.bool true) ?_
   refine w_nil (xn_then (w_ret (xr_then ?_)))
   exact w_ret1 _ _ rfl rfl ⟨rfl, M⟩
  | false =>
   refine wl_call 25 [(.tmp 26)] _ [.agg (d.cells).toArray] (.tuple #[.agg #[.int .i64 0, .int .i64 0, .int .i64 0, .int .i64 0, .int .i64 0], .int .i64 (0)]) rfl rfl (fun _ _ => by kernel_rfl) (wk (cR (by rw [isn hf1]; rfl) (check_n d (hD.kp M.kp)))) rfl ?_
   intro u5 hq
   replace Q1 := Q1.mo hq
   replace Q2 := Q2.mo hq
   replace M := M.trans hq
   clear hq
   refine wl_m (.tmp 27) (.tuple #[.agg #[.int .i64 0, .int .i64 0, .int .i64 0, .int .i64 0, .int .i64 0], .int .i64 (0)]) ?_
   refine wl_un (fun v => Instr.extract v 0) (.tmp 25) (.tuple #[.agg #[.int .i64 0, .int .i64 0, .int .i64 0, .int .i64 0, .int .i64 0], .int .i64 (0)]) (.agg #[.int .i64 0, .int .i64 0, .int .i64 0, .int .i64 0, .int .i64 0]) (fun _ => rfl) rfl (by kernel_rfl) rfl ?_
   refine wl_un (fun v => Instr.extract v 1) (.tmp 25) (.tuple #[.agg #[.int .i64 0, .int .i64 0, .int .i64 0, .int .i64 0, .int .i64 0], .int .i64 (0)]) (.int .i64 (0)) (fun _ => rfl) rfl (by kernel_rfl) rfl ?_
   refine wl_alloc 52 #[.int .i64 0, .int .i64 0, .int .i64 0, .int .i64 0, .int .i64 0] rfl (fun _ => by kernel_rfl) rfl ?_
   intro k3 u6 hk hz hq Q3
   have ne_k1_k3 : k1 ≠ k3 := by have := Q1.lt; omega
   have ne_k2_k3 : k2 ≠ k3 := by have := Q2.lt; omega
   have N_k3 : w.heap.size ≤ k3 := by have := M.size; omega
   replace Q1 := Q1.mo hq
   replace Q2 := Q2.mo hq
   replace M := M.trans hq
   clear hk hz hq
   refine wl_st 52 (.tmp 5) (.tmp 28) k3 0 #[.int .i64 0, .int .i64 0, .int .i64 0, .int .i64 0, .int .i64 0] _ [.int .i64 0, .int .i64 0, .int .i64 0, .int .i64 0, .int .i64 0] Q3 rfl rfl rfl rfl rfl sz52 rfl rfl rfl ?_
   intro u7 hS Qn
   replace Q3 := Qn
   clear Qn
   replace Q1 := hS.other _ _ ne_k1_k3 Q1
   replace Q2 := hS.other _ _ ne_k2_k3 Q2
   replace M := hS.mo _ N_k3 M
   clear hS
   refine wl_m (.tmp 29) (.int .i64 (0)) ?_
   refine w_nil (xn_then (w_seq (w_reg ?_)))
   refine wl_m (.tmp 6) (.int .i64 (0)) ?_
   refine wl_b .neq 31 (.tmp 30) (.const (.int .i64 (0))) (.int .i64 (0)) (.int .i64 (0)) (.bool false) (ne34 (r := true) (decide_eq_true rfl) _ _ _) ?_
   refine w_nil (xn_then (w_condF rfl (w_skip (xn_then (w_seq ?_)))))
   obtain ⟨L, hLe⟩ : ∃ L, L = fla d := ⟨_, rfl⟩
   obtain ⟨hN, h16⟩ := nms_of (isn hf1)
   rw [← hLe] at hN h16
   refine w_reg ?_
   refine wl_l 49 (.tmp 2) (pt k1 0) (.agg (d.cells).toArray) (run_row Q1 49 0 7 (d.cells) rfl Tryd.underlying49 rfl sz49) ?_
   refine wl_callx 26 [(.tmp 32)] _ [.agg (d.cells).toArray] rfl rfl (fun _ _ => by kernel_rfl) (rFlat_v hLe _ (hD.kp M.kp)) rfl ?_
   rintro e9 u8 ⟨pl, cl, rfl, hS, hcl, hq⟩
   refine ⟨_, rfl, ?_⟩
   replace Q1 := Q1.mo hq
   replace Q2 := Q2.mo hq
   replace Q3 := Q3.mo hq
   replace M := M.trans hq
   clear hq
   have hL : LL u8 pl L := by rw [hLe]; rw [hLe] at hS hN; exact fla_LL hD hN hS M.kp
   have M0 := M
   replace hTb := hTb.mw M0
   replace M : Mw u8 u8 := Mw.refl _
   refine wl_m (.tmp 33) (.slice pl L.length cl) ?_
   refine w_nil (xn_then (w_seq (w_seq (w_reg ?_))))
   refine wl_m (.tmp 7) (.slice pl L.length cl) ?_
   refine wl_f 27 0 (.tmp 3) (pt k2 0) (pt k2 0) ?_
   refine wl_l 25 (.tmp 35) (pt k2 0) (.agg (c.r.cells).toArray) (run_row Q2 25 0 4 (c.r.cells) rfl Tryd.underlying25 rfl sz25) ?_
   refine wl_call 10 [(.tmp 34), (.tmp 36)] _ [.slice pl L.length cl, .agg (c.r.cells).toArray] (.int .i64 (ckR L c.r)) rfl rfl (fun _ _ => by kernel_rfl) (wk (pck_n _ (hL.mw M) hcl)) rfl ?_
   intro u9 hq
   replace Q1 := Q1.mo hq
   replace Q2 := Q2.mo hq
   replace Q3 := Q3.mo hq
   replace M := M.trans hq
   clear hq
   cases hf2 : decide (ckR L c.r = 0) with
   | true =>
    have hf2p := of_decide_eq_true hf2
    refine wl_b .neq 31 (.tmp 37) (.const (.int .i64 (0))) (.int .i64 (ckR L c.r)) (.int .i64 (0)) (.bool false) (ne34 hf2 _ _ _) ?_
    refine w_nil (xn_then (w_condF rfl (w_skip (xn_then (w_seq (w_reg ?_))))))
    refine wl_m (.tmp 7) (.slice pl L.length cl) ?_
    refine wl_m (.tmp 7) (.slice pl L.length cl) ?_
    refine wl_f 27 0 (.tmp 3) (pt k2 0) (pt k2 0) ?_
    refine wl_l 25 (.tmp 42) (pt k2 0) (.agg (c.r.cells).toArray) (run_row Q2 25 0 4 (c.r.cells) rfl Tryd.underlying25 rfl sz25) ?_
    refine wl_call 16 [(.tmp 41), (.tmp 43)] _ [.slice pl L.length cl, .agg (c.r.cells).toArray] (.string (txR L c.r)) rfl rfl (fun _ _ => by kernel_rfl) (ptxt_n _ (hL.mw M) hcl (hTb.mw M)) rfl ?_
    intro u10 hq
    replace Q1 := Q1.mo hq
    replace Q2 := Q2.mo hq
    replace Q3 := Q3.mo hq
    replace M := M.trans hq
    clear hq
    refine wl_call 20 [(.tmp 40), (.tmp 44)] _ [.slice pl L.length cl, .string (txR L c.r)] (.tuple #[.agg (c.r.cells).toArray, .bool true]) rfl rfl (fun _ _ => by kernel_rfl) (prs_t _ (hL.mw M) hcl hN h16 hf2p) rfl ?_
    intro u11 hq
    replace Q1 := Q1.mo hq
    replace Q2 := Q2.mo hq
    replace Q3 := Q3.mo hq
    replace M := M.trans hq
    clear hq
    refine wl_m (.tmp 45) (.tuple #[.agg (c.r.cells).toArray, .bool true]) ?_
    refine wl_un (fun v => Instr.extract v 0) (.tmp 39) (.tuple #[.agg (c.r.cells).toArray, .bool true]) (.agg (c.r.cells).toArray) (fun _ => rfl) rfl (by kernel_rfl) rfl ?_
    refine wl_un (fun v => Instr.extract v 1) (.tmp 39) (.tuple #[.agg (c.r.cells).toArray, .bool true]) (.bool true) (fun _ => rfl) rfl (by kernel_rfl) rfl ?_
    refine wl_alloc 25 #[.int .i64 0, .int .i64 0, .int .i64 0, .int .i64 0] rfl (fun _ => by kernel_rfl) rfl ?_
    intro k4 u12 hk hz hq Q4
    have ne_k1_k4 : k1 ≠ k4 := by have := Q1.lt; omega
    have ne_k2_k4 : k2 ≠ k4 := by have := Q2.lt; omega
    have ne_k3_k4 : k3 ≠ k4 := by have := Q3.lt; omega
    have N_k4 : u8.heap.size ≤ k4 := by have := M.size; omega
    replace Q1 := Q1.mo hq
    replace Q2 := Q2.mo hq
    replace Q3 := Q3.mo hq
    replace M := M.trans hq
    clear hk hz hq
    refine wl_st 25 (.tmp 8) (.tmp 46) k4 0 ((c.r.cells).toArray) _ (c.r.cells) Q4 rfl rfl rfl rfl rfl sz25 rfl rfl rfl ?_
    intro u13 hS Qn
    replace Q4 := Qn
    clear Qn
    replace Q1 := hS.other _ _ ne_k1_k4 Q1
    replace Q2 := hS.other _ _ ne_k2_k4 Q2
    replace Q3 := hS.other _ _ ne_k3_k4 Q3
    replace M := hS.mo _ N_k4 M
    clear hS
    refine wl_m (.tmp 47) (.bool true) ?_
    refine w_nil (xn_then (w_seq (w_seq (w_reg ?_))))
    refine wl_m (.tmp 9) (.bool true) ?_
    refine wl_un (fun v => Op.unary .not v) (.tmp 48) (.bool true) (.bool false) (fun _ => rfl) rfl (by kernel_rfl) rfl ?_
    refine wl_m (.tmp 49) (.bool false) ?_
    refine wl_l 25 (.tmp 8) (pt k4 0) (.agg (c.r.cells).toArray) (run_row Q4 25 0 4 (c.r.cells) rfl Tryd.underlying25 rfl sz25) ?_
    refine wl_f 27 0 (.tmp 3) (pt k2 0) (pt k2 0) ?_
    refine wl_l 25 (.tmp 52) (pt k2 0) (.agg (c.r.cells).toArray) (run_row Q2 25 0 4 (c.r.cells) rfl Tryd.underlying25 rfl sz25) ?_
    refine wl_b .neq 25 (.tmp 51) (.tmp 53) (.agg (c.r.cells).toArray) (.agg (c.r.cells).toArray) (.bool false) (neR (sR_self _) _ _ _) ?_
    refine wl_pick (.tmp 50) (.const (.bool true)) (.tmp 54) false (.bool false) (fun _ => rfl) rfl rfl rfl ?_
    refine w_nil (xn_then (w_condF rfl (w_skip (xn_then (w_seq (w_seq (w_reg ?_)))))))
    refine wl_m (.tmp 7) (.slice pl L.length cl) ?_
    refine wl_l 27 (.tmp 3) (pt k2 0) (.agg (c.cells).toArray) (run_row Q2 27 0 5 (c.cells) rfl Tryd.underlying27 rfl sz27) ?_
    refine wl_call 12 [(.tmp 56), (.tmp 57)] _ [.slice pl L.length cl, .agg (c.cells).toArray] (.int .i64 (ckC L c)) rfl rfl (fun _ _ => by kernel_rfl) (wk (pcc_n _ (hL.mw M) hcl)) rfl ?_
    intro u14 hq
    replace Q1 := Q1.mo hq
    replace Q2 := Q2.mo hq
    replace Q3 := Q3.mo hq
    replace Q4 := Q4.mo hq
    replace M := M.trans hq
    clear hq
    cases hf3 : decide (ckC L c = 0) with
    | true =>
     have hf3p := of_decide_eq_true hf3
     refine wl_b .eql 31 (.tmp 58) (.const (.int .i64 (0))) (.int .i64 (ckC L c)) (.int .i64 (0)) (.bool true) (eq34 hf3 _ _ _) ?_
     refine w_nil (xn_then (w_condT rfl (w_seq (w_reg ?_))))
     refine wl_m (.tmp 7) (.slice pl L.length cl) ?_
     refine wl_m (.tmp 7) (.slice pl L.length cl) ?_
     refine wl_l 27 (.tmp 3) (pt k2 0) (.agg (c.cells).toArray) (run_row Q2 27 0 5 (c.cells) rfl Tryd.underlying27 rfl sz27) ?_
     refine wl_call 18 [(.tmp 62), (.tmp 63)] _ [.slice pl L.length cl, .agg (c.cells).toArray] (.string (txC L c)) rfl rfl (fun _ _ => by kernel_rfl) (pctx_n _ (hL.mw M) hcl (hTb.mw M)) rfl ?_
     intro u15 hq
     replace Q1 := Q1.mo hq
     replace Q2 := Q2.mo hq
     replace Q3 := Q3.mo hq
     replace Q4 := Q4.mo hq
     replace M := M.trans hq
     clear hq
     refine wl_call 22 [(.tmp 61), (.tmp 64)] _ [.slice pl L.length cl, .string (txC L c)] (.tuple #[.agg (c.cells).toArray, .bool true]) rfl rfl (fun _ _ => by kernel_rfl) (prc_t _ (hL.mw M) hcl hN h16 hf3p) rfl ?_
     intro u16 hq
     replace Q1 := Q1.mo hq
     replace Q2 := Q2.mo hq
     replace Q3 := Q3.mo hq
     replace Q4 := Q4.mo hq
     replace M := M.trans hq
     clear hq
     refine wl_m (.tmp 65) (.tuple #[.agg (c.cells).toArray, .bool true]) ?_
     refine wl_un (fun v => Instr.extract v 0) (.tmp 60) (.tuple #[.agg (c.cells).toArray, .bool true]) (.agg (c.cells).toArray) (fun _ => rfl) rfl (by kernel_rfl) rfl ?_
     refine wl_un (fun v => Instr.extract v 1) (.tmp 60) (.tuple #[.agg (c.cells).toArray, .bool true]) (.bool true) (fun _ => rfl) rfl (by kernel_rfl) rfl ?_
     refine wl_alloc 27 #[.int .i64 0, .int .i64 0, .int .i64 0, .int .i64 0, .int .i64 0] rfl (fun _ => by kernel_rfl) rfl ?_
     intro k5 u17 hk hz hq Q5
     have ne_k1_k5 : k1 ≠ k5 := by have := Q1.lt; omega
     have ne_k2_k5 : k2 ≠ k5 := by have := Q2.lt; omega
     have ne_k3_k5 : k3 ≠ k5 := by have := Q3.lt; omega
     have ne_k4_k5 : k4 ≠ k5 := by have := Q4.lt; omega
     have N_k5 : u8.heap.size ≤ k5 := by have := M.size; omega
     replace Q1 := Q1.mo hq
     replace Q2 := Q2.mo hq
     replace Q3 := Q3.mo hq
     replace Q4 := Q4.mo hq
     replace M := M.trans hq
     clear hk hz hq
     refine wl_st 27 (.tmp 10) (.tmp 66) k5 0 ((c.cells).toArray) _ (c.cells) Q5 rfl rfl rfl rfl rfl sz27 rfl rfl rfl ?_
     intro u18 hS Qn
     replace Q5 := Qn
     clear Qn
     replace Q1 := hS.other _ _ ne_k1_k5 Q1
     replace Q2 := hS.other _ _ ne_k2_k5 Q2
     replace Q3 := hS.other _ _ ne_k3_k5 Q3
     replace Q4 := hS.other _ _ ne_k4_k5 Q4
     replace M := hS.mo _ N_k5 M
     clear hS
     refine wl_m (.tmp 67) (.bool true) ?_
     refine w_nil (xn_then (w_seq (w_reg ?_)))
     refine wl_m (.tmp 11) (.bool true) ?_
     refine wl_un (fun v => Op.unary .not v) (.tmp 68) (.bool true) (.bool false) (fun _ => rfl) rfl (by kernel_rfl) rfl ?_
     refine wl_m (.tmp 69) (.bool false) ?_
     refine wl_l 27 (.tmp 10) (pt k5 0) (.agg (c.cells).toArray) (run_row Q5 27 0 5 (c.cells) rfl Tryd.underlying27 rfl sz27) ?_
     refine wl_l 27 (.tmp 3) (pt k2 0) (.agg (c.cells).toArray) (run_row Q2 27 0 5 (c.cells) rfl Tryd.underlying27 rfl sz27) ?_
     refine wl_b .neq 27 (.tmp 71) (.tmp 72) (.agg (c.cells).toArray) (.agg (c.cells).toArray) (.bool false) (neC (sCe_self _) _ _ _) ?_
     refine wl_pick (.tmp 70) (.const (.bool true)) (.tmp 73) false (.bool false) (fun _ => rfl) rfl rfl rfl ?_
     refine w_nil (xn_then (w_condF rfl (w_skip (xn_then (w_seq (w_reg ?_))))))
     refine wl_m (.tmp 7) (.slice pl L.length cl) ?_
     refine wl_f 27 0 (.tmp 3) (pt k2 0) (pt k2 0) ?_
     refine wl_l 25 (.tmp 77) (pt k2 0) (.agg (c.r.cells).toArray) (run_row Q2 25 0 4 (c.r.cells) rfl Tryd.underlying25 rfl sz25) ?_
     cases hf4 : parO L c.r with
     | true =>
      refine wl_call 7 [(.tmp 76), (.tmp 78)] _ [.slice pl L.length cl, .agg (c.r.cells).toArray] (.tuple #[.agg ((parU L c.r).cells).toArray, .bool true]) rfl rfl (fun _ _ => by kernel_rfl) (wk (cR (by rw [par_u hf4, hf4]) (ppar_n _ (hL.mw M) hcl))) rfl ?_
      intro u19 hq
      replace Q1 := Q1.mo hq
      replace Q2 := Q2.mo hq
      replace Q3 := Q3.mo hq
      replace Q4 := Q4.mo hq
      replace Q5 := Q5.mo hq
      replace M := M.trans hq
      clear hq
      refine wl_m (.tmp 79) (.tuple #[.agg ((parU L c.r).cells).toArray, .bool true]) ?_
      refine wl_un (fun v => Instr.extract v 0) (.tmp 75) (.tuple #[.agg ((parU L c.r).cells).toArray, .bool true]) (.agg ((parU L c.r).cells).toArray) (fun _ => rfl) rfl (by kernel_rfl) rfl ?_
      refine wl_un (fun v => Instr.extract v 1) (.tmp 75) (.tuple #[.agg ((parU L c.r).cells).toArray, .bool true]) (.bool true) (fun _ => rfl) rfl (by kernel_rfl) rfl ?_
      refine wl_alloc 25 #[.int .i64 0, .int .i64 0, .int .i64 0, .int .i64 0] rfl (fun _ => by kernel_rfl) rfl ?_
      intro k6 u20 hk hz hq Q6
      have ne_k1_k6 : k1 ≠ k6 := by have := Q1.lt; omega
      have ne_k2_k6 : k2 ≠ k6 := by have := Q2.lt; omega
      have ne_k3_k6 : k3 ≠ k6 := by have := Q3.lt; omega
      have ne_k4_k6 : k4 ≠ k6 := by have := Q4.lt; omega
      have ne_k5_k6 : k5 ≠ k6 := by have := Q5.lt; omega
      have N_k6 : u8.heap.size ≤ k6 := by have := M.size; omega
      replace Q1 := Q1.mo hq
      replace Q2 := Q2.mo hq
      replace Q3 := Q3.mo hq
      replace Q4 := Q4.mo hq
      replace Q5 := Q5.mo hq
      replace M := M.trans hq
      clear hk hz hq
      refine wl_st 25 (.tmp 12) (.tmp 80) k6 0 (((parU L c.r).cells).toArray) _ ((parU L c.r).cells) Q6 rfl rfl rfl rfl rfl sz25 rfl rfl rfl ?_
      intro u21 hS Qn
      replace Q6 := Qn
      clear Qn
      replace Q1 := hS.other _ _ ne_k1_k6 Q1
      replace Q2 := hS.other _ _ ne_k2_k6 Q2
      replace Q3 := hS.other _ _ ne_k3_k6 Q3
      replace Q4 := hS.other _ _ ne_k4_k6 Q4
      replace Q5 := hS.other _ _ ne_k5_k6 Q5
      replace M := hS.mo _ N_k6 M
      clear hS
      refine wl_m (.tmp 81) (.bool true) ?_
      refine w_nil (xn_then (w_seq (w_seq (w_reg ?_))))
      refine wl_m (.tmp 13) (.bool true) ?_
      refine wl_un (fun v => Op.unary .not v) (.tmp 82) (.bool true) (.bool false) (fun _ => rfl) rfl (by kernel_rfl) rfl ?_
      refine w_nil (xn_then (w_condF rfl (w_skip (xn_then (w_seq ?_)))))
      refine w_any 14 [.inl (.slice pl L.length cl), .inl (.agg ((parU L c.r).cells).toArray), .inl (pt k2 0), .inl (pt k2 0), .inl (.int .i64 (c.r.s)), .inl (.slice pl L.length cl), .inl (pt k2 0), .inl (.agg (c.r.cells).toArray), .inl (.int .i64 (idA L c.r)), .inl (.tuple #[.agg (c.r.cells).toArray, .int .i64 (0)]), .inl (.tuple #[.agg (c.r.cells).toArray, .int .i64 (0)]), .inl (.agg (c.r.cells).toArray), .inl (.int .i64 (0)), .inr [.int .i64 0, .int .i64 0, .int .i64 0, .int .i64 0]] [12] (by kernel_rfl) (by kernel_rfl) (by kernel_rfl) (by kernel_rfl) rfl (by kernel_rfl) (by kernel_rfl) (late_cons ⟨_, _, rfl, rfl, fun _ _ _ _ h => h, fun f hd => ⟨rfl, la_un (fun v => Instr.extract v 1) (.tmp 88) (.tuple #[.agg (c.r.cells).toArray, .int .i64 (0)]) (.int .i64 (0)) (fun _ => rfl) (hd 10 rfl _ rfl) (fun w => by kernel_rfl)⟩⟩ late_nil) ?_ ?_ ?_
      ·exact Ds.start (by kernel_rfl)
      ·refine ea_cons ?_ (ea_cons ?_ (ea_cons ?_ (ea_cons ?_ (ea_cons ?_ (ea_cons ?_ (ea_cons ?_ (ea_cons ?_ (ea_cons ?_ (ea_cons ?_ (ea_cons ?_ (ea_cons ?_ (ea_cons ?_ (ea_cons ?_ (ea_nil))))))))))))))
       ·exact og_eq _ rfl (fun f wf hq hd K hK => go_run rfl (wo_mv (.tmp 7) (.slice pl L.length cl) (fun _ => rfl) rfl (hK _ (Mw.refl _))))
       ·exact og_eq _ rfl (fun f wf hq hd K hK => have Q6 := Q6.mo hq; go_run rfl (wo_load 25 (.tmp 12) (pt k6 0) (.agg ((parU L c.r).cells).toArray) rfl rfl (run_row Q6 25 0 4 ((parU L c.r).cells) rfl Tryd.underlying25 rfl sz25) (hK _ (Mw.refl _))))
       ·exact og_eq _ rfl (fun f wf hq hd K hK => go_run rfl (wo_un (fun v => Instr.fieldAt 27 v 0) (.tmp 3) (pt k2 0) (pt k2 0) (fun _ => rfl) rfl (by kernel_rfl) (hK _ (Mw.refl _))))
       ·exact og_eq _ rfl (fun f wf hq hd K hK => go_run rfl (wo_un (fun v => Instr.fieldAt 25 v 0) (.tmp 91) (pt k2 0) (pt k2 0) (fun _ => rfl) (hd 2 rfl) (by kernel_rfl) (hK _ (Mw.refl _))))
       ·exact og_eq _ rfl (fun f wf hq hd K hK => have Q2 := Q2.mo hq; go_run rfl (wo_load 3 (.tmp 92) (pt k2 0) (.int .i64 (c.r.s)) rfl (hd 3 rfl) (run_one Q2 3 0 rfl Tryd.underlying3 rfl) (hK _ (Mw.refl _))))
       ·exact og_eq _ rfl (fun f wf hq hd K hK => go_run rfl (wo_mv (.tmp 7) (.slice pl L.length cl) (fun _ => rfl) rfl (hK _ (Mw.refl _))))
       ·exact og_eq _ rfl (fun f wf hq hd K hK => go_run rfl (wo_un (fun v => Instr.fieldAt 27 v 0) (.tmp 3) (pt k2 0) (pt k2 0) (fun _ => rfl) rfl (by kernel_rfl) (hK _ (Mw.refl _))))
       ·exact og_eq _ rfl (fun f wf hq hd K hK => have Q2 := Q2.mo hq; go_run rfl (wo_load 25 (.tmp 95) (pt k2 0) (.agg (c.r.cells).toArray) rfl (hd 6 rfl) (run_row Q2 25 0 4 (c.r.cells) rfl Tryd.underlying25 rfl sz25) (hK _ (Mw.refl _))))
       ·exact og_eq _ rfl (fun f wf hq hd K hK => go_run rfl (wo_call 14 [(.tmp 94), (.tmp 96)] _ [.slice pl L.length cl, .agg (c.r.cells).toArray] (.int .i64 (idA L c.r)) rfl (li2 (hd 5 rfl) (hd 7 rfl)) (fun _ _ => by kernel_rfl) (wk (pid_n _ (hL.mw (M.trans hq)) hcl)) hK))
       ·exact og_eq _ rfl (fun f wf hq hd K hK => go_run rfl (wo_call 27 [(.tmp 89), (.tmp 90), (.tmp 93), (.tmp 97)] _ [.slice pl L.length cl, .agg ((parU L c.r).cells).toArray, .int .i64 (c.r.s), .int .i64 (idA L c.r)] (.tuple #[.agg (c.r.cells).toArray, .int .i64 (0)]) rfl (li4 (hd 0 rfl) (hd 1 rfl) (hd 4 rfl) (hd 8 rfl)) (fun _ _ => by kernel_rfl) (wk (cR (by rw [(kid_up hf2p (par_t hf4).2.1).1, (kid_up hf2p (par_t hf4).2.1).2.1]) (pkid_n (r := parU L c.r) (s := c.r.s) (n := idA L c.r) _ (hL.mw (M.trans hq)) hcl))) hK))
       ·exact og_eq _ rfl (fun f wf hq hd K hK => go_run rfl (wo_mv (.tmp 98) (.tuple #[.agg (c.r.cells).toArray, .int .i64 (0)]) (fun _ => rfl) (hd 9 rfl) (hK _ (Mw.refl _))))
       ·exact og_eq _ rfl (fun f wf hq hd K hK => go_run rfl (wo_un (fun v => Instr.extract v 0) (.tmp 88) (.tuple #[.agg (c.r.cells).toArray, .int .i64 (0)]) (.agg (c.r.cells).toArray) (fun _ => rfl) (hd 10 rfl) (by kernel_rfl) (hK _ (Mw.refl _))))
       ·exact og_eq _ rfl (fun f wf hq hd K hK => go_run rfl (wo_un (fun v => Instr.extract v 1) (.tmp 88) (.tuple #[.agg (c.r.cells).toArray, .int .i64 (0)]) (.int .i64 (0)) (fun _ => rfl) (hd 10 rfl) (by kernel_rfl) (hK _ (Mw.refl _))))
       ·exact og_new [.int .i64 0, .int .i64 0, .int .i64 0, .int .i64 0] rfl (fun f wf hq hd K hK => go_run rfl (wo_alloc 25 #[.int .i64 0, .int .i64 0, .int .i64 0, .int .i64 0] rfl (fun _ => by kernel_rfl) hK))
      intro kf22 u22 hq hR hne
      obtain ⟨N_k7, Q7⟩ := hR 13 _ rfl rfl
      have ne_k1_k7 : k1 ≠ (kf22 13) := by have := Q1.lt; omega
      have ne_k2_k7 : k2 ≠ (kf22 13) := by have := Q2.lt; omega
      have ne_k3_k7 : k3 ≠ (kf22 13) := by have := Q3.lt; omega
      have ne_k4_k7 : k4 ≠ (kf22 13) := by have := Q4.lt; omega
      have ne_k5_k7 : k5 ≠ (kf22 13) := by have := Q5.lt; omega
      have ne_k6_k7 : k6 ≠ (kf22 13) := by have := Q6.lt; omega
      replace N_k7 := Nat.le_trans M.size N_k7
      replace Q1 := Q1.mo hq
      replace Q2 := Q2.mo hq
      replace Q3 := Q3.mo hq
      replace Q4 := Q4.mo hq
      replace Q5 := Q5.mo hq
      replace Q6 := Q6.mo hq
      replace M := M.trans hq
      clear hq hR hne
      refine wl_st 25 (.tmp 14) (.tmp 99) (kf22 13) 0 ((c.r.cells).toArray) _ (c.r.cells) Q7 rfl rfl rfl rfl rfl sz25 rfl rfl rfl ?_
      intro u23 hS Qn
      replace Q7 := Qn
      clear Qn
      replace Q1 := hS.other _ _ ne_k1_k7 Q1
      replace Q2 := hS.other _ _ ne_k2_k7 Q2
      replace Q3 := hS.other _ _ ne_k3_k7 Q3
      replace Q4 := hS.other _ _ ne_k4_k7 Q4
      replace Q5 := hS.other _ _ ne_k5_k7 Q5
      replace Q6 := hS.other _ _ ne_k6_k7 Q6
      replace M := hS.mo _ N_k7 M
      clear hS
      refine wl_m (.tmp 100) (.int .i64 (0)) ?_
      refine w_nil (xn_then (w_seq (w_reg ?_)))
      refine wl_m (.tmp 15) (.int .i64 (0)) ?_
      refine wl_b .eql 31 (.tmp 101) (.const (.int .i64 (0))) (.int .i64 (0)) (.int .i64 (0)) (.bool true) (eq34 (r := true) (decide_eq_true rfl) _ _ _) ?_
      refine wl_m (.tmp 102) (.bool true) ?_
      refine wl_l 25 (.tmp 14) (pt (kf22 13) 0) (.agg (c.r.cells).toArray) (run_row Q7 25 0 4 (c.r.cells) rfl Tryd.underlying25 rfl sz25) ?_
      refine wl_f 27 0 (.tmp 3) (pt k2 0) (pt k2 0) ?_
      refine wl_l 25 (.tmp 105) (pt k2 0) (.agg (c.r.cells).toArray) (run_row Q2 25 0 4 (c.r.cells) rfl Tryd.underlying25 rfl sz25) ?_
      refine wl_b .eql 25 (.tmp 104) (.tmp 106) (.agg (c.r.cells).toArray) (.agg (c.r.cells).toArray) (.bool true) (eqR (sR_self _) _ _ _) ?_
      refine wl_pick (.tmp 103) (.tmp 107) (.const (.bool false)) true (.bool true) (fun _ => rfl) rfl rfl rfl ?_
      refine wl_m (.tmp 108) (.bool true) ?_
      refine wl_m (.tmp 7) (.slice pl L.length cl) ?_
      refine wl_f 27 0 (.tmp 3) (pt k2 0) (pt k2 0) ?_
      refine wl_l 25 (.tmp 111) (pt k2 0) (.agg (c.r.cells).toArray) (run_row Q2 25 0 4 (c.r.cells) rfl Tryd.underlying25 rfl sz25) ?_
      refine wl_l 25 (.tmp 12) (pt k6 0) (.agg ((parU L c.r).cells).toArray) (run_row Q6 25 0 4 ((parU L c.r).cells) rfl Tryd.underlying25 rfl sz25) ?_
      refine wl_call 28 [(.tmp 110), (.tmp 112), (.tmp 113)] _ [.slice pl L.length cl, .agg (c.r.cells).toArray, .agg ((parU L c.r).cells).toArray] (.bool true) rfl rfl (fun _ _ => by kernel_rfl) (wk (cR (congrArg Value.bool (kid_up hf2p (par_t hf4).2.1).2.2) (pwit_n (r := c.r) (o := parU L c.r) _ (hL.mw M) hcl))) rfl ?_
      intro u24 hq
      replace Q1 := Q1.mo hq
      replace Q2 := Q2.mo hq
      replace Q3 := Q3.mo hq
      replace Q4 := Q4.mo hq
      replace Q5 := Q5.mo hq
      replace Q6 := Q6.mo hq
      replace Q7 := Q7.mo hq
      replace M := M.trans hq
      clear hq
      refine wl_pick (.tmp 109) (.tmp 114) (.const (.bool false)) true (.bool true) (fun _ => rfl) rfl rfl rfl ?_
      refine wl_m (.tmp 115) (.bool true) ?_
      refine w_nil (xn_then (w_ret ?_))
      exact w_ret1 _ (.bool true) rfl rfl ⟨rfl, M0.trans M⟩
     | false =>
      refine wl_call 7 [(.tmp 76), (.tmp 78)] _ [.slice pl L.length cl, .agg (c.r.cells).toArray] (.tuple #[.agg ((parR L c.r).cells).toArray, .bool false]) rfl rfl (fun _ _ => by kernel_rfl) (wk (cR (by rw [hf4]) (ppar_n _ (hL.mw M) hcl))) rfl ?_
      intro u19 hq
      replace Q1 := Q1.mo hq
      replace Q2 := Q2.mo hq
      replace Q3 := Q3.mo hq
      replace Q4 := Q4.mo hq
      replace Q5 := Q5.mo hq
      replace M := M.trans hq
      clear hq
      refine wl_m (.tmp 79) (.tuple #[.agg ((parR L c.r).cells).toArray, .bool false]) ?_
      refine wl_un (fun v => Instr.extract v 0) (.tmp 75) (.tuple #[.agg ((parR L c.r).cells).toArray, .bool false]) (.agg ((parR L c.r).cells).toArray) (fun _ => rfl) rfl (by kernel_rfl) rfl ?_
      refine wl_un (fun v => Instr.extract v 1) (.tmp 75) (.tuple #[.agg ((parR L c.r).cells).toArray, .bool false]) (.bool false) (fun _ => rfl) rfl (by kernel_rfl) rfl ?_
      refine wl_alloc 25 #[.int .i64 0, .int .i64 0, .int .i64 0, .int .i64 0] rfl (fun _ => by kernel_rfl) rfl ?_
      intro k6 u20 hk hz hq Q6
      have ne_k1_k6 : k1 ≠ k6 := by have := Q1.lt; omega
      have ne_k2_k6 : k2 ≠ k6 := by have := Q2.lt; omega
      have ne_k3_k6 : k3 ≠ k6 := by have := Q3.lt; omega
      have ne_k4_k6 : k4 ≠ k6 := by have := Q4.lt; omega
      have ne_k5_k6 : k5 ≠ k6 := by have := Q5.lt; omega
      have N_k6 : u8.heap.size ≤ k6 := by have := M.size; omega
      replace Q1 := Q1.mo hq
      replace Q2 := Q2.mo hq
      replace Q3 := Q3.mo hq
      replace Q4 := Q4.mo hq
      replace Q5 := Q5.mo hq
      replace M := M.trans hq
      clear hk hz hq
      refine wl_st 25 (.tmp 12) (.tmp 80) k6 0 (((parR L c.r).cells).toArray) _ ((parR L c.r).cells) Q6 rfl rfl rfl rfl rfl sz25 rfl rfl rfl ?_
      intro u21 hS Qn
      replace Q6 := Qn
      clear Qn
      replace Q1 := hS.other _ _ ne_k1_k6 Q1
      replace Q2 := hS.other _ _ ne_k2_k6 Q2
      replace Q3 := hS.other _ _ ne_k3_k6 Q3
      replace Q4 := hS.other _ _ ne_k4_k6 Q4
      replace Q5 := hS.other _ _ ne_k5_k6 Q5
      replace M := hS.mo _ N_k6 M
      clear hS
      refine wl_m (.tmp 81) (.bool false) ?_
      refine w_nil (xn_then (w_seq (w_seq (w_reg ?_))))
      refine wl_m (.tmp 13) (.bool false) ?_
      refine wl_un (fun v => Op.unary .not v) (.tmp 82) (.bool false) (.bool true) (fun _ => rfl) rfl (by kernel_rfl) rfl ?_
      refine w_nil (xn_then (w_condT rfl (w_seq (w_reg ?_))))
      refine wl_f 27 0 (.tmp 3) (pt k2 0) (pt k2 0) ?_
      refine wl_f 25 0 (.tmp 84) (pt k2 0) (pt k2 0) ?_
      refine wl_l 3 (.tmp 85) (pt k2 0) (.int .i64 (c.r.s)) (run_one Q2 3 0 rfl Tryd.underlying3 rfl) ?_
      cases hf5 : decide (c.r.s = 0) with
      | true =>
       have hf5p := of_decide_eq_true hf5
       refine wl_b .eql 3 (.tmp 86) (.const (.int .i64 (0))) (.int .i64 (c.r.s)) (.int .i64 (0)) (.bool true) (eq3 hf5 _ _ _) ?_
       refine wl_m (.tmp 87) (.bool true) ?_
       refine w_nil (xn_then (w_ret (xr_then ?_)))
       exact w_ret1 _ (.bool true) rfl rfl ⟨rfl, M0.trans M⟩
      | false =>
       have hf5p := of_decide_eq_false hf5
       refine wl_b .eql 3 (.tmp 86) (.const (.int .i64 (0))) (.int .i64 (c.r.s)) (.int .i64 (0)) (.bool false) (eq3 hf5 _ _ _) ?_
       refine wl_m (.tmp 87) (.bool false) ?_
       refine w_nil (xn_then (w_ret (xr_then ?_)))
       exact w_ret1 _ (.bool false) rfl rfl ⟨absurd (par_s hf2p hf4) hf5p, M0.trans M⟩
    | false =>
     have hf3p := of_decide_eq_false hf3
     refine wl_b .eql 31 (.tmp 58) (.const (.int .i64 (0))) (.int .i64 (ckC L c)) (.int .i64 (0)) (.bool false) (eq34 hf3 _ _ _) ?_
     refine w_nil (xn_then (w_condF rfl (w_skip (xn_then (w_seq (w_reg ?_))))))
     refine wl_m (.tmp 7) (.slice pl L.length cl) ?_
     refine wl_f 27 0 (.tmp 3) (pt k2 0) (pt k2 0) ?_
     refine wl_l 25 (.tmp 77) (pt k2 0) (.agg (c.r.cells).toArray) (run_row Q2 25 0 4 (c.r.cells) rfl Tryd.underlying25 rfl sz25) ?_
     cases hf4 : parO L c.r with
     | true =>
      refine wl_call 7 [(.tmp 76), (.tmp 78)] _ [.slice pl L.length cl, .agg (c.r.cells).toArray] (.tuple #[.agg ((parU L c.r).cells).toArray, .bool true]) rfl rfl (fun _ _ => by kernel_rfl) (wk (cR (by rw [par_u hf4, hf4]) (ppar_n _ (hL.mw M) hcl))) rfl ?_
      intro u15 hq
      replace Q1 := Q1.mo hq
      replace Q2 := Q2.mo hq
      replace Q3 := Q3.mo hq
      replace Q4 := Q4.mo hq
      replace M := M.trans hq
      clear hq
      refine wl_m (.tmp 79) (.tuple #[.agg ((parU L c.r).cells).toArray, .bool true]) ?_
      refine wl_un (fun v => Instr.extract v 0) (.tmp 75) (.tuple #[.agg ((parU L c.r).cells).toArray, .bool true]) (.agg ((parU L c.r).cells).toArray) (fun _ => rfl) rfl (by kernel_rfl) rfl ?_
      refine wl_un (fun v => Instr.extract v 1) (.tmp 75) (.tuple #[.agg ((parU L c.r).cells).toArray, .bool true]) (.bool true) (fun _ => rfl) rfl (by kernel_rfl) rfl ?_
      refine wl_alloc 25 #[.int .i64 0, .int .i64 0, .int .i64 0, .int .i64 0] rfl (fun _ => by kernel_rfl) rfl ?_
      intro k5 u16 hk hz hq Q5
      have ne_k1_k5 : k1 ≠ k5 := by have := Q1.lt; omega
      have ne_k2_k5 : k2 ≠ k5 := by have := Q2.lt; omega
      have ne_k3_k5 : k3 ≠ k5 := by have := Q3.lt; omega
      have ne_k4_k5 : k4 ≠ k5 := by have := Q4.lt; omega
      have N_k5 : u8.heap.size ≤ k5 := by have := M.size; omega
      replace Q1 := Q1.mo hq
      replace Q2 := Q2.mo hq
      replace Q3 := Q3.mo hq
      replace Q4 := Q4.mo hq
      replace M := M.trans hq
      clear hk hz hq
      refine wl_st 25 (.tmp 12) (.tmp 80) k5 0 (((parU L c.r).cells).toArray) _ ((parU L c.r).cells) Q5 rfl rfl rfl rfl rfl sz25 rfl rfl rfl ?_
      intro u17 hS Qn
      replace Q5 := Qn
      clear Qn
      replace Q1 := hS.other _ _ ne_k1_k5 Q1
      replace Q2 := hS.other _ _ ne_k2_k5 Q2
      replace Q3 := hS.other _ _ ne_k3_k5 Q3
      replace Q4 := hS.other _ _ ne_k4_k5 Q4
      replace M := hS.mo _ N_k5 M
      clear hS
      refine wl_m (.tmp 81) (.bool true) ?_
      refine w_nil (xn_then (w_seq (w_seq (w_reg ?_))))
      refine wl_m (.tmp 13) (.bool true) ?_
      refine wl_un (fun v => Op.unary .not v) (.tmp 82) (.bool true) (.bool false) (fun _ => rfl) rfl (by kernel_rfl) rfl ?_
      refine w_nil (xn_then (w_condF rfl (w_skip (xn_then (w_seq ?_)))))
      refine w_any 14 [.inl (.slice pl L.length cl), .inl (.agg ((parU L c.r).cells).toArray), .inl (pt k2 0), .inl (pt k2 0), .inl (.int .i64 (c.r.s)), .inl (.slice pl L.length cl), .inl (pt k2 0), .inl (.agg (c.r.cells).toArray), .inl (.int .i64 (idA L c.r)), .inl (.tuple #[.agg (c.r.cells).toArray, .int .i64 (0)]), .inl (.tuple #[.agg (c.r.cells).toArray, .int .i64 (0)]), .inl (.agg (c.r.cells).toArray), .inl (.int .i64 (0)), .inr [.int .i64 0, .int .i64 0, .int .i64 0, .int .i64 0]] [12] (by kernel_rfl) (by kernel_rfl) (by kernel_rfl) (by kernel_rfl) rfl (by kernel_rfl) (by kernel_rfl) (late_cons ⟨_, _, rfl, rfl, fun _ _ _ _ h => h, fun f hd => ⟨rfl, la_un (fun v => Instr.extract v 1) (.tmp 88) (.tuple #[.agg (c.r.cells).toArray, .int .i64 (0)]) (.int .i64 (0)) (fun _ => rfl) (hd 10 rfl _ rfl) (fun w => by kernel_rfl)⟩⟩ late_nil) ?_ ?_ ?_
      ·exact Ds.start (by kernel_rfl)
      ·refine ea_cons ?_ (ea_cons ?_ (ea_cons ?_ (ea_cons ?_ (ea_cons ?_ (ea_cons ?_ (ea_cons ?_ (ea_cons ?_ (ea_cons ?_ (ea_cons ?_ (ea_cons ?_ (ea_cons ?_ (ea_cons ?_ (ea_cons ?_ (ea_nil))))))))))))))
       ·exact og_eq _ rfl (fun f wf hq hd K hK => go_run rfl (wo_mv (.tmp 7) (.slice pl L.length cl) (fun _ => rfl) rfl (hK _ (Mw.refl _))))
       ·exact og_eq _ rfl (fun f wf hq hd K hK => have Q5 := Q5.mo hq; go_run rfl (wo_load 25 (.tmp 12) (pt k5 0) (.agg ((parU L c.r).cells).toArray) rfl rfl (run_row Q5 25 0 4 ((parU L c.r).cells) rfl Tryd.underlying25 rfl sz25) (hK _ (Mw.refl _))))
       ·exact og_eq _ rfl (fun f wf hq hd K hK => go_run rfl (wo_un (fun v => Instr.fieldAt 27 v 0) (.tmp 3) (pt k2 0) (pt k2 0) (fun _ => rfl) rfl (by kernel_rfl) (hK _ (Mw.refl _))))
       ·exact og_eq _ rfl (fun f wf hq hd K hK => go_run rfl (wo_un (fun v => Instr.fieldAt 25 v 0) (.tmp 91) (pt k2 0) (pt k2 0) (fun _ => rfl) (hd 2 rfl) (by kernel_rfl) (hK _ (Mw.refl _))))
       ·exact og_eq _ rfl (fun f wf hq hd K hK => have Q2 := Q2.mo hq; go_run rfl (wo_load 3 (.tmp 92) (pt k2 0) (.int .i64 (c.r.s)) rfl (hd 3 rfl) (run_one Q2 3 0 rfl Tryd.underlying3 rfl) (hK _ (Mw.refl _))))
       ·exact og_eq _ rfl (fun f wf hq hd K hK => go_run rfl (wo_mv (.tmp 7) (.slice pl L.length cl) (fun _ => rfl) rfl (hK _ (Mw.refl _))))
       ·exact og_eq _ rfl (fun f wf hq hd K hK => go_run rfl (wo_un (fun v => Instr.fieldAt 27 v 0) (.tmp 3) (pt k2 0) (pt k2 0) (fun _ => rfl) rfl (by kernel_rfl) (hK _ (Mw.refl _))))
       ·exact og_eq _ rfl (fun f wf hq hd K hK => have Q2 := Q2.mo hq; go_run rfl (wo_load 25 (.tmp 95) (pt k2 0) (.agg (c.r.cells).toArray) rfl (hd 6 rfl) (run_row Q2 25 0 4 (c.r.cells) rfl Tryd.underlying25 rfl sz25) (hK _ (Mw.refl _))))
       ·exact og_eq _ rfl (fun f wf hq hd K hK => go_run rfl (wo_call 14 [(.tmp 94), (.tmp 96)] _ [.slice pl L.length cl, .agg (c.r.cells).toArray] (.int .i64 (idA L c.r)) rfl (li2 (hd 5 rfl) (hd 7 rfl)) (fun _ _ => by kernel_rfl) (wk (pid_n _ (hL.mw (M.trans hq)) hcl)) hK))
       ·exact og_eq _ rfl (fun f wf hq hd K hK => go_run rfl (wo_call 27 [(.tmp 89), (.tmp 90), (.tmp 93), (.tmp 97)] _ [.slice pl L.length cl, .agg ((parU L c.r).cells).toArray, .int .i64 (c.r.s), .int .i64 (idA L c.r)] (.tuple #[.agg (c.r.cells).toArray, .int .i64 (0)]) rfl (li4 (hd 0 rfl) (hd 1 rfl) (hd 4 rfl) (hd 8 rfl)) (fun _ _ => by kernel_rfl) (wk (cR (by rw [(kid_up hf2p (par_t hf4).2.1).1, (kid_up hf2p (par_t hf4).2.1).2.1]) (pkid_n (r := parU L c.r) (s := c.r.s) (n := idA L c.r) _ (hL.mw (M.trans hq)) hcl))) hK))
       ·exact og_eq _ rfl (fun f wf hq hd K hK => go_run rfl (wo_mv (.tmp 98) (.tuple #[.agg (c.r.cells).toArray, .int .i64 (0)]) (fun _ => rfl) (hd 9 rfl) (hK _ (Mw.refl _))))
       ·exact og_eq _ rfl (fun f wf hq hd K hK => go_run rfl (wo_un (fun v => Instr.extract v 0) (.tmp 88) (.tuple #[.agg (c.r.cells).toArray, .int .i64 (0)]) (.agg (c.r.cells).toArray) (fun _ => rfl) (hd 10 rfl) (by kernel_rfl) (hK _ (Mw.refl _))))
       ·exact og_eq _ rfl (fun f wf hq hd K hK => go_run rfl (wo_un (fun v => Instr.extract v 1) (.tmp 88) (.tuple #[.agg (c.r.cells).toArray, .int .i64 (0)]) (.int .i64 (0)) (fun _ => rfl) (hd 10 rfl) (by kernel_rfl) (hK _ (Mw.refl _))))
       ·exact og_new [.int .i64 0, .int .i64 0, .int .i64 0, .int .i64 0] rfl (fun f wf hq hd K hK => go_run rfl (wo_alloc 25 #[.int .i64 0, .int .i64 0, .int .i64 0, .int .i64 0] rfl (fun _ => by kernel_rfl) hK))
      intro kf18 u18 hq hR hne
      obtain ⟨N_k6, Q6⟩ := hR 13 _ rfl rfl
      have ne_k1_k6 : k1 ≠ (kf18 13) := by have := Q1.lt; omega
      have ne_k2_k6 : k2 ≠ (kf18 13) := by have := Q2.lt; omega
      have ne_k3_k6 : k3 ≠ (kf18 13) := by have := Q3.lt; omega
      have ne_k4_k6 : k4 ≠ (kf18 13) := by have := Q4.lt; omega
      have ne_k5_k6 : k5 ≠ (kf18 13) := by have := Q5.lt; omega
      replace N_k6 := Nat.le_trans M.size N_k6
      replace Q1 := Q1.mo hq
      replace Q2 := Q2.mo hq
      replace Q3 := Q3.mo hq
      replace Q4 := Q4.mo hq
      replace Q5 := Q5.mo hq
      replace M := M.trans hq
      clear hq hR hne
      refine wl_st 25 (.tmp 14) (.tmp 99) (kf18 13) 0 ((c.r.cells).toArray) _ (c.r.cells) Q6 rfl rfl rfl rfl rfl sz25 rfl rfl rfl ?_
      intro u19 hS Qn
      replace Q6 := Qn
      clear Qn
      replace Q1 := hS.other _ _ ne_k1_k6 Q1
      replace Q2 := hS.other _ _ ne_k2_k6 Q2
      replace Q3 := hS.other _ _ ne_k3_k6 Q3
      replace Q4 := hS.other _ _ ne_k4_k6 Q4
      replace Q5 := hS.other _ _ ne_k5_k6 Q5
      replace M := hS.mo _ N_k6 M
      clear hS
      refine wl_m (.tmp 100) (.int .i64 (0)) ?_
      refine w_nil (xn_then (w_seq (w_reg ?_)))
      refine wl_m (.tmp 15) (.int .i64 (0)) ?_
      refine wl_b .eql 31 (.tmp 101) (.const (.int .i64 (0))) (.int .i64 (0)) (.int .i64 (0)) (.bool true) (eq34 (r := true) (decide_eq_true rfl) _ _ _) ?_
      refine wl_m (.tmp 102) (.bool true) ?_
      refine wl_l 25 (.tmp 14) (pt (kf18 13) 0) (.agg (c.r.cells).toArray) (run_row Q6 25 0 4 (c.r.cells) rfl Tryd.underlying25 rfl sz25) ?_
      refine wl_f 27 0 (.tmp 3) (pt k2 0) (pt k2 0) ?_
      refine wl_l 25 (.tmp 105) (pt k2 0) (.agg (c.r.cells).toArray) (run_row Q2 25 0 4 (c.r.cells) rfl Tryd.underlying25 rfl sz25) ?_
      refine wl_b .eql 25 (.tmp 104) (.tmp 106) (.agg (c.r.cells).toArray) (.agg (c.r.cells).toArray) (.bool true) (eqR (sR_self _) _ _ _) ?_
      refine wl_pick (.tmp 103) (.tmp 107) (.const (.bool false)) true (.bool true) (fun _ => rfl) rfl rfl rfl ?_
      refine wl_m (.tmp 108) (.bool true) ?_
      refine wl_m (.tmp 7) (.slice pl L.length cl) ?_
      refine wl_f 27 0 (.tmp 3) (pt k2 0) (pt k2 0) ?_
      refine wl_l 25 (.tmp 111) (pt k2 0) (.agg (c.r.cells).toArray) (run_row Q2 25 0 4 (c.r.cells) rfl Tryd.underlying25 rfl sz25) ?_
      refine wl_l 25 (.tmp 12) (pt k5 0) (.agg ((parU L c.r).cells).toArray) (run_row Q5 25 0 4 ((parU L c.r).cells) rfl Tryd.underlying25 rfl sz25) ?_
      refine wl_call 28 [(.tmp 110), (.tmp 112), (.tmp 113)] _ [.slice pl L.length cl, .agg (c.r.cells).toArray, .agg ((parU L c.r).cells).toArray] (.bool true) rfl rfl (fun _ _ => by kernel_rfl) (wk (cR (congrArg Value.bool (kid_up hf2p (par_t hf4).2.1).2.2) (pwit_n (r := c.r) (o := parU L c.r) _ (hL.mw M) hcl))) rfl ?_
      intro u20 hq
      replace Q1 := Q1.mo hq
      replace Q2 := Q2.mo hq
      replace Q3 := Q3.mo hq
      replace Q4 := Q4.mo hq
      replace Q5 := Q5.mo hq
      replace Q6 := Q6.mo hq
      replace M := M.trans hq
      clear hq
      refine wl_pick (.tmp 109) (.tmp 114) (.const (.bool false)) true (.bool true) (fun _ => rfl) rfl rfl rfl ?_
      refine wl_m (.tmp 115) (.bool true) ?_
      refine w_nil (xn_then (w_ret ?_))
      exact w_ret1 _ (.bool true) rfl rfl ⟨rfl, M0.trans M⟩
     | false =>
      refine wl_call 7 [(.tmp 76), (.tmp 78)] _ [.slice pl L.length cl, .agg (c.r.cells).toArray] (.tuple #[.agg ((parR L c.r).cells).toArray, .bool false]) rfl rfl (fun _ _ => by kernel_rfl) (wk (cR (by rw [hf4]) (ppar_n _ (hL.mw M) hcl))) rfl ?_
      intro u15 hq
      replace Q1 := Q1.mo hq
      replace Q2 := Q2.mo hq
      replace Q3 := Q3.mo hq
      replace Q4 := Q4.mo hq
      replace M := M.trans hq
      clear hq
      refine wl_m (.tmp 79) (.tuple #[.agg ((parR L c.r).cells).toArray, .bool false]) ?_
      refine wl_un (fun v => Instr.extract v 0) (.tmp 75) (.tuple #[.agg ((parR L c.r).cells).toArray, .bool false]) (.agg ((parR L c.r).cells).toArray) (fun _ => rfl) rfl (by kernel_rfl) rfl ?_
      refine wl_un (fun v => Instr.extract v 1) (.tmp 75) (.tuple #[.agg ((parR L c.r).cells).toArray, .bool false]) (.bool false) (fun _ => rfl) rfl (by kernel_rfl) rfl ?_
      refine wl_alloc 25 #[.int .i64 0, .int .i64 0, .int .i64 0, .int .i64 0] rfl (fun _ => by kernel_rfl) rfl ?_
      intro k5 u16 hk hz hq Q5
      have ne_k1_k5 : k1 ≠ k5 := by have := Q1.lt; omega
      have ne_k2_k5 : k2 ≠ k5 := by have := Q2.lt; omega
      have ne_k3_k5 : k3 ≠ k5 := by have := Q3.lt; omega
      have ne_k4_k5 : k4 ≠ k5 := by have := Q4.lt; omega
      have N_k5 : u8.heap.size ≤ k5 := by have := M.size; omega
      replace Q1 := Q1.mo hq
      replace Q2 := Q2.mo hq
      replace Q3 := Q3.mo hq
      replace Q4 := Q4.mo hq
      replace M := M.trans hq
      clear hk hz hq
      refine wl_st 25 (.tmp 12) (.tmp 80) k5 0 (((parR L c.r).cells).toArray) _ ((parR L c.r).cells) Q5 rfl rfl rfl rfl rfl sz25 rfl rfl rfl ?_
      intro u17 hS Qn
      replace Q5 := Qn
      clear Qn
      replace Q1 := hS.other _ _ ne_k1_k5 Q1
      replace Q2 := hS.other _ _ ne_k2_k5 Q2
      replace Q3 := hS.other _ _ ne_k3_k5 Q3
      replace Q4 := hS.other _ _ ne_k4_k5 Q4
      replace M := hS.mo _ N_k5 M
      clear hS
      refine wl_m (.tmp 81) (.bool false) ?_
      refine w_nil (xn_then (w_seq (w_seq (w_reg ?_))))
      refine wl_m (.tmp 13) (.bool false) ?_
      refine wl_un (fun v => Op.unary .not v) (.tmp 82) (.bool false) (.bool true) (fun _ => rfl) rfl (by kernel_rfl) rfl ?_
      refine w_nil (xn_then (w_condT rfl (w_seq (w_reg ?_))))
      refine wl_f 27 0 (.tmp 3) (pt k2 0) (pt k2 0) ?_
      refine wl_f 25 0 (.tmp 84) (pt k2 0) (pt k2 0) ?_
      refine wl_l 3 (.tmp 85) (pt k2 0) (.int .i64 (c.r.s)) (run_one Q2 3 0 rfl Tryd.underlying3 rfl) ?_
      cases hf5 : decide (c.r.s = 0) with
      | true =>
       have hf5p := of_decide_eq_true hf5
       refine wl_b .eql 3 (.tmp 86) (.const (.int .i64 (0))) (.int .i64 (c.r.s)) (.int .i64 (0)) (.bool true) (eq3 hf5 _ _ _) ?_
       refine wl_m (.tmp 87) (.bool true) ?_
       refine w_nil (xn_then (w_ret (xr_then ?_)))
       exact w_ret1 _ (.bool true) rfl rfl ⟨rfl, M0.trans M⟩
      | false =>
       have hf5p := of_decide_eq_false hf5
       refine wl_b .eql 3 (.tmp 86) (.const (.int .i64 (0))) (.int .i64 (c.r.s)) (.int .i64 (0)) (.bool false) (eq3 hf5 _ _ _) ?_
       refine wl_m (.tmp 87) (.bool false) ?_
       refine w_nil (xn_then (w_ret (xr_then ?_)))
       exact w_ret1 _ (.bool false) rfl rfl ⟨absurd (par_s hf2p hf4) hf5p, M0.trans M⟩
   | false =>
    have hf2p := of_decide_eq_false hf2
    refine wl_b .neq 31 (.tmp 37) (.const (.int .i64 (0))) (.int .i64 (ckR L c.r)) (.int .i64 (0)) (.bool true) (ne34 hf2 _ _ _) ?_
    refine w_nil (xn_then (w_condT rfl (w_seq (w_reg ?_))))
    refine wl_m (.const (.bool true)) (.bool true) ?_
    refine w_nil (xn_then (w_ret (xr_then ?_)))
    exact w_ret1 _ (.bool true) rfl rfl ⟨rfl, M0.trans M⟩
end Go.Proofs.YtnffhcjmpjajlaaDoor.V
namespace Go.Proofs.YtnffhcjmpjajlaaDoor
open Go.ChangeShapes Go.WideShapes Go.ChangeAt Go.RowKit
namespace D
theorem cl_Section : Tryd.prog.cellsOf 45 = 4 := by kernel_rfl
theorem cl_SSection : Tryd.prog.cellsOf 43 = 1 := by kernel_rfl
theorem cl_Step : Tryd.prog.cellsOf 170 = 18 := by kernel_rfl
theorem cl_SStep : Tryd.prog.cellsOf 113 = 1 := by kernel_rfl
theorem cl_Table : Tryd.prog.cellsOf 115 = 2 := by kernel_rfl
theorem cl_STable : Tryd.prog.cellsOf 46 = 1 := by kernel_rfl
theorem cl_SString : Tryd.prog.cellsOf 120 = 1 := by kernel_rfl
theorem cl_Page : Tryd.prog.cellsOf 122 = 19 := by kernel_rfl
theorem cl_SPage : Tryd.prog.cellsOf 47 = 1 := by kernel_rfl
theorem cl_Def : Tryd.prog.cellsOf 49 = 7 := by kernel_rfl
section
variable {H : Type} {enc : TypeId × Value → H} {W : World} {sp : Nat → Bool}
set_option maxRecDepth 100000 in
theorem cut_se : ∀ (fuel : Nat) {cs : List Value} {x : DataW H × List MemPlace}, DataW.trod enc Tryd.prog W 0 sp true fuel 45 cs = some x → ∃ e : Se, LSe W e ∧ cs = e.cells := by
 intro fuel
 induction fuel using Nat.strongRecOn with
 | ind fuel ih =>
  intro cs x h
  obtain ⟨xs, m, rfl, _, hl, hlen, hi⟩ := DataW.trod_struct Tryd.underlying45 h
  rw [cl_Section] at hl
  obtain ⟨c0, c1, c2, c3, rfl⟩ : ∃ c0 c1 c2 c3, cs = [c0, c1, c2, c3] := by
   match cs, hl with
   | [a0, a1, a2, a3], _ => exact ⟨a0, a1, a2, a3, rfl⟩
  obtain ⟨y0, y1, y2, y3, rfl⟩ : ∃ y0 y1 y2 y3, xs = [y0, y1, y2, y3] := by
   match xs, hlen with
   | [a0, a1, a2, a3], _ => exact ⟨a0, a1, a2, a3, rfl⟩
  have i0 := hi 0 _ rfl
  have i1 := hi 1 _ rfl
  have i2 := hi 2 _ rfl
  have i3 := hi 3 _ rfl
  simp [cl_string, cl_int, cl_SItem, cl_SSection] at i0 i1 i2 i3
  obtain ⟨nm, e0, _⟩ := DataW.trod_string Tryd.underlying9 i0
  obtain ⟨mx, e1, _, _⟩ := DataW.trod_int Tryd.underlying3 i1
  obtain ⟨A, pa, ca, e2, hA, hSA, _⟩ := cut_sl Tryd.underlying42 (n := 23) (by decide) cl_Item It.cells ⟨⟨#[]⟩, 0, 0, 0, false, 0, (.mk 0 0 ⟨#[]⟩ ⟨#[]⟩ ⟨0, ⟨false, 0, 0, 0, 0, 0⟩, false, ⟨#[]⟩, 0⟩ 0 0 none 0 [])⟩ (fun o => LEx W o.ex) It.len (fun _ h => cut_item h) i2
  obtain ⟨B, pb, cb, e3, hB, hSB, _⟩ := cut_sl Tryd.underlying43 (n := 4) (by decide) cl_Section Se.cells (.mk ⟨#[]⟩ 0 none 0 [] none 0 []) (LSe W) Se.len (fun hm h => ih _ (by omega) h) i3
  simp at e0 e1
  subst e0 e1 e2 e3
  exact ⟨.mk nm mx pa ca A pb cb B, .mk hSA hA hSB hB, rfl⟩
set_option maxRecDepth 100000 in
theorem cut_step {fuel : Nat} {cs : List Value} {x : DataW H × List MemPlace} (h : DataW.trod enc Tryd.prog W 0 sp true fuel 170 cs = some x) : ∃ s : Sp3, cs = s.cells := by
 obtain ⟨xs, m, rfl, _, hl, hlen, hi⟩ := DataW.trod_struct Tryd.underlying170 h
 rw [cl_Step] at hl
 obtain ⟨c0, c1, c2, c3, c4, c5, c6, c7, c8, c9, c10, c11, c12, c13, c14, c15, c16, c17, rfl⟩ : ∃ c0 c1 c2 c3 c4 c5 c6 c7 c8 c9 c10 c11 c12 c13 c14 c15 c16 c17, cs = [c0, c1, c2, c3, c4, c5, c6, c7, c8, c9, c10, c11, c12, c13, c14, c15, c16, c17] := by
  match cs, hl with
  | [a0, a1, a2, a3, a4, a5, a6, a7, a8, a9, a10, a11, a12, a13, a14, a15, a16, a17], _ => exact ⟨a0, a1, a2, a3, a4, a5, a6, a7, a8, a9, a10, a11, a12, a13, a14, a15, a16, a17, rfl⟩
 obtain ⟨y0, y1, y2, rfl⟩ : ∃ y0 y1 y2, xs = [y0, y1, y2] := by
  match xs, hlen with
  | [a0, a1, a2], _ => exact ⟨a0, a1, a2, rfl⟩
 have i0 := hi 0 _ rfl
 have i1 := hi 1 _ rfl
 have i2 := hi 2 _ rfl
 simp [cl_Dec] at i0 i1 i2
 obtain ⟨a, e0⟩ := cut_dec i0
 obtain ⟨b, e1⟩ := cut_dec i1
 obtain ⟨c, e2⟩ := cut_dec i2
 simp only [Dc.cells] at e0 e1 e2
 simp at e0 e1 e2
 obtain ⟨f0, f1, f2, f3, f4, f5⟩ := e0
 obtain ⟨g0, g1, g2, g3, g4, g5⟩ := e1
 obtain ⟨k0, k1, k2, k3, k4, k5⟩ := e2
 subst f0 f1 f2 f3 f4 f5 g0 g1 g2 g3 g4 g5 k0 k1 k2 k3 k4 k5
 exact ⟨⟨a, b, c⟩, rfl⟩
set_option maxRecDepth 100000 in
theorem cut_tab {fuel : Nat} {cs : List Value} {x : DataW H × List MemPlace} (h : DataW.trod enc Tryd.prog W 0 sp true fuel 115 cs = some x) : ∃ b : Tb, SL W 18 Sp3.cells b.pa b.st ∧ cs = b.cells := by
 obtain ⟨xs, m, rfl, _, hl, hlen, hi⟩ := DataW.trod_struct Tryd.underlying115 h
 rw [cl_Table] at hl
 obtain ⟨c0, c1, rfl⟩ : ∃ c0 c1, cs = [c0, c1] := by
  match cs, hl with
  | [a0, a1], _ => exact ⟨a0, a1, rfl⟩
 obtain ⟨y0, y1, rfl⟩ : ∃ y0 y1, xs = [y0, y1] := by
  match xs, hlen with
  | [a0, a1], _ => exact ⟨a0, a1, rfl⟩
 have i0 := hi 0 _ rfl
 have i1 := hi 1 _ rfl
 simp [cl_string, cl_SStep] at i0 i1
 obtain ⟨nm, e0, _⟩ := DataW.trod_string Tryd.underlying9 i0
 obtain ⟨A, pa, ca, e1, _, hSA, _⟩ := cut_sl Tryd.underlying113 (n := 18) (by decide) cl_Step Sp3.cells ⟨⟨false, 0, 0, 0, 0, 0⟩, ⟨false, 0, 0, 0, 0, 0⟩, ⟨false, 0, 0, 0, 0, 0⟩⟩ (fun _ => True) (fun _ => rfl) (fun _ h => (cut_step h).imp fun _ h => ⟨trivial, h⟩) i1
 simp at e0
 subst e0 e1
 exact ⟨⟨nm, pa, ca, A⟩, hSA, rfl⟩
set_option maxRecDepth 100000 in
theorem cut_page {fuel : Nat} {cs : List Value} {x : DataW H × List MemPlace} (h : DataW.trod enc Tryd.prog W 0 sp true fuel 122 cs = some x) : ∃ b : Pg, (LEx W b.wh ∧ SL W 1 (fun s => [Value.string s]) b.pa b.its ∧ ∀ s ∈ b.its, s.size ≤ maxLen) ∧ cs = b.cells := by
 obtain ⟨xs, m, rfl, _, hl, hlen, hi⟩ := DataW.trod_struct Tryd.underlying122 h
 rw [cl_Page] at hl
 obtain ⟨c0, c1, c2, c3, c4, c5, c6, c7, c8, c9, c10, c11, c12, c13, c14, c15, c16, c17, c18, rfl⟩ : ∃ c0 c1 c2 c3 c4 c5 c6 c7 c8 c9 c10 c11 c12 c13 c14 c15 c16 c17 c18, cs = [c0, c1, c2, c3, c4, c5, c6, c7, c8, c9, c10, c11, c12, c13, c14, c15, c16, c17, c18] := by
  match cs, hl with
  | [a0, a1, a2, a3, a4, a5, a6, a7, a8, a9, a10, a11, a12, a13, a14, a15, a16, a17, a18], _ => exact ⟨a0, a1, a2, a3, a4, a5, a6, a7, a8, a9, a10, a11, a12, a13, a14, a15, a16, a17, a18, rfl⟩
 obtain ⟨y0, y1, y2, rfl⟩ : ∃ y0 y1 y2, xs = [y0, y1, y2] := by
  match xs, hlen with
  | [a0, a1, a2], _ => exact ⟨a0, a1, a2, rfl⟩
 have i0 := hi 0 _ rfl
 have i1 := hi 1 _ rfl
 have i2 := hi 2 _ rfl
 simp [cl_string, cl_Expr, cl_SString] at i0 i1 i2
 obtain ⟨nm, e0, _⟩ := DataW.trod_string Tryd.underlying9 i0
 obtain ⟨wh, hw, e1⟩ := cut_ex _ i1
 obtain ⟨A, pa, ca, e2, hz, hSA, _⟩ := cut_sl Tryd.underlying120 (n := 1) (by decide) cl_string (fun s => [Value.string s]) ⟨#[]⟩ (fun s => s.size ≤ maxLen) (fun _ => rfl) (fun _ h => by obtain ⟨s, e, _, z⟩ := DataW.trod_string Tryd.underlying9 h; exact ⟨s, z, e⟩) i2
 simp at e0
 subst e0 e2
 refine ⟨⟨nm, wh, pa, ca, A⟩, ⟨hw, hSA, hz⟩, ?_⟩
 show _ :: _ = Value.string nm :: (wh.cells ++ [_])
 rw [← e1]; rfl
set_option maxRecDepth 100000 in
theorem cut_def {fuel : Nat} {cs : List Value} {x : DataW H × List MemPlace} (h : DataW.trod enc Tryd.prog W 0 sp true fuel 49 cs = some x) : ∃ d : Df, LDf W d ∧ cs = d.cells := by
 obtain ⟨xs, m, rfl, _, hl, hlen, hi⟩ := DataW.trod_struct Tryd.underlying49 h
 rw [cl_Def] at hl
 obtain ⟨c0, c1, c2, c3, c4, c5, c6, rfl⟩ : ∃ c0 c1 c2 c3 c4 c5 c6, cs = [c0, c1, c2, c3, c4, c5, c6] := by
  match cs, hl with
  | [a0, a1, a2, a3, a4, a5, a6], _ => exact ⟨a0, a1, a2, a3, a4, a5, a6, rfl⟩
 obtain ⟨y0, y1, y2, y3, rfl⟩ : ∃ y0 y1 y2 y3, xs = [y0, y1, y2, y3] := by
  match xs, hlen with
  | [a0, a1, a2, a3], _ => exact ⟨a0, a1, a2, a3, rfl⟩
 have i0 := hi 0 _ rfl
 have i1 := hi 1 _ rfl
 have i2 := hi 2 _ rfl
 have i3 := hi 3 _ rfl
 simp [cl_string, cl_Section, cl_STable, cl_SPage] at i0 i1 i2 i3
 obtain ⟨nm, e0, _⟩ := DataW.trod_string Tryd.underlying9 i0
 obtain ⟨rt, hr, e1⟩ := cut_se _ i1
 obtain ⟨A, pa, ca, e2, hA, hSA, _⟩ := cut_sl Tryd.underlying46 (n := 2) (by decide) cl_Table Tb.cells ⟨⟨#[]⟩, none, 0, []⟩ (fun o => SL W 18 Sp3.cells o.pa o.st) (fun _ => rfl) (fun _ h => cut_tab h) i2
 obtain ⟨B, pb, cb, e3, hB, hSB, _⟩ := cut_sl Tryd.underlying47 (n := 19) (by decide) cl_Page Pg.cells ⟨⟨#[]⟩, (.mk 0 0 ⟨#[]⟩ ⟨#[]⟩ ⟨0, ⟨false, 0, 0, 0, 0, 0⟩, false, ⟨#[]⟩, 0⟩ 0 0 none 0 []), none, 0, []⟩ (fun o => LEx W o.wh ∧ SL W 1 (fun s => [Value.string s]) o.pa o.its ∧ ∀ s ∈ o.its, s.size ≤ maxLen) Pg.len (fun _ h => cut_page h) i3
 simp at e0
 subst e0 e2 e3
 refine ⟨⟨nm, rt, pa, ca, A, pb, cb, B⟩, ⟨hr, hSA, hA, hSB, fun o ho => (hB o ho).1, fun o ho => (hB o ho).2.1, fun o ho => (hB o ho).2.2⟩, ?_⟩
 show _ :: _ = Value.string nm :: (rt.cells ++ [_, _])
 rw [← e1]; rfl
end
end D
end Go.Proofs.YtnffhcjmpjajlaaDoor

namespace Go.Proofs.YtnffhcjmpjajlaaDoor
open Go.ChangeShapes Go.WideShapes Go.ChangeAt Go.RowKit Go.ChangeMaps
section
variable {H : Type} {enc : TypeId × Value → H} {W : World} {base : Nat} {v : Value} {d : DataW H} {p : List MemPlace}
set_option maxRecDepth 100000 in
theorem open_def (hv : Value.okWide Tryd.prog W .any base 49 v) (h : DataW.Trod enc Tryd.prog W 0 (fun _ => true) true 49 v d p) : ∃ x : D.Df, v = .agg x.cells.toArray ∧ D.LDf W x := by
 obtain ⟨a, rfl, _⟩ := okWide_struct Tryd.underlying49 hv
 obtain ⟨fuel, hf⟩ := h
 obtain ⟨x, hx, e⟩ := D.cut_def hf
 exact ⟨x, by have e2 : a = x.cells.toArray := (by rw [← e]; simp [Value.cells]); rw [e2], hx⟩
end
end Go.Proofs.YtnffhcjmpjajlaaDoor
