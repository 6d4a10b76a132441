/-
  A part of the proof.
-/
import Derived.Test.YtnffhcjmpjajlaaDoorKa11
import Derived.Test.YtnffhcjmpjajlaaDoorKa10
import Derived.Test.YtnffhcjmpjajlaaDoorKa6
import Derived.Test.YtnffhcjmpjajlaaDoorKa5
import Derived.Test.YtnffhcjmpjajlaaDoorKa4
import Derived.Test.YtnffhcjmpjajlaaDoorKa3
import Derived.Test.YtnffhcjmpjajlaaDoorKa2
import Derived.Test.YtnffhcjmpjajlaaDoorKa1
import Derived.RegionTactic
import Derived.Test.YtnffhcjmpjajlaaDoorProg
import Derived.WalkKit
import Derived.WalkSpells
import Derived.Handy
import Derived.BigQuiet
import Derived.Deep.RegionHeld3
import Derived.Deep.MidRow
import Derived.BigCall
import Derived.ChangeKeysEq
import Derived.Shelf.Small.Bits
import Derived.Shelf.Strconv.Itoa0
import Derived.Shelf.Bits.Mul64
import Derived.Deep.CutRange
import Derived.Deep.CutBlock
import Derived.ScopeJumps
import Derived.WalkMore
import Derived.Laws.StructEq
import Derived.Lib.CutLaws
import Derived.Maps.OwnSet
import Derived.WalkArith
import Derived.StringKeys
import Derived.ProofKit
import Derived.OpenShut
import Derived.ChangeArms
import Derived.Deep.Slices
import Derived.ReadAgain
import Derived.WideKeyArgs
import Derived.Maps.AppendAt
import Derived.Test.YtnffhcjmpjajlaaDoorKa9
import Derived.Test.YtnffhcjmpjajlaaDoorKa7
import Derived.Shelf.Strconv.Itoa4
import Derived.Test.YtnffhcjmpjajlaaDoorKa8
import Derived.Lib.IndexBytes
import Derived.Lib.AppendIntMem
import Derived.Lib.ItoaLen
import Derived.Laws.MakeOwn
import Derived.Test.YtnffhcjmpjajlaaDoorKa13
import Derived.Test.YtnffhcjmpjajlaaDoorKa12
namespace Go.Proofs.YtnffhcjmpjajlaaDoor
open Go.RowKit D
def ppA (X : List Bg) (i : Nat) : Option Ro := match X[i]? with
 | some g => if g.b && decide (g.s = ⟨#[]⟩) then some g.r else none
 | none => none
theorem ppA_at {X : List Bg} {i : Nat} {g : Bg} (h : X[i]? = some g) : ppA X i = if g.b && decide (g.s = ⟨#[]⟩) then some g.r else none := by unfold ppA; rw [h]
def ppr (X : List Bg) : Option Ro := V.fstN (ppA X) X.length
theorem pp_ret {X : List Bg} {o : Option Ro} {a : Ro} {f : Bool} (h : ppr X = o) (ha : a = o.getD ro0) (hf : f = o.isSome) : Ending.returned (.tuple #[a.v, .bool f]) = .returned (.tuple #[((ppr X).getD ro0).v, .bool (ppr X).isSome]) := by rw [h, ha, hf]
def ifA (its : List It) (u : ByteArray) (k : Nat) : Option Nat := match its[k]? with
 | some z => if z.nm = u then some k else none
 | none => none
theorem ifA_at {its : List It} {u : ByteArray} {k : Nat} {z : It} (h : its[k]? = some z) : ifA its u k = if z.nm = u then some k else none := by unfold ifA; rw [h]
def ifN (its : List It) (u : ByteArray) : Option Nat := V.fstN (ifA its u) its.length
def ifI (o : Option Nat) : Int := match o with
 | some k => (k : Int)
 | none => -1
def pcA (l : List S5) (X : List Bg) (i : Nat) : Option Ce := match X[i]?, l[i]? with
 | some g, some y => if g.b then (bgn g.s ⟨#[46]⟩).bind (fun u => (ifN y.items u).map (fun k : Nat => ⟨g.r, (k : Int)⟩)) else none
 | _, _ => none
theorem pcA_at {l : List S5} {X : List Bg} {i : Nat} {g : Bg} {y : S5} (h : X[i]? = some g) (hy : l[i]? = some y) : pcA l X i = if g.b then (bgn g.s ⟨#[46]⟩).bind (fun u => (ifN y.items u).map (fun k : Nat => ⟨g.r, (k : Int)⟩)) else none := by unfold pcA; rw [h, hy]
def ppc (l : List S5) (X : List Bg) : Option Ce := V.fstN (pcA l X) X.length
theorem pq_ret {l : List S5} {X : List Bg} {o : Option Ce} {a : Ce} {f : Bool} (h : ppc l X = o) (ha : a = o.getD V.ce0) (hf : f = o.isSome) : Ending.returned (.tuple #[a.v, .bool f]) = .returned (.tuple #[((ppc l X).getD V.ce0).v, .bool (ppc l X).isSome]) := by rw [h, ha, hf]
theorem bqs_len {l : List S5} {s : ByteArray} {i : Nat} (h : i < (bqs l s).length) : snd l = true ∧ i < l.length ∧ (bqs l s).length = l.length := by
 unfold bqs at h ⊢
 split at h
 next e => rw [if_pos e, bqL_len] ; rw [bqL_len] at h; exact ⟨e, h, rfl⟩
 next => exact absurd h (Nat.not_lt_zero i)
set_option maxHeartbeats 1000000 in
theorem pprs_n {L : List S5} {pl : Option Addr} {cl : Nat} {s : ByteArray} (w : World) (hL : LL w pl L) (hcl : L.length ≤ cl) (hs : s.size ≤ 9223372036854775807) (hN : L.length ≤ 100) : Calls Tryd.prog 20 #[.slice pl L.length cl, .string s] w fun e9 w' => e9 = .returned (.tuple #[((ppr (bqs L s)).getD ro0).v, .bool (ppr (bqs L s)).isSome]) ∧ Mo w w' := by
 refine w_enter 27 Tryd.func20 Tryd.ntmps20 rfl rfl ?_
 have M : Mo w w := Mo.refl _
 refine w_seq (w_reg ?_)
 refine wl_alloc 25 #[.int .i64 0, .int .i64 0, .int .i64 0, .int .i64 0] rfl (fun _ => by kernel_rfl) rfl ?_
 intro k1 u1 hk hz hq Q1
 have N_k1 : w.heap.size ≤ k1 := by have := M.size; omega
 replace M := M.trans hq
 clear hk hz hq
 refine wl_m (.const (.bool false)) (.bool false) ?_
 refine w_nil (xn_then (w_seq (w_seq (w_reg ?_))))
 refine wl_m (.tmp 0) (.slice pl L.length cl) ?_
 refine wl_m (.tmp 1) (.string s) ?_
 refine wl_callx 36 [(.tmp 8), (.tmp 9)] _ [.slice pl L.length cl, .string s] rfl rfl (fun _ _ => by kernel_rfl) (pbg_n _ (hL.mo M) hcl hs hN) rfl ?_
 rintro e9 u2 ⟨pc, cc, rfl, hC, hB, hq⟩
 refine ⟨_, rfl, ?_⟩
 replace Q1 := Q1.mo hq
 replace M := M.trans hq
 clear hq hB
 refine wl_val (.int .i64 (((bqs L s).length : Nat) : Int)) (len84 _ _ _ _ _ (by exact rfl) _ _ _ _ _ _) rfl ?_
 refine wl_m (.const (.int .i64 (0))) (.int .i64 (0)) ?_
 refine w_nil (xn_then (w_block ?_))
 have hz9 := hC.1
 unfold maxLen at hz9
 refine w_loop (fun m l9 w1 => ∃ i : Nat, m = (bqs L s).length - i ∧ i ≤ (bqs L s).length ∧ look l9 4 = pt k1 0 ∧ look l9 10 = .slice pc (bqs L s).length cc ∧ look l9 11 = .int .i64 (((bqs L s).length : Nat) : Int) ∧ look l9 12 = .int .i64 ((i : Nat) : Int) ∧ At w1 k1 [.int .i64 0, .int .i64 0, .int .i64 0, .int .i64 0] ∧ SL w1 6 Bg.cells pc (bqs L s) ∧ V.fstN (ppA (bqs L s)) i = none ∧ Mo w w1) _ ⟨0, rfl, Nat.zero_le _, rfl, rfl, rfl, rfl, Q1, hC, rfl, M⟩ ?_
 clear M Q1 hC
 rintro m l9 wl ⟨i, rfl, hi, e4, e10, e11, ei, Q1, hC, hno, M⟩
 by_cases hil : i < (bqs L s).length
 ·obtain ⟨hsn, hil2, hXl⟩ := bqs_len hil
  obtain ⟨g, hg⟩ := get_of_lt hil
  cases hgb : g.b with
  | true =>
   have hid : decide (i < (bqs L s).length) = true := decide_eq_true hil
   obtain ⟨gr, gs, rfl⟩ : ∃ gr gs, g = ⟨gr, gs, true⟩ := ⟨g.r, g.s, by rw [← hgb]⟩
   clear hgb
   have M0 := M
   replace M : Mo wl wl := Mo.refl _
   obtain ⟨bg, og, hpg, hRg⟩ := D.SL.rw hC hg
   refine w_seq (w_reg ?_)
   refine wl_bin (fun x y => do eqGuard .lss 3 (.tmp 12) (.tmp 11) x y; binOp .lss 3 x y) (.tmp 12) (.tmp 11) (.int .i64 ((i : Nat) : Int)) (.int .i64 (((bqs L s).length : Nat) : Int)) (.bool true) (fun _ => rfl) ei e11 (ltN hid _ _ _) rfl ?_
   refine w_nil (xn_then (w_seq (w_condT rfl (w_skip (xn_then (w_seq (w_block (w_seq (w_reg ?_)))))))))
   refine wl_bin (fun x y => Instr.indexAt 84 x y) (.tmp 10) (.tmp 12) (.slice pc (bqs L s).length cc) (.int .i64 ((i : Nat) : Int)) (pt bg (og + i * 6)) (fun _ => rfl) e10 ei (ix84 (i := i) hpg hil _) rfl ?_
   refine wl_l 87 (.tmp 14) (pt bg (og + i * 6)) (.agg ((⟨gr, gs, true⟩ : Bg).cells).toArray) (D.run_partR (hRg.mo M).at' 87 0 6 ((⟨gr, gs, true⟩ : Bg).cells) rfl Tryd.underlying87 rfl sz87) ?_
   refine wl_alloc 87 #[.int .i64 0, .int .i64 0, .int .i64 0, .int .i64 0, .string ⟨#[]⟩, .bool false] rfl (fun _ => by kernel_rfl) rfl ?_
   intro k2 u41 hk hz hq Q2
   have ne_k1_k2 : k1 ≠ k2 := by have := Q1.lt; omega
   have N_k2 : wl.heap.size ≤ k2 := by have := M.size; omega
   replace Q1 := Q1.mo hq
   replace M := M.trans hq
   clear hk hz hq
   refine wl_st 87 (.tmp 7) (.tmp 15) k2 0 (((⟨gr, gs, true⟩ : Bg).cells).toArray) _ ((⟨gr, gs, true⟩ : Bg).cells) Q2 rfl rfl rfl rfl rfl sz87 rfl rfl rfl ?_
   intro u42 hS Qn
   replace Q2 := Qn
   clear Qn
   replace Q1 := hS.other _ _ ne_k1_k2 Q1
   replace M := hS.mo _ N_k2 M
   clear hS
   refine w_nil (xn_then (w_seq (w_reg ?_)))
   refine wl_f 87 2 (.tmp 7) (pt k2 0) (pt k2 5) ?_
   refine wl_l 4 (.tmp 16) (pt k2 5) (.bool true) (run_one Q2 4 5 rfl Tryd.underlying4 rfl) ?_
   refine wl_m (.tmp 17) (.bool true) ?_
   refine wl_f 87 1 (.tmp 7) (pt k2 0) (pt k2 4) ?_
   refine wl_l 9 (.tmp 19) (pt k2 4) (.string gs) (run_one Q2 9 4 rfl Tryd.underlying9 rfl) ?_
   cases hf30 : decide (gs = ⟨#[]⟩) with
   | true =>
    have hf30p := of_decide_eq_true hf30
    refine wl_b .eql 9 (.tmp 20) (.const (.string ⟨#[]⟩)) (.string gs) (.string ⟨#[]⟩) (.bool true) (s9 hf30 _ _ _) ?_
    refine wl_pick (.tmp 18) (.tmp 21) (.const (.bool false)) true (.bool true) (fun _ => rfl) rfl rfl rfl ?_
    refine w_nil (xn_then (w_condT rfl (w_seq ?_)))
    replace M := M0.trans M
    refine w_reg ?_
    refine wl_f 87 0 (.tmp 7) (pt k2 0) (pt k2 0) ?_
    refine wl_l 25 (.tmp 23) (pt k2 0) (.agg #[.int .i64 gr.s, .int .i64 gr.a, .int .i64 gr.b, .int .i64 gr.c]) (run_row Q2 25 0 4 _ rfl Tryd.underlying25 rfl sz25) ?_
    refine wl_st 25 (.tmp 4) (.tmp 24) k1 0 #[.int .i64 gr.s, .int .i64 gr.a, .int .i64 gr.b, .int .i64 gr.c] _ [.int .i64 gr.s, .int .i64 gr.a, .int .i64 gr.b, .int .i64 gr.c] Q1 rfl rfl e4 rfl rfl sz25 rfl rfl rfl ?_
    intro u43 hS Qn
    replace Q1 := Qn
    clear Qn
    replace Q2 := hS.other _ _ ne_k1_k2.symm Q2
    replace M := hS.mo _ N_k1 M
    clear hS
    refine wl_m (.const (.bool true)) (.bool true) ?_
    refine w_nil (xn_then (w_ret (xr_blk (xr_then (xr_then (xr_blk (xr_then ?_)))))))
    exact w_ret2 _ _ (.agg #[.int .i64 gr.s, .int .i64 gr.a, .int .i64 gr.b, .int .i64 gr.c]) (.bool true) rfl ⟨k1, e4, (run_row Q1 25 0 4 _ rfl Tryd.underlying25 rfl sz25)⟩ rfl ⟨pp_ret (a := gr) (o := some gr) (V.fst_hit hno (by rw [ppA_at hg]; show (if (true && decide (gs = ⟨#[]⟩)) = true then _ else _) = _; rw [hf30]; rfl) _ hil) rfl rfl, M⟩
   | false =>
    have hf30p := of_decide_eq_false hf30
    refine wl_b .eql 9 (.tmp 20) (.const (.string ⟨#[]⟩)) (.string gs) (.string ⟨#[]⟩) (.bool false) (s9 hf30 _ _ _) ?_
    refine wl_pick (.tmp 18) (.tmp 21) (.const (.bool false)) true (.bool false) (fun _ => rfl) rfl rfl rfl ?_
    refine w_nil (xn_then (w_condF rfl (w_skip (xn_blk (xn_then (w_reg ?_))))))
    refine wl_bin (fun x y => do eqGuard .add 3 (.tmp 12) (.const (.int .i64 (1))) x y; binOp .add 3 x y) (.tmp 12) (.const (.int .i64 (1))) (.int .i64 ((i : Nat) : Int)) (.int .i64 (1)) (.int .i64 ((i + 1 : Nat) : Int)) (fun _ => rfl) ei rfl (add1r (k := i) (by omega) _ _ _) rfl ?_
    refine wl_m (.tmp 25) (.int .i64 ((i + 1 : Nat) : Int)) ?_
    refine w_nil ?_
    exact xn_loop ((bqs L s).length - (i + 1)) (by omega) ⟨i + 1, rfl, by omega, e4, e10, e11, rfl, Q1, hC.kp M.kp, (V.fst_next hno (by rw [ppA_at hg]; show (if (true && decide (gs = ⟨#[]⟩)) = true then _ else _) = _; rw [hf30]; rfl)), M0.trans M⟩
  | false =>
   have hid : decide (i < (bqs L s).length) = true := decide_eq_true hil
   obtain ⟨gr, gs, rfl⟩ : ∃ gr gs, g = ⟨gr, gs, false⟩ := ⟨g.r, g.s, by rw [← hgb]⟩
   clear hgb
   have M0 := M
   replace M : Mo wl wl := Mo.refl _
   obtain ⟨bg, og, hpg, hRg⟩ := D.SL.rw hC hg
   refine w_seq (w_reg ?_)
   refine wl_bin (fun x y => do eqGuard .lss 3 (.tmp 12) (.tmp 11) x y; binOp .lss 3 x y) (.tmp 12) (.tmp 11) (.int .i64 ((i : Nat) : Int)) (.int .i64 (((bqs L s).length : Nat) : Int)) (.bool true) (fun _ => rfl) ei e11 (ltN hid _ _ _) rfl ?_
   refine w_nil (xn_then (w_seq (w_condT rfl (w_skip (xn_then (w_seq (w_block (w_seq (w_reg ?_)))))))))
   refine wl_bin (fun x y => Instr.indexAt 84 x y) (.tmp 10) (.tmp 12) (.slice pc (bqs L s).length cc) (.int .i64 ((i : Nat) : Int)) (pt bg (og + i * 6)) (fun _ => rfl) e10 ei (ix84 (i := i) hpg hil _) rfl ?_
   refine wl_l 87 (.tmp 14) (pt bg (og + i * 6)) (.agg ((⟨gr, gs, false⟩ : Bg).cells).toArray) (D.run_partR (hRg.mo M).at' 87 0 6 ((⟨gr, gs, false⟩ : Bg).cells) rfl Tryd.underlying87 rfl sz87) ?_
   refine wl_alloc 87 #[.int .i64 0, .int .i64 0, .int .i64 0, .int .i64 0, .string ⟨#[]⟩, .bool false] rfl (fun _ => by kernel_rfl) rfl ?_
   intro k2 u41 hk hz hq Q2
   have ne_k1_k2 : k1 ≠ k2 := by have := Q1.lt; omega
   have N_k2 : wl.heap.size ≤ k2 := by have := M.size; omega
   replace Q1 := Q1.mo hq
   replace M := M.trans hq
   clear hk hz hq
   refine wl_st 87 (.tmp 7) (.tmp 15) k2 0 (((⟨gr, gs, false⟩ : Bg).cells).toArray) _ ((⟨gr, gs, false⟩ : Bg).cells) Q2 rfl rfl rfl rfl rfl sz87 rfl rfl rfl ?_
   intro u42 hS Qn
   replace Q2 := Qn
   clear Qn
   replace Q1 := hS.other _ _ ne_k1_k2 Q1
   replace M := hS.mo _ N_k2 M
   clear hS
   refine w_nil (xn_then (w_seq (w_reg ?_)))
   refine wl_f 87 2 (.tmp 7) (pt k2 0) (pt k2 5) ?_
   refine wl_l 4 (.tmp 16) (pt k2 5) (.bool false) (run_one Q2 4 5 rfl Tryd.underlying4 rfl) ?_
   refine wl_m (.tmp 17) (.bool false) ?_
   refine wl_skip rfl (wl_skip rfl (wl_skip rfl ?_))
   refine wl_pick (.tmp 18) (.tmp 21) (.const (.bool false)) false (.bool false) (fun _ => rfl) rfl rfl rfl ?_
   refine w_nil (xn_then (w_condF rfl (w_skip (xn_blk (xn_then (w_reg ?_))))))
   refine wl_bin (fun x y => do eqGuard .add 3 (.tmp 12) (.const (.int .i64 (1))) x y; binOp .add 3 x y) (.tmp 12) (.const (.int .i64 (1))) (.int .i64 ((i : Nat) : Int)) (.int .i64 (1)) (.int .i64 ((i + 1 : Nat) : Int)) (fun _ => rfl) ei rfl (add1r (k := i) (by omega) _ _ _) rfl ?_
   refine wl_m (.tmp 25) (.int .i64 ((i + 1 : Nat) : Int)) ?_
   refine w_nil ?_
   exact xn_loop ((bqs L s).length - (i + 1)) (by omega) ⟨i + 1, rfl, by omega, e4, e10, e11, rfl, Q1, hC.kp M.kp, (V.fst_next hno (by rw [ppA_at hg]; rfl)), M0.trans M⟩
 ·skip
  have hid : decide (i < (bqs L s).length) = false := decide_eq_false hil
  have hie : i = (bqs L s).length := by omega
  refine w_seq (w_reg ?_)
  refine wl_bin (fun x y => do eqGuard .lss 3 (.tmp 12) (.tmp 11) x y; binOp .lss 3 x y) (.tmp 12) (.tmp 11) (.int .i64 ((i : Nat) : Int)) (.int .i64 (((bqs L s).length : Nat) : Int)) (.bool false) (fun _ => rfl) ei e11 (ltN hid _ _ _) rfl ?_
  refine w_nil (xn_then (w_seq (w_condF rfl (w_exit (xx_then (xx_then (xx_blk (xn_then (w_seq (w_reg ?_))))))))))
  refine wl_build 25 [] [] (.agg #[.int .i64 0, .int .i64 0, .int .i64 0, .int .i64 0]) rfl rfl (by kernel_rfl) rfl ?_
  refine wl_st 25 (.tmp 4) (.tmp 26) k1 0 #[.int .i64 0, .int .i64 0, .int .i64 0, .int .i64 0] _ [.int .i64 0, .int .i64 0, .int .i64 0, .int .i64 0] Q1 rfl rfl e4 rfl rfl sz25 rfl rfl rfl ?_
  intro u41 hS Qn
  replace Q1 := Qn
  clear Qn
  replace M := hS.mo _ N_k1 M
  clear hS
  refine wl_m (.const (.bool false)) (.bool false) ?_
  refine w_nil (xn_then (w_ret ?_))
  exact w_ret2 _ _ (.agg #[.int .i64 0, .int .i64 0, .int .i64 0, .int .i64 0]) (.bool false) rfl ⟨k1, e4, (run_row Q1 25 0 4 _ rfl Tryd.underlying25 rfl sz25)⟩ rfl ⟨pp_ret (a := ro0) (o := none) (by unfold ppr; rw [← hie]; exact hno) rfl rfl, M⟩
theorem clos_n (z : It) {u : ByteArray} {kv : Nat} (w : World) (hA : At w kv [.string u]) : Calls Tryd.prog 40 #[.agg z.cells.toArray, pt kv 0] w fun e9 w' => e9 = .returned (.bool (decide (z.nm = u))) ∧ Mo w w' := by
 refine w_enter 8 Tryd.func40 Tryd.ntmps40 rfl rfl ?_
 have M : Mo w w := Mo.refl _
 refine w_seq (w_reg ?_)
 refine wl_box 79 (.tmp 0) _ (((z.cells).toArray)) rfl rfl (fun _ => by kernel_rfl) rfl ?_
 intro k1 u1 hk hz hq Q1
 have ne_kv_k1 : kv ≠ k1 := by have := hA.lt; omega
 have N_k1 : w.heap.size ≤ k1 := by have := M.size; omega
 replace hA := hA.mo hq
 replace M := M.trans hq
 clear hk hz hq
 refine wl_m (.const (.bool false)) (.bool false) ?_
 refine w_nil (xn_then (w_seq (w_reg ?_)))
 refine wl_f 79 0 (.tmp 2) (pt k1 0) (pt k1 0) ?_
 refine wl_l 9 (.tmp 4) (pt k1 0) (.string z.nm) (run_one Q1 9 0 rfl Tryd.underlying9 rfl) ?_
 refine wl_l 9 (.tmp 1) (pt kv 0) (.string u) (run_one hA 9 0 rfl Tryd.underlying9 rfl) ?_
 cases hf0 : decide (z.nm = u) with
 | true =>
  have hf0p := of_decide_eq_true hf0
  refine wl_b .eql 9 (.tmp 5) (.tmp 6) (.string z.nm) (.string u) (.bool true) (s9 hf0 _ _ _) ?_
  refine wl_m (.tmp 7) (.bool true) ?_
  refine w_nil (xn_then (w_ret ?_))
  exact w_ret1 _ _ rfl rfl ⟨rfl, M⟩
 | false =>
  have hf0p := of_decide_eq_false hf0
  refine wl_b .eql 9 (.tmp 5) (.tmp 6) (.string z.nm) (.string u) (.bool false) (s9 hf0 _ _ _) ?_
  refine wl_m (.tmp 7) (.bool false) ?_
  refine w_nil (xn_then (w_ret ?_))
  exact w_ret1 _ _ rfl rfl ⟨rfl, M⟩
theorem pif_n {y : S5} {u : ByteArray} {kv : Nat} (w : World) (hI : SL w 23 It.cells y.pi y.items) (hA : At w kv [.string u]) : Calls Tryd.prog 39 #[.slice y.pi y.items.length y.ci, .func (.func 40) #[] #[pt kv 0]] w fun e9 w' => e9 = .returned (.int .i64 (ifI (ifN y.items u))) ∧ Mo w w' := by
 refine w_enter 19 Tryd.func39 Tryd.ntmps39 rfl rfl ?_
 have M : Mo w w := Mo.refl _
 refine w_seq (w_reg ?_)
 refine wl_m (.const (.int .i64 (0))) (.int .i64 (0)) ?_
 refine w_nil (xn_then (w_seq (w_seq (w_reg ?_))))
 refine wl_m (.tmp 0) (.slice y.pi y.items.length y.ci) ?_
 refine wl_val (.int .i64 ((y.items.length : Nat) : Int)) (len42 _ _ _ _ _ (by exact rfl) _ _ _ _ _ _) rfl ?_
 refine wl_m (.const (.int .i64 (0))) (.int .i64 (0)) ?_
 refine w_nil (xn_then (w_block ?_))
 have hz9 := hI.1
 unfold maxLen at hz9
 refine w_loop (fun m l w1 => ∃ k : Nat, m = y.items.length - k ∧ k ≤ y.items.length ∧ look l 0 = .slice y.pi y.items.length y.ci ∧ look l 1 = .func (.func 40) #[] #[pt kv 0] ∧ look l 6 = .slice y.pi y.items.length y.ci ∧ look l 7 = .int .i64 ((y.items.length : Nat) : Int) ∧ look l 8 = .int .i64 ((k : Nat) : Int) ∧ At w1 kv [.string u] ∧ (V.fstN (ifA y.items u) k = none) ∧ Mo w w1) _ ⟨0, rfl, Nat.zero_le _, rfl, rfl, rfl, rfl, rfl, hA, rfl, M⟩ ?_
 clear hA M
 rintro m l40 wl40 ⟨k, rfl, hk, e40_0, e40_1, e40_6, e40_7, e40_i, hA, hno, M⟩
 by_cases hkl : k < y.items.length
 ·skip
  have hkd : decide (k < y.items.length) = true := decide_eq_true hkl
  obtain ⟨zz, hzz⟩ := get_of_lt hkl
  obtain ⟨bq, oq, hpq, hRq⟩ := D.SL.rw hI hzz
  refine w_seq (w_reg ?_)
  refine wl_bin (fun x y => do eqGuard .lss 3 (.tmp 8) (.tmp 7) x y; binOp .lss 3 x y) (.tmp 8) (.tmp 7) (.int .i64 ((k : Nat) : Int)) (.int .i64 ((y.items.length : Nat) : Int)) (.bool true) (fun _ => rfl) e40_i e40_7 (ltN hkd _ _ _) rfl ?_
  refine w_nil (xn_then (w_seq (w_condT rfl (w_skip (xn_then (w_seq (w_block (w_seq (w_reg ?_)))))))))
  refine wl_mv (.tmp 8) (.int .i64 ((k : Nat) : Int)) (fun _ => rfl) e40_i rfl ?_
  refine wl_m (.tmp 10) (.int .i64 ((k : Nat) : Int)) ?_
  refine w_nil (xn_then (w_seq (w_reg ?_)))
  refine wl_mv (.tmp 1) (.func (.func 40) #[] #[pt kv 0]) (fun _ => rfl) e40_1 rfl ?_
  refine wl_mv (.tmp 0) (.slice y.pi y.items.length y.ci) (fun _ => rfl) e40_0 rfl ?_
  refine wl_m (.tmp 5) (.int .i64 ((k : Nat) : Int)) ?_
  refine wl_bin (fun x y => Instr.indexAt 42 x y) (.tmp 12) (.tmp 13) (.slice y.pi y.items.length y.ci) (.int .i64 ((k : Nat) : Int)) (pt bq (oq + k * 23)) (fun _ => rfl) rfl rfl (ix42 (i := k) hpq hkl _) rfl ?_
  refine wl_l 79 (.tmp 14) (pt bq (oq + k * 23)) (.agg (zz.cells).toArray) (D.run_partR (hRq.mo M).at' 79 0 23 (zz.cells) rfl Tryd.underlying79 rfl sz79) ?_
  cases hf30 : decide (zz.nm = u) with
  | true =>
   have hf30p := of_decide_eq_true hf30
   refine wl_callv 40 (.tmp 11) #[] #[pt kv 0] [(.tmp 15)] _ [.agg (zz.cells).toArray] [.agg (zz.cells).toArray, pt kv 0] rfl rfl rfl rfl (fun _ _ => by kernel_rfl) (cB hf30 (clos_n zz _ hA)) rfl ?_
   rintro e9 u41 ⟨rfl, hq⟩
   refine ⟨_, rfl, ?_⟩
   replace hA := hA.mo hq
   replace M := M.trans hq
   clear hq
   refine w_nil (xn_then (w_condT rfl (w_seq (w_reg ?_))))
   refine wl_m (.tmp 5) (.int .i64 ((k : Nat) : Int)) ?_
   refine wl_m (.tmp 17) (.int .i64 ((k : Nat) : Int)) ?_
   refine w_nil (xn_then (w_ret (xr_blk (xr_then (xr_then (xr_blk (xr_then ?_)))))))
   exact w_ret1 _ (.int .i64 ((k : Nat) : Int)) rfl rfl ⟨congrArg (fun v => Ending.returned (.int .i64 v)) (by rw [show ifN y.items u = some k from V.fst_hit hno (by rw [ifA_at hzz, if_pos hf30p]) _ hkl]; rfl), M⟩
  | false =>
   have hf30p := of_decide_eq_false hf30
   refine wl_callv 40 (.tmp 11) #[] #[pt kv 0] [(.tmp 15)] _ [.agg (zz.cells).toArray] [.agg (zz.cells).toArray, pt kv 0] rfl rfl rfl rfl (fun _ _ => by kernel_rfl) (cB hf30 (clos_n zz _ hA)) rfl ?_
   rintro e9 u41 ⟨rfl, hq⟩
   refine ⟨_, rfl, ?_⟩
   replace hA := hA.mo hq
   replace M := M.trans hq
   clear hq
   refine w_nil (xn_then (w_condF rfl (w_skip (xn_blk (xn_then (w_reg ?_))))))
   refine wl_bin (fun x y => do eqGuard .add 3 (.tmp 8) (.const (.int .i64 (1))) x y; binOp .add 3 x y) (.tmp 8) (.const (.int .i64 (1))) (.int .i64 ((k : Nat) : Int)) (.int .i64 (1)) (.int .i64 ((k + 1 : Nat) : Int)) (fun _ => rfl) e40_i rfl (add1r (k := k) (by omega) _ _ _) rfl ?_
   refine wl_m (.tmp 18) (.int .i64 ((k + 1 : Nat) : Int)) ?_
   refine w_nil ?_
   exact xn_loop (y.items.length - (k + 1)) (by omega) ⟨k + 1, rfl, by omega, e40_0, e40_1, e40_6, e40_7, rfl, hA, (V.fst_next hno (by rw [ifA_at hzz, if_neg hf30p])), M⟩
 ·skip
  have hkd : decide (k < y.items.length) = false := decide_eq_false hkl
  have hke : k = y.items.length := by omega
  refine w_seq (w_reg ?_)
  refine wl_bin (fun x y => do eqGuard .lss 3 (.tmp 8) (.tmp 7) x y; binOp .lss 3 x y) (.tmp 8) (.tmp 7) (.int .i64 ((k : Nat) : Int)) (.int .i64 ((y.items.length : Nat) : Int)) (.bool false) (fun _ => rfl) e40_i e40_7 (ltN hkd _ _ _) rfl ?_
  refine w_nil (xn_then (w_seq (w_condF rfl (w_exit (xx_then (xx_then (xx_blk (xn_then (w_seq (w_reg ?_))))))))))
  refine wl_m (.const (.int .i64 (-1))) (.int .i64 (-1)) ?_
  refine w_nil (xn_then (w_ret ?_))
  exact w_ret1 _ (.int .i64 (-1)) rfl rfl ⟨congrArg (fun v => Ending.returned (.int .i64 v)) (by rw [show ifN y.items u = none from (by unfold ifN; rw [← hke]; exact hno)]; rfl), M⟩
theorem ifI_neg {o : Option Nat} (h : ¬ 0 ≤ ifI o) : o = none := by
 cases o with
 | none => rfl
 | some k => exact absurd (show (0 : Int) ≤ (k : Int) by omega) h
theorem ifI_pos {o : Option Nat} (h : 0 ≤ ifI o) : ∃ k : Nat, o = some k ∧ ifI o = (k : Int) := by
 cases o with
 | none => exact absurd h (by decide)
 | some k => exact ⟨k, rfl, rfl⟩
set_option maxHeartbeats 1000000 in
theorem pprc_n {L : List S5} {pl : Option Addr} {cl : Nat} {s : ByteArray} (w : World) (hL : LL w pl L) (hcl : L.length ≤ cl) (hs : s.size ≤ 9223372036854775807) (hN : L.length ≤ 100) : Calls Tryd.prog 22 #[.slice pl L.length cl, .string s] w fun e9 w' => e9 = .returned (.tuple #[((ppc L (bqs L s)).getD V.ce0).v, .bool (ppc L (bqs L s)).isSome]) ∧ Mo w w' := by
 refine w_enter 48 Tryd.func22 Tryd.ntmps22 rfl rfl ?_
 have M : Mo w w := Mo.refl _
 refine w_seq (w_reg ?_)
 refine wl_alloc 27 #[.int .i64 0, .int .i64 0, .int .i64 0, .int .i64 0, .int .i64 0] rfl (fun _ => by kernel_rfl) rfl ?_
 intro k1 u1 hk hz hq Q1
 have N_k1 : w.heap.size ≤ k1 := by have := M.size; omega
 replace M := M.trans hq
 clear hk hz hq
 refine wl_m (.const (.bool false)) (.bool false) ?_
 refine w_nil (xn_then (w_seq (w_seq (w_reg ?_))))
 refine wl_m (.tmp 0) (.slice pl L.length cl) ?_
 refine wl_m (.tmp 1) (.string s) ?_
 refine wl_callx 36 [(.tmp 11), (.tmp 12)] _ [.slice pl L.length cl, .string s] rfl rfl (fun _ _ => by kernel_rfl) (pbg_n _ (hL.mo M) hcl hs hN) rfl ?_
 rintro e9 u2 ⟨pc, cc, rfl, hC, hB, hq⟩
 refine ⟨_, rfl, ?_⟩
 replace Q1 := Q1.mo hq
 replace M := M.trans hq
 clear hq hB
 refine wl_val (.int .i64 (((bqs L s).length : Nat) : Int)) (len84 _ _ _ _ _ (by exact rfl) _ _ _ _ _ _) rfl ?_
 refine wl_m (.const (.int .i64 (0))) (.int .i64 (0)) ?_
 refine w_nil (xn_then (w_block ?_))
 have hz9 := hC.1
 unfold maxLen at hz9
 refine w_loop (fun m l9 w1 => ∃ i : Nat, m = (bqs L s).length - i ∧ i ≤ (bqs L s).length ∧ look l9 0 = .slice pl L.length cl ∧ look l9 4 = pt k1 0 ∧ look l9 13 = .slice pc (bqs L s).length cc ∧ look l9 14 = .int .i64 (((bqs L s).length : Nat) : Int) ∧ look l9 15 = .int .i64 ((i : Nat) : Int) ∧ At w1 k1 [.int .i64 0, .int .i64 0, .int .i64 0, .int .i64 0, .int .i64 0] ∧ SL w1 6 Bg.cells pc (bqs L s) ∧ V.fstN (pcA L (bqs L s)) i = none ∧ Mo w w1) _ ⟨0, rfl, Nat.zero_le _, rfl, rfl, rfl, rfl, rfl, Q1, hC, rfl, M⟩ ?_
 clear M Q1 hC
 rintro m l9 wl ⟨i, rfl, hi, e0, e4, e13, e14, ei, Q1, hC, hno, M⟩
 by_cases hil : i < (bqs L s).length
 ·obtain ⟨hsn, hil2, hXl⟩ := bqs_len hil
  obtain ⟨g, hg⟩ := get_of_lt hil
  cases hgb : g.b with
  | true =>
   have hid : decide (i < (bqs L s).length) = true := decide_eq_true hil
   obtain ⟨gr, gs, rfl⟩ : ∃ gr gs, g = ⟨gr, gs, true⟩ := ⟨g.r, g.s, by rw [← hgb]⟩
   clear hgb
   have M0 := M
   replace M : Mo wl wl := Mo.refl _
   obtain ⟨bg, og, hpg, hRg⟩ := D.SL.rw hC hg
   have hLl := hL.mo M0
   obtain ⟨y, hy⟩ := get_of_lt hil2
   have hmy := List.mem_of_getElem? hy
   obtain ⟨bp, op, hpp, hRp⟩ := D.SL.rw hLl.sl hy
   refine w_seq (w_reg ?_)
   refine wl_bin (fun x y => do eqGuard .lss 3 (.tmp 15) (.tmp 14) x y; binOp .lss 3 x y) (.tmp 15) (.tmp 14) (.int .i64 ((i : Nat) : Int)) (.int .i64 (((bqs L s).length : Nat) : Int)) (.bool true) (fun _ => rfl) ei e14 (ltN hid _ _ _) rfl ?_
   refine w_nil (xn_then (w_seq (w_condT rfl (w_skip (xn_then (w_seq (w_block (w_seq (w_reg ?_)))))))))
   refine wl_mv (.tmp 15) (.int .i64 ((i : Nat) : Int)) (fun _ => rfl) ei rfl ?_
   refine wl_bin (fun x y => Instr.indexAt 84 x y) (.tmp 13) (.tmp 15) (.slice pc (bqs L s).length cc) (.int .i64 ((i : Nat) : Int)) (pt bg (og + i * 6)) (fun _ => rfl) e13 ei (ix84 (i := i) hpg hil _) rfl ?_
   refine wl_l 87 (.tmp 18) (pt bg (og + i * 6)) (.agg ((⟨gr, gs, true⟩ : Bg).cells).toArray) (D.run_partR (hRg.mo M).at' 87 0 6 ((⟨gr, gs, true⟩ : Bg).cells) rfl Tryd.underlying87 rfl sz87) ?_
   refine wl_alloc 87 #[.int .i64 0, .int .i64 0, .int .i64 0, .int .i64 0, .string ⟨#[]⟩, .bool false] rfl (fun _ => by kernel_rfl) rfl ?_
   intro k2 u41 hk hz hq Q2
   have ne_k1_k2 : k1 ≠ k2 := by have := Q1.lt; omega
   have N_k2 : wl.heap.size ≤ k2 := by have := M.size; omega
   replace Q1 := Q1.mo hq
   replace M := M.trans hq
   clear hk hz hq
   refine wl_m (.tmp 17) (.int .i64 ((i : Nat) : Int)) ?_
   refine wl_st 87 (.tmp 7) (.tmp 19) k2 0 (((⟨gr, gs, true⟩ : Bg).cells).toArray) _ ((⟨gr, gs, true⟩ : Bg).cells) Q2 rfl rfl rfl rfl rfl sz87 rfl rfl rfl ?_
   intro u42 hS Qn
   replace Q2 := Qn
   clear Qn
   replace Q1 := hS.other _ _ ne_k1_k2 Q1
   replace M := hS.mo _ N_k2 M
   clear hS
   refine w_nil (xn_then (w_seq (w_reg ?_)))
   refine wl_f 87 1 (.tmp 7) (pt k2 0) (pt k2 4) ?_
   refine wl_l 9 (.tmp 21) (pt k2 4) (.string gs) (run_one Q2 9 4 rfl Tryd.underlying9 rfl) ?_
   cases hf30 : bgB gs ⟨#[46]⟩ with
   | true =>
    refine wl_call 38 [(.tmp 22), (.const (.string ⟨#[46]⟩))] _ [.string gs, .string ⟨#[46]⟩] (.tuple #[.string (bgS gs ⟨#[46]⟩), .bool true]) rfl rfl (fun _ _ => by kernel_rfl) (cR (by rw [hf30, bgB_t hf30]; rfl) (cpx_n (s := gs) (h := ⟨#[46]⟩) _)) rfl ?_
    intro u43 hq
    replace Q1 := Q1.mo hq
    replace Q2 := Q2.mo hq
    replace M := M.trans hq
    clear hq
    refine wl_m (.tmp 23) (.tuple #[.string (bgS gs ⟨#[46]⟩), .bool true]) ?_
    refine wl_un (fun v => Instr.extract v 0) (.tmp 20) (.tuple #[.string (bgS gs ⟨#[46]⟩), .bool true]) (.string (bgS gs ⟨#[46]⟩)) (fun _ => rfl) rfl (by kernel_rfl) rfl ?_
    refine wl_un (fun v => Instr.extract v 1) (.tmp 20) (.tuple #[.string (bgS gs ⟨#[46]⟩), .bool true]) (.bool true) (fun _ => rfl) rfl (by kernel_rfl) rfl ?_
    refine wl_alloc 9 #[.string ⟨#[]⟩] rfl (fun _ => by kernel_rfl) rfl ?_
    intro k3 u44 hk hz hq Q3
    have ne_k1_k3 : k1 ≠ k3 := by have := Q1.lt; omega
    have ne_k2_k3 : k2 ≠ k3 := by have := Q2.lt; omega
    have N_k3 : wl.heap.size ≤ k3 := by have := M.size; omega
    replace Q1 := Q1.mo hq
    replace Q2 := Q2.mo hq
    replace M := M.trans hq
    clear hk hz hq
    refine wl_st1 9 (.tmp 8) (.tmp 24) k3 0 (.string (bgS gs ⟨#[46]⟩)) _ [.string (bgS gs ⟨#[46]⟩)] Q3 rfl rfl rfl rfl rfl sz9 rfl rfl rfl rfl ?_
    intro u45 hS Qn
    replace Q3 := Qn
    clear Qn
    replace Q1 := hS.other _ _ ne_k1_k3 Q1
    replace Q2 := hS.other _ _ ne_k2_k3 Q2
    replace M := hS.mo _ N_k3 M
    clear hS
    refine wl_m (.tmp 25) (.bool true) ?_
    refine w_nil (xn_then (w_seq (w_seq (w_reg ?_))))
    refine wl_f 87 2 (.tmp 7) (pt k2 0) (pt k2 5) ?_
    refine wl_l 4 (.tmp 26) (pt k2 5) (.bool true) (run_one Q2 4 5 rfl Tryd.underlying4 rfl) ?_
    refine wl_un (fun v => Op.unary .not v) (.tmp 27) (.bool true) (.bool false) (fun _ => rfl) rfl (by kernel_rfl) rfl ?_
    refine wl_m (.tmp 28) (.bool false) ?_
    refine wl_m (.tmp 9) (.bool true) ?_
    refine wl_un (fun v => Op.unary .not v) (.tmp 30) (.bool true) (.bool false) (fun _ => rfl) rfl (by kernel_rfl) rfl ?_
    refine wl_pick (.tmp 29) (.const (.bool true)) (.tmp 31) false (.bool false) (fun _ => rfl) rfl rfl rfl ?_
    refine w_nil (xn_then (w_condF rfl (w_skip (xn_then (w_seq (w_reg ?_))))))
    refine wl_mv (.tmp 0) (.slice pl L.length cl) (fun _ => rfl) e0 rfl ?_
    refine wl_m (.tmp 6) (.int .i64 ((i : Nat) : Int)) ?_
    refine wl_bin (fun x y => Instr.indexAt 22 x y) (.tmp 33) (.tmp 34) (.slice pl L.length cl) (.int .i64 ((i : Nat) : Int)) (pt bp (op + i * 5)) (fun _ => rfl) rfl rfl (ix22 (i := i) hpp hil2 _) rfl ?_
    refine wl_f 65 4 (.tmp 35) (pt bp (op + i * 5)) (pt bp (op + i * 5 + 4)) ?_
    refine wl_l 42 (.tmp 36) (pt bp (op + i * 5 + 4)) (.slice y.pi y.items.length y.ci) (D.run_oneR (hRp.mo M).at' 42 4 rfl Tryd.underlying42 rfl) ?_
    refine wl_mf (.func 40) [] [(.tmp 8)] [] [pt k3 0] rfl rfl rfl rfl ?_
    refine wl_call 39 [(.tmp 37), (.tmp 38)] _ [.slice y.pi y.items.length y.ci, .func (.func 40) #[] #[pt k3 0]] (.int .i64 (ifI (ifN y.items (bgS gs ⟨#[46]⟩)))) rfl rfl (fun _ _ => by kernel_rfl) (pif_n (y := y) _ ((hLl.it y hmy).kp M.kp) Q3) rfl ?_
    intro u46 hq
    replace Q1 := Q1.mo hq
    replace Q2 := Q2.mo hq
    replace Q3 := Q3.mo hq
    replace M := M.trans hq
    clear hq
    refine wl_m (.tmp 39) (.int .i64 (ifI (ifN y.items (bgS gs ⟨#[46]⟩)))) ?_
    refine w_nil (xn_then (w_seq (w_reg ?_)))
    refine wl_m (.tmp 10) (.int .i64 (ifI (ifN y.items (bgS gs ⟨#[46]⟩)))) ?_
    cases hf31 : decide (0 ≤ ifI (ifN y.items (bgS gs ⟨#[46]⟩))) with
    | true =>
     have hf31p := of_decide_eq_true hf31
     refine wl_b .geq 3 (.tmp 40) (.const (.int .i64 (0))) (.int .i64 (ifI (ifN y.items (bgS gs ⟨#[46]⟩)))) (.int .i64 (0)) (.bool true) (ge3 hf31 _ _ _) ?_
     refine w_nil (xn_then (w_condT rfl (w_seq ?_)))
     replace M := M0.trans M
     obtain ⟨k9, hk9, hk8⟩ := ifI_pos hf31p
     refine w_reg ?_
     refine wl_f 87 0 (.tmp 7) (pt k2 0) (pt k2 0) ?_
     refine wl_l 25 (.tmp 42) (pt k2 0) (.agg #[.int .i64 gr.s, .int .i64 gr.a, .int .i64 gr.b, .int .i64 gr.c]) (run_row Q2 25 0 4 _ rfl Tryd.underlying25 rfl sz25) ?_
     refine wl_m (.tmp 10) (.int .i64 (ifI (ifN y.items (bgS gs ⟨#[46]⟩)))) ?_
     refine wl_build 27 [(0, (.tmp 43)), (1, (.tmp 44))] [(0, .agg #[.int .i64 gr.s, .int .i64 gr.a, .int .i64 gr.b, .int .i64 gr.c]), (1, .int .i64 (ifI (ifN y.items (bgS gs ⟨#[46]⟩))))] (.agg #[.int .i64 gr.s, .int .i64 gr.a, .int .i64 gr.b, .int .i64 gr.c, .int .i64 (ifI (ifN y.items (bgS gs ⟨#[46]⟩)))]) rfl rfl (by kernel_rfl) rfl ?_
     refine wl_st 27 (.tmp 4) (.tmp 45) k1 0 #[.int .i64 gr.s, .int .i64 gr.a, .int .i64 gr.b, .int .i64 gr.c, .int .i64 (ifI (ifN y.items (bgS gs ⟨#[46]⟩)))] _ [.int .i64 gr.s, .int .i64 gr.a, .int .i64 gr.b, .int .i64 gr.c, .int .i64 (ifI (ifN y.items (bgS gs ⟨#[46]⟩)))] Q1 rfl rfl e4 rfl rfl sz27 rfl rfl rfl ?_
     intro u47 hS Qn
     replace Q1 := Qn
     clear Qn
     replace Q2 := hS.other _ _ ne_k1_k2.symm Q2
     replace Q3 := hS.other _ _ ne_k1_k3.symm Q3
     replace M := hS.mo _ N_k1 M
     clear hS
     refine wl_m (.const (.bool true)) (.bool true) ?_
     refine w_nil (xn_then (w_ret (xr_blk (xr_then (xr_then (xr_blk (xr_then ?_)))))))
     exact w_ret2 _ _ (.agg #[.int .i64 gr.s, .int .i64 gr.a, .int .i64 gr.b, .int .i64 gr.c, .int .i64 (ifI (ifN y.items (bgS gs ⟨#[46]⟩)))]) (.bool true) rfl ⟨k1, e4, (run_row Q1 27 0 5 _ rfl Tryd.underlying27 rfl sz27)⟩ rfl ⟨pq_ret (a := (⟨gr, ifI (ifN y.items (bgS gs ⟨#[46]⟩))⟩ : Ce)) (o := some (⟨gr, ifI (ifN y.items (bgS gs ⟨#[46]⟩))⟩ : Ce)) (V.fst_hit hno (by rw [pcA_at hg hy]; show (if true = true then (bgn gs ⟨#[46]⟩).bind _ else none) = _; rw [if_pos rfl, bgB_t hf30, Option.bind_some, hk9]; rfl) _ hil) rfl rfl, M⟩
    | false =>
     have hf31p := of_decide_eq_false hf31
     refine wl_b .geq 3 (.tmp 40) (.const (.int .i64 (0))) (.int .i64 (ifI (ifN y.items (bgS gs ⟨#[46]⟩)))) (.int .i64 (0)) (.bool false) (ge3 hf31 _ _ _) ?_
     refine w_nil (xn_then (w_condF rfl (w_skip (xn_blk (xn_then (w_reg ?_))))))
     refine wl_bin (fun x y => do eqGuard .add 3 (.tmp 15) (.const (.int .i64 (1))) x y; binOp .add 3 x y) (.tmp 15) (.const (.int .i64 (1))) (.int .i64 ((i : Nat) : Int)) (.int .i64 (1)) (.int .i64 ((i + 1 : Nat) : Int)) (fun _ => rfl) ei rfl (add1r (k := i) (by omega) _ _ _) rfl ?_
     refine wl_m (.tmp 46) (.int .i64 ((i + 1 : Nat) : Int)) ?_
     refine w_nil ?_
     exact xn_loop ((bqs L s).length - (i + 1)) (by omega) ⟨i + 1, rfl, by omega, e0, e4, e13, e14, rfl, Q1, hC.kp M.kp, (V.fst_next hno (by rw [pcA_at hg hy]; show (if true = true then (bgn gs ⟨#[46]⟩).bind _ else none) = none; rw [if_pos rfl, bgB_t hf30, Option.bind_some, ifI_neg hf31p]; rfl)), M0.trans M⟩
   | false =>
    refine wl_call 38 [(.tmp 22), (.const (.string ⟨#[46]⟩))] _ [.string gs, .string ⟨#[46]⟩] (.tuple #[.string gs, .bool false]) rfl rfl (fun _ _ => by kernel_rfl) (cR (by rw [hf30, bgB_f hf30]; rfl) (cpx_n (s := gs) (h := ⟨#[46]⟩) _)) rfl ?_
    intro u43 hq
    replace Q1 := Q1.mo hq
    replace Q2 := Q2.mo hq
    replace M := M.trans hq
    clear hq
    refine wl_m (.tmp 23) (.tuple #[.string gs, .bool false]) ?_
    refine wl_un (fun v => Instr.extract v 0) (.tmp 20) (.tuple #[.string gs, .bool false]) (.string gs) (fun _ => rfl) rfl (by kernel_rfl) rfl ?_
    refine wl_un (fun v => Instr.extract v 1) (.tmp 20) (.tuple #[.string gs, .bool false]) (.bool false) (fun _ => rfl) rfl (by kernel_rfl) rfl ?_
    refine wl_alloc 9 #[.string ⟨#[]⟩] rfl (fun _ => by kernel_rfl) rfl ?_
    intro k3 u44 hk hz hq Q3
    have ne_k1_k3 : k1 ≠ k3 := by have := Q1.lt; omega
    have ne_k2_k3 : k2 ≠ k3 := by have := Q2.lt; omega
    have N_k3 : wl.heap.size ≤ k3 := by have := M.size; omega
    replace Q1 := Q1.mo hq
    replace Q2 := Q2.mo hq
    replace M := M.trans hq
    clear hk hz hq
    refine wl_st1 9 (.tmp 8) (.tmp 24) k3 0 (.string gs) _ [.string gs] Q3 rfl rfl rfl rfl rfl sz9 rfl rfl rfl rfl ?_
    intro u45 hS Qn
    replace Q3 := Qn
    clear Qn
    replace Q1 := hS.other _ _ ne_k1_k3 Q1
    replace Q2 := hS.other _ _ ne_k2_k3 Q2
    replace M := hS.mo _ N_k3 M
    clear hS
    refine wl_m (.tmp 25) (.bool false) ?_
    refine w_nil (xn_then (w_seq (w_seq (w_reg ?_))))
    refine wl_f 87 2 (.tmp 7) (pt k2 0) (pt k2 5) ?_
    refine wl_l 4 (.tmp 26) (pt k2 5) (.bool true) (run_one Q2 4 5 rfl Tryd.underlying4 rfl) ?_
    refine wl_un (fun v => Op.unary .not v) (.tmp 27) (.bool true) (.bool false) (fun _ => rfl) rfl (by kernel_rfl) rfl ?_
    refine wl_m (.tmp 28) (.bool false) ?_
    refine wl_m (.tmp 9) (.bool false) ?_
    refine wl_un (fun v => Op.unary .not v) (.tmp 30) (.bool false) (.bool true) (fun _ => rfl) rfl (by kernel_rfl) rfl ?_
    refine wl_pick (.tmp 29) (.const (.bool true)) (.tmp 31) false (.bool true) (fun _ => rfl) rfl rfl rfl ?_
    refine w_nil (xn_then (w_condT rfl (w_exit (xx_then (xx_blk (xn_then (w_reg ?_)))))))
    refine wl_bin (fun x y => do eqGuard .add 3 (.tmp 15) (.const (.int .i64 (1))) x y; binOp .add 3 x y) (.tmp 15) (.const (.int .i64 (1))) (.int .i64 ((i : Nat) : Int)) (.int .i64 (1)) (.int .i64 ((i + 1 : Nat) : Int)) (fun _ => rfl) ei rfl (add1r (k := i) (by omega) _ _ _) rfl ?_
    refine wl_m (.tmp 46) (.int .i64 ((i + 1 : Nat) : Int)) ?_
    refine w_nil ?_
    exact xn_loop ((bqs L s).length - (i + 1)) (by omega) ⟨i + 1, rfl, by omega, e0, e4, e13, e14, rfl, Q1, hC.kp M.kp, (V.fst_next hno (by rw [pcA_at hg hy]; show (if true = true then (bgn gs ⟨#[46]⟩).bind _ else none) = none; rw [if_pos rfl, bgB_f hf30]; rfl)), M0.trans M⟩
  | false =>
   have hid : decide (i < (bqs L s).length) = true := decide_eq_true hil
   obtain ⟨gr, gs, rfl⟩ : ∃ gr gs, g = ⟨gr, gs, false⟩ := ⟨g.r, g.s, by rw [← hgb]⟩
   clear hgb
   have M0 := M
   replace M : Mo wl wl := Mo.refl _
   obtain ⟨bg, og, hpg, hRg⟩ := D.SL.rw hC hg
   have hLl := hL.mo M0
   obtain ⟨y, hy⟩ := get_of_lt hil2
   have hmy := List.mem_of_getElem? hy
   obtain ⟨bp, op, hpp, hRp⟩ := D.SL.rw hLl.sl hy
   refine w_seq (w_reg ?_)
   refine wl_bin (fun x y => do eqGuard .lss 3 (.tmp 15) (.tmp 14) x y; binOp .lss 3 x y) (.tmp 15) (.tmp 14) (.int .i64 ((i : Nat) : Int)) (.int .i64 (((bqs L s).length : Nat) : Int)) (.bool true) (fun _ => rfl) ei e14 (ltN hid _ _ _) rfl ?_
   refine w_nil (xn_then (w_seq (w_condT rfl (w_skip (xn_then (w_seq (w_block (w_seq (w_reg ?_)))))))))
   refine wl_mv (.tmp 15) (.int .i64 ((i : Nat) : Int)) (fun _ => rfl) ei rfl ?_
   refine wl_bin (fun x y => Instr.indexAt 84 x y) (.tmp 13) (.tmp 15) (.slice pc (bqs L s).length cc) (.int .i64 ((i : Nat) : Int)) (pt bg (og + i * 6)) (fun _ => rfl) e13 ei (ix84 (i := i) hpg hil _) rfl ?_
   refine wl_l 87 (.tmp 18) (pt bg (og + i * 6)) (.agg ((⟨gr, gs, false⟩ : Bg).cells).toArray) (D.run_partR (hRg.mo M).at' 87 0 6 ((⟨gr, gs, false⟩ : Bg).cells) rfl Tryd.underlying87 rfl sz87) ?_
   refine wl_alloc 87 #[.int .i64 0, .int .i64 0, .int .i64 0, .int .i64 0, .string ⟨#[]⟩, .bool false] rfl (fun _ => by kernel_rfl) rfl ?_
   intro k2 u41 hk hz hq Q2
   have ne_k1_k2 : k1 ≠ k2 := by have := Q1.lt; omega
   have N_k2 : wl.heap.size ≤ k2 := by have := M.size; omega
   replace Q1 := Q1.mo hq
   replace M := M.trans hq
   clear hk hz hq
   refine wl_m (.tmp 17) (.int .i64 ((i : Nat) : Int)) ?_
   refine wl_st 87 (.tmp 7) (.tmp 19) k2 0 (((⟨gr, gs, false⟩ : Bg).cells).toArray) _ ((⟨gr, gs, false⟩ : Bg).cells) Q2 rfl rfl rfl rfl rfl sz87 rfl rfl rfl ?_
   intro u42 hS Qn
   replace Q2 := Qn
   clear Qn
   replace Q1 := hS.other _ _ ne_k1_k2 Q1
   replace M := hS.mo _ N_k2 M
   clear hS
   refine w_nil (xn_then (w_seq (w_reg ?_)))
   refine wl_f 87 1 (.tmp 7) (pt k2 0) (pt k2 4) ?_
   refine wl_l 9 (.tmp 21) (pt k2 4) (.string gs) (run_one Q2 9 4 rfl Tryd.underlying9 rfl) ?_
   cases hf30 : bgB gs ⟨#[46]⟩ with
   | true =>
    refine wl_call 38 [(.tmp 22), (.const (.string ⟨#[46]⟩))] _ [.string gs, .string ⟨#[46]⟩] (.tuple #[.string (bgS gs ⟨#[46]⟩), .bool true]) rfl rfl (fun _ _ => by kernel_rfl) (cR (by rw [hf30, bgB_t hf30]; rfl) (cpx_n (s := gs) (h := ⟨#[46]⟩) _)) rfl ?_
    intro u43 hq
    replace Q1 := Q1.mo hq
    replace Q2 := Q2.mo hq
    replace M := M.trans hq
    clear hq
    refine wl_m (.tmp 23) (.tuple #[.string (bgS gs ⟨#[46]⟩), .bool true]) ?_
    refine wl_un (fun v => Instr.extract v 0) (.tmp 20) (.tuple #[.string (bgS gs ⟨#[46]⟩), .bool true]) (.string (bgS gs ⟨#[46]⟩)) (fun _ => rfl) rfl (by kernel_rfl) rfl ?_
    refine wl_un (fun v => Instr.extract v 1) (.tmp 20) (.tuple #[.string (bgS gs ⟨#[46]⟩), .bool true]) (.bool true) (fun _ => rfl) rfl (by kernel_rfl) rfl ?_
    refine wl_alloc 9 #[.string ⟨#[]⟩] rfl (fun _ => by kernel_rfl) rfl ?_
    intro k3 u44 hk hz hq Q3
    have ne_k1_k3 : k1 ≠ k3 := by have := Q1.lt; omega
    have ne_k2_k3 : k2 ≠ k3 := by have := Q2.lt; omega
    have N_k3 : wl.heap.size ≤ k3 := by have := M.size; omega
    replace Q1 := Q1.mo hq
    replace Q2 := Q2.mo hq
    replace M := M.trans hq
    clear hk hz hq
    refine wl_st1 9 (.tmp 8) (.tmp 24) k3 0 (.string (bgS gs ⟨#[46]⟩)) _ [.string (bgS gs ⟨#[46]⟩)] Q3 rfl rfl rfl rfl rfl sz9 rfl rfl rfl rfl ?_
    intro u45 hS Qn
    replace Q3 := Qn
    clear Qn
    replace Q1 := hS.other _ _ ne_k1_k3 Q1
    replace Q2 := hS.other _ _ ne_k2_k3 Q2
    replace M := hS.mo _ N_k3 M
    clear hS
    refine wl_m (.tmp 25) (.bool true) ?_
    refine w_nil (xn_then (w_seq (w_seq (w_reg ?_))))
    refine wl_f 87 2 (.tmp 7) (pt k2 0) (pt k2 5) ?_
    refine wl_l 4 (.tmp 26) (pt k2 5) (.bool false) (run_one Q2 4 5 rfl Tryd.underlying4 rfl) ?_
    refine wl_un (fun v => Op.unary .not v) (.tmp 27) (.bool false) (.bool true) (fun _ => rfl) rfl (by kernel_rfl) rfl ?_
    refine wl_m (.tmp 28) (.bool true) ?_
    refine wl_skip rfl (wl_skip rfl ?_)
    refine wl_pick (.tmp 29) (.const (.bool true)) (.tmp 31) true (.bool true) (fun _ => rfl) rfl rfl rfl ?_
    refine w_nil (xn_then (w_condT rfl (w_exit (xx_then (xx_blk (xn_then (w_reg ?_)))))))
    refine wl_bin (fun x y => do eqGuard .add 3 (.tmp 15) (.const (.int .i64 (1))) x y; binOp .add 3 x y) (.tmp 15) (.const (.int .i64 (1))) (.int .i64 ((i : Nat) : Int)) (.int .i64 (1)) (.int .i64 ((i + 1 : Nat) : Int)) (fun _ => rfl) ei rfl (add1r (k := i) (by omega) _ _ _) rfl ?_
    refine wl_m (.tmp 46) (.int .i64 ((i + 1 : Nat) : Int)) ?_
    refine w_nil ?_
    exact xn_loop ((bqs L s).length - (i + 1)) (by omega) ⟨i + 1, rfl, by omega, e0, e4, e13, e14, rfl, Q1, hC.kp M.kp, (V.fst_next hno (by rw [pcA_at hg hy]; rfl)), M0.trans M⟩
   | false =>
    refine wl_call 38 [(.tmp 22), (.const (.string ⟨#[46]⟩))] _ [.string gs, .string ⟨#[46]⟩] (.tuple #[.string gs, .bool false]) rfl rfl (fun _ _ => by kernel_rfl) (cR (by rw [hf30, bgB_f hf30]; rfl) (cpx_n (s := gs) (h := ⟨#[46]⟩) _)) rfl ?_
    intro u43 hq
    replace Q1 := Q1.mo hq
    replace Q2 := Q2.mo hq
    replace M := M.trans hq
    clear hq
    refine wl_m (.tmp 23) (.tuple #[.string gs, .bool false]) ?_
    refine wl_un (fun v => Instr.extract v 0) (.tmp 20) (.tuple #[.string gs, .bool false]) (.string gs) (fun _ => rfl) rfl (by kernel_rfl) rfl ?_
    refine wl_un (fun v => Instr.extract v 1) (.tmp 20) (.tuple #[.string gs, .bool false]) (.bool false) (fun _ => rfl) rfl (by kernel_rfl) rfl ?_
    refine wl_alloc 9 #[.string ⟨#[]⟩] rfl (fun _ => by kernel_rfl) rfl ?_
    intro k3 u44 hk hz hq Q3
    have ne_k1_k3 : k1 ≠ k3 := by have := Q1.lt; omega
    have ne_k2_k3 : k2 ≠ k3 := by have := Q2.lt; omega
    have N_k3 : wl.heap.size ≤ k3 := by have := M.size; omega
    replace Q1 := Q1.mo hq
    replace Q2 := Q2.mo hq
    replace M := M.trans hq
    clear hk hz hq
    refine wl_st1 9 (.tmp 8) (.tmp 24) k3 0 (.string gs) _ [.string gs] Q3 rfl rfl rfl rfl rfl sz9 rfl rfl rfl rfl ?_
    intro u45 hS Qn
    replace Q3 := Qn
    clear Qn
    replace Q1 := hS.other _ _ ne_k1_k3 Q1
    replace Q2 := hS.other _ _ ne_k2_k3 Q2
    replace M := hS.mo _ N_k3 M
    clear hS
    refine wl_m (.tmp 25) (.bool false) ?_
    refine w_nil (xn_then (w_seq (w_seq (w_reg ?_))))
    refine wl_f 87 2 (.tmp 7) (pt k2 0) (pt k2 5) ?_
    refine wl_l 4 (.tmp 26) (pt k2 5) (.bool false) (run_one Q2 4 5 rfl Tryd.underlying4 rfl) ?_
    refine wl_un (fun v => Op.unary .not v) (.tmp 27) (.bool false) (.bool true) (fun _ => rfl) rfl (by kernel_rfl) rfl ?_
    refine wl_m (.tmp 28) (.bool true) ?_
    refine wl_skip rfl (wl_skip rfl ?_)
    refine wl_pick (.tmp 29) (.const (.bool true)) (.tmp 31) true (.bool true) (fun _ => rfl) rfl rfl rfl ?_
    refine w_nil (xn_then (w_condT rfl (w_exit (xx_then (xx_blk (xn_then (w_reg ?_)))))))
    refine wl_bin (fun x y => do eqGuard .add 3 (.tmp 15) (.const (.int .i64 (1))) x y; binOp .add 3 x y) (.tmp 15) (.const (.int .i64 (1))) (.int .i64 ((i : Nat) : Int)) (.int .i64 (1)) (.int .i64 ((i + 1 : Nat) : Int)) (fun _ => rfl) ei rfl (add1r (k := i) (by omega) _ _ _) rfl ?_
    refine wl_m (.tmp 46) (.int .i64 ((i + 1 : Nat) : Int)) ?_
    refine w_nil ?_
    exact xn_loop ((bqs L s).length - (i + 1)) (by omega) ⟨i + 1, rfl, by omega, e0, e4, e13, e14, rfl, Q1, hC.kp M.kp, (V.fst_next hno (by rw [pcA_at hg hy]; rfl)), M0.trans M⟩
 ·skip
  have hid : decide (i < (bqs L s).length) = false := decide_eq_false hil
  have hie : i = (bqs L s).length := by omega
  refine w_seq (w_reg ?_)
  refine wl_bin (fun x y => do eqGuard .lss 3 (.tmp 15) (.tmp 14) x y; binOp .lss 3 x y) (.tmp 15) (.tmp 14) (.int .i64 ((i : Nat) : Int)) (.int .i64 (((bqs L s).length : Nat) : Int)) (.bool false) (fun _ => rfl) ei e14 (ltN hid _ _ _) rfl ?_
  refine w_nil (xn_then (w_seq (w_condF rfl (w_exit (xx_then (xx_then (xx_blk (xn_then (w_seq (w_reg ?_))))))))))
  refine wl_build 27 [] [] (.agg #[.int .i64 0, .int .i64 0, .int .i64 0, .int .i64 0, .int .i64 0]) rfl rfl (by kernel_rfl) rfl ?_
  refine wl_st 27 (.tmp 4) (.tmp 47) k1 0 #[.int .i64 0, .int .i64 0, .int .i64 0, .int .i64 0, .int .i64 0] _ [.int .i64 0, .int .i64 0, .int .i64 0, .int .i64 0, .int .i64 0] Q1 rfl rfl e4 rfl rfl sz27 rfl rfl rfl ?_
  intro u41 hS Qn
  replace Q1 := Qn
  clear Qn
  replace M := hS.mo _ N_k1 M
  clear hS
  refine wl_m (.const (.bool false)) (.bool false) ?_
  refine w_nil (xn_then (w_ret ?_))
  exact w_ret2 _ _ (.agg #[.int .i64 0, .int .i64 0, .int .i64 0, .int .i64 0, .int .i64 0]) (.bool false) rfl ⟨k1, e4, (run_row Q1 27 0 5 _ rfl Tryd.underlying27 rfl sz27)⟩ rfl ⟨pq_ret (a := V.ce0) (o := none) (by unfold ppc; rw [← hie]; exact hno) rfl rfl, M⟩
end Go.Proofs.YtnffhcjmpjajlaaDoor
