/-
  A part of the proof.
-/
import Derived.Test.YthehmmhnacomkaaKa20
import Derived.Test.YthehmmhnacomkaaKShapes4
import Derived.Test.YthehmmhnacomkaaKa19
import Derived.Test.YthehmmhnacomkaaKa18
import Derived.Test.YthehmmhnacomkaaKa17
import Derived.Test.YthehmmhnacomkaaKShapes3
import Derived.Test.YthehmmhnacomkaaKa16
import Derived.Test.YthehmmhnacomkaaKShapes2
import Derived.Test.YthehmmhnacomkaaKa15
import Derived.Test.YthehmmhnacomkaaKShapes1
import Derived.Test.YthehmmhnacomkaaKa14
import Derived.Test.YthehmmhnacomkaaKa11
import Derived.Test.YthehmmhnacomkaaKa10
import Derived.Test.YthehmmhnacomkaaKa3
import Derived.Test.YthehmmhnacomkaaKa2
import Derived.Test.YthehmmhnacomkaaKa1
import Derived.RegionTactic
import Derived.Test.YthehmmhnacomkaaProg
import Derived.WalkKit
import Derived.WalkSpells
import Derived.Handy
import Derived.BigQuiet
import Derived.Deep.RegionHeld3
import Derived.Deep.MidRow
import Derived.BigCall
import Derived.Test.YthehmmhnacomkaaKa9
import Derived.Test.YthehmmhnacomkaaKa8
import Derived.Test.YthehmmhnacomkaaKa5
import Derived.Test.YthehmmhnacomkaaKa4
import Derived.Shelf.Small.Bits
import Derived.Shelf.Strconv.Itoa0
import Derived.Shelf.Bits.Mul64
import Derived.Deep.CutBlock
import Derived.Deep.CutRange
import Derived.Test.YthehmmhnacomkaaKa7
import Derived.Test.YthehmmhnacomkaaKa6
import Derived.ChangeKeysEq
import Derived.ScopeJumps
import Derived.WalkMore
import Derived.Laws.StructEq
import Derived.Test.YthehmmhnacomkaaKa13
import Derived.Test.YthehmmhnacomkaaKa12
import Derived.Lib.CutLaws
import Derived.Maps.OwnSet
import Derived.WalkArith
import Derived.StringKeys
import Derived.ProofKit
import Derived.OpenShut
import Derived.ChangeArms
import Derived.Deep.Slices
import Derived.ReadAgain
import Derived.WideKeyArgs
import Derived.Maps.AppendAt
namespace Go.Proofs.Ythehmmhnacomkaa
open Go.RowKit D
def jB (ris : Bool) (L : List Stp) (i : Nat) : Bool := (L.take i).all (fun s => !(ris && fl s)) && ((jcL L).take (i - 1)).all (upB ris)
theorem jB_0 (ris : Bool) (L : List Stp) : jB ris L 0 = true := by simp [jB]
theorem jB_1 {ris : Bool} {L : List Stp} {y : Stp} (h : L[0]? = some y) : jB ris L (0 + 1) = !(ris && fl y) := by
 unfold jB
 rw [take_next h]; simp
theorem jB_n {ris : Bool} {L : List Stp} {i : Nat} {x y : Stp} (hx : L[i]? = some x) (h : L[i + 1]? = some y) : jB ris L (i + 1 + 1) = (jB ris L (i + 1) && (!(ris && fl y) && upB ris (cmpD y.b (saysD x y.a).d))) := by
 unfold jB
 rw [take_next h, show i + 1 + 1 - 1 = i + 1 by omega, take_next (jcL_at hx h), show i + 1 - 1 = i by omega]
 simp only [List.all_append, List.all_cons, List.all_nil, Bool.and_true]
 cases (L.take (i + 1)).all (fun s => !(ris && fl s)) <;> cases ((jcL L).take i).all (upB ris) <;> cases (!(ris && fl y)) <;> cases (upB ris (cmpD y.b (saysD x y.a).d)) <;> rfl
theorem jB_end {ris : Bool} {L : List Stp} (h : rsE L = 0) : jB ris L L.length = rsB ris L := by
 unfold jB rsB
 rw [if_pos h, List.take_length, List.take_of_length_le (by rw [jcL_len]; omega), Bool.and_comm]
theorem ne_pre {L : List Stp} {i : Nat} {x y : Stp} (h : NE L (i - 1)) (hi : ¬ i = 0) (hx : L[i - 1]? = some x) (hy : L[i]? = some y) (hk : (saysD x y.a).e = 0) : NE L (i + 1 - 1) := by
 have e : i = i - 1 + 1 := by omega
 rw [show i + 1 - 1 = i - 1 + 1 by omega]
 exact ne_next h hx (by rw [← e]; exact hy) hk
theorem joins_t {x : Tb} (w : World) (hT : LT w x) : Calls Try.prog 39 #[.agg (x.cells).toArray, .bool true] w fun e9 w' => e9 = .returned (.tuple #[.bool (rsB true x.st), .int .i64 (rsE x.st)]) ∧ Mo w w' := by
 refine w_enter 75 Try.func39 Try.ntmps39 rfl rfl ?_
 have M : Mo w w := Mo.refl _
 refine w_seq (w_reg ?_)
 refine wl_box 24 (.tmp 0) _ (((x.cells).toArray)) rfl rfl (fun _ => by kernel_rfl) rfl ?_
 intro k1 u1 hk hz hq Q1
 have N_k1 : w.heap.size ≤ k1 := by have := M.size; omega
 replace M := M.trans hq
 clear hk hz hq
 refine wl_m (.const (.bool false)) (.bool false) ?_
 refine wl_m (.const (.int .i64 (0))) (.int .i64 (0)) ?_
 refine w_nil (xn_then (w_seq (w_seq (w_reg ?_))))
 refine wl_l 24 (.tmp 2) (pt k1 0) (.agg (x.cells).toArray) (run_row Q1 24 0 2 (x.cells) rfl Try.underlying24 rfl szT24) ?_
 refine wl_call 10 [(.tmp 12)] _ [.agg (x.cells).toArray] (.int .i64 (chkT x.st)) rfl rfl (fun _ _ => by kernel_rfl) (qck_n _ (hT.mo M)) rfl ?_
 intro u2 hq
 replace Q1 := Q1.mo hq
 replace M := M.trans hq
 clear hq
 refine wl_m (.tmp 13) (.int .i64 (chkT x.st)) ?_
 refine w_nil (xn_then (w_seq (w_reg ?_)))
 refine wl_m (.tmp 6) (.int .i64 (chkT x.st)) ?_
 cases hf0 : decide (chkT x.st = 0) with
 | true =>
  have hf0p := of_decide_eq_true hf0
  refine wl_b .neq 26 (.tmp 14) (.const (.int .i64 (0))) (.int .i64 (chkT x.st)) (.int .i64 (0)) (.bool false) (ne34 hf0 _ _ _) ?_
  refine w_nil (xn_then (w_condF rfl (w_skip (xn_then (w_seq (w_reg ?_))))))
  refine wl_m (.const (.bool true)) (.bool true) ?_
  refine w_nil (xn_then (w_seq (w_seq (w_reg ?_))))
  refine wl_m (.const (.int .i64 (0))) (.int .i64 (0)) ?_
  refine w_nil (xn_then (w_block ?_))
  obtain ⟨hl32, _, hall, _⟩ := chk_0 hf0p
  refine w_loop (fun m l w1 => ∃ i : Nat, m = x.st.length - i ∧ i ≤ x.st.length ∧ look l 1 = .bool true ∧ look l 2 = pt k1 0 ∧ look l 8 = .int .i64 ((i : Nat) : Int) ∧ At w1 k1 (x.cells) ∧ (∀ k, look l 9 = pt k 0 → k < w1.heap.size) ∧ (NE x.st (i - 1)) ∧ (look l 7 = .bool (jB true x.st i)) ∧ Mo w w1) _ ⟨0, rfl, Nat.zero_le _, rfl, rfl, rfl, Q1, (fun k e => by cases e), (fun j hj => absurd hj (Nat.not_lt_zero j)), (congrArg Value.bool (jB_0 _ _).symm), M⟩ ?_
  clear Q1 M
  rintro m l40 wl40 ⟨i, rfl, hi, e40_1, e40_2, e40_i, Q1, d9, hne, e7, M⟩
  by_cases hil : i < x.st.length
  ·skip
   have hid : decide (i < x.st.length) = true := decide_eq_true hil
   have MB := M
   replace M : Mo wl40 wl40 := Mo.refl _
   have hTB := hT.mo MB
   obtain ⟨y, hy⟩ := get_of_lt hil
   have hmy := List.mem_of_getElem? hy
   obtain ⟨bp, op, hpp, hRp⟩ := D.SL.rw hTB.sl hy
   refine w_seq (w_seq (w_reg ?_))
   refine wl_mv (.tmp 8) (.int .i64 ((i : Nat) : Int)) (fun _ => rfl) e40_i rfl ?_
   refine wl_un (fun v => Instr.fieldAt 24 v 1) (.tmp 2) (pt k1 0) (pt k1 1) (fun _ => rfl) e40_2 (by kernel_rfl) rfl ?_
   refine wl_l 22 (.tmp 18) (pt k1 1) (.slice x.pa x.st.length x.cap) (run_one Q1 22 1 rfl Try.underlying22 rfl) ?_
   refine wl_val (.int .i64 ((x.st.length : Nat) : Int)) (len22 _ _ _ _ _ (by exact rfl) _ _ _ _ _ _) rfl ?_
   refine wl_b .lss 3 (.tmp 17) (.tmp 20) (.int .i64 ((i : Nat) : Int)) (.int .i64 ((x.st.length : Nat) : Int)) (.bool true) (ltN hid _ _ _) ?_
   refine w_nil (xn_then (w_condT rfl (w_skip (xn_then (w_seq (w_block (w_seq (w_seq (w_reg ?_)))))))))
   refine wl_mv (.tmp 1) (.bool true) (fun _ => rfl) e40_1 rfl ?_
   refine wl_m (.tmp 24) (.bool true) ?_
   refine wl_un (fun v => Instr.fieldAt 24 v 1) (.tmp 2) (pt k1 0) (pt k1 1) (fun _ => rfl) e40_2 (by kernel_rfl) rfl ?_
   refine wl_l 22 (.tmp 26) (pt k1 1) (.slice x.pa x.st.length x.cap) (run_one Q1 22 1 rfl Try.underlying22 rfl) ?_
   refine wl_mv (.tmp 8) (.int .i64 ((i : Nat) : Int)) (fun _ => rfl) e40_i rfl ?_
   refine wl_bin (fun x y => Instr.indexAt 22 x y) (.tmp 27) (.tmp 28) (.slice x.pa x.st.length x.cap) (.int .i64 ((i : Nat) : Int)) (pt bp (op + i * 18)) (fun _ => rfl) rfl rfl (ix22 (i := i) hpp hil _) rfl ?_
   refine wl_f 45 2 (.tmp 29) (pt bp (op + i * 18)) (pt bp (op + i * 18 + 12)) ?_
   refine wl_l 33 (.tmp 30) (pt bp (op + i * 18 + 12)) (.agg (y.c.cells).toArray) (D.run_partR (hRp.mo M).at' 33 12 6 (y.c.cells) rfl Try.underlying33 rfl sz33) ?_
   refine wl_call 60 [(.tmp 31)] _ [.agg (y.c.cells).toArray] (.int .i64 (sg y.c.b y.c.n)) rfl rfl (fun _ _ => by kernel_rfl) (qsgn_n (hT.ok y hmy).2.2 _) rfl ?_
   intro u41 hq
   replace Q1 := Q1.mo hq
   replace M := M.trans hq
   clear hq
   cases hf30 : decide (sg y.c.b y.c.n < 0) with
   | true =>
    have hf30p := of_decide_eq_true hf30
    refine wl_b .lss 3 (.tmp 32) (.const (.int .i64 (0))) (.int .i64 (sg y.c.b y.c.n)) (.int .i64 (0)) (.bool true) (lt3 hf30 _ _ _) ?_
    refine wl_pick (.tmp 25) (.tmp 33) (.const (.bool false)) true (.bool true) (fun _ => rfl) rfl rfl rfl ?_
    refine w_nil (xn_then (w_condT rfl (w_reg ?_)))
    refine wl_m (.const (.bool false)) (.bool false) ?_
    refine w_nil (xn_then (w_seq (w_seq (w_reg ?_))))
    refine wl_mv (.tmp 8) (.int .i64 ((i : Nat) : Int)) (fun _ => rfl) e40_i rfl ?_
    cases hf31 : decide (((i : Nat) : Int) = 0) with
    | true =>
     have hf31p := of_decide_eq_true hf31
     refine wl_b .eql 3 (.tmp 35) (.const (.int .i64 (0))) (.int .i64 ((i : Nat) : Int)) (.int .i64 (0)) (.bool true) (eq3 hf31 _ _ _) ?_
     refine w_nil (xn_then (w_condT rfl (w_exit (xx_then (xx_blk (xn_then (w_reg ?_)))))))
     refine wl_mv (.tmp 8) (.int .i64 ((i : Nat) : Int)) (fun _ => rfl) e40_i rfl ?_
     refine wl_b .add 3 (.tmp 22) (.const (.int .i64 (1))) (.int .i64 ((i : Nat) : Int)) (.int .i64 (1)) (.int .i64 ((i + 1 : Nat) : Int)) (add1r (k := i) (by omega) _ _ _) ?_
     refine wl_m (.tmp 23) (.int .i64 ((i + 1 : Nat) : Int)) ?_
     refine w_nil ?_
     exact xn_loop (x.st.length - (i + 1)) (by omega) ⟨i + 1, rfl, by omega, e40_1, e40_2, rfl, Q1, (fun k e => Nat.lt_of_lt_of_le (d9 k e) M.size), (by obtain rfl : i = 0 := (by omega); exact fun j hj => absurd hj (Nat.not_lt_zero j)), (by obtain rfl : i = 0 := (by omega); rw [jB_1 hy, (show fl y = true from hf30)]; exact rfl), (MB.trans M)⟩
    | false =>
     have hf31p := of_decide_eq_false hf31
     refine wl_b .eql 3 (.tmp 35) (.const (.int .i64 (0))) (.int .i64 ((i : Nat) : Int)) (.int .i64 (0)) (.bool false) (eq3 hf31 _ _ _) ?_
     refine w_nil (xn_then (w_condF rfl (w_skip (xn_then (w_seq ?_)))))
     have hin : ¬ i = 0 := by omega
     have hil0 : i - 1 < x.st.length := by omega
     have hie1 : i = i - 1 + 1 := by omega
     obtain ⟨y0, hy0⟩ := get_of_lt hil0
     have hmy0 := List.mem_of_getElem? hy0
     obtain ⟨bq, oq, hpq, hRq⟩ := D.SL.rw hTB.sl hy0
     have hyn : x.st[i - 1 + 1]? = some y := by rw [← hie1]; exact hy
     refine w_any 17 [.inl (pt k1 1), .inl (.slice x.pa x.st.length x.cap), .inl (.int .i64 ((i : Nat) : Int)), .inl (.int .i64 (((i - 1) : Nat) : Int)), .inl (pt bq (oq + ((i - 1)) * 18)), .inl (.agg (y0.cells).toArray), .inl (pt k1 1), .inl (.slice x.pa x.st.length x.cap), .inl (.int .i64 ((i : Nat) : Int)), .inl (pt bp (op + i * 18)), .inl (pt bp (op + i * 18)), .inl (.agg (y.a.cells).toArray), .inl (.tuple #[.agg ((saysD y0 y.a).d.cells).toArray, .int .i64 ((saysD y0 y.a).e)]), .inl (.tuple #[.agg ((saysD y0 y.a).d.cells).toArray, .int .i64 ((saysD y0 y.a).e)]), .inl (.agg ((saysD y0 y.a).d.cells).toArray), .inl (.int .i64 ((saysD y0 y.a).e)), .inr [.bool false, .int .u64 0, .int .u64 0, .int .u64 0, .int .u64 0, .int .i64 0]] [15] (by kernel_rfl) (by kernel_rfl) (by kernel_rfl) (by kernel_rfl) rfl (by kernel_rfl) (by kernel_rfl) (late_cons ⟨_, _, rfl, rfl, fun _ _ _ _ h => h, fun f hd => ⟨rfl, la_un (fun v => Instr.extract v 1) (.tmp 37) (.tuple #[.agg ((saysD y0 y.a).d.cells).toArray, .int .i64 ((saysD y0 y.a).e)]) (.int .i64 ((saysD y0 y.a).e)) (fun _ => rfl) (hd 13 rfl _ rfl) (fun w => by kernel_rfl)⟩⟩ late_nil) ?_ ?_ ?_
     ·exact Ds.one 16 (fun q hq => by rcases q with _ | _ | _ | _ | _ | _ | _ | _ | _ | _ | _ | _ | _ | _ | _ | _ | _ | _ | _ | q <;> first | rfl | cases hq) (fun k e => Nat.lt_of_lt_of_le (d9 k e) M.size)
     ·refine ea_cons ?_ (ea_cons ?_ (ea_cons ?_ (ea_cons ?_ (ea_cons ?_ (ea_cons ?_ (ea_cons ?_ (ea_cons ?_ (ea_cons ?_ (ea_cons ?_ (ea_cons ?_ (ea_cons ?_ (ea_cons ?_ (ea_cons ?_ (ea_cons ?_ (ea_cons ?_ (ea_cons ?_ (ea_nil)))))))))))))))))
      ·exact og_eq _ rfl (fun f wf hq hd K hK => go_run rfl (wo_un (fun v => Instr.fieldAt 24 v 1) (.tmp 2) (pt k1 0) (pt k1 1) (fun _ => rfl) e40_2 (by kernel_rfl) (hK _ (Mo.refl _))))
      ·exact og_eq _ rfl (fun f wf hq hd K hK => have Q1 := Q1.mo hq; go_run rfl (wo_load 22 (.tmp 38) (pt k1 1) (.slice x.pa x.st.length x.cap) rfl (hd 0 rfl) (run_one Q1 22 1 rfl Try.underlying22 rfl) (hK _ (Mo.refl _))))
      ·exact og_eq _ rfl (fun f wf hq hd K hK => go_run rfl (wo_mv (.tmp 8) (.int .i64 ((i : Nat) : Int)) (fun _ => rfl) e40_i (hK _ (Mo.refl _))))
      ·exact og_eq _ rfl (fun f wf hq hd K hK => go_run rfl (wo_bin (fun x y => do eqGuard .sub 3 (.tmp 40) (.const (.int .i64 (1))) x y; binOp .sub 3 x y) (.tmp 40) (.const (.int .i64 (1))) (.int .i64 ((i : Nat) : Int)) (.int .i64 (1)) (.int .i64 (((i - 1) : Nat) : Int)) (fun _ => rfl) (hd 2 rfl) rfl (subN (a := i) (b := 1) (by omega) (by omega) _ _ _) (hK _ (Mo.refl _))))
      ·exact og_eq _ rfl (fun f wf hq hd K hK => go_run rfl (wo_bin (fun x y => Instr.indexAt 22 x y) (.tmp 39) (.tmp 41) (.slice x.pa x.st.length x.cap) (.int .i64 (((i - 1) : Nat) : Int)) (pt bq (oq + ((i - 1)) * 18)) (fun _ => rfl) (hd 1 rfl) (hd 3 rfl) (ix22 (i := (i - 1)) hpq hil0 _) (hK _ (Mo.refl _))))
      ·exact og_eq _ rfl (fun f wf hq hd K hK => go_run rfl (wo_load 45 (.tmp 42) (pt bq (oq + ((i - 1)) * 18)) (.agg (y0.cells).toArray) rfl (hd 4 rfl) (D.run_partR (hRq.mo (M.trans hq)).at' 45 0 18 (y0.cells) rfl Try.underlying45 rfl sz45) (hK _ (Mo.refl _))))
      ·exact og_eq _ rfl (fun f wf hq hd K hK => go_run rfl (wo_un (fun v => Instr.fieldAt 24 v 1) (.tmp 2) (pt k1 0) (pt k1 1) (fun _ => rfl) e40_2 (by kernel_rfl) (hK _ (Mo.refl _))))
      ·exact og_eq _ rfl (fun f wf hq hd K hK => have Q1 := Q1.mo hq; go_run rfl (wo_load 22 (.tmp 44) (pt k1 1) (.slice x.pa x.st.length x.cap) rfl (hd 6 rfl) (run_one Q1 22 1 rfl Try.underlying22 rfl) (hK _ (Mo.refl _))))
      ·exact og_eq _ rfl (fun f wf hq hd K hK => go_run rfl (wo_mv (.tmp 8) (.int .i64 ((i : Nat) : Int)) (fun _ => rfl) e40_i (hK _ (Mo.refl _))))
      ·exact og_eq _ rfl (fun f wf hq hd K hK => go_run rfl (wo_bin (fun x y => Instr.indexAt 22 x y) (.tmp 45) (.tmp 46) (.slice x.pa x.st.length x.cap) (.int .i64 ((i : Nat) : Int)) (pt bp (op + i * 18)) (fun _ => rfl) (hd 7 rfl) (hd 8 rfl) (ix22 (i := i) hpp hil _) (hK _ (Mo.refl _))))
      ·exact og_eq _ rfl (fun f wf hq hd K hK => go_run rfl (wo_un (fun v => Instr.fieldAt 45 v 0) (.tmp 47) (pt bp (op + i * 18)) (pt bp (op + i * 18)) (fun _ => rfl) (hd 9 rfl) (by kernel_rfl) (hK _ (Mo.refl _))))
      ·exact og_eq _ rfl (fun f wf hq hd K hK => go_run rfl (wo_load 33 (.tmp 48) (pt bp (op + i * 18)) (.agg (y.a.cells).toArray) rfl (hd 10 rfl) (D.run_partR (hRp.mo (M.trans hq)).at' 33 0 6 (y.a.cells) rfl Try.underlying33 rfl sz33) (hK _ (Mo.refl _))))
      ·exact og_eq _ rfl (fun f wf hq hd K hK => go_run rfl (wo_call 33 [(.tmp 43), (.tmp 49)] _ [.agg (y0.cells).toArray, .agg (y.a.cells).toArray] (.tuple #[.agg ((saysD y0 y.a).d.cells).toArray, .int .i64 ((saysD y0 y.a).e)]) rfl (li2 (hd 5 rfl) (hd 11 rfl)) (fun _ _ => by kernel_rfl) (qsays_n _ (fit_of hT.ok hall hy0) (fit_of hT.ok hall hy).1) hK))
      ·exact og_eq _ rfl (fun f wf hq hd K hK => go_run rfl (wo_mv (.tmp 50) (.tuple #[.agg ((saysD y0 y.a).d.cells).toArray, .int .i64 ((saysD y0 y.a).e)]) (fun _ => rfl) (hd 12 rfl) (hK _ (Mo.refl _))))
      ·exact og_eq _ rfl (fun f wf hq hd K hK => go_run rfl (wo_un (fun v => Instr.extract v 0) (.tmp 37) (.tuple #[.agg ((saysD y0 y.a).d.cells).toArray, .int .i64 ((saysD y0 y.a).e)]) (.agg ((saysD y0 y.a).d.cells).toArray) (fun _ => rfl) (hd 13 rfl) (by kernel_rfl) (hK _ (Mo.refl _))))
      ·exact og_eq _ rfl (fun f wf hq hd K hK => go_run rfl (wo_un (fun v => Instr.extract v 1) (.tmp 37) (.tuple #[.agg ((saysD y0 y.a).d.cells).toArray, .int .i64 ((saysD y0 y.a).e)]) (.int .i64 ((saysD y0 y.a).e)) (fun _ => rfl) (hd 13 rfl) (by kernel_rfl) (hK _ (Mo.refl _))))
      ·exact og_new [.bool false, .int .u64 0, .int .u64 0, .int .u64 0, .int .u64 0, .int .i64 0] rfl (fun f wf hq hd K hK => go_run rfl (wo_alloc 33 #[.bool false, .int .u64 0, .int .u64 0, .int .u64 0, .int .u64 0, .int .i64 0] rfl (fun _ => by kernel_rfl) hK))
     intro kf42 u42 hq hR hne
     obtain ⟨N_k2, Q2⟩ := hR 16 _ rfl rfl
     have ne_k1_k2 : k1 ≠ (kf42 16) := by have := Q1.lt; omega
     replace N_k2 := Nat.le_trans M.size N_k2
     replace Q1 := Q1.mo hq
     replace M := M.trans hq
     clear hq hR hne
     refine wl_st 33 (.tmp 9) (.tmp 51) (kf42 16) 0 (((saysD y0 y.a).d.cells).toArray) _ ((saysD y0 y.a).d.cells) Q2 rfl rfl rfl rfl rfl sz33 rfl rfl rfl ?_
     intro u43 hS Qn
     replace Q2 := Qn
     clear Qn
     replace Q1 := hS.other _ _ ne_k1_k2 Q1
     replace M := hS.mo _ N_k2 M
     clear hS
     refine wl_m (.tmp 52) (.int .i64 ((saysD y0 y.a).e)) ?_
     refine w_nil (xn_then (w_seq (w_seq (w_reg ?_))))
     refine wl_m (.tmp 10) (.int .i64 ((saysD y0 y.a).e)) ?_
     cases hf32 : decide ((saysD y0 y.a).e = 0) with
     | true =>
      have hf32p := of_decide_eq_true hf32
      refine wl_b .neq 26 (.tmp 53) (.const (.int .i64 (0))) (.int .i64 ((saysD y0 y.a).e)) (.int .i64 (0)) (.bool false) (ne34 hf32 _ _ _) ?_
      refine w_nil (xn_then (w_condF rfl (w_skip (xn_then (w_seq ?_)))))
      refine w_any 7 [.inl (pt k1 1), .inl (.slice x.pa x.st.length x.cap), .inl (.int .i64 ((i : Nat) : Int)), .inl (pt bp (op + i * 18)), .inl (pt bp (op + i * 18 + 6)), .inl (.agg (y.b.cells).toArray), .inl (.agg ((saysD y0 y.a).d.cells).toArray)] [] (by kernel_rfl) (by kernel_rfl) (by kernel_rfl) (by kernel_rfl) rfl (by kernel_rfl) (by kernel_rfl) late_nil ?_ ?_ ?_
      ·exact Ds.none rfl
      ·refine ea_cons ?_ (ea_cons ?_ (ea_cons ?_ (ea_cons ?_ (ea_cons ?_ (ea_cons ?_ (ea_cons ?_ (ea_nil)))))))
       ·exact og_eq _ rfl (fun f wf hq hd K hK => go_run rfl (wo_un (fun v => Instr.fieldAt 24 v 1) (.tmp 2) (pt k1 0) (pt k1 1) (fun _ => rfl) e40_2 (by kernel_rfl) (hK _ (Mo.refl _))))
       ·exact og_eq _ rfl (fun f wf hq hd K hK => have Q1 := Q1.mo hq; go_run rfl (wo_load 22 (.tmp 56) (pt k1 1) (.slice x.pa x.st.length x.cap) rfl (hd 0 rfl) (run_one Q1 22 1 rfl Try.underlying22 rfl) (hK _ (Mo.refl _))))
       ·exact og_eq _ rfl (fun f wf hq hd K hK => go_run rfl (wo_mv (.tmp 8) (.int .i64 ((i : Nat) : Int)) (fun _ => rfl) e40_i (hK _ (Mo.refl _))))
       ·exact og_eq _ rfl (fun f wf hq hd K hK => go_run rfl (wo_bin (fun x y => Instr.indexAt 22 x y) (.tmp 57) (.tmp 58) (.slice x.pa x.st.length x.cap) (.int .i64 ((i : Nat) : Int)) (pt bp (op + i * 18)) (fun _ => rfl) (hd 1 rfl) (hd 2 rfl) (ix22 (i := i) hpp hil _) (hK _ (Mo.refl _))))
       ·exact og_eq _ rfl (fun f wf hq hd K hK => go_run rfl (wo_un (fun v => Instr.fieldAt 45 v 1) (.tmp 59) (pt bp (op + i * 18)) (pt bp (op + i * 18 + 6)) (fun _ => rfl) (hd 3 rfl) (by kernel_rfl) (hK _ (Mo.refl _))))
       ·exact og_eq _ rfl (fun f wf hq hd K hK => go_run rfl (wo_load 33 (.tmp 60) (pt bp (op + i * 18 + 6)) (.agg (y.b.cells).toArray) rfl (hd 4 rfl) (D.run_partR (hRp.mo (M.trans hq)).at' 33 6 6 (y.b.cells) rfl Try.underlying33 rfl sz33) (hK _ (Mo.refl _))))
       ·exact og_eq _ rfl (fun f wf hq hd K hK => have Q2 := Q2.mo hq; go_run rfl (wo_load 33 (.tmp 9) (pt (kf42 16) 0) (.agg ((saysD y0 y.a).d.cells).toArray) rfl rfl (run_row Q2 33 0 6 ((saysD y0 y.a).d.cells) rfl Try.underlying33 rfl sz33) (hK _ (Mo.refl _))))
      intro kf44 u44 hq hR hne
      replace Q1 := Q1.mo hq
      replace Q2 := Q2.mo hq
      replace M := M.trans hq
      clear hq hR hne
      refine wl_call 24 [(.tmp 61), (.tmp 62)] _ [.agg (y.b.cells).toArray, .agg ((saysD y0 y.a).d.cells).toArray] (.int .i64 (cmpD y.b (saysD y0 y.a).d)) rfl rfl (fun _ _ => by kernel_rfl) (qcmp_n (fit_of hT.ok hall hy).2.1 ((good_says (fit_of hT.ok hall hy0) (fit_of hT.ok hall hy).1).fit hf32p) _) rfl ?_
      intro u45 hq
      replace Q1 := Q1.mo hq
      replace Q2 := Q2.mo hq
      replace M := M.trans hq
      clear hq
      refine wl_m (.tmp 63) (.int .i64 (cmpD y.b (saysD y0 y.a).d)) ?_
      refine w_nil (xn_then (w_seq (w_reg ?_)))
      refine wl_m (.tmp 11) (.int .i64 (cmpD y.b (saysD y0 y.a).d)) ?_
      cases hf33 : decide (cmpD y.b (saysD y0 y.a).d < 0) with
      | true =>
       have hf33p := of_decide_eq_true hf33
       refine wl_b .lss 3 (.tmp 64) (.const (.int .i64 (0))) (.int .i64 (cmpD y.b (saysD y0 y.a).d)) (.int .i64 (0)) (.bool true) (lt3 hf33 _ _ _) ?_
       refine wl_m (.tmp 65) (.bool true) ?_
       refine wl_skip rfl (wl_skip rfl (wl_skip rfl (wl_skip rfl (wl_skip rfl (wl_skip rfl ?_)))))
       refine wl_pick (.tmp 66) (.const (.bool true)) (.tmp 72) true (.bool true) (fun _ => rfl) rfl rfl rfl ?_
       refine w_nil (xn_then (w_condT rfl (w_reg ?_)))
       refine wl_m (.const (.bool false)) (.bool false) ?_
       refine w_nil (xn_blk (xn_then (w_reg ?_)))
       refine wl_mv (.tmp 8) (.int .i64 ((i : Nat) : Int)) (fun _ => rfl) e40_i rfl ?_
       refine wl_b .add 3 (.tmp 22) (.const (.int .i64 (1))) (.int .i64 ((i : Nat) : Int)) (.int .i64 (1)) (.int .i64 ((i + 1 : Nat) : Int)) (add1r (k := i) (by omega) _ _ _) ?_
       refine wl_m (.tmp 23) (.int .i64 ((i + 1 : Nat) : Int)) ?_
       refine w_nil ?_
       exact xn_loop (x.st.length - (i + 1)) (by omega) ⟨i + 1, rfl, by omega, e40_1, e40_2, rfl, Q1, (fun k e => by have h8 := pt_inj (show pt (kf42 16) 0 = pt k 0 from e); have := Q2.lt; omega), (ne_pre hne hin hy0 hy hf32p), (by rw [show i + 1 = i - 1 + 1 + 1 by omega, jB_n hy0 hyn, ← hie1, (show fl y = true from hf30), show upB true (cmpD y.b (saysD y0 y.a).d) = false from by unfold upB; simp [hf33p]]; simp; exact rfl), (MB.trans M)⟩
      | false =>
       have hf33p := of_decide_eq_false hf33
       refine wl_b .lss 3 (.tmp 64) (.const (.int .i64 (0))) (.int .i64 (cmpD y.b (saysD y0 y.a).d)) (.int .i64 (0)) (.bool false) (lt3 hf33 _ _ _) ?_
       refine wl_m (.tmp 65) (.bool false) ?_
       refine wl_mv (.tmp 1) (.bool true) (fun _ => rfl) e40_1 rfl ?_
       refine wl_un (fun v => Op.unary .not v) (.tmp 67) (.bool true) (.bool false) (fun _ => rfl) rfl (by kernel_rfl) rfl ?_
       refine wl_m (.tmp 68) (.bool false) ?_
       refine wl_skip rfl (wl_skip rfl ?_)
       refine wl_pick (.tmp 69) (.tmp 71) (.const (.bool false)) false (.bool false) (fun _ => rfl) rfl rfl rfl ?_
       refine wl_pick (.tmp 66) (.const (.bool true)) (.tmp 72) false (.bool false) (fun _ => rfl) rfl rfl rfl ?_
       refine w_nil (xn_then (w_condF rfl (w_skip (xn_blk (xn_then (w_reg ?_))))))
       refine wl_mv (.tmp 8) (.int .i64 ((i : Nat) : Int)) (fun _ => rfl) e40_i rfl ?_
       refine wl_b .add 3 (.tmp 22) (.const (.int .i64 (1))) (.int .i64 ((i : Nat) : Int)) (.int .i64 (1)) (.int .i64 ((i + 1 : Nat) : Int)) (add1r (k := i) (by omega) _ _ _) ?_
       refine wl_m (.tmp 23) (.int .i64 ((i + 1 : Nat) : Int)) ?_
       refine w_nil ?_
       exact xn_loop (x.st.length - (i + 1)) (by omega) ⟨i + 1, rfl, by omega, e40_1, e40_2, rfl, Q1, (fun k e => by have h8 := pt_inj (show pt (kf42 16) 0 = pt k 0 from e); have := Q2.lt; omega), (ne_pre hne hin hy0 hy hf32p), (by rw [show i + 1 = i - 1 + 1 + 1 by omega, jB_n hy0 hyn, ← hie1, (show fl y = true from hf30), show upB true (cmpD y.b (saysD y0 y.a).d) = true from by unfold upB; simp [hf33p]]; simp; exact rfl), (MB.trans M)⟩
     | false =>
      have hf32p := of_decide_eq_false hf32
      refine wl_b .neq 26 (.tmp 53) (.const (.int .i64 (0))) (.int .i64 ((saysD y0 y.a).e)) (.int .i64 (0)) (.bool true) (ne34 hf32 _ _ _) ?_
      refine w_nil (xn_then (w_condT rfl (w_seq (w_reg ?_))))
      refine wl_m (.tmp 10) (.int .i64 ((saysD y0 y.a).e)) ?_
      refine wl_m (.const (.bool false)) (.bool false) ?_
      refine wl_m (.tmp 55) (.int .i64 ((saysD y0 y.a).e)) ?_
      refine w_nil (xn_then (w_ret (xr_then (xr_blk (xr_then (xr_then (xr_blk (xr_then ?_))))))))
      exact w_ret2 _ _ (.bool false) (.int .i64 ((saysD y0 y.a).e)) rfl rfl rfl ⟨rs_ret (rs_no (by rw [(show rsE x.st = (saysD y0 y.a).e by unfold rsE; rw [if_pos hf0p, jE_at hy0 hyn hne hf32p])]; exact hf32p)).symm (show rsE x.st = (saysD y0 y.a).e by unfold rsE; rw [if_pos hf0p, jE_at hy0 hyn hne hf32p]).symm, MB.trans M⟩
   | false =>
    have hf30p := of_decide_eq_false hf30
    refine wl_b .lss 3 (.tmp 32) (.const (.int .i64 (0))) (.int .i64 (sg y.c.b y.c.n)) (.int .i64 (0)) (.bool false) (lt3 hf30 _ _ _) ?_
    refine wl_pick (.tmp 25) (.tmp 33) (.const (.bool false)) true (.bool false) (fun _ => rfl) rfl rfl rfl ?_
    refine w_nil (xn_then (w_condF rfl (w_skip (xn_then (w_seq (w_seq (w_reg ?_)))))))
    refine wl_mv (.tmp 8) (.int .i64 ((i : Nat) : Int)) (fun _ => rfl) e40_i rfl ?_
    cases hf31 : decide (((i : Nat) : Int) = 0) with
    | true =>
     have hf31p := of_decide_eq_true hf31
     refine wl_b .eql 3 (.tmp 35) (.const (.int .i64 (0))) (.int .i64 ((i : Nat) : Int)) (.int .i64 (0)) (.bool true) (eq3 hf31 _ _ _) ?_
     refine w_nil (xn_then (w_condT rfl (w_exit (xx_then (xx_blk (xn_then (w_reg ?_)))))))
     refine wl_mv (.tmp 8) (.int .i64 ((i : Nat) : Int)) (fun _ => rfl) e40_i rfl ?_
     refine wl_b .add 3 (.tmp 22) (.const (.int .i64 (1))) (.int .i64 ((i : Nat) : Int)) (.int .i64 (1)) (.int .i64 ((i + 1 : Nat) : Int)) (add1r (k := i) (by omega) _ _ _) ?_
     refine wl_m (.tmp 23) (.int .i64 ((i + 1 : Nat) : Int)) ?_
     refine w_nil ?_
     exact xn_loop (x.st.length - (i + 1)) (by omega) ⟨i + 1, rfl, by omega, e40_1, e40_2, rfl, Q1, (fun k e => Nat.lt_of_lt_of_le (d9 k e) M.size), (by obtain rfl : i = 0 := (by omega); exact fun j hj => absurd hj (Nat.not_lt_zero j)), (by obtain rfl : i = 0 := (by omega); rw [jB_1 hy, (show fl y = false from hf30)]; rw [jB_0] at e7; exact e7), (MB.trans M)⟩
    | false =>
     have hf31p := of_decide_eq_false hf31
     refine wl_b .eql 3 (.tmp 35) (.const (.int .i64 (0))) (.int .i64 ((i : Nat) : Int)) (.int .i64 (0)) (.bool false) (eq3 hf31 _ _ _) ?_
     refine w_nil (xn_then (w_condF rfl (w_skip (xn_then (w_seq ?_)))))
     have hin : ¬ i = 0 := by omega
     have hil0 : i - 1 < x.st.length := by omega
     have hie1 : i = i - 1 + 1 := by omega
     obtain ⟨y0, hy0⟩ := get_of_lt hil0
     have hmy0 := List.mem_of_getElem? hy0
     obtain ⟨bq, oq, hpq, hRq⟩ := D.SL.rw hTB.sl hy0
     have hyn : x.st[i - 1 + 1]? = some y := by rw [← hie1]; exact hy
     refine w_any 17 [.inl (pt k1 1), .inl (.slice x.pa x.st.length x.cap), .inl (.int .i64 ((i : Nat) : Int)), .inl (.int .i64 (((i - 1) : Nat) : Int)), .inl (pt bq (oq + ((i - 1)) * 18)), .inl (.agg (y0.cells).toArray), .inl (pt k1 1), .inl (.slice x.pa x.st.length x.cap), .inl (.int .i64 ((i : Nat) : Int)), .inl (pt bp (op + i * 18)), .inl (pt bp (op + i * 18)), .inl (.agg (y.a.cells).toArray), .inl (.tuple #[.agg ((saysD y0 y.a).d.cells).toArray, .int .i64 ((saysD y0 y.a).e)]), .inl (.tuple #[.agg ((saysD y0 y.a).d.cells).toArray, .int .i64 ((saysD y0 y.a).e)]), .inl (.agg ((saysD y0 y.a).d.cells).toArray), .inl (.int .i64 ((saysD y0 y.a).e)), .inr [.bool false, .int .u64 0, .int .u64 0, .int .u64 0, .int .u64 0, .int .i64 0]] [15] (by kernel_rfl) (by kernel_rfl) (by kernel_rfl) (by kernel_rfl) rfl (by kernel_rfl) (by kernel_rfl) (late_cons ⟨_, _, rfl, rfl, fun _ _ _ _ h => h, fun f hd => ⟨rfl, la_un (fun v => Instr.extract v 1) (.tmp 37) (.tuple #[.agg ((saysD y0 y.a).d.cells).toArray, .int .i64 ((saysD y0 y.a).e)]) (.int .i64 ((saysD y0 y.a).e)) (fun _ => rfl) (hd 13 rfl _ rfl) (fun w => by kernel_rfl)⟩⟩ late_nil) ?_ ?_ ?_
     ·exact Ds.one 16 (fun q hq => by rcases q with _ | _ | _ | _ | _ | _ | _ | _ | _ | _ | _ | _ | _ | _ | _ | _ | _ | _ | _ | q <;> first | rfl | cases hq) (fun k e => Nat.lt_of_lt_of_le (d9 k e) M.size)
     ·refine ea_cons ?_ (ea_cons ?_ (ea_cons ?_ (ea_cons ?_ (ea_cons ?_ (ea_cons ?_ (ea_cons ?_ (ea_cons ?_ (ea_cons ?_ (ea_cons ?_ (ea_cons ?_ (ea_cons ?_ (ea_cons ?_ (ea_cons ?_ (ea_cons ?_ (ea_cons ?_ (ea_cons ?_ (ea_nil)))))))))))))))))
      ·exact og_eq _ rfl (fun f wf hq hd K hK => go_run rfl (wo_un (fun v => Instr.fieldAt 24 v 1) (.tmp 2) (pt k1 0) (pt k1 1) (fun _ => rfl) e40_2 (by kernel_rfl) (hK _ (Mo.refl _))))
      ·exact og_eq _ rfl (fun f wf hq hd K hK => have Q1 := Q1.mo hq; go_run rfl (wo_load 22 (.tmp 38) (pt k1 1) (.slice x.pa x.st.length x.cap) rfl (hd 0 rfl) (run_one Q1 22 1 rfl Try.underlying22 rfl) (hK _ (Mo.refl _))))
      ·exact og_eq _ rfl (fun f wf hq hd K hK => go_run rfl (wo_mv (.tmp 8) (.int .i64 ((i : Nat) : Int)) (fun _ => rfl) e40_i (hK _ (Mo.refl _))))
      ·exact og_eq _ rfl (fun f wf hq hd K hK => go_run rfl (wo_bin (fun x y => do eqGuard .sub 3 (.tmp 40) (.const (.int .i64 (1))) x y; binOp .sub 3 x y) (.tmp 40) (.const (.int .i64 (1))) (.int .i64 ((i : Nat) : Int)) (.int .i64 (1)) (.int .i64 (((i - 1) : Nat) : Int)) (fun _ => rfl) (hd 2 rfl) rfl (subN (a := i) (b := 1) (by omega) (by omega) _ _ _) (hK _ (Mo.refl _))))
      ·exact og_eq _ rfl (fun f wf hq hd K hK => go_run rfl (wo_bin (fun x y => Instr.indexAt 22 x y) (.tmp 39) (.tmp 41) (.slice x.pa x.st.length x.cap) (.int .i64 (((i - 1) : Nat) : Int)) (pt bq (oq + ((i - 1)) * 18)) (fun _ => rfl) (hd 1 rfl) (hd 3 rfl) (ix22 (i := (i - 1)) hpq hil0 _) (hK _ (Mo.refl _))))
      ·exact og_eq _ rfl (fun f wf hq hd K hK => go_run rfl (wo_load 45 (.tmp 42) (pt bq (oq + ((i - 1)) * 18)) (.agg (y0.cells).toArray) rfl (hd 4 rfl) (D.run_partR (hRq.mo (M.trans hq)).at' 45 0 18 (y0.cells) rfl Try.underlying45 rfl sz45) (hK _ (Mo.refl _))))
      ·exact og_eq _ rfl (fun f wf hq hd K hK => go_run rfl (wo_un (fun v => Instr.fieldAt 24 v 1) (.tmp 2) (pt k1 0) (pt k1 1) (fun _ => rfl) e40_2 (by kernel_rfl) (hK _ (Mo.refl _))))
      ·exact og_eq _ rfl (fun f wf hq hd K hK => have Q1 := Q1.mo hq; go_run rfl (wo_load 22 (.tmp 44) (pt k1 1) (.slice x.pa x.st.length x.cap) rfl (hd 6 rfl) (run_one Q1 22 1 rfl Try.underlying22 rfl) (hK _ (Mo.refl _))))
      ·exact og_eq _ rfl (fun f wf hq hd K hK => go_run rfl (wo_mv (.tmp 8) (.int .i64 ((i : Nat) : Int)) (fun _ => rfl) e40_i (hK _ (Mo.refl _))))
      ·exact og_eq _ rfl (fun f wf hq hd K hK => go_run rfl (wo_bin (fun x y => Instr.indexAt 22 x y) (.tmp 45) (.tmp 46) (.slice x.pa x.st.length x.cap) (.int .i64 ((i : Nat) : Int)) (pt bp (op + i * 18)) (fun _ => rfl) (hd 7 rfl) (hd 8 rfl) (ix22 (i := i) hpp hil _) (hK _ (Mo.refl _))))
      ·exact og_eq _ rfl (fun f wf hq hd K hK => go_run rfl (wo_un (fun v => Instr.fieldAt 45 v 0) (.tmp 47) (pt bp (op + i * 18)) (pt bp (op + i * 18)) (fun _ => rfl) (hd 9 rfl) (by kernel_rfl) (hK _ (Mo.refl _))))
      ·exact og_eq _ rfl (fun f wf hq hd K hK => go_run rfl (wo_load 33 (.tmp 48) (pt bp (op + i * 18)) (.agg (y.a.cells).toArray) rfl (hd 10 rfl) (D.run_partR (hRp.mo (M.trans hq)).at' 33 0 6 (y.a.cells) rfl Try.underlying33 rfl sz33) (hK _ (Mo.refl _))))
      ·exact og_eq _ rfl (fun f wf hq hd K hK => go_run rfl (wo_call 33 [(.tmp 43), (.tmp 49)] _ [.agg (y0.cells).toArray, .agg (y.a.cells).toArray] (.tuple #[.agg ((saysD y0 y.a).d.cells).toArray, .int .i64 ((saysD y0 y.a).e)]) rfl (li2 (hd 5 rfl) (hd 11 rfl)) (fun _ _ => by kernel_rfl) (qsays_n _ (fit_of hT.ok hall hy0) (fit_of hT.ok hall hy).1) hK))
      ·exact og_eq _ rfl (fun f wf hq hd K hK => go_run rfl (wo_mv (.tmp 50) (.tuple #[.agg ((saysD y0 y.a).d.cells).toArray, .int .i64 ((saysD y0 y.a).e)]) (fun _ => rfl) (hd 12 rfl) (hK _ (Mo.refl _))))
      ·exact og_eq _ rfl (fun f wf hq hd K hK => go_run rfl (wo_un (fun v => Instr.extract v 0) (.tmp 37) (.tuple #[.agg ((saysD y0 y.a).d.cells).toArray, .int .i64 ((saysD y0 y.a).e)]) (.agg ((saysD y0 y.a).d.cells).toArray) (fun _ => rfl) (hd 13 rfl) (by kernel_rfl) (hK _ (Mo.refl _))))
      ·exact og_eq _ rfl (fun f wf hq hd K hK => go_run rfl (wo_un (fun v => Instr.extract v 1) (.tmp 37) (.tuple #[.agg ((saysD y0 y.a).d.cells).toArray, .int .i64 ((saysD y0 y.a).e)]) (.int .i64 ((saysD y0 y.a).e)) (fun _ => rfl) (hd 13 rfl) (by kernel_rfl) (hK _ (Mo.refl _))))
      ·exact og_new [.bool false, .int .u64 0, .int .u64 0, .int .u64 0, .int .u64 0, .int .i64 0] rfl (fun f wf hq hd K hK => go_run rfl (wo_alloc 33 #[.bool false, .int .u64 0, .int .u64 0, .int .u64 0, .int .u64 0, .int .i64 0] rfl (fun _ => by kernel_rfl) hK))
     intro kf42 u42 hq hR hne
     obtain ⟨N_k2, Q2⟩ := hR 16 _ rfl rfl
     have ne_k1_k2 : k1 ≠ (kf42 16) := by have := Q1.lt; omega
     replace N_k2 := Nat.le_trans M.size N_k2
     replace Q1 := Q1.mo hq
     replace M := M.trans hq
     clear hq hR hne
     refine wl_st 33 (.tmp 9) (.tmp 51) (kf42 16) 0 (((saysD y0 y.a).d.cells).toArray) _ ((saysD y0 y.a).d.cells) Q2 rfl rfl rfl rfl rfl sz33 rfl rfl rfl ?_
     intro u43 hS Qn
     replace Q2 := Qn
     clear Qn
     replace Q1 := hS.other _ _ ne_k1_k2 Q1
     replace M := hS.mo _ N_k2 M
     clear hS
     refine wl_m (.tmp 52) (.int .i64 ((saysD y0 y.a).e)) ?_
     refine w_nil (xn_then (w_seq (w_seq (w_reg ?_))))
     refine wl_m (.tmp 10) (.int .i64 ((saysD y0 y.a).e)) ?_
     cases hf32 : decide ((saysD y0 y.a).e = 0) with
     | true =>
      have hf32p := of_decide_eq_true hf32
      refine wl_b .neq 26 (.tmp 53) (.const (.int .i64 (0))) (.int .i64 ((saysD y0 y.a).e)) (.int .i64 (0)) (.bool false) (ne34 hf32 _ _ _) ?_
      refine w_nil (xn_then (w_condF rfl (w_skip (xn_then (w_seq ?_)))))
      refine w_any 7 [.inl (pt k1 1), .inl (.slice x.pa x.st.length x.cap), .inl (.int .i64 ((i : Nat) : Int)), .inl (pt bp (op + i * 18)), .inl (pt bp (op + i * 18 + 6)), .inl (.agg (y.b.cells).toArray), .inl (.agg ((saysD y0 y.a).d.cells).toArray)] [] (by kernel_rfl) (by kernel_rfl) (by kernel_rfl) (by kernel_rfl) rfl (by kernel_rfl) (by kernel_rfl) late_nil ?_ ?_ ?_
      ·exact Ds.none rfl
      ·refine ea_cons ?_ (ea_cons ?_ (ea_cons ?_ (ea_cons ?_ (ea_cons ?_ (ea_cons ?_ (ea_cons ?_ (ea_nil)))))))
       ·exact og_eq _ rfl (fun f wf hq hd K hK => go_run rfl (wo_un (fun v => Instr.fieldAt 24 v 1) (.tmp 2) (pt k1 0) (pt k1 1) (fun _ => rfl) e40_2 (by kernel_rfl) (hK _ (Mo.refl _))))
       ·exact og_eq _ rfl (fun f wf hq hd K hK => have Q1 := Q1.mo hq; go_run rfl (wo_load 22 (.tmp 56) (pt k1 1) (.slice x.pa x.st.length x.cap) rfl (hd 0 rfl) (run_one Q1 22 1 rfl Try.underlying22 rfl) (hK _ (Mo.refl _))))
       ·exact og_eq _ rfl (fun f wf hq hd K hK => go_run rfl (wo_mv (.tmp 8) (.int .i64 ((i : Nat) : Int)) (fun _ => rfl) e40_i (hK _ (Mo.refl _))))
       ·exact og_eq _ rfl (fun f wf hq hd K hK => go_run rfl (wo_bin (fun x y => Instr.indexAt 22 x y) (.tmp 57) (.tmp 58) (.slice x.pa x.st.length x.cap) (.int .i64 ((i : Nat) : Int)) (pt bp (op + i * 18)) (fun _ => rfl) (hd 1 rfl) (hd 2 rfl) (ix22 (i := i) hpp hil _) (hK _ (Mo.refl _))))
       ·exact og_eq _ rfl (fun f wf hq hd K hK => go_run rfl (wo_un (fun v => Instr.fieldAt 45 v 1) (.tmp 59) (pt bp (op + i * 18)) (pt bp (op + i * 18 + 6)) (fun _ => rfl) (hd 3 rfl) (by kernel_rfl) (hK _ (Mo.refl _))))
       ·exact og_eq _ rfl (fun f wf hq hd K hK => go_run rfl (wo_load 33 (.tmp 60) (pt bp (op + i * 18 + 6)) (.agg (y.b.cells).toArray) rfl (hd 4 rfl) (D.run_partR (hRp.mo (M.trans hq)).at' 33 6 6 (y.b.cells) rfl Try.underlying33 rfl sz33) (hK _ (Mo.refl _))))
       ·exact og_eq _ rfl (fun f wf hq hd K hK => have Q2 := Q2.mo hq; go_run rfl (wo_load 33 (.tmp 9) (pt (kf42 16) 0) (.agg ((saysD y0 y.a).d.cells).toArray) rfl rfl (run_row Q2 33 0 6 ((saysD y0 y.a).d.cells) rfl Try.underlying33 rfl sz33) (hK _ (Mo.refl _))))
      intro kf44 u44 hq hR hne
      replace Q1 := Q1.mo hq
      replace Q2 := Q2.mo hq
      replace M := M.trans hq
      clear hq hR hne
      refine wl_call 24 [(.tmp 61), (.tmp 62)] _ [.agg (y.b.cells).toArray, .agg ((saysD y0 y.a).d.cells).toArray] (.int .i64 (cmpD y.b (saysD y0 y.a).d)) rfl rfl (fun _ _ => by kernel_rfl) (qcmp_n (fit_of hT.ok hall hy).2.1 ((good_says (fit_of hT.ok hall hy0) (fit_of hT.ok hall hy).1).fit hf32p) _) rfl ?_
      intro u45 hq
      replace Q1 := Q1.mo hq
      replace Q2 := Q2.mo hq
      replace M := M.trans hq
      clear hq
      refine wl_m (.tmp 63) (.int .i64 (cmpD y.b (saysD y0 y.a).d)) ?_
      refine w_nil (xn_then (w_seq (w_reg ?_)))
      refine wl_m (.tmp 11) (.int .i64 (cmpD y.b (saysD y0 y.a).d)) ?_
      cases hf33 : decide (cmpD y.b (saysD y0 y.a).d < 0) with
      | true =>
       have hf33p := of_decide_eq_true hf33
       refine wl_b .lss 3 (.tmp 64) (.const (.int .i64 (0))) (.int .i64 (cmpD y.b (saysD y0 y.a).d)) (.int .i64 (0)) (.bool true) (lt3 hf33 _ _ _) ?_
       refine wl_m (.tmp 65) (.bool true) ?_
       refine wl_skip rfl (wl_skip rfl (wl_skip rfl (wl_skip rfl (wl_skip rfl (wl_skip rfl ?_)))))
       refine wl_pick (.tmp 66) (.const (.bool true)) (.tmp 72) true (.bool true) (fun _ => rfl) rfl rfl rfl ?_
       refine w_nil (xn_then (w_condT rfl (w_reg ?_)))
       refine wl_m (.const (.bool false)) (.bool false) ?_
       refine w_nil (xn_blk (xn_then (w_reg ?_)))
       refine wl_mv (.tmp 8) (.int .i64 ((i : Nat) : Int)) (fun _ => rfl) e40_i rfl ?_
       refine wl_b .add 3 (.tmp 22) (.const (.int .i64 (1))) (.int .i64 ((i : Nat) : Int)) (.int .i64 (1)) (.int .i64 ((i + 1 : Nat) : Int)) (add1r (k := i) (by omega) _ _ _) ?_
       refine wl_m (.tmp 23) (.int .i64 ((i + 1 : Nat) : Int)) ?_
       refine w_nil ?_
       exact xn_loop (x.st.length - (i + 1)) (by omega) ⟨i + 1, rfl, by omega, e40_1, e40_2, rfl, Q1, (fun k e => by have h8 := pt_inj (show pt (kf42 16) 0 = pt k 0 from e); have := Q2.lt; omega), (ne_pre hne hin hy0 hy hf32p), (by rw [show i + 1 = i - 1 + 1 + 1 by omega, jB_n hy0 hyn, ← hie1, (show fl y = false from hf30), show upB true (cmpD y.b (saysD y0 y.a).d) = false from by unfold upB; simp [hf33p]]; simp; exact rfl), (MB.trans M)⟩
      | false =>
       have hf33p := of_decide_eq_false hf33
       refine wl_b .lss 3 (.tmp 64) (.const (.int .i64 (0))) (.int .i64 (cmpD y.b (saysD y0 y.a).d)) (.int .i64 (0)) (.bool false) (lt3 hf33 _ _ _) ?_
       refine wl_m (.tmp 65) (.bool false) ?_
       refine wl_mv (.tmp 1) (.bool true) (fun _ => rfl) e40_1 rfl ?_
       refine wl_un (fun v => Op.unary .not v) (.tmp 67) (.bool true) (.bool false) (fun _ => rfl) rfl (by kernel_rfl) rfl ?_
       refine wl_m (.tmp 68) (.bool false) ?_
       refine wl_skip rfl (wl_skip rfl ?_)
       refine wl_pick (.tmp 69) (.tmp 71) (.const (.bool false)) false (.bool false) (fun _ => rfl) rfl rfl rfl ?_
       refine wl_pick (.tmp 66) (.const (.bool true)) (.tmp 72) false (.bool false) (fun _ => rfl) rfl rfl rfl ?_
       refine w_nil (xn_then (w_condF rfl (w_skip (xn_blk (xn_then (w_reg ?_))))))
       refine wl_mv (.tmp 8) (.int .i64 ((i : Nat) : Int)) (fun _ => rfl) e40_i rfl ?_
       refine wl_b .add 3 (.tmp 22) (.const (.int .i64 (1))) (.int .i64 ((i : Nat) : Int)) (.int .i64 (1)) (.int .i64 ((i + 1 : Nat) : Int)) (add1r (k := i) (by omega) _ _ _) ?_
       refine wl_m (.tmp 23) (.int .i64 ((i + 1 : Nat) : Int)) ?_
       refine w_nil ?_
       exact xn_loop (x.st.length - (i + 1)) (by omega) ⟨i + 1, rfl, by omega, e40_1, e40_2, rfl, Q1, (fun k e => by have h8 := pt_inj (show pt (kf42 16) 0 = pt k 0 from e); have := Q2.lt; omega), (ne_pre hne hin hy0 hy hf32p), (by rw [show i + 1 = i - 1 + 1 + 1 by omega, jB_n hy0 hyn, ← hie1, (show fl y = false from hf30), show upB true (cmpD y.b (saysD y0 y.a).d) = true from by unfold upB; simp [hf33p]]; simp; exact e7), (MB.trans M)⟩
     | false =>
      have hf32p := of_decide_eq_false hf32
      refine wl_b .neq 26 (.tmp 53) (.const (.int .i64 (0))) (.int .i64 ((saysD y0 y.a).e)) (.int .i64 (0)) (.bool true) (ne34 hf32 _ _ _) ?_
      refine w_nil (xn_then (w_condT rfl (w_seq (w_reg ?_))))
      refine wl_m (.tmp 10) (.int .i64 ((saysD y0 y.a).e)) ?_
      refine wl_m (.const (.bool false)) (.bool false) ?_
      refine wl_m (.tmp 55) (.int .i64 ((saysD y0 y.a).e)) ?_
      refine w_nil (xn_then (w_ret (xr_then (xr_blk (xr_then (xr_then (xr_blk (xr_then ?_))))))))
      exact w_ret2 _ _ (.bool false) (.int .i64 ((saysD y0 y.a).e)) rfl rfl rfl ⟨rs_ret (rs_no (by rw [(show rsE x.st = (saysD y0 y.a).e by unfold rsE; rw [if_pos hf0p, jE_at hy0 hyn hne hf32p])]; exact hf32p)).symm (show rsE x.st = (saysD y0 y.a).e by unfold rsE; rw [if_pos hf0p, jE_at hy0 hyn hne hf32p]).symm, MB.trans M⟩
  ·skip
   have hid : decide (i < x.st.length) = false := decide_eq_false hil
   have hie : i = x.st.length := by omega
   refine w_seq (w_seq (w_reg ?_))
   refine wl_mv (.tmp 8) (.int .i64 ((i : Nat) : Int)) (fun _ => rfl) e40_i rfl ?_
   refine wl_un (fun v => Instr.fieldAt 24 v 1) (.tmp 2) (pt k1 0) (pt k1 1) (fun _ => rfl) e40_2 (by kernel_rfl) rfl ?_
   refine wl_l 22 (.tmp 18) (pt k1 1) (.slice x.pa x.st.length x.cap) (run_one Q1 22 1 rfl Try.underlying22 rfl) ?_
   refine wl_val (.int .i64 ((x.st.length : Nat) : Int)) (len22 _ _ _ _ _ (by exact rfl) _ _ _ _ _ _) rfl ?_
   refine wl_b .lss 3 (.tmp 17) (.tmp 20) (.int .i64 ((i : Nat) : Int)) (.int .i64 ((x.st.length : Nat) : Int)) (.bool false) (ltN hid _ _ _) ?_
   refine w_nil (xn_then (w_condF rfl (w_exit (xx_then (xx_then (xx_blk (xn_then (w_seq (w_reg ?_)))))))))
   refine wl_mv (.tmp 7) (.bool ((jB true x.st i))) (fun _ => rfl) e7 rfl ?_
   refine wl_m (.tmp 74) (.bool ((jB true x.st i))) ?_
   refine wl_m (.const (.int .i64 (0))) (.int .i64 (0)) ?_
   refine w_nil (xn_then (w_ret ?_))
   exact w_ret2 _ _ (.bool ((jB true x.st i))) (.int .i64 (0)) rfl rfl rfl ⟨by have q0 : rsE x.st = 0 := (by unfold rsE; rw [if_pos hf0p]; exact jE_0 (fun j hj a c ha hc => hne j (by have := lt_of_get hc; omega) a c ha hc)); subst hie; exact rs_ret (jB_end q0) q0.symm, M⟩
 | false =>
  have hf0p := of_decide_eq_false hf0
  refine wl_b .neq 26 (.tmp 14) (.const (.int .i64 (0))) (.int .i64 (chkT x.st)) (.int .i64 (0)) (.bool true) (ne34 hf0 _ _ _) ?_
  refine w_nil (xn_then (w_condT rfl (w_seq (w_reg ?_))))
  refine wl_m (.tmp 6) (.int .i64 (chkT x.st)) ?_
  refine wl_m (.const (.bool false)) (.bool false) ?_
  refine wl_m (.tmp 16) (.int .i64 (chkT x.st)) ?_
  refine w_nil (xn_then (w_ret (xr_then ?_)))
  exact w_ret2 _ _ (.bool false) (.int .i64 (chkT x.st)) rfl rfl rfl ⟨rs_ret (rs_no (by rw [(show rsE x.st = chkT x.st by unfold rsE; rw [if_neg hf0p])]; exact hf0p)).symm (show rsE x.st = chkT x.st by unfold rsE; rw [if_neg hf0p]).symm, M⟩
theorem joins_f {x : Tb} (w : World) (hT : LT w x) : Calls Try.prog 39 #[.agg (x.cells).toArray, .bool false] w fun e9 w' => e9 = .returned (.tuple #[.bool (rsB false x.st), .int .i64 (rsE x.st)]) ∧ Mo w w' := by
 refine w_enter 75 Try.func39 Try.ntmps39 rfl rfl ?_
 have M : Mo w w := Mo.refl _
 refine w_seq (w_reg ?_)
 refine wl_box 24 (.tmp 0) _ (((x.cells).toArray)) rfl rfl (fun _ => by kernel_rfl) rfl ?_
 intro k1 u1 hk hz hq Q1
 have N_k1 : w.heap.size ≤ k1 := by have := M.size; omega
 replace M := M.trans hq
 clear hk hz hq
 refine wl_m (.const (.bool false)) (.bool false) ?_
 refine wl_m (.const (.int .i64 (0))) (.int .i64 (0)) ?_
 refine w_nil (xn_then (w_seq (w_seq (w_reg ?_))))
 refine wl_l 24 (.tmp 2) (pt k1 0) (.agg (x.cells).toArray) (run_row Q1 24 0 2 (x.cells) rfl Try.underlying24 rfl szT24) ?_
 refine wl_call 10 [(.tmp 12)] _ [.agg (x.cells).toArray] (.int .i64 (chkT x.st)) rfl rfl (fun _ _ => by kernel_rfl) (qck_n _ (hT.mo M)) rfl ?_
 intro u2 hq
 replace Q1 := Q1.mo hq
 replace M := M.trans hq
 clear hq
 refine wl_m (.tmp 13) (.int .i64 (chkT x.st)) ?_
 refine w_nil (xn_then (w_seq (w_reg ?_)))
 refine wl_m (.tmp 6) (.int .i64 (chkT x.st)) ?_
 cases hf0 : decide (chkT x.st = 0) with
 | true =>
  have hf0p := of_decide_eq_true hf0
  refine wl_b .neq 26 (.tmp 14) (.const (.int .i64 (0))) (.int .i64 (chkT x.st)) (.int .i64 (0)) (.bool false) (ne34 hf0 _ _ _) ?_
  refine w_nil (xn_then (w_condF rfl (w_skip (xn_then (w_seq (w_reg ?_))))))
  refine wl_m (.const (.bool true)) (.bool true) ?_
  refine w_nil (xn_then (w_seq (w_seq (w_reg ?_))))
  refine wl_m (.const (.int .i64 (0))) (.int .i64 (0)) ?_
  refine w_nil (xn_then (w_block ?_))
  obtain ⟨hl32, _, hall, _⟩ := chk_0 hf0p
  refine w_loop (fun m l w1 => ∃ i : Nat, m = x.st.length - i ∧ i ≤ x.st.length ∧ look l 1 = .bool false ∧ look l 2 = pt k1 0 ∧ look l 8 = .int .i64 ((i : Nat) : Int) ∧ At w1 k1 (x.cells) ∧ (∀ k, look l 9 = pt k 0 → k < w1.heap.size) ∧ (NE x.st (i - 1)) ∧ (look l 7 = .bool (jB false x.st i)) ∧ Mo w w1) _ ⟨0, rfl, Nat.zero_le _, rfl, rfl, rfl, Q1, (fun k e => by cases e), (fun j hj => absurd hj (Nat.not_lt_zero j)), (congrArg Value.bool (jB_0 _ _).symm), M⟩ ?_
  clear Q1 M
  rintro m l40 wl40 ⟨i, rfl, hi, e40_1, e40_2, e40_i, Q1, d9, hne, e7, M⟩
  by_cases hil : i < x.st.length
  ·skip
   have hid : decide (i < x.st.length) = true := decide_eq_true hil
   have MB := M
   replace M : Mo wl40 wl40 := Mo.refl _
   have hTB := hT.mo MB
   obtain ⟨y, hy⟩ := get_of_lt hil
   have hmy := List.mem_of_getElem? hy
   obtain ⟨bp, op, hpp, hRp⟩ := D.SL.rw hTB.sl hy
   refine w_seq (w_seq (w_reg ?_))
   refine wl_mv (.tmp 8) (.int .i64 ((i : Nat) : Int)) (fun _ => rfl) e40_i rfl ?_
   refine wl_un (fun v => Instr.fieldAt 24 v 1) (.tmp 2) (pt k1 0) (pt k1 1) (fun _ => rfl) e40_2 (by kernel_rfl) rfl ?_
   refine wl_l 22 (.tmp 18) (pt k1 1) (.slice x.pa x.st.length x.cap) (run_one Q1 22 1 rfl Try.underlying22 rfl) ?_
   refine wl_val (.int .i64 ((x.st.length : Nat) : Int)) (len22 _ _ _ _ _ (by exact rfl) _ _ _ _ _ _) rfl ?_
   refine wl_b .lss 3 (.tmp 17) (.tmp 20) (.int .i64 ((i : Nat) : Int)) (.int .i64 ((x.st.length : Nat) : Int)) (.bool true) (ltN hid _ _ _) ?_
   refine w_nil (xn_then (w_condT rfl (w_skip (xn_then (w_seq (w_block (w_seq (w_seq (w_reg ?_)))))))))
   refine wl_mv (.tmp 1) (.bool false) (fun _ => rfl) e40_1 rfl ?_
   refine wl_m (.tmp 24) (.bool false) ?_
   refine wl_skip rfl (wl_skip rfl (wl_skip rfl (wl_skip rfl (wl_skip rfl (wl_skip rfl (wl_skip rfl (wl_skip rfl ?_)))))))
   refine wl_pick (.tmp 25) (.tmp 33) (.const (.bool false)) false (.bool false) (fun _ => rfl) rfl rfl rfl ?_
   refine w_nil (xn_then (w_condF rfl (w_skip (xn_then (w_seq (w_seq (w_reg ?_)))))))
   refine wl_mv (.tmp 8) (.int .i64 ((i : Nat) : Int)) (fun _ => rfl) e40_i rfl ?_
   cases hf30 : decide (((i : Nat) : Int) = 0) with
   | true =>
    have hf30p := of_decide_eq_true hf30
    refine wl_b .eql 3 (.tmp 35) (.const (.int .i64 (0))) (.int .i64 ((i : Nat) : Int)) (.int .i64 (0)) (.bool true) (eq3 hf30 _ _ _) ?_
    refine w_nil (xn_then (w_condT rfl (w_exit (xx_then (xx_blk (xn_then (w_reg ?_)))))))
    refine wl_mv (.tmp 8) (.int .i64 ((i : Nat) : Int)) (fun _ => rfl) e40_i rfl ?_
    refine wl_b .add 3 (.tmp 22) (.const (.int .i64 (1))) (.int .i64 ((i : Nat) : Int)) (.int .i64 (1)) (.int .i64 ((i + 1 : Nat) : Int)) (add1r (k := i) (by omega) _ _ _) ?_
    refine wl_m (.tmp 23) (.int .i64 ((i + 1 : Nat) : Int)) ?_
    refine w_nil ?_
    exact xn_loop (x.st.length - (i + 1)) (by omega) ⟨i + 1, rfl, by omega, e40_1, e40_2, rfl, Q1, (fun k e => Nat.lt_of_lt_of_le (d9 k e) M.size), (by obtain rfl : i = 0 := (by omega); exact fun j hj => absurd hj (Nat.not_lt_zero j)), (by obtain rfl : i = 0 := (by omega); rw [jB_1 hy]; rw [jB_0] at e7; exact e7), (MB.trans M)⟩
   | false =>
    have hf30p := of_decide_eq_false hf30
    refine wl_b .eql 3 (.tmp 35) (.const (.int .i64 (0))) (.int .i64 ((i : Nat) : Int)) (.int .i64 (0)) (.bool false) (eq3 hf30 _ _ _) ?_
    refine w_nil (xn_then (w_condF rfl (w_skip (xn_then (w_seq ?_)))))
    have hin : ¬ i = 0 := by omega
    have hil0 : i - 1 < x.st.length := by omega
    have hie1 : i = i - 1 + 1 := by omega
    obtain ⟨y0, hy0⟩ := get_of_lt hil0
    have hmy0 := List.mem_of_getElem? hy0
    obtain ⟨bq, oq, hpq, hRq⟩ := D.SL.rw hTB.sl hy0
    have hyn : x.st[i - 1 + 1]? = some y := by rw [← hie1]; exact hy
    refine w_any 17 [.inl (pt k1 1), .inl (.slice x.pa x.st.length x.cap), .inl (.int .i64 ((i : Nat) : Int)), .inl (.int .i64 (((i - 1) : Nat) : Int)), .inl (pt bq (oq + ((i - 1)) * 18)), .inl (.agg (y0.cells).toArray), .inl (pt k1 1), .inl (.slice x.pa x.st.length x.cap), .inl (.int .i64 ((i : Nat) : Int)), .inl (pt bp (op + i * 18)), .inl (pt bp (op + i * 18)), .inl (.agg (y.a.cells).toArray), .inl (.tuple #[.agg ((saysD y0 y.a).d.cells).toArray, .int .i64 ((saysD y0 y.a).e)]), .inl (.tuple #[.agg ((saysD y0 y.a).d.cells).toArray, .int .i64 ((saysD y0 y.a).e)]), .inl (.agg ((saysD y0 y.a).d.cells).toArray), .inl (.int .i64 ((saysD y0 y.a).e)), .inr [.bool false, .int .u64 0, .int .u64 0, .int .u64 0, .int .u64 0, .int .i64 0]] [15] (by kernel_rfl) (by kernel_rfl) (by kernel_rfl) (by kernel_rfl) rfl (by kernel_rfl) (by kernel_rfl) (late_cons ⟨_, _, rfl, rfl, fun _ _ _ _ h => h, fun f hd => ⟨rfl, la_un (fun v => Instr.extract v 1) (.tmp 37) (.tuple #[.agg ((saysD y0 y.a).d.cells).toArray, .int .i64 ((saysD y0 y.a).e)]) (.int .i64 ((saysD y0 y.a).e)) (fun _ => rfl) (hd 13 rfl _ rfl) (fun w => by kernel_rfl)⟩⟩ late_nil) ?_ ?_ ?_
    ·exact Ds.one 16 (fun q hq => by rcases q with _ | _ | _ | _ | _ | _ | _ | _ | _ | _ | _ | _ | _ | _ | _ | _ | _ | _ | _ | q <;> first | rfl | cases hq) (fun k e => Nat.lt_of_lt_of_le (d9 k e) M.size)
    ·refine ea_cons ?_ (ea_cons ?_ (ea_cons ?_ (ea_cons ?_ (ea_cons ?_ (ea_cons ?_ (ea_cons ?_ (ea_cons ?_ (ea_cons ?_ (ea_cons ?_ (ea_cons ?_ (ea_cons ?_ (ea_cons ?_ (ea_cons ?_ (ea_cons ?_ (ea_cons ?_ (ea_cons ?_ (ea_nil)))))))))))))))))
     ·exact og_eq _ rfl (fun f wf hq hd K hK => go_run rfl (wo_un (fun v => Instr.fieldAt 24 v 1) (.tmp 2) (pt k1 0) (pt k1 1) (fun _ => rfl) e40_2 (by kernel_rfl) (hK _ (Mo.refl _))))
     ·exact og_eq _ rfl (fun f wf hq hd K hK => have Q1 := Q1.mo hq; go_run rfl (wo_load 22 (.tmp 38) (pt k1 1) (.slice x.pa x.st.length x.cap) rfl (hd 0 rfl) (run_one Q1 22 1 rfl Try.underlying22 rfl) (hK _ (Mo.refl _))))
     ·exact og_eq _ rfl (fun f wf hq hd K hK => go_run rfl (wo_mv (.tmp 8) (.int .i64 ((i : Nat) : Int)) (fun _ => rfl) e40_i (hK _ (Mo.refl _))))
     ·exact og_eq _ rfl (fun f wf hq hd K hK => go_run rfl (wo_bin (fun x y => do eqGuard .sub 3 (.tmp 40) (.const (.int .i64 (1))) x y; binOp .sub 3 x y) (.tmp 40) (.const (.int .i64 (1))) (.int .i64 ((i : Nat) : Int)) (.int .i64 (1)) (.int .i64 (((i - 1) : Nat) : Int)) (fun _ => rfl) (hd 2 rfl) rfl (subN (a := i) (b := 1) (by omega) (by omega) _ _ _) (hK _ (Mo.refl _))))
     ·exact og_eq _ rfl (fun f wf hq hd K hK => go_run rfl (wo_bin (fun x y => Instr.indexAt 22 x y) (.tmp 39) (.tmp 41) (.slice x.pa x.st.length x.cap) (.int .i64 (((i - 1) : Nat) : Int)) (pt bq (oq + ((i - 1)) * 18)) (fun _ => rfl) (hd 1 rfl) (hd 3 rfl) (ix22 (i := (i - 1)) hpq hil0 _) (hK _ (Mo.refl _))))
     ·exact og_eq _ rfl (fun f wf hq hd K hK => go_run rfl (wo_load 45 (.tmp 42) (pt bq (oq + ((i - 1)) * 18)) (.agg (y0.cells).toArray) rfl (hd 4 rfl) (D.run_partR (hRq.mo (M.trans hq)).at' 45 0 18 (y0.cells) rfl Try.underlying45 rfl sz45) (hK _ (Mo.refl _))))
     ·exact og_eq _ rfl (fun f wf hq hd K hK => go_run rfl (wo_un (fun v => Instr.fieldAt 24 v 1) (.tmp 2) (pt k1 0) (pt k1 1) (fun _ => rfl) e40_2 (by kernel_rfl) (hK _ (Mo.refl _))))
     ·exact og_eq _ rfl (fun f wf hq hd K hK => have Q1 := Q1.mo hq; go_run rfl (wo_load 22 (.tmp 44) (pt k1 1) (.slice x.pa x.st.length x.cap) rfl (hd 6 rfl) (run_one Q1 22 1 rfl Try.underlying22 rfl) (hK _ (Mo.refl _))))
     ·exact og_eq _ rfl (fun f wf hq hd K hK => go_run rfl (wo_mv (.tmp 8) (.int .i64 ((i : Nat) : Int)) (fun _ => rfl) e40_i (hK _ (Mo.refl _))))
     ·exact og_eq _ rfl (fun f wf hq hd K hK => go_run rfl (wo_bin (fun x y => Instr.indexAt 22 x y) (.tmp 45) (.tmp 46) (.slice x.pa x.st.length x.cap) (.int .i64 ((i : Nat) : Int)) (pt bp (op + i * 18)) (fun _ => rfl) (hd 7 rfl) (hd 8 rfl) (ix22 (i := i) hpp hil _) (hK _ (Mo.refl _))))
     ·exact og_eq _ rfl (fun f wf hq hd K hK => go_run rfl (wo_un (fun v => Instr.fieldAt 45 v 0) (.tmp 47) (pt bp (op + i * 18)) (pt bp (op + i * 18)) (fun _ => rfl) (hd 9 rfl) (by kernel_rfl) (hK _ (Mo.refl _))))
     ·exact og_eq _ rfl (fun f wf hq hd K hK => go_run rfl (wo_load 33 (.tmp 48) (pt bp (op + i * 18)) (.agg (y.a.cells).toArray) rfl (hd 10 rfl) (D.run_partR (hRp.mo (M.trans hq)).at' 33 0 6 (y.a.cells) rfl Try.underlying33 rfl sz33) (hK _ (Mo.refl _))))
     ·exact og_eq _ rfl (fun f wf hq hd K hK => go_run rfl (wo_call 33 [(.tmp 43), (.tmp 49)] _ [.agg (y0.cells).toArray, .agg (y.a.cells).toArray] (.tuple #[.agg ((saysD y0 y.a).d.cells).toArray, .int .i64 ((saysD y0 y.a).e)]) rfl (li2 (hd 5 rfl) (hd 11 rfl)) (fun _ _ => by kernel_rfl) (qsays_n _ (fit_of hT.ok hall hy0) (fit_of hT.ok hall hy).1) hK))
     ·exact og_eq _ rfl (fun f wf hq hd K hK => go_run rfl (wo_mv (.tmp 50) (.tuple #[.agg ((saysD y0 y.a).d.cells).toArray, .int .i64 ((saysD y0 y.a).e)]) (fun _ => rfl) (hd 12 rfl) (hK _ (Mo.refl _))))
     ·exact og_eq _ rfl (fun f wf hq hd K hK => go_run rfl (wo_un (fun v => Instr.extract v 0) (.tmp 37) (.tuple #[.agg ((saysD y0 y.a).d.cells).toArray, .int .i64 ((saysD y0 y.a).e)]) (.agg ((saysD y0 y.a).d.cells).toArray) (fun _ => rfl) (hd 13 rfl) (by kernel_rfl) (hK _ (Mo.refl _))))
     ·exact og_eq _ rfl (fun f wf hq hd K hK => go_run rfl (wo_un (fun v => Instr.extract v 1) (.tmp 37) (.tuple #[.agg ((saysD y0 y.a).d.cells).toArray, .int .i64 ((saysD y0 y.a).e)]) (.int .i64 ((saysD y0 y.a).e)) (fun _ => rfl) (hd 13 rfl) (by kernel_rfl) (hK _ (Mo.refl _))))
     ·exact og_new [.bool false, .int .u64 0, .int .u64 0, .int .u64 0, .int .u64 0, .int .i64 0] rfl (fun f wf hq hd K hK => go_run rfl (wo_alloc 33 #[.bool false, .int .u64 0, .int .u64 0, .int .u64 0, .int .u64 0, .int .i64 0] rfl (fun _ => by kernel_rfl) hK))
    intro kf41 u41 hq hR hne
    obtain ⟨N_k2, Q2⟩ := hR 16 _ rfl rfl
    have ne_k1_k2 : k1 ≠ (kf41 16) := by have := Q1.lt; omega
    replace N_k2 := Nat.le_trans M.size N_k2
    replace Q1 := Q1.mo hq
    replace M := M.trans hq
    clear hq hR hne
    refine wl_st 33 (.tmp 9) (.tmp 51) (kf41 16) 0 (((saysD y0 y.a).d.cells).toArray) _ ((saysD y0 y.a).d.cells) Q2 rfl rfl rfl rfl rfl sz33 rfl rfl rfl ?_
    intro u42 hS Qn
    replace Q2 := Qn
    clear Qn
    replace Q1 := hS.other _ _ ne_k1_k2 Q1
    replace M := hS.mo _ N_k2 M
    clear hS
    refine wl_m (.tmp 52) (.int .i64 ((saysD y0 y.a).e)) ?_
    refine w_nil (xn_then (w_seq (w_seq (w_reg ?_))))
    refine wl_m (.tmp 10) (.int .i64 ((saysD y0 y.a).e)) ?_
    cases hf31 : decide ((saysD y0 y.a).e = 0) with
    | true =>
     have hf31p := of_decide_eq_true hf31
     refine wl_b .neq 26 (.tmp 53) (.const (.int .i64 (0))) (.int .i64 ((saysD y0 y.a).e)) (.int .i64 (0)) (.bool false) (ne34 hf31 _ _ _) ?_
     refine w_nil (xn_then (w_condF rfl (w_skip (xn_then (w_seq ?_)))))
     refine w_any 7 [.inl (pt k1 1), .inl (.slice x.pa x.st.length x.cap), .inl (.int .i64 ((i : Nat) : Int)), .inl (pt bp (op + i * 18)), .inl (pt bp (op + i * 18 + 6)), .inl (.agg (y.b.cells).toArray), .inl (.agg ((saysD y0 y.a).d.cells).toArray)] [] (by kernel_rfl) (by kernel_rfl) (by kernel_rfl) (by kernel_rfl) rfl (by kernel_rfl) (by kernel_rfl) late_nil ?_ ?_ ?_
     ·exact Ds.none rfl
     ·refine ea_cons ?_ (ea_cons ?_ (ea_cons ?_ (ea_cons ?_ (ea_cons ?_ (ea_cons ?_ (ea_cons ?_ (ea_nil)))))))
      ·exact og_eq _ rfl (fun f wf hq hd K hK => go_run rfl (wo_un (fun v => Instr.fieldAt 24 v 1) (.tmp 2) (pt k1 0) (pt k1 1) (fun _ => rfl) e40_2 (by kernel_rfl) (hK _ (Mo.refl _))))
      ·exact og_eq _ rfl (fun f wf hq hd K hK => have Q1 := Q1.mo hq; go_run rfl (wo_load 22 (.tmp 56) (pt k1 1) (.slice x.pa x.st.length x.cap) rfl (hd 0 rfl) (run_one Q1 22 1 rfl Try.underlying22 rfl) (hK _ (Mo.refl _))))
      ·exact og_eq _ rfl (fun f wf hq hd K hK => go_run rfl (wo_mv (.tmp 8) (.int .i64 ((i : Nat) : Int)) (fun _ => rfl) e40_i (hK _ (Mo.refl _))))
      ·exact og_eq _ rfl (fun f wf hq hd K hK => go_run rfl (wo_bin (fun x y => Instr.indexAt 22 x y) (.tmp 57) (.tmp 58) (.slice x.pa x.st.length x.cap) (.int .i64 ((i : Nat) : Int)) (pt bp (op + i * 18)) (fun _ => rfl) (hd 1 rfl) (hd 2 rfl) (ix22 (i := i) hpp hil _) (hK _ (Mo.refl _))))
      ·exact og_eq _ rfl (fun f wf hq hd K hK => go_run rfl (wo_un (fun v => Instr.fieldAt 45 v 1) (.tmp 59) (pt bp (op + i * 18)) (pt bp (op + i * 18 + 6)) (fun _ => rfl) (hd 3 rfl) (by kernel_rfl) (hK _ (Mo.refl _))))
      ·exact og_eq _ rfl (fun f wf hq hd K hK => go_run rfl (wo_load 33 (.tmp 60) (pt bp (op + i * 18 + 6)) (.agg (y.b.cells).toArray) rfl (hd 4 rfl) (D.run_partR (hRp.mo (M.trans hq)).at' 33 6 6 (y.b.cells) rfl Try.underlying33 rfl sz33) (hK _ (Mo.refl _))))
      ·exact og_eq _ rfl (fun f wf hq hd K hK => have Q2 := Q2.mo hq; go_run rfl (wo_load 33 (.tmp 9) (pt (kf41 16) 0) (.agg ((saysD y0 y.a).d.cells).toArray) rfl rfl (run_row Q2 33 0 6 ((saysD y0 y.a).d.cells) rfl Try.underlying33 rfl sz33) (hK _ (Mo.refl _))))
     intro kf43 u43 hq hR hne
     replace Q1 := Q1.mo hq
     replace Q2 := Q2.mo hq
     replace M := M.trans hq
     clear hq hR hne
     refine wl_call 24 [(.tmp 61), (.tmp 62)] _ [.agg (y.b.cells).toArray, .agg ((saysD y0 y.a).d.cells).toArray] (.int .i64 (cmpD y.b (saysD y0 y.a).d)) rfl rfl (fun _ _ => by kernel_rfl) (qcmp_n (fit_of hT.ok hall hy).2.1 ((good_says (fit_of hT.ok hall hy0) (fit_of hT.ok hall hy).1).fit hf31p) _) rfl ?_
     intro u44 hq
     replace Q1 := Q1.mo hq
     replace Q2 := Q2.mo hq
     replace M := M.trans hq
     clear hq
     refine wl_m (.tmp 63) (.int .i64 (cmpD y.b (saysD y0 y.a).d)) ?_
     refine w_nil (xn_then (w_seq (w_reg ?_)))
     refine wl_m (.tmp 11) (.int .i64 (cmpD y.b (saysD y0 y.a).d)) ?_
     cases hf32 : decide (cmpD y.b (saysD y0 y.a).d < 0) with
     | true =>
      have hf32p := of_decide_eq_true hf32
      refine wl_b .lss 3 (.tmp 64) (.const (.int .i64 (0))) (.int .i64 (cmpD y.b (saysD y0 y.a).d)) (.int .i64 (0)) (.bool true) (lt3 hf32 _ _ _) ?_
      refine wl_m (.tmp 65) (.bool true) ?_
      refine wl_skip rfl (wl_skip rfl (wl_skip rfl (wl_skip rfl (wl_skip rfl (wl_skip rfl ?_)))))
      refine wl_pick (.tmp 66) (.const (.bool true)) (.tmp 72) true (.bool true) (fun _ => rfl) rfl rfl rfl ?_
      refine w_nil (xn_then (w_condT rfl (w_reg ?_)))
      refine wl_m (.const (.bool false)) (.bool false) ?_
      refine w_nil (xn_blk (xn_then (w_reg ?_)))
      refine wl_mv (.tmp 8) (.int .i64 ((i : Nat) : Int)) (fun _ => rfl) e40_i rfl ?_
      refine wl_b .add 3 (.tmp 22) (.const (.int .i64 (1))) (.int .i64 ((i : Nat) : Int)) (.int .i64 (1)) (.int .i64 ((i + 1 : Nat) : Int)) (add1r (k := i) (by omega) _ _ _) ?_
      refine wl_m (.tmp 23) (.int .i64 ((i + 1 : Nat) : Int)) ?_
      refine w_nil ?_
      exact xn_loop (x.st.length - (i + 1)) (by omega) ⟨i + 1, rfl, by omega, e40_1, e40_2, rfl, Q1, (fun k e => by have h8 := pt_inj (show pt (kf41 16) 0 = pt k 0 from e); have := Q2.lt; omega), (ne_pre hne hin hy0 hy hf31p), (by rw [show i + 1 = i - 1 + 1 + 1 by omega, jB_n hy0 hyn, ← hie1, show upB false (cmpD y.b (saysD y0 y.a).d) = false from by unfold upB; simp [hf32p]]; simp; exact rfl), (MB.trans M)⟩
     | false =>
      have hf32p := of_decide_eq_false hf32
      refine wl_b .lss 3 (.tmp 64) (.const (.int .i64 (0))) (.int .i64 (cmpD y.b (saysD y0 y.a).d)) (.int .i64 (0)) (.bool false) (lt3 hf32 _ _ _) ?_
      refine wl_m (.tmp 65) (.bool false) ?_
      refine wl_mv (.tmp 1) (.bool false) (fun _ => rfl) e40_1 rfl ?_
      refine wl_un (fun v => Op.unary .not v) (.tmp 67) (.bool false) (.bool true) (fun _ => rfl) rfl (by kernel_rfl) rfl ?_
      refine wl_m (.tmp 68) (.bool true) ?_
      refine wl_m (.tmp 11) (.int .i64 (cmpD y.b (saysD y0 y.a).d)) ?_
      cases hf33 : decide (0 < cmpD y.b (saysD y0 y.a).d) with
      | true =>
       have hf33p := of_decide_eq_true hf33
       refine wl_b .gtr 3 (.tmp 70) (.const (.int .i64 (0))) (.int .i64 (cmpD y.b (saysD y0 y.a).d)) (.int .i64 (0)) (.bool true) (gt3 hf33 _ _ _) ?_
       refine wl_pick (.tmp 69) (.tmp 71) (.const (.bool false)) true (.bool true) (fun _ => rfl) rfl rfl rfl ?_
       refine wl_pick (.tmp 66) (.const (.bool true)) (.tmp 72) false (.bool true) (fun _ => rfl) rfl rfl rfl ?_
       refine w_nil (xn_then (w_condT rfl (w_reg ?_)))
       refine wl_m (.const (.bool false)) (.bool false) ?_
       refine w_nil (xn_blk (xn_then (w_reg ?_)))
       refine wl_mv (.tmp 8) (.int .i64 ((i : Nat) : Int)) (fun _ => rfl) e40_i rfl ?_
       refine wl_b .add 3 (.tmp 22) (.const (.int .i64 (1))) (.int .i64 ((i : Nat) : Int)) (.int .i64 (1)) (.int .i64 ((i + 1 : Nat) : Int)) (add1r (k := i) (by omega) _ _ _) ?_
       refine wl_m (.tmp 23) (.int .i64 ((i + 1 : Nat) : Int)) ?_
       refine w_nil ?_
       exact xn_loop (x.st.length - (i + 1)) (by omega) ⟨i + 1, rfl, by omega, e40_1, e40_2, rfl, Q1, (fun k e => by have h8 := pt_inj (show pt (kf41 16) 0 = pt k 0 from e); have := Q2.lt; omega), (ne_pre hne hin hy0 hy hf31p), (by rw [show i + 1 = i - 1 + 1 + 1 by omega, jB_n hy0 hyn, ← hie1, show upB false (cmpD y.b (saysD y0 y.a).d) = false from by unfold upB; simp [hf32p, hf33p]]; simp; exact rfl), (MB.trans M)⟩
      | false =>
       have hf33p := of_decide_eq_false hf33
       refine wl_b .gtr 3 (.tmp 70) (.const (.int .i64 (0))) (.int .i64 (cmpD y.b (saysD y0 y.a).d)) (.int .i64 (0)) (.bool false) (gt3 hf33 _ _ _) ?_
       refine wl_pick (.tmp 69) (.tmp 71) (.const (.bool false)) true (.bool false) (fun _ => rfl) rfl rfl rfl ?_
       refine wl_pick (.tmp 66) (.const (.bool true)) (.tmp 72) false (.bool false) (fun _ => rfl) rfl rfl rfl ?_
       refine w_nil (xn_then (w_condF rfl (w_skip (xn_blk (xn_then (w_reg ?_))))))
       refine wl_mv (.tmp 8) (.int .i64 ((i : Nat) : Int)) (fun _ => rfl) e40_i rfl ?_
       refine wl_b .add 3 (.tmp 22) (.const (.int .i64 (1))) (.int .i64 ((i : Nat) : Int)) (.int .i64 (1)) (.int .i64 ((i + 1 : Nat) : Int)) (add1r (k := i) (by omega) _ _ _) ?_
       refine wl_m (.tmp 23) (.int .i64 ((i + 1 : Nat) : Int)) ?_
       refine w_nil ?_
       exact xn_loop (x.st.length - (i + 1)) (by omega) ⟨i + 1, rfl, by omega, e40_1, e40_2, rfl, Q1, (fun k e => by have h8 := pt_inj (show pt (kf41 16) 0 = pt k 0 from e); have := Q2.lt; omega), (ne_pre hne hin hy0 hy hf31p), (by rw [show i + 1 = i - 1 + 1 + 1 by omega, jB_n hy0 hyn, ← hie1, show upB false (cmpD y.b (saysD y0 y.a).d) = true from by unfold upB; simp [hf32p, hf33p]]; simp; exact e7), (MB.trans M)⟩
    | false =>
     have hf31p := of_decide_eq_false hf31
     refine wl_b .neq 26 (.tmp 53) (.const (.int .i64 (0))) (.int .i64 ((saysD y0 y.a).e)) (.int .i64 (0)) (.bool true) (ne34 hf31 _ _ _) ?_
     refine w_nil (xn_then (w_condT rfl (w_seq (w_reg ?_))))
     refine wl_m (.tmp 10) (.int .i64 ((saysD y0 y.a).e)) ?_
     refine wl_m (.const (.bool false)) (.bool false) ?_
     refine wl_m (.tmp 55) (.int .i64 ((saysD y0 y.a).e)) ?_
     refine w_nil (xn_then (w_ret (xr_then (xr_blk (xr_then (xr_then (xr_blk (xr_then ?_))))))))
     exact w_ret2 _ _ (.bool false) (.int .i64 ((saysD y0 y.a).e)) rfl rfl rfl ⟨rs_ret (rs_no (by rw [(show rsE x.st = (saysD y0 y.a).e by unfold rsE; rw [if_pos hf0p, jE_at hy0 hyn hne hf31p])]; exact hf31p)).symm (show rsE x.st = (saysD y0 y.a).e by unfold rsE; rw [if_pos hf0p, jE_at hy0 hyn hne hf31p]).symm, MB.trans M⟩
  ·skip
   have hid : decide (i < x.st.length) = false := decide_eq_false hil
   have hie : i = x.st.length := by omega
   refine w_seq (w_seq (w_reg ?_))
   refine wl_mv (.tmp 8) (.int .i64 ((i : Nat) : Int)) (fun _ => rfl) e40_i rfl ?_
   refine wl_un (fun v => Instr.fieldAt 24 v 1) (.tmp 2) (pt k1 0) (pt k1 1) (fun _ => rfl) e40_2 (by kernel_rfl) rfl ?_
   refine wl_l 22 (.tmp 18) (pt k1 1) (.slice x.pa x.st.length x.cap) (run_one Q1 22 1 rfl Try.underlying22 rfl) ?_
   refine wl_val (.int .i64 ((x.st.length : Nat) : Int)) (len22 _ _ _ _ _ (by exact rfl) _ _ _ _ _ _) rfl ?_
   refine wl_b .lss 3 (.tmp 17) (.tmp 20) (.int .i64 ((i : Nat) : Int)) (.int .i64 ((x.st.length : Nat) : Int)) (.bool false) (ltN hid _ _ _) ?_
   refine w_nil (xn_then (w_condF rfl (w_exit (xx_then (xx_then (xx_blk (xn_then (w_seq (w_reg ?_)))))))))
   refine wl_mv (.tmp 7) (.bool ((jB false x.st i))) (fun _ => rfl) e7 rfl ?_
   refine wl_m (.tmp 74) (.bool ((jB false x.st i))) ?_
   refine wl_m (.const (.int .i64 (0))) (.int .i64 (0)) ?_
   refine w_nil (xn_then (w_ret ?_))
   exact w_ret2 _ _ (.bool ((jB false x.st i))) (.int .i64 (0)) rfl rfl rfl ⟨by have q0 : rsE x.st = 0 := (by unfold rsE; rw [if_pos hf0p]; exact jE_0 (fun j hj a c ha hc => hne j (by have := lt_of_get hc; omega) a c ha hc)); subst hie; exact rs_ret (jB_end q0) q0.symm, M⟩
 | false =>
  have hf0p := of_decide_eq_false hf0
  refine wl_b .neq 26 (.tmp 14) (.const (.int .i64 (0))) (.int .i64 (chkT x.st)) (.int .i64 (0)) (.bool true) (ne34 hf0 _ _ _) ?_
  refine w_nil (xn_then (w_condT rfl (w_seq (w_reg ?_))))
  refine wl_m (.tmp 6) (.int .i64 (chkT x.st)) ?_
  refine wl_m (.const (.bool false)) (.bool false) ?_
  refine wl_m (.tmp 16) (.int .i64 (chkT x.st)) ?_
  refine w_nil (xn_then (w_ret (xr_then ?_)))
  exact w_ret2 _ _ (.bool false) (.int .i64 (chkT x.st)) rfl rfl rfl ⟨rs_ret (rs_no (by rw [(show rsE x.st = chkT x.st by unfold rsE; rw [if_neg hf0p])]; exact hf0p)).symm (show rsE x.st = chkT x.st by unfold rsE; rw [if_neg hf0p]).symm, M⟩
end Go.Proofs.Ythehmmhnacomkaa
namespace Go.Proofs.Ythehmmhnacomkaa
open Go.RowKit D
theorem qris_n {x : Tb} (w : World) (hT : LT w x) : Calls Try.prog 20 #[.agg (x.cells).toArray] w fun e9 w' => e9 = .returned (.tuple #[.bool (rsB true x.st), .int .i64 (rsE x.st)]) ∧ Mo w w' := by
 refine w_enter 8 Try.func20 Try.ntmps20 rfl rfl ?_
 have M : Mo w w := Mo.refl _
 refine w_seq (w_reg ?_)
 refine wl_box 24 (.tmp 0) _ (((x.cells).toArray)) rfl rfl (fun _ => by kernel_rfl) rfl ?_
 intro k1 u1 hk hz hq Q1
 have N_k1 : w.heap.size ≤ k1 := by have := M.size; omega
 replace M := M.trans hq
 clear hk hz hq
 refine wl_m (.const (.bool false)) (.bool false) ?_
 refine wl_m (.const (.int .i64 (0))) (.int .i64 (0)) ?_
 refine w_nil (xn_then (w_seq (w_reg ?_)))
 refine wl_l 24 (.tmp 1) (pt k1 0) (.agg (x.cells).toArray) (run_row Q1 24 0 2 (x.cells) rfl Try.underlying24 rfl szT24) ?_
 refine wl_call 39 [(.tmp 4), (.const (.bool true))] _ [.agg (x.cells).toArray, .bool true] (.tuple #[.bool ((rsB true x.st)), .int .i64 (rsE x.st)]) rfl rfl (fun _ _ => by kernel_rfl) (joins_t _ (hT.mo M)) rfl ?_
 intro u2 hq
 replace Q1 := Q1.mo hq
 replace M := M.trans hq
 clear hq
 refine wl_un (fun v => Instr.extract v 0) (.tmp 5) (.tuple #[.bool ((rsB true x.st)), .int .i64 (rsE x.st)]) (.bool ((rsB true x.st))) (fun _ => rfl) rfl (by kernel_rfl) rfl ?_
 refine wl_un (fun v => Instr.extract v 1) (.tmp 5) (.tuple #[.bool ((rsB true x.st)), .int .i64 (rsE x.st)]) (.int .i64 (rsE x.st)) (fun _ => rfl) rfl (by kernel_rfl) rfl ?_
 refine wl_m (.tmp 6) (.bool ((rsB true x.st))) ?_
 refine wl_m (.tmp 7) (.int .i64 (rsE x.st)) ?_
 refine w_nil (xn_then (w_ret ?_))
 exact w_ret2 _ _ (.bool ((rsB true x.st))) (.int .i64 (rsE x.st)) rfl rfl rfl ⟨rfl, M⟩
theorem qjoi_n {x : Tb} (w : World) (hT : LT w x) : Calls Try.prog 22 #[.agg (x.cells).toArray] w fun e9 w' => e9 = .returned (.tuple #[.bool (rsB false x.st), .int .i64 (rsE x.st)]) ∧ Mo w w' := by
 refine w_enter 8 Try.func22 Try.ntmps22 rfl rfl ?_
 have M : Mo w w := Mo.refl _
 refine w_seq (w_reg ?_)
 refine wl_box 24 (.tmp 0) _ (((x.cells).toArray)) rfl rfl (fun _ => by kernel_rfl) rfl ?_
 intro k1 u1 hk hz hq Q1
 have N_k1 : w.heap.size ≤ k1 := by have := M.size; omega
 replace M := M.trans hq
 clear hk hz hq
 refine wl_m (.const (.bool false)) (.bool false) ?_
 refine wl_m (.const (.int .i64 (0))) (.int .i64 (0)) ?_
 refine w_nil (xn_then (w_seq (w_reg ?_)))
 refine wl_l 24 (.tmp 1) (pt k1 0) (.agg (x.cells).toArray) (run_row Q1 24 0 2 (x.cells) rfl Try.underlying24 rfl szT24) ?_
 refine wl_call 39 [(.tmp 4), (.const (.bool false))] _ [.agg (x.cells).toArray, .bool false] (.tuple #[.bool ((rsB false x.st)), .int .i64 (rsE x.st)]) rfl rfl (fun _ _ => by kernel_rfl) (joins_f _ (hT.mo M)) rfl ?_
 intro u2 hq
 replace Q1 := Q1.mo hq
 replace M := M.trans hq
 clear hq
 refine wl_un (fun v => Instr.extract v 0) (.tmp 5) (.tuple #[.bool ((rsB false x.st)), .int .i64 (rsE x.st)]) (.bool ((rsB false x.st))) (fun _ => rfl) rfl (by kernel_rfl) rfl ?_
 refine wl_un (fun v => Instr.extract v 1) (.tmp 5) (.tuple #[.bool ((rsB false x.st)), .int .i64 (rsE x.st)]) (.int .i64 (rsE x.st)) (fun _ => rfl) rfl (by kernel_rfl) rfl ?_
 refine wl_m (.tmp 6) (.bool ((rsB false x.st))) ?_
 refine wl_m (.tmp 7) (.int .i64 (rsE x.st)) ?_
 refine w_nil (xn_then (w_ret ?_))
 exact w_ret2 _ _ (.bool ((rsB false x.st))) (.int .i64 (rsE x.st)) rfl rfl rfl ⟨rfl, M⟩
theorem shapes_n {x : Tb} (w : World) (hX : LT w x) : Calls Try.prog 5 #[.agg (x.cells).toArray] w fun e9 w' => e9 = .returned (.bool true) ∧ Mo w w' := by
 refine w_enter 52 Try.func5 Try.ntmps5 rfl rfl ?_
 have M : Mo w w := Mo.refl _
 refine w_seq (w_reg ?_)
 refine wl_box 24 (.tmp 0) _ (((x.cells).toArray)) rfl rfl (fun _ => by kernel_rfl) rfl ?_
 intro k1 u1 hk hz hq Q1
 have N_k1 : w.heap.size ≤ k1 := by have := M.size; omega
 replace M := M.trans hq
 clear hk hz hq
 refine wl_m (.const (.bool false)) (.bool false) ?_
 refine w_nil (xn_then (w_seq (w_reg ?_)))
 refine wl_l 24 (.tmp 1) (pt k1 0) (.agg (x.cells).toArray) (run_row Q1 24 0 2 (x.cells) rfl Try.underlying24 rfl szT24) ?_
 refine wl_call 19 [(.tmp 12)] _ [.agg (x.cells).toArray] (.tuple #[.bool ((rsB true x.st)), .int .i64 (rsE x.st)]) rfl rfl (fun _ _ => by kernel_rfl) (pris_n _ (hX.mo M)) rfl ?_
 intro u2 hq
 replace Q1 := Q1.mo hq
 replace M := M.trans hq
 clear hq
 refine wl_m (.tmp 13) (.tuple #[.bool ((rsB true x.st)), .int .i64 (rsE x.st)]) ?_
 refine wl_un (fun v => Instr.extract v 0) (.tmp 11) (.tuple #[.bool ((rsB true x.st)), .int .i64 (rsE x.st)]) (.bool ((rsB true x.st))) (fun _ => rfl) rfl (by kernel_rfl) rfl ?_
 refine wl_un (fun v => Instr.extract v 1) (.tmp 11) (.tuple #[.bool ((rsB true x.st)), .int .i64 (rsE x.st)]) (.int .i64 (rsE x.st)) (fun _ => rfl) rfl (by kernel_rfl) rfl ?_
 refine wl_m (.tmp 14) (.bool ((rsB true x.st))) ?_
 refine wl_m (.tmp 15) (.int .i64 (rsE x.st)) ?_
 refine w_nil (xn_then (w_seq (w_reg ?_)))
 refine wl_l 24 (.tmp 1) (pt k1 0) (.agg (x.cells).toArray) (run_row Q1 24 0 2 (x.cells) rfl Try.underlying24 rfl szT24) ?_
 refine wl_call 20 [(.tmp 17)] _ [.agg (x.cells).toArray] (.tuple #[.bool ((rsB true x.st)), .int .i64 (rsE x.st)]) rfl rfl (fun _ _ => by kernel_rfl) (qris_n _ (hX.mo M)) rfl ?_
 intro u3 hq
 replace Q1 := Q1.mo hq
 replace M := M.trans hq
 clear hq
 refine wl_m (.tmp 18) (.tuple #[.bool ((rsB true x.st)), .int .i64 (rsE x.st)]) ?_
 refine wl_un (fun v => Instr.extract v 0) (.tmp 16) (.tuple #[.bool ((rsB true x.st)), .int .i64 (rsE x.st)]) (.bool ((rsB true x.st))) (fun _ => rfl) rfl (by kernel_rfl) rfl ?_
 refine wl_un (fun v => Instr.extract v 1) (.tmp 16) (.tuple #[.bool ((rsB true x.st)), .int .i64 (rsE x.st)]) (.int .i64 (rsE x.st)) (fun _ => rfl) rfl (by kernel_rfl) rfl ?_
 refine wl_m (.tmp 19) (.bool ((rsB true x.st))) ?_
 refine wl_m (.tmp 20) (.int .i64 (rsE x.st)) ?_
 refine w_nil (xn_then (w_seq (w_reg ?_)))
 refine wl_l 24 (.tmp 1) (pt k1 0) (.agg (x.cells).toArray) (run_row Q1 24 0 2 (x.cells) rfl Try.underlying24 rfl szT24) ?_
 refine wl_call 21 [(.tmp 22)] _ [.agg (x.cells).toArray] (.tuple #[.bool ((rsB false x.st)), .int .i64 (rsE x.st)]) rfl rfl (fun _ _ => by kernel_rfl) (pjoi_n _ (hX.mo M)) rfl ?_
 intro u4 hq
 replace Q1 := Q1.mo hq
 replace M := M.trans hq
 clear hq
 refine wl_m (.tmp 23) (.tuple #[.bool ((rsB false x.st)), .int .i64 (rsE x.st)]) ?_
 refine wl_un (fun v => Instr.extract v 0) (.tmp 21) (.tuple #[.bool ((rsB false x.st)), .int .i64 (rsE x.st)]) (.bool ((rsB false x.st))) (fun _ => rfl) rfl (by kernel_rfl) rfl ?_
 refine wl_un (fun v => Instr.extract v 1) (.tmp 21) (.tuple #[.bool ((rsB false x.st)), .int .i64 (rsE x.st)]) (.int .i64 (rsE x.st)) (fun _ => rfl) rfl (by kernel_rfl) rfl ?_
 refine wl_m (.tmp 24) (.bool ((rsB false x.st))) ?_
 refine wl_m (.tmp 25) (.int .i64 (rsE x.st)) ?_
 refine w_nil (xn_then (w_seq (w_reg ?_)))
 refine wl_l 24 (.tmp 1) (pt k1 0) (.agg (x.cells).toArray) (run_row Q1 24 0 2 (x.cells) rfl Try.underlying24 rfl szT24) ?_
 refine wl_call 22 [(.tmp 27)] _ [.agg (x.cells).toArray] (.tuple #[.bool ((rsB false x.st)), .int .i64 (rsE x.st)]) rfl rfl (fun _ _ => by kernel_rfl) (qjoi_n _ (hX.mo M)) rfl ?_
 intro u5 hq
 replace Q1 := Q1.mo hq
 replace M := M.trans hq
 clear hq
 refine wl_m (.tmp 28) (.tuple #[.bool ((rsB false x.st)), .int .i64 (rsE x.st)]) ?_
 refine wl_un (fun v => Instr.extract v 0) (.tmp 26) (.tuple #[.bool ((rsB false x.st)), .int .i64 (rsE x.st)]) (.bool ((rsB false x.st))) (fun _ => rfl) rfl (by kernel_rfl) rfl ?_
 refine wl_un (fun v => Instr.extract v 1) (.tmp 26) (.tuple #[.bool ((rsB false x.st)), .int .i64 (rsE x.st)]) (.int .i64 (rsE x.st)) (fun _ => rfl) rfl (by kernel_rfl) rfl ?_
 refine wl_m (.tmp 29) (.bool ((rsB false x.st))) ?_
 refine wl_m (.tmp 30) (.int .i64 (rsE x.st)) ?_
 refine w_nil (xn_then (w_seq (w_reg ?_)))
 refine wl_call 8 [] _ [] (.bool true) rfl rfl (fun _ _ => by kernel_rfl) (begun_n _) rfl ?_
 intro u6 hq
 replace Q1 := Q1.mo hq
 replace M := M.trans hq
 clear hq
 refine wl_m (.tmp 31) (.bool true) ?_
 refine wl_m (.tmp 3) (.bool ((rsB true x.st))) ?_
 refine wl_m (.tmp 5) (.bool ((rsB true x.st))) ?_
 refine wl_b .eql 4 (.tmp 33) (.tmp 34) (.bool ((rsB true x.st))) (.bool ((rsB true x.st))) (.bool true) (eq4b (r := true) (beq_self_eq_true _) _ _ _) ?_
 refine wl_pick (.tmp 32) (.tmp 35) (.const (.bool false)) true (.bool true) (fun _ => rfl) rfl rfl rfl ?_
 refine wl_m (.tmp 36) (.bool true) ?_
 refine wl_m (.tmp 4) (.int .i64 (rsE x.st)) ?_
 refine wl_m (.tmp 6) (.int .i64 (rsE x.st)) ?_
 refine wl_b .eql 26 (.tmp 38) (.tmp 39) (.int .i64 (rsE x.st)) (.int .i64 (rsE x.st)) (.bool true) (eq34 (r := true) (decide_eq_true rfl) _ _ _) ?_
 refine wl_pick (.tmp 37) (.tmp 40) (.const (.bool false)) true (.bool true) (fun _ => rfl) rfl rfl rfl ?_
 refine wl_m (.tmp 41) (.bool true) ?_
 refine wl_m (.tmp 7) (.bool ((rsB false x.st))) ?_
 refine wl_m (.tmp 9) (.bool ((rsB false x.st))) ?_
 refine wl_b .eql 4 (.tmp 43) (.tmp 44) (.bool ((rsB false x.st))) (.bool ((rsB false x.st))) (.bool true) (eq4b (r := true) (beq_self_eq_true _) _ _ _) ?_
 refine wl_pick (.tmp 42) (.tmp 45) (.const (.bool false)) true (.bool true) (fun _ => rfl) rfl rfl rfl ?_
 refine wl_m (.tmp 46) (.bool true) ?_
 refine wl_m (.tmp 8) (.int .i64 (rsE x.st)) ?_
 refine wl_m (.tmp 10) (.int .i64 (rsE x.st)) ?_
 refine wl_b .eql 26 (.tmp 48) (.tmp 49) (.int .i64 (rsE x.st)) (.int .i64 (rsE x.st)) (.bool true) (eq34 (r := true) (decide_eq_true rfl) _ _ _) ?_
 refine wl_pick (.tmp 47) (.tmp 50) (.const (.bool false)) true (.bool true) (fun _ => rfl) rfl rfl rfl ?_
 refine wl_m (.tmp 51) (.bool true) ?_
 refine w_nil (xn_then (w_ret ?_))
 exact w_ret1 _ _ rfl rfl ⟨rfl, M⟩
end Go.Proofs.Ythehmmhnacomkaa
