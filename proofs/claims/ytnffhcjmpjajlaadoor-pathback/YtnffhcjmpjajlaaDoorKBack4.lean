/-
  A part of the proof.
-/
import Derived.Test.YtnffhcjmpjajlaaDoorKBack3
import Derived.Test.YtnffhcjmpjajlaaDoorKBack2
import Derived.Test.YtnffhcjmpjajlaaDoorKBack1
import Derived.Test.YtnffhcjmpjajlaaDoorKa15
import Derived.Test.YtnffhcjmpjajlaaDoorKa13
import Derived.Test.YtnffhcjmpjajlaaDoorKa11
import Derived.Test.YtnffhcjmpjajlaaDoorKa10
import Derived.Test.YtnffhcjmpjajlaaDoorKa6
import Derived.Test.YtnffhcjmpjajlaaDoorKa5
import Derived.Test.YtnffhcjmpjajlaaDoorKa4
import Derived.Test.YtnffhcjmpjajlaaDoorKa3
import Derived.Test.YtnffhcjmpjajlaaDoorKa2
import Derived.Test.YtnffhcjmpjajlaaDoorKa1
import Derived.RegionTactic
import Derived.Test.YtnffhcjmpjajlaaDoorProg
import Derived.WalkKit
import Derived.WalkSpells
import Derived.Handy
import Derived.BigQuiet
import Derived.Deep.RegionHeld3
import Derived.Deep.MidRow
import Derived.BigCall
import Derived.ChangeKeysEq
import Derived.Shelf.Small.Bits
import Derived.Shelf.Strconv.Itoa0
import Derived.Shelf.Bits.Mul64
import Derived.Deep.CutRange
import Derived.Deep.CutBlock
import Derived.ScopeJumps
import Derived.WalkMore
import Derived.Laws.StructEq
import Derived.Lib.CutLaws
import Derived.Maps.OwnSet
import Derived.WalkArith
import Derived.StringKeys
import Derived.ProofKit
import Derived.OpenShut
import Derived.ChangeArms
import Derived.Deep.Slices
import Derived.ReadAgain
import Derived.WideKeyArgs
import Derived.Maps.AppendAt
import Derived.Test.YtnffhcjmpjajlaaDoorKa9
import Derived.Test.YtnffhcjmpjajlaaDoorKa7
import Derived.Shelf.Strconv.Itoa4
import Derived.Test.YtnffhcjmpjajlaaDoorKa8
import Derived.Lib.IndexBytes
import Derived.Lib.AppendIntMem
import Derived.Lib.ItoaLen
import Derived.Laws.MakeOwn
import Derived.Test.YtnffhcjmpjajlaaDoorKa12
import Derived.Test.YtnffhcjmpjajlaaDoorKa14
namespace Go.Proofs.YtnffhcjmpjajlaaDoor
open Go.RowKit D
structure GA (w0 w : World) (lb gb : Nat) (pa : Option Addr) (cap : Nat) (acc : List S5) : Prop where
 mo : Mo w0 w
 la : At w lb [.slice pa acc.length cap]
 ga : At w gb [.func (.func 72) #[] #[pt lb 0, pt gb 0]]
 ow : w.ownsRow w0.heap.size 65 5 (.slice pa acc.length cap) acc.length (acc.flatMap S5.cells)
 ap : ∀ k, (Value.slice pa acc.length cap).ownBlock = some k → k ≠ lb ∧ k ≠ gb
def fk (s : Se) (acc : List S5) (p dp : Int) (i : Nat) : List S5 := (s.kids.take i).foldl (fun a k => flt k a acc.length (dp + 1)) (acc ++ [⟨p, dp, s.nm, s.mx, s.pi, s.ci, s.items⟩])
theorem fk_s {s : Se} {acc : List S5} {p dp : Int} {i : Nat} {k : Se} (h : s.kids[i]? = some k) : fk s acc p dp (i + 1) = flt k (fk s acc p dp i) acc.length (dp + 1) := by
 unfold fk; rw [List.take_add_one, h, List.foldl_append]; rfl
theorem fk_len {s : Se} {acc : List S5} {p dp : Int} (h : acc.length < 64) : ∀ i, (fk s acc p dp i).length ≤ 64
 | 0 => by unfold fk; simp; omega
 | i + 1 => by
  cases hk : s.kids[i]? with
  | none =>
   have := fk_len (s := s) (p := p) (dp := dp) h i
   unfold fk at this ⊢
   rw [List.take_add_one, hk]; simpa using this
  | some k => rw [fk_s hk]; exact flt_len _ _ _ _ (fk_len h i)
theorem gather_n {w0 : World} {lb gb : Nat} (ne_lb_gb : lb ≠ gb) (N_lb : w0.heap.size ≤ lb) : ∀ (s : Se), LSe w0 s → ∀ (acc : List S5) (p dp : Int) (pa : Option Addr) (cap : Nat) (w : World), GA w0 w lb gb pa cap acc → acc.length ≤ 64 → 0 ≤ dp → dp ≤ 100 → Calls Tryd.prog 72 #[.agg (s.cells).toArray, .int .i64 p, .int .i64 dp, pt lb 0, pt gb 0] w fun e w' => e = .returned (.tuple #[]) ∧ ∃ pa' cap', GA w0 w' lb gb pa' cap' (flt s acc p dp) := by
 refine Se.ind2 ?_
 intro s ih hL acc p dp pa cap w hG ha hd0 hd1
 refine w_enter 46 Tryd.func72 Tryd.ntmps72 rfl rfl ?_
 have M := hG.mo
 have QL := hG.la
 have QG := hG.ga
 have hown := hG.ow
 have on_lb : (Value.slice pa acc.length cap).ownBlock ≠ some lb := fun e => (hG.ap lb e).1 rfl
 have on_gb : (Value.slice pa acc.length cap).ownBlock ≠ some gb := fun e => (hG.ap gb e).2 rfl
 refine w_seq (w_reg ?_)
 refine wl_box 45 (.tmp 0) _ (((s.cells).toArray)) rfl rfl (fun _ => by kernel_rfl) rfl ?_
 intro k1 w1 hk hz hq Q1
 have ne_lb_k1 : lb ≠ k1 := by have := QL.lt; omega
 have ne_gb_k1 : gb ≠ k1 := by have := QG.lt; omega
 have on_k1 : (Value.slice pa acc.length cap).ownBlock ≠ some k1 := fun e => by have := (hown.lt _ e).2; omega
 have N_k1 : w0.heap.size ≤ k1 := by have := M.size; omega
 replace hown := own_mo hown hq
 replace QL := QL.mo hq
 replace QG := QG.mo hq
 replace M := M.trans hq
 clear hk hz hq
 refine w_nil (xn_then (w_seq (w_seq (w_reg ?_))))
 refine wl_l 22 (.tmp 3) (pt lb 0) (.slice pa acc.length cap) (run_one QL 22 0 rfl Tryd.underlying22 rfl) ?_
 refine wl_val (.int .i64 ((acc.length : Nat) : Int)) (len22 _ _ _ _ _ (by exact rfl) _ _ _ _ _ _) rfl ?_
 cases hf0 : decide (((acc.length : Nat) : Int) = 64) with
 | true =>
  have hf0p := of_decide_eq_true hf0
  refine wl_b .eql 3 (.tmp 12) (.const (.int .i64 (64))) (.int .i64 ((acc.length : Nat) : Int)) (.int .i64 (64)) (.bool true) (eq3 hf0 _ _ _) ?_
  refine wl_m (.tmp 13) (.bool true) ?_
  refine wl_skip rfl (wl_skip rfl ?_)
  refine wl_pick (.tmp 14) (.const (.bool true)) (.tmp 16) true (.bool true) (fun _ => rfl) rfl rfl rfl ?_
  refine w_nil (xn_then (w_condT rfl (w_ret (xr_then ?_))))
  exact w_ret0 rfl ⟨rfl, by rw [flt_eq, if_pos (by omega)]; exact ⟨_, _, ⟨M, QL, QG, hown, hG.ap⟩⟩⟩
 | false =>
  have hf0p := of_decide_eq_false hf0
  refine wl_b .eql 3 (.tmp 12) (.const (.int .i64 (64))) (.int .i64 ((acc.length : Nat) : Int)) (.int .i64 (64)) (.bool false) (eq3 hf0 _ _ _) ?_
  refine wl_m (.tmp 13) (.bool false) ?_
  refine wl_m (.tmp 2) (.int .i64 (dp)) ?_
  cases hf1 : decide (16 < dp) with
  | true =>
   have hf1p := of_decide_eq_true hf1
   refine wl_b .gtr 3 (.tmp 15) (.const (.int .i64 (16))) (.int .i64 (dp)) (.int .i64 (16)) (.bool true) (gt3 hf1 _ _ _) ?_
   refine wl_pick (.tmp 14) (.const (.bool true)) (.tmp 16) false (.bool true) (fun _ => rfl) rfl rfl rfl ?_
   refine w_nil (xn_then (w_condT rfl (w_ret (xr_then ?_))))
   exact w_ret0 rfl ⟨rfl, by rw [flt_eq, if_pos (by omega)]; exact ⟨_, _, ⟨M, QL, QG, hown, hG.ap⟩⟩⟩
  | false =>
   have hf1p := of_decide_eq_false hf1
   refine wl_b .gtr 3 (.tmp 15) (.const (.int .i64 (16))) (.int .i64 (dp)) (.int .i64 (16)) (.bool false) (gt3 hf1 _ _ _) ?_
   refine wl_pick (.tmp 14) (.const (.bool true)) (.tmp 16) false (.bool false) (fun _ => rfl) rfl rfl rfl ?_
   refine w_nil (xn_then (w_condF rfl (w_skip (xn_then (w_seq (w_reg ?_))))))
   refine wl_l 22 (.tmp 3) (pt lb 0) (.slice pa acc.length cap) (run_one QL 22 0 rfl Tryd.underlying22 rfl) ?_
   refine wl_val (.int .i64 ((acc.length : Nat) : Int)) (len22 _ _ _ _ _ (by exact rfl) _ _ _ _ _ _) rfl ?_
   refine wl_m (.tmp 19) (.int .i64 ((acc.length : Nat) : Int)) ?_
   refine w_nil (xn_then (w_seq (w_reg ?_)))
   refine wl_l 22 (.tmp 3) (pt lb 0) (.slice pa acc.length cap) (run_one QL 22 0 rfl Tryd.underlying22 rfl) ?_
   refine wl_m (.tmp 1) (.int .i64 (p)) ?_
   refine wl_m (.tmp 2) (.int .i64 (dp)) ?_
   refine wl_f 45 0 (.tmp 5) (pt k1 0) (pt k1 0) ?_
   refine wl_l 9 (.tmp 23) (pt k1 0) (.string s.nm) (run_one Q1 9 0 rfl Tryd.underlying9 rfl) ?_
   refine wl_f 45 1 (.tmp 5) (pt k1 0) (pt k1 1) ?_
   refine wl_l 3 (.tmp 25) (pt k1 1) (.int .i64 (s.mx)) (run_one Q1 3 1 rfl Tryd.underlying3 rfl) ?_
   refine wl_f 45 2 (.tmp 5) (pt k1 0) (pt k1 2) ?_
   refine wl_l 42 (.tmp 27) (pt k1 2) (.slice s.pi s.items.length s.ci) (run_one Q1 42 2 rfl Tryd.underlying42 rfl) ?_
   refine wl_build 65 [(0, (.tmp 21)), (1, (.tmp 22)), (2, (.tmp 24)), (3, (.tmp 26)), (4, (.tmp 28))] [(0, .int .i64 (p)), (1, .int .i64 (dp)), (2, .string s.nm), (3, .int .i64 (s.mx)), (4, .slice s.pi s.items.length s.ci)] (.agg #[.int .i64 (p), .int .i64 (dp), .string s.nm, .int .i64 (s.mx), .slice s.pi s.items.length s.ci]) rfl rfl (by kernel_rfl) rfl ?_
   refine wl_bs 22 1 [(0, (.tmp 29))] [(0, .agg #[.int .i64 (p), .int .i64 (dp), .string s.nm, .int .i64 (s.mx), .slice s.pi s.items.length s.ci])] #[.int .i64 (p), .int .i64 (dp), .string s.nm, .int .i64 (s.mx), .slice s.pi s.items.length s.ci] 65 rfl rfl (fun _ => by kernel_rfl) rfl ?_
   intro k2 w2 hk hz hq Q2
   have ne_lb_k2 : lb ≠ k2 := by have := QL.lt; omega
   have ne_gb_k2 : gb ≠ k2 := by have := QG.lt; omega
   have ne_k1_k2 : k1 ≠ k2 := by have := Q1.lt; omega
   have N_k2 : w0.heap.size ≤ k2 := by have := M.size; omega
   have on_k2 : (Value.slice pa acc.length cap).ownBlock ≠ some k2 := fun e => by have := (own_lt hown e).1; omega
   replace hown := own_mo hown hq
   replace QL := QL.mo hq
   replace QG := QG.mo hq
   replace Q1 := Q1.mo hq
   replace M := M.trans hq
   clear hk hz hq
   have hal : acc.length < 64 := by omega
   have lt_lb := QL.lt
   have lt_gb := QG.lt
   have lt_k1 := Q1.lt
   have lt_k2 := Q2.lt
   refine wl_app Tryd.underlying22 inf65 rfl (by decide) (.tmp 20) (.tmp 30) w0.heap.size (.slice pa acc.length cap) acc.length (acc.flatMap S5.cells) k2 1 1 (⟨p, dp, s.nm, s.mx, s.pi, s.ci, s.items⟩ : S5).cells rfl rfl rfl hown rfl Q2 (fun u hu => by simp only [S5.cells, List.mem_cons, List.not_mem_nil, or_false] at hu; rcases hu with rfl | rfl | rfl | rfl | rfl <;> rfl) (by decide) (by unfold maxLen; omega) (by omega) M.size rfl ?_
   intro v9 w3 hOw hm9 hbk
   have hlt9 := fun k e => own_lt hown (k := k) e
   replace M := hm9.mo M (fun k e => (hlt9 k e).2)
   replace QL := hm9.at QL on_lb
   replace QG := hm9.at QG on_gb
   replace Q1 := hm9.at Q1 on_k1
   replace Q2 := hm9.at Q2 on_k2
   obtain ⟨pa1, cap1, rfl, _⟩ := own_form hOw
   replace hOw : w3.ownsRow w0.heap.size 65 5 (.slice pa1 (acc ++ [(⟨p, dp, s.nm, s.mx, s.pi, s.ci, s.items⟩ : S5)]).length cap1) (acc ++ [(⟨p, dp, s.nm, s.mx, s.pi, s.ci, s.items⟩ : S5)]).length ((acc ++ [(⟨p, dp, s.nm, s.mx, s.pi, s.ci, s.items⟩ : S5)]).flatMap S5.cells) := by simpa using hOw
   have hb1 : (Value.slice pa1 (acc ++ [(⟨p, dp, s.nm, s.mx, s.pi, s.ci, s.items⟩ : S5)]).length cap1).ownBlock = (Value.slice pa acc.length cap).ownBlock ∨ (Value.slice pa1 (acc ++ [(⟨p, dp, s.nm, s.mx, s.pi, s.ci, s.items⟩ : S5)]).length cap1).ownBlock = some w2.heap.size := by cases pa1 <;> exact hbk
   replace on_lb : (Value.slice pa1 (acc ++ [(⟨p, dp, s.nm, s.mx, s.pi, s.ci, s.items⟩ : S5)]).length cap1).ownBlock ≠ some lb := fun e => by rcases hb1 with h | h; exact on_lb (h.symm.trans e); have h8 := Option.some.inj (h.symm.trans e); have := lt_lb; omega
   replace on_gb : (Value.slice pa1 (acc ++ [(⟨p, dp, s.nm, s.mx, s.pi, s.ci, s.items⟩ : S5)]).length cap1).ownBlock ≠ some gb := fun e => by rcases hb1 with h | h; exact on_gb (h.symm.trans e); have h8 := Option.some.inj (h.symm.trans e); have := lt_gb; omega
   replace on_k1 : (Value.slice pa1 (acc ++ [(⟨p, dp, s.nm, s.mx, s.pi, s.ci, s.items⟩ : S5)]).length cap1).ownBlock ≠ some k1 := fun e => by rcases hb1 with h | h; exact on_k1 (h.symm.trans e); have h8 := Option.some.inj (h.symm.trans e); have := lt_k1; omega
   replace on_k2 : (Value.slice pa1 (acc ++ [(⟨p, dp, s.nm, s.mx, s.pi, s.ci, s.items⟩ : S5)]).length cap1).ownBlock ≠ some k2 := fun e => by rcases hb1 with h | h; exact on_k2 (h.symm.trans e); have h8 := Option.some.inj (h.symm.trans e); have := lt_k2; omega
   clear hown hlt9 hbk hb1 hm9
   have hown := hOw
   rw [show acc.length + 1 = (acc ++ [(⟨p, dp, s.nm, s.mx, s.pi, s.ci, s.items⟩ : S5)]).length by simp]
   refine wl_stm1 22 (.tmp 3) (.tmp 31) lb 0 (.slice pa1 (acc ++ [(⟨p, dp, s.nm, s.mx, s.pi, s.ci, s.items⟩ : S5)]).length cap1) [.slice pa acc.length cap] [.slice pa1 (acc ++ [(⟨p, dp, s.nm, s.mx, s.pi, s.ci, s.items⟩ : S5)]).length cap1] QL rfl rfl rfl rfl rfl sz22 rfl rfl rfl rfl ?_
   intro w4 hS hm9 Qn
   replace QL := Qn
   clear Qn
   replace QG := hS.other _ _ ne_lb_gb.symm QG
   replace Q1 := hS.other _ _ ne_lb_k1.symm Q1
   replace Q2 := hS.other _ _ ne_lb_k2.symm Q2
   replace hown := own_mk hown hm9 (fun k e h => on_lb (by rw [e, h]))
   replace M := hS.mo _ N_lb M
   clear hS hm9
   refine w_nil (xn_then (w_seq (w_reg ?_)))
   refine wl_f 45 3 (.tmp 5) (pt k1 0) (pt k1 3) ?_
   refine wl_l 43 (.tmp 32) (pt k1 3) (.slice s.pk s.kids.length s.ck) (run_one Q1 43 3 rfl Tryd.underlying43 rfl) ?_
   refine wl_val (.int .i64 ((s.kids.length : Nat) : Int)) (len43 _ _ _ _ _ (by exact rfl) _ _ _ _ _ _) rfl ?_
   refine wl_m (.const (.int .i64 (0))) (.int .i64 (0)) ?_
   refine w_nil (xn_then (w_block ?_))
   have hcond : ¬ (64 ≤ acc.length ∨ 16 < dp) := by omega
   have hG1 : GA w0 w4 lb gb pa1 cap1 (acc ++ [(⟨p, dp, s.nm, s.mx, s.pi, s.ci, s.items⟩ : S5)]) := ⟨M, QL, QG, hown, fun k e => ⟨fun h => on_lb (by rw [← h]; exact e), fun h => on_gb (by rw [← h]; exact e)⟩⟩
   have hzk := hL.kd.1
   unfold maxLen at hzk
   refine w_loop (fun m l w1 => ∃ i : Nat, m = s.kids.length - i ∧ i ≤ s.kids.length ∧ look l 0 = .agg (s.cells).toArray ∧ look l 1 = .int .i64 (p) ∧ look l 2 = .int .i64 (dp) ∧ look l 3 = pt lb 0 ∧ look l 4 = pt gb 0 ∧ look l 8 = .int .i64 ((acc.length : Nat) : Int) ∧ look l 33 = .slice s.pk s.kids.length s.ck ∧ look l 34 = .int .i64 ((s.kids.length : Nat) : Int) ∧ look l 35 = .int .i64 ((i : Nat) : Int) ∧ ∃ pa cap, GA w0 w1 lb gb pa cap (fk s acc p dp i)) _ ⟨0, rfl, Nat.zero_le _, rfl, rfl, rfl, rfl, rfl, rfl, rfl, rfl, rfl, ⟨_, _, hG1⟩⟩ ?_
   clear QL QG Q1 Q2 M
   rintro m l40 wl40 ⟨i, rfl, hi, e40_0, e40_1, e40_2, e40_3, e40_4, e40_8, e40_33, e40_34, e40_i, hE⟩
   by_cases hil : i < s.kids.length
   ·skip
    have hid : decide (i < s.kids.length) = true := decide_eq_true hil
    obtain ⟨pa2, cap2, hG2⟩ := hE
    have M := hG2.mo
    have QL := hG2.la
    have QG := hG2.ga
    have hown := hG2.ow
    have on_lb : (Value.slice pa2 (fk s acc p dp i).length cap2).ownBlock ≠ some lb := fun e => (hG2.ap lb e).1 rfl
    have on_gb : (Value.slice pa2 (fk s acc p dp i).length cap2).ownBlock ≠ some gb := fun e => (hG2.ap gb e).2 rfl
    obtain ⟨k, hk⟩ := get_of_lt hil
    obtain ⟨b1, o1, hp1, hR1⟩ := D.SL.rw hL.kd hk
    refine w_seq (w_reg ?_)
    refine wl_bin (fun x y => do eqGuard .lss 3 (.tmp 35) (.tmp 34) x y; binOp .lss 3 x y) (.tmp 35) (.tmp 34) (.int .i64 ((i : Nat) : Int)) (.int .i64 ((s.kids.length : Nat) : Int)) (.bool true) (fun _ => rfl) e40_i e40_34 (ltN hid _ _ _) rfl ?_
    refine w_nil (xn_then (w_seq (w_condT rfl (w_skip (xn_then (w_seq (w_block (w_seq (w_reg ?_)))))))))
    refine wl_bin (fun x y => Instr.indexAt 43 x y) (.tmp 33) (.tmp 35) (.slice s.pk s.kids.length s.ck) (.int .i64 ((i : Nat) : Int)) (pt b1 (o1 + i * 4)) (fun _ => rfl) e40_33 e40_i (ix43 (i := i) hp1 hil _) rfl ?_
    refine wl_l 45 (.tmp 37) (pt b1 (o1 + i * 4)) (.agg (k.cells).toArray) (D.run_partR (hR1.mo M).at' 45 0 4 (k.cells) rfl Tryd.underlying45 rfl sz45) ?_
    refine wl_alloc 45 #[.string ⟨#[]⟩, .int .i64 0, .slice none 0 0, .slice none 0 0] rfl (fun _ => by kernel_rfl) rfl ?_
    intro k3 w41 hk hz hq Q3
    have ne_lb_k3 : lb ≠ k3 := by have := QL.lt; omega
    have ne_gb_k3 : gb ≠ k3 := by have := QG.lt; omega
    have on_k3 : (Value.slice pa2 (fk s acc p dp i).length cap2).ownBlock ≠ some k3 := fun e => by have := (hown.lt _ e).2; omega
    have N_k3 : w0.heap.size ≤ k3 := by have := M.size; omega
    replace hown := own_mo hown hq
    replace QL := QL.mo hq
    replace QG := QG.mo hq
    replace M := M.trans hq
    clear hk hz hq
    refine wl_stm 45 (.tmp 10) (.tmp 38) k3 0 ((k.cells).toArray) [.string ⟨#[]⟩, .int .i64 0, .slice none 0 0, .slice none 0 0] (k.cells) Q3 rfl rfl rfl rfl rfl sz45 rfl rfl rfl ?_
    intro w42 hS hm9 Qn
    replace Q3 := Qn
    clear Qn
    replace QL := hS.other _ _ ne_lb_k3 QL
    replace QG := hS.other _ _ ne_gb_k3 QG
    replace hown := own_mk hown hm9 (fun k e h => on_k3 (by rw [e, h]))
    replace M := hS.mo _ N_k3 M
    clear hS hm9
    refine w_nil (xn_then (w_reg ?_))
    refine wl_load 134 (.tmp 4) (pt gb 0) (.func (.func 72) #[] #[pt lb 0, pt gb 0]) rfl e40_4 (run_one QG 134 0 rfl Tryd.underlying134 rfl) rfl ?_
    refine wl_l 45 (.tmp 10) (pt k3 0) (.agg (k.cells).toArray) (run_row Q3 45 0 4 (k.cells) rfl Tryd.underlying45 rfl sz45) ?_
    refine wl_mv (.tmp 8) (.int .i64 ((acc.length : Nat) : Int)) (fun _ => rfl) e40_8 rfl ?_
    refine wl_mv (.tmp 2) (.int .i64 (dp)) (fun _ => rfl) e40_2 rfl ?_
    refine wl_b .add 3 (.tmp 42) (.const (.int .i64 (1))) (.int .i64 (dp)) (.int .i64 (1)) (.int .i64 (dp + 1)) (add1i (k := dp) (by omega) (by omega) _ _ _) ?_
    have hG3 : GA w0 w42 lb gb pa2 cap2 (fk s acc p dp i) := ⟨M, QL, QG, hown, hG2.ap⟩
    refine wl_callv 72 (.tmp 39) #[] #[pt lb 0, pt gb 0] [(.tmp 40), (.tmp 41), (.tmp 43)] _ [.agg (k.cells).toArray, .int .i64 ((acc.length : Nat) : Int), .int .i64 (dp + 1)] [.agg (k.cells).toArray, .int .i64 ((acc.length : Nat) : Int), .int .i64 (dp + 1), pt lb 0, pt gb 0] rfl rfl rfl rfl (fun _ _ => by kernel_rfl) (ih k (List.mem_of_getElem? hk) (hL.kr k (List.mem_of_getElem? hk)) (fk s acc p dp i) _ _ pa2 cap2 _ hG3 (fk_len (by omega) i) (by omega) (by omega)) rfl ?_
    rintro e9 w43 ⟨rfl, hE2⟩
    refine ⟨_, rfl, ?_⟩
    refine w_nil (xn_blk (xn_then (w_reg ?_)))
    refine wl_bin (fun x y => do eqGuard .add 3 (.tmp 35) (.const (.int .i64 (1))) x y; binOp .add 3 x y) (.tmp 35) (.const (.int .i64 (1))) (.int .i64 ((i : Nat) : Int)) (.int .i64 (1)) (.int .i64 ((i + 1 : Nat) : Int)) (fun _ => rfl) e40_i rfl (add1r (k := i) (by omega) _ _ _) rfl ?_
    refine wl_m (.tmp 45) (.int .i64 ((i + 1 : Nat) : Int)) ?_
    refine w_nil ?_
    exact xn_loop (s.kids.length - (i + 1)) (by omega) ⟨i + 1, rfl, by omega, e40_0, e40_1, e40_2, e40_3, e40_4, e40_8, e40_33, e40_34, rfl, by rw [fk_s hk]; exact hE2⟩
   ·skip
    have hid : decide (i < s.kids.length) = false := decide_eq_false hil
    have hie : i = s.kids.length := by omega
    refine w_seq (w_reg ?_)
    refine wl_bin (fun x y => do eqGuard .lss 3 (.tmp 35) (.tmp 34) x y; binOp .lss 3 x y) (.tmp 35) (.tmp 34) (.int .i64 ((i : Nat) : Int)) (.int .i64 ((s.kids.length : Nat) : Int)) (.bool false) (fun _ => rfl) e40_i e40_34 (ltN hid _ _ _) rfl ?_
    refine w_nil (xn_then (w_seq (w_condF rfl (w_exit (xx_then (xx_then (xx_blk ?_)))))))
    exact w_end0 rfl ⟨rfl, by obtain ⟨pa2, cap2, h⟩ := hE; rw [flt_eq, if_neg hcond]; rw [hie] at h; unfold fk at h; rw [List.take_length] at h; exact ⟨_, _, h⟩⟩
end Go.Proofs.YtnffhcjmpjajlaaDoor

namespace Go.Proofs.YtnffhcjmpjajlaaDoor
open Go.RowKit

def spQ (sp : List (Value → World → Prop)) (j : Nat) : Value → World → Prop := (sp[j]?).getD (fun _ _ => True)
def Smo (p : Value → World → Prop) : Prop := ∀ u w w', p u w → Mo w w' → p u w'
def Smos (sp : List (Value → World → Prop)) : Prop := ∀ j, Smo (spQ sp j)
theorem smos_nil : Smos [] := fun _ _ _ _ _ _ => trivial
theorem smos_cons {p : Value → World → Prop} {sp : List (Value → World → Prop)} (h : Smo p) (hs : Smos sp) : Smos (p :: sp) := fun j => by
 cases j with
 | zero => exact h
 | succ j => have := hs j; unfold spQ at this ⊢; simpa using this
def vq (v : Value) : Value → World → Prop := fun u _ => u = v
theorem smo_vq (v : Value) : Smo (vq v) := fun _ _ _ h _ => h
section
variable {P : Program} {n : Nat} {l : List (Nat × Value)} {w : World} {Q : Exit → Act → World → Prop}
structure OgC (P : Program) (ops : List Oper) (Q : Exit → Act → World → Prop) (n : Nat) (l : List (Nat × Value)) (m : Nat) (G : World → Prop) (sp : List (Value → World → Prop)) (i : Nat) (o : Oper) : Prop where
 out : ∀ f w, G w → (∀ j, depb o j = true → spQ sp j (f j) w) → ∀ K : Act → World → Prop,
  (∀ v w', G w' → spQ sp i v w' → (∀ j u, j ≠ i → spQ sp j u w → spQ sp j u w') → K (fr n (ext (asg f 0 (ops.take m) l) o.dst v)) w') →
  Go1 P ops Q n (asg f 0 (ops.take m) l) w K o
def LateC (P : Program) (ops : List Oper) (Q : Exit → Act → World → Prop) (n : Nat) (l : List (Nat × Value)) (m : Nat) (sp : List (Value → World → Prop)) (i : Nat) : Prop :=
 ∃ o v, ops[i]? = some o ∧ spQ sp i = vq v ∧ (∀ u c a w, Q (.panic c) (a.put o.dst u) w → Q (.panic c) a w) ∧
  ∀ f, (∀ j, depb o j = true → ∀ u, spQ sp j = vq u → f j = u) → wnt n (asg f 0 (ops.take m) l) ops.toArray o = true ∧ ∀ w, (execOp (evl n (asg f 0 (ops.take m) l)) o).run P w = .ok (.value v) w
theorem a_ogc {ops : List Oper} (m : Nat) (G : World → Prop) (sp : List (Value → World → Prop)) (fs : List Nat) 
    (hb : edgesBack .any ops.toArray = true) (hd : dstsApart (ops.take m) = true) (hc : chainB ops m fs = true) (hl : Nat.ble m ops.length = true) (hf : floatB ops m fs = true) (hns : Region.noSelect ops.toArray = true)
    (hlate : ∀ i, i ∈ fs → LateC P ops Q n l m sp i) (hG : G w.drew) (hs : Each (OgC P ops Q n l m G sp) 0 (ops.take m))
    (hend : ∀ f w', G w' → (∀ i, Nat.blt i m = true → spQ sp i (f i) w') → WL P ops.toArray Q (ops.drop m) n (asg f 0 (ops.take m) l) w') : wpAny P .any ops.toArray Q ops.toArray.size (Array.replicate ops.toArray.size false) (fr n l) w.drew := by
  have hml : m ≤ ops.length := Nat.le_of_ble_eq_true hl
  have hfm : ∀ i, i ∈ fs → i < m := fun i hi => by
    have := List.all_eq_true.1 hf i hi
    simp only [Bool.and_eq_true] at this
    rw [Nat.blt_eq] at this; exact this.1
  have hfs : ∀ j, m ≤ j → fs.contains j = false := fun j hj => by
    cases e : fs.contains j with
    | false => rfl
    | true => have := hfm j (by simpa using e); omega
  -- all that are not late have come up: the late ones first, then the last part
  have second : ∀ (d fuel : Nat) (listed : Array Bool) (f : Nat → Value) (w : World), listed.toList.count false = (ops.length - m) + d → (ops.length - m) + d ≤ fuel → listed.size = ops.length → Shut ops listed → (∀ j, m ≤ j → j < ops.length → listed.getD j true = false) →
      (∀ j, j < m → fs.contains j = false → listed.getD j true = true) → G w → (∀ i, i < m → listed.getD i false = true → spQ sp i (f i) w) → wpAny P .any ops.toArray Q fuel listed (putAll f 0 (ops.take m) (fr n l)) w := by
    intro d
    induction d with
    | zero =>
      intro fuel listed f w hcnt hfu hz hsh hun hall hW hR
      have hall2 : ∀ j, j < m → listed.getD j true = true := fun j hj => by
        cases e : listed.getD j true with
        | true => rfl
        | false =>
          exfalso
          have h1 : (listed.toList.drop m).count false = ops.length - m := by
            have h2 : listed.toList.drop m = List.replicate (ops.length - m) false := by
              apply List.ext_getElem
              · simp [hz]
              · intro j h3 h4
                simp at h3
                have := hun (m + j) (by omega) (by omega)
                have h5 : m + j < listed.size := by omega
                simpa [h5] using this
            rw [h2]; simp
          have h3 := List.take_append_drop m listed.toList
          have h4 : 0 < (listed.toList.take m).count false := by
            apply List.count_pos_iff.2
            have hjs : j < listed.size := by omega
            simp [hjs] at e
            rw [List.mem_iff_getElem]
            exact ⟨j, by simp; omega, by simp [e]⟩
          rw [← h3, List.count_append] at hcnt
          omega
      refine wpAny_chain hfs hc hb (ops.length - m) m _ listed _ w (by omega) (Nat.le_refl _) (by omega) hz hsh (fun j hj => ?_) ?_
      · rcases Nat.lt_or_ge j m with h | h
        · rw [hall2 j h]; simp [h]
        · rw [hun j h hj]; simp [Nat.not_lt.2 h]
      · rw [putAll_fr]
        exact (hend f w hW (fun i hi => by
          have hi' : i < m := by rw [Nat.blt_eq] at hi; exact hi
          refine hR i hi' ?_
          have h1 := hall2 i hi'
          have h2 : i < listed.size := by omega
          simpa [h2] using h1)).out
    | succ d ih =>
      intro fuel listed f w hcnt hfu hz hsh hun hall hW hR
      -- a late one that has not come up: the first
      have hex : ∃ i, i < m ∧ listed.getD i true = false := by
        apply Classical.byContradiction
        intro hno
        have hall2 : ∀ j, j < m → listed.getD j true = true := fun j hj => by
          cases e : listed.getD j true with
          | true => rfl
          | false => exact absurd ⟨j, hj, e⟩ hno
        have h3 := List.take_append_drop m listed.toList
        have h4 : (listed.toList.take m).count false = 0 := by
          rw [List.count_eq_zero]
          intro hmem
          rw [List.mem_iff_getElem] at hmem
          obtain ⟨j, hj, e⟩ := hmem
          simp at hj e
          have hj1 : j < m := by omega
          have hj2 : j < listed.size := by omega
          have := hall2 j hj1
          simp [hj2] at this
          rw [this] at e; cases e
        have h5 : (listed.toList.drop m).count false ≤ ops.length - m := by
          have := List.count_le_length (a := false) (l := listed.toList.drop m)
          simp [hz] at this; exact this
        rw [← h3, List.count_append] at hcnt
        omega
      obtain ⟨i, ⟨him, hiu⟩, hmin⟩ := exists_least0 hex
      have hif : i ∈ fs := by
        cases e : fs.contains i with
        | true => simpa using e
        | false => have := hall i him e; rw [hiu] at this; cases this
      obtain ⟨o, v, ho, hv, hQ, hy⟩ := hlate i hif
      have hdep : ∀ e ∈ o.after, Region.binds .any e = true → listed.getD e.on false = true := fun e he hbd => by
        have hlt := edgesBack_spec hb (i := i) (o := o) (by simpa using ho) e he hbd
        have h1 : listed.getD e.on true = true := by
          cases ee : listed.getD e.on true with
          | true => rfl
          | false => have := hmin e.on ⟨by omega, ee⟩; omega
        have h2 : e.on < listed.size := by omega
        simpa [h2] using h1
      have hval : ∀ j, depb o j = true → ∀ u, spQ sp j = vq u → f j = u := fun j hj u hu => by
        obtain ⟨e, he, hb'⟩ := List.any_eq_true.1 hj
        simp only [Bool.and_eq_true] at hb'
        have heon := Nat.eq_of_beq_eq_true hb'.2
        have hj' := hdep e (by simpa using he) hb'.1
        have hlt := edgesBack_spec hb (i := i) (o := o) (by simpa using ho) e (by simpa using he) hb'.1
        rw [heon] at hj' hlt
        have := hR j (by omega) hj'
        rw [hu] at this
        exact this
      obtain ⟨hw1, hw2⟩ := hy f hval
      cases fuel with
      | zero => omega
      | succ fuel =>
        refine wpAny_first (i := i) (oi := o) (v := v) (by simpa using ho) (Region.noSelect_spec hns) (hQ v) fuel listed _ w ?_ ?_ ?_ ?_
        · intro j oj hoj hji hju hno
          have hjl : j < ops.length := by have := (Array.getElem?_eq_some_iff.1 hoj).1; simpa using this
          have h1 := List.all_eq_true.1 hf i hif
          simp only [Bool.and_eq_true, ho] at h1
          have h2 := List.all_eq_true.1 h1.2 j (List.mem_range.2 hjl)
          have hoj' : ops[j]? = some oj := by simpa using hoj
          simp only [hoj', Bool.or_eq_true, Bool.and_eq_true, Bool.not_eq_true'] at h2
          rcases h2 with (h2 | h2) | h2 | h2
          · exact absurd (Nat.eq_of_beq_eq_true h2) hji
          · have := hall j (by have := h2.1; rw [Nat.blt_eq] at this; exact this) h2.2
            rw [this] at hju; cases hju
          · obtain ⟨e, he, hb'⟩ := List.any_eq_true.1 h2
            simp only [Bool.and_eq_true] at hb'
            exact absurd (Nat.eq_of_beq_eq_true hb'.2) (hno e (by simpa using he) hb'.1)
          · exact h2
        · exact mem_ready.2 ⟨hiu, o, by simpa using ho, hdep⟩
        · rw [putAll_fr]
          exact Or.inl ⟨by rw [fr_wanted]; exact hw1, fun w => by rw [fr_eval]; exact hw2 w⟩
        · have hot : (ops.take m)[i]? = some o := by rw [List.getElem?_take_of_lt him]; exact ho
          have hp := putAll_put v (ops.take m) 0 f (fr n l) hd i o hot
          rw [Nat.zero_add] at hp
          rw [hp]
          have h1 : listed.toList[i]? = some false := by
            have h' : i < listed.size := by omega
            simp [h'] at hiu; simp [h', hiu]
          have hcs := count_set _ _ h1
          refine ih fuel _ (upd f i v) w ?_ (by omega) (by simpa using hz) (hsh.step ho hdep) (fun j h1 h2 => ?_) (fun j h1 h2 => ?_) hW (fun j hj hlj => ?_)
          · simp only [Array.toList_setIfInBounds]; omega
          · rw [getD_set_ne true (by omega)]; exact hun j h1 h2
          · have hij : i ≠ j := by intro e; subst e; have : fs.contains i = true := by simpa using hif
                                   rw [this] at h2; cases h2
            rw [getD_set_ne true hij]; exact hall j h1 h2
          · by_cases e : j = i
            · subst e; rw [hv]; simp [upd, vq]
            · rw [getD_set_ne false (Ne.symm e)] at hlj
              have := hR j hj hlj
              simpa [upd, e] using this
  have main : ∀ (fuel : Nat) (listed : Array Bool) (f : Nat → Value) (w : World), listed.toList.count false ≤ fuel → listed.size = ops.length → Shut ops listed → (∀ j, m ≤ j → j < ops.length → listed.getD j true = false) →
      G w → (∀ i, i < m → listed.getD i false = true → spQ sp i (f i) w) → wpAny P .any ops.toArray Q fuel listed (putAll f 0 (ops.take m) (fr n l)) w := by
    intro fuel
    induction fuel with
    | zero =>
      intro listed f w hcnt hz hsh hun hW hR
      refine wpAny_chain hfs hc hb (ops.length - m) m 0 listed _ w (by omega) (Nat.le_refl _) ?_ hz hsh ?_ ?_
      · rcases Nat.lt_or_ge m ops.length with h | h
        · exfalso
          have h1 := hun m (Nat.le_refl _) h
          have h2 : m < listed.size := by omega
          have : false ∈ listed.toList := by simp [h2] at h1; rw [← h1]; simp
          have := List.count_pos_iff.2 this
          omega
        · omega
      · intro j hj
        have h2 : j < listed.size := by omega
        have h3 : listed.getD j true = true := by
          cases e : listed.getD j true with
          | true => rfl
          | false =>
            have : false ∈ listed.toList := by simp [h2] at e; rw [← e]; simp
            have := List.count_pos_iff.2 this
            omega
        rcases Nat.lt_or_ge j m with h | h
        · rw [h3]; simp [h]
        · rw [hun j h hj] at h3; cases h3
      · rw [putAll_fr]
        refine (hend f w hW (fun i hi => hR i (by rw [Nat.blt_eq] at hi; exact hi) ?_)).out
        have hi' : i < m := by rw [Nat.blt_eq] at hi; exact hi
        have h2 : i < listed.size := by omega
        cases e : listed.getD i false with
        | true => rfl
        | false =>
          have : false ∈ listed.toList := by simp [h2] at e; rw [← e]; simp
          have := List.count_pos_iff.2 this
          omega
    | succ fuel ih =>
      intro listed f w hcnt hz hsh hun hW hR
      by_cases hall : ∀ j, j < m → fs.contains j = false → listed.getD j true = true
      · have hge : ops.length - m ≤ listed.toList.count false := by
          have h1 : (listed.toList.drop m).count false = ops.length - m := by
            have h2 : listed.toList.drop m = List.replicate (ops.length - m) false := by
              apply List.ext_getElem
              · simp [hz]
              · intro j h3 h4
                simp at h3
                have := hun (m + j) (by omega) (by omega)
                have h5 : m + j < listed.size := by omega
                simpa [h5] using this
            rw [h2]; simp
          have h3 := List.take_append_drop m listed.toList
          rw [← h3, List.count_append]
          omega
        exact second (listed.toList.count false - (ops.length - m)) _ listed f w (by omega) (by omega) hz hsh hun hall hW hR
      · obtain ⟨u, hum, huf, hu⟩ : ∃ u, u < m ∧ fs.contains u = false ∧ listed.getD u true = false := by
          rcases Classical.not_forall.1 hall with ⟨u, h⟩
          rcases Classical.not_imp.1 h with ⟨h1, h2⟩
          rcases Classical.not_imp.1 h2 with ⟨h3, h4⟩
          exact ⟨u, h1, h3, by cases e : listed.getD u true with | true => exact absurd e h4 | false => rfl⟩
        have hne : Region.ready .any ops.toArray listed ≠ [] := fun hr => by
          have := all_listed hb hr u (by simp; omega)
          rw [hu] at this; cases this
        refine ⟨fun h0 => absurd h0 hne, fun i hi => ?_⟩
        obtain ⟨h0, o, ho, hdep⟩ := mem_ready.1 hi
        have hoi : ops[i]? = some o := by simpa using ho
        have hilt : i < ops.length := (List.getElem?_eq_some_iff.1 hoi).1
        have him : i < m := by
          rcases Nat.lt_or_ge i m with h | h
          · exact h
          · exfalso
            have h1 := chainB_spec hc hsh hoi h hdep u (by omega) huf
            have h2 : u < listed.size := by omega
            simp [h2] at h1 hu
            rw [h1] at hu; cases hu
        have hot : (ops.take m)[i]? = some o := by rw [List.getElem?_take_of_lt him]; exact hoi
        have hstep := Each.spec (ops.take m) 0 hs i o hot
        rw [Nat.zero_add] at hstep
        have hcount : ((listed.setIfInBounds i true).toList.count false) ≤ fuel := by
          have h1 : listed.toList[i]? = some false := by
            have h' : i < listed.size := by omega
            simp [h'] at h0; simp [h', h0]
          have := count_set _ _ h1
          simp only [Array.toList_setIfInBounds]
          omega
        have hun' : ∀ j, m ≤ j → j < ops.length → (listed.setIfInBounds i true).getD j true = false := fun j h1 h2 => by
          rw [getD_set_ne true (by omega)]; exact hun j h1 h2
        have next : ∀ v w', G w' → spQ sp i v w' → (∀ j u, j ≠ i → spQ sp j u w → spQ sp j u w') → wpAny P .any ops.toArray Q fuel (listed.setIfInBounds i true) (putAll (upd f i v) 0 (ops.take m) (fr n l)) w' := fun v w' hg hden hot' => by
          refine ih _ _ w' hcount (by simpa using hz) (hsh.step hoi hdep) hun' hg (fun j hj hlj => ?_)
          by_cases e : j = i
          · subst e; simpa [upd] using hden
          · rw [getD_set_ne false (Ne.symm e)] at hlj
            have := hot' j (f j) e (hR j hj hlj)
            simpa [upd, e] using this
        have put : ∀ v, fr n (ext (asg f 0 (ops.take m) l) o.dst v) = putAll (upd f i v) 0 (ops.take m) (fr n l) := fun v => by
          have := putAll_put v (ops.take m) 0 f (fr n l) hd i o hot
          rw [Nat.zero_add] at this
          rw [← this, putAll_fr, fr_put]
        refine wpOp_step ho (fun K hK => ?_)
        rw [putAll_fr, fr_wanted]
        have hh := (hstep.out f w hW (fun j hj => by
          obtain ⟨e, he, hb'⟩ := List.any_eq_true.1 hj
          simp only [Bool.and_eq_true] at hb'
          have heon := Nat.eq_of_beq_eq_true hb'.2
          have hj' := hdep e (by simpa using he) hb'.1
          have hlt := edgesBack_spec hb ho e (by simpa using he) hb'.1
          rw [heon] at hj' hlt
          exact hR j (by omega) hj') K (fun v w' h1 h2 h3 => by rw [put]; exact hK _ _ (next v w' h1 h2 h3))).out
        rw [fr_put]
        rcases hh with ⟨h1, h2⟩ | ⟨h1, h2⟩
        · rw [h1]; exact h2.out
        · rw [h1]; exact h2
  have h0 : putAll (slots (fr n l) (ops.take m).toArray) 0 (ops.take m) (fr n l) = fr n l := putAll_self _ _ 0 _ (fun i o ho t ht => by simp only [Nat.zero_add, slots]; rw [show (ops.take m).toArray[i]? = some o by simpa using ho]; simp [ht])
  have := main ops.length (Array.replicate ops.length false) (slots (fr n l) (ops.take m).toArray) w.drew (by simp) (by simp) (Shut.start _ _) (fun j _ hj => by simp [hj]) hG (fun i _ hi => by
    exfalso
    rcases Nat.lt_or_ge i ops.length with h' | h' <;> simp [h'] at hi)
  rw [h0] at this
  simpa using this
theorem w_ogc {id : Nat} {ops : List Oper} (m : Nat) (G : World → Prop) (sp : List (Value → World → Prop)) (fs : List Nat) (hm : P.follows .mixedOrders = true)
  (hb : edgesBack .any ops.toArray = true) (hd : dstsApart (ops.take m) = true) (hc : chainB ops m fs = true) (hl : Nat.ble m ops.length = true) (hf : floatB ops m fs = true) (hns : Region.noSelect ops.toArray = true)
  (hlate : ∀ i, i ∈ fs → LateC P ops Q n l m sp i) (hG : G w.drew) (hs : Each (OgC P ops Q n l m G sp) 0 (ops.take m))
  (hend : ∀ f w', G w' → (∀ i, Nat.blt i m = true → spQ sp i (f i) w') → WL P ops.toArray Q (ops.drop m) n (asg f 0 (ops.take m) l) w') : WC P (Code.region id ops.toArray true) Q n l w :=
 ⟨wp_region_any hm (a_ogc m G sp fs hb hd hc hl hf hns hlate hG hs hend)⟩
theorem latec_nil {ops : List Oper} {m : Nat} {sp : List (Value → World → Prop)} : ∀ i, i ∈ ([] : List Nat) → LateC P ops Q n l m sp i := fun _ h => by cases h
variable {o : Oper}
theorem oc_eq {ol : List Oper} {m : Nat} {G : World → Prop} {sp : List (Value → World → Prop)} {i : Nat} (v : Value) (hs : spQ sp i = vq v) (hg : ∀ w w', G w → Mo w w' → G w') (hm : Smos sp)
  (h : ∀ f w, G w → (∀ j, depb o j = true → spQ sp j (f j) w) → ∀ K : Act → World → Prop, (∀ w', Mo w w' → K (fr n (ext (asg f 0 (ol.take m) l) o.dst v)) w') → Go1 P ol Q n (asg f 0 (ol.take m) l) w K o) : OgC P ol Q n l m G sp i o :=
 ⟨fun f w hG hd K hK => h f w hG hd K (fun w' hmo => hK v w' (hg w w' hG hmo) (by rw [hs]; rfl) (fun j u _ hr => hm j u w w' hr hmo))⟩
end
end Go.Proofs.YtnffhcjmpjajlaaDoor

namespace Go.Proofs.YtnffhcjmpjajlaaDoor
open Go.RowKit D
theorem foldl_inv {I : List S5 → Prop} {f : List S5 → Se → List S5} : ∀ (l : List Se) (b : List S5), I b → (∀ k ∈ l, ∀ a, I a → I (f a k)) → I (l.foldl f b)
 | [], _, h, _ => h
 | x :: l, b, h, hs => by rw [List.foldl_cons]; exact foldl_inv l _ (hs x (List.mem_cons_self ..) b h) (fun k hk => hs k (List.mem_cons_of_mem _ hk))
theorem flt_ls {W : World} : ∀ (s : Se), LSe W s → ∀ (acc : List S5) (p dp : Int), (∀ x ∈ acc, LS5 W x) → ∀ x ∈ flt s acc p dp, LS5 W x := by
 refine Se.ind2 ?_
 intro s ih hL acc p dp ha
 rw [flt_eq]
 split
 ·exact ha
 ·refine foldl_inv (I := fun a => ∀ x ∈ a, LS5 W x) s.kids _ (fun x hx => ?_) (fun k hk a hA => ih k hk (hL.kr k hk) a _ _ hA)
  rcases List.mem_append.1 hx with h | h
  ·exact ha x h
  ·rw [List.mem_singleton.1 h]; exact ⟨hL.it, hL.ex⟩
theorem Wf.snoc {L : List S5} (h : Wf L) {x : S5} (h1 : x.pr < L.length) (h2 : -1 ≤ x.pr) (h3 : 0 < L.length → 0 ≤ x.pr) : Wf (L ++ [x]) := fun i y hy => by
 rcases Nat.lt_or_ge i L.length with q | q
 ·rw [List.getElem?_append_left q] at hy; exact h i y hy
 ·have hi : i = L.length := by have := lt_of_get hy; simp at this; omega
  subst hi
  simp at hy
  subst hy
  exact ⟨h1, h2, h3⟩
theorem flt_wf : ∀ (s : Se) (acc : List S5) (p dp : Int), Wf acc → p < acc.length → -1 ≤ p → (0 < acc.length → 0 ≤ p) → Wf (flt s acc p dp) ∧ acc.length ≤ (flt s acc p dp).length := by
 refine Se.ind2 ?_
 intro s ih acc p dp hw h1 h2 h3
 rw [flt_eq]
 split
 ·exact ⟨hw, Nat.le_refl _⟩
 ·have h0 : Wf (acc ++ [(⟨p, dp, s.nm, s.mx, s.pi, s.ci, s.items⟩ : S5)]) ∧ acc.length < (acc ++ [(⟨p, dp, s.nm, s.mx, s.pi, s.ci, s.items⟩ : S5)]).length := ⟨hw.snoc h1 h2 h3, by simp⟩
  have := foldl_inv (I := fun a => Wf a ∧ acc.length < a.length) (f := fun a k => flt k a acc.length (dp + 1)) s.kids _ h0 (fun k hk a hA => by
   have := ih k hk a acc.length (dp + 1) hA.1 (by omega) (by omega) (fun _ => by omega)
   exact ⟨this.1, by omega⟩)
  exact ⟨this.1, by omega⟩
def fla (d : Df) : List S5 := flt d.rt [] (-1) 1
theorem fla_len (d : Df) : (fla d).length ≤ 64 := flt_len _ _ _ _ (by simp)
theorem Wf.nil : Wf [] := fun i x h => by simp at h
theorem fla_wf (d : Df) : Wf (fla d) := (flt_wf d.rt [] (-1) 1 Wf.nil (by simp) (by omega) (fun h => by simp at h)).1
theorem fla_pos (d : Df) : 0 < (fla d).length := by
 unfold fla
 rw [flt_eq, if_neg (by simp)]
 refine foldl_inv (I := fun a => Wf a ∧ 0 < a.length) d.rt.kids _ ⟨Wf.nil.snoc (by simp) (by simp) (fun h => by simp at h), by simp⟩ (fun k _ a hA => ?_) |>.2
 have := flt_wf k a ([] : List S5).length (1 + 1) hA.1 (by simpa using hA.2) (by simp) (fun _ => by simp)
 exact ⟨this.1, by omega⟩
theorem stI_00 (L : List S5) : stI L 0 0 = fun _ => [] := by
 funext j; unfold stI
 rw [if_neg (Nat.not_lt_zero _)]
 split <;> rfl
theorem stK_00 (L : List S5) : stK L 0 = fun _ => [] := rfl
/-! What newChecker lays. -/
structure NW (wA w : World) (kc : Nat) (MI : List Nat) (ip : Option Addr) (ic : Nat) (KI : List Nat) (kp : Option Addr) (kk : Nat) : Prop where
 mo : Mo wA w
 ri : w.ownsRow wA.heap.size 108 1 (.slice ip MI.length ic) MI.length (MI.flatMap mpc)
 rk : w.ownsRow wA.heap.size 108 1 (.slice kp KI.length kk) KI.length (KI.flatMap mpc)
 oi : (Value.slice ip MI.length ic).ownBlock ≠ some kc
 ok : (Value.slice kp KI.length kk).ownBlock ≠ some kc
 ik : ∀ j, (Value.slice ip MI.length ic).ownBlock = some j → (Value.slice kp KI.length kk).ownBlock ≠ some j
 om : ∀ b ∈ MI ++ KI, OM w b [] ∧ wA.heap.size ≤ b
 nd : (MI ++ KI).Nodup
section
variable {wA w w' : World} {kc : Nat} {MI KI : List Nat} {ip kp : Option Addr} {ic kk : Nat}
theorem NW.mv (h : NW wA w kc MI ip ic KI kp kk) (m : Mo w w') : NW wA w' kc MI ip ic KI kp kk :=
 ⟨h.mo.trans m, own_mo h.ri m, own_mo h.rk m, h.oi, h.ok, h.ik, fun b hb => ⟨(h.om b hb).1.mo m, (h.om b hb).2⟩, h.nd⟩
theorem NW.st (h : NW wA w kc MI ip ic KI kp kk) (m : Mk (fun j => j = kc) w w') (hk : wA.heap.size ≤ kc) {v : Value} {vs : List Value} (hA : At w kc (v :: vs)) : NW wA w' kc MI ip ic KI kp kk :=
 ⟨m.mo h.mo (fun k e => by rw [e]; exact hk), own_mk h.ri m (fun k e q => h.oi (by rw [e, q])), own_mk h.rk m (fun k e q => h.ok (by rw [e, q])), h.oi, h.ok, h.ik, fun b hb => ⟨(h.om b hb).1.mk m (fun e => by
  have h1 := (h.om b hb).1.nocell 0
  have h2 := hA.1 0 v rfl
  rw [e] at h1
  rw [h1] at h2
  cases h2), (h.om b hb).2⟩, h.nd⟩
theorem own_om {e sz : Nat} {v : Value} {n N g : Nat} {xs : List Value} (h : w.ownsRow N e sz v n xs) (hg : v.ownBlock = some g) {al : List (ByteArray × Int)} (hO : OM w g al) : False := by
 obtain ⟨D0, ⟨es, clock, hb, _⟩, _⟩ := hO
 rcases h.2 with ⟨rfl, rfl⟩ | ⟨g', cap, cur, rfl, _, hb', _⟩
 ·cases hg
 ·cases hg
  rw [hb] at hb'
  cases hb'
theorem nodup_snoc {MI KI : List Nat} {b : Nat} (h : (MI ++ KI).Nodup) (hb : b ∉ MI ++ KI) : (MI ++ [b] ++ KI).Nodup := by
 have : (MI ++ [b] ++ KI).Perm (b :: (MI ++ KI)) := by rw [List.append_assoc]; exact List.perm_middle
 exact this.nodup_iff.2 (List.nodup_cons.2 ⟨hb, h⟩)
theorem nodup_snoc2 {MI KI : List Nat} {b : Nat} (h : (MI ++ KI).Nodup) (hb : b ∉ MI ++ KI) : (MI ++ (KI ++ [b])).Nodup := by
 have : (MI ++ (KI ++ [b])).Perm (b :: (MI ++ KI)) := by rw [← List.append_assoc]; exact List.perm_append_comm
 exact this.nodup_iff.2 (List.nodup_cons.2 ⟨hb, h⟩)
theorem NW.appI (h : NW wA w kc MI ip ic KI kp kk) {b : Nat} (hO : OM w b []) (hb : b ∉ MI ++ KI) (hbA : wA.heap.size ≤ b) (hkc : kc < w.heap.size) {v : Value} (hOw : w'.ownsRow wA.heap.size 108 1 v (MI.length + 1) (MI.flatMap mpc ++ [.map (some b)])) (m : Mk (fun j => (Value.slice ip MI.length ic).ownBlock = some j) w w') (hbk : v.ownBlock = (Value.slice ip MI.length ic).ownBlock ∨ v.ownBlock = some w.heap.size) :
  ∃ ip1 ic1, v = .slice ip1 (MI ++ [b]).length ic1 ∧ NW wA w' kc (MI ++ [b]) ip1 ic1 KI kp kk := by
 obtain ⟨ip1, ic1, rfl, _⟩ := own_form hOw
 have e : MI.length + 1 = (MI ++ [b]).length := by simp
 rw [e] at hOw hbk
 refine ⟨ip1, ic1, by rw [e], m.mo h.mo (fun k q => (own_lt h.ri q).2), by simpa using hOw, own_mk h.rk m (fun k q1 q2 => h.ik k q2 q1), fun q => ?_, h.ok, fun j q1 q2 => ?_, fun c hc => ?_, nodup_snoc h.nd hb⟩
 ·rcases hbk with r | r
  ·exact h.oi (r.symm.trans q)
  ·have := Option.some.inj (r.symm.trans q); omega
 ·rcases hbk with r | r
  ·exact h.ik j (r.symm.trans q1) q2
  ·have := Option.some.inj (r.symm.trans q1); have := (own_lt h.rk q2).1; omega
 ·have hc2 : c = b ∨ c ∈ MI ++ KI := by simp at hc ⊢; rcases hc with q | q | q <;> simp [q]
  rcases hc2 with rfl | q
  ·exact ⟨hO.mk m (fun q => own_om h.ri q hO), hbA⟩
  ·exact ⟨(h.om c q).1.mk m (fun r => own_om h.ri r (h.om c q).1), (h.om c q).2⟩
theorem NW.appK (h : NW wA w kc MI ip ic KI kp kk) {b : Nat} (hO : OM w b []) (hb : b ∉ MI ++ KI) (hbA : wA.heap.size ≤ b) (hkc : kc < w.heap.size) {v : Value} (hOw : w'.ownsRow wA.heap.size 108 1 v (KI.length + 1) (KI.flatMap mpc ++ [.map (some b)])) (m : Mk (fun j => (Value.slice kp KI.length kk).ownBlock = some j) w w') (hbk : v.ownBlock = (Value.slice kp KI.length kk).ownBlock ∨ v.ownBlock = some w.heap.size) :
  ∃ kp1 kk1, v = .slice kp1 (KI ++ [b]).length kk1 ∧ NW wA w' kc MI ip ic (KI ++ [b]) kp1 kk1 := by
 obtain ⟨kp1, kk1, rfl, _⟩ := own_form hOw
 have e : KI.length + 1 = (KI ++ [b]).length := by simp
 rw [e] at hOw hbk
 refine ⟨kp1, kk1, by rw [e], m.mo h.mo (fun k q => (own_lt h.rk q).2), own_mk h.ri m (fun k q1 q2 => h.ik k q1 q2), by simpa using hOw, h.oi, fun q => ?_, fun j q1 q2 => ?_, fun c hc => ?_, nodup_snoc2 h.nd hb⟩
 ·rcases hbk with r | r
  ·exact h.ok (r.symm.trans q)
  ·have := Option.some.inj (r.symm.trans q); omega
 ·rcases hbk with r | r
  ·exact h.ik j q1 (r.symm.trans q2)
  ·have := Option.some.inj (r.symm.trans q2); have := (own_lt h.ri q1).1; omega
 ·have hc2 : c = b ∨ c ∈ MI ++ KI := by simp at hc ⊢; rcases hc with q | q | q <;> simp [q]
  rcases hc2 with rfl | q
  ·exact ⟨hO.mk m (fun q => own_om h.rk q hO), hbA⟩
  ·exact ⟨(h.om c q).1.mk m (fun r => own_om h.rk r (h.om c q).1), (h.om c q).2⟩
theorem NW.new (wA : World) (kc : Nat) {w : World} (m : Mo wA w) : NW wA w kc [] none 0 [] none 0 :=
 ⟨m, ⟨rfl, Or.inl ⟨rfl, rfl⟩⟩, ⟨rfl, Or.inl ⟨rfl, rfl⟩⟩, by simp [Value.ownBlock], by simp [Value.ownBlock], fun j q => by simp [Value.ownBlock] at q, fun b hb => by simp at hb, by simp⟩
end
section
variable {P : Program} {o : Oper} {n : Nat} {l : List (Nat × Value)} {w : World} {Q : Exit → Act → World → Prop} {K : Act → World → Prop}
theorem wo_callx (g : FuncId) (xs : List Operand) (ats : Array TypeId) (args : List Value) {F : Ending → World → Prop} (ho : o.op = .call { callee := .value (.func g), args := xs.toArray, argTypes := ats }) (hx : xs.map (evl n l) = args)
  (h : ∀ args w, (callFunc g args).run P w = .ok (.enter g args) w)
  (hc : Calls P g args.toArray w F) (hk : ∀ v w', F v w' → ∃ u, v = .returned u ∧ K (fr n (ext l o.dst u)) w') : WO P o n l w K Q := by
 have e : (execOp (evl n l) o).run P w = .ok (.enter g args.toArray) w := by
  obtain ⟨dst, op, ty, pos, after, guard⟩ := o
  simp only at ho
  subst ho hx
  have e2 := execOp_call_go (fr n l) dst g xs.toArray ats ty pos after guard
  rw [fr_eval] at e2
  rw [e2, h]
  simp
 refine ⟨?_⟩
 unfold Oper.wp; rw [fr_eval, e, Oper.upon_enter]
 refine hc.mono ?_
 intro e w' hF
 obtain ⟨u, rfl, hW⟩ := hk e w' hF
 show K _ _
 rw [fr_put]
 exact hW
theorem wo_mm (t : TypeId) (ho : o.op = .makeMap t none)
  (hk : ∀ b w', w.heap.size = b → w'.heap.size = b + 1 → Mo w w' → OM w' b [] → K (fr n (ext l o.dst (.map (some b)))) w') : WO Tryd.prog o n l w K Q := by
 refine ⟨o_val (.map (some w.heap.size)) (w' := w.alloc (.map #[] 0)) ?_ (hk _ _ rfl (by simp) (Mo.allocm w) (OM.new w))⟩
 simp [execOp, ho, mm_run]
end
end Go.Proofs.YtnffhcjmpjajlaaDoor

namespace Go.Proofs.YtnffhcjmpjajlaaDoor
open Go.RowKit D
theorem flat_n (s : Se) {w : World} (hL : LSe w s) : Calls Tryd.prog 57 #[.agg (s.cells).toArray] w fun e w' => ∃ pa cap, e = .returned (.slice pa (flt s [] (-1) 1).length cap) ∧ Mo w w' ∧ w'.ownsRow w.heap.size 65 5 (.slice pa (flt s [] (-1) 1).length cap) (flt s [] (-1) 1).length ((flt s [] (-1) 1).flatMap S5.cells) := by
 refine w_enter 10 Tryd.func57 Tryd.ntmps57 rfl rfl ?_
 have M : Mo w w := Mo.refl _
 refine w_seq (w_reg ?_)
 refine wl_box 45 (.tmp 0) _ (((s.cells).toArray)) rfl rfl (fun _ => by kernel_rfl) rfl ?_
 intro k1 w1 hk hz hq Q1
 have N_k1 : w.heap.size ≤ k1 := by have := M.size; omega
 replace M := M.trans hq
 clear hk hz hq
 refine wl_m (.const (.slice none 0 0)) (.slice none 0 0) ?_
 refine w_nil (xn_then (w_seq (w_reg ?_)))
 refine wl_alloc 22 #[.slice none 0 0] rfl (fun _ => by kernel_rfl) rfl ?_
 intro k2 w2 hk hz hq Q2
 have ne_k1_k2 : k1 ≠ k2 := by have := Q1.lt; omega
 have N_k2 : w.heap.size ≤ k2 := by have := M.size; omega
 replace Q1 := Q1.mo hq
 replace M := M.trans hq
 clear hk hz hq
 refine w_nil (xn_then (w_seq (w_reg ?_)))
 refine wl_alloc 134 #[.nilFunc] rfl (fun _ => by kernel_rfl) rfl ?_
 intro k3 w3 hk hz hq Q3
 have ne_k1_k3 : k1 ≠ k3 := by have := Q1.lt; omega
 have ne_k2_k3 : k2 ≠ k3 := by have := Q2.lt; omega
 have N_k3 : w.heap.size ≤ k3 := by have := M.size; omega
 replace Q1 := Q1.mo hq
 replace Q2 := Q2.mo hq
 replace M := M.trans hq
 clear hk hz hq
 refine w_nil (xn_then (w_seq (w_reg ?_)))
 refine wl_mf (.func 72) [] [(.tmp 3), (.tmp 4)] [] [pt k2 0, pt k3 0] rfl rfl rfl rfl ?_
 refine wl_st1 134 (.tmp 4) (.tmp 5) k3 0 (.func (.func 72) #[] #[pt k2 0, pt k3 0]) _ [.func (.func 72) #[] #[pt k2 0, pt k3 0]] Q3 rfl rfl rfl rfl rfl sz134 rfl rfl rfl rfl ?_
 intro w4 hS Qn
 replace Q3 := Qn
 clear Qn
 replace Q1 := hS.other _ _ ne_k1_k3 Q1
 replace Q2 := hS.other _ _ ne_k2_k3 Q2
 replace M := hS.mo _ N_k3 M
 clear hS
 refine w_nil (xn_then (w_seq (w_reg ?_)))
 refine wl_l 134 (.tmp 4) (pt k3 0) (.func (.func 72) #[] #[pt k2 0, pt k3 0]) (run_one Q3 134 0 rfl Tryd.underlying134 rfl) ?_
 refine wl_l 45 (.tmp 1) (pt k1 0) (.agg (s.cells).toArray) (run_row Q1 45 0 4 (s.cells) rfl Tryd.underlying45 rfl sz45) ?_
 have hG3 : GA w w4 k2 k3 none 0 [] := ⟨M, Q2, Q3, ⟨rfl, Or.inl ⟨rfl, rfl⟩⟩, fun k e => by cases e⟩
 refine wl_callv 72 (.tmp 6) #[] #[pt k2 0, pt k3 0] [(.tmp 7), (.const (.int .i64 (-1))), (.const (.int .i64 (1)))] _ [.agg (s.cells).toArray, .int .i64 (-1), .int .i64 (1)] [.agg (s.cells).toArray, .int .i64 (-1), .int .i64 (1), pt k2 0, pt k3 0] rfl rfl rfl rfl (fun _ _ => by kernel_rfl) (gather_n ne_k2_k3 N_k2 s hL [] _ _ none 0 _ hG3 (by simp) (by omega) (by omega)) rfl ?_
 rintro e9 w5 ⟨rfl, pa, cap, hG4⟩
 refine ⟨_, rfl, ?_⟩
 have QF := hG4.la
 replace M := hG4.mo
 refine w_nil (xn_then (w_seq (w_reg ?_)))
 refine wl_l 22 (.tmp 3) (pt k2 0) (.slice pa (flt s [] (-1) 1).length cap) (run_one QF 22 0 rfl Tryd.underlying22 rfl) ?_
 refine wl_m (.tmp 9) (.slice pa (flt s [] (-1) 1).length cap) ?_
 refine w_nil (xn_then (w_ret ?_))
 exact w_ret1 _ (.slice pa (flt s [] (-1) 1).length cap) rfl rfl ⟨pa, cap, rfl, M, hG4.ow⟩
theorem ck_new {w wA w' : World} {d : Df} {kc tb : Nat} {sp ip kp : Option Addr} {sc ic kk : Nat} {MI KI : List Nat} (hD : LDf w d) (hMw : Mo w wA) (hSL : SL wA 5 S5.cells sp (fla d)) (hOt : OM wA tb []) (hN : NW wA w' kc MI ip ic KI kp kk) (hA : At w' kc (⟨kc, d, fla d, sp, sc, tb, MI, ip, ic, KI, kp, kk⟩ : Zc).cells) (h1 : MI.length = (fla d).length) (h2 : KI.length = (fla d).length) : CK w' ⟨kc, d, fla d, sp, sc, tb, MI, ip, ic, KI, kp, kk⟩ ⟨[], fun _ => [], fun _ => []⟩ := by
 have hz := fla_len d
 have m := hMw.trans hN.mo
 refine ⟨hA, hD.kp m.kp, hSL.kp hN.mo.kp, fun x hx => (flt_ls d.rt hD.rt [] _ _ (fun _ h => by cases h) x hx).kp m.kp, own_sl (cells := mpc) (fun _ => rfl) (by show MI.length ≤ _; rw [h1]; unfold maxLen; omega) hN.ri, own_sl (cells := mpc) (fun _ => rfl) (by show KI.length ≤ _; rw [h2]; unfold maxLen; omega) hN.rk, h1, h2, hOt.mo hN.mo, fun i b e => (hN.om b (List.mem_append_left _ (List.mem_of_getElem? e))).1, fun i b e => (hN.om b (List.mem_append_right _ (List.mem_of_getElem? e))).1, List.nodup_cons.2 ⟨fun h => ?_, hN.nd⟩, fla_wf d, fun i p h => by cases h⟩
 have := (hN.om tb h).2
 have := hOt.lt
 omega
theorem newck_n (d : Df) {w : World} (hD : LDf w d) : Calls Tryd.prog 42 #[.agg (d.cells).toArray] w fun e w' => ∃ z : Zc, e = .returned (pt z.cb 0) ∧ z.d = d ∧ z.L = fla d ∧ Mo w w' ∧ (∀ k, z.D k → w.heap.size ≤ k) ∧ CK w' z ⟨[], fun _ => [], fun _ => []⟩ := by
 refine w_enter 40 Tryd.func42 Tryd.ntmps42 rfl rfl ?_
 have M : Mo w w := Mo.refl _
 refine w_seq (w_reg ?_)
 refine wl_box 49 (.tmp 0) _ (((d.cells).toArray)) rfl rfl (fun _ => by kernel_rfl) rfl ?_
 intro k1 w1 hk hz hq Q1
 have N_k1 : w.heap.size ≤ k1 := by have := M.size; omega
 replace M := M.trans hq
 clear hk hz hq
 refine wl_m (.const (.pointer none)) (.pointer none) ?_
 refine w_nil (xn_then (w_seq ?_))
 have hsm : Smos [vq (.agg (d.cells).toArray), vq (pt k1 1), vq (.agg (d.rt.cells).toArray), fun u w9 => ∃ pa cap, u = .slice pa (fla d).length cap ∧ SL w9 5 S5.cells pa (fla d), fun u w9 => ∃ b, u = .map (some b) ∧ w.heap.size ≤ b ∧ OM w9 b []] := smos_cons (smo_vq _) (smos_cons (smo_vq _) (smos_cons (smo_vq _) (smos_cons (fun u a b ⟨pa, cap, h1, h2⟩ m => ⟨pa, cap, h1, h2.kp m.kp⟩) (smos_cons (fun u a b ⟨b9, h1, h2, h3⟩ m => ⟨b9, h1, h2, h3.mo m⟩) (smos_nil)))))
 have hgr : ∀ a b : World, Mo w1 a → Mo a b → Mo w1 b := fun _ _ h m => h.trans m
 refine w_ogc 5 (fun w9 => Mo w1 w9) [vq (.agg (d.cells).toArray), vq (pt k1 1), vq (.agg (d.rt.cells).toArray), fun u w9 => ∃ pa cap, u = .slice pa (fla d).length cap ∧ SL w9 5 S5.cells pa (fla d), fun u w9 => ∃ b, u = .map (some b) ∧ w.heap.size ≤ b ∧ OM w9 b []] [] (by kernel_rfl) (by kernel_rfl) (by kernel_rfl) (by kernel_rfl) rfl (by kernel_rfl) (by kernel_rfl) latec_nil ((Mo.refl _).drew) ?_ ?_
 ·refine ea_cons ?_ (ea_cons ?_ (ea_cons ?_ (ea_cons ?_ (ea_cons ?_ (ea_nil)))))
  ·exact oc_eq _ rfl hgr hsm (fun f wf hG9 hd K hK => have Q1 := Q1.mo hG9; go_run rfl (wo_load 49 (.tmp 1) (pt k1 0) (.agg (d.cells).toArray) rfl rfl (run_row Q1 49 0 7 (d.cells) rfl Tryd.underlying49 rfl sz49) (hK _ (Mo.refl _))))
  ·exact oc_eq _ rfl hgr hsm (fun f wf hG9 hd K hK => go_run rfl (wo_un (fun v => Instr.fieldAt 49 v 1) (.tmp 1) (pt k1 0) (pt k1 1) (fun _ => rfl) rfl (by kernel_rfl) (hK _ (Mo.refl _))))
  ·exact oc_eq _ rfl hgr hsm (fun f wf hG9 hd K hK => have Q1 := Q1.mo hG9; go_run rfl (wo_load 45 (.tmp 5) (pt k1 1) (.agg (d.rt.cells).toArray) rfl (hd 1 rfl) (run_row Q1 45 1 4 (d.rt.cells) rfl Tryd.underlying45 rfl sz45) (hK _ (Mo.refl _))))
  ·refine ⟨fun f wf hG9 hd K hK => ?_⟩
   refine go_run rfl (wo_callx 57 [(.tmp 6)] _ [.agg (d.rt.cells).toArray] rfl (li1 (hd 2 rfl)) (fun _ _ => by kernel_rfl) (flat_n d.rt (hD.rt.kp (M.trans hG9).kp)) ?_)
   rintro e9 w9 ⟨pa, cap, rfl, q1, q2⟩
   exact ⟨_, rfl, hK _ w9 (hG9.trans q1) ⟨pa, cap, rfl, own_sl (cells := S5.cells) (fun _ => rfl) (Nat.le_trans (fla_len d) (by decide)) q2⟩ (fun j u _ hr9 => hsm j u _ _ hr9 q1)⟩
  ·refine ⟨fun f wf hG9 hd K hK => ?_⟩
   exact go_run rfl (wo_mm 108 rfl (fun b9 w9 e9 z9 q1 q2 => hK _ w9 (hG9.trans q1) ⟨b9, rfl, by have := (M.trans hG9).size; omega, q2⟩ (fun j u _ hr9 => hsm j u _ _ hr9 q1)))
 intro f9 w2 hq hR9
 obtain ⟨sp, sc, e9s, hSL⟩ := hR9 3 rfl
 obtain ⟨tb, e9m, hNt, hOt⟩ := hR9 4 rfl
 replace Q1 := Q1.mo hq
 replace M := M.trans hq
 clear hq hsm hgr
 have hMw := M
 replace M : Mo w2 w2 := Mo.refl _
 refine wl_build 111 [(0, (.tmp 4)), (1, (.tmp 7)), (2, (.tmp 8))] [(0, .agg (d.cells).toArray), (1, .slice sp (fla d).length sc), (2, .map (some tb))] (.agg #[.string d.nm, .string d.rt.nm, .int .i64 d.rt.mx, .slice d.rt.pi d.rt.items.length d.rt.ci, .slice d.rt.pk d.rt.kids.length d.rt.ck, .slice d.pt d.tb.length d.ct, .slice d.pp d.pg.length d.cp, .slice sp (fla d).length sc, .map (some tb), .slice none 0 0, .slice none 0 0]) rfl (lp3 (hR9 0 rfl) e9s e9m) (by kernel_rfl) rfl ?_
 refine wl_box 111 (.tmp 9) _ (#[.string d.nm, .string d.rt.nm, .int .i64 d.rt.mx, .slice d.rt.pi d.rt.items.length d.rt.ci, .slice d.rt.pk d.rt.kids.length d.rt.ck, .slice d.pt d.tb.length d.ct, .slice d.pp d.pg.length d.cp, .slice sp (fla d).length sc, .map (some tb), .slice none 0 0, .slice none 0 0]) rfl rfl (fun _ => by kernel_rfl) rfl ?_
 intro k2 w3 hk hz hq Q2
 have ne_k1_k2 : k1 ≠ k2 := by have := Q1.lt; omega
 have N_k2 : w2.heap.size ≤ k2 := by have := M.size; omega
 replace Q1 := Q1.mo hq
 replace M := M.trans hq
 clear hk hz hq
 refine wl_m (.tmp 10) (pt k2 0) ?_
 refine w_nil (xn_then (w_seq (w_seq (w_reg ?_))))
 refine wl_m (.tmp 3) (pt k2 0) ?_
 refine wl_nc (.tmp 11) k2 0 rfl rfl rfl ?_
 refine wl_f 111 1 (.tmp 12) (pt k2 0) (pt k2 7) ?_
 refine wl_l 22 (.tmp 13) (pt k2 7) (.slice sp (fla d).length sc) (run_one Q2 22 7 rfl Tryd.underlying22 rfl) ?_
 refine wl_val (.int .i64 (((fla d).length : Nat) : Int)) (len22 _ _ _ _ _ (by exact rfl) _ _ _ _ _ _) rfl ?_
 refine wl_m (.const (.int .i64 (0))) (.int .i64 (0)) ?_
 refine w_nil (xn_then (w_block ?_))
 have hzl := fla_len d
 have hE0 : NW w2 w3 k2 [] none 0 [] none 0 := NW.new w2 k2 (by assumption)
 refine w_loop (fun m l w1 => ∃ i : Nat, m = (fla d).length - i ∧ i ≤ (fla d).length ∧ look l 3 = pt k2 0 ∧ look l 14 = .slice sp (fla d).length sc ∧ look l 15 = .int .i64 (((fla d).length : Nat) : Int) ∧ look l 16 = .int .i64 ((i : Nat) : Int) ∧ ∃ (MI : List Nat) (ip : Option Addr) (ic : Nat) (KI : List Nat) (kp : Option Addr) (kk : Nat), MI.length = i ∧ KI.length = i ∧ At w1 k2 (⟨k2, d, fla d, sp, sc, tb, MI, ip, ic, KI, kp, kk⟩ : Zc).cells ∧ NW w2 w1 k2 MI ip ic KI kp kk) _ ⟨0, rfl, Nat.zero_le _, rfl, rfl, rfl, rfl, ⟨[], none, 0, [], none, 0, rfl, rfl, Q2, hE0⟩⟩ ?_
 clear Q1 Q2 M
 rintro m l40 wl40 ⟨i, rfl, hi, e40_3, e40_14, e40_15, e40_i, hE⟩
 by_cases hil : i < (fla d).length
 ·skip
  have hid : decide (i < (fla d).length) = true := decide_eq_true hil
  obtain ⟨MI, ip, ic, KI, kp, kk, hmi, hki, QC, hN⟩ := hE
  have M := hN.mo
  replace QC : At wl40 k2 [.string d.nm, .string d.rt.nm, .int .i64 d.rt.mx, .slice d.rt.pi d.rt.items.length d.rt.ci, .slice d.rt.pk d.rt.kids.length d.rt.ck, .slice d.pt d.tb.length d.ct, .slice d.pp d.pg.length d.cp, .slice sp (fla d).length sc, .map (some tb), .slice ip MI.length ic, .slice kp KI.length kk] := QC
  refine w_seq (w_reg ?_)
  refine wl_bin (fun x y => do eqGuard .lss 3 (.tmp 16) (.tmp 15) x y; binOp .lss 3 x y) (.tmp 16) (.tmp 15) (.int .i64 ((i : Nat) : Int)) (.int .i64 (((fla d).length : Nat) : Int)) (.bool true) (fun _ => rfl) e40_i e40_15 (ltN hid _ _ _) rfl ?_
  refine w_nil (xn_then (w_seq (w_condT rfl (w_skip (xn_then (w_seq (w_block (w_seq (w_reg ?_)))))))))
  refine wl_mv (.tmp 3) (pt k2 0) (fun _ => rfl) e40_3 rfl ?_
  refine wl_mv (.tmp 3) (pt k2 0) (fun _ => rfl) e40_3 rfl ?_
  refine wl_nc (.tmp 19) k2 0 rfl rfl rfl ?_
  refine wl_f 111 3 (.tmp 20) (pt k2 0) (pt k2 9) ?_
  refine wl_l 109 (.tmp 21) (pt k2 9) (.slice ip MI.length ic) (run_one QC 109 9 rfl Tryd.underlying109 rfl) ?_
  refine wl_mm 108 rfl rfl ?_
  intro mb1 w41 hk hz9 hq hO_mb1
  have ne_k2_mb1 : k2 ≠ mb1 := by have := QC.lt; omega
  have nb_mb1 : mb1 ∉ MI ++ KI := fun h => by have := (hN.om mb1 h).1.lt; omega
  have N_mb1 : w2.heap.size ≤ mb1 := by have := M.size; omega
  replace QC := QC.mo hq
  replace hN := hN.mv hq
  replace M := M.trans hq
  clear hk hz9 hq
  refine wl_bs 109 1 [(0, (.tmp 23))] [(0, .map (some mb1))] #[.map (some mb1)] 108 rfl rfl (fun _ => by kernel_rfl) rfl ?_
  intro k3 w42 hk hz hq Q3
  have ne_k2_k3 : k2 ≠ k3 := by have := QC.lt; omega
  have N_k3 : w2.heap.size ≤ k3 := by have := M.size; omega
  replace QC := QC.mo hq
  replace hN := hN.mv hq
  replace hO_mb1 := hO_mb1.mo hq
  replace M := M.trans hq
  clear hk hz hq
  have ltc := QC.lt
  refine wl_app Tryd.underlying109 inf108 rfl (by decide) (.tmp 22) (.tmp 24) w2.heap.size (.slice ip MI.length ic) MI.length (MI.flatMap mpc) k3 1 1 [.map (some mb1)] rfl rfl rfl hN.ri rfl Q3 (fun u hu => by rw [List.mem_singleton.1 hu]; rfl) (by decide) (by unfold maxLen; first | omega | (simp; omega)) (by first | omega | (simp; omega)) M.size rfl ?_
  intro v9 w43 hOw hm9 hbk
  replace QC := hm9.at QC hN.oi
  obtain ⟨ip1, ic1, rfl, hN1⟩ := hN.appI hO_mb1 nb_mb1 N_mb1 ltc hOw hm9 hbk
  clear hN hOw hbk hm9 ltc
  have hN := hN1
  clear hN1
  replace M := hN.mo
  refine wl_nc (.tmp 18) k2 0 rfl rfl rfl ?_
  refine wl_f 111 3 (.tmp 26) (pt k2 0) (pt k2 9) ?_
  refine wl_stm1 109 (.tmp 27) (.tmp 25) k2 9 (.slice ip1 (MI ++ [mb1]).length ic1) [.string d.nm, .string d.rt.nm, .int .i64 d.rt.mx, .slice d.rt.pi d.rt.items.length d.rt.ci, .slice d.rt.pk d.rt.kids.length d.rt.ck, .slice d.pt d.tb.length d.ct, .slice d.pp d.pg.length d.cp, .slice sp (fla d).length sc, .map (some tb), .slice ip MI.length ic, .slice kp KI.length kk] [.string d.nm, .string d.rt.nm, .int .i64 d.rt.mx, .slice d.rt.pi d.rt.items.length d.rt.ci, .slice d.rt.pk d.rt.kids.length d.rt.ck, .slice d.pt d.tb.length d.ct, .slice d.pp d.pg.length d.cp, .slice sp (fla d).length sc, .map (some tb), .slice ip1 (MI ++ [mb1]).length ic1, .slice kp KI.length kk] QC rfl rfl rfl rfl rfl sz109 rfl rfl rfl rfl ?_
  intro w44 hS hm9 Qn
  replace hN := hN.st hm9 N_k2 QC
  replace QC := Qn
  clear Qn hS hm9
  replace M := hN.mo
  refine w_nil (xn_then (w_reg ?_))
  refine wl_mv (.tmp 3) (pt k2 0) (fun _ => rfl) e40_3 rfl ?_
  refine wl_mv (.tmp 3) (pt k2 0) (fun _ => rfl) e40_3 rfl ?_
  refine wl_nc (.tmp 29) k2 0 rfl rfl rfl ?_
  refine wl_f 111 4 (.tmp 30) (pt k2 0) (pt k2 10) ?_
  refine wl_l 109 (.tmp 31) (pt k2 10) (.slice kp KI.length kk) (run_one QC 109 10 rfl Tryd.underlying109 rfl) ?_
  refine wl_mm 108 rfl rfl ?_
  intro mb2 w45 hk hz9 hq hO_mb2
  have ne_k2_mb2 : k2 ≠ mb2 := by have := QC.lt; omega
  have nb_mb2 : mb2 ∉ (MI ++ [mb1]) ++ KI := fun h => by have := (hN.om mb2 h).1.lt; omega
  have N_mb2 : w2.heap.size ≤ mb2 := by have := M.size; omega
  replace QC := QC.mo hq
  replace hN := hN.mv hq
  replace M := M.trans hq
  clear hk hz9 hq
  refine wl_bs 109 1 [(0, (.tmp 33))] [(0, .map (some mb2))] #[.map (some mb2)] 108 rfl rfl (fun _ => by kernel_rfl) rfl ?_
  intro k4 w46 hk hz hq Q4
  have ne_k2_k4 : k2 ≠ k4 := by have := QC.lt; omega
  have N_k4 : w2.heap.size ≤ k4 := by have := M.size; omega
  replace QC := QC.mo hq
  replace hN := hN.mv hq
  replace hO_mb2 := hO_mb2.mo hq
  replace M := M.trans hq
  clear hk hz hq
  have ltc := QC.lt
  refine wl_app Tryd.underlying109 inf108 rfl (by decide) (.tmp 32) (.tmp 34) w2.heap.size (.slice kp KI.length kk) KI.length (KI.flatMap mpc) k4 1 1 [.map (some mb2)] rfl rfl rfl hN.rk rfl Q4 (fun u hu => by rw [List.mem_singleton.1 hu]; rfl) (by decide) (by unfold maxLen; first | omega | (simp; omega)) (by first | omega | (simp; omega)) M.size rfl ?_
  intro v9 w47 hOw hm9 hbk
  replace QC := hm9.at QC hN.ok
  obtain ⟨kp1, kk1, rfl, hN1⟩ := hN.appK hO_mb2 nb_mb2 N_mb2 ltc hOw hm9 hbk
  clear hN hOw hbk hm9 ltc
  have hN := hN1
  clear hN1
  replace M := hN.mo
  refine wl_nc (.tmp 28) k2 0 rfl rfl rfl ?_
  refine wl_f 111 4 (.tmp 36) (pt k2 0) (pt k2 10) ?_
  refine wl_stm1 109 (.tmp 37) (.tmp 35) k2 10 (.slice kp1 (KI ++ [mb2]).length kk1) [.string d.nm, .string d.rt.nm, .int .i64 d.rt.mx, .slice d.rt.pi d.rt.items.length d.rt.ci, .slice d.rt.pk d.rt.kids.length d.rt.ck, .slice d.pt d.tb.length d.ct, .slice d.pp d.pg.length d.cp, .slice sp (fla d).length sc, .map (some tb), .slice ip1 (MI ++ [mb1]).length ic1, .slice kp KI.length kk] [.string d.nm, .string d.rt.nm, .int .i64 d.rt.mx, .slice d.rt.pi d.rt.items.length d.rt.ci, .slice d.rt.pk d.rt.kids.length d.rt.ck, .slice d.pt d.tb.length d.ct, .slice d.pp d.pg.length d.cp, .slice sp (fla d).length sc, .map (some tb), .slice ip1 (MI ++ [mb1]).length ic1, .slice kp1 (KI ++ [mb2]).length kk1] QC rfl rfl rfl rfl rfl sz109 rfl rfl rfl rfl ?_
  intro w48 hS hm9 Qn
  replace hN := hN.st hm9 N_k2 QC
  replace QC := Qn
  clear Qn hS hm9
  replace M := hN.mo
  refine w_nil (xn_blk (xn_then (w_reg ?_)))
  refine wl_bin (fun x y => do eqGuard .add 3 (.tmp 16) (.const (.int .i64 (1))) x y; binOp .add 3 x y) (.tmp 16) (.const (.int .i64 (1))) (.int .i64 ((i : Nat) : Int)) (.int .i64 (1)) (.int .i64 ((i + 1 : Nat) : Int)) (fun _ => rfl) e40_i rfl (add1r (k := i) (by omega) _ _ _) rfl ?_
  refine wl_m (.tmp 38) (.int .i64 ((i + 1 : Nat) : Int)) ?_
  refine w_nil ?_
  exact xn_loop ((fla d).length - (i + 1)) (by omega) ⟨i + 1, rfl, by omega, e40_3, e40_14, e40_15, rfl, ⟨_, _, _, _, _, _, by simp; omega, by simp; omega, QC, hN⟩⟩
 ·skip
  have hid : decide (i < (fla d).length) = false := decide_eq_false hil
  have hie : i = (fla d).length := by omega
  obtain ⟨MI, ip, ic, KI, kp, kk, hmi, hki, QC, hN⟩ := hE
  have M := hN.mo
  refine w_seq (w_reg ?_)
  refine wl_bin (fun x y => do eqGuard .lss 3 (.tmp 16) (.tmp 15) x y; binOp .lss 3 x y) (.tmp 16) (.tmp 15) (.int .i64 ((i : Nat) : Int)) (.int .i64 (((fla d).length : Nat) : Int)) (.bool false) (fun _ => rfl) e40_i e40_15 (ltN hid _ _ _) rfl ?_
  refine w_nil (xn_then (w_seq (w_condF rfl (w_exit (xx_then (xx_then (xx_blk (xn_then (w_seq (w_reg ?_))))))))))
  refine wl_mv (.tmp 3) (pt k2 0) (fun _ => rfl) e40_3 rfl ?_
  refine wl_m (.tmp 39) (pt k2 0) ?_
  refine w_nil (xn_then (w_ret ?_))
  exact w_ret1 _ (pt k2 0) rfl rfl ⟨⟨k2, d, fla d, sp, sc, tb, MI, ip, ic, KI, kp, kk⟩, rfl, rfl, rfl, hMw.trans M, (fun k hk => by rcases List.mem_cons.1 hk with e | hk; exact (by rw [e]; exact hNt); exact Nat.le_trans hMw.size (hN.om k hk).2), ck_new hD hMw hSL hOt hN QC (by omega) (by omega)⟩
end Go.Proofs.YtnffhcjmpjajlaaDoor

namespace Go.Proofs.YtnffhcjmpjajlaaDoor
open Go.RowKit D
def Pk (o : Option (Value × Int)) : Prop := ∀ q, o = some q → (∃ k s i t p : Int, q.1 = plc k s i t p) ∧ q.2 ≠ 0
theorem Pk.er (k s i t p e : Int) : Pk (erY (plc k s i t p) e) := fun q hq => by
 unfold Go.Proofs.YtnffhcjmpjajlaaDoor.erY at hq
 split at hq
 ·cases hq
 ·rename_i h
  cases hq
  exact ⟨⟨k, s, i, t, p, rfl⟩, h⟩
theorem Pk.none : Pk none := fun q hq => by cases hq
theorem Pk.bind {α : Type} {o : Option α} {f : α → Option (Value × Int)} (h : ∀ x, Pk (f x)) : Pk (o.bind f) := fun q hq => by
 cases o with
 | none => cases hq
 | some x => exact h x q hq
theorem Pk.fs {g : Nat → Option (Value × Int)} (h : ∀ j, Pk (g j)) (N : Nat) : Pk ((List.range N).findSome? g) := fun q hq => by
 obtain ⟨j, _, hj⟩ := List.exists_of_findSome?_eq_some hq
 exact h j q hj
theorem Pk.or {a b : Option (Value × Int)} (ha : Pk a) (hb : Pk b) : Pk (a.or b) := fun q hq => by
 cases a with
 | none => exact hb q hq
 | some x => exact ha q hq
theorem Pk.ite {c : Prop} [Decidable c] {a b : Option (Value × Int)} (ha : Pk a) (hb : Pk b) : Pk (if c then a else b) := by
 split
 ·exact ha
 ·exact hb
theorem pk_tb (l : List Tb) : Pk (tbR l) := Pk.fs (fun _ => Pk.bind (fun _ => Pk.er _ _ _ _ _ _)) _
theorem pk_se (T : List (ByteArray × Int)) (L : List S5) : Pk (seR T L) := Pk.fs (fun _ => Pk.bind (fun _ => Pk.or (Pk.er _ _ _ _ _ _) (Pk.fs (fun _ => Pk.bind (fun _ => Pk.er _ _ _ _ _ _)) _))) _
theorem pk_one (k s i t p e : Int) (h : e ≠ 0) : Pk (some (plc k s i t p, e)) := fun q hq => by cases hq; exact ⟨⟨k, s, i, t, p, rfl⟩, h⟩
theorem pk_fo (L : List S5) (A : Al) : Pk (foR L A) := Pk.fs (fun _ => Pk.fs (fun _ => Pk.bind (fun _ => Pk.ite (pk_one _ _ _ _ _ _ (by decide)) Pk.none)) _) _
theorem pk_pg (L : List S5) (A : Al) (l : List Pg) : Pk (pgR L A l) := Pk.fs (fun _ => Pk.bind (fun _ => Pk.er _ _ _ _ _ _)) _
theorem Pk.some {o : Option (Value × Int)} (h : Pk o) (hs : o.isNone = false) : ∃ k s i t p e : Int, o = some (plc k s i t p, e) ∧ e ≠ 0 := by
 cases o with
 | none => cases hs
 | some q =>
  obtain ⟨⟨k, s, i, t, p, h1⟩, h2⟩ := h q rfl
  exact ⟨k, s, i, t, p, q.2, by rw [← h1], h2⟩
theorem isnn {α : Type} {o : Option α} (h : o.isNone = true) : o = none := by cases o with | none => rfl | some _ => cases h
def alF (d : Df) : Al := ⟨tbA d.tb d.tb.length, stI (fla d) (fla d).length 0, stK (fla d) (fla d).length⟩
def chk (d : Df) : Option (Value × Int) := (erY (plc 0 0 0 0 0) (whE d (fla d))).or ((tbR d.tb).or ((seR (tbA d.tb d.tb.length) (fla d)).or ((foR (fla d) (alF d)).or (pgR (fla d) (alF d) d.pg))))
theorem whE_0 {d : Df} {L : List S5} (h : whE d L = 0) : d.tb.length ≤ 8 ∧ d.pg.length ≤ 16 ∧ L.length ≤ 16 := by
 unfold whE at h
 split at h
 ·split at h
  ·cases h
  ·rename_i h2
   simp [tms] at h2
   omega
 ·cases h
theorem check_n (d : Df) {w : World} (hD : LDf w d) : Calls Tryd.prog 25 #[.agg (d.cells).toArray] w fun e w' => e = .returned (rv (chk d)) ∧ Mo w w' := by
 refine w_enter 38 Tryd.func25 Tryd.ntmps25 rfl rfl ?_
 have M : Mo w w := Mo.refl _
 refine w_seq (w_reg ?_)
 refine wl_box 49 (.tmp 0) _ (((d.cells).toArray)) rfl rfl (fun _ => by kernel_rfl) rfl ?_
 intro k1 w1 hk hz hq Q1
 have N_k1 : w.heap.size ≤ k1 := by have := M.size; omega
 replace M := M.trans hq
 clear hk hz hq
 refine wl_alloc 52 #[.int .i64 0, .int .i64 0, .int .i64 0, .int .i64 0, .int .i64 0] rfl (fun _ => by kernel_rfl) rfl ?_
 intro k2 w2 hk hz hq Q2
 have ne_k1_k2 : k1 ≠ k2 := by have := Q1.lt; omega
 have N_k2 : w.heap.size ≤ k2 := by have := M.size; omega
 replace Q1 := Q1.mo hq
 replace M := M.trans hq
 clear hk hz hq
 refine wl_m (.const (.int .i64 (0))) (.int .i64 (0)) ?_
 refine w_nil (xn_then (w_seq (w_reg ?_)))
 refine wl_l 49 (.tmp 1) (pt k1 0) (.agg (d.cells).toArray) (run_row Q1 49 0 7 (d.cells) rfl Tryd.underlying49 rfl sz49) ?_
 refine wl_callx 42 [(.tmp 9)] _ [.agg (d.cells).toArray] rfl rfl (fun _ _ => by kernel_rfl) (newck_n d (hD.kp M.kp)) rfl ?_
 rintro e9 w3 ⟨z, rfl, hzd, hzL, hq, hzD, hC⟩
 refine ⟨_, rfl, ?_⟩
 replace Q1 := Q1.mo hq
 replace Q2 := Q2.mo hq
 replace hzD : ∀ k, z.D k → w.heap.size ≤ k := fun k hk => by have := hzD k hk; have := M.size; omega
 have MK : Mk (fun _ => False) w w3 := Mk.of _ (M.trans hq)
 clear M hq
 subst hzd
 obtain ⟨AL, hAL⟩ : ∃ AL : Al, AL = alF z.d := ⟨_, rfl⟩
 have M : Mo w3 w3 := Mo.refl _
 refine wl_m (.tmp 10) (pt z.cb 0) ?_
 refine w_nil (xn_then (w_seq (w_seq (w_reg ?_))))
 refine wl_m (.tmp 4) (pt z.cb 0) ?_
 refine wl_mf (.func 43) [(.tmp 11)] [] [pt z.cb 0] [] rfl rfl rfl rfl ?_
 refine wl_m (.tmp 4) (pt z.cb 0) ?_
 refine wl_mf (.func 44) [(.tmp 13)] [] [pt z.cb 0] [] rfl rfl rfl rfl ?_
 refine wl_m (.tmp 4) (pt z.cb 0) ?_
 refine wl_mf (.func 45) [(.tmp 15)] [] [pt z.cb 0] [] rfl rfl rfl rfl ?_
 refine wl_m (.tmp 4) (pt z.cb 0) ?_
 refine wl_mf (.func 46) [(.tmp 17)] [] [pt z.cb 0] [] rfl rfl rfl rfl ?_
 refine wl_m (.tmp 4) (pt z.cb 0) ?_
 refine wl_mf (.func 47) [(.tmp 19)] [] [pt z.cb 0] [] rfl rfl rfl rfl ?_
 refine wl_bs 98 5 [(0, (.tmp 12)), (1, (.tmp 14)), (2, (.tmp 16)), (3, (.tmp 18)), (4, (.tmp 20))] [(0, .func (.func 43) #[pt z.cb 0] #[]), (1, .func (.func 44) #[pt z.cb 0] #[]), (2, .func (.func 45) #[pt z.cb 0] #[]), (3, .func (.func 46) #[pt z.cb 0] #[]), (4, .func (.func 47) #[pt z.cb 0] #[])] #[.func (.func 43) #[pt z.cb 0] #[], .func (.func 44) #[pt z.cb 0] #[], .func (.func 45) #[pt z.cb 0] #[], .func (.func 46) #[pt z.cb 0] #[], .func (.func 47) #[pt z.cb 0] #[]] 97 rfl rfl (fun _ => by kernel_rfl) rfl ?_
 intro k3 w4 hk hz hq Q3
 have ne_k1_k3 : k1 ≠ k3 := by have := Q1.lt; omega
 have ne_k2_k3 : k2 ≠ k3 := by have := Q2.lt; omega
 have N_k3 : w3.heap.size ≤ k3 := by have := M.size; omega
 replace Q1 := Q1.mo hq
 replace Q2 := Q2.mo hq
 replace M := M.trans hq
 clear hk hz hq
 refine wl_val (.int .i64 (5)) (len98 _ _ _ 5 _ (by exact rfl) _ _ _ _ _ _) rfl ?_
 refine wl_m (.const (.int .i64 (0))) (.int .i64 (0)) ?_
 refine w_nil (xn_then (w_block ?_))
 refine w_rounds 6 ?_
 refine w_seq (w_reg ?_)
 refine wl_b .lss 3 (.tmp 23) (.tmp 22) (.int .i64 (0)) (.int .i64 (5)) (.bool true) (lt3 (r := true) rfl _ _ _) ?_
 refine w_nil (xn_then (w_seq (w_condT rfl (w_skip (xn_then (w_seq (w_block (w_seq (w_reg ?_)))))))))
 refine wl_bin (fun x y => Instr.indexAt 98 x y) (.tmp 21) (.tmp 23) (.slice (some ⟨k3, 0, none⟩) 5 5) (.int .i64 (0)) (pt k3 0) (fun _ => rfl) rfl rfl (ix98 (i := 0) rfl (by decide) _) rfl ?_
 refine wl_l 97 (.tmp 25) (pt k3 0) (.func (.func 43) #[pt z.cb 0] #[]) (run_one Q3 97 0 rfl Tryd.underlying97 rfl) ?_
 refine wl_m (.tmp 26) (.func (.func 43) #[pt z.cb 0] #[]) ?_
 refine w_nil (xn_then (w_seq (w_reg ?_)))
 refine wl_m (.tmp 6) (.func (.func 43) #[pt z.cb 0] #[]) ?_
 refine wl_callv 43 (.tmp 28) #[pt z.cb 0] #[] [] _ [] [pt z.cb 0] rfl rfl rfl rfl (fun _ _ => by kernel_rfl) (whole_n (hC.mo M)) rfl ?_
 rintro e9 w5 ⟨rfl, hq⟩
 refine ⟨_, rfl, ?_⟩
 replace Q1 := Q1.mo hq
 replace Q2 := Q2.mo hq
 replace Q3 := Q3.mo hq
 replace M := M.trans hq
 clear hq
 refine wl_m (.tmp 29) (.tuple #[.agg #[.int .i64 (0), .int .i64 (0), .int .i64 (0), .int .i64 (0), .int .i64 (0)], .int .i64 (whE z.d z.L)]) ?_
 refine wl_un (fun v => Instr.extract v 0) (.tmp 27) (.tuple #[.agg #[.int .i64 (0), .int .i64 (0), .int .i64 (0), .int .i64 (0), .int .i64 (0)], .int .i64 (whE z.d z.L)]) (.agg #[.int .i64 (0), .int .i64 (0), .int .i64 (0), .int .i64 (0), .int .i64 (0)]) (fun _ => rfl) rfl (by kernel_rfl) rfl ?_
 refine wl_un (fun v => Instr.extract v 1) (.tmp 27) (.tuple #[.agg #[.int .i64 (0), .int .i64 (0), .int .i64 (0), .int .i64 (0), .int .i64 (0)], .int .i64 (whE z.d z.L)]) (.int .i64 (whE z.d z.L)) (fun _ => rfl) rfl (by kernel_rfl) rfl ?_
 refine wl_alloc 52 #[.int .i64 0, .int .i64 0, .int .i64 0, .int .i64 0, .int .i64 0] rfl (fun _ => by kernel_rfl) rfl ?_
 intro k4 w6 hk hz hq Q4
 have ne_k1_k4 : k1 ≠ k4 := by have := Q1.lt; omega
 have ne_k2_k4 : k2 ≠ k4 := by have := Q2.lt; omega
 have ne_k3_k4 : k3 ≠ k4 := by have := Q3.lt; omega
 have N_k4 : w3.heap.size ≤ k4 := by have := M.size; omega
 replace Q1 := Q1.mo hq
 replace Q2 := Q2.mo hq
 replace Q3 := Q3.mo hq
 replace M := M.trans hq
 clear hk hz hq
 refine wl_st 52 (.tmp 7) (.tmp 30) k4 0 #[.int .i64 (0), .int .i64 (0), .int .i64 (0), .int .i64 (0), .int .i64 (0)] _ [.int .i64 (0), .int .i64 (0), .int .i64 (0), .int .i64 (0), .int .i64 (0)] Q4 rfl rfl rfl rfl rfl sz52 rfl rfl rfl ?_
 intro w7 hS Qn
 replace Q4 := Qn
 clear Qn
 replace Q1 := hS.other _ _ ne_k1_k4 Q1
 replace Q2 := hS.other _ _ ne_k2_k4 Q2
 replace Q3 := hS.other _ _ ne_k3_k4 Q3
 replace M := hS.mo _ N_k4 M
 clear hS
 refine wl_m (.tmp 31) (.int .i64 (whE z.d z.L)) ?_
 refine w_nil (xn_then (w_seq (w_reg ?_)))
 refine wl_m (.tmp 8) (.int .i64 (whE z.d z.L)) ?_
 cases hf0 : decide (whE z.d z.L = 0) with
 | true =>
  have hf0p := of_decide_eq_true hf0
  refine wl_b .neq 31 (.tmp 32) (.const (.int .i64 (0))) (.int .i64 (whE z.d z.L)) (.int .i64 (0)) (.bool false) (ne34 hf0 _ _ _) ?_
  refine w_nil (xn_then (w_condF rfl (w_skip (xn_blk (xn_then (w_reg ?_))))))
  refine wl_b .add 3 (.tmp 23) (.const (.int .i64 (1))) (.int .i64 (0)) (.int .i64 (1)) (.int .i64 (1)) (by kernel_rfl) ?_
  refine wl_m (.tmp 36) (.int .i64 (1)) ?_
  refine w_nil ?_
  refine xn_rounds ?_
  refine w_seq (w_reg ?_)
  refine wl_b .lss 3 (.tmp 23) (.tmp 22) (.int .i64 (1)) (.int .i64 (5)) (.bool true) (lt3 (r := true) rfl _ _ _) ?_
  refine w_nil (xn_then (w_seq (w_condT rfl (w_skip (xn_then (w_seq (w_block (w_seq (w_reg ?_)))))))))
  refine wl_bin (fun x y => Instr.indexAt 98 x y) (.tmp 21) (.tmp 23) (.slice (some ⟨k3, 0, none⟩) 5 5) (.int .i64 (1)) (pt k3 1) (fun _ => rfl) rfl rfl (ix98 (i := 1) rfl (by decide) _) rfl ?_
  refine wl_l 97 (.tmp 25) (pt k3 1) (.func (.func 44) #[pt z.cb 0] #[]) (run_one Q3 97 1 rfl Tryd.underlying97 rfl) ?_
  refine wl_m (.tmp 26) (.func (.func 44) #[pt z.cb 0] #[]) ?_
  refine w_nil (xn_then (w_seq (w_reg ?_)))
  refine wl_m (.tmp 6) (.func (.func 44) #[pt z.cb 0] #[]) ?_
  cases hf1 : (tbR z.d.tb).isNone with
  | true =>
   have ho31 := isnn hf1
   have hcn := tables_n (hC.mo M) (whE_0 hf0p).1
   rw [ho31] at hcn
   refine wl_callv 44 (.tmp 28) #[pt z.cb 0] #[] [] _ [] [pt z.cb 0] rfl rfl rfl rfl (fun _ _ => by kernel_rfl) hcn rfl ?_
   rintro x9 w8 ⟨rfl, hK9, hC9⟩
   refine ⟨_, rfl, ?_⟩
   replace Q1 := Q1.kp (hK9.kp (fun j hj => hC.nocell hj M)) hK9.fz
   replace Q2 := Q2.kp (hK9.kp (fun j hj => hC.nocell hj M)) hK9.fz
   replace Q3 := Q3.kp (hK9.kp (fun j hj => hC.nocell hj M)) hK9.fz
   replace Q4 := Q4.kp (hK9.kp (fun j hj => hC.nocell hj M)) hK9.fz
   replace MK := (MK.trans M).tr hK9 (fun j hj e => by have := hzD j e; omega)
   clear M hcn
   have M : Mo w8 w8 := Mo.refl _
   have hC1 := hC9 rfl
   clear hC9 hK9
   refine wl_m (.tmp 29) (.tuple #[.agg #[.int .i64 (0), .int .i64 (0), .int .i64 (0), .int .i64 (0), .int .i64 (0)], .int .i64 (0)]) ?_
   refine wl_un (fun v => Instr.extract v 0) (.tmp 27) (.tuple #[.agg #[.int .i64 (0), .int .i64 (0), .int .i64 (0), .int .i64 (0), .int .i64 (0)], .int .i64 (0)]) (.agg #[.int .i64 (0), .int .i64 (0), .int .i64 (0), .int .i64 (0), .int .i64 (0)]) (fun _ => rfl) rfl (by kernel_rfl) rfl ?_
   refine wl_un (fun v => Instr.extract v 1) (.tmp 27) (.tuple #[.agg #[.int .i64 (0), .int .i64 (0), .int .i64 (0), .int .i64 (0), .int .i64 (0)], .int .i64 (0)]) (.int .i64 (0)) (fun _ => rfl) rfl (by kernel_rfl) rfl ?_
   refine wl_alloc 52 #[.int .i64 0, .int .i64 0, .int .i64 0, .int .i64 0, .int .i64 0] rfl (fun _ => by kernel_rfl) rfl ?_
   intro k5 w9 hk hz hq Q5
   have ne_k1_k5 : k1 ≠ k5 := by have := Q1.lt; omega
   have ne_k2_k5 : k2 ≠ k5 := by have := Q2.lt; omega
   have ne_k3_k5 : k3 ≠ k5 := by have := Q3.lt; omega
   have ne_k4_k5 : k4 ≠ k5 := by have := Q4.lt; omega
   have N_k5 : w8.heap.size ≤ k5 := by have := M.size; omega
   replace Q1 := Q1.mo hq
   replace Q2 := Q2.mo hq
   replace Q3 := Q3.mo hq
   replace Q4 := Q4.mo hq
   replace M := M.trans hq
   clear hk hz hq
   refine wl_st 52 (.tmp 7) (.tmp 30) k5 0 #[.int .i64 (0), .int .i64 (0), .int .i64 (0), .int .i64 (0), .int .i64 (0)] _ [.int .i64 (0), .int .i64 (0), .int .i64 (0), .int .i64 (0), .int .i64 (0)] Q5 rfl rfl rfl rfl rfl sz52 rfl rfl rfl ?_
   intro w10 hS Qn
   replace Q5 := Qn
   clear Qn
   replace Q1 := hS.other _ _ ne_k1_k5 Q1
   replace Q2 := hS.other _ _ ne_k2_k5 Q2
   replace Q3 := hS.other _ _ ne_k3_k5 Q3
   replace Q4 := hS.other _ _ ne_k4_k5 Q4
   replace M := hS.mo _ N_k5 M
   clear hS
   refine wl_m (.tmp 31) (.int .i64 (0)) ?_
   refine w_nil (xn_then (w_seq (w_reg ?_)))
   refine wl_m (.tmp 8) (.int .i64 (0)) ?_
   refine wl_b .neq 31 (.tmp 32) (.const (.int .i64 (0))) (.int .i64 (0)) (.int .i64 (0)) (.bool false) (ne34 (r := true) rfl _ _ _) ?_
   refine w_nil (xn_then (w_condF rfl (w_skip (xn_blk (xn_then (w_reg ?_))))))
   refine wl_b .add 3 (.tmp 23) (.const (.int .i64 (1))) (.int .i64 (1)) (.int .i64 (1)) (.int .i64 (2)) (by kernel_rfl) ?_
   refine wl_m (.tmp 36) (.int .i64 (2)) ?_
   refine w_nil ?_
   refine xn_rounds ?_
   refine w_seq (w_reg ?_)
   refine wl_b .lss 3 (.tmp 23) (.tmp 22) (.int .i64 (2)) (.int .i64 (5)) (.bool true) (lt3 (r := true) rfl _ _ _) ?_
   refine w_nil (xn_then (w_seq (w_condT rfl (w_skip (xn_then (w_seq (w_block (w_seq (w_reg ?_)))))))))
   refine wl_bin (fun x y => Instr.indexAt 98 x y) (.tmp 21) (.tmp 23) (.slice (some ⟨k3, 0, none⟩) 5 5) (.int .i64 (2)) (pt k3 2) (fun _ => rfl) rfl rfl (ix98 (i := 2) rfl (by decide) _) rfl ?_
   refine wl_l 97 (.tmp 25) (pt k3 2) (.func (.func 45) #[pt z.cb 0] #[]) (run_one Q3 97 2 rfl Tryd.underlying97 rfl) ?_
   refine wl_m (.tmp 26) (.func (.func 45) #[pt z.cb 0] #[]) ?_
   refine w_nil (xn_then (w_seq (w_reg ?_)))
   refine wl_m (.tmp 6) (.func (.func 45) #[pt z.cb 0] #[]) ?_
   cases hf2 : (seR (tbA z.d.tb z.d.tb.length) z.L).isNone with
   | true =>
    have ho32 := isnn hf2
    have hcn := sections_n (T := tbA z.d.tb z.d.tb.length) (by rw [stI_00, stK_00]; exact hC1.mo M) (by rw [hzL]; exact fla_len _)
    rw [ho32] at hcn
    refine wl_callv 45 (.tmp 28) #[pt z.cb 0] #[] [] _ [] [pt z.cb 0] rfl rfl rfl rfl (fun _ _ => by kernel_rfl) hcn rfl ?_
    rintro x9 w11 ⟨rfl, hK9, hC9⟩
    refine ⟨_, rfl, ?_⟩
    replace Q1 := Q1.kp (hK9.kp (fun j hj => hC1.nocell hj M)) hK9.fz
    replace Q2 := Q2.kp (hK9.kp (fun j hj => hC1.nocell hj M)) hK9.fz
    replace Q3 := Q3.kp (hK9.kp (fun j hj => hC1.nocell hj M)) hK9.fz
    replace Q4 := Q4.kp (hK9.kp (fun j hj => hC1.nocell hj M)) hK9.fz
    replace Q5 := Q5.kp (hK9.kp (fun j hj => hC1.nocell hj M)) hK9.fz
    replace MK := (MK.trans M).tr hK9 (fun j hj e => by have := hzD j e; omega)
    clear M hcn
    have M : Mo w11 w11 := Mo.refl _
    have hC2 := hC9 rfl
    rw [show (⟨tbA z.d.tb z.d.tb.length, stI z.L z.L.length 0, stK z.L z.L.length⟩ : Al) = AL by rw [hAL]; unfold alF; rw [← hzL]] at hC2
    clear hC9 hK9
    refine wl_m (.tmp 29) (.tuple #[.agg #[.int .i64 (0), .int .i64 (0), .int .i64 (0), .int .i64 (0), .int .i64 (0)], .int .i64 (0)]) ?_
    refine wl_un (fun v => Instr.extract v 0) (.tmp 27) (.tuple #[.agg #[.int .i64 (0), .int .i64 (0), .int .i64 (0), .int .i64 (0), .int .i64 (0)], .int .i64 (0)]) (.agg #[.int .i64 (0), .int .i64 (0), .int .i64 (0), .int .i64 (0), .int .i64 (0)]) (fun _ => rfl) rfl (by kernel_rfl) rfl ?_
    refine wl_un (fun v => Instr.extract v 1) (.tmp 27) (.tuple #[.agg #[.int .i64 (0), .int .i64 (0), .int .i64 (0), .int .i64 (0), .int .i64 (0)], .int .i64 (0)]) (.int .i64 (0)) (fun _ => rfl) rfl (by kernel_rfl) rfl ?_
    refine wl_alloc 52 #[.int .i64 0, .int .i64 0, .int .i64 0, .int .i64 0, .int .i64 0] rfl (fun _ => by kernel_rfl) rfl ?_
    intro k6 w12 hk hz hq Q6
    have ne_k1_k6 : k1 ≠ k6 := by have := Q1.lt; omega
    have ne_k2_k6 : k2 ≠ k6 := by have := Q2.lt; omega
    have ne_k3_k6 : k3 ≠ k6 := by have := Q3.lt; omega
    have ne_k4_k6 : k4 ≠ k6 := by have := Q4.lt; omega
    have ne_k5_k6 : k5 ≠ k6 := by have := Q5.lt; omega
    have N_k6 : w11.heap.size ≤ k6 := by have := M.size; omega
    replace Q1 := Q1.mo hq
    replace Q2 := Q2.mo hq
    replace Q3 := Q3.mo hq
    replace Q4 := Q4.mo hq
    replace Q5 := Q5.mo hq
    replace M := M.trans hq
    clear hk hz hq
    refine wl_st 52 (.tmp 7) (.tmp 30) k6 0 #[.int .i64 (0), .int .i64 (0), .int .i64 (0), .int .i64 (0), .int .i64 (0)] _ [.int .i64 (0), .int .i64 (0), .int .i64 (0), .int .i64 (0), .int .i64 (0)] Q6 rfl rfl rfl rfl rfl sz52 rfl rfl rfl ?_
    intro w13 hS Qn
    replace Q6 := Qn
    clear Qn
    replace Q1 := hS.other _ _ ne_k1_k6 Q1
    replace Q2 := hS.other _ _ ne_k2_k6 Q2
    replace Q3 := hS.other _ _ ne_k3_k6 Q3
    replace Q4 := hS.other _ _ ne_k4_k6 Q4
    replace Q5 := hS.other _ _ ne_k5_k6 Q5
    replace M := hS.mo _ N_k6 M
    clear hS
    refine wl_m (.tmp 31) (.int .i64 (0)) ?_
    refine w_nil (xn_then (w_seq (w_reg ?_)))
    refine wl_m (.tmp 8) (.int .i64 (0)) ?_
    refine wl_b .neq 31 (.tmp 32) (.const (.int .i64 (0))) (.int .i64 (0)) (.int .i64 (0)) (.bool false) (ne34 (r := true) rfl _ _ _) ?_
    refine w_nil (xn_then (w_condF rfl (w_skip (xn_blk (xn_then (w_reg ?_))))))
    refine wl_b .add 3 (.tmp 23) (.const (.int .i64 (1))) (.int .i64 (2)) (.int .i64 (1)) (.int .i64 (3)) (by kernel_rfl) ?_
    refine wl_m (.tmp 36) (.int .i64 (3)) ?_
    refine w_nil ?_
    refine xn_rounds ?_
    refine w_seq (w_reg ?_)
    refine wl_b .lss 3 (.tmp 23) (.tmp 22) (.int .i64 (3)) (.int .i64 (5)) (.bool true) (lt3 (r := true) rfl _ _ _) ?_
    refine w_nil (xn_then (w_seq (w_condT rfl (w_skip (xn_then (w_seq (w_block (w_seq (w_reg ?_)))))))))
    refine wl_bin (fun x y => Instr.indexAt 98 x y) (.tmp 21) (.tmp 23) (.slice (some ⟨k3, 0, none⟩) 5 5) (.int .i64 (3)) (pt k3 3) (fun _ => rfl) rfl rfl (ix98 (i := 3) rfl (by decide) _) rfl ?_
    refine wl_l 97 (.tmp 25) (pt k3 3) (.func (.func 46) #[pt z.cb 0] #[]) (run_one Q3 97 3 rfl Tryd.underlying97 rfl) ?_
    refine wl_m (.tmp 26) (.func (.func 46) #[pt z.cb 0] #[]) ?_
    refine w_nil (xn_then (w_seq (w_reg ?_)))
    refine wl_m (.tmp 6) (.func (.func 46) #[pt z.cb 0] #[]) ?_
    cases hf3 : (foR z.L AL).isNone with
    | true =>
     have ho33 := isnn hf3
     have hcn := formulas_n (A := AL) (hC2.mo M)
     rw [ho33] at hcn
     refine wl_callv 46 (.tmp 28) #[pt z.cb 0] #[] [] _ [] [pt z.cb 0] rfl rfl rfl rfl (fun _ _ => by kernel_rfl) hcn rfl ?_
     rintro x9 w14 ⟨rfl, hq⟩
     refine ⟨_, rfl, ?_⟩
     replace Q1 := Q1.mo hq
     replace Q2 := Q2.mo hq
     replace Q3 := Q3.mo hq
     replace Q4 := Q4.mo hq
     replace Q5 := Q5.mo hq
     replace Q6 := Q6.mo hq
     replace M := M.trans hq
     clear hq hcn
     refine wl_m (.tmp 29) (.tuple #[.agg #[.int .i64 (0), .int .i64 (0), .int .i64 (0), .int .i64 (0), .int .i64 (0)], .int .i64 (0)]) ?_
     refine wl_un (fun v => Instr.extract v 0) (.tmp 27) (.tuple #[.agg #[.int .i64 (0), .int .i64 (0), .int .i64 (0), .int .i64 (0), .int .i64 (0)], .int .i64 (0)]) (.agg #[.int .i64 (0), .int .i64 (0), .int .i64 (0), .int .i64 (0), .int .i64 (0)]) (fun _ => rfl) rfl (by kernel_rfl) rfl ?_
     refine wl_un (fun v => Instr.extract v 1) (.tmp 27) (.tuple #[.agg #[.int .i64 (0), .int .i64 (0), .int .i64 (0), .int .i64 (0), .int .i64 (0)], .int .i64 (0)]) (.int .i64 (0)) (fun _ => rfl) rfl (by kernel_rfl) rfl ?_
     refine wl_alloc 52 #[.int .i64 0, .int .i64 0, .int .i64 0, .int .i64 0, .int .i64 0] rfl (fun _ => by kernel_rfl) rfl ?_
     intro k7 w15 hk hz hq Q7
     have ne_k1_k7 : k1 ≠ k7 := by have := Q1.lt; omega
     have ne_k2_k7 : k2 ≠ k7 := by have := Q2.lt; omega
     have ne_k3_k7 : k3 ≠ k7 := by have := Q3.lt; omega
     have ne_k4_k7 : k4 ≠ k7 := by have := Q4.lt; omega
     have ne_k5_k7 : k5 ≠ k7 := by have := Q5.lt; omega
     have ne_k6_k7 : k6 ≠ k7 := by have := Q6.lt; omega
     have N_k7 : w11.heap.size ≤ k7 := by have := M.size; omega
     replace Q1 := Q1.mo hq
     replace Q2 := Q2.mo hq
     replace Q3 := Q3.mo hq
     replace Q4 := Q4.mo hq
     replace Q5 := Q5.mo hq
     replace Q6 := Q6.mo hq
     replace M := M.trans hq
     clear hk hz hq
     refine wl_st 52 (.tmp 7) (.tmp 30) k7 0 #[.int .i64 (0), .int .i64 (0), .int .i64 (0), .int .i64 (0), .int .i64 (0)] _ [.int .i64 (0), .int .i64 (0), .int .i64 (0), .int .i64 (0), .int .i64 (0)] Q7 rfl rfl rfl rfl rfl sz52 rfl rfl rfl ?_
     intro w16 hS Qn
     replace Q7 := Qn
     clear Qn
     replace Q1 := hS.other _ _ ne_k1_k7 Q1
     replace Q2 := hS.other _ _ ne_k2_k7 Q2
     replace Q3 := hS.other _ _ ne_k3_k7 Q3
     replace Q4 := hS.other _ _ ne_k4_k7 Q4
     replace Q5 := hS.other _ _ ne_k5_k7 Q5
     replace Q6 := hS.other _ _ ne_k6_k7 Q6
     replace M := hS.mo _ N_k7 M
     clear hS
     refine wl_m (.tmp 31) (.int .i64 (0)) ?_
     refine w_nil (xn_then (w_seq (w_reg ?_)))
     refine wl_m (.tmp 8) (.int .i64 (0)) ?_
     refine wl_b .neq 31 (.tmp 32) (.const (.int .i64 (0))) (.int .i64 (0)) (.int .i64 (0)) (.bool false) (ne34 (r := true) rfl _ _ _) ?_
     refine w_nil (xn_then (w_condF rfl (w_skip (xn_blk (xn_then (w_reg ?_))))))
     refine wl_b .add 3 (.tmp 23) (.const (.int .i64 (1))) (.int .i64 (3)) (.int .i64 (1)) (.int .i64 (4)) (by kernel_rfl) ?_
     refine wl_m (.tmp 36) (.int .i64 (4)) ?_
     refine w_nil ?_
     refine xn_rounds ?_
     refine w_seq (w_reg ?_)
     refine wl_b .lss 3 (.tmp 23) (.tmp 22) (.int .i64 (4)) (.int .i64 (5)) (.bool true) (lt3 (r := true) rfl _ _ _) ?_
     refine w_nil (xn_then (w_seq (w_condT rfl (w_skip (xn_then (w_seq (w_block (w_seq (w_reg ?_)))))))))
     refine wl_bin (fun x y => Instr.indexAt 98 x y) (.tmp 21) (.tmp 23) (.slice (some ⟨k3, 0, none⟩) 5 5) (.int .i64 (4)) (pt k3 4) (fun _ => rfl) rfl rfl (ix98 (i := 4) rfl (by decide) _) rfl ?_
     refine wl_l 97 (.tmp 25) (pt k3 4) (.func (.func 47) #[pt z.cb 0] #[]) (run_one Q3 97 4 rfl Tryd.underlying97 rfl) ?_
     refine wl_m (.tmp 26) (.func (.func 47) #[pt z.cb 0] #[]) ?_
     refine w_nil (xn_then (w_seq (w_reg ?_)))
     refine wl_m (.tmp 6) (.func (.func 47) #[pt z.cb 0] #[]) ?_
     cases hf4 : (pgR z.L AL z.d.pg).isNone with
     | true =>
      have ho34 := isnn hf4
      have hcn := pages_n (A := AL) (hC2.mo M) (by rw [hzL]; exact fla_pos _) (whE_0 hf0p).2.1
      rw [ho34] at hcn
      refine wl_callv 47 (.tmp 28) #[pt z.cb 0] #[] [] _ [] [pt z.cb 0] rfl rfl rfl rfl (fun _ _ => by kernel_rfl) hcn rfl ?_
      rintro x9 w17 ⟨rfl, hq⟩
      refine ⟨_, rfl, ?_⟩
      replace Q1 := Q1.mo hq
      replace Q2 := Q2.mo hq
      replace Q3 := Q3.mo hq
      replace Q4 := Q4.mo hq
      replace Q5 := Q5.mo hq
      replace Q6 := Q6.mo hq
      replace Q7 := Q7.mo hq
      replace M := M.trans hq
      clear hq hcn
      refine wl_m (.tmp 29) (.tuple #[.agg #[.int .i64 (0), .int .i64 (0), .int .i64 (0), .int .i64 (0), .int .i64 (0)], .int .i64 (0)]) ?_
      refine wl_un (fun v => Instr.extract v 0) (.tmp 27) (.tuple #[.agg #[.int .i64 (0), .int .i64 (0), .int .i64 (0), .int .i64 (0), .int .i64 (0)], .int .i64 (0)]) (.agg #[.int .i64 (0), .int .i64 (0), .int .i64 (0), .int .i64 (0), .int .i64 (0)]) (fun _ => rfl) rfl (by kernel_rfl) rfl ?_
      refine wl_un (fun v => Instr.extract v 1) (.tmp 27) (.tuple #[.agg #[.int .i64 (0), .int .i64 (0), .int .i64 (0), .int .i64 (0), .int .i64 (0)], .int .i64 (0)]) (.int .i64 (0)) (fun _ => rfl) rfl (by kernel_rfl) rfl ?_
      refine wl_alloc 52 #[.int .i64 0, .int .i64 0, .int .i64 0, .int .i64 0, .int .i64 0] rfl (fun _ => by kernel_rfl) rfl ?_
      intro k8 w18 hk hz hq Q8
      have ne_k1_k8 : k1 ≠ k8 := by have := Q1.lt; omega
      have ne_k2_k8 : k2 ≠ k8 := by have := Q2.lt; omega
      have ne_k3_k8 : k3 ≠ k8 := by have := Q3.lt; omega
      have ne_k4_k8 : k4 ≠ k8 := by have := Q4.lt; omega
      have ne_k5_k8 : k5 ≠ k8 := by have := Q5.lt; omega
      have ne_k6_k8 : k6 ≠ k8 := by have := Q6.lt; omega
      have ne_k7_k8 : k7 ≠ k8 := by have := Q7.lt; omega
      have N_k8 : w11.heap.size ≤ k8 := by have := M.size; omega
      replace Q1 := Q1.mo hq
      replace Q2 := Q2.mo hq
      replace Q3 := Q3.mo hq
      replace Q4 := Q4.mo hq
      replace Q5 := Q5.mo hq
      replace Q6 := Q6.mo hq
      replace Q7 := Q7.mo hq
      replace M := M.trans hq
      clear hk hz hq
      refine wl_st 52 (.tmp 7) (.tmp 30) k8 0 #[.int .i64 (0), .int .i64 (0), .int .i64 (0), .int .i64 (0), .int .i64 (0)] _ [.int .i64 (0), .int .i64 (0), .int .i64 (0), .int .i64 (0), .int .i64 (0)] Q8 rfl rfl rfl rfl rfl sz52 rfl rfl rfl ?_
      intro w19 hS Qn
      replace Q8 := Qn
      clear Qn
      replace Q1 := hS.other _ _ ne_k1_k8 Q1
      replace Q2 := hS.other _ _ ne_k2_k8 Q2
      replace Q3 := hS.other _ _ ne_k3_k8 Q3
      replace Q4 := hS.other _ _ ne_k4_k8 Q4
      replace Q5 := hS.other _ _ ne_k5_k8 Q5
      replace Q6 := hS.other _ _ ne_k6_k8 Q6
      replace Q7 := hS.other _ _ ne_k7_k8 Q7
      replace M := hS.mo _ N_k8 M
      clear hS
      refine wl_m (.tmp 31) (.int .i64 (0)) ?_
      refine w_nil (xn_then (w_seq (w_reg ?_)))
      refine wl_m (.tmp 8) (.int .i64 (0)) ?_
      refine wl_b .neq 31 (.tmp 32) (.const (.int .i64 (0))) (.int .i64 (0)) (.int .i64 (0)) (.bool false) (ne34 (r := true) rfl _ _ _) ?_
      refine w_nil (xn_then (w_condF rfl (w_skip (xn_blk (xn_then (w_reg ?_))))))
      refine wl_b .add 3 (.tmp 23) (.const (.int .i64 (1))) (.int .i64 (4)) (.int .i64 (1)) (.int .i64 (5)) (by kernel_rfl) ?_
      refine wl_m (.tmp 36) (.int .i64 (5)) ?_
      refine w_nil ?_
      refine xn_rounds ?_
      refine w_seq (w_reg ?_)
      refine wl_b .lss 3 (.tmp 23) (.tmp 22) (.int .i64 (5)) (.int .i64 (5)) (.bool false) (lt3 (r := false) rfl _ _ _) ?_
      refine w_nil (xn_then (w_seq (w_condF rfl (w_exit (xx_then (xx_then (xx_blk (xn_then (w_seq (w_reg ?_))))))))))
      refine wl_build 52 [] [] (.agg #[.int .i64 0, .int .i64 0, .int .i64 0, .int .i64 0, .int .i64 0]) rfl rfl (by kernel_rfl) rfl ?_
      refine wl_stm 52 (.tmp 2) (.tmp 37) k2 0 #[.int .i64 0, .int .i64 0, .int .i64 0, .int .i64 0, .int .i64 0] [.int .i64 0, .int .i64 0, .int .i64 0, .int .i64 0, .int .i64 0] [.int .i64 0, .int .i64 0, .int .i64 0, .int .i64 0, .int .i64 0] Q2 rfl rfl rfl rfl rfl sz52 rfl rfl rfl ?_
      intro w20 hS hm9 Qn
      replace Q2 := Qn
      clear Qn
      replace Q1 := hS.other _ _ ne_k1_k2 Q1
      replace Q3 := hS.other _ _ ne_k2_k3.symm Q3
      replace Q4 := hS.other _ _ ne_k2_k4.symm Q4
      replace Q5 := hS.other _ _ ne_k2_k5.symm Q5
      replace Q6 := hS.other _ _ ne_k2_k6.symm Q6
      replace Q7 := hS.other _ _ ne_k2_k7.symm Q7
      replace Q8 := hS.other _ _ ne_k2_k8.symm Q8
      have hmT := (Mk.of (fun j => j = k2) M).same hm9
      replace MK := (MK.trans M).tr hm9 (fun j hj e => by omega)
      clear M hS hm9
      have M : Mo w20 w20 := Mo.refl _
      refine wl_m (.const (.int .i64 (0))) (.int .i64 (0)) ?_
      refine w_nil (xn_then (w_ret ?_))
      exact w_ret2 _ _ (.agg #[.int .i64 0, .int .i64 0, .int .i64 0, .int .i64 0, .int .i64 0]) (.int .i64 (0)) rfl ⟨k2, rfl, (run_row Q2 52 0 5 _ rfl Tryd.underlying52 rfl sz52)⟩ rfl ⟨by unfold chk; rw [← hAL, ← hzL, er_0 hf0p, Option.none_or, ho31, Option.none_or, ho32, Option.none_or, ho33, Option.none_or, ho34]; rfl, (MK.trans M).mo (Mo.refl _) (fun _ h => h.elim)⟩
     | false =>
      obtain ⟨k9, s9, i9, t9, p9, e9, ho34, hne34⟩ := Pk.some (pk_pg _ _ _) hf4
      have hcn := pages_n (A := AL) (hC2.mo M) (by rw [hzL]; exact fla_pos _) (whE_0 hf0p).2.1
      rw [ho34] at hcn
      refine wl_callv 47 (.tmp 28) #[pt z.cb 0] #[] [] _ [] [pt z.cb 0] rfl rfl rfl rfl (fun _ _ => by kernel_rfl) hcn rfl ?_
      rintro x9 w17 ⟨rfl, hq⟩
      refine ⟨_, rfl, ?_⟩
      replace Q1 := Q1.mo hq
      replace Q2 := Q2.mo hq
      replace Q3 := Q3.mo hq
      replace Q4 := Q4.mo hq
      replace Q5 := Q5.mo hq
      replace Q6 := Q6.mo hq
      replace Q7 := Q7.mo hq
      replace M := M.trans hq
      clear hq hcn
      refine wl_m (.tmp 29) (.tuple #[.agg #[.int .i64 k9, .int .i64 s9, .int .i64 i9, .int .i64 t9, .int .i64 p9], .int .i64 (e9)]) ?_
      refine wl_un (fun v => Instr.extract v 0) (.tmp 27) (.tuple #[.agg #[.int .i64 k9, .int .i64 s9, .int .i64 i9, .int .i64 t9, .int .i64 p9], .int .i64 (e9)]) (.agg #[.int .i64 k9, .int .i64 s9, .int .i64 i9, .int .i64 t9, .int .i64 p9]) (fun _ => rfl) rfl (by kernel_rfl) rfl ?_
      refine wl_un (fun v => Instr.extract v 1) (.tmp 27) (.tuple #[.agg #[.int .i64 k9, .int .i64 s9, .int .i64 i9, .int .i64 t9, .int .i64 p9], .int .i64 (e9)]) (.int .i64 (e9)) (fun _ => rfl) rfl (by kernel_rfl) rfl ?_
      refine wl_alloc 52 #[.int .i64 0, .int .i64 0, .int .i64 0, .int .i64 0, .int .i64 0] rfl (fun _ => by kernel_rfl) rfl ?_
      intro k8 w18 hk hz hq Q8
      have ne_k1_k8 : k1 ≠ k8 := by have := Q1.lt; omega
      have ne_k2_k8 : k2 ≠ k8 := by have := Q2.lt; omega
      have ne_k3_k8 : k3 ≠ k8 := by have := Q3.lt; omega
      have ne_k4_k8 : k4 ≠ k8 := by have := Q4.lt; omega
      have ne_k5_k8 : k5 ≠ k8 := by have := Q5.lt; omega
      have ne_k6_k8 : k6 ≠ k8 := by have := Q6.lt; omega
      have ne_k7_k8 : k7 ≠ k8 := by have := Q7.lt; omega
      have N_k8 : w11.heap.size ≤ k8 := by have := M.size; omega
      replace Q1 := Q1.mo hq
      replace Q2 := Q2.mo hq
      replace Q3 := Q3.mo hq
      replace Q4 := Q4.mo hq
      replace Q5 := Q5.mo hq
      replace Q6 := Q6.mo hq
      replace Q7 := Q7.mo hq
      replace M := M.trans hq
      clear hk hz hq
      refine wl_st 52 (.tmp 7) (.tmp 30) k8 0 #[.int .i64 k9, .int .i64 s9, .int .i64 i9, .int .i64 t9, .int .i64 p9] _ [.int .i64 k9, .int .i64 s9, .int .i64 i9, .int .i64 t9, .int .i64 p9] Q8 rfl rfl rfl rfl rfl sz52 rfl rfl rfl ?_
      intro w19 hS Qn
      replace Q8 := Qn
      clear Qn
      replace Q1 := hS.other _ _ ne_k1_k8 Q1
      replace Q2 := hS.other _ _ ne_k2_k8 Q2
      replace Q3 := hS.other _ _ ne_k3_k8 Q3
      replace Q4 := hS.other _ _ ne_k4_k8 Q4
      replace Q5 := hS.other _ _ ne_k5_k8 Q5
      replace Q6 := hS.other _ _ ne_k6_k8 Q6
      replace Q7 := hS.other _ _ ne_k7_k8 Q7
      replace M := hS.mo _ N_k8 M
      clear hS
      refine wl_m (.tmp 31) (.int .i64 (e9)) ?_
      refine w_nil (xn_then (w_seq (w_reg ?_)))
      refine wl_m (.tmp 8) (.int .i64 (e9)) ?_
      refine wl_b .neq 31 (.tmp 32) (.const (.int .i64 (0))) (.int .i64 (e9)) (.int .i64 (0)) (.bool true) (ne34 (decide_eq_false hne34) _ _ _) ?_
      refine w_nil (xn_then (w_condT rfl (w_seq (w_reg ?_))))
      refine wl_l 52 (.tmp 7) (pt k8 0) (.agg #[.int .i64 k9, .int .i64 s9, .int .i64 i9, .int .i64 t9, .int .i64 p9]) (run_row Q8 52 0 5 _ rfl Tryd.underlying52 rfl sz52) ?_
      refine wl_m (.tmp 8) (.int .i64 (e9)) ?_
      refine wl_stm 52 (.tmp 2) (.tmp 34) k2 0 #[.int .i64 k9, .int .i64 s9, .int .i64 i9, .int .i64 t9, .int .i64 p9] [.int .i64 0, .int .i64 0, .int .i64 0, .int .i64 0, .int .i64 0] [.int .i64 k9, .int .i64 s9, .int .i64 i9, .int .i64 t9, .int .i64 p9] Q2 rfl rfl rfl rfl rfl sz52 rfl rfl rfl ?_
      intro w20 hS hm9 Qn
      replace Q2 := Qn
      clear Qn
      replace Q1 := hS.other _ _ ne_k1_k2 Q1
      replace Q3 := hS.other _ _ ne_k2_k3.symm Q3
      replace Q4 := hS.other _ _ ne_k2_k4.symm Q4
      replace Q5 := hS.other _ _ ne_k2_k5.symm Q5
      replace Q6 := hS.other _ _ ne_k2_k6.symm Q6
      replace Q7 := hS.other _ _ ne_k2_k7.symm Q7
      replace Q8 := hS.other _ _ ne_k2_k8.symm Q8
      have hmT := (Mk.of (fun j => j = k2) M).same hm9
      replace MK := (MK.trans M).tr hm9 (fun j hj e => by omega)
      clear M hS hm9
      have M : Mo w20 w20 := Mo.refl _
      refine wl_m (.tmp 35) (.int .i64 (e9)) ?_
      refine w_nil (xn_then (w_ret (xr_blk (xr_then (xr_then (xr_blk (xr_then ?_)))))))
      exact w_ret2 _ _ (.agg #[.int .i64 k9, .int .i64 s9, .int .i64 i9, .int .i64 t9, .int .i64 p9]) (.int .i64 (e9)) rfl ⟨k2, rfl, (run_row Q2 52 0 5 _ rfl Tryd.underlying52 rfl sz52)⟩ rfl ⟨by unfold chk; rw [← hAL, ← hzL, er_0 hf0p, Option.none_or, ho31, Option.none_or, ho32, Option.none_or, ho33, Option.none_or, ho34]; rfl, (MK.trans M).mo (Mo.refl _) (fun _ h => h.elim)⟩
    | false =>
     obtain ⟨k9, s9, i9, t9, p9, e9, ho33, hne33⟩ := Pk.some (pk_fo _ _) hf3
     have hcn := formulas_n (A := AL) (hC2.mo M)
     rw [ho33] at hcn
     refine wl_callv 46 (.tmp 28) #[pt z.cb 0] #[] [] _ [] [pt z.cb 0] rfl rfl rfl rfl (fun _ _ => by kernel_rfl) hcn rfl ?_
     rintro x9 w14 ⟨rfl, hq⟩
     refine ⟨_, rfl, ?_⟩
     replace Q1 := Q1.mo hq
     replace Q2 := Q2.mo hq
     replace Q3 := Q3.mo hq
     replace Q4 := Q4.mo hq
     replace Q5 := Q5.mo hq
     replace Q6 := Q6.mo hq
     replace M := M.trans hq
     clear hq hcn
     refine wl_m (.tmp 29) (.tuple #[.agg #[.int .i64 k9, .int .i64 s9, .int .i64 i9, .int .i64 t9, .int .i64 p9], .int .i64 (e9)]) ?_
     refine wl_un (fun v => Instr.extract v 0) (.tmp 27) (.tuple #[.agg #[.int .i64 k9, .int .i64 s9, .int .i64 i9, .int .i64 t9, .int .i64 p9], .int .i64 (e9)]) (.agg #[.int .i64 k9, .int .i64 s9, .int .i64 i9, .int .i64 t9, .int .i64 p9]) (fun _ => rfl) rfl (by kernel_rfl) rfl ?_
     refine wl_un (fun v => Instr.extract v 1) (.tmp 27) (.tuple #[.agg #[.int .i64 k9, .int .i64 s9, .int .i64 i9, .int .i64 t9, .int .i64 p9], .int .i64 (e9)]) (.int .i64 (e9)) (fun _ => rfl) rfl (by kernel_rfl) rfl ?_
     refine wl_alloc 52 #[.int .i64 0, .int .i64 0, .int .i64 0, .int .i64 0, .int .i64 0] rfl (fun _ => by kernel_rfl) rfl ?_
     intro k7 w15 hk hz hq Q7
     have ne_k1_k7 : k1 ≠ k7 := by have := Q1.lt; omega
     have ne_k2_k7 : k2 ≠ k7 := by have := Q2.lt; omega
     have ne_k3_k7 : k3 ≠ k7 := by have := Q3.lt; omega
     have ne_k4_k7 : k4 ≠ k7 := by have := Q4.lt; omega
     have ne_k5_k7 : k5 ≠ k7 := by have := Q5.lt; omega
     have ne_k6_k7 : k6 ≠ k7 := by have := Q6.lt; omega
     have N_k7 : w11.heap.size ≤ k7 := by have := M.size; omega
     replace Q1 := Q1.mo hq
     replace Q2 := Q2.mo hq
     replace Q3 := Q3.mo hq
     replace Q4 := Q4.mo hq
     replace Q5 := Q5.mo hq
     replace Q6 := Q6.mo hq
     replace M := M.trans hq
     clear hk hz hq
     refine wl_st 52 (.tmp 7) (.tmp 30) k7 0 #[.int .i64 k9, .int .i64 s9, .int .i64 i9, .int .i64 t9, .int .i64 p9] _ [.int .i64 k9, .int .i64 s9, .int .i64 i9, .int .i64 t9, .int .i64 p9] Q7 rfl rfl rfl rfl rfl sz52 rfl rfl rfl ?_
     intro w16 hS Qn
     replace Q7 := Qn
     clear Qn
     replace Q1 := hS.other _ _ ne_k1_k7 Q1
     replace Q2 := hS.other _ _ ne_k2_k7 Q2
     replace Q3 := hS.other _ _ ne_k3_k7 Q3
     replace Q4 := hS.other _ _ ne_k4_k7 Q4
     replace Q5 := hS.other _ _ ne_k5_k7 Q5
     replace Q6 := hS.other _ _ ne_k6_k7 Q6
     replace M := hS.mo _ N_k7 M
     clear hS
     refine wl_m (.tmp 31) (.int .i64 (e9)) ?_
     refine w_nil (xn_then (w_seq (w_reg ?_)))
     refine wl_m (.tmp 8) (.int .i64 (e9)) ?_
     refine wl_b .neq 31 (.tmp 32) (.const (.int .i64 (0))) (.int .i64 (e9)) (.int .i64 (0)) (.bool true) (ne34 (decide_eq_false hne33) _ _ _) ?_
     refine w_nil (xn_then (w_condT rfl (w_seq (w_reg ?_))))
     refine wl_l 52 (.tmp 7) (pt k7 0) (.agg #[.int .i64 k9, .int .i64 s9, .int .i64 i9, .int .i64 t9, .int .i64 p9]) (run_row Q7 52 0 5 _ rfl Tryd.underlying52 rfl sz52) ?_
     refine wl_m (.tmp 8) (.int .i64 (e9)) ?_
     refine wl_stm 52 (.tmp 2) (.tmp 34) k2 0 #[.int .i64 k9, .int .i64 s9, .int .i64 i9, .int .i64 t9, .int .i64 p9] [.int .i64 0, .int .i64 0, .int .i64 0, .int .i64 0, .int .i64 0] [.int .i64 k9, .int .i64 s9, .int .i64 i9, .int .i64 t9, .int .i64 p9] Q2 rfl rfl rfl rfl rfl sz52 rfl rfl rfl ?_
     intro w17 hS hm9 Qn
     replace Q2 := Qn
     clear Qn
     replace Q1 := hS.other _ _ ne_k1_k2 Q1
     replace Q3 := hS.other _ _ ne_k2_k3.symm Q3
     replace Q4 := hS.other _ _ ne_k2_k4.symm Q4
     replace Q5 := hS.other _ _ ne_k2_k5.symm Q5
     replace Q6 := hS.other _ _ ne_k2_k6.symm Q6
     replace Q7 := hS.other _ _ ne_k2_k7.symm Q7
     have hmT := (Mk.of (fun j => j = k2) M).same hm9
     replace MK := (MK.trans M).tr hm9 (fun j hj e => by omega)
     clear M hS hm9
     have M : Mo w17 w17 := Mo.refl _
     refine wl_m (.tmp 35) (.int .i64 (e9)) ?_
     refine w_nil (xn_then (w_ret (xr_blk (xr_then (xr_then (xr_blk (xr_then ?_)))))))
     exact w_ret2 _ _ (.agg #[.int .i64 k9, .int .i64 s9, .int .i64 i9, .int .i64 t9, .int .i64 p9]) (.int .i64 (e9)) rfl ⟨k2, rfl, (run_row Q2 52 0 5 _ rfl Tryd.underlying52 rfl sz52)⟩ rfl ⟨by unfold chk; rw [← hAL, ← hzL, er_0 hf0p, Option.none_or, ho31, Option.none_or, ho32, Option.none_or, ho33]; rfl, (MK.trans M).mo (Mo.refl _) (fun _ h => h.elim)⟩
   | false =>
    obtain ⟨k9, s9, i9, t9, p9, e9, ho32, hne32⟩ := Pk.some (pk_se _ _) hf2
    have hcn := sections_n (T := tbA z.d.tb z.d.tb.length) (by rw [stI_00, stK_00]; exact hC1.mo M) (by rw [hzL]; exact fla_len _)
    rw [ho32] at hcn
    refine wl_callv 45 (.tmp 28) #[pt z.cb 0] #[] [] _ [] [pt z.cb 0] rfl rfl rfl rfl (fun _ _ => by kernel_rfl) hcn rfl ?_
    rintro x9 w11 ⟨rfl, hK9, hC9⟩
    refine ⟨_, rfl, ?_⟩
    replace Q1 := Q1.kp (hK9.kp (fun j hj => hC1.nocell hj M)) hK9.fz
    replace Q2 := Q2.kp (hK9.kp (fun j hj => hC1.nocell hj M)) hK9.fz
    replace Q3 := Q3.kp (hK9.kp (fun j hj => hC1.nocell hj M)) hK9.fz
    replace Q4 := Q4.kp (hK9.kp (fun j hj => hC1.nocell hj M)) hK9.fz
    replace Q5 := Q5.kp (hK9.kp (fun j hj => hC1.nocell hj M)) hK9.fz
    replace MK := (MK.trans M).tr hK9 (fun j hj e => by have := hzD j e; omega)
    clear M hcn
    have M : Mo w11 w11 := Mo.refl _
    refine wl_m (.tmp 29) (.tuple #[.agg #[.int .i64 k9, .int .i64 s9, .int .i64 i9, .int .i64 t9, .int .i64 p9], .int .i64 (e9)]) ?_
    refine wl_un (fun v => Instr.extract v 0) (.tmp 27) (.tuple #[.agg #[.int .i64 k9, .int .i64 s9, .int .i64 i9, .int .i64 t9, .int .i64 p9], .int .i64 (e9)]) (.agg #[.int .i64 k9, .int .i64 s9, .int .i64 i9, .int .i64 t9, .int .i64 p9]) (fun _ => rfl) rfl (by kernel_rfl) rfl ?_
    refine wl_un (fun v => Instr.extract v 1) (.tmp 27) (.tuple #[.agg #[.int .i64 k9, .int .i64 s9, .int .i64 i9, .int .i64 t9, .int .i64 p9], .int .i64 (e9)]) (.int .i64 (e9)) (fun _ => rfl) rfl (by kernel_rfl) rfl ?_
    refine wl_alloc 52 #[.int .i64 0, .int .i64 0, .int .i64 0, .int .i64 0, .int .i64 0] rfl (fun _ => by kernel_rfl) rfl ?_
    intro k6 w12 hk hz hq Q6
    have ne_k1_k6 : k1 ≠ k6 := by have := Q1.lt; omega
    have ne_k2_k6 : k2 ≠ k6 := by have := Q2.lt; omega
    have ne_k3_k6 : k3 ≠ k6 := by have := Q3.lt; omega
    have ne_k4_k6 : k4 ≠ k6 := by have := Q4.lt; omega
    have ne_k5_k6 : k5 ≠ k6 := by have := Q5.lt; omega
    have N_k6 : w11.heap.size ≤ k6 := by have := M.size; omega
    replace Q1 := Q1.mo hq
    replace Q2 := Q2.mo hq
    replace Q3 := Q3.mo hq
    replace Q4 := Q4.mo hq
    replace Q5 := Q5.mo hq
    replace M := M.trans hq
    clear hk hz hq
    refine wl_st 52 (.tmp 7) (.tmp 30) k6 0 #[.int .i64 k9, .int .i64 s9, .int .i64 i9, .int .i64 t9, .int .i64 p9] _ [.int .i64 k9, .int .i64 s9, .int .i64 i9, .int .i64 t9, .int .i64 p9] Q6 rfl rfl rfl rfl rfl sz52 rfl rfl rfl ?_
    intro w13 hS Qn
    replace Q6 := Qn
    clear Qn
    replace Q1 := hS.other _ _ ne_k1_k6 Q1
    replace Q2 := hS.other _ _ ne_k2_k6 Q2
    replace Q3 := hS.other _ _ ne_k3_k6 Q3
    replace Q4 := hS.other _ _ ne_k4_k6 Q4
    replace Q5 := hS.other _ _ ne_k5_k6 Q5
    replace M := hS.mo _ N_k6 M
    clear hS
    refine wl_m (.tmp 31) (.int .i64 (e9)) ?_
    refine w_nil (xn_then (w_seq (w_reg ?_)))
    refine wl_m (.tmp 8) (.int .i64 (e9)) ?_
    refine wl_b .neq 31 (.tmp 32) (.const (.int .i64 (0))) (.int .i64 (e9)) (.int .i64 (0)) (.bool true) (ne34 (decide_eq_false hne32) _ _ _) ?_
    refine w_nil (xn_then (w_condT rfl (w_seq (w_reg ?_))))
    refine wl_l 52 (.tmp 7) (pt k6 0) (.agg #[.int .i64 k9, .int .i64 s9, .int .i64 i9, .int .i64 t9, .int .i64 p9]) (run_row Q6 52 0 5 _ rfl Tryd.underlying52 rfl sz52) ?_
    refine wl_m (.tmp 8) (.int .i64 (e9)) ?_
    refine wl_stm 52 (.tmp 2) (.tmp 34) k2 0 #[.int .i64 k9, .int .i64 s9, .int .i64 i9, .int .i64 t9, .int .i64 p9] [.int .i64 0, .int .i64 0, .int .i64 0, .int .i64 0, .int .i64 0] [.int .i64 k9, .int .i64 s9, .int .i64 i9, .int .i64 t9, .int .i64 p9] Q2 rfl rfl rfl rfl rfl sz52 rfl rfl rfl ?_
    intro w14 hS hm9 Qn
    replace Q2 := Qn
    clear Qn
    replace Q1 := hS.other _ _ ne_k1_k2 Q1
    replace Q3 := hS.other _ _ ne_k2_k3.symm Q3
    replace Q4 := hS.other _ _ ne_k2_k4.symm Q4
    replace Q5 := hS.other _ _ ne_k2_k5.symm Q5
    replace Q6 := hS.other _ _ ne_k2_k6.symm Q6
    have hmT := (Mk.of (fun j => j = k2) M).same hm9
    replace MK := (MK.trans M).tr hm9 (fun j hj e => by omega)
    clear M hS hm9
    have M : Mo w14 w14 := Mo.refl _
    refine wl_m (.tmp 35) (.int .i64 (e9)) ?_
    refine w_nil (xn_then (w_ret (xr_blk (xr_then (xr_then (xr_blk (xr_then ?_)))))))
    exact w_ret2 _ _ (.agg #[.int .i64 k9, .int .i64 s9, .int .i64 i9, .int .i64 t9, .int .i64 p9]) (.int .i64 (e9)) rfl ⟨k2, rfl, (run_row Q2 52 0 5 _ rfl Tryd.underlying52 rfl sz52)⟩ rfl ⟨by unfold chk; rw [← hAL, ← hzL, er_0 hf0p, Option.none_or, ho31, Option.none_or, ho32]; rfl, (MK.trans M).mo (Mo.refl _) (fun _ h => h.elim)⟩
  | false =>
   obtain ⟨k9, s9, i9, t9, p9, e9, ho31, hne31⟩ := Pk.some (pk_tb _) hf1
   have hcn := tables_n (hC.mo M) (whE_0 hf0p).1
   rw [ho31] at hcn
   refine wl_callv 44 (.tmp 28) #[pt z.cb 0] #[] [] _ [] [pt z.cb 0] rfl rfl rfl rfl (fun _ _ => by kernel_rfl) hcn rfl ?_
   rintro x9 w8 ⟨rfl, hK9, hC9⟩
   refine ⟨_, rfl, ?_⟩
   replace Q1 := Q1.kp (hK9.kp (fun j hj => hC.nocell hj M)) hK9.fz
   replace Q2 := Q2.kp (hK9.kp (fun j hj => hC.nocell hj M)) hK9.fz
   replace Q3 := Q3.kp (hK9.kp (fun j hj => hC.nocell hj M)) hK9.fz
   replace Q4 := Q4.kp (hK9.kp (fun j hj => hC.nocell hj M)) hK9.fz
   replace MK := (MK.trans M).tr hK9 (fun j hj e => by have := hzD j e; omega)
   clear M hcn
   have M : Mo w8 w8 := Mo.refl _
   refine wl_m (.tmp 29) (.tuple #[.agg #[.int .i64 k9, .int .i64 s9, .int .i64 i9, .int .i64 t9, .int .i64 p9], .int .i64 (e9)]) ?_
   refine wl_un (fun v => Instr.extract v 0) (.tmp 27) (.tuple #[.agg #[.int .i64 k9, .int .i64 s9, .int .i64 i9, .int .i64 t9, .int .i64 p9], .int .i64 (e9)]) (.agg #[.int .i64 k9, .int .i64 s9, .int .i64 i9, .int .i64 t9, .int .i64 p9]) (fun _ => rfl) rfl (by kernel_rfl) rfl ?_
   refine wl_un (fun v => Instr.extract v 1) (.tmp 27) (.tuple #[.agg #[.int .i64 k9, .int .i64 s9, .int .i64 i9, .int .i64 t9, .int .i64 p9], .int .i64 (e9)]) (.int .i64 (e9)) (fun _ => rfl) rfl (by kernel_rfl) rfl ?_
   refine wl_alloc 52 #[.int .i64 0, .int .i64 0, .int .i64 0, .int .i64 0, .int .i64 0] rfl (fun _ => by kernel_rfl) rfl ?_
   intro k5 w9 hk hz hq Q5
   have ne_k1_k5 : k1 ≠ k5 := by have := Q1.lt; omega
   have ne_k2_k5 : k2 ≠ k5 := by have := Q2.lt; omega
   have ne_k3_k5 : k3 ≠ k5 := by have := Q3.lt; omega
   have ne_k4_k5 : k4 ≠ k5 := by have := Q4.lt; omega
   have N_k5 : w8.heap.size ≤ k5 := by have := M.size; omega
   replace Q1 := Q1.mo hq
   replace Q2 := Q2.mo hq
   replace Q3 := Q3.mo hq
   replace Q4 := Q4.mo hq
   replace M := M.trans hq
   clear hk hz hq
   refine wl_st 52 (.tmp 7) (.tmp 30) k5 0 #[.int .i64 k9, .int .i64 s9, .int .i64 i9, .int .i64 t9, .int .i64 p9] _ [.int .i64 k9, .int .i64 s9, .int .i64 i9, .int .i64 t9, .int .i64 p9] Q5 rfl rfl rfl rfl rfl sz52 rfl rfl rfl ?_
   intro w10 hS Qn
   replace Q5 := Qn
   clear Qn
   replace Q1 := hS.other _ _ ne_k1_k5 Q1
   replace Q2 := hS.other _ _ ne_k2_k5 Q2
   replace Q3 := hS.other _ _ ne_k3_k5 Q3
   replace Q4 := hS.other _ _ ne_k4_k5 Q4
   replace M := hS.mo _ N_k5 M
   clear hS
   refine wl_m (.tmp 31) (.int .i64 (e9)) ?_
   refine w_nil (xn_then (w_seq (w_reg ?_)))
   refine wl_m (.tmp 8) (.int .i64 (e9)) ?_
   refine wl_b .neq 31 (.tmp 32) (.const (.int .i64 (0))) (.int .i64 (e9)) (.int .i64 (0)) (.bool true) (ne34 (decide_eq_false hne31) _ _ _) ?_
   refine w_nil (xn_then (w_condT rfl (w_seq (w_reg ?_))))
   refine wl_l 52 (.tmp 7) (pt k5 0) (.agg #[.int .i64 k9, .int .i64 s9, .int .i64 i9, .int .i64 t9, .int .i64 p9]) (run_row Q5 52 0 5 _ rfl Tryd.underlying52 rfl sz52) ?_
   refine wl_m (.tmp 8) (.int .i64 (e9)) ?_
   refine wl_stm 52 (.tmp 2) (.tmp 34) k2 0 #[.int .i64 k9, .int .i64 s9, .int .i64 i9, .int .i64 t9, .int .i64 p9] [.int .i64 0, .int .i64 0, .int .i64 0, .int .i64 0, .int .i64 0] [.int .i64 k9, .int .i64 s9, .int .i64 i9, .int .i64 t9, .int .i64 p9] Q2 rfl rfl rfl rfl rfl sz52 rfl rfl rfl ?_
   intro w11 hS hm9 Qn
   replace Q2 := Qn
   clear Qn
   replace Q1 := hS.other _ _ ne_k1_k2 Q1
   replace Q3 := hS.other _ _ ne_k2_k3.symm Q3
   replace Q4 := hS.other _ _ ne_k2_k4.symm Q4
   replace Q5 := hS.other _ _ ne_k2_k5.symm Q5
   have hmT := (Mk.of (fun j => j = k2) M).same hm9
   replace MK := (MK.trans M).tr hm9 (fun j hj e => by omega)
   clear M hS hm9
   have M : Mo w11 w11 := Mo.refl _
   refine wl_m (.tmp 35) (.int .i64 (e9)) ?_
   refine w_nil (xn_then (w_ret (xr_blk (xr_then (xr_then (xr_blk (xr_then ?_)))))))
   exact w_ret2 _ _ (.agg #[.int .i64 k9, .int .i64 s9, .int .i64 i9, .int .i64 t9, .int .i64 p9]) (.int .i64 (e9)) rfl ⟨k2, rfl, (run_row Q2 52 0 5 _ rfl Tryd.underlying52 rfl sz52)⟩ rfl ⟨by unfold chk; rw [← hAL, ← hzL, er_0 hf0p, Option.none_or, ho31]; rfl, (MK.trans M).mo (Mo.refl _) (fun _ h => h.elim)⟩
 | false =>
  have hf0p := of_decide_eq_false hf0
  refine wl_b .neq 31 (.tmp 32) (.const (.int .i64 (0))) (.int .i64 (whE z.d z.L)) (.int .i64 (0)) (.bool true) (ne34 hf0 _ _ _) ?_
  refine w_nil (xn_then (w_condT rfl (w_seq (w_reg ?_))))
  refine wl_l 52 (.tmp 7) (pt k4 0) (.agg #[.int .i64 (0), .int .i64 (0), .int .i64 (0), .int .i64 (0), .int .i64 (0)]) (run_row Q4 52 0 5 _ rfl Tryd.underlying52 rfl sz52) ?_
  refine wl_m (.tmp 8) (.int .i64 (whE z.d z.L)) ?_
  refine wl_stm 52 (.tmp 2) (.tmp 34) k2 0 #[.int .i64 (0), .int .i64 (0), .int .i64 (0), .int .i64 (0), .int .i64 (0)] [.int .i64 0, .int .i64 0, .int .i64 0, .int .i64 0, .int .i64 0] [.int .i64 (0), .int .i64 (0), .int .i64 (0), .int .i64 (0), .int .i64 (0)] Q2 rfl rfl rfl rfl rfl sz52 rfl rfl rfl ?_
  intro w8 hS hm9 Qn
  replace Q2 := Qn
  clear Qn
  replace Q1 := hS.other _ _ ne_k1_k2 Q1
  replace Q3 := hS.other _ _ ne_k2_k3.symm Q3
  replace Q4 := hS.other _ _ ne_k2_k4.symm Q4
  have hmT := (Mk.of (fun j => j = k2) M).same hm9
  replace MK := (MK.trans M).tr hm9 (fun j hj e => by omega)
  clear M hS hm9
  have M : Mo w8 w8 := Mo.refl _
  refine wl_m (.tmp 35) (.int .i64 (whE z.d z.L)) ?_
  refine w_nil (xn_then (w_ret (xr_blk (xr_then (xr_then (xr_blk (xr_then ?_)))))))
  exact w_ret2 _ _ (.agg #[.int .i64 (0), .int .i64 (0), .int .i64 (0), .int .i64 (0), .int .i64 (0)]) (.int .i64 (whE z.d z.L)) rfl ⟨k2, rfl, (run_row Q2 52 0 5 _ rfl Tryd.underlying52 rfl sz52)⟩ rfl ⟨by unfold chk; rw [← hzL, er_1 hf0p]; rfl, (MK.trans M).mo (Mo.refl _) (fun _ h => h.elim)⟩
end Go.Proofs.YtnffhcjmpjajlaaDoor

namespace Go.Proofs.YtnffhcjmpjajlaaDoor
open Go.RowKit D
/-! The definitions that live holds. -/
theorem SL.one {w : World} {k n : Nat} {α : Type} {cells : α → List Value} (hl : ∀ x, (cells x).length = n) {x : α} (h : At w k (cells x)) : SL w n cells (some ⟨k, 0, none⟩) [x] := SL.of_at hl (show 1 ≤ maxLen by decide) (by rw [List.flatMap_cons, List.flatMap_nil, List.append_nil]; exact h)
theorem SL.nil {w : World} {n : Nat} {α : Type} {cells : α → List Value} {pa : Option Addr} : SL w n cells pa ([] : List α) := ⟨Nat.zero_le _, fun i o h => by simp at h⟩
end Go.Proofs.YtnffhcjmpjajlaaDoor

namespace Go.Proofs.YtnffhcjmpjajlaaDoor
open Go.RowKit D
structure GB (w0 wE w1 : World) (vin : Value) (pa : Option Addr) (cap : Nat) (acc : List S5) : Prop where
 mo : Mo w0 w1
 ow : w1.ownsRow w0.heap.size 65 5 (.slice pa acc.length cap) acc.length (acc.flatMap S5.cells)
 mkk : Mk (fun j => vin.ownBlock = some j) wE w1
 ob : (Value.slice pa acc.length cap).ownBlock = vin.ownBlock ∨ ∀ k, (Value.slice pa acc.length cap).ownBlock = some k → wE.heap.size ≤ k
section
variable {w0 wE w1 w2 : World} {vin : Value} {pa pa2 : Option Addr} {cap cap2 : Nat} {acc acc2 : List S5}
theorem GB.mv (h : GB w0 wE w1 vin pa cap acc) (m : Mo w1 w2) : GB w0 wE w2 vin pa cap acc := ⟨h.mo.trans m, own_mo h.ow m, h.mkk.trans m, h.ob⟩
theorem GB.tr (h : GB w0 wE w1 vin pa cap acc) (g : GB w0 w1 w2 (.slice pa acc.length cap) pa2 cap2 acc2) : GB w0 wE w2 vin pa2 cap2 acc2 := by
 refine ⟨g.mo, g.ow, h.mkk.tr g.mkk (fun j hj e => ?_), ?_⟩
 ·rcases h.ob with q | q
  ·rw [← q]; exact e
  ·have := q j e; omega
 ·rcases g.ob with q | q
  ·rcases h.ob with r | r
   ·exact Or.inl (q.trans r)
   ·exact Or.inr (fun k e => r k (q.symm.trans e))
  ·exact Or.inr (fun k e => Nat.le_trans h.mkk.size (q k e))
theorem GB.ne (h : GB w0 wE w1 vin pa cap acc) {k1 : Nat} (h1 : vin.ownBlock ≠ some k1) (h2 : k1 < wE.heap.size) : (Value.slice pa acc.length cap).ownBlock ≠ some k1 := fun e => by
 rcases h.ob with q | q
 ·exact h1 (q.symm.trans e)
 ·have := q k1 e; omega
end
theorem rflat_n {w0 : World} : ∀ (s : Se), LSe w0 s → ∀ (acc : List S5) (p dp : Int) (pa : Option Addr) (cap : Nat) (w : World), Mo w0 w → w.ownsRow w0.heap.size 65 5 (.slice pa acc.length cap) acc.length (acc.flatMap S5.cells) → acc.length ≤ 64 → 0 ≤ dp → dp ≤ 100 → Calls Tryd.prog 48 #[.slice pa acc.length cap, .agg (s.cells).toArray, .int .i64 p, .int .i64 dp] w fun e w' => ∃ pa' cap', e = .returned (.slice pa' (flt s acc p dp).length cap') ∧ GB w0 w w' (.slice pa acc.length cap) pa' cap' (flt s acc p dp) := by
 refine Se.ind2 ?_
 intro s ih hL acc p dp pa cap w hM hown ha hd0 hd1
 refine w_enter 51 Tryd.func48 Tryd.ntmps48 rfl rfl ?_
 have M := hM
 have MW : Mo w w := Mo.refl _
 refine w_seq (w_reg ?_)
 refine wl_box 45 (.tmp 1) _ (((s.cells).toArray)) rfl rfl (fun _ => by kernel_rfl) rfl ?_
 intro k1 u1 hk hz hq Q1
 have on_k1 : (Value.slice pa acc.length cap).ownBlock ≠ some k1 := fun e => by have := (hown.lt _ e).2; omega
 have N_k1 : w0.heap.size ≤ k1 := by have := M.size; omega
 replace hown := own_mo hown hq
 replace M := M.trans hq
 replace MW := MW.trans hq
 clear hk hz hq
 refine wl_m (.const (.slice none 0 0)) (.slice none 0 0) ?_
 refine w_nil (xn_then (w_seq (w_seq (w_reg ?_))))
 refine wl_m (.tmp 0) (.slice pa acc.length cap) ?_
 refine wl_val (.int .i64 ((acc.length : Nat) : Int)) (len22 _ _ _ _ _ (by exact rfl) _ _ _ _ _ _) rfl ?_
 cases hf0 : decide (64 ≤ ((acc.length : Nat) : Int)) with
 | true =>
  have hf0p := of_decide_eq_true hf0
  refine wl_b .geq 3 (.tmp 12) (.const (.int .i64 (64))) (.int .i64 ((acc.length : Nat) : Int)) (.int .i64 (64)) (.bool true) (ge3 hf0 _ _ _) ?_
  refine wl_m (.tmp 13) (.bool true) ?_
  refine wl_skip rfl (wl_skip rfl ?_)
  refine wl_pick (.tmp 14) (.const (.bool true)) (.tmp 16) true (.bool true) (fun _ => rfl) rfl rfl rfl ?_
  refine w_nil (xn_then (w_condT rfl (w_seq (w_reg ?_))))
  refine wl_m (.tmp 0) (.slice pa acc.length cap) ?_
  refine wl_m (.tmp 18) (.slice pa acc.length cap) ?_
  refine w_nil (xn_then (w_ret (xr_then ?_)))
  exact w_ret1 _ (.slice pa acc.length cap) rfl rfl ⟨pa, cap, by rw [flt_eq, if_pos (by omega)], by rw [flt_eq, if_pos (by omega)]; exact ⟨M, hown, Mk.of _ MW, Or.inl rfl⟩⟩
 | false =>
  have hf0p := of_decide_eq_false hf0
  refine wl_b .geq 3 (.tmp 12) (.const (.int .i64 (64))) (.int .i64 ((acc.length : Nat) : Int)) (.int .i64 (64)) (.bool false) (ge3 hf0 _ _ _) ?_
  refine wl_m (.tmp 13) (.bool false) ?_
  refine wl_m (.tmp 3) (.int .i64 (dp)) ?_
  cases hf1 : decide (16 < dp) with
  | true =>
   have hf1p := of_decide_eq_true hf1
   refine wl_b .gtr 3 (.tmp 15) (.const (.int .i64 (16))) (.int .i64 (dp)) (.int .i64 (16)) (.bool true) (gt3 hf1 _ _ _) ?_
   refine wl_pick (.tmp 14) (.const (.bool true)) (.tmp 16) false (.bool true) (fun _ => rfl) rfl rfl rfl ?_
   refine w_nil (xn_then (w_condT rfl (w_seq (w_reg ?_))))
   refine wl_m (.tmp 0) (.slice pa acc.length cap) ?_
   refine wl_m (.tmp 18) (.slice pa acc.length cap) ?_
   refine w_nil (xn_then (w_ret (xr_then ?_)))
   exact w_ret1 _ (.slice pa acc.length cap) rfl rfl ⟨pa, cap, by rw [flt_eq, if_pos (by omega)], by rw [flt_eq, if_pos (by omega)]; exact ⟨M, hown, Mk.of _ MW, Or.inl rfl⟩⟩
  | false =>
   have hf1p := of_decide_eq_false hf1
   refine wl_b .gtr 3 (.tmp 15) (.const (.int .i64 (16))) (.int .i64 (dp)) (.int .i64 (16)) (.bool false) (gt3 hf1 _ _ _) ?_
   refine wl_pick (.tmp 14) (.const (.bool true)) (.tmp 16) false (.bool false) (fun _ => rfl) rfl rfl rfl ?_
   refine w_nil (xn_then (w_condF rfl (w_skip (xn_then (w_seq (w_reg ?_))))))
   refine wl_m (.tmp 0) (.slice pa acc.length cap) ?_
   refine wl_val (.int .i64 ((acc.length : Nat) : Int)) (len22 _ _ _ _ _ (by exact rfl) _ _ _ _ _ _) rfl ?_
   refine wl_m (.tmp 20) (.int .i64 ((acc.length : Nat) : Int)) ?_
   refine w_nil (xn_then (w_seq (w_reg ?_)))
   refine wl_m (.tmp 0) (.slice pa acc.length cap) ?_
   refine wl_m (.tmp 2) (.int .i64 (p)) ?_
   refine wl_m (.tmp 3) (.int .i64 (dp)) ?_
   refine wl_f 45 0 (.tmp 5) (pt k1 0) (pt k1 0) ?_
   refine wl_l 9 (.tmp 24) (pt k1 0) (.string s.nm) (run_one Q1 9 0 rfl Tryd.underlying9 rfl) ?_
   refine wl_f 45 1 (.tmp 5) (pt k1 0) (pt k1 1) ?_
   refine wl_l 3 (.tmp 26) (pt k1 1) (.int .i64 (s.mx)) (run_one Q1 3 1 rfl Tryd.underlying3 rfl) ?_
   refine wl_f 45 2 (.tmp 5) (pt k1 0) (pt k1 2) ?_
   refine wl_l 42 (.tmp 28) (pt k1 2) (.slice s.pi s.items.length s.ci) (run_one Q1 42 2 rfl Tryd.underlying42 rfl) ?_
   refine wl_build 65 [(0, (.tmp 22)), (1, (.tmp 23)), (2, (.tmp 25)), (3, (.tmp 27)), (4, (.tmp 29))] [(0, .int .i64 (p)), (1, .int .i64 (dp)), (2, .string s.nm), (3, .int .i64 (s.mx)), (4, .slice s.pi s.items.length s.ci)] (.agg #[.int .i64 (p), .int .i64 (dp), .string s.nm, .int .i64 (s.mx), .slice s.pi s.items.length s.ci]) rfl rfl (by kernel_rfl) rfl ?_
   refine wl_bs 22 1 [(0, (.tmp 30))] [(0, .agg #[.int .i64 (p), .int .i64 (dp), .string s.nm, .int .i64 (s.mx), .slice s.pi s.items.length s.ci])] #[.int .i64 (p), .int .i64 (dp), .string s.nm, .int .i64 (s.mx), .slice s.pi s.items.length s.ci] 65 rfl rfl (fun _ => by kernel_rfl) rfl ?_
   intro k2 u2 hk hz hq Q2
   have ne_k1_k2 : k1 ≠ k2 := by have := Q1.lt; omega
   have N_k2 : w0.heap.size ≤ k2 := by have := M.size; omega
   have on_k2 : (Value.slice pa acc.length cap).ownBlock ≠ some k2 := fun e => by have := (own_lt hown e).1; omega
   replace hown := own_mo hown hq
   replace Q1 := Q1.mo hq
   replace M := M.trans hq
   replace MW := MW.trans hq
   clear hk hz hq
   have lt_k1 := Q1.lt
   have lt_k2 := Q2.lt
   have hal : acc.length < 64 := by omega
   refine wl_app Tryd.underlying22 inf65 rfl (by decide) (.tmp 21) (.tmp 31) w0.heap.size (.slice pa acc.length cap) acc.length (acc.flatMap S5.cells) k2 1 1 (⟨p, dp, s.nm, s.mx, s.pi, s.ci, s.items⟩ : S5).cells rfl rfl rfl hown rfl Q2 (fun u hu => by simp only [S5.cells, List.mem_cons, List.not_mem_nil, or_false] at hu; rcases hu with rfl | rfl | rfl | rfl | rfl <;> rfl) (by decide) (by unfold maxLen; omega) (by omega) M.size rfl ?_
   intro v9 u3 hOw hm9 hbk
   obtain ⟨pa1, cap1, rfl, _⟩ := own_form hOw
   have hb1 : (Value.slice pa1 (acc ++ [(⟨p, dp, s.nm, s.mx, s.pi, s.ci, s.items⟩ : S5)]).length cap1).ownBlock = (Value.slice pa acc.length cap).ownBlock ∨ (Value.slice pa1 (acc ++ [(⟨p, dp, s.nm, s.mx, s.pi, s.ci, s.items⟩ : S5)]).length cap1).ownBlock = some u2.heap.size := by cases pa1 <;> exact hbk
   replace hOw : u3.ownsRow w0.heap.size 65 5 (.slice pa1 (acc ++ [(⟨p, dp, s.nm, s.mx, s.pi, s.ci, s.items⟩ : S5)]).length cap1) (acc ++ [(⟨p, dp, s.nm, s.mx, s.pi, s.ci, s.items⟩ : S5)]).length ((acc ++ [(⟨p, dp, s.nm, s.mx, s.pi, s.ci, s.items⟩ : S5)]).flatMap S5.cells) := by simpa using hOw
   have hG1 : GB w0 w u3 (Value.slice pa acc.length cap) pa1 cap1 (acc ++ [(⟨p, dp, s.nm, s.mx, s.pi, s.ci, s.items⟩ : S5)]) := ⟨hm9.mo M (fun k e => (own_lt hown e).2), hOw, (Mk.of _ MW).same hm9, hb1.imp_right (fun h k e => by have h8 := Option.some.inj (h.symm.trans e); have := MW.size; omega)⟩
   have on1 : (Value.slice pa1 (acc ++ [(⟨p, dp, s.nm, s.mx, s.pi, s.ci, s.items⟩ : S5)]).length cap1).ownBlock ≠ some k1 := fun e => by rcases hb1 with h | h; exact on_k1 (h.symm.trans e); have h8 := Option.some.inj (h.symm.trans e); omega
   replace Q1 := hm9.at Q1 on_k1
   replace M := hG1.mo
   clear hOw hm9 hb1 hbk hown MW
   rw [show acc.length + 1 = (acc ++ [(⟨p, dp, s.nm, s.mx, s.pi, s.ci, s.items⟩ : S5)]).length by simp]
   refine wl_m (.tmp 32) (.slice pa1 (acc ++ [(⟨p, dp, s.nm, s.mx, s.pi, s.ci, s.items⟩ : S5)]).length cap1) ?_
   refine w_nil (xn_then (w_seq (w_seq (w_reg ?_))))
   refine wl_m (.const (.int .i64 (0))) (.int .i64 (0)) ?_
   refine w_nil (xn_then (w_block ?_))
   have hcond : ¬ (64 ≤ acc.length ∨ 16 < dp) := by omega
   have hzk := hL.kd.1
   unfold maxLen at hzk
   refine w_loop (fun m l w1 => ∃ i : Nat, m = s.kids.length - i ∧ i ≤ s.kids.length ∧ look l 2 = .int .i64 (p) ∧ look l 3 = .int .i64 (dp) ∧ look l 5 = pt k1 0 ∧ look l 9 = .int .i64 ((acc.length : Nat) : Int) ∧ look l 10 = .int .i64 ((i : Nat) : Int) ∧ ∃ (pa2 : Option Addr) (cap2 : Nat), look l 0 = .slice pa2 (fk s acc p dp i).length cap2 ∧ GB w0 w w1 (Value.slice pa acc.length cap) pa2 cap2 (fk s acc p dp i) ∧ (Value.slice pa2 (fk s acc p dp i).length cap2).ownBlock ≠ some k1 ∧ At w1 k1 s.cells) _ ⟨0, rfl, Nat.zero_le _, rfl, rfl, rfl, rfl, rfl, ⟨pa1, cap1, rfl, hG1, on1, Q1⟩⟩ ?_
   clear Q1 M
   rintro m l40 wl40 ⟨i, rfl, hi, e40_2, e40_3, e40_5, e40_9, e40_i, hE⟩
   by_cases hil : i < s.kids.length
   ·skip
    have hid : decide (i < s.kids.length) = true := decide_eq_true hil
    obtain ⟨pa2, cap2, e0, hG2, on2, Q1⟩ := hE
    have M := hG2.mo
    obtain ⟨k, hk⟩ := get_of_lt hil
    obtain ⟨bp, op, hpp, hRp⟩ := D.SL.rw hL.kd hk
    refine w_seq (w_seq (w_reg ?_))
    refine wl_mv (.tmp 10) (.int .i64 ((i : Nat) : Int)) (fun _ => rfl) e40_i rfl ?_
    refine wl_un (fun v => Instr.fieldAt 45 v 3) (.tmp 5) (pt k1 0) (pt k1 3) (fun _ => rfl) e40_5 (by kernel_rfl) rfl ?_
    refine wl_l 43 (.tmp 34) (pt k1 3) (.slice s.pk s.kids.length s.ck) (run_one Q1 43 3 rfl Tryd.underlying43 rfl) ?_
    refine wl_val (.int .i64 ((s.kids.length : Nat) : Int)) (len43 _ _ _ _ _ (by exact rfl) _ _ _ _ _ _) rfl ?_
    refine wl_b .lss 3 (.tmp 33) (.tmp 36) (.int .i64 ((i : Nat) : Int)) (.int .i64 ((s.kids.length : Nat) : Int)) (.bool true) (ltN hid _ _ _) ?_
    refine w_nil (xn_then (w_condT rfl (w_skip (xn_then (w_seq (w_block (w_reg ?_)))))))
    refine wl_mv (.tmp 0) (.slice pa2 (fk s acc p dp i).length cap2) (fun _ => rfl) e0 rfl ?_
    refine wl_un (fun v => Instr.fieldAt 45 v 3) (.tmp 5) (pt k1 0) (pt k1 3) (fun _ => rfl) e40_5 (by kernel_rfl) rfl ?_
    refine wl_l 43 (.tmp 41) (pt k1 3) (.slice s.pk s.kids.length s.ck) (run_one Q1 43 3 rfl Tryd.underlying43 rfl) ?_
    refine wl_mv (.tmp 10) (.int .i64 ((i : Nat) : Int)) (fun _ => rfl) e40_i rfl ?_
    refine wl_bin (fun x y => Instr.indexAt 43 x y) (.tmp 42) (.tmp 43) (.slice s.pk s.kids.length s.ck) (.int .i64 ((i : Nat) : Int)) (pt bp (op + i * 4)) (fun _ => rfl) rfl rfl (ix43 (i := i) hpp hil _) rfl ?_
    refine wl_l 45 (.tmp 44) (pt bp (op + i * 4)) (.agg (k.cells).toArray) (D.run_partR (hRp.mo M).at' 45 0 4 (k.cells) rfl Tryd.underlying45 rfl sz45) ?_
    refine wl_mv (.tmp 9) (.int .i64 ((acc.length : Nat) : Int)) (fun _ => rfl) e40_9 rfl ?_
    refine wl_mv (.tmp 3) (.int .i64 (dp)) (fun _ => rfl) e40_3 rfl ?_
    refine wl_b .add 3 (.tmp 47) (.const (.int .i64 (1))) (.int .i64 (dp)) (.int .i64 (1)) (.int .i64 (dp + 1)) (add1i (k := dp) (by omega) (by omega) _ _ _) ?_
    refine wl_callx 48 [(.tmp 40), (.tmp 45), (.tmp 46), (.tmp 48)] _ [.slice pa2 (fk s acc p dp i).length cap2, .agg (k.cells).toArray, .int .i64 ((acc.length : Nat) : Int), .int .i64 (dp + 1)] rfl rfl (fun _ _ => by kernel_rfl) (ih k (List.mem_of_getElem? hk) (hL.kr k (List.mem_of_getElem? hk)) (fk s acc p dp i) _ _ pa2 cap2 _ M hG2.ow (fk_len (by omega) i) (by omega) (by omega)) rfl ?_
    rintro e9 u41 ⟨pa3, cap3, rfl, hG3⟩
    refine ⟨_, rfl, ?_⟩
    have ltk := Q1.lt
    replace Q1 := hG3.mkk.at Q1 on2
    have on3 := hG3.ne on2 ltk
    have hG4 := hG2.tr hG3
    replace M := hG4.mo
    refine wl_m (.tmp 49) (.slice pa3 (flt k (fk s acc p dp i) acc.length (dp + 1)).length cap3) ?_
    refine w_nil (xn_blk (xn_then (w_reg ?_)))
    refine wl_mv (.tmp 10) (.int .i64 ((i : Nat) : Int)) (fun _ => rfl) e40_i rfl ?_
    refine wl_b .add 3 (.tmp 38) (.const (.int .i64 (1))) (.int .i64 ((i : Nat) : Int)) (.int .i64 (1)) (.int .i64 ((i + 1 : Nat) : Int)) (add1r (k := i) (by omega) _ _ _) ?_
    refine wl_m (.tmp 39) (.int .i64 ((i + 1 : Nat) : Int)) ?_
    refine w_nil ?_
    exact xn_loop (s.kids.length - (i + 1)) (by omega) ⟨i + 1, rfl, by omega, e40_2, e40_3, e40_5, e40_9, rfl, ⟨pa3, cap3, by rw [fk_s hk]; rfl, by rw [fk_s hk]; exact hG4, by rw [fk_s hk]; exact on3, Q1⟩⟩
   ·skip
    have hid : decide (i < s.kids.length) = false := decide_eq_false hil
    have hie : i = s.kids.length := by omega
    obtain ⟨pa2, cap2, e0, hG2, on2, Q1⟩ := hE
    have M := hG2.mo
    refine w_seq (w_seq (w_reg ?_))
    refine wl_mv (.tmp 10) (.int .i64 ((i : Nat) : Int)) (fun _ => rfl) e40_i rfl ?_
    refine wl_un (fun v => Instr.fieldAt 45 v 3) (.tmp 5) (pt k1 0) (pt k1 3) (fun _ => rfl) e40_5 (by kernel_rfl) rfl ?_
    refine wl_l 43 (.tmp 34) (pt k1 3) (.slice s.pk s.kids.length s.ck) (run_one Q1 43 3 rfl Tryd.underlying43 rfl) ?_
    refine wl_val (.int .i64 ((s.kids.length : Nat) : Int)) (len43 _ _ _ _ _ (by exact rfl) _ _ _ _ _ _) rfl ?_
    refine wl_b .lss 3 (.tmp 33) (.tmp 36) (.int .i64 ((i : Nat) : Int)) (.int .i64 ((s.kids.length : Nat) : Int)) (.bool false) (ltN hid _ _ _) ?_
    refine w_nil (xn_then (w_condF rfl (w_exit (xx_then (xx_then (xx_blk (xn_then (w_seq (w_reg ?_)))))))))
    refine wl_mv (.tmp 0) (.slice pa2 (fk s acc p dp i).length cap2) (fun _ => rfl) e0 rfl ?_
    refine wl_m (.tmp 50) (.slice pa2 (fk s acc p dp i).length cap2) ?_
    refine w_nil (xn_then (w_ret ?_))
    exact w_ret1 _ (.slice pa2 (fk s acc p dp i).length cap2) rfl rfl ⟨pa2, cap2, by rw [flt_eq, if_neg hcond, hie]; unfold fk; rw [List.take_length], by rw [flt_eq, if_neg hcond]; rw [hie] at hG2; unfold fk at hG2; rw [List.take_length] at hG2; exact hG2⟩
end Go.Proofs.YtnffhcjmpjajlaaDoor

