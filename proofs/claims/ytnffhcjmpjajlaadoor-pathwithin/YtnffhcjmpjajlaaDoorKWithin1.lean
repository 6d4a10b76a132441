/-
  A part of the proof.
-/
import Derived.Test.YtnffhcjmpjajlaaDoorKa1
import Derived.RegionTactic
import Derived.Test.YtnffhcjmpjajlaaDoorKa3
import Derived.Test.YtnffhcjmpjajlaaDoorKa2
import Derived.Test.YtnffhcjmpjajlaaDoorProg
import Derived.WalkKit
import Derived.WalkSpells
import Derived.Handy
import Derived.BigQuiet
import Derived.Deep.RegionHeld3
import Derived.Deep.MidRow
import Derived.BigCall
import Derived.Test.YtnffhcjmpjajlaaDoorKa6
import Derived.Test.YtnffhcjmpjajlaaDoorKa5
import Derived.Test.YtnffhcjmpjajlaaDoorKa4
import Derived.ChangeKeysEq
import Derived.Shelf.Small.Bits
import Derived.Shelf.Strconv.Itoa0
import Derived.Shelf.Bits.Mul64
import Derived.Deep.CutRange
import Derived.Deep.CutBlock
import Derived.ScopeJumps
import Derived.WalkMore
import Derived.Laws.StructEq
import Derived.Lib.CutLaws
import Derived.Maps.OwnSet
import Derived.WalkArith
import Derived.StringKeys
import Derived.ProofKit
import Derived.OpenShut
import Derived.ChangeArms
import Derived.Deep.Slices
import Derived.ReadAgain
import Derived.WideKeyArgs
import Derived.Maps.AppendAt
import Derived.Test.YtnffhcjmpjajlaaDoorKa8
import Derived.Test.YtnffhcjmpjajlaaDoorKa7
import Derived.Test.YtnffhcjmpjajlaaDoorKa11
import Derived.Test.YtnffhcjmpjajlaaDoorKa10
import Derived.Test.YtnffhcjmpjajlaaDoorKa9
import Derived.Lib.IndexBytes
import Derived.Test.YtnffhcjmpjajlaaDoorKa15
import Derived.Test.YtnffhcjmpjajlaaDoorRows
import Derived.Shelf.Strconv.Itoa4
import Derived.Lib.AppendIntMem
import Derived.Carry
import Derived.ChangeMaps5
import Derived.ChangeSame
import Derived.ChangeVars
import Derived.JoinedOf
import Derived.RowKitTokens
import Derived.LaidLaws
import Derived.LaidHandle
import Derived.Stop.Joined
import Derived.Lib.LaidIn
import Derived.Lib.LaidTab
import Derived.SizedLaws
import Derived.Deep.Strs
import Derived.Test.YtnffhcjmpjajlaaDoorKa14
import Derived.Lib.ItoaLen
import Derived.Laws.MakeOwn
import Derived.Test.YtnffhcjmpjajlaaDoorKa13
import Derived.Test.YtnffhcjmpjajlaaDoorKa12
namespace Go.Proofs.YtnffhcjmpjajlaaDoor
section
variable {P : Program} {ops : Array Oper} {Q : Exit → Act → World → Prop} {md : Region.Mode}
theorem wpAny_inv (I : Array Bool → Act → World → Prop) (hb : edgesBack md ops = true)
  (hstep : ∀ listed a w i o, I listed a w → ops[i]? = some o → listed.getD i true = false → (∀ e ∈ o.after, Region.binds md e = true → listed.getD e.on false = true) → wpOp P ops Q i (I (listed.setIfInBounds i true)) a w)
  (hend : ∀ listed a w, I listed a w → (∀ i, i < ops.size → listed.getD i true = true) → Q .normal a w) :
  ∀ (fuel : Nat) (listed : Array Bool) (a : Act) (w : World), listed.toList.count false ≤ fuel → I listed a w → wpAny P md ops Q fuel listed a w := by
 intro fuel
 induction fuel with
 | zero =>
  intro listed a w hc hI
  have hr : Region.ready md ops listed = [] := by
   rw [List.eq_nil_iff_forall_not_mem]
   intro i hi
   obtain ⟨h0, _⟩ := mem_ready.1 hi
   have : false ∈ listed.toList := by
    rcases Nat.lt_or_ge i listed.size with h' | h'
    ·simp [h'] at h0; rw [← h0]; simp
    ·simp [Array.getElem?_eq_none h'] at h0
   have := List.count_pos_iff.2 this
   omega
  exact ⟨hr, hend _ _ _ hI (all_listed hb hr)⟩
 | succ fuel ih =>
  intro listed a w hc hI
  refine ⟨fun hr => hend _ _ _ hI (all_listed hb hr), fun i hi => ?_⟩
  obtain ⟨h0, o, ho, hall⟩ := mem_ready.1 hi
  refine wpOp_mono (fun a' w' h' => ih _ a' w' ?_ h') (hstep _ _ _ _ _ hI ho h0 hall)
  have h1 : listed.toList[i]? = some false := by
   rcases Nat.lt_or_ge i listed.size with h' | h'
   ·simp [h'] at h0; simp [h', h0]
   ·simp [Array.getElem?_eq_none h'] at h0
  have := count_set _ _ h1
  simp only [Array.toList_setIfInBounds]
  omega
end
end Go.Proofs.YtnffhcjmpjajlaaDoor

namespace Go.Proofs.YtnffhcjmpjajlaaDoor
open Go.RowKit
section
variable {P : Program} {o : Oper} {n : Nat} {l : List (Nat × Value)} {w : World} {ops : Array Oper} {rest : List Oper} {Q : Exit → Act → World → Prop} {K : Act → World → Prop}
theorem wo_alloc (ty : TypeId) (zs : Array Value) (ho : o.op = .alloc ty) (h : ∀ w, (Instr.alloc ty true (.tuple #[])).run P w = .ok (pt w.heap.size 0) (w.alloc (.cells zs ty))) (hk : ∀ k w', w.heap.size = k → w'.heap.size = k + 1 → Mo w w' → At w' k zs.toList → K (fr n (ext l o.dst (pt k 0))) w') : WO P o n l w K Q := ⟨o_alloc ty zs ho h (fun k w' a b c d => (hk k w' a b c d))⟩
end
end Go.Proofs.YtnffhcjmpjajlaaDoor

namespace Go.Proofs.YtnffhcjmpjajlaaDoor
open Go.RowKit D
def arN (l : List S5) (sec : Int) : Nat → Ro → Option Ro
 | 0, r => if r.s = sec then some r else none
 | n + 1, r => if r.s = sec then some r else if parO l r then arN l sec n (parU l r) else none
theorem arN_fuel (l : List S5) (sec : Int) : ∀ (n m : Nat) (r : Ro), r.s.toNat ≤ n → r.s.toNat ≤ m → arN l sec n r = arN l sec m r
 | 0, 0, r, _, _ => rfl
 | 0, m + 1, r, h, _ => by
  rw [arN, arN]
  have : parO l r = false := by
   cases e : parO l r with
   | false => rfl
   | true => have := par_t e; omega
  rw [this]; simp
 | n + 1, 0, r, _, h => by
  rw [arN, arN]
  have : parO l r = false := by
   cases e : parO l r with
   | false => rfl
   | true => have := par_t e; omega
  rw [this]; simp
 | n + 1, m + 1, r, h1, h2 => by
  rw [arN, arN]
  split; · rfl
  split
  next e => have := par_t e; exact arN_fuel l sec n m _ (by omega) (by omega)
  next => rfl
def arO (l : List S5) (sec : Int) (r : Ro) : Option Ro := arN l sec r.s.toNat r
theorem ar_hit {l : List S5} {sec : Int} {r : Ro} (h : r.s = sec) : arO l sec r = some r := by
 unfold arO; cases r.s.toNat <;> (rw [arN, if_pos h])
theorem ar_up {l : List S5} {sec : Int} {r : Ro} (h : ¬ r.s = sec) (hp : parO l r = true) : arO l sec r = arO l sec (parU l r) := by
 have q := par_t hp
 unfold arO
 obtain ⟨k, hk⟩ : ∃ k, r.s.toNat = k + 1 := ⟨r.s.toNat - 1, by omega⟩
 rw [hk, arN, if_neg h, if_pos hp]
 exact arN_fuel l sec _ _ _ (by omega) (by omega)
theorem ar_no {l : List S5} {sec : Int} {r : Ro} (h : ¬ r.s = sec) (hp : parO l r = false) : arO l sec r = none := by
 unfold arO; cases r.s.toNat <;> (rw [arN, if_neg h])
 rw [hp]; rfl
def aroB (l : List S5) (r : Ro) (sec : Int) : Bool := decide (ckR l r = 0) && (arO l sec r).isSome
def aroR (l : List S5) (r : Ro) (sec : Int) : Ro := if ckR l r = 0 then (arO l sec r).getD ro0 else ro0
theorem sR_eq {x y : Ro} : sR x y = true ↔ x = y := by
 obtain ⟨a, b, c, d⟩ := x
 obtain ⟨a', b', c', d'⟩ := y
 simp [sR]
def witB (l : List S5) (r o : Ro) : Bool := aroB l r o.s && (decide (ckR l o = 0) && sR (aroR l r o.s) o)
end Go.Proofs.YtnffhcjmpjajlaaDoor

namespace Go.Proofs.YtnffhcjmpjajlaaDoor
open Go.RowKit D
theorem ar_in {l : List S5} {sec : Int} : ∀ (n : Nat) (r x : Ro), r.s.toNat ≤ n → arO l sec r = some x → x.s = sec ∧ x.s ≤ r.s := by
 intro n
 induction n with
 | zero =>
  intro r x hn h
  by_cases e : r.s = sec
  ·rw [ar_hit e] at h; cases h; exact ⟨e, Int.le_refl _⟩
  ·cases q : parO l r with
   | true => have := par_t q; omega
   | false => rw [ar_no e q] at h; cases h
 | succ n ih =>
  intro r x hn h
  by_cases e : r.s = sec
  ·rw [ar_hit e] at h; cases h; exact ⟨e, Int.le_refl _⟩
  ·cases q : parO l r with
   | true =>
    have p := par_t q
    rw [ar_up e q] at h
    have := ih _ _ (by omega) h
    exact ⟨this.1, by omega⟩
   | false => rw [ar_no e q] at h; cases h
theorem ar_trans {l : List S5} {b c : Ro} (hc : arO l c.s b = some c) : ∀ (n : Nat) (a : Ro), a.s.toNat ≤ n → arO l b.s a = some b → arO l c.s a = some c := by
 intro n
 induction n with
 | zero =>
  intro a hn h
  by_cases e : a.s = b.s
  ·rw [ar_hit e] at h; cases h; exact hc
  ·cases q : parO l a with
   | true => have := par_t q; omega
   | false => rw [ar_no e q] at h; cases h
 | succ n ih =>
  intro a hn h
  by_cases e : a.s = b.s
  ·rw [ar_hit e] at h; cases h; exact hc
  ·cases q : parO l a with
   | true =>
    have p := par_t q
    rw [ar_up e q] at h
    have h1 := ar_in _ _ _ (Nat.le_refl _) h
    have h2 := ar_in _ _ _ (Nat.le_refl _) hc
    rw [ar_up (by omega) q]
    exact ih _ (by omega) h
   | false => rw [ar_no e q] at h; cases h
theorem wit_iff {l : List S5} {r o : Ro} : witB l r o = true ↔ ckR l r = 0 ∧ ckR l o = 0 ∧ arO l o.s r = some o := by
 unfold witB aroB aroR
 simp only [Bool.and_eq_true, decide_eq_true_eq, sR_eq]
 constructor
 ·rintro ⟨⟨h1, h2⟩, h3, h4⟩
  obtain ⟨x, hx⟩ := Option.isSome_iff_exists.1 h2
  rw [if_pos h1, hx] at h4
  refine ⟨h1, h3, ?_⟩
  rw [hx]; exact congrArg some h4
 ·rintro ⟨h1, h2, h3⟩
  rw [if_pos h1, h3]
  exact ⟨⟨h1, rfl⟩, h2, rfl⟩
theorem wit_trans {l : List S5} {a b c : Ro} (h : witB l a b = true) (k : witB l b c = true) : witB l a c = true := by
 obtain ⟨a1, _, a3⟩ := wit_iff.1 h
 obtain ⟨_, b2, b3⟩ := wit_iff.1 k
 exact wit_iff.2 ⟨a1, b2, ar_trans b3 _ _ (Nat.le_refl _) a3⟩
theorem wit_self (l : List S5) (a : Ro) : witB l a a = decide (ckR l a = 0) := by
 by_cases h : ckR l a = 0
 ·rw [decide_eq_true h]; exact wit_iff.2 ⟨h, h, ar_hit rfl⟩
 ·rw [decide_eq_false h]
  cases e : witB l a a with
  | false => rfl
  | true => exact absurd (wit_iff.1 e).1 h
end Go.Proofs.YtnffhcjmpjajlaaDoor

namespace Go.Proofs.YtnffhcjmpjajlaaDoor
open Go.RowKit D
theorem par_ck' {l : List S5} {r : Ro} (h : ckR l r = 0) (h0 : ¬ r.s = 0) : ckR l (parU l r) = 0 := by
 obtain ⟨hsn, a0, a1, hi⟩ := ck_0 h
 obtain ⟨y, hy⟩ := get_of_lt (show r.s.toNat < l.length by omega)
 obtain ⟨p, hp, p0, p1, hd, hd2, hd4⟩ := pr_at hsn hy (by omega)
 rw [dpA_at hy] at hi
 have e : parU l r = ⟨y.pr, (setR y.dp r 0).a, (setR y.dp r 0).b, (setR y.dp r 0).c⟩ := by unfold parU; rw [dpA_at hy, prA_at hy]
 have hlp := lt_of_get hp
 rw [e]
 refine ck_yes (y := p) hsn p0 (by show y.pr < _; omega) hp ?_
 have hpd : p.dp = y.dp - 1 := by omega
 unfold ids at hi ⊢
 simp only [Bool.and_eq_true] at hi ⊢
 obtain ⟨i0, i1, i2⟩ := hi
 have hc : y.dp = 2 ∨ y.dp = 3 ∨ y.dp = 4 := by omega
 rcases hc with q | q | q <;> (rw [hpd, q]; rw [q] at i0 i1 i2; simp [idu, setR] at i0 i1 i2 ⊢) <;> simp_all
theorem ar_next {l : List S5} {sec : Int} {r : Ro} (h : ¬ r.s = sec) : (bif parO l r then (parR l r).s.toNat + 1 else 0) < r.s.toNat + 1 ∧ (bif parO l r then arO l sec (parR l r) else none) = arO l sec r := by
 cases e : parO l r with
 | true =>
  have q := par_t e
  rw [par_u e, ar_up h e]
  exact ⟨by show (parU l r).s.toNat + 1 < _; omega, rfl⟩
 | false => rw [ar_no h e]; exact ⟨Nat.succ_pos _, rfl⟩
theorem ar_ck {l : List S5} {sec : Int} : ∀ (n : Nat) (r x : Ro), r.s.toNat ≤ n → ckR l r = 0 → arO l sec r = some x → ckR l x = 0 := by
 intro n
 induction n with
 | zero =>
  intro r x hn hc h
  by_cases e : r.s = sec
  ·rw [ar_hit e] at h; cases h; exact hc
  ·cases q : parO l r with
   | true => have := par_t q; omega
   | false => rw [ar_no e q] at h; cases h
 | succ n ih =>
  intro r x hn hc h
  by_cases e : r.s = sec
  ·rw [ar_hit e] at h; cases h; exact hc
  ·cases q : parO l r with
   | true =>
    have p := par_t q
    rw [ar_up e q] at h
    exact ih _ _ (by omega) (par_ck' hc p.2.1) h
   | false => rw [ar_no e q] at h; cases h
theorem wit_p {l : List S5} {r o : Ro} (h : ckR l r = 0) : witB l r o = ((arO l o.s r).isSome && sR ((arO l o.s r).getD ro0) o) := by
 unfold witB aroB aroR
 rw [if_pos h, decide_eq_true h]
 cases e : arO l o.s r with
 | none => rfl
 | some x =>
  show (true && (true && (decide (ckR l o = 0) && sR x o))) = (true && sR x o)
  cases q : sR x o with
  | false => simp
  | true =>
   rw [sR_eq] at q
   rw [← q, ar_ck _ _ _ (Nat.le_refl _) h e]; rfl
theorem paro_n {L : List S5} {pl : Option Addr} {cl : Nat} {r : Ro} {sec : Int} (w : World) (hL : LL w pl L) (hcl : L.length ≤ cl) : Calls Tryd.prog 50 #[.slice pl L.length cl, r.v, .int .i64 sec] w fun e9 w' => e9 = .returned (.tuple #[((arO L sec r).getD ro0).v, .bool (arO L sec r).isSome]) ∧ Mo w w' := by
 refine w_enter 22 Tryd.func50 Tryd.ntmps50 rfl rfl ?_
 have M : Mo w w := Mo.refl _
 refine w_seq (w_reg ?_)
 refine wl_box 25 (.tmp 1) _ (((r.cells).toArray)) rfl rfl (fun _ => by kernel_rfl) rfl ?_
 intro k1 u1 hk hz hq Q1
 have N_k1 : w.heap.size ≤ k1 := by have := M.size; omega
 replace M := M.trans hq
 clear hk hz hq
 refine wl_alloc 25 #[.int .i64 0, .int .i64 0, .int .i64 0, .int .i64 0] rfl (fun _ => by kernel_rfl) rfl ?_
 intro k2 u2 hk hz hq Q2
 have ne_k1_k2 : k1 ≠ k2 := by have := Q1.lt; omega
 have N_k2 : w.heap.size ≤ k2 := by have := M.size; omega
 replace Q1 := Q1.mo hq
 replace M := M.trans hq
 clear hk hz hq
 refine wl_m (.const (.bool false)) (.bool false) ?_
 refine w_nil (xn_then (w_seq (w_seq (w_reg ?_))))
 refine wl_m (.const (.bool true)) (.bool true) ?_
 refine w_nil (xn_then (w_block ?_))
 refine w_loop (fun m l9 w1 => ∃ (r1 : Ro) (b1 : Bool), m = (bif b1 then r1.s.toNat + 1 else 0) ∧ look l9 0 = .slice pl L.length cl ∧ look l9 2 = .int .i64 sec ∧ look l9 4 = pt k1 0 ∧ look l9 6 = pt k2 0 ∧ look l9 8 = .bool b1 ∧ At w1 k1 r1.cells ∧ At w1 k2 [.int .i64 0, .int .i64 0, .int .i64 0, .int .i64 0] ∧ (bif b1 then arO L sec r1 else none) = arO L sec r ∧ Mo w w1) _ ⟨r, true, rfl, rfl, rfl, rfl, rfl, rfl, Q1, Q2, rfl, M⟩ ?_
 clear M Q1 Q2
 rintro m l9 wl ⟨r1, b1, rfl, e0, e2, e4, e6, e8, Q1, Q2, har, M⟩
 cases b1 with
 | true =>
  have har' : arO L sec r1 = arO L sec r := har
  refine w_seq (w_seq (w_reg ?_))
  refine wl_mv (.tmp 8) (.bool true) (fun _ => rfl) e8 rfl ?_
  refine w_nil (xn_then (w_condT rfl (w_skip (xn_then (w_seq (w_block (w_seq (w_reg ?_))))))))
  refine wl_un (fun v => Instr.fieldAt 25 v 0) (.tmp 4) (pt k1 0) (pt k1 0) (fun _ => rfl) e4 (by kernel_rfl) rfl ?_
  refine wl_l 3 (.tmp 16) (pt k1 0) (.int .i64 (r1.s)) (run_one Q1 3 0 rfl Tryd.underlying3 rfl) ?_
  refine wl_mv (.tmp 2) (.int .i64 (sec)) (fun _ => rfl) e2 rfl ?_
  cases hf30 : decide (r1.s = sec) with
  | true =>
   have hf30p := of_decide_eq_true hf30
   refine wl_b .eql 3 (.tmp 17) (.tmp 18) (.int .i64 (r1.s)) (.int .i64 (sec)) (.bool true) (eq3 hf30 _ _ _) ?_
   refine w_nil (xn_then (w_condT rfl (w_seq (w_reg ?_))))
   refine wl_load 25 (.tmp 4) (pt k1 0) (.agg (r1.cells).toArray) rfl e4 (run_row Q1 25 0 4 (r1.cells) rfl Tryd.underlying25 rfl sz25) rfl ?_
   refine wl_st 25 (.tmp 6) (.tmp 20) k2 0 ((r1.cells).toArray) _ (r1.cells) Q2 rfl rfl e6 rfl rfl sz25 rfl rfl rfl ?_
   intro u41 hS Qn
   replace Q2 := Qn
   clear Qn
   replace Q1 := hS.other _ _ ne_k1_k2 Q1
   replace M := hS.mo _ N_k2 M
   clear hS
   refine wl_m (.const (.bool true)) (.bool true) ?_
   refine w_nil (xn_then (w_ret (xr_blk (xr_then (xr_then (xr_blk (xr_then ?_)))))))
   exact w_ret2 _ _ (.agg (r1.cells).toArray) (.bool true) rfl ⟨k2, e6, (run_row Q2 25 0 4 (r1.cells) rfl Tryd.underlying25 rfl sz25)⟩ rfl ⟨rp (a := r1) (by rw [← har', ar_hit hf30p]; rfl) (by rw [← har', ar_hit hf30p]; rfl), M⟩
  | false =>
   have hf30p := of_decide_eq_false hf30
   refine wl_b .eql 3 (.tmp 17) (.tmp 18) (.int .i64 (r1.s)) (.int .i64 (sec)) (.bool false) (eq3 hf30 _ _ _) ?_
   refine w_nil (xn_then (w_condF rfl (w_skip (xn_blk (xn_then (w_reg ?_))))))
   refine wl_mv (.tmp 0) (.slice pl L.length cl) (fun _ => rfl) e0 rfl ?_
   refine wl_load 25 (.tmp 4) (pt k1 0) (.agg (r1.cells).toArray) rfl e4 (run_row Q1 25 0 4 (r1.cells) rfl Tryd.underlying25 rfl sz25) rfl ?_
   refine wl_call 7 [(.tmp 11), (.tmp 12)] _ [.slice pl L.length cl, .agg (r1.cells).toArray] (.tuple #[.agg ((parR L r1).cells).toArray, .bool ((parO L r1))]) rfl rfl (fun _ _ => by kernel_rfl) (ppar_n _ (hL.mo M) hcl) rfl ?_
   intro u41 hq
   replace Q1 := Q1.mo hq
   replace Q2 := Q2.mo hq
   replace M := M.trans hq
   clear hq
   refine wl_m (.tmp 13) (.tuple #[.agg ((parR L r1).cells).toArray, .bool ((parO L r1))]) ?_
   refine wl_un (fun v => Instr.extract v 0) (.tmp 10) (.tuple #[.agg ((parR L r1).cells).toArray, .bool ((parO L r1))]) (.agg ((parR L r1).cells).toArray) (fun _ => rfl) rfl (by kernel_rfl) rfl ?_
   refine wl_un (fun v => Instr.extract v 1) (.tmp 10) (.tuple #[.agg ((parR L r1).cells).toArray, .bool ((parO L r1))]) (.bool ((parO L r1))) (fun _ => rfl) rfl (by kernel_rfl) rfl ?_
   refine wl_st 25 (.tmp 4) (.tmp 14) k1 0 (((parR L r1).cells).toArray) (r1.cells) ((parR L r1).cells) Q1 rfl rfl e4 rfl rfl sz25 rfl rfl rfl ?_
   intro u42 hS Qn
   replace Q1 := Qn
   clear Qn
   replace Q2 := hS.other _ _ ne_k1_k2.symm Q2
   replace M := hS.mo _ N_k1 M
   clear hS
   refine wl_m (.tmp 15) (.bool ((parO L r1))) ?_
   refine w_nil ?_
   have hn := ar_next (l := L) hf30p
   exact xn_loop (bif parO L r1 then (parR L r1).s.toNat + 1 else 0) hn.1 ⟨parR L r1, parO L r1, rfl, e0, e2, e4, e6, rfl, Q1, Q2, hn.2.trans har', M⟩
 | false =>
  have har' : none = arO L sec r := har
  refine w_seq (w_seq (w_reg ?_))
  refine wl_mv (.tmp 8) (.bool false) (fun _ => rfl) e8 rfl ?_
  refine w_nil (xn_then (w_condF rfl (w_exit (xx_then (xx_then (xx_blk (xn_then (w_seq (w_reg ?_)))))))))
  refine wl_build 25 [] [] (.agg #[.int .i64 0, .int .i64 0, .int .i64 0, .int .i64 0]) rfl rfl (by kernel_rfl) rfl ?_
  refine wl_st 25 (.tmp 6) (.tmp 21) k2 0 #[.int .i64 0, .int .i64 0, .int .i64 0, .int .i64 0] _ [.int .i64 0, .int .i64 0, .int .i64 0, .int .i64 0] Q2 rfl rfl e6 rfl rfl sz25 rfl rfl rfl ?_
  intro u41 hS Qn
  replace Q2 := Qn
  clear Qn
  replace Q1 := hS.other _ _ ne_k1_k2 Q1
  replace M := hS.mo _ N_k2 M
  clear hS
  refine wl_m (.const (.bool false)) (.bool false) ?_
  refine w_nil (xn_then (w_ret ?_))
  exact w_ret2 _ _ (.agg #[.int .i64 0, .int .i64 0, .int .i64 0, .int .i64 0]) (.bool false) rfl ⟨k2, e6, (run_row Q2 25 0 4 _ rfl Tryd.underlying25 rfl sz25)⟩ rfl ⟨rp (a := ro0) (by rw [← har']; rfl) (by rw [← har']; rfl), M⟩
theorem pwit_n {L : List S5} {pl : Option Addr} {cl : Nat} {r o : Ro} (w : World) (hL : LL w pl L) (hcl : L.length ≤ cl) : Calls Tryd.prog 28 #[.slice pl L.length cl, r.v, o.v] w fun e9 w' => e9 = .returned (.bool (witB L r o)) ∧ Mo w w' := by
 refine w_enter 27 Tryd.func28 Tryd.ntmps28 rfl rfl ?_
 have M : Mo w w := Mo.refl _
 refine w_seq (w_reg ?_)
 refine wl_box 25 (.tmp 1) _ (((r.cells).toArray)) rfl rfl (fun _ => by kernel_rfl) rfl ?_
 intro k1 u1 hk hz hq Q1
 have N_k1 : w.heap.size ≤ k1 := by have := M.size; omega
 replace M := M.trans hq
 clear hk hz hq
 refine wl_box 25 (.tmp 2) _ (((o.cells).toArray)) rfl rfl (fun _ => by kernel_rfl) rfl ?_
 intro k2 u2 hk hz hq Q2
 have ne_k1_k2 : k1 ≠ k2 := by have := Q1.lt; omega
 have N_k2 : w.heap.size ≤ k2 := by have := M.size; omega
 replace Q1 := Q1.mo hq
 replace M := M.trans hq
 clear hk hz hq
 refine wl_m (.const (.bool false)) (.bool false) ?_
 refine w_nil (xn_then (w_seq (w_seq (w_reg ?_))))
 refine wl_m (.tmp 0) (.slice pl L.length cl) ?_
 refine wl_l 25 (.tmp 4) (pt k1 0) (.agg (r.cells).toArray) (run_row Q1 25 0 4 (r.cells) rfl Tryd.underlying25 rfl sz25) ?_
 refine wl_call 10 [(.tmp 9), (.tmp 10)] _ [.slice pl L.length cl, .agg (r.cells).toArray] (.int .i64 (ckR L r)) rfl rfl (fun _ _ => by kernel_rfl) (pck_n _ (hL.mo M) hcl) rfl ?_
 intro u3 hq
 replace Q1 := Q1.mo hq
 replace Q2 := Q2.mo hq
 replace M := M.trans hq
 clear hq
 cases hf0 : decide (ckR L r = 0) with
 | true =>
  have hf0p := of_decide_eq_true hf0
  refine wl_b .neq 31 (.tmp 11) (.const (.int .i64 (0))) (.int .i64 (ckR L r)) (.int .i64 (0)) (.bool false) (ne34 hf0 _ _ _) ?_
  refine w_nil (xn_then (w_condF rfl (w_skip (xn_then (w_seq (w_reg ?_))))))
  refine wl_m (.tmp 0) (.slice pl L.length cl) ?_
  refine wl_l 25 (.tmp 4) (pt k1 0) (.agg (r.cells).toArray) (run_row Q1 25 0 4 (r.cells) rfl Tryd.underlying25 rfl sz25) ?_
  refine wl_f 25 0 (.tmp 5) (pt k2 0) (pt k2 0) ?_
  refine wl_l 3 (.tmp 16) (pt k2 0) (.int .i64 (o.s)) (run_one Q2 3 0 rfl Tryd.underlying3 rfl) ?_
  cases hf1 : (arO L o.s r).isSome with
  | true =>
   refine wl_call 50 [(.tmp 14), (.tmp 15), (.tmp 17)] _ [.slice pl L.length cl, .agg (r.cells).toArray, .int .i64 (o.s)] (.tuple #[.agg (((arO L o.s r).getD ro0).cells).toArray, .bool true]) rfl rfl (fun _ _ => by kernel_rfl) (cR (by rw [hf1]) (paro_n _ (hL.mo M) hcl)) rfl ?_
   intro u4 hq
   replace Q1 := Q1.mo hq
   replace Q2 := Q2.mo hq
   replace M := M.trans hq
   clear hq
   refine wl_m (.tmp 18) (.tuple #[.agg (((arO L o.s r).getD ro0).cells).toArray, .bool true]) ?_
   refine wl_un (fun v => Instr.extract v 0) (.tmp 13) (.tuple #[.agg (((arO L o.s r).getD ro0).cells).toArray, .bool true]) (.agg (((arO L o.s r).getD ro0).cells).toArray) (fun _ => rfl) rfl (by kernel_rfl) rfl ?_
   refine wl_un (fun v => Instr.extract v 1) (.tmp 13) (.tuple #[.agg (((arO L o.s r).getD ro0).cells).toArray, .bool true]) (.bool true) (fun _ => rfl) rfl (by kernel_rfl) rfl ?_
   refine wl_alloc 25 #[.int .i64 0, .int .i64 0, .int .i64 0, .int .i64 0] rfl (fun _ => by kernel_rfl) rfl ?_
   intro k3 u5 hk hz hq Q3
   have ne_k1_k3 : k1 ≠ k3 := by have := Q1.lt; omega
   have ne_k2_k3 : k2 ≠ k3 := by have := Q2.lt; omega
   have N_k3 : w.heap.size ≤ k3 := by have := M.size; omega
   replace Q1 := Q1.mo hq
   replace Q2 := Q2.mo hq
   replace M := M.trans hq
   clear hk hz hq
   refine wl_st 25 (.tmp 7) (.tmp 19) k3 0 ((((arO L o.s r).getD ro0).cells).toArray) _ (((arO L o.s r).getD ro0).cells) Q3 rfl rfl rfl rfl rfl sz25 rfl rfl rfl ?_
   intro u6 hS Qn
   replace Q3 := Qn
   clear Qn
   replace Q1 := hS.other _ _ ne_k1_k3 Q1
   replace Q2 := hS.other _ _ ne_k2_k3 Q2
   replace M := hS.mo _ N_k3 M
   clear hS
   refine wl_m (.tmp 20) (.bool true) ?_
   refine w_nil (xn_then (w_seq (w_reg ?_)))
   refine wl_m (.tmp 8) (.bool true) ?_
   refine wl_m (.tmp 21) (.bool true) ?_
   refine wl_l 25 (.tmp 7) (pt k3 0) (.agg (((arO L o.s r).getD ro0).cells).toArray) (run_row Q3 25 0 4 (((arO L o.s r).getD ro0).cells) rfl Tryd.underlying25 rfl sz25) ?_
   refine wl_l 25 (.tmp 5) (pt k2 0) (.agg (o.cells).toArray) (run_row Q2 25 0 4 (o.cells) rfl Tryd.underlying25 rfl sz25) ?_
   cases hf2 : sR ((arO L o.s r).getD ro0) o with
   | true =>
    refine wl_b .eql 25 (.tmp 23) (.tmp 24) (.agg (((arO L o.s r).getD ro0).cells).toArray) (.agg (o.cells).toArray) (.bool true) (eqR hf2 _ _ _) ?_
    refine wl_pick (.tmp 22) (.tmp 25) (.const (.bool false)) true (.bool true) (fun _ => rfl) rfl rfl rfl ?_
    refine wl_m (.tmp 26) (.bool true) ?_
    refine w_nil (xn_then (w_ret ?_))
    exact w_ret1 _ (.bool true) rfl rfl ⟨congrArg (fun v => Ending.returned (.bool v)) (by rw [wit_p hf0p]; simp [hf1, hf2]), M⟩
   | false =>
    refine wl_b .eql 25 (.tmp 23) (.tmp 24) (.agg (((arO L o.s r).getD ro0).cells).toArray) (.agg (o.cells).toArray) (.bool false) (eqR hf2 _ _ _) ?_
    refine wl_pick (.tmp 22) (.tmp 25) (.const (.bool false)) true (.bool false) (fun _ => rfl) rfl rfl rfl ?_
    refine wl_m (.tmp 26) (.bool false) ?_
    refine w_nil (xn_then (w_ret ?_))
    exact w_ret1 _ (.bool false) rfl rfl ⟨congrArg (fun v => Ending.returned (.bool v)) (by rw [wit_p hf0p]; simp [hf1, hf2]), M⟩
  | false =>
   refine wl_call 50 [(.tmp 14), (.tmp 15), (.tmp 17)] _ [.slice pl L.length cl, .agg (r.cells).toArray, .int .i64 (o.s)] (.tuple #[.agg (((arO L o.s r).getD ro0).cells).toArray, .bool false]) rfl rfl (fun _ _ => by kernel_rfl) (cR (by rw [hf1]) (paro_n _ (hL.mo M) hcl)) rfl ?_
   intro u4 hq
   replace Q1 := Q1.mo hq
   replace Q2 := Q2.mo hq
   replace M := M.trans hq
   clear hq
   refine wl_m (.tmp 18) (.tuple #[.agg (((arO L o.s r).getD ro0).cells).toArray, .bool false]) ?_
   refine wl_un (fun v => Instr.extract v 0) (.tmp 13) (.tuple #[.agg (((arO L o.s r).getD ro0).cells).toArray, .bool false]) (.agg (((arO L o.s r).getD ro0).cells).toArray) (fun _ => rfl) rfl (by kernel_rfl) rfl ?_
   refine wl_un (fun v => Instr.extract v 1) (.tmp 13) (.tuple #[.agg (((arO L o.s r).getD ro0).cells).toArray, .bool false]) (.bool false) (fun _ => rfl) rfl (by kernel_rfl) rfl ?_
   refine wl_alloc 25 #[.int .i64 0, .int .i64 0, .int .i64 0, .int .i64 0] rfl (fun _ => by kernel_rfl) rfl ?_
   intro k3 u5 hk hz hq Q3
   have ne_k1_k3 : k1 ≠ k3 := by have := Q1.lt; omega
   have ne_k2_k3 : k2 ≠ k3 := by have := Q2.lt; omega
   have N_k3 : w.heap.size ≤ k3 := by have := M.size; omega
   replace Q1 := Q1.mo hq
   replace Q2 := Q2.mo hq
   replace M := M.trans hq
   clear hk hz hq
   refine wl_st 25 (.tmp 7) (.tmp 19) k3 0 ((((arO L o.s r).getD ro0).cells).toArray) _ (((arO L o.s r).getD ro0).cells) Q3 rfl rfl rfl rfl rfl sz25 rfl rfl rfl ?_
   intro u6 hS Qn
   replace Q3 := Qn
   clear Qn
   replace Q1 := hS.other _ _ ne_k1_k3 Q1
   replace Q2 := hS.other _ _ ne_k2_k3 Q2
   replace M := hS.mo _ N_k3 M
   clear hS
   refine wl_m (.tmp 20) (.bool false) ?_
   refine w_nil (xn_then (w_seq (w_reg ?_)))
   refine wl_m (.tmp 8) (.bool false) ?_
   refine wl_m (.tmp 21) (.bool false) ?_
   refine wl_skip rfl (wl_skip rfl (wl_skip rfl ?_))
   refine wl_pick (.tmp 22) (.tmp 25) (.const (.bool false)) false (.bool false) (fun _ => rfl) rfl rfl rfl ?_
   refine wl_m (.tmp 26) (.bool false) ?_
   refine w_nil (xn_then (w_ret ?_))
   exact w_ret1 _ (.bool false) rfl rfl ⟨congrArg (fun v => Ending.returned (.bool v)) (by rw [wit_p hf0p]; simp [hf1]), M⟩
 | false =>
  have hf0p := of_decide_eq_false hf0
  refine wl_b .neq 31 (.tmp 11) (.const (.int .i64 (0))) (.int .i64 (ckR L r)) (.int .i64 (0)) (.bool true) (ne34 hf0 _ _ _) ?_
  refine w_nil (xn_then (w_condT rfl (w_seq (w_reg ?_))))
  refine wl_m (.const (.bool false)) (.bool false) ?_
  refine w_nil (xn_then (w_ret (xr_then ?_)))
  exact w_ret1 _ (.bool false) rfl rfl ⟨congrArg (fun v => Ending.returned (.bool v)) (by simp [witB, aroB, hf0p]), M⟩
end Go.Proofs.YtnffhcjmpjajlaaDoor
namespace Go.Proofs.YtnffhcjmpjajlaaDoor.V
open Go.RowKit
section
variable {P : Program} {o : Oper} {n : Nat} {l : List (Nat × Value)} {w : World} {ops : Array Oper} {rest : List Oper} {Q : Exit → Act → World → Prop} {K : Act → World → Prop}
theorem wo_alloc (ty : TypeId) (zs : Array Value) (ho : o.op = .alloc ty) (h : ∀ w, (Instr.alloc ty true (.tuple #[])).run P w = .ok (pt w.heap.size 0) (w.alloc (.cells zs ty))) (hk : ∀ k w', w.heap.size = k → w'.heap.size = k + 1 → Mw w w' → At w' k zs.toList → K (fr n (ext l o.dst (pt k 0))) w') : WO P o n l w K Q := ⟨o_alloc ty zs ho h (fun k w' a b c d => (hk k w' a b c d))⟩
end
end Go.Proofs.YtnffhcjmpjajlaaDoor.V

namespace Go.Proofs.YtnffhcjmpjajlaaDoor
open Go.ChangeShapes Go.WideShapes Go.ChangeAt Go.RowKit Go.ChangeMaps D
set_option maxRecDepth 100000
theorem Tryd.cl2 : Tryd.prog.cellsOf 2 = 1 := by kernel_rfl
theorem Tryd.cl3 : Tryd.prog.cellsOf 3 = 1 := by kernel_rfl
theorem Tryd.cl22 : Tryd.prog.cellsOf 22 = 1 := by kernel_rfl
theorem Tryd.cl23 : Tryd.prog.cellsOf 23 = 3 := by kernel_rfl
theorem Tryd.cl25 : Tryd.prog.cellsOf 25 = 4 := by kernel_rfl
theorem Tryd.cl61 : Tryd.prog.cellsOf 61 = 11 := by kernel_rfl
section
variable {H : Type} {enc : TypeId × Value → H} {W : World} {sp : Nat → Bool} {fuel : Nat} {cs : List Value} {x : DataW H × List MemPlace}
theorem cut_ids (h : DataW.trod enc Tryd.prog W 0 sp true fuel 23 cs = some x) : ∃ a b c : Int, cs = [.int .i64 a, .int .i64 b, .int .i64 c] := by
 obtain ⟨xs, m, rfl, rfl, hlen, hn, hi⟩ := DataW.trod_array Tryd.underlying23 h
 rw [Tryd.cl23] at hlen
 obtain ⟨c0, c1, c2, rfl⟩ : ∃ c0 c1 c2, cs = [c0, c1, c2] := by
  match cs, hlen with
  | [a, b, c], _ => exact ⟨a, b, c, rfl⟩
 obtain ⟨y0, y1, y2, rfl⟩ : ∃ y0 y1 y2, xs = [y0, y1, y2] := by
  match xs, hn with
  | [a, b, c], _ => exact ⟨a, b, c, rfl⟩
 have i0 := hi 0 (by decide)
 have i1 := hi 1 (by decide)
 have i2 := hi 2 (by decide)
 simp only [Tryd.cl2] at i0 i1 i2
 simp at i0 i1 i2
 obtain ⟨x0, e0, rfl, _⟩ := DataW.trod_int Tryd.underlying2 i0
 obtain ⟨x1, e1, rfl, _⟩ := DataW.trod_int Tryd.underlying2 i1
 obtain ⟨x2, e2, rfl, _⟩ := DataW.trod_int Tryd.underlying2 i2
 simp at e0 e1 e2
 subst e0 e1 e2
 exact ⟨x0, x1, x2, rfl⟩
theorem cut_row (h : DataW.trod enc Tryd.prog W 0 sp true fuel 25 cs = some x) : ∃ r : Ro, cs = r.cells := by
 obtain ⟨xs, n, rfl, rfl, hl, hlen, hi⟩ := DataW.trod_struct Tryd.underlying25 h
 rw [Tryd.cl25] at hl
 obtain ⟨c0, c1, c2, c3, rfl⟩ : ∃ c0 c1 c2 c3, cs = [c0, c1, c2, c3] := by
  match cs, hl with
  | [a0, a1, a2, a3], _ => exact ⟨a0, a1, a2, a3, rfl⟩
 obtain ⟨y0, y1, rfl⟩ : ∃ y0 y1, xs = [y0, y1] := by
  match xs, hlen with
  | [a0, a1], _ => exact ⟨a0, a1, rfl⟩
 have i0 := hi 0 _ rfl
 have i1 := hi 1 _ rfl
 simp [Tryd.cl3, Tryd.cl23] at i0 i1
 obtain ⟨k, e0, rfl, _⟩ := DataW.trod_int Tryd.underlying3 i0
 obtain ⟨a, b, c, e1⟩ := cut_ids i1
 simp at e0 e1
 obtain ⟨e10, e11, e12⟩ := e1
 subst e0 e10 e11 e12
 exact ⟨⟨k, a, b, c⟩, rfl⟩
end
section
variable {H : Type} {enc : TypeId × Value → H} {W : World} {base : Nat} {v : Value} {d : DataW H} {p : List MemPlace}
theorem open_row (hv : Value.okWide Tryd.prog W .any base 25 v) (h : DataW.Trod enc Tryd.prog W 0 (fun _ => true) true 25 v d p) : ∃ x : Ro, v = x.v := by
 obtain ⟨a, rfl, _⟩ := okWide_struct Tryd.underlying25 hv
 obtain ⟨fuel, hf⟩ := h
 obtain ⟨x, e⟩ := cut_row hf
 exact ⟨x, by have e2 : a = x.cells.toArray := (by rw [← e]; simp [Value.cells]); rw [e2]⟩
end
namespace D
end D
end Go.Proofs.YtnffhcjmpjajlaaDoor
namespace Go.Proofs.YtnffhcjmpjajlaaDoor.V
open Go.RowKit D
def depj (ops : List Oper) (j i : Nat) : Bool := match ops[j]? with
 | some o => depb o i
 | none => false
section
variable {P : Program} {o : Oper} {n : Nat} {l : List (Nat × Value)} {w : World} {Q : Exit → Act → World → Prop} {K : Act → World → Prop}
structure OgX (P : Program) (ops : List Oper) (Q : Exit → Act → World → Prop) (n : Nat) (l : List (Nat × Value)) (G : (Nat → Value) → World → Prop) (R : Nat → (Nat → Value) → World → Prop) (i : Nat) (o : Oper) : Prop where
 out : ∀ f w, G f w → (∀ j, depb o j = true → R j f w) → ∀ K : Act → World → Prop,
  (∀ v w', G (upd f i v) w' → R i (upd f i v) w' → (∀ j, j ≠ i → depj ops j i = false → R j f w → R j (upd f i v) w') → K (fr n (ext (asg f 0 ops l) o.dst v)) w') →
  Go1 P ops Q n (asg f 0 ops l) w K o
theorem w_ogx {id : Nat} {ol : List Oper} (G : (Nat → Value) → World → Prop) (R : Nat → (Nat → Value) → World → Prop) (hm : P.follows .mixedOrders = true)
  (hb : edgesBack .any ol.toArray = true) (hd : dstsApart ol = true) (hG : G (slots (fr n l) ol.toArray) w.drew) (hs : Each (OgX P ol Q n l G R) 0 ol)
  (hend : ∀ f w', G f w' → (∀ i, Nat.blt i ol.length = true → R i f w') → WX Q .normal n (asg f 0 ol l) w') : WC P (Code.region id ol.toArray true) Q n l w := by
 refine ⟨wp_region_any hm ?_⟩
 have h0 : fr n (asg (slots (fr n l) ol.toArray) 0 ol l) = fr n l := by
  rw [← putAll_fr]
  exact putAll_self (fr n l) ol 0 _ (fun i o ho t ht => by simp [slots, ho, ht])
 have key : wpAny P .any ol.toArray Q ol.toArray.size (Array.replicate ol.toArray.size false) (fr n (asg (slots (fr n l) ol.toArray) 0 ol l)) w.drew := by
  refine wpAny_inv (fun listed a w => listed.size = ol.toArray.size ∧ (∀ (j : Nat) (o : Oper), ol.toArray[j]? = some o → listed.getD j false = true → ∀ e ∈ o.after, Region.binds .any e = true → listed.getD e.on false = true) ∧ ∃ f, G f w ∧ a = fr n (asg f 0 ol l) ∧ ∀ i, listed.getD i false = true → R i f w) hb ?_ ?_ _ _ _ _ ?_ ⟨by simp, fun j o _ hj => ?_, slots (fr n l) ol.toArray, hG, rfl, fun i hi => ?_⟩
  ·rintro listed a w i o ⟨hz, hcl, f, hG, rfl, hR⟩ ho h0 hall
   have hol : ol[i]? = some o := by simpa using ho
   have hst := Each.spec ol 0 hs i o hol
   rw [Nat.zero_add] at hst
   refine wpOp_step ho (fun K hK => ?_)
   have h1 := (hst.out f w hG (fun j hj => by
    obtain ⟨e, he, hbe⟩ := List.any_eq_true.1 hj
    simp only [Bool.and_eq_true] at hbe
    have := hR _ (hall e (by simpa using he) hbe.1)
    rwa [Nat.eq_of_beq_eq_true hbe.2] at this) K (fun v w' hG' hi' hj' => by
     have ep : (fr n (asg f 0 ol l)).put o.dst v = fr n (asg (upd f i v) 0 ol l) := by
      rw [← putAll_fr, ← putAll_fr]
      have := putAll_put v ol 0 f (fr n l) hd i o hol
      simpa using this
     have hh := hK ((fr n (asg f 0 ol l)).put o.dst v) w' ⟨by simpa using hz, ?_, upd f i v, hG', ep, fun j hj => ?_⟩
     ·rw [fr_put] at hh; exact hh
     ·intro j oj hoj hj e he hbe
      by_cases hji : j = i
      ·subst hji
       rw [ho] at hoj; cases hoj
       have h9 := hall e he hbe
       by_cases q : e.on = j
       ·have hsz : j < listed.size := by
         rcases Nat.lt_or_ge j listed.size with h' | h'
         ·exact h'
         ·simp [Array.getElem?_eq_none h'] at h0
        rw [q]; simp [hsz]
       ·rw [getD_set_ne false (Ne.symm q)]; exact h9
      ·rw [getD_set_ne false (Ne.symm hji)] at hj
       have h9 := hcl j oj hoj hj e he hbe
       by_cases q : e.on = i
       ·have hsz : i < listed.size := by
         rcases Nat.lt_or_ge i listed.size with h' | h'
         ·exact h'
         ·simp [Array.getElem?_eq_none h'] at h0
        rw [q]; simp [hsz]
       ·rw [getD_set_ne false (Ne.symm q)]; exact h9
     ·by_cases hji : j = i
      ·subst hji; exact hi'
      ·rw [getD_set_ne false (Ne.symm hji)] at hj
       refine hj' j hji ?_ (hR j hj)
       cases hq : depj ol j i with
       | false => rfl
       | true =>
        exfalso
        unfold depj at hq
        cases hoj : ol[j]? with
        | none => rw [hoj] at hq; cases hq
        | some oj =>
         rw [hoj] at hq
         obtain ⟨e, he, hbe⟩ := List.any_eq_true.1 hq
         simp only [Bool.and_eq_true] at hbe
         have h9 := hcl j oj (by simpa using hoj) hj e (by simpa using he) hbe.1
         rw [Nat.eq_of_beq_eq_true hbe.2] at h9
         rcases Nat.lt_or_ge i listed.size with h' | h'
         ·simp [h'] at h0 h9
          rw [h0] at h9; cases h9
         ·simp [Array.getElem?_eq_none h'] at h0)).out
   simp only [fr_wanted, fr_put]
   rcases h1 with ⟨g1, g2⟩ | ⟨g1, g2⟩
   ·rw [g1]; exact g2.out
   ·rw [g1]; exact g2
  ·rintro listed a w ⟨hz, _, f, hG, rfl, hR⟩ hall
   refine (hend f w hG (fun i hi => hR i ?_)).out
   rw [Nat.blt_eq] at hi
   have h1 := hall i (by simpa using hi)
   have : i < listed.size := by rw [hz]; simpa using hi
   simpa [this] using h1
  ·simp
  ·exfalso
   rcases Nat.lt_or_ge j ol.length with h' | h'
   ·simp [h'] at hj
   ·simp [h'] at hj
  ·exfalso
   rcases Nat.lt_or_ge i ol.length with h' | h'
   ·simp [h'] at hi
   ·simp [h'] at hi
 rw [h0] at key
 exact key
end
def NW (W : World) (z A : List Value) (u : Value) (w : World) : Prop := u = undef ∨ ∃ k, u = pt k 0 ∧ W.heap.size ≤ k ∧ (At w k z ∨ At w k A)
theorem NW.mo {W : World} {z A : List Value} {u : Value} {w w' : World} (h : NW W z A u w) (m : Mw w w') : NW W z A u w' := by
 rcases h with h | ⟨k, h1, h2, h3⟩
 ·exact .inl h
 ·exact .inr ⟨k, h1, h2, h3.imp (·.mo m) (·.mo m)⟩
theorem NW.lt {W : World} {z A : List Value} {u : Value} {w : World} (h : NW W z A u w) {k : Nat} (e : u = pt k 0) : k < w.heap.size := by
 rcases h with h | ⟨k', h1, _, h3⟩
 ·rw [h] at e; cases e
 ·rw [h1] at e; cases e
  rcases h3 with h | h <;> exact h.lt
theorem NW.at {W : World} {z A : List Value} {u : Value} {w : World} (h : NW W z A u w) {k : Nat} (e : u = pt k 0) : W.heap.size ≤ k ∧ (At w k z ∨ At w k A) := by
 rcases h with h | ⟨k', h1, h2, h3⟩
 ·rw [h] at e; cases e
 ·rw [h1] at e; cases e
  exact ⟨h2, h3⟩
def GW (W : World) (z A B : List Value) (f : Nat → Value) (w : World) : Prop := Mw W w ∧ NW W z A (f 11) w ∧ NW W z B (f 12) w ∧ ∀ k k', f 11 = pt k 0 → f 12 = pt k' 0 → k ≠ k'
theorem gw_start {W w : World} {z A B : List Value} {f : Nat → Value} (h11 : f 11 = undef) (h12 : f 12 = undef) (m : Mw W w) : GW W z A B f w := ⟨m, .inl h11, .inl h12, fun k k' e _ => by rw [h11] at e; cases e⟩
def RW (A B : List Value) (vs : List Value) (i : Nat) (f : Nat → Value) (w : World) : Prop :=
 if i = 11 then ∃ k, f 11 = pt k 0 else if i = 12 then ∃ k, f 12 = pt k 0 else if i = 14 then ∃ k, f 11 = pt k 0 ∧ At w k A else if i = 15 then ∃ k, f 12 = pt k 0 ∧ At w k B else f i = vs.getD i undef
def plB (i : Nat) : Bool := !(i == 11 || i == 12 || i == 14 || i == 15)
theorem plB_ne {i : Nat} (h : plB i = true) : i ≠ 11 ∧ i ≠ 12 ∧ i ≠ 14 ∧ i ≠ 15 := by
 unfold plB at h; simp at h; omega
theorem RW_pl {A B vs : List Value} {i : Nat} {f : Nat → Value} {w : World} (h : plB i = true) : RW A B vs i f w ↔ f i = vs.getD i undef := by
 obtain ⟨a, b, c, d⟩ := plB_ne h
 unfold RW; rw [if_neg a, if_neg b, if_neg c, if_neg d]
theorem upd_ne {f : Nat → Value} {i j : Nat} {v : Value} (h : j ≠ i) : upd f i v j = f j := by unfold upd; rw [if_neg h]
theorem upd_eq {f : Nat → Value} {i : Nat} {v : Value} : upd f i v i = v := by unfold upd; rw [if_pos rfl]
theorem RW_mo {A B vs : List Value} {i j : Nat} {f : Nat → Value} {v : Value} {w w' : World} (hi : i ≠ 11 ∧ i ≠ 12) (hj : j ≠ i) (h : RW A B vs j f w) (m : Mw w w') : RW A B vs j (upd f i v) w' := by
 unfold RW at h ⊢
 rw [upd_ne (Ne.symm hi.1), upd_ne (Ne.symm hi.2), upd_ne hj]
 split at h
 ·rename_i e; rw [if_pos e]; exact h
 ·rename_i e; rw [if_neg e]
  split at h
  ·rename_i e; rw [if_pos e]; exact h
  ·rename_i e; rw [if_neg e]
   split at h
   ·rename_i e; rw [if_pos e]; obtain ⟨k, a, b⟩ := h; exact ⟨k, a, b.mo m⟩
   ·rename_i e; rw [if_neg e]
    split at h
    ·rename_i e; rw [if_pos e]; obtain ⟨k, a, b⟩ := h; exact ⟨k, a, b.mo m⟩
    ·rename_i e; rw [if_neg e]; exact h
section
variable {P : Program} {o : Oper} {n : Nat} {l : List (Nat × Value)} {Q : Exit → Act → World → Prop} {ol : List Oper} {W : World} {z A B vs : List Value}
theorem ox_eq {i : Nat} (v : Value) (hi : plB i = true) (hv : vs.getD i undef = v)
  (h : ∀ f w, Mw W w → (∀ j, depb o j = true → plB j = true → f j = vs.getD j undef) → ∀ K : Act → World → Prop, (∀ w', Mw w w' → K (fr n (ext (asg f 0 ol l) o.dst v)) w') → Go1 P ol Q n (asg f 0 ol l) w K o) : OgX P ol Q n l (GW W z A B) (RW A B vs) i o := by
 refine ⟨fun f w hG hd K hK => h f w hG.1 (fun j hj hp => (RW_pl hp).1 (hd j hj)) K (fun w' m => ?_)⟩
 obtain ⟨a, b, c, d⟩ := plB_ne hi
 obtain ⟨g1, g2, g3, g4⟩ := hG
 refine hK v w' ⟨g1.trans m, ?_, ?_, ?_⟩ ((RW_pl hi).2 (by rw [upd_eq, hv])) (fun j hj _ hr => RW_mo ⟨a, b⟩ hj hr m)
 ·rw [upd_ne (Ne.symm a)]; exact g2.mo m
 ·rw [upd_ne (Ne.symm b)]; exact g3.mo m
 ·rw [upd_ne (Ne.symm a), upd_ne (Ne.symm b)]; exact g4
theorem ox_n11 (h14 : depj ol 14 11 = true)
  (h : ∀ f w (K : Act → World → Prop), (∀ k w', w.heap.size = k → w'.heap.size = k + 1 → Mw w w' → At w' k z → K (fr n (ext (asg f 0 ol l) o.dst (pt k 0))) w') → Go1 P ol Q n (asg f 0 ol l) w K o) : OgX P ol Q n l (GW W z A B) (RW A B vs) 11 o := by
 refine ⟨fun f w hG _ K hK => h f w K (fun k w' hk hz m hA => ?_)⟩
 obtain ⟨g1, g2, g3, g4⟩ := hG
 refine hK (pt k 0) w' ⟨g1.trans m, ?_, ?_, ?_⟩ (by unfold RW; rw [if_pos rfl]; exact ⟨k, upd_eq⟩) (fun j hj hdj hr => ?_)
 ·rw [upd_eq]; exact .inr ⟨k, rfl, by have := g1.size; omega, .inl hA⟩
 ·rw [upd_ne (by decide)]; exact g3.mo m
 ·intro k1 k2 e1 e2
  rw [upd_eq] at e1
  rw [upd_ne (by decide)] at e2
  cases e1
  have := g3.lt e2
  omega
 ·have hj14 : j ≠ 14 := fun e => by rw [e, h14] at hdj; cases hdj
  unfold RW at hr ⊢
  rw [if_neg hj] at hr ⊢
  rw [if_neg hj14] at hr
  rw [upd_ne (show (12 : Nat) ≠ 11 by decide), upd_ne hj, if_neg hj14]
  split at hr
  ·rename_i e; rw [if_pos e]; exact hr
  ·rename_i e; rw [if_neg e]
   split at hr
   ·rename_i e; rw [if_pos e]; obtain ⟨k, a, b⟩ := hr; exact ⟨k, a, b.mo m⟩
   ·rename_i e; rw [if_neg e]; exact hr
theorem ox_n12 (h15 : depj ol 15 12 = true)
  (h : ∀ f w (K : Act → World → Prop), (∀ k w', w.heap.size = k → w'.heap.size = k + 1 → Mw w w' → At w' k z → K (fr n (ext (asg f 0 ol l) o.dst (pt k 0))) w') → Go1 P ol Q n (asg f 0 ol l) w K o) : OgX P ol Q n l (GW W z A B) (RW A B vs) 12 o := by
 refine ⟨fun f w hG _ K hK => h f w K (fun k w' hk hz m hA => ?_)⟩
 obtain ⟨g1, g2, g3, g4⟩ := hG
 refine hK (pt k 0) w' ⟨g1.trans m, ?_, ?_, ?_⟩ (by unfold RW; rw [if_neg (by decide), if_pos rfl]; exact ⟨k, upd_eq⟩) (fun j hj hdj hr => ?_)
 ·rw [upd_ne (by decide)]; exact g2.mo m
 ·rw [upd_eq]; exact .inr ⟨k, rfl, by have := g1.size; omega, .inl hA⟩
 ·intro k1 k2 e1 e2
  rw [upd_eq] at e2
  rw [upd_ne (by decide)] at e1
  cases e2
  have := g2.lt e1
  omega
 ·have hj15 : j ≠ 15 := fun e => by rw [e, h15] at hdj; cases hdj
  unfold RW at hr ⊢
  rw [upd_ne (show (11 : Nat) ≠ 12 by decide), upd_ne hj]
  split at hr
  ·rename_i e; rw [if_pos e]; exact hr
  ·rename_i e; rw [if_neg e]
   rw [if_neg hj]
   split at hr
   ·rename_i e; rw [if_pos e]; obtain ⟨k, a, b⟩ := hr; exact ⟨k, a, b.mo m⟩
   ·rename_i e; rw [if_neg e]
    rw [if_neg hj15]
    exact hr
theorem RW_14 {f : Nat → Value} {w : World} : RW A B vs 14 f w ↔ ∃ k, f 11 = pt k 0 ∧ At w k A := by unfold RW; rw [if_neg (by decide), if_neg (by decide), if_pos rfl]
theorem RW_15 {f : Nat → Value} {w : World} : RW A B vs 15 f w ↔ ∃ k, f 12 = pt k 0 ∧ At w k B := by unfold RW; rw [if_neg (by decide), if_neg (by decide), if_neg (by decide), if_pos rfl]
theorem RW_11 {f : Nat → Value} {w : World} : RW A B vs 11 f w ↔ ∃ k, f 11 = pt k 0 := by unfold RW; rw [if_pos rfl]
theorem RW_12 {f : Nat → Value} {w : World} : RW A B vs 12 f w ↔ ∃ k, f 12 = pt k 0 := by unfold RW; rw [if_neg (by decide), if_pos rfl]
theorem whole4 {ty : TypeId} {x y : Operand} {k : Nat} {us : Array Value} {cs : List Value} {w : World} {K : Act → World → Prop} {l : List (Nat × Value)} (hA : At w k cs) (hcs : cs.length = us.size) (ho : o.op = .store ty x y) (hd : o.dst = none) (hx : evl n l x = pt k 0) (hy : evl n l y = .agg us)
  (hi : (P.info? ty).map (·.size) = some us.size) (h1 : us.toList.all (·.oneCell') = true) (hk : ∀ w', St k w w' → At w' k us.toList → K (fr n l) w') : WO P o n l w K Q :=
 ⟨o_st ty x y k 0 us cs us.toList hA ho hd hx hy (by rw [Nat.ble_eq]; omega) hi h1 (by
  rw [List.take_zero, List.nil_append, Nat.zero_add, List.drop_of_length_le (by rw [hcs]; simp), List.append_nil]) hk⟩
theorem ox_s14 (ty : TypeId) (x y : Operand) (us : Array Value) (hus : us.toList = A) (hz : z.length = us.size) (ho : o.op = .store ty x y) (hd : o.dst = none) (hi : (P.info? ty).map (·.size) = some us.size) (h1 : us.toList.all (·.oneCell') = true)
  (d11 : depb o 11 = true) (hx : ∀ f : Nat → Value, evl n (asg f 0 ol l) x = f 11) (hy : ∀ f w, (∀ j, depb o j = true → plB j = true → f j = vs.getD j undef) → Mw W w → evl n (asg f 0 ol l) y = .agg us) (hg : ∀ f : Nat → Value, wnt n (asg f 0 ol l) ol.toArray o = true) : OgX P ol Q n l (GW W z A B) (RW A B vs) 14 o := by
 refine ⟨fun f w hG hdp K hK => ?_⟩
 obtain ⟨g1, g2, g3, g4⟩ := hG
 obtain ⟨k, hk⟩ := RW_11.1 (hdp 11 d11)
 obtain ⟨hW, hAt⟩ := g2.at hk
 have hAt' : ∃ cs : List Value, At w k cs ∧ cs.length = us.size := by
  rcases hAt with h | h
  ·exact ⟨z, h, hz⟩
  ·exact ⟨A, h, by rw [← hus]; simp⟩
 obtain ⟨cs, hA, hcs⟩ := hAt'
 refine go_run (hg f) (whole4 hA hcs ho hd ((hx f).trans hk) (hy f w (fun j hj hp => (RW_pl hp).1 (hdp j hj)) g1) hi h1 (fun w' hS hA' => ?_))
 rw [hus] at hA'
 have h9 := hK undef w' ⟨hS.mo _ hW g1, ?_, ?_, ?_⟩ (RW_14.2 ⟨k, by rw [upd_ne (by decide)]; exact hk, hA'⟩) (fun j hj _ hr => ?_)
 ·rw [hd] at h9; exact h9
 ·rw [upd_ne (by decide)]; exact .inr ⟨k, hk, hW, .inr hA'⟩
 ·rw [upd_ne (by decide)]
  rcases g3 with g | ⟨k', e, h2, h3⟩
  ·exact .inl g
  ·have hne := g4 k k' hk e
   exact .inr ⟨k', e, h2, h3.imp (fun q => hS.other _ _ (Ne.symm hne) q) (fun q => hS.other _ _ (Ne.symm hne) q)⟩
 ·rw [upd_ne (by decide), upd_ne (by decide)]; exact g4
 ·unfold RW at hr ⊢
  rw [if_neg hj] at hr ⊢
  rw [upd_ne (show (11 : Nat) ≠ 14 by decide), upd_ne (show (12 : Nat) ≠ 14 by decide), upd_ne hj]
  split at hr
  ·rename_i e; rw [if_pos e]; exact hr
  ·rename_i e; rw [if_neg e]
   split at hr
   ·rename_i e; rw [if_pos e]; exact hr
   ·rename_i e; rw [if_neg e]
    split at hr
    ·rename_i e; rw [if_pos e]
     obtain ⟨k', a, b⟩ := hr
     exact ⟨k', a, hS.other _ _ (Ne.symm (g4 k k' hk a)) b⟩
    ·rename_i e; rw [if_neg e]; exact hr
theorem ox_s15 (ty : TypeId) (x y : Operand) (us : Array Value) (hus : us.toList = B) (hz : z.length = us.size) (ho : o.op = .store ty x y) (hd : o.dst = none) (hi : (P.info? ty).map (·.size) = some us.size) (h1 : us.toList.all (·.oneCell') = true)
  (d12 : depb o 12 = true) (hx : ∀ f : Nat → Value, evl n (asg f 0 ol l) x = f 12) (hy : ∀ f w, (∀ j, depb o j = true → plB j = true → f j = vs.getD j undef) → Mw W w → evl n (asg f 0 ol l) y = .agg us) (hg : ∀ f : Nat → Value, wnt n (asg f 0 ol l) ol.toArray o = true) : OgX P ol Q n l (GW W z A B) (RW A B vs) 15 o := by
 refine ⟨fun f w hG hdp K hK => ?_⟩
 obtain ⟨g1, g2, g3, g4⟩ := hG
 obtain ⟨k, hk⟩ := RW_12.1 (hdp 12 d12)
 obtain ⟨hW, hAt⟩ := g3.at hk
 have hAt' : ∃ cs : List Value, At w k cs ∧ cs.length = us.size := by
  rcases hAt with h | h
  ·exact ⟨z, h, hz⟩
  ·exact ⟨B, h, by rw [← hus]; simp⟩
 obtain ⟨cs, hA, hcs⟩ := hAt'
 refine go_run (hg f) (whole4 hA hcs ho hd ((hx f).trans hk) (hy f w (fun j hj hp => (RW_pl hp).1 (hdp j hj)) g1) hi h1 (fun w' hS hA' => ?_))
 rw [hus] at hA'
 have h9 := hK undef w' ⟨hS.mo _ hW g1, ?_, ?_, ?_⟩ (RW_15.2 ⟨k, by rw [upd_ne (by decide)]; exact hk, hA'⟩) (fun j hj _ hr => ?_)
 ·rw [hd] at h9; exact h9
 ·rw [upd_ne (by decide)]
  rcases g2 with g | ⟨k', e, h2, h3⟩
  ·exact .inl g
  ·have hne := g4 k' k e hk
   exact .inr ⟨k', e, h2, h3.imp (fun q => hS.other _ _ hne q) (fun q => hS.other _ _ hne q)⟩
 ·rw [upd_ne (by decide)]; exact .inr ⟨k, hk, hW, .inr hA'⟩
 ·rw [upd_ne (by decide), upd_ne (by decide)]; exact g4
 ·unfold RW at hr ⊢
  rw [upd_ne (show (11 : Nat) ≠ 15 by decide), upd_ne (show (12 : Nat) ≠ 15 by decide), upd_ne hj]
  split at hr
  ·rename_i e; rw [if_pos e]; exact hr
  ·rename_i e; rw [if_neg e]
   split at hr
   ·rename_i e; rw [if_pos e]; exact hr
   ·rename_i e; rw [if_neg e]
    split at hr
    ·rename_i e; rw [if_pos e]
     obtain ⟨k', a, b⟩ := hr
     exact ⟨k', a, hS.other _ _ (g4 k' k a hk) b⟩
    ·rename_i e; rw [if_neg e]
     rw [if_neg hj]
     exact hr
end
end Go.Proofs.YtnffhcjmpjajlaaDoor.V
namespace Go.Proofs.YtnffhcjmpjajlaaDoor.V
open Go.RowKit D
def pairC (pl : Option Addr) (n cl : Nat) (a b : Ro) (sec id : Int) : List Value := .slice pl n cl :: (a.cells ++ (b.cells ++ [.int .i64 sec, .int .i64 id]))
set_option maxHeartbeats 1000000 in
theorem pwithin_n {L : List S5} {pl : Option Addr} {cl : Nat} {a b : Ro} {sec id : Int} {c : Ro} (w : World) (hL : LL w pl L) (hcl : L.length ≤ cl) (hTb : TB w) : Calls Tryd.prog 6 #[.agg (pairC pl L.length cl a b sec id).toArray, c.v] w fun e9 w' => e9 = .returned (.bool true) ∧ Mw w w' := by
 obtain ⟨L9, h9⟩ : ∃ L9, L9 = L.take 100 := ⟨_, rfl⟩
 have hL9 : LL w pl L9 := by rw [h9]; exact LL.take hL 100
 have hc9 : L9.length ≤ cl := by rw [h9, List.length_take]; omega
 have h100 : L9.length ≤ 100 := by rw [h9, List.length_take]; omega
 refine w_enter 47 Tryd.func6 Tryd.ntmps6 rfl rfl ?_
 have M : Mw w w := Mw.refl _
 refine w_seq (w_reg ?_)
 refine wl_box 61 (.tmp 0) _ ((((pairC pl L.length cl a b sec id)).toArray)) rfl rfl (fun _ => by kernel_rfl) rfl ?_
 intro k1 u1 hk hz hq Q1
 have N_k1 : w.heap.size ≤ k1 := by have := M.size; omega
 replace M := M.trans hq
 clear hk hz hq
 refine wl_box 25 (.tmp 1) _ (((c.cells).toArray)) rfl rfl (fun _ => by kernel_rfl) rfl ?_
 intro k2 u2 hk hz hq Q2
 have ne_k1_k2 : k1 ≠ k2 := by have := Q1.lt; omega
 have N_k2 : w.heap.size ≤ k2 := by have := M.size; omega
 replace Q1 := Q1.mo hq
 replace M := M.trans hq
 clear hk hz hq
 refine wl_m (.const (.bool false)) (.bool false) ?_
 refine w_nil (xn_then (w_seq ?_))
 refine w_ogx (GW u2 [.int .i64 0, .int .i64 0, .int .i64 0, .int .i64 0] a.cells b.cells) (RW a.cells b.cells [pt k1 0, .slice pl L.length cl, pt k1 0, .slice pl L.length cl, .int .i64 ((L.length : Nat) : Int), .int .i64 ((L9.length : Nat) : Int), .slice pl L9.length cl, pt k1 1, .agg (a.cells).toArray, pt k1 5, .agg (b.cells).toArray, undef, undef, .slice pl L9.length cl, undef, undef]) (by kernel_rfl) (by kernel_rfl) (by kernel_rfl) (gw_start (by kernel_rfl) (by kernel_rfl) ((Mw.refl _).drew)) ?_ ?_
 ·refine ea_cons ?_ (ea_cons ?_ (ea_cons ?_ (ea_cons ?_ (ea_cons ?_ (ea_cons ?_ (ea_cons ?_ (ea_cons ?_ (ea_cons ?_ (ea_cons ?_ (ea_cons ?_ (ea_cons ?_ (ea_cons ?_ (ea_cons ?_ (ea_cons ?_ (ea_cons ?_ (ea_nil))))))))))))))))
  ·exact ox_eq (pt k1 0) rfl rfl (fun f wf hq hd K hK => go_run rfl (wo_un (fun v => Instr.fieldAt 61 v 0) (.tmp 2) (pt k1 0) (pt k1 0) (fun _ => rfl) rfl (by kernel_rfl) (hK _ (Mw.refl _))))
  ·exact ox_eq (.slice pl L.length cl) rfl rfl (fun f wf hq hd K hK => have Q1 := Q1.mo hq; go_run rfl (wo_load 22 (.tmp 8) (pt k1 0) (.slice pl L.length cl) rfl (hd 0 rfl rfl) (run_one Q1 22 0 rfl Tryd.underlying22 rfl) (hK _ (Mw.refl _))))
  ·exact ox_eq (pt k1 0) rfl rfl (fun f wf hq hd K hK => go_run rfl (wo_un (fun v => Instr.fieldAt 61 v 0) (.tmp 2) (pt k1 0) (pt k1 0) (fun _ => rfl) rfl (by kernel_rfl) (hK _ (Mw.refl _))))
  ·exact ox_eq (.slice pl L.length cl) rfl rfl (fun f wf hq hd K hK => have Q1 := Q1.mo hq; go_run rfl (wo_load 22 (.tmp 10) (pt k1 0) (.slice pl L.length cl) rfl (hd 2 rfl rfl) (run_one Q1 22 0 rfl Tryd.underlying22 rfl) (hK _ (Mw.refl _))))
  ·exact ox_eq (.int .i64 ((L.length : Nat) : Int)) rfl rfl (fun f wf hq hd K hK => go_run rfl (wo_val (.int .i64 ((L.length : Nat) : Int)) (len22 _ _ _ _ _ (by exact (hd 3 rfl rfl)) _ _ _ _ _ _) (hK _ (Mw.refl _))))
  ·exact ox_eq (.int .i64 ((L9.length : Nat) : Int)) rfl rfl (fun f wf hq hd K hK => go_run rfl (wo_val (.int .i64 ((L9.length : Nat) : Int)) (min_T h9 _ _ (by exact (hd 4 rfl rfl)) rfl _ _ _ _ _ _ _) (hK _ (Mw.refl _))))
  ·exact ox_eq (.slice pl L9.length cl) rfl rfl (fun f wf hq hd K hK => go_run rfl (wo_val (.slice pl L9.length cl) (slh22 _ _ _ pl L.length cl L9.length (by exact (hd 1 rfl rfl)) (by exact (hd 5 rfl rfl)) (by rw [h9, List.length_take]; omega) _ _ _ _ _ _) (hK _ (Mw.refl _))))
  ·exact ox_eq (pt k1 1) rfl rfl (fun f wf hq hd K hK => go_run rfl (wo_un (fun v => Instr.fieldAt 61 v 1) (.tmp 2) (pt k1 0) (pt k1 1) (fun _ => rfl) rfl (by kernel_rfl) (hK _ (Mw.refl _))))
  ·exact ox_eq (.agg (a.cells).toArray) rfl rfl (fun f wf hq hd K hK => have Q1 := Q1.mo hq; go_run rfl (wo_load 25 (.tmp 15) (pt k1 1) (.agg (a.cells).toArray) rfl (hd 7 rfl rfl) (run_row Q1 25 1 4 (a.cells) rfl Tryd.underlying25 rfl sz25) (hK _ (Mw.refl _))))
  ·exact ox_eq (pt k1 5) rfl rfl (fun f wf hq hd K hK => go_run rfl (wo_un (fun v => Instr.fieldAt 61 v 2) (.tmp 2) (pt k1 0) (pt k1 5) (fun _ => rfl) rfl (by kernel_rfl) (hK _ (Mw.refl _))))
  ·exact ox_eq (.agg (b.cells).toArray) rfl rfl (fun f wf hq hd K hK => have Q1 := Q1.mo hq; go_run rfl (wo_load 25 (.tmp 17) (pt k1 5) (.agg (b.cells).toArray) rfl (hd 9 rfl rfl) (run_row Q1 25 5 4 (b.cells) rfl Tryd.underlying25 rfl sz25) (hK _ (Mw.refl _))))
  ·exact ox_n11 rfl (fun f wf K hK => go_run rfl (wo_alloc 25 #[.int .i64 0, .int .i64 0, .int .i64 0, .int .i64 0] rfl (fun _ => by kernel_rfl) hK))
  ·exact ox_n12 rfl (fun f wf K hK => go_run rfl (wo_alloc 25 #[.int .i64 0, .int .i64 0, .int .i64 0, .int .i64 0] rfl (fun _ => by kernel_rfl) hK))
  ·exact ox_eq (.slice pl L9.length cl) rfl rfl (fun f wf hq hd K hK => go_run rfl (wo_mv (.tmp 14) (.slice pl L9.length cl) (fun _ => rfl) (hd 6 rfl rfl) (hK _ (Mw.refl _))))
  ·exact ox_s14 25 (.tmp 6) (.tmp 16) a.cells.toArray rfl rfl rfl rfl sz25 rfl rfl (fun _ => rfl) (fun f wf hd hq => (hd 8 rfl rfl)) (fun _ => rfl)
  ·exact ox_s15 25 (.tmp 7) (.tmp 18) b.cells.toArray rfl rfl rfl rfl sz25 rfl rfl (fun _ => rfl) (fun f wf hd hq => (hd 10 rfl rfl)) (fun _ => rfl)
 intro f9 u3 hG9 hR9
 obtain ⟨hq, hN1, hN2, hne9⟩ := hG9
 obtain ⟨k6, hk6, Q6⟩ := RW_14.1 (hR9 14 rfl)
 obtain ⟨k7, hk7, Q7⟩ := RW_15.1 (hR9 15 rfl)
 have ne_k6_k7 := hne9 k6 k7 hk6 hk7
 have N_k6 := Nat.le_trans M.size (hN1.at hk6).1
 have N_k7 := Nat.le_trans M.size (hN2.at hk7).1
 have h13 : f9 13 = _ := (RW_pl (i := 13) rfl).1 (hR9 13 rfl)
 have ne_k1_k6 : k1 ≠ k6 := by have := Q1.lt; have := (hN1.at hk6).1; omega
 have ne_k1_k7 : k1 ≠ k7 := by have := Q1.lt; have := (hN2.at hk7).1; omega
 have ne_k2_k6 : k2 ≠ k6 := by have := Q2.lt; have := (hN1.at hk6).1; omega
 have ne_k2_k7 : k2 ≠ k7 := by have := Q2.lt; have := (hN2.at hk7).1; omega
 replace Q1 := Q1.mo hq
 replace Q2 := Q2.mo hq
 replace M := M.trans hq
 clear hq hR9 hne9 hN1 hN2
 refine xn_then (w_seq (w_seq (w_reg ?_)))
 refine wl_call 9 [] _ [] (.bool true) rfl rfl (fun _ _ => by kernel_rfl) (live_n _ (hTb.mw M)) rfl ?_
 intro u4 hq
 replace Q1 := Q1.mo hq
 replace Q2 := Q2.mo hq
 replace Q6 := Q6.mo hq
 replace Q7 := Q7.mo hq
 replace M := M.trans hq
 clear hq
 refine wl_un (fun v => Op.unary .not v) (.tmp 19) (.bool true) (.bool false) (fun _ => rfl) rfl (by kernel_rfl) rfl ?_
 refine w_nil (xn_then (w_condF rfl (w_skip (xn_then (w_seq (w_seq (w_reg ?_)))))))
 refine wl_mv (.tmp 5) (.slice pl L9.length cl) (fun _ => rfl) h13 rfl ?_
 refine wl_load 25 (.tmp 6) (pt k6 0) (.agg (a.cells).toArray) rfl hk6 (run_row Q6 25 0 4 (a.cells) rfl Tryd.underlying25 rfl sz25) rfl ?_
 refine wl_load 25 (.tmp 7) (pt k7 0) (.agg (b.cells).toArray) rfl hk7 (run_row Q7 25 0 4 (b.cells) rfl Tryd.underlying25 rfl sz25) rfl ?_
 cases hf0 : witB L9 a b with
 | true =>
  refine wl_call 28 [(.tmp 21), (.tmp 22), (.tmp 23)] _ [.slice pl L9.length cl, .agg (a.cells).toArray, .agg (b.cells).toArray] (.bool true) rfl rfl (fun _ _ => by kernel_rfl) (cRw (congrArg Value.bool hf0) (wk (pwit_n _ (hL9.mw M) hc9))) rfl ?_
  intro u5 hq
  replace Q1 := Q1.mo hq
  replace Q2 := Q2.mo hq
  replace Q6 := Q6.mo hq
  replace Q7 := Q7.mo hq
  replace M := M.trans hq
  clear hq
  refine wl_m (.tmp 24) (.bool true) ?_
  refine wl_mv (.tmp 5) (.slice pl L9.length cl) (fun _ => rfl) h13 rfl ?_
  refine wl_load 25 (.tmp 7) (pt k7 0) (.agg (b.cells).toArray) rfl hk7 (run_row Q7 25 0 4 (b.cells) rfl Tryd.underlying25 rfl sz25) rfl ?_
  refine wl_l 25 (.tmp 3) (pt k2 0) (.agg (c.cells).toArray) (run_row Q2 25 0 4 (c.cells) rfl Tryd.underlying25 rfl sz25) ?_
  cases hf1 : witB L9 b c with
  | true =>
   refine wl_call 28 [(.tmp 26), (.tmp 27), (.tmp 28)] _ [.slice pl L9.length cl, .agg (b.cells).toArray, .agg (c.cells).toArray] (.bool true) rfl rfl (fun _ _ => by kernel_rfl) (cRw (congrArg Value.bool hf1) (wk (pwit_n _ (hL9.mw M) hc9))) rfl ?_
   intro u6 hq
   replace Q1 := Q1.mo hq
   replace Q2 := Q2.mo hq
   replace Q6 := Q6.mo hq
   replace Q7 := Q7.mo hq
   replace M := M.trans hq
   clear hq
   refine wl_pick (.tmp 25) (.tmp 29) (.const (.bool false)) true (.bool true) (fun _ => rfl) rfl rfl rfl ?_
   refine wl_m (.tmp 30) (.bool true) ?_
   refine wl_mv (.tmp 5) (.slice pl L9.length cl) (fun _ => rfl) h13 rfl ?_
   refine wl_load 25 (.tmp 6) (pt k6 0) (.agg (a.cells).toArray) rfl hk6 (run_row Q6 25 0 4 (a.cells) rfl Tryd.underlying25 rfl sz25) rfl ?_
   refine wl_l 25 (.tmp 3) (pt k2 0) (.agg (c.cells).toArray) (run_row Q2 25 0 4 (c.cells) rfl Tryd.underlying25 rfl sz25) ?_
   cases hf2 : witB L9 a c with
   | true =>
    refine wl_call 28 [(.tmp 32), (.tmp 33), (.tmp 34)] _ [.slice pl L9.length cl, .agg (a.cells).toArray, .agg (c.cells).toArray] (.bool true) rfl rfl (fun _ _ => by kernel_rfl) (cRw (congrArg Value.bool hf2) (wk (pwit_n _ (hL9.mw M) hc9))) rfl ?_
    intro u7 hq
    replace Q1 := Q1.mo hq
    replace Q2 := Q2.mo hq
    replace Q6 := Q6.mo hq
    replace Q7 := Q7.mo hq
    replace M := M.trans hq
    clear hq
    refine wl_un (fun v => Op.unary .not v) (.tmp 35) (.bool true) (.bool false) (fun _ => rfl) rfl (by kernel_rfl) rfl ?_
    refine wl_pick (.tmp 31) (.tmp 36) (.const (.bool false)) true (.bool false) (fun _ => rfl) rfl rfl rfl ?_
    refine w_nil (xn_then (w_condF rfl (w_skip (xn_then (w_seq ?_)))))
    cases hf3 : witB L9 a a with
    | true =>
     cases hf4 : decide (ckR L9 a = 0) with
     | true =>
      have hf4p := of_decide_eq_true hf4
      refine w_any 6 [.inl (.slice pl L9.length cl), .inl (.agg (a.cells).toArray), .inl (.agg (a.cells).toArray), .inl (.bool true), .inl (.slice pl L9.length cl), .inl (.agg (a.cells).toArray)] [] (by kernel_rfl) (by kernel_rfl) (by kernel_rfl) (by kernel_rfl) rfl (by kernel_rfl) (by kernel_rfl) late_nil ?_ ?_ ?_
      ·exact Ds.none rfl
      ·refine ea_cons ?_ (ea_cons ?_ (ea_cons ?_ (ea_cons ?_ (ea_cons ?_ (ea_cons ?_ (ea_nil))))))
       ·exact og_eq _ rfl (fun f wf hq hd K hK => go_run rfl (wo_mv (.tmp 5) (.slice pl L9.length cl) (fun _ => rfl) h13 (hK _ (Mw.refl _))))
       ·exact og_eq _ rfl (fun f wf hq hd K hK => have Q6 := Q6.mo hq; go_run rfl (wo_load 25 (.tmp 6) (pt k6 0) (.agg (a.cells).toArray) rfl hk6 (run_row Q6 25 0 4 (a.cells) rfl Tryd.underlying25 rfl sz25) (hK _ (Mw.refl _))))
       ·exact og_eq _ rfl (fun f wf hq hd K hK => have Q6 := Q6.mo hq; go_run rfl (wo_load 25 (.tmp 6) (pt k6 0) (.agg (a.cells).toArray) rfl hk6 (run_row Q6 25 0 4 (a.cells) rfl Tryd.underlying25 rfl sz25) (hK _ (Mw.refl _))))
       ·exact og_eq _ rfl (fun f wf hq hd K hK => go_run rfl (wo_call 28 [(.tmp 38), (.tmp 39), (.tmp 40)] _ [.slice pl L9.length cl, .agg (a.cells).toArray, .agg (a.cells).toArray] (.bool true) rfl (li3 (hd 0 rfl) (hd 1 rfl) (hd 2 rfl)) (fun _ _ => by kernel_rfl) (cRw (congrArg Value.bool hf3) (wk (pwit_n _ (hL9.mw (M.trans hq)) hc9))) hK))
       ·exact og_eq _ rfl (fun f wf hq hd K hK => go_run rfl (wo_mv (.tmp 5) (.slice pl L9.length cl) (fun _ => rfl) h13 (hK _ (Mw.refl _))))
       ·exact og_eq _ rfl (fun f wf hq hd K hK => have Q6 := Q6.mo hq; go_run rfl (wo_load 25 (.tmp 6) (pt k6 0) (.agg (a.cells).toArray) rfl hk6 (run_row Q6 25 0 4 (a.cells) rfl Tryd.underlying25 rfl sz25) (hK _ (Mw.refl _))))
      intro kf8 u8 hq hR hne
      replace Q1 := Q1.mo hq
      replace Q2 := Q2.mo hq
      replace Q6 := Q6.mo hq
      replace Q7 := Q7.mo hq
      replace M := M.trans hq
      clear hq hR hne
      refine wl_call 10 [(.tmp 42), (.tmp 43)] _ [.slice pl L9.length cl, .agg (a.cells).toArray] (.int .i64 (ckR L9 a)) rfl rfl (fun _ _ => by kernel_rfl) (wk (pck_n _ (hL9.mw M) hc9)) rfl ?_
      intro u9 hq
      replace Q1 := Q1.mo hq
      replace Q2 := Q2.mo hq
      replace Q6 := Q6.mo hq
      replace Q7 := Q7.mo hq
      replace M := M.trans hq
      clear hq
      refine wl_b .eql 31 (.tmp 44) (.const (.int .i64 (0))) (.int .i64 (ckR L9 a)) (.int .i64 (0)) (.bool true) (eq34 hf4 _ _ _) ?_
      refine wl_b .eql 4 (.tmp 41) (.tmp 45) (.bool true) (.bool true) (.bool true) (eq4b (r := true) rfl _ _ _) ?_
      refine wl_m (.tmp 46) (.bool true) ?_
      refine w_nil (xn_then (w_ret ?_))
      exact w_ret1 _ _ rfl rfl ⟨rfl, M⟩
     | false =>
      have hf4p := of_decide_eq_false hf4
      refine w_any 6 [.inl (.slice pl L9.length cl), .inl (.agg (a.cells).toArray), .inl (.agg (a.cells).toArray), .inl (.bool true), .inl (.slice pl L9.length cl), .inl (.agg (a.cells).toArray)] [] (by kernel_rfl) (by kernel_rfl) (by kernel_rfl) (by kernel_rfl) rfl (by kernel_rfl) (by kernel_rfl) late_nil ?_ ?_ ?_
      ·exact Ds.none rfl
      ·refine ea_cons ?_ (ea_cons ?_ (ea_cons ?_ (ea_cons ?_ (ea_cons ?_ (ea_cons ?_ (ea_nil))))))
       ·exact og_eq _ rfl (fun f wf hq hd K hK => go_run rfl (wo_mv (.tmp 5) (.slice pl L9.length cl) (fun _ => rfl) h13 (hK _ (Mw.refl _))))
       ·exact og_eq _ rfl (fun f wf hq hd K hK => have Q6 := Q6.mo hq; go_run rfl (wo_load 25 (.tmp 6) (pt k6 0) (.agg (a.cells).toArray) rfl hk6 (run_row Q6 25 0 4 (a.cells) rfl Tryd.underlying25 rfl sz25) (hK _ (Mw.refl _))))
       ·exact og_eq _ rfl (fun f wf hq hd K hK => have Q6 := Q6.mo hq; go_run rfl (wo_load 25 (.tmp 6) (pt k6 0) (.agg (a.cells).toArray) rfl hk6 (run_row Q6 25 0 4 (a.cells) rfl Tryd.underlying25 rfl sz25) (hK _ (Mw.refl _))))
       ·exact og_eq _ rfl (fun f wf hq hd K hK => go_run rfl (wo_call 28 [(.tmp 38), (.tmp 39), (.tmp 40)] _ [.slice pl L9.length cl, .agg (a.cells).toArray, .agg (a.cells).toArray] (.bool true) rfl (li3 (hd 0 rfl) (hd 1 rfl) (hd 2 rfl)) (fun _ _ => by kernel_rfl) (cRw (congrArg Value.bool hf3) (wk (pwit_n _ (hL9.mw (M.trans hq)) hc9))) hK))
       ·exact og_eq _ rfl (fun f wf hq hd K hK => go_run rfl (wo_mv (.tmp 5) (.slice pl L9.length cl) (fun _ => rfl) h13 (hK _ (Mw.refl _))))
       ·exact og_eq _ rfl (fun f wf hq hd K hK => have Q6 := Q6.mo hq; go_run rfl (wo_load 25 (.tmp 6) (pt k6 0) (.agg (a.cells).toArray) rfl hk6 (run_row Q6 25 0 4 (a.cells) rfl Tryd.underlying25 rfl sz25) (hK _ (Mw.refl _))))
      intro kf8 u8 hq hR hne
      replace Q1 := Q1.mo hq
      replace Q2 := Q2.mo hq
      replace Q6 := Q6.mo hq
      replace Q7 := Q7.mo hq
      replace M := M.trans hq
      clear hq hR hne
      refine wl_call 10 [(.tmp 42), (.tmp 43)] _ [.slice pl L9.length cl, .agg (a.cells).toArray] (.int .i64 (ckR L9 a)) rfl rfl (fun _ _ => by kernel_rfl) (wk (pck_n _ (hL9.mw M) hc9)) rfl ?_
      intro u9 hq
      replace Q1 := Q1.mo hq
      replace Q2 := Q2.mo hq
      replace Q6 := Q6.mo hq
      replace Q7 := Q7.mo hq
      replace M := M.trans hq
      clear hq
      refine wl_b .eql 31 (.tmp 44) (.const (.int .i64 (0))) (.int .i64 (ckR L9 a)) (.int .i64 (0)) (.bool false) (eq34 hf4 _ _ _) ?_
      refine wl_b .eql 4 (.tmp 41) (.tmp 45) (.bool true) (.bool false) (.bool false) (eq4b (r := false) rfl _ _ _) ?_
      refine wl_m (.tmp 46) (.bool false) ?_
      refine w_nil (xn_then (w_ret ?_))
      exact w_ret1 _ (.bool false) rfl rfl ⟨(by have h := wit_self L9 a; rw [hf3, hf4] at h; cases h), M⟩
    | false =>
     cases hf4 : decide (ckR L9 a = 0) with
     | true =>
      have hf4p := of_decide_eq_true hf4
      refine w_any 6 [.inl (.slice pl L9.length cl), .inl (.agg (a.cells).toArray), .inl (.agg (a.cells).toArray), .inl (.bool false), .inl (.slice pl L9.length cl), .inl (.agg (a.cells).toArray)] [] (by kernel_rfl) (by kernel_rfl) (by kernel_rfl) (by kernel_rfl) rfl (by kernel_rfl) (by kernel_rfl) late_nil ?_ ?_ ?_
      ·exact Ds.none rfl
      ·refine ea_cons ?_ (ea_cons ?_ (ea_cons ?_ (ea_cons ?_ (ea_cons ?_ (ea_cons ?_ (ea_nil))))))
       ·exact og_eq _ rfl (fun f wf hq hd K hK => go_run rfl (wo_mv (.tmp 5) (.slice pl L9.length cl) (fun _ => rfl) h13 (hK _ (Mw.refl _))))
       ·exact og_eq _ rfl (fun f wf hq hd K hK => have Q6 := Q6.mo hq; go_run rfl (wo_load 25 (.tmp 6) (pt k6 0) (.agg (a.cells).toArray) rfl hk6 (run_row Q6 25 0 4 (a.cells) rfl Tryd.underlying25 rfl sz25) (hK _ (Mw.refl _))))
       ·exact og_eq _ rfl (fun f wf hq hd K hK => have Q6 := Q6.mo hq; go_run rfl (wo_load 25 (.tmp 6) (pt k6 0) (.agg (a.cells).toArray) rfl hk6 (run_row Q6 25 0 4 (a.cells) rfl Tryd.underlying25 rfl sz25) (hK _ (Mw.refl _))))
       ·exact og_eq _ rfl (fun f wf hq hd K hK => go_run rfl (wo_call 28 [(.tmp 38), (.tmp 39), (.tmp 40)] _ [.slice pl L9.length cl, .agg (a.cells).toArray, .agg (a.cells).toArray] (.bool false) rfl (li3 (hd 0 rfl) (hd 1 rfl) (hd 2 rfl)) (fun _ _ => by kernel_rfl) (cRw (congrArg Value.bool hf3) (wk (pwit_n _ (hL9.mw (M.trans hq)) hc9))) hK))
       ·exact og_eq _ rfl (fun f wf hq hd K hK => go_run rfl (wo_mv (.tmp 5) (.slice pl L9.length cl) (fun _ => rfl) h13 (hK _ (Mw.refl _))))
       ·exact og_eq _ rfl (fun f wf hq hd K hK => have Q6 := Q6.mo hq; go_run rfl (wo_load 25 (.tmp 6) (pt k6 0) (.agg (a.cells).toArray) rfl hk6 (run_row Q6 25 0 4 (a.cells) rfl Tryd.underlying25 rfl sz25) (hK _ (Mw.refl _))))
      intro kf8 u8 hq hR hne
      replace Q1 := Q1.mo hq
      replace Q2 := Q2.mo hq
      replace Q6 := Q6.mo hq
      replace Q7 := Q7.mo hq
      replace M := M.trans hq
      clear hq hR hne
      refine wl_call 10 [(.tmp 42), (.tmp 43)] _ [.slice pl L9.length cl, .agg (a.cells).toArray] (.int .i64 (ckR L9 a)) rfl rfl (fun _ _ => by kernel_rfl) (wk (pck_n _ (hL9.mw M) hc9)) rfl ?_
      intro u9 hq
      replace Q1 := Q1.mo hq
      replace Q2 := Q2.mo hq
      replace Q6 := Q6.mo hq
      replace Q7 := Q7.mo hq
      replace M := M.trans hq
      clear hq
      refine wl_b .eql 31 (.tmp 44) (.const (.int .i64 (0))) (.int .i64 (ckR L9 a)) (.int .i64 (0)) (.bool true) (eq34 hf4 _ _ _) ?_
      refine wl_b .eql 4 (.tmp 41) (.tmp 45) (.bool false) (.bool true) (.bool false) (eq4b (r := false) rfl _ _ _) ?_
      refine wl_m (.tmp 46) (.bool false) ?_
      refine w_nil (xn_then (w_ret ?_))
      exact w_ret1 _ (.bool false) rfl rfl ⟨(by have h := wit_self L9 a; rw [hf3, hf4] at h; cases h), M⟩
     | false =>
      have hf4p := of_decide_eq_false hf4
      refine w_any 6 [.inl (.slice pl L9.length cl), .inl (.agg (a.cells).toArray), .inl (.agg (a.cells).toArray), .inl (.bool false), .inl (.slice pl L9.length cl), .inl (.agg (a.cells).toArray)] [] (by kernel_rfl) (by kernel_rfl) (by kernel_rfl) (by kernel_rfl) rfl (by kernel_rfl) (by kernel_rfl) late_nil ?_ ?_ ?_
      ·exact Ds.none rfl
      ·refine ea_cons ?_ (ea_cons ?_ (ea_cons ?_ (ea_cons ?_ (ea_cons ?_ (ea_cons ?_ (ea_nil))))))
       ·exact og_eq _ rfl (fun f wf hq hd K hK => go_run rfl (wo_mv (.tmp 5) (.slice pl L9.length cl) (fun _ => rfl) h13 (hK _ (Mw.refl _))))
       ·exact og_eq _ rfl (fun f wf hq hd K hK => have Q6 := Q6.mo hq; go_run rfl (wo_load 25 (.tmp 6) (pt k6 0) (.agg (a.cells).toArray) rfl hk6 (run_row Q6 25 0 4 (a.cells) rfl Tryd.underlying25 rfl sz25) (hK _ (Mw.refl _))))
       ·exact og_eq _ rfl (fun f wf hq hd K hK => have Q6 := Q6.mo hq; go_run rfl (wo_load 25 (.tmp 6) (pt k6 0) (.agg (a.cells).toArray) rfl hk6 (run_row Q6 25 0 4 (a.cells) rfl Tryd.underlying25 rfl sz25) (hK _ (Mw.refl _))))
       ·exact og_eq _ rfl (fun f wf hq hd K hK => go_run rfl (wo_call 28 [(.tmp 38), (.tmp 39), (.tmp 40)] _ [.slice pl L9.length cl, .agg (a.cells).toArray, .agg (a.cells).toArray] (.bool false) rfl (li3 (hd 0 rfl) (hd 1 rfl) (hd 2 rfl)) (fun _ _ => by kernel_rfl) (cRw (congrArg Value.bool hf3) (wk (pwit_n _ (hL9.mw (M.trans hq)) hc9))) hK))
       ·exact og_eq _ rfl (fun f wf hq hd K hK => go_run rfl (wo_mv (.tmp 5) (.slice pl L9.length cl) (fun _ => rfl) h13 (hK _ (Mw.refl _))))
       ·exact og_eq _ rfl (fun f wf hq hd K hK => have Q6 := Q6.mo hq; go_run rfl (wo_load 25 (.tmp 6) (pt k6 0) (.agg (a.cells).toArray) rfl hk6 (run_row Q6 25 0 4 (a.cells) rfl Tryd.underlying25 rfl sz25) (hK _ (Mw.refl _))))
      intro kf8 u8 hq hR hne
      replace Q1 := Q1.mo hq
      replace Q2 := Q2.mo hq
      replace Q6 := Q6.mo hq
      replace Q7 := Q7.mo hq
      replace M := M.trans hq
      clear hq hR hne
      refine wl_call 10 [(.tmp 42), (.tmp 43)] _ [.slice pl L9.length cl, .agg (a.cells).toArray] (.int .i64 (ckR L9 a)) rfl rfl (fun _ _ => by kernel_rfl) (wk (pck_n _ (hL9.mw M) hc9)) rfl ?_
      intro u9 hq
      replace Q1 := Q1.mo hq
      replace Q2 := Q2.mo hq
      replace Q6 := Q6.mo hq
      replace Q7 := Q7.mo hq
      replace M := M.trans hq
      clear hq
      refine wl_b .eql 31 (.tmp 44) (.const (.int .i64 (0))) (.int .i64 (ckR L9 a)) (.int .i64 (0)) (.bool false) (eq34 hf4 _ _ _) ?_
      refine wl_b .eql 4 (.tmp 41) (.tmp 45) (.bool false) (.bool false) (.bool true) (eq4b (r := true) rfl _ _ _) ?_
      refine wl_m (.tmp 46) (.bool true) ?_
      refine w_nil (xn_then (w_ret ?_))
      exact w_ret1 _ _ rfl rfl ⟨rfl, M⟩
   | false =>
    refine wl_call 28 [(.tmp 32), (.tmp 33), (.tmp 34)] _ [.slice pl L9.length cl, .agg (a.cells).toArray, .agg (c.cells).toArray] (.bool false) rfl rfl (fun _ _ => by kernel_rfl) (cRw (congrArg Value.bool hf2) (wk (pwit_n _ (hL9.mw M) hc9))) rfl ?_
    intro u7 hq
    replace Q1 := Q1.mo hq
    replace Q2 := Q2.mo hq
    replace Q6 := Q6.mo hq
    replace Q7 := Q7.mo hq
    replace M := M.trans hq
    clear hq
    refine wl_un (fun v => Op.unary .not v) (.tmp 35) (.bool false) (.bool true) (fun _ => rfl) rfl (by kernel_rfl) rfl ?_
    refine wl_pick (.tmp 31) (.tmp 36) (.const (.bool false)) true (.bool true) (fun _ => rfl) rfl rfl rfl ?_
    refine w_nil (xn_then (w_condT rfl (w_seq (w_reg ?_))))
    refine wl_m (.const (.bool false)) (.bool false) ?_
    refine w_nil (xn_then (w_ret (xr_then ?_)))
    exact w_ret1 _ (.bool false) rfl rfl ⟨(by have h := wit_trans hf0 hf1; rw [hf2] at h; cases h), M⟩
  | false =>
   refine wl_call 28 [(.tmp 26), (.tmp 27), (.tmp 28)] _ [.slice pl L9.length cl, .agg (b.cells).toArray, .agg (c.cells).toArray] (.bool false) rfl rfl (fun _ _ => by kernel_rfl) (cRw (congrArg Value.bool hf1) (wk (pwit_n _ (hL9.mw M) hc9))) rfl ?_
   intro u6 hq
   replace Q1 := Q1.mo hq
   replace Q2 := Q2.mo hq
   replace Q6 := Q6.mo hq
   replace Q7 := Q7.mo hq
   replace M := M.trans hq
   clear hq
   refine wl_pick (.tmp 25) (.tmp 29) (.const (.bool false)) true (.bool false) (fun _ => rfl) rfl rfl rfl ?_
   refine wl_m (.tmp 30) (.bool false) ?_
   refine wl_skip rfl (wl_skip rfl (wl_skip rfl (wl_skip rfl (wl_skip rfl ?_))))
   refine wl_pick (.tmp 31) (.tmp 36) (.const (.bool false)) false (.bool false) (fun _ => rfl) rfl rfl rfl ?_
   refine w_nil (xn_then (w_condF rfl (w_skip (xn_then (w_seq ?_)))))
   cases hf2 : witB L9 a a with
   | true =>
    cases hf3 : decide (ckR L9 a = 0) with
    | true =>
     have hf3p := of_decide_eq_true hf3
     refine w_any 6 [.inl (.slice pl L9.length cl), .inl (.agg (a.cells).toArray), .inl (.agg (a.cells).toArray), .inl (.bool true), .inl (.slice pl L9.length cl), .inl (.agg (a.cells).toArray)] [] (by kernel_rfl) (by kernel_rfl) (by kernel_rfl) (by kernel_rfl) rfl (by kernel_rfl) (by kernel_rfl) late_nil ?_ ?_ ?_
     ·exact Ds.none rfl
     ·refine ea_cons ?_ (ea_cons ?_ (ea_cons ?_ (ea_cons ?_ (ea_cons ?_ (ea_cons ?_ (ea_nil))))))
      ·exact og_eq _ rfl (fun f wf hq hd K hK => go_run rfl (wo_mv (.tmp 5) (.slice pl L9.length cl) (fun _ => rfl) h13 (hK _ (Mw.refl _))))
      ·exact og_eq _ rfl (fun f wf hq hd K hK => have Q6 := Q6.mo hq; go_run rfl (wo_load 25 (.tmp 6) (pt k6 0) (.agg (a.cells).toArray) rfl hk6 (run_row Q6 25 0 4 (a.cells) rfl Tryd.underlying25 rfl sz25) (hK _ (Mw.refl _))))
      ·exact og_eq _ rfl (fun f wf hq hd K hK => have Q6 := Q6.mo hq; go_run rfl (wo_load 25 (.tmp 6) (pt k6 0) (.agg (a.cells).toArray) rfl hk6 (run_row Q6 25 0 4 (a.cells) rfl Tryd.underlying25 rfl sz25) (hK _ (Mw.refl _))))
      ·exact og_eq _ rfl (fun f wf hq hd K hK => go_run rfl (wo_call 28 [(.tmp 38), (.tmp 39), (.tmp 40)] _ [.slice pl L9.length cl, .agg (a.cells).toArray, .agg (a.cells).toArray] (.bool true) rfl (li3 (hd 0 rfl) (hd 1 rfl) (hd 2 rfl)) (fun _ _ => by kernel_rfl) (cRw (congrArg Value.bool hf2) (wk (pwit_n _ (hL9.mw (M.trans hq)) hc9))) hK))
      ·exact og_eq _ rfl (fun f wf hq hd K hK => go_run rfl (wo_mv (.tmp 5) (.slice pl L9.length cl) (fun _ => rfl) h13 (hK _ (Mw.refl _))))
      ·exact og_eq _ rfl (fun f wf hq hd K hK => have Q6 := Q6.mo hq; go_run rfl (wo_load 25 (.tmp 6) (pt k6 0) (.agg (a.cells).toArray) rfl hk6 (run_row Q6 25 0 4 (a.cells) rfl Tryd.underlying25 rfl sz25) (hK _ (Mw.refl _))))
     intro kf7 u7 hq hR hne
     replace Q1 := Q1.mo hq
     replace Q2 := Q2.mo hq
     replace Q6 := Q6.mo hq
     replace Q7 := Q7.mo hq
     replace M := M.trans hq
     clear hq hR hne
     refine wl_call 10 [(.tmp 42), (.tmp 43)] _ [.slice pl L9.length cl, .agg (a.cells).toArray] (.int .i64 (ckR L9 a)) rfl rfl (fun _ _ => by kernel_rfl) (wk (pck_n _ (hL9.mw M) hc9)) rfl ?_
     intro u8 hq
     replace Q1 := Q1.mo hq
     replace Q2 := Q2.mo hq
     replace Q6 := Q6.mo hq
     replace Q7 := Q7.mo hq
     replace M := M.trans hq
     clear hq
     refine wl_b .eql 31 (.tmp 44) (.const (.int .i64 (0))) (.int .i64 (ckR L9 a)) (.int .i64 (0)) (.bool true) (eq34 hf3 _ _ _) ?_
     refine wl_b .eql 4 (.tmp 41) (.tmp 45) (.bool true) (.bool true) (.bool true) (eq4b (r := true) rfl _ _ _) ?_
     refine wl_m (.tmp 46) (.bool true) ?_
     refine w_nil (xn_then (w_ret ?_))
     exact w_ret1 _ _ rfl rfl ⟨rfl, M⟩
    | false =>
     have hf3p := of_decide_eq_false hf3
     refine w_any 6 [.inl (.slice pl L9.length cl), .inl (.agg (a.cells).toArray), .inl (.agg (a.cells).toArray), .inl (.bool true), .inl (.slice pl L9.length cl), .inl (.agg (a.cells).toArray)] [] (by kernel_rfl) (by kernel_rfl) (by kernel_rfl) (by kernel_rfl) rfl (by kernel_rfl) (by kernel_rfl) late_nil ?_ ?_ ?_
     ·exact Ds.none rfl
     ·refine ea_cons ?_ (ea_cons ?_ (ea_cons ?_ (ea_cons ?_ (ea_cons ?_ (ea_cons ?_ (ea_nil))))))
      ·exact og_eq _ rfl (fun f wf hq hd K hK => go_run rfl (wo_mv (.tmp 5) (.slice pl L9.length cl) (fun _ => rfl) h13 (hK _ (Mw.refl _))))
      ·exact og_eq _ rfl (fun f wf hq hd K hK => have Q6 := Q6.mo hq; go_run rfl (wo_load 25 (.tmp 6) (pt k6 0) (.agg (a.cells).toArray) rfl hk6 (run_row Q6 25 0 4 (a.cells) rfl Tryd.underlying25 rfl sz25) (hK _ (Mw.refl _))))
      ·exact og_eq _ rfl (fun f wf hq hd K hK => have Q6 := Q6.mo hq; go_run rfl (wo_load 25 (.tmp 6) (pt k6 0) (.agg (a.cells).toArray) rfl hk6 (run_row Q6 25 0 4 (a.cells) rfl Tryd.underlying25 rfl sz25) (hK _ (Mw.refl _))))
      ·exact og_eq _ rfl (fun f wf hq hd K hK => go_run rfl (wo_call 28 [(.tmp 38), (.tmp 39), (.tmp 40)] _ [.slice pl L9.length cl, .agg (a.cells).toArray, .agg (a.cells).toArray] (.bool true) rfl (li3 (hd 0 rfl) (hd 1 rfl) (hd 2 rfl)) (fun _ _ => by kernel_rfl) (cRw (congrArg Value.bool hf2) (wk (pwit_n _ (hL9.mw (M.trans hq)) hc9))) hK))
      ·exact og_eq _ rfl (fun f wf hq hd K hK => go_run rfl (wo_mv (.tmp 5) (.slice pl L9.length cl) (fun _ => rfl) h13 (hK _ (Mw.refl _))))
      ·exact og_eq _ rfl (fun f wf hq hd K hK => have Q6 := Q6.mo hq; go_run rfl (wo_load 25 (.tmp 6) (pt k6 0) (.agg (a.cells).toArray) rfl hk6 (run_row Q6 25 0 4 (a.cells) rfl Tryd.underlying25 rfl sz25) (hK _ (Mw.refl _))))
     intro kf7 u7 hq hR hne
     replace Q1 := Q1.mo hq
     replace Q2 := Q2.mo hq
     replace Q6 := Q6.mo hq
     replace Q7 := Q7.mo hq
     replace M := M.trans hq
     clear hq hR hne
     refine wl_call 10 [(.tmp 42), (.tmp 43)] _ [.slice pl L9.length cl, .agg (a.cells).toArray] (.int .i64 (ckR L9 a)) rfl rfl (fun _ _ => by kernel_rfl) (wk (pck_n _ (hL9.mw M) hc9)) rfl ?_
     intro u8 hq
     replace Q1 := Q1.mo hq
     replace Q2 := Q2.mo hq
     replace Q6 := Q6.mo hq
     replace Q7 := Q7.mo hq
     replace M := M.trans hq
     clear hq
     refine wl_b .eql 31 (.tmp 44) (.const (.int .i64 (0))) (.int .i64 (ckR L9 a)) (.int .i64 (0)) (.bool false) (eq34 hf3 _ _ _) ?_
     refine wl_b .eql 4 (.tmp 41) (.tmp 45) (.bool true) (.bool false) (.bool false) (eq4b (r := false) rfl _ _ _) ?_
     refine wl_m (.tmp 46) (.bool false) ?_
     refine w_nil (xn_then (w_ret ?_))
     exact w_ret1 _ (.bool false) rfl rfl ⟨(by have h := wit_self L9 a; rw [hf2, hf3] at h; cases h), M⟩
   | false =>
    cases hf3 : decide (ckR L9 a = 0) with
    | true =>
     have hf3p := of_decide_eq_true hf3
     refine w_any 6 [.inl (.slice pl L9.length cl), .inl (.agg (a.cells).toArray), .inl (.agg (a.cells).toArray), .inl (.bool false), .inl (.slice pl L9.length cl), .inl (.agg (a.cells).toArray)] [] (by kernel_rfl) (by kernel_rfl) (by kernel_rfl) (by kernel_rfl) rfl (by kernel_rfl) (by kernel_rfl) late_nil ?_ ?_ ?_
     ·exact Ds.none rfl
     ·refine ea_cons ?_ (ea_cons ?_ (ea_cons ?_ (ea_cons ?_ (ea_cons ?_ (ea_cons ?_ (ea_nil))))))
      ·exact og_eq _ rfl (fun f wf hq hd K hK => go_run rfl (wo_mv (.tmp 5) (.slice pl L9.length cl) (fun _ => rfl) h13 (hK _ (Mw.refl _))))
      ·exact og_eq _ rfl (fun f wf hq hd K hK => have Q6 := Q6.mo hq; go_run rfl (wo_load 25 (.tmp 6) (pt k6 0) (.agg (a.cells).toArray) rfl hk6 (run_row Q6 25 0 4 (a.cells) rfl Tryd.underlying25 rfl sz25) (hK _ (Mw.refl _))))
      ·exact og_eq _ rfl (fun f wf hq hd K hK => have Q6 := Q6.mo hq; go_run rfl (wo_load 25 (.tmp 6) (pt k6 0) (.agg (a.cells).toArray) rfl hk6 (run_row Q6 25 0 4 (a.cells) rfl Tryd.underlying25 rfl sz25) (hK _ (Mw.refl _))))
      ·exact og_eq _ rfl (fun f wf hq hd K hK => go_run rfl (wo_call 28 [(.tmp 38), (.tmp 39), (.tmp 40)] _ [.slice pl L9.length cl, .agg (a.cells).toArray, .agg (a.cells).toArray] (.bool false) rfl (li3 (hd 0 rfl) (hd 1 rfl) (hd 2 rfl)) (fun _ _ => by kernel_rfl) (cRw (congrArg Value.bool hf2) (wk (pwit_n _ (hL9.mw (M.trans hq)) hc9))) hK))
      ·exact og_eq _ rfl (fun f wf hq hd K hK => go_run rfl (wo_mv (.tmp 5) (.slice pl L9.length cl) (fun _ => rfl) h13 (hK _ (Mw.refl _))))
      ·exact og_eq _ rfl (fun f wf hq hd K hK => have Q6 := Q6.mo hq; go_run rfl (wo_load 25 (.tmp 6) (pt k6 0) (.agg (a.cells).toArray) rfl hk6 (run_row Q6 25 0 4 (a.cells) rfl Tryd.underlying25 rfl sz25) (hK _ (Mw.refl _))))
     intro kf7 u7 hq hR hne
     replace Q1 := Q1.mo hq
     replace Q2 := Q2.mo hq
     replace Q6 := Q6.mo hq
     replace Q7 := Q7.mo hq
     replace M := M.trans hq
     clear hq hR hne
     refine wl_call 10 [(.tmp 42), (.tmp 43)] _ [.slice pl L9.length cl, .agg (a.cells).toArray] (.int .i64 (ckR L9 a)) rfl rfl (fun _ _ => by kernel_rfl) (wk (pck_n _ (hL9.mw M) hc9)) rfl ?_
     intro u8 hq
     replace Q1 := Q1.mo hq
     replace Q2 := Q2.mo hq
     replace Q6 := Q6.mo hq
     replace Q7 := Q7.mo hq
     replace M := M.trans hq
     clear hq
     refine wl_b .eql 31 (.tmp 44) (.const (.int .i64 (0))) (.int .i64 (ckR L9 a)) (.int .i64 (0)) (.bool true) (eq34 hf3 _ _ _) ?_
     refine wl_b .eql 4 (.tmp 41) (.tmp 45) (.bool false) (.bool true) (.bool false) (eq4b (r := false) rfl _ _ _) ?_
     refine wl_m (.tmp 46) (.bool false) ?_
     refine w_nil (xn_then (w_ret ?_))
     exact w_ret1 _ (.bool false) rfl rfl ⟨(by have h := wit_self L9 a; rw [hf2, hf3] at h; cases h), M⟩
    | false =>
     have hf3p := of_decide_eq_false hf3
     refine w_any 6 [.inl (.slice pl L9.length cl), .inl (.agg (a.cells).toArray), .inl (.agg (a.cells).toArray), .inl (.bool false), .inl (.slice pl L9.length cl), .inl (.agg (a.cells).toArray)] [] (by kernel_rfl) (by kernel_rfl) (by kernel_rfl) (by kernel_rfl) rfl (by kernel_rfl) (by kernel_rfl) late_nil ?_ ?_ ?_
     ·exact Ds.none rfl
     ·refine ea_cons ?_ (ea_cons ?_ (ea_cons ?_ (ea_cons ?_ (ea_cons ?_ (ea_cons ?_ (ea_nil))))))
      ·exact og_eq _ rfl (fun f wf hq hd K hK => go_run rfl (wo_mv (.tmp 5) (.slice pl L9.length cl) (fun _ => rfl) h13 (hK _ (Mw.refl _))))
      ·exact og_eq _ rfl (fun f wf hq hd K hK => have Q6 := Q6.mo hq; go_run rfl (wo_load 25 (.tmp 6) (pt k6 0) (.agg (a.cells).toArray) rfl hk6 (run_row Q6 25 0 4 (a.cells) rfl Tryd.underlying25 rfl sz25) (hK _ (Mw.refl _))))
      ·exact og_eq _ rfl (fun f wf hq hd K hK => have Q6 := Q6.mo hq; go_run rfl (wo_load 25 (.tmp 6) (pt k6 0) (.agg (a.cells).toArray) rfl hk6 (run_row Q6 25 0 4 (a.cells) rfl Tryd.underlying25 rfl sz25) (hK _ (Mw.refl _))))
      ·exact og_eq _ rfl (fun f wf hq hd K hK => go_run rfl (wo_call 28 [(.tmp 38), (.tmp 39), (.tmp 40)] _ [.slice pl L9.length cl, .agg (a.cells).toArray, .agg (a.cells).toArray] (.bool false) rfl (li3 (hd 0 rfl) (hd 1 rfl) (hd 2 rfl)) (fun _ _ => by kernel_rfl) (cRw (congrArg Value.bool hf2) (wk (pwit_n _ (hL9.mw (M.trans hq)) hc9))) hK))
      ·exact og_eq _ rfl (fun f wf hq hd K hK => go_run rfl (wo_mv (.tmp 5) (.slice pl L9.length cl) (fun _ => rfl) h13 (hK _ (Mw.refl _))))
      ·exact og_eq _ rfl (fun f wf hq hd K hK => have Q6 := Q6.mo hq; go_run rfl (wo_load 25 (.tmp 6) (pt k6 0) (.agg (a.cells).toArray) rfl hk6 (run_row Q6 25 0 4 (a.cells) rfl Tryd.underlying25 rfl sz25) (hK _ (Mw.refl _))))
     intro kf7 u7 hq hR hne
     replace Q1 := Q1.mo hq
     replace Q2 := Q2.mo hq
     replace Q6 := Q6.mo hq
     replace Q7 := Q7.mo hq
     replace M := M.trans hq
     clear hq hR hne
     refine wl_call 10 [(.tmp 42), (.tmp 43)] _ [.slice pl L9.length cl, .agg (a.cells).toArray] (.int .i64 (ckR L9 a)) rfl rfl (fun _ _ => by kernel_rfl) (wk (pck_n _ (hL9.mw M) hc9)) rfl ?_
     intro u8 hq
     replace Q1 := Q1.mo hq
     replace Q2 := Q2.mo hq
     replace Q6 := Q6.mo hq
     replace Q7 := Q7.mo hq
     replace M := M.trans hq
     clear hq
     refine wl_b .eql 31 (.tmp 44) (.const (.int .i64 (0))) (.int .i64 (ckR L9 a)) (.int .i64 (0)) (.bool false) (eq34 hf3 _ _ _) ?_
     refine wl_b .eql 4 (.tmp 41) (.tmp 45) (.bool false) (.bool false) (.bool true) (eq4b (r := true) rfl _ _ _) ?_
     refine wl_m (.tmp 46) (.bool true) ?_
     refine w_nil (xn_then (w_ret ?_))
     exact w_ret1 _ _ rfl rfl ⟨rfl, M⟩
 | false =>
  refine wl_call 28 [(.tmp 21), (.tmp 22), (.tmp 23)] _ [.slice pl L9.length cl, .agg (a.cells).toArray, .agg (b.cells).toArray] (.bool false) rfl rfl (fun _ _ => by kernel_rfl) (cRw (congrArg Value.bool hf0) (wk (pwit_n _ (hL9.mw M) hc9))) rfl ?_
  intro u5 hq
  replace Q1 := Q1.mo hq
  replace Q2 := Q2.mo hq
  replace Q6 := Q6.mo hq
  replace Q7 := Q7.mo hq
  replace M := M.trans hq
  clear hq
  refine wl_m (.tmp 24) (.bool false) ?_
  refine wl_skip rfl (wl_skip rfl (wl_skip rfl (wl_skip rfl ?_)))
  refine wl_pick (.tmp 25) (.tmp 29) (.const (.bool false)) false (.bool false) (fun _ => rfl) rfl rfl rfl ?_
  refine wl_m (.tmp 30) (.bool false) ?_
  refine wl_skip rfl (wl_skip rfl (wl_skip rfl (wl_skip rfl (wl_skip rfl ?_))))
  refine wl_pick (.tmp 31) (.tmp 36) (.const (.bool false)) false (.bool false) (fun _ => rfl) rfl rfl rfl ?_
  refine w_nil (xn_then (w_condF rfl (w_skip (xn_then (w_seq ?_)))))
  cases hf1 : witB L9 a a with
  | true =>
   cases hf2 : decide (ckR L9 a = 0) with
   | true =>
    have hf2p := of_decide_eq_true hf2
    refine w_any 6 [.inl (.slice pl L9.length cl), .inl (.agg (a.cells).toArray), .inl (.agg (a.cells).toArray), .inl (.bool true), .inl (.slice pl L9.length cl), .inl (.agg (a.cells).toArray)] [] (by kernel_rfl) (by kernel_rfl) (by kernel_rfl) (by kernel_rfl) rfl (by kernel_rfl) (by kernel_rfl) late_nil ?_ ?_ ?_
    ·exact Ds.none rfl
    ·refine ea_cons ?_ (ea_cons ?_ (ea_cons ?_ (ea_cons ?_ (ea_cons ?_ (ea_cons ?_ (ea_nil))))))
     ·exact og_eq _ rfl (fun f wf hq hd K hK => go_run rfl (wo_mv (.tmp 5) (.slice pl L9.length cl) (fun _ => rfl) h13 (hK _ (Mw.refl _))))
     ·exact og_eq _ rfl (fun f wf hq hd K hK => have Q6 := Q6.mo hq; go_run rfl (wo_load 25 (.tmp 6) (pt k6 0) (.agg (a.cells).toArray) rfl hk6 (run_row Q6 25 0 4 (a.cells) rfl Tryd.underlying25 rfl sz25) (hK _ (Mw.refl _))))
     ·exact og_eq _ rfl (fun f wf hq hd K hK => have Q6 := Q6.mo hq; go_run rfl (wo_load 25 (.tmp 6) (pt k6 0) (.agg (a.cells).toArray) rfl hk6 (run_row Q6 25 0 4 (a.cells) rfl Tryd.underlying25 rfl sz25) (hK _ (Mw.refl _))))
     ·exact og_eq _ rfl (fun f wf hq hd K hK => go_run rfl (wo_call 28 [(.tmp 38), (.tmp 39), (.tmp 40)] _ [.slice pl L9.length cl, .agg (a.cells).toArray, .agg (a.cells).toArray] (.bool true) rfl (li3 (hd 0 rfl) (hd 1 rfl) (hd 2 rfl)) (fun _ _ => by kernel_rfl) (cRw (congrArg Value.bool hf1) (wk (pwit_n _ (hL9.mw (M.trans hq)) hc9))) hK))
     ·exact og_eq _ rfl (fun f wf hq hd K hK => go_run rfl (wo_mv (.tmp 5) (.slice pl L9.length cl) (fun _ => rfl) h13 (hK _ (Mw.refl _))))
     ·exact og_eq _ rfl (fun f wf hq hd K hK => have Q6 := Q6.mo hq; go_run rfl (wo_load 25 (.tmp 6) (pt k6 0) (.agg (a.cells).toArray) rfl hk6 (run_row Q6 25 0 4 (a.cells) rfl Tryd.underlying25 rfl sz25) (hK _ (Mw.refl _))))
    intro kf6 u6 hq hR hne
    replace Q1 := Q1.mo hq
    replace Q2 := Q2.mo hq
    replace Q6 := Q6.mo hq
    replace Q7 := Q7.mo hq
    replace M := M.trans hq
    clear hq hR hne
    refine wl_call 10 [(.tmp 42), (.tmp 43)] _ [.slice pl L9.length cl, .agg (a.cells).toArray] (.int .i64 (ckR L9 a)) rfl rfl (fun _ _ => by kernel_rfl) (wk (pck_n _ (hL9.mw M) hc9)) rfl ?_
    intro u7 hq
    replace Q1 := Q1.mo hq
    replace Q2 := Q2.mo hq
    replace Q6 := Q6.mo hq
    replace Q7 := Q7.mo hq
    replace M := M.trans hq
    clear hq
    refine wl_b .eql 31 (.tmp 44) (.const (.int .i64 (0))) (.int .i64 (ckR L9 a)) (.int .i64 (0)) (.bool true) (eq34 hf2 _ _ _) ?_
    refine wl_b .eql 4 (.tmp 41) (.tmp 45) (.bool true) (.bool true) (.bool true) (eq4b (r := true) rfl _ _ _) ?_
    refine wl_m (.tmp 46) (.bool true) ?_
    refine w_nil (xn_then (w_ret ?_))
    exact w_ret1 _ _ rfl rfl ⟨rfl, M⟩
   | false =>
    have hf2p := of_decide_eq_false hf2
    refine w_any 6 [.inl (.slice pl L9.length cl), .inl (.agg (a.cells).toArray), .inl (.agg (a.cells).toArray), .inl (.bool true), .inl (.slice pl L9.length cl), .inl (.agg (a.cells).toArray)] [] (by kernel_rfl) (by kernel_rfl) (by kernel_rfl) (by kernel_rfl) rfl (by kernel_rfl) (by kernel_rfl) late_nil ?_ ?_ ?_
    ·exact Ds.none rfl
    ·refine ea_cons ?_ (ea_cons ?_ (ea_cons ?_ (ea_cons ?_ (ea_cons ?_ (ea_cons ?_ (ea_nil))))))
     ·exact og_eq _ rfl (fun f wf hq hd K hK => go_run rfl (wo_mv (.tmp 5) (.slice pl L9.length cl) (fun _ => rfl) h13 (hK _ (Mw.refl _))))
     ·exact og_eq _ rfl (fun f wf hq hd K hK => have Q6 := Q6.mo hq; go_run rfl (wo_load 25 (.tmp 6) (pt k6 0) (.agg (a.cells).toArray) rfl hk6 (run_row Q6 25 0 4 (a.cells) rfl Tryd.underlying25 rfl sz25) (hK _ (Mw.refl _))))
     ·exact og_eq _ rfl (fun f wf hq hd K hK => have Q6 := Q6.mo hq; go_run rfl (wo_load 25 (.tmp 6) (pt k6 0) (.agg (a.cells).toArray) rfl hk6 (run_row Q6 25 0 4 (a.cells) rfl Tryd.underlying25 rfl sz25) (hK _ (Mw.refl _))))
     ·exact og_eq _ rfl (fun f wf hq hd K hK => go_run rfl (wo_call 28 [(.tmp 38), (.tmp 39), (.tmp 40)] _ [.slice pl L9.length cl, .agg (a.cells).toArray, .agg (a.cells).toArray] (.bool true) rfl (li3 (hd 0 rfl) (hd 1 rfl) (hd 2 rfl)) (fun _ _ => by kernel_rfl) (cRw (congrArg Value.bool hf1) (wk (pwit_n _ (hL9.mw (M.trans hq)) hc9))) hK))
     ·exact og_eq _ rfl (fun f wf hq hd K hK => go_run rfl (wo_mv (.tmp 5) (.slice pl L9.length cl) (fun _ => rfl) h13 (hK _ (Mw.refl _))))
     ·exact og_eq _ rfl (fun f wf hq hd K hK => have Q6 := Q6.mo hq; go_run rfl (wo_load 25 (.tmp 6) (pt k6 0) (.agg (a.cells).toArray) rfl hk6 (run_row Q6 25 0 4 (a.cells) rfl Tryd.underlying25 rfl sz25) (hK _ (Mw.refl _))))
    intro kf6 u6 hq hR hne
    replace Q1 := Q1.mo hq
    replace Q2 := Q2.mo hq
    replace Q6 := Q6.mo hq
    replace Q7 := Q7.mo hq
    replace M := M.trans hq
    clear hq hR hne
    refine wl_call 10 [(.tmp 42), (.tmp 43)] _ [.slice pl L9.length cl, .agg (a.cells).toArray] (.int .i64 (ckR L9 a)) rfl rfl (fun _ _ => by kernel_rfl) (wk (pck_n _ (hL9.mw M) hc9)) rfl ?_
    intro u7 hq
    replace Q1 := Q1.mo hq
    replace Q2 := Q2.mo hq
    replace Q6 := Q6.mo hq
    replace Q7 := Q7.mo hq
    replace M := M.trans hq
    clear hq
    refine wl_b .eql 31 (.tmp 44) (.const (.int .i64 (0))) (.int .i64 (ckR L9 a)) (.int .i64 (0)) (.bool false) (eq34 hf2 _ _ _) ?_
    refine wl_b .eql 4 (.tmp 41) (.tmp 45) (.bool true) (.bool false) (.bool false) (eq4b (r := false) rfl _ _ _) ?_
    refine wl_m (.tmp 46) (.bool false) ?_
    refine w_nil (xn_then (w_ret ?_))
    exact w_ret1 _ (.bool false) rfl rfl ⟨(by have h := wit_self L9 a; rw [hf1, hf2] at h; cases h), M⟩
  | false =>
   cases hf2 : decide (ckR L9 a = 0) with
   | true =>
    have hf2p := of_decide_eq_true hf2
    refine w_any 6 [.inl (.slice pl L9.length cl), .inl (.agg (a.cells).toArray), .inl (.agg (a.cells).toArray), .inl (.bool false), .inl (.slice pl L9.length cl), .inl (.agg (a.cells).toArray)] [] (by kernel_rfl) (by kernel_rfl) (by kernel_rfl) (by kernel_rfl) rfl (by kernel_rfl) (by kernel_rfl) late_nil ?_ ?_ ?_
    ·exact Ds.none rfl
    ·refine ea_cons ?_ (ea_cons ?_ (ea_cons ?_ (ea_cons ?_ (ea_cons ?_ (ea_cons ?_ (ea_nil))))))
     ·exact og_eq _ rfl (fun f wf hq hd K hK => go_run rfl (wo_mv (.tmp 5) (.slice pl L9.length cl) (fun _ => rfl) h13 (hK _ (Mw.refl _))))
     ·exact og_eq _ rfl (fun f wf hq hd K hK => have Q6 := Q6.mo hq; go_run rfl (wo_load 25 (.tmp 6) (pt k6 0) (.agg (a.cells).toArray) rfl hk6 (run_row Q6 25 0 4 (a.cells) rfl Tryd.underlying25 rfl sz25) (hK _ (Mw.refl _))))
     ·exact og_eq _ rfl (fun f wf hq hd K hK => have Q6 := Q6.mo hq; go_run rfl (wo_load 25 (.tmp 6) (pt k6 0) (.agg (a.cells).toArray) rfl hk6 (run_row Q6 25 0 4 (a.cells) rfl Tryd.underlying25 rfl sz25) (hK _ (Mw.refl _))))
     ·exact og_eq _ rfl (fun f wf hq hd K hK => go_run rfl (wo_call 28 [(.tmp 38), (.tmp 39), (.tmp 40)] _ [.slice pl L9.length cl, .agg (a.cells).toArray, .agg (a.cells).toArray] (.bool false) rfl (li3 (hd 0 rfl) (hd 1 rfl) (hd 2 rfl)) (fun _ _ => by kernel_rfl) (cRw (congrArg Value.bool hf1) (wk (pwit_n _ (hL9.mw (M.trans hq)) hc9))) hK))
     ·exact og_eq _ rfl (fun f wf hq hd K hK => go_run rfl (wo_mv (.tmp 5) (.slice pl L9.length cl) (fun _ => rfl) h13 (hK _ (Mw.refl _))))
     ·exact og_eq _ rfl (fun f wf hq hd K hK => have Q6 := Q6.mo hq; go_run rfl (wo_load 25 (.tmp 6) (pt k6 0) (.agg (a.cells).toArray) rfl hk6 (run_row Q6 25 0 4 (a.cells) rfl Tryd.underlying25 rfl sz25) (hK _ (Mw.refl _))))
    intro kf6 u6 hq hR hne
    replace Q1 := Q1.mo hq
    replace Q2 := Q2.mo hq
    replace Q6 := Q6.mo hq
    replace Q7 := Q7.mo hq
    replace M := M.trans hq
    clear hq hR hne
    refine wl_call 10 [(.tmp 42), (.tmp 43)] _ [.slice pl L9.length cl, .agg (a.cells).toArray] (.int .i64 (ckR L9 a)) rfl rfl (fun _ _ => by kernel_rfl) (wk (pck_n _ (hL9.mw M) hc9)) rfl ?_
    intro u7 hq
    replace Q1 := Q1.mo hq
    replace Q2 := Q2.mo hq
    replace Q6 := Q6.mo hq
    replace Q7 := Q7.mo hq
    replace M := M.trans hq
    clear hq
    refine wl_b .eql 31 (.tmp 44) (.const (.int .i64 (0))) (.int .i64 (ckR L9 a)) (.int .i64 (0)) (.bool true) (eq34 hf2 _ _ _) ?_
    refine wl_b .eql 4 (.tmp 41) (.tmp 45) (.bool false) (.bool true) (.bool false) (eq4b (r := false) rfl _ _ _) ?_
    refine wl_m (.tmp 46) (.bool false) ?_
    refine w_nil (xn_then (w_ret ?_))
    exact w_ret1 _ (.bool false) rfl rfl ⟨(by have h := wit_self L9 a; rw [hf1, hf2] at h; cases h), M⟩
   | false =>
    have hf2p := of_decide_eq_false hf2
    refine w_any 6 [.inl (.slice pl L9.length cl), .inl (.agg (a.cells).toArray), .inl (.agg (a.cells).toArray), .inl (.bool false), .inl (.slice pl L9.length cl), .inl (.agg (a.cells).toArray)] [] (by kernel_rfl) (by kernel_rfl) (by kernel_rfl) (by kernel_rfl) rfl (by kernel_rfl) (by kernel_rfl) late_nil ?_ ?_ ?_
    ·exact Ds.none rfl
    ·refine ea_cons ?_ (ea_cons ?_ (ea_cons ?_ (ea_cons ?_ (ea_cons ?_ (ea_cons ?_ (ea_nil))))))
     ·exact og_eq _ rfl (fun f wf hq hd K hK => go_run rfl (wo_mv (.tmp 5) (.slice pl L9.length cl) (fun _ => rfl) h13 (hK _ (Mw.refl _))))
     ·exact og_eq _ rfl (fun f wf hq hd K hK => have Q6 := Q6.mo hq; go_run rfl (wo_load 25 (.tmp 6) (pt k6 0) (.agg (a.cells).toArray) rfl hk6 (run_row Q6 25 0 4 (a.cells) rfl Tryd.underlying25 rfl sz25) (hK _ (Mw.refl _))))
     ·exact og_eq _ rfl (fun f wf hq hd K hK => have Q6 := Q6.mo hq; go_run rfl (wo_load 25 (.tmp 6) (pt k6 0) (.agg (a.cells).toArray) rfl hk6 (run_row Q6 25 0 4 (a.cells) rfl Tryd.underlying25 rfl sz25) (hK _ (Mw.refl _))))
     ·exact og_eq _ rfl (fun f wf hq hd K hK => go_run rfl (wo_call 28 [(.tmp 38), (.tmp 39), (.tmp 40)] _ [.slice pl L9.length cl, .agg (a.cells).toArray, .agg (a.cells).toArray] (.bool false) rfl (li3 (hd 0 rfl) (hd 1 rfl) (hd 2 rfl)) (fun _ _ => by kernel_rfl) (cRw (congrArg Value.bool hf1) (wk (pwit_n _ (hL9.mw (M.trans hq)) hc9))) hK))
     ·exact og_eq _ rfl (fun f wf hq hd K hK => go_run rfl (wo_mv (.tmp 5) (.slice pl L9.length cl) (fun _ => rfl) h13 (hK _ (Mw.refl _))))
     ·exact og_eq _ rfl (fun f wf hq hd K hK => have Q6 := Q6.mo hq; go_run rfl (wo_load 25 (.tmp 6) (pt k6 0) (.agg (a.cells).toArray) rfl hk6 (run_row Q6 25 0 4 (a.cells) rfl Tryd.underlying25 rfl sz25) (hK _ (Mw.refl _))))
    intro kf6 u6 hq hR hne
    replace Q1 := Q1.mo hq
    replace Q2 := Q2.mo hq
    replace Q6 := Q6.mo hq
    replace Q7 := Q7.mo hq
    replace M := M.trans hq
    clear hq hR hne
    refine wl_call 10 [(.tmp 42), (.tmp 43)] _ [.slice pl L9.length cl, .agg (a.cells).toArray] (.int .i64 (ckR L9 a)) rfl rfl (fun _ _ => by kernel_rfl) (wk (pck_n _ (hL9.mw M) hc9)) rfl ?_
    intro u7 hq
    replace Q1 := Q1.mo hq
    replace Q2 := Q2.mo hq
    replace Q6 := Q6.mo hq
    replace Q7 := Q7.mo hq
    replace M := M.trans hq
    clear hq
    refine wl_b .eql 31 (.tmp 44) (.const (.int .i64 (0))) (.int .i64 (ckR L9 a)) (.int .i64 (0)) (.bool false) (eq34 hf2 _ _ _) ?_
    refine wl_b .eql 4 (.tmp 41) (.tmp 45) (.bool false) (.bool false) (.bool true) (eq4b (r := true) rfl _ _ _) ?_
    refine wl_m (.tmp 46) (.bool true) ?_
    refine w_nil (xn_then (w_ret ?_))
    exact w_ret1 _ _ rfl rfl ⟨rfl, M⟩
end Go.Proofs.YtnffhcjmpjajlaaDoor.V
namespace Go.Proofs.YtnffhcjmpjajlaaDoor
open Go.ChangeShapes Go.WideShapes Go.ChangeAt Go.RowKit Go.ChangeMaps D
section
variable {H : Type} {enc : TypeId × Value → H} {W : World} {base : Nat} {v : Value} {d : DataW H} {p : List MemPlace}
set_option maxRecDepth 100000 in
theorem open_pair (hv : Value.okWide Tryd.prog W .any base 61 v) (h : DataW.Trod enc Tryd.prog W 0 (fun _ => true) true 61 v d p) (hwt : ∀ q ∈ d.weights Tryd.prog 61, q ≤ reachBytes) : ∃ (l : List S5) (pl : Option Addr) (cl : Nat) (a b : Ro) (sec id : Int), v = .agg (V.pairC pl l.length cl a b sec id).toArray ∧ LL W pl l ∧ l.length ≤ cl := by
 obtain ⟨ar, rfl, _⟩ := okWide_struct Tryd.underlying61 hv
 obtain ⟨fuel, hf⟩ := h
 obtain ⟨m, y, _, hy, hyw⟩ := wt_fd (B := reachBytes) Tryd.underlying61 hf hwt 0 22 0 rfl Tryd.cl22
 obtain ⟨xs, n, rfl, _, hl, hlen, hi⟩ := DataW.trod_struct Tryd.underlying61 hf
 rw [Tryd.cl61] at hl
 obtain ⟨c0, c1, c2, c3, c4, c5, c6, c7, c8, c9, c10, e⟩ : ∃ c0 c1 c2 c3 c4 c5 c6 c7 c8 c9 c10, (Value.agg ar).cells.toList = [c0, c1, c2, c3, c4, c5, c6, c7, c8, c9, c10] := by
  match (Value.agg ar).cells.toList, hl with
  | [a0, a1, a2, a3, a4, a5, a6, a7, a8, a9, a10], _ => exact ⟨a0, a1, a2, a3, a4, a5, a6, a7, a8, a9, a10, rfl⟩
 rw [e] at hi hy
 obtain ⟨y0, y1, y2, y3, y4, rfl⟩ : ∃ y0 y1 y2 y3 y4, xs = [y0, y1, y2, y3, y4] := by
  match xs, hlen with
  | [a0, a1, a2, a3, a4], _ => exact ⟨a0, a1, a2, a3, a4, rfl⟩
 have i1 := hi 1 _ rfl
 have i2 := hi 2 _ rfl
 have i3 := hi 3 _ rfl
 have i4 := hi 4 _ rfl
 simp [Tryd.cl2, Tryd.cl3, Tryd.cl25] at i1 i2 i3 i4 hy
 obtain ⟨ra, ea⟩ := cut_row i1
 obtain ⟨rb, eb⟩ := cut_row i2
 obtain ⟨sec, es, _, _⟩ := DataW.trod_int Tryd.underlying3 i3
 obtain ⟨id, ei, _, _⟩ := DataW.trod_int Tryd.underlying2 i4
 simp [Ro.cells] at ea eb es ei
 obtain ⟨a0, a1, a2, a3⟩ := ea
 obtain ⟨b0, b1, b2, b3⟩ := eb
 subst a0 a1 a2 a3 b0 b1 b2 b3 es ei
 obtain ⟨a, k, c, e0⟩ : ∃ a k c, c0 = .slice a k c := by
  rcases DataW.trod_slice Tryd.underlying22 hy with ⟨hcs, _⟩ | ⟨a, len, cap', elems, rest, k, _, hcs, _⟩
  ·simp at hcs; exact ⟨none, 0, 0, hcs⟩
  ·simp at hcs; exact ⟨_, _, _, hcs⟩
 subst e0
 obtain ⟨l, rfl, hL, hc⟩ := sects_of hy hyw
 refine ⟨l, a, c, ra, rb, sec, id, ?_, hL, hc⟩
 have : ar = (V.pairC a l.length c ra rb sec id).toArray := by
  apply Array.toList_inj.1
  simpa [Value.cells, V.pairC, Ro.cells] using e
 rw [this]
end
end Go.Proofs.YtnffhcjmpjajlaaDoor
