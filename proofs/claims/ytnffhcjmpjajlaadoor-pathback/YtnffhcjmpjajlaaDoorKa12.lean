/-
  A part of the proof.
-/
import Derived.Test.YtnffhcjmpjajlaaDoorKa9
import Derived.Test.YtnffhcjmpjajlaaDoorKa4
import Derived.Test.YtnffhcjmpjajlaaDoorKa3
import Derived.Test.YtnffhcjmpjajlaaDoorKa2
import Derived.Test.YtnffhcjmpjajlaaDoorKa1
import Derived.RegionTactic
import Derived.Test.YtnffhcjmpjajlaaDoorProg
import Derived.WalkKit
import Derived.WalkSpells
import Derived.Handy
import Derived.BigQuiet
import Derived.Deep.RegionHeld3
import Derived.Deep.MidRow
import Derived.BigCall
import Derived.ChangeKeysEq
import Derived.Shelf.Small.Bits
import Derived.Shelf.Strconv.Itoa0
import Derived.Shelf.Bits.Mul64
import Derived.Deep.CutRange
import Derived.Deep.CutBlock
import Derived.ScopeJumps
import Derived.WalkMore
import Derived.Laws.StructEq
import Derived.Lib.CutLaws
import Derived.Maps.OwnSet
import Derived.WalkArith
import Derived.StringKeys
import Derived.ProofKit
import Derived.OpenShut
import Derived.ChangeArms
import Derived.Deep.Slices
import Derived.ReadAgain
import Derived.WideKeyArgs
import Derived.Maps.AppendAt
import Derived.Test.YtnffhcjmpjajlaaDoorKa7
import Derived.Shelf.Strconv.Itoa4
import Derived.Test.YtnffhcjmpjajlaaDoorKa8
import Derived.Lib.IndexBytes
import Derived.Lib.AppendIntMem
import Derived.Lib.ItoaLen
import Derived.Test.YtnffhcjmpjajlaaDoorKa6
import Derived.Test.YtnffhcjmpjajlaaDoorKa5
namespace Go.Proofs.YtnffhcjmpjajlaaDoor.V
open Go.RowKit D
theorem txN_bd {l : List S5} (hn : ∀ x ∈ l, x.nm.size ≤ 140737488355328) : ∀ (n : Nat) (r : Ro) (b : ByteArray), ckR l r = 0 → (b.size : Int) + dpA l r.s.toNat * 200000000000000 ≤ 1000000000000000 → ((txN l n r b).size : Int) ≤ 1000000000000000
 | 0, r, b, h, hb => by
  obtain ⟨hsn, a0, a1, _⟩ := ck_0 h
  obtain ⟨y, hy⟩ := get_of_lt (show r.s.toNat < l.length by omega)
  have := dp_at hsn hy
  rw [dpA_at hy] at hb
  rw [txN]; omega
 | n + 1, r, b, h, hb => by
  obtain ⟨hsn, a0, a1, _⟩ := ck_0 h
  obtain ⟨y, hy⟩ := get_of_lt (show r.s.toNat < l.length by omega)
  have := dp_at hsn hy
  rw [txN]
  split
  ·rw [dpA_at hy] at hb; omega
  next e =>
   have hp := par_v' h e
   rw [par_u hp]
   refine txN_bd hn n _ _ (par_ck h e) ?_
   rw [seg_cat b hy, par_dp h e]
   exact szn hb (hn y (List.mem_of_getElem? hy)) (itz h e)
theorem txR_bd {l : List S5} (hn : ∀ x ∈ l, x.nm.size ≤ 140737488355328) (r : Ro) : (txR l r).size ≤ 1000000000000000 := by
 unfold txR
 split
 next h =>
  split
  ·show 1 ≤ _; omega
  ·have := txN_bd hn r.s.toNat r ⟨#[]⟩ h (tx_sz h)
   unfold txW; omega
 next => show 1 ≤ _; omega
def txC (l : List S5) (c : Ce) : ByteArray := if ckC l c = 0 then catB (catB (txR l c.r) ⟨#[46]⟩) (nmA l c.r.s c.i) else ⟨#[63]⟩
theorem szd {a b : ByteArray} (ha : a.size ≤ 1000000000000000) (hb : b.size ≤ 140737488355328) : a.size + (⟨#[46]⟩ : ByteArray).size ≤ 9223372036854775807 ∧ (catB a ⟨#[46]⟩).size + b.size ≤ 9223372036854775807 := by
 unfold catB; simp only [ByteArray.size_append, s46]; omega
theorem cc_0 {l : List S5} {c : Ce} (h : ckC l c = 0) : ckR l c.r = 0 ∧ 0 ≤ c.i ∧ ∃ y z, l[c.r.s.toNat]? = some y ∧ y.items[c.i.toNat]? = some z ∧ nmA l c.r.s c.i = z.nm := by
 unfold ckC at h
 split at h
 next hc =>
  split at h
  next hi =>
   simp only [Bool.and_eq_true, decide_eq_true_eq] at hi
   obtain ⟨_, a0, a1, _⟩ := ck_0 hc
   obtain ⟨y, hy⟩ := get_of_lt (show c.r.s.toNat < l.length by omega)
   rw [ilA_at hy] at hi
   obtain ⟨z, hz⟩ := get_of_lt (show c.i.toNat < y.items.length by omega)
   exact ⟨hc, hi.1, y, z, hy, hz, by unfold nmA; rw [hy]; show (match y.items[c.i.toNat]? with | some y => y.nm | none => _) = _; rw [hz]⟩
  next => exact absurd h (by decide)
 next hc => exact absurd h hc
end Go.Proofs.YtnffhcjmpjajlaaDoor.V

namespace Go.Proofs.YtnffhcjmpjajlaaDoor.V
open Go.RowKit D
theorem txN_app {l : List S5} : ∀ (n : Nat) (r : Ro) (b : ByteArray), txN l n r b = txN l n r ⟨#[]⟩ ++ b
 | 0, r, b => (ByteArray.empty_append).symm
 | n + 1, r, b => by
  rw [txN, txN]
  split
  ·exact (ByteArray.empty_append).symm
  ·rw [txN_app n _ (seg l r ++ b), txN_app n _ (seg l r ++ ⟨#[]⟩)]
   rw [show seg l r ++ (⟨#[]⟩ : ByteArray) = seg l r from ByteArray.append_empty, ByteArray.append_assoc]
theorem txW_up {l : List S5} {r : Ro} (h : ckR l r = 0) (h0 : ¬ r.s = 0) : txW l r = txW l (parU l r) ++ seg l r := by
 unfold txW
 rw [tx_up h h0, txN_app]
 rw [show seg l r ++ (⟨#[]⟩ : ByteArray) = seg l r from ByteArray.append_empty]
theorem txW_cat {l : List S5} {r : Ro} {y : S5} (h : ckR l r = 0) (h0 : ¬ r.s = 0) (hy : l[r.s.toNat]? = some y) : txW l r = catB (catB (catB (catB (txW l (parU l r)) ⟨#[47]⟩) y.nm) ⟨#[58]⟩) ⟨(Lib.itoa (idR y.dp r)).toArray⟩ := by
 rw [txW_up h h0, seg_at hy, id_v h h0 hy]
 unfold catB
 simp only [ByteArray.append_assoc]
theorem txW_0 {l : List S5} {r : Ro} (h0 : r.s = 0) : txW l r = ⟨#[]⟩ := by unfold txW; rw [h0]; rfl
theorem txW_ne {l : List S5} {r : Ro} (h : ckR l r = 0) (h0 : ¬ r.s = 0) : ¬ txW l r = ⟨#[]⟩ := by
 intro e
 obtain ⟨_, a0, a1, _⟩ := ck_0 h
 obtain ⟨y, hy⟩ := get_of_lt (show r.s.toNat < l.length by omega)
 have q := congrArg ByteArray.size e
 rw [txW_cat h h0 hy] at q
 unfold catB at q
 simp only [ByteArray.size_append, s47, s58] at q
 have : (⟨#[]⟩ : ByteArray).size = 0 := rfl
 omega
theorem txW_bd {l : List S5} (hn : ∀ x ∈ l, x.nm.size ≤ 140737488355328) {r : Ro} (h : ckR l r = 0) : (txW l r).size ≤ 1000000000000000 := by
 have := txN_bd hn r.s.toNat r ⟨#[]⟩ h (tx_sz h)
 unfold txW; omega
def agr (d : Int) (p r : Ro) : Prop := ∀ e : Int, 2 ≤ e → e ≤ d → idR e p = idR e r
theorem agr_up {l : List S5} {p r : Ro} {y : S5} (h : ckR l r = 0) (hy : l[r.s.toNat]? = some y) (g : agr y.dp p r) : agr (y.dp - 1) p (parU l r) := by
 intro e h2 hd
 rw [g e h2 (by omega)]
 unfold parU
 rw [dpA_at hy]
 have hc : y.dp = 2 ∨ y.dp = 3 ∨ y.dp = 4 ∨ 4 < y.dp := by omega
 obtain ⟨hsn, _⟩ := ck_0 h
 have hb := dp_at hsn hy
 rcases hc with q | q | q | q
 ·omega
 ·have : e = 2 := by omega
  subst this; simp [idR, setR, q]
 ·have : e = 2 ∨ e = 3 := by omega
  rcases this with rfl | rfl <;> simp [idR, setR, q]
 ·omega
theorem szc' {x a b : ByteArray} (h : x.size ≤ 1000000000000000) (ha : a.size ≤ 140737488355328) (hb : b.size ≤ 21) : x.size + (⟨#[47]⟩ : ByteArray).size ≤ 9223372036854775807 ∧ (catB x ⟨#[47]⟩).size + a.size ≤ 9223372036854775807 ∧ (catB (catB x ⟨#[47]⟩) a).size + (⟨#[58]⟩ : ByteArray).size ≤ 9223372036854775807 ∧ (catB (catB (catB x ⟨#[47]⟩) a) ⟨#[58]⟩).size + b.size ≤ 9223372036854775807 := by
 unfold catB; simp only [ByteArray.size_append, s47, s58]; omega
theorem cRw {g : FuncId} {args : Array Value} {w : World} {a b : Value} (h : a = b) (c : Calls Tryd.prog g args w fun e w' => e = .returned a ∧ Mw w w') : Calls Tryd.prog g args w fun e w' => e = .returned b ∧ Mw w w' := h ▸ c
theorem pspl_s {L : List S5} {pl : Option Addr} {cl : Nat} {a b c : Int} {q : Ro} (hrec : ∀ (q' : Ro), q'.s.toNat < q.s.toNat → ∀ (w : World), LL w pl L → TB w → ckR L q' = 0 → agr (dpA L q'.s.toNat) ⟨0, a, b, c⟩ q' → Calls Tryd.prog 34 #[.slice pl L.length cl, .int .i64 q'.s, .agg #[.int .i64 a, .int .i64 b, .int .i64 c]] w fun e9 w' => e9 = .returned (.string (txW L q')) ∧ Mw w w') (w : World) (hL : LL w pl L) (hTb : TB w) (hck : ckR L q = 0) (hag : agr (dpA L q.s.toNat) ⟨0, a, b, c⟩ q) : Calls Tryd.prog 34 #[.slice pl L.length cl, .int .i64 q.s, .agg #[.int .i64 a, .int .i64 b, .int .i64 c]] w fun e9 w' => e9 = .returned (.string (txW L q)) ∧ Mw w w' := by
 refine w_enter 34 Tryd.func34 Tryd.ntmps34 rfl rfl ?_
 have M : Mw w w := Mw.refl _
 refine w_seq (w_reg ?_)
 refine wl_box 23 (.tmp 2) _ (#[.int .i64 a, .int .i64 b, .int .i64 c]) rfl rfl (fun _ => by kernel_rfl) rfl ?_
 intro k1 u1 hk hz hq Q1
 have N_k1 : w.heap.size ≤ k1 := by have := M.size; omega
 replace M := M.trans hq
 clear hk hz hq
 refine wl_m (.const (.string ⟨#[]⟩)) (.string ⟨#[]⟩) ?_
 refine w_nil (xn_then (w_seq (w_seq (w_reg ?_))))
 refine wl_m (.tmp 1) (.int .i64 (q.s)) ?_
 cases hf0 : decide (q.s = 0) with
 | true =>
  have hf0p := of_decide_eq_true hf0
  refine wl_b .eql 3 (.tmp 8) (.const (.int .i64 (0))) (.int .i64 (q.s)) (.int .i64 (0)) (.bool true) (eq3 hf0 _ _ _) ?_
  refine w_nil (xn_then (w_condT rfl (w_seq (w_reg ?_))))
  refine wl_m (.const (.string ⟨#[]⟩)) (.string ⟨#[]⟩) ?_
  refine w_nil (xn_then (w_ret (xr_then ?_)))
  exact w_ret1 _ (.string ⟨#[]⟩) rfl rfl ⟨congrArg (fun v => Ending.returned (.string v)) (txW_0 hf0p).symm, M⟩
 | false =>
  have hf0p := of_decide_eq_false hf0
  refine wl_b .eql 3 (.tmp 8) (.const (.int .i64 (0))) (.int .i64 (q.s)) (.int .i64 (0)) (.bool false) (eq3 hf0 _ _ _) ?_
  refine w_nil (xn_then (w_condF rfl (w_skip (xn_then (w_seq ?_)))))
  obtain ⟨hsn, hs0, hs1, hsi⟩ := ck_0 hck
  obtain ⟨y, hy⟩ := get_of_lt (show q.s.toNat < L.length by omega)
  have hmy := List.mem_of_getElem? hy
  have hly := lt_of_get hy
  obtain ⟨bp, op, hpp, hRp⟩ := D.SL.rw hL.sl hy
  have hdy := dp_at hsn hy
  obtain ⟨pp, hpp9, hpp0, hpp1, hpd, hd2, hd4⟩ := pr_at hsn hy (show q.s.toNat ≠ 0 by omega)
  rw [dpA_at hy] at hag
  have hidy := hag y.dp hd2 (Int.le_refl _)
  have hib := id_bd hck hf0p
  have hit := itz hck hf0p
  rw [id_v hck hf0p hy] at hib hit
  have hpc := par_ck hck hf0p
  have hny := hL.nm y hmy
  obtain ⟨c1, c2, c3, c4⟩ := szc' (txW_bd hL.nm hpc) hny hit
  have hpar : (parU L q).s = y.pr := prA_at hy
  have hrc : ∀ (w' : World), LL w' pl L → TB w' → Calls Tryd.prog 34 #[.slice pl L.length cl, .int .i64 y.pr, .agg #[.int .i64 a, .int .i64 b, .int .i64 c]] w' fun e9 w'' => e9 = .returned (.string (txW L (parU L q))) ∧ Mw w' w'' := fun w' a1 a2 => by have h9 := hrec (parU L q) (by rw [hpar]; omega) w' a1 a2 hpc (by rw [hpar, dpA_at hpp9, show pp.dp = y.dp - 1 by omega]; exact agr_up hck hy hag); rw [hpar] at h9; exact h9
  refine w_reg ?_
  refine wl_m (.tmp 0) (.slice pl L.length cl) ?_
  refine wl_m (.tmp 1) (.int .i64 (q.s)) ?_
  cases hf1 : decide (y.dp = 2) with
  | true =>
   have hf1p := of_decide_eq_true hf1
   refine wl_call 29 [(.tmp 10), (.tmp 11)] _ [.slice pl L.length cl, .int .i64 (q.s)] (.int .i64 (0)) rfl rfl (fun _ _ => by kernel_rfl) (wk (cR (congrArg (Value.int .i64) (by omega)) (pown_n _ (hL.mw M) hs0 hy (by omega) (by omega)))) rfl ?_
   intro u2 hq
   replace Q1 := Q1.mo hq
   replace M := M.trans hq
   clear hq
   refine wl_bin (fun x y => Instr.indexAt 23 x y) (.tmp 5) (.tmp 12) (pt k1 0) (.int .i64 (0)) (pt k1 0) (fun _ => rfl) rfl rfl (by kernel_rfl) rfl ?_
   refine wl_l 2 (.tmp 13) (pt k1 0) (.int .i64 (a)) (run_one Q1 2 0 rfl Tryd.underlying2 rfl) ?_
   have hidz : idR y.dp q = a := by rw [← hidy, hf1p]; rfl
   refine wl_call 35 [(.tmp 14), (.const (.int .i64 (10)))] _ [.int .i64 (a), .int .i64 (10)] (.string (⟨(Lib.itoa (idR y.dp q)).toArray⟩)) rfl rfl (fun _ _ => by kernel_rfl) (cRw (congrArg Value.string (by rw [hidz])) (fmt_n (n := a) (by omega) (by omega) (hTb.mw M))) rfl ?_
   intro u3 hq
   replace Q1 := Q1.mo hq
   replace M := M.trans hq
   clear hq
   refine wl_m (.tmp 15) (.string (⟨(Lib.itoa (idR y.dp q)).toArray⟩)) ?_
   refine w_nil (xn_then (w_seq ?_))
   refine w_any 17 [.inl (.slice pl L.length cl), .inl (.slice pl L.length cl), .inl (.int .i64 (q.s)), .inl (pt bp (op + q.s.toNat * 5)), .inl (pt bp (op + q.s.toNat * 5)), .inl (.int .i64 (y.pr)), .inl (.agg #[.int .i64 a, .int .i64 b, .int .i64 c]), .inl (.string (txW L (parU L q))), .inl (.string (catB (txW L (parU L q)) ⟨#[47]⟩)), .inl (.slice pl L.length cl), .inl (.int .i64 (q.s)), .inl (pt bp (op + q.s.toNat * 5)), .inl (pt bp (op + q.s.toNat * 5 + 2)), .inl (.string y.nm), .inl (.string (catB (catB (txW L (parU L q)) ⟨#[47]⟩) y.nm)), .inl (.string (catB (catB (catB (txW L (parU L q)) ⟨#[47]⟩) y.nm) ⟨#[58]⟩)), .inl (.string (⟨(Lib.itoa (idR y.dp q)).toArray⟩))] [] (by kernel_rfl) (by kernel_rfl) (by kernel_rfl) (by kernel_rfl) rfl (by kernel_rfl) (by kernel_rfl) late_nil ?_ ?_ ?_
   ·exact Ds.none rfl
   ·refine ea_cons ?_ (ea_cons ?_ (ea_cons ?_ (ea_cons ?_ (ea_cons ?_ (ea_cons ?_ (ea_cons ?_ (ea_cons ?_ (ea_cons ?_ (ea_cons ?_ (ea_cons ?_ (ea_cons ?_ (ea_cons ?_ (ea_cons ?_ (ea_cons ?_ (ea_cons ?_ (ea_cons ?_ (ea_nil)))))))))))))))))
    ·exact og_eq _ rfl (fun f wf hq hd K hK => go_run rfl (wo_mv (.tmp 0) (.slice pl L.length cl) (fun _ => rfl) rfl (hK _ (Mw.refl _))))
    ·exact og_eq _ rfl (fun f wf hq hd K hK => go_run rfl (wo_mv (.tmp 0) (.slice pl L.length cl) (fun _ => rfl) rfl (hK _ (Mw.refl _))))
    ·exact og_eq _ rfl (fun f wf hq hd K hK => go_run rfl (wo_mv (.tmp 1) (.int .i64 (q.s)) (fun _ => rfl) rfl (hK _ (Mw.refl _))))
    ·exact og_eq _ rfl (fun f wf hq hd K hK => go_run rfl (wo_bin (fun x y => Instr.indexAt 22 x y) (.tmp 17) (.tmp 18) (.slice pl L.length cl) (.int .i64 (q.s)) (pt bp (op + q.s.toNat * 5)) (fun _ => rfl) (hd 1 rfl) (hd 2 rfl) (ix22I hs0 hpp hly _) (hK _ (Mw.refl _))))
    ·exact og_eq _ rfl (fun f wf hq hd K hK => go_run rfl (wo_un (fun v => Instr.fieldAt 65 v 0) (.tmp 19) (pt bp (op + q.s.toNat * 5)) (pt bp (op + q.s.toNat * 5)) (fun _ => rfl) (hd 3 rfl) (by kernel_rfl) (hK _ (Mw.refl _))))
    ·exact og_eq _ rfl (fun f wf hq hd K hK => go_run rfl (wo_load 3 (.tmp 20) (pt bp (op + q.s.toNat * 5)) (.int .i64 (y.pr)) rfl (hd 4 rfl) (D.run_oneR (hRp.mw (M.trans hq)).at' 3 0 rfl Tryd.underlying3 rfl) (hK _ (Mw.refl _))))
    ·exact og_eq _ rfl (fun f wf hq hd K hK => have Q1 := Q1.mo hq; go_run rfl (wo_load 23 (.tmp 5) (pt k1 0) (.agg #[.int .i64 a, .int .i64 b, .int .i64 c]) rfl rfl (run_row Q1 23 0 3 _ rfl Tryd.underlying23 rfl sz23) (hK _ (Mw.refl _))))
    ·exact og_eq _ rfl (fun f wf hq hd K hK => go_run rfl (wo_call 34 [(.tmp 16), (.tmp 21), (.tmp 22)] _ [.slice pl L.length cl, .int .i64 (y.pr), .agg #[.int .i64 a, .int .i64 b, .int .i64 c]] (.string (txW L (parU L q))) rfl (li3 (hd 0 rfl) (hd 5 rfl) (hd 6 rfl)) (fun _ _ => by kernel_rfl) (hrc _ (hL.mw (M.trans hq)) (hTb.mw (M.trans hq))) hK))
    ·exact og_eq _ rfl (fun f wf hq hd K hK => go_run rfl (wo_bin (fun x y => do eqGuard .add 9 (.tmp 23) (.const (.string ⟨#[47]⟩)) x y; binOp .add 9 x y) (.tmp 23) (.const (.string ⟨#[47]⟩)) (.string (txW L (parU L q))) (.string ⟨#[47]⟩) (.string (catB (txW L (parU L q)) ⟨#[47]⟩)) (fun _ => rfl) (hd 7 rfl) rfl (catc c1 _ _ _) (hK _ (Mw.refl _))))
    ·exact og_eq _ rfl (fun f wf hq hd K hK => go_run rfl (wo_mv (.tmp 0) (.slice pl L.length cl) (fun _ => rfl) rfl (hK _ (Mw.refl _))))
    ·exact og_eq _ rfl (fun f wf hq hd K hK => go_run rfl (wo_mv (.tmp 1) (.int .i64 (q.s)) (fun _ => rfl) rfl (hK _ (Mw.refl _))))
    ·exact og_eq _ rfl (fun f wf hq hd K hK => go_run rfl (wo_bin (fun x y => Instr.indexAt 22 x y) (.tmp 25) (.tmp 26) (.slice pl L.length cl) (.int .i64 (q.s)) (pt bp (op + q.s.toNat * 5)) (fun _ => rfl) (hd 9 rfl) (hd 10 rfl) (ix22I hs0 hpp hly _) (hK _ (Mw.refl _))))
    ·exact og_eq _ rfl (fun f wf hq hd K hK => go_run rfl (wo_un (fun v => Instr.fieldAt 65 v 2) (.tmp 27) (pt bp (op + q.s.toNat * 5)) (pt bp (op + q.s.toNat * 5 + 2)) (fun _ => rfl) (hd 11 rfl) (by kernel_rfl) (hK _ (Mw.refl _))))
    ·exact og_eq _ rfl (fun f wf hq hd K hK => go_run rfl (wo_load 9 (.tmp 28) (pt bp (op + q.s.toNat * 5 + 2)) (.string y.nm) rfl (hd 12 rfl) (D.run_oneR (hRp.mw (M.trans hq)).at' 9 2 rfl Tryd.underlying9 rfl) (hK _ (Mw.refl _))))
    ·exact og_eq _ rfl (fun f wf hq hd K hK => go_run rfl (wo_bin (fun x y => do eqGuard .add 9 (.tmp 24) (.tmp 29) x y; binOp .add 9 x y) (.tmp 24) (.tmp 29) (.string (catB (txW L (parU L q)) ⟨#[47]⟩)) (.string y.nm) (.string (catB (catB (txW L (parU L q)) ⟨#[47]⟩) y.nm)) (fun _ => rfl) (hd 8 rfl) (hd 13 rfl) (catc c2 _ _ _) (hK _ (Mw.refl _))))
    ·exact og_eq _ rfl (fun f wf hq hd K hK => go_run rfl (wo_bin (fun x y => do eqGuard .add 9 (.tmp 30) (.const (.string ⟨#[58]⟩)) x y; binOp .add 9 x y) (.tmp 30) (.const (.string ⟨#[58]⟩)) (.string (catB (catB (txW L (parU L q)) ⟨#[47]⟩) y.nm)) (.string ⟨#[58]⟩) (.string (catB (catB (catB (txW L (parU L q)) ⟨#[47]⟩) y.nm) ⟨#[58]⟩)) (fun _ => rfl) (hd 14 rfl) rfl (catc c3 _ _ _) (hK _ (Mw.refl _))))
    ·exact og_eq _ rfl (fun f wf hq hd K hK => go_run rfl (wo_mv (.tmp 7) (.string (⟨(Lib.itoa (idR y.dp q)).toArray⟩)) (fun _ => rfl) rfl (hK _ (Mw.refl _))))
   intro kf4 u4 hq hR hne
   replace Q1 := Q1.mo hq
   replace M := M.trans hq
   clear hq hR hne
   refine wl_b .add 9 (.tmp 31) (.tmp 32) (.string (catB (catB (catB (txW L (parU L q)) ⟨#[47]⟩) y.nm) ⟨#[58]⟩)) (.string (⟨(Lib.itoa (idR y.dp q)).toArray⟩)) (.string (catB (catB (catB (catB (txW L (parU L q)) ⟨#[47]⟩) y.nm) ⟨#[58]⟩) ⟨(Lib.itoa (idR y.dp q)).toArray⟩)) (catc c4 _ _ _) ?_
   refine wl_m (.tmp 33) (.string (catB (catB (catB (catB (txW L (parU L q)) ⟨#[47]⟩) y.nm) ⟨#[58]⟩) ⟨(Lib.itoa (idR y.dp q)).toArray⟩)) ?_
   refine w_nil (xn_then (w_ret ?_))
   exact w_ret1 _ (.string (catB (catB (catB (catB (txW L (parU L q)) ⟨#[47]⟩) y.nm) ⟨#[58]⟩) ⟨(Lib.itoa (idR y.dp q)).toArray⟩)) rfl rfl ⟨congrArg (fun v => Ending.returned (.string v)) (txW_cat hck hf0p hy).symm, M⟩
  | false =>
   have hf1p := of_decide_eq_false hf1
   cases hf2 : decide (y.dp = 3) with
   | true =>
    have hf2p := of_decide_eq_true hf2
    refine wl_call 29 [(.tmp 10), (.tmp 11)] _ [.slice pl L.length cl, .int .i64 (q.s)] (.int .i64 (1)) rfl rfl (fun _ _ => by kernel_rfl) (wk (cR (congrArg (Value.int .i64) (by omega)) (pown_n _ (hL.mw M) hs0 hy (by omega) (by omega)))) rfl ?_
    intro u2 hq
    replace Q1 := Q1.mo hq
    replace M := M.trans hq
    clear hq
    refine wl_bin (fun x y => Instr.indexAt 23 x y) (.tmp 5) (.tmp 12) (pt k1 0) (.int .i64 (1)) (pt k1 1) (fun _ => rfl) rfl rfl (by kernel_rfl) rfl ?_
    refine wl_l 2 (.tmp 13) (pt k1 1) (.int .i64 (b)) (run_one Q1 2 1 rfl Tryd.underlying2 rfl) ?_
    have hidz : idR y.dp q = b := by rw [← hidy, hf2p]; rfl
    refine wl_call 35 [(.tmp 14), (.const (.int .i64 (10)))] _ [.int .i64 (b), .int .i64 (10)] (.string (⟨(Lib.itoa (idR y.dp q)).toArray⟩)) rfl rfl (fun _ _ => by kernel_rfl) (cRw (congrArg Value.string (by rw [hidz])) (fmt_n (n := b) (by omega) (by omega) (hTb.mw M))) rfl ?_
    intro u3 hq
    replace Q1 := Q1.mo hq
    replace M := M.trans hq
    clear hq
    refine wl_m (.tmp 15) (.string (⟨(Lib.itoa (idR y.dp q)).toArray⟩)) ?_
    refine w_nil (xn_then (w_seq ?_))
    refine w_any 17 [.inl (.slice pl L.length cl), .inl (.slice pl L.length cl), .inl (.int .i64 (q.s)), .inl (pt bp (op + q.s.toNat * 5)), .inl (pt bp (op + q.s.toNat * 5)), .inl (.int .i64 (y.pr)), .inl (.agg #[.int .i64 a, .int .i64 b, .int .i64 c]), .inl (.string (txW L (parU L q))), .inl (.string (catB (txW L (parU L q)) ⟨#[47]⟩)), .inl (.slice pl L.length cl), .inl (.int .i64 (q.s)), .inl (pt bp (op + q.s.toNat * 5)), .inl (pt bp (op + q.s.toNat * 5 + 2)), .inl (.string y.nm), .inl (.string (catB (catB (txW L (parU L q)) ⟨#[47]⟩) y.nm)), .inl (.string (catB (catB (catB (txW L (parU L q)) ⟨#[47]⟩) y.nm) ⟨#[58]⟩)), .inl (.string (⟨(Lib.itoa (idR y.dp q)).toArray⟩))] [] (by kernel_rfl) (by kernel_rfl) (by kernel_rfl) (by kernel_rfl) rfl (by kernel_rfl) (by kernel_rfl) late_nil ?_ ?_ ?_
    ·exact Ds.none rfl
    ·refine ea_cons ?_ (ea_cons ?_ (ea_cons ?_ (ea_cons ?_ (ea_cons ?_ (ea_cons ?_ (ea_cons ?_ (ea_cons ?_ (ea_cons ?_ (ea_cons ?_ (ea_cons ?_ (ea_cons ?_ (ea_cons ?_ (ea_cons ?_ (ea_cons ?_ (ea_cons ?_ (ea_cons ?_ (ea_nil)))))))))))))))))
     ·exact og_eq _ rfl (fun f wf hq hd K hK => go_run rfl (wo_mv (.tmp 0) (.slice pl L.length cl) (fun _ => rfl) rfl (hK _ (Mw.refl _))))
     ·exact og_eq _ rfl (fun f wf hq hd K hK => go_run rfl (wo_mv (.tmp 0) (.slice pl L.length cl) (fun _ => rfl) rfl (hK _ (Mw.refl _))))
     ·exact og_eq _ rfl (fun f wf hq hd K hK => go_run rfl (wo_mv (.tmp 1) (.int .i64 (q.s)) (fun _ => rfl) rfl (hK _ (Mw.refl _))))
     ·exact og_eq _ rfl (fun f wf hq hd K hK => go_run rfl (wo_bin (fun x y => Instr.indexAt 22 x y) (.tmp 17) (.tmp 18) (.slice pl L.length cl) (.int .i64 (q.s)) (pt bp (op + q.s.toNat * 5)) (fun _ => rfl) (hd 1 rfl) (hd 2 rfl) (ix22I hs0 hpp hly _) (hK _ (Mw.refl _))))
     ·exact og_eq _ rfl (fun f wf hq hd K hK => go_run rfl (wo_un (fun v => Instr.fieldAt 65 v 0) (.tmp 19) (pt bp (op + q.s.toNat * 5)) (pt bp (op + q.s.toNat * 5)) (fun _ => rfl) (hd 3 rfl) (by kernel_rfl) (hK _ (Mw.refl _))))
     ·exact og_eq _ rfl (fun f wf hq hd K hK => go_run rfl (wo_load 3 (.tmp 20) (pt bp (op + q.s.toNat * 5)) (.int .i64 (y.pr)) rfl (hd 4 rfl) (D.run_oneR (hRp.mw (M.trans hq)).at' 3 0 rfl Tryd.underlying3 rfl) (hK _ (Mw.refl _))))
     ·exact og_eq _ rfl (fun f wf hq hd K hK => have Q1 := Q1.mo hq; go_run rfl (wo_load 23 (.tmp 5) (pt k1 0) (.agg #[.int .i64 a, .int .i64 b, .int .i64 c]) rfl rfl (run_row Q1 23 0 3 _ rfl Tryd.underlying23 rfl sz23) (hK _ (Mw.refl _))))
     ·exact og_eq _ rfl (fun f wf hq hd K hK => go_run rfl (wo_call 34 [(.tmp 16), (.tmp 21), (.tmp 22)] _ [.slice pl L.length cl, .int .i64 (y.pr), .agg #[.int .i64 a, .int .i64 b, .int .i64 c]] (.string (txW L (parU L q))) rfl (li3 (hd 0 rfl) (hd 5 rfl) (hd 6 rfl)) (fun _ _ => by kernel_rfl) (hrc _ (hL.mw (M.trans hq)) (hTb.mw (M.trans hq))) hK))
     ·exact og_eq _ rfl (fun f wf hq hd K hK => go_run rfl (wo_bin (fun x y => do eqGuard .add 9 (.tmp 23) (.const (.string ⟨#[47]⟩)) x y; binOp .add 9 x y) (.tmp 23) (.const (.string ⟨#[47]⟩)) (.string (txW L (parU L q))) (.string ⟨#[47]⟩) (.string (catB (txW L (parU L q)) ⟨#[47]⟩)) (fun _ => rfl) (hd 7 rfl) rfl (catc c1 _ _ _) (hK _ (Mw.refl _))))
     ·exact og_eq _ rfl (fun f wf hq hd K hK => go_run rfl (wo_mv (.tmp 0) (.slice pl L.length cl) (fun _ => rfl) rfl (hK _ (Mw.refl _))))
     ·exact og_eq _ rfl (fun f wf hq hd K hK => go_run rfl (wo_mv (.tmp 1) (.int .i64 (q.s)) (fun _ => rfl) rfl (hK _ (Mw.refl _))))
     ·exact og_eq _ rfl (fun f wf hq hd K hK => go_run rfl (wo_bin (fun x y => Instr.indexAt 22 x y) (.tmp 25) (.tmp 26) (.slice pl L.length cl) (.int .i64 (q.s)) (pt bp (op + q.s.toNat * 5)) (fun _ => rfl) (hd 9 rfl) (hd 10 rfl) (ix22I hs0 hpp hly _) (hK _ (Mw.refl _))))
     ·exact og_eq _ rfl (fun f wf hq hd K hK => go_run rfl (wo_un (fun v => Instr.fieldAt 65 v 2) (.tmp 27) (pt bp (op + q.s.toNat * 5)) (pt bp (op + q.s.toNat * 5 + 2)) (fun _ => rfl) (hd 11 rfl) (by kernel_rfl) (hK _ (Mw.refl _))))
     ·exact og_eq _ rfl (fun f wf hq hd K hK => go_run rfl (wo_load 9 (.tmp 28) (pt bp (op + q.s.toNat * 5 + 2)) (.string y.nm) rfl (hd 12 rfl) (D.run_oneR (hRp.mw (M.trans hq)).at' 9 2 rfl Tryd.underlying9 rfl) (hK _ (Mw.refl _))))
     ·exact og_eq _ rfl (fun f wf hq hd K hK => go_run rfl (wo_bin (fun x y => do eqGuard .add 9 (.tmp 24) (.tmp 29) x y; binOp .add 9 x y) (.tmp 24) (.tmp 29) (.string (catB (txW L (parU L q)) ⟨#[47]⟩)) (.string y.nm) (.string (catB (catB (txW L (parU L q)) ⟨#[47]⟩) y.nm)) (fun _ => rfl) (hd 8 rfl) (hd 13 rfl) (catc c2 _ _ _) (hK _ (Mw.refl _))))
     ·exact og_eq _ rfl (fun f wf hq hd K hK => go_run rfl (wo_bin (fun x y => do eqGuard .add 9 (.tmp 30) (.const (.string ⟨#[58]⟩)) x y; binOp .add 9 x y) (.tmp 30) (.const (.string ⟨#[58]⟩)) (.string (catB (catB (txW L (parU L q)) ⟨#[47]⟩) y.nm)) (.string ⟨#[58]⟩) (.string (catB (catB (catB (txW L (parU L q)) ⟨#[47]⟩) y.nm) ⟨#[58]⟩)) (fun _ => rfl) (hd 14 rfl) rfl (catc c3 _ _ _) (hK _ (Mw.refl _))))
     ·exact og_eq _ rfl (fun f wf hq hd K hK => go_run rfl (wo_mv (.tmp 7) (.string (⟨(Lib.itoa (idR y.dp q)).toArray⟩)) (fun _ => rfl) rfl (hK _ (Mw.refl _))))
    intro kf4 u4 hq hR hne
    replace Q1 := Q1.mo hq
    replace M := M.trans hq
    clear hq hR hne
    refine wl_b .add 9 (.tmp 31) (.tmp 32) (.string (catB (catB (catB (txW L (parU L q)) ⟨#[47]⟩) y.nm) ⟨#[58]⟩)) (.string (⟨(Lib.itoa (idR y.dp q)).toArray⟩)) (.string (catB (catB (catB (catB (txW L (parU L q)) ⟨#[47]⟩) y.nm) ⟨#[58]⟩) ⟨(Lib.itoa (idR y.dp q)).toArray⟩)) (catc c4 _ _ _) ?_
    refine wl_m (.tmp 33) (.string (catB (catB (catB (catB (txW L (parU L q)) ⟨#[47]⟩) y.nm) ⟨#[58]⟩) ⟨(Lib.itoa (idR y.dp q)).toArray⟩)) ?_
    refine w_nil (xn_then (w_ret ?_))
    exact w_ret1 _ (.string (catB (catB (catB (catB (txW L (parU L q)) ⟨#[47]⟩) y.nm) ⟨#[58]⟩) ⟨(Lib.itoa (idR y.dp q)).toArray⟩)) rfl rfl ⟨congrArg (fun v => Ending.returned (.string v)) (txW_cat hck hf0p hy).symm, M⟩
   | false =>
    have hf2p := of_decide_eq_false hf2
    refine wl_call 29 [(.tmp 10), (.tmp 11)] _ [.slice pl L.length cl, .int .i64 (q.s)] (.int .i64 (2)) rfl rfl (fun _ _ => by kernel_rfl) (wk (cR (congrArg (Value.int .i64) (by omega)) (pown_n _ (hL.mw M) hs0 hy (by omega) (by omega)))) rfl ?_
    intro u2 hq
    replace Q1 := Q1.mo hq
    replace M := M.trans hq
    clear hq
    refine wl_bin (fun x y => Instr.indexAt 23 x y) (.tmp 5) (.tmp 12) (pt k1 0) (.int .i64 (2)) (pt k1 2) (fun _ => rfl) rfl rfl (by kernel_rfl) rfl ?_
    refine wl_l 2 (.tmp 13) (pt k1 2) (.int .i64 (c)) (run_one Q1 2 2 rfl Tryd.underlying2 rfl) ?_
    have hidz : idR y.dp q = c := by rw [← hidy, (show y.dp = 4 by omega)]; rfl
    refine wl_call 35 [(.tmp 14), (.const (.int .i64 (10)))] _ [.int .i64 (c), .int .i64 (10)] (.string (⟨(Lib.itoa (idR y.dp q)).toArray⟩)) rfl rfl (fun _ _ => by kernel_rfl) (cRw (congrArg Value.string (by rw [hidz])) (fmt_n (n := c) (by omega) (by omega) (hTb.mw M))) rfl ?_
    intro u3 hq
    replace Q1 := Q1.mo hq
    replace M := M.trans hq
    clear hq
    refine wl_m (.tmp 15) (.string (⟨(Lib.itoa (idR y.dp q)).toArray⟩)) ?_
    refine w_nil (xn_then (w_seq ?_))
    refine w_any 17 [.inl (.slice pl L.length cl), .inl (.slice pl L.length cl), .inl (.int .i64 (q.s)), .inl (pt bp (op + q.s.toNat * 5)), .inl (pt bp (op + q.s.toNat * 5)), .inl (.int .i64 (y.pr)), .inl (.agg #[.int .i64 a, .int .i64 b, .int .i64 c]), .inl (.string (txW L (parU L q))), .inl (.string (catB (txW L (parU L q)) ⟨#[47]⟩)), .inl (.slice pl L.length cl), .inl (.int .i64 (q.s)), .inl (pt bp (op + q.s.toNat * 5)), .inl (pt bp (op + q.s.toNat * 5 + 2)), .inl (.string y.nm), .inl (.string (catB (catB (txW L (parU L q)) ⟨#[47]⟩) y.nm)), .inl (.string (catB (catB (catB (txW L (parU L q)) ⟨#[47]⟩) y.nm) ⟨#[58]⟩)), .inl (.string (⟨(Lib.itoa (idR y.dp q)).toArray⟩))] [] (by kernel_rfl) (by kernel_rfl) (by kernel_rfl) (by kernel_rfl) rfl (by kernel_rfl) (by kernel_rfl) late_nil ?_ ?_ ?_
    ·exact Ds.none rfl
    ·refine ea_cons ?_ (ea_cons ?_ (ea_cons ?_ (ea_cons ?_ (ea_cons ?_ (ea_cons ?_ (ea_cons ?_ (ea_cons ?_ (ea_cons ?_ (ea_cons ?_ (ea_cons ?_ (ea_cons ?_ (ea_cons ?_ (ea_cons ?_ (ea_cons ?_ (ea_cons ?_ (ea_cons ?_ (ea_nil)))))))))))))))))
     ·exact og_eq _ rfl (fun f wf hq hd K hK => go_run rfl (wo_mv (.tmp 0) (.slice pl L.length cl) (fun _ => rfl) rfl (hK _ (Mw.refl _))))
     ·exact og_eq _ rfl (fun f wf hq hd K hK => go_run rfl (wo_mv (.tmp 0) (.slice pl L.length cl) (fun _ => rfl) rfl (hK _ (Mw.refl _))))
     ·exact og_eq _ rfl (fun f wf hq hd K hK => go_run rfl (wo_mv (.tmp 1) (.int .i64 (q.s)) (fun _ => rfl) rfl (hK _ (Mw.refl _))))
     ·exact og_eq _ rfl (fun f wf hq hd K hK => go_run rfl (wo_bin (fun x y => Instr.indexAt 22 x y) (.tmp 17) (.tmp 18) (.slice pl L.length cl) (.int .i64 (q.s)) (pt bp (op + q.s.toNat * 5)) (fun _ => rfl) (hd 1 rfl) (hd 2 rfl) (ix22I hs0 hpp hly _) (hK _ (Mw.refl _))))
     ·exact og_eq _ rfl (fun f wf hq hd K hK => go_run rfl (wo_un (fun v => Instr.fieldAt 65 v 0) (.tmp 19) (pt bp (op + q.s.toNat * 5)) (pt bp (op + q.s.toNat * 5)) (fun _ => rfl) (hd 3 rfl) (by kernel_rfl) (hK _ (Mw.refl _))))
     ·exact og_eq _ rfl (fun f wf hq hd K hK => go_run rfl (wo_load 3 (.tmp 20) (pt bp (op + q.s.toNat * 5)) (.int .i64 (y.pr)) rfl (hd 4 rfl) (D.run_oneR (hRp.mw (M.trans hq)).at' 3 0 rfl Tryd.underlying3 rfl) (hK _ (Mw.refl _))))
     ·exact og_eq _ rfl (fun f wf hq hd K hK => have Q1 := Q1.mo hq; go_run rfl (wo_load 23 (.tmp 5) (pt k1 0) (.agg #[.int .i64 a, .int .i64 b, .int .i64 c]) rfl rfl (run_row Q1 23 0 3 _ rfl Tryd.underlying23 rfl sz23) (hK _ (Mw.refl _))))
     ·exact og_eq _ rfl (fun f wf hq hd K hK => go_run rfl (wo_call 34 [(.tmp 16), (.tmp 21), (.tmp 22)] _ [.slice pl L.length cl, .int .i64 (y.pr), .agg #[.int .i64 a, .int .i64 b, .int .i64 c]] (.string (txW L (parU L q))) rfl (li3 (hd 0 rfl) (hd 5 rfl) (hd 6 rfl)) (fun _ _ => by kernel_rfl) (hrc _ (hL.mw (M.trans hq)) (hTb.mw (M.trans hq))) hK))
     ·exact og_eq _ rfl (fun f wf hq hd K hK => go_run rfl (wo_bin (fun x y => do eqGuard .add 9 (.tmp 23) (.const (.string ⟨#[47]⟩)) x y; binOp .add 9 x y) (.tmp 23) (.const (.string ⟨#[47]⟩)) (.string (txW L (parU L q))) (.string ⟨#[47]⟩) (.string (catB (txW L (parU L q)) ⟨#[47]⟩)) (fun _ => rfl) (hd 7 rfl) rfl (catc c1 _ _ _) (hK _ (Mw.refl _))))
     ·exact og_eq _ rfl (fun f wf hq hd K hK => go_run rfl (wo_mv (.tmp 0) (.slice pl L.length cl) (fun _ => rfl) rfl (hK _ (Mw.refl _))))
     ·exact og_eq _ rfl (fun f wf hq hd K hK => go_run rfl (wo_mv (.tmp 1) (.int .i64 (q.s)) (fun _ => rfl) rfl (hK _ (Mw.refl _))))
     ·exact og_eq _ rfl (fun f wf hq hd K hK => go_run rfl (wo_bin (fun x y => Instr.indexAt 22 x y) (.tmp 25) (.tmp 26) (.slice pl L.length cl) (.int .i64 (q.s)) (pt bp (op + q.s.toNat * 5)) (fun _ => rfl) (hd 9 rfl) (hd 10 rfl) (ix22I hs0 hpp hly _) (hK _ (Mw.refl _))))
     ·exact og_eq _ rfl (fun f wf hq hd K hK => go_run rfl (wo_un (fun v => Instr.fieldAt 65 v 2) (.tmp 27) (pt bp (op + q.s.toNat * 5)) (pt bp (op + q.s.toNat * 5 + 2)) (fun _ => rfl) (hd 11 rfl) (by kernel_rfl) (hK _ (Mw.refl _))))
     ·exact og_eq _ rfl (fun f wf hq hd K hK => go_run rfl (wo_load 9 (.tmp 28) (pt bp (op + q.s.toNat * 5 + 2)) (.string y.nm) rfl (hd 12 rfl) (D.run_oneR (hRp.mw (M.trans hq)).at' 9 2 rfl Tryd.underlying9 rfl) (hK _ (Mw.refl _))))
     ·exact og_eq _ rfl (fun f wf hq hd K hK => go_run rfl (wo_bin (fun x y => do eqGuard .add 9 (.tmp 24) (.tmp 29) x y; binOp .add 9 x y) (.tmp 24) (.tmp 29) (.string (catB (txW L (parU L q)) ⟨#[47]⟩)) (.string y.nm) (.string (catB (catB (txW L (parU L q)) ⟨#[47]⟩) y.nm)) (fun _ => rfl) (hd 8 rfl) (hd 13 rfl) (catc c2 _ _ _) (hK _ (Mw.refl _))))
     ·exact og_eq _ rfl (fun f wf hq hd K hK => go_run rfl (wo_bin (fun x y => do eqGuard .add 9 (.tmp 30) (.const (.string ⟨#[58]⟩)) x y; binOp .add 9 x y) (.tmp 30) (.const (.string ⟨#[58]⟩)) (.string (catB (catB (txW L (parU L q)) ⟨#[47]⟩) y.nm)) (.string ⟨#[58]⟩) (.string (catB (catB (catB (txW L (parU L q)) ⟨#[47]⟩) y.nm) ⟨#[58]⟩)) (fun _ => rfl) (hd 14 rfl) rfl (catc c3 _ _ _) (hK _ (Mw.refl _))))
     ·exact og_eq _ rfl (fun f wf hq hd K hK => go_run rfl (wo_mv (.tmp 7) (.string (⟨(Lib.itoa (idR y.dp q)).toArray⟩)) (fun _ => rfl) rfl (hK _ (Mw.refl _))))
    intro kf4 u4 hq hR hne
    replace Q1 := Q1.mo hq
    replace M := M.trans hq
    clear hq hR hne
    refine wl_b .add 9 (.tmp 31) (.tmp 32) (.string (catB (catB (catB (txW L (parU L q)) ⟨#[47]⟩) y.nm) ⟨#[58]⟩)) (.string (⟨(Lib.itoa (idR y.dp q)).toArray⟩)) (.string (catB (catB (catB (catB (txW L (parU L q)) ⟨#[47]⟩) y.nm) ⟨#[58]⟩) ⟨(Lib.itoa (idR y.dp q)).toArray⟩)) (catc c4 _ _ _) ?_
    refine wl_m (.tmp 33) (.string (catB (catB (catB (catB (txW L (parU L q)) ⟨#[47]⟩) y.nm) ⟨#[58]⟩) ⟨(Lib.itoa (idR y.dp q)).toArray⟩)) ?_
    refine w_nil (xn_then (w_ret ?_))
    exact w_ret1 _ (.string (catB (catB (catB (catB (txW L (parU L q)) ⟨#[47]⟩) y.nm) ⟨#[58]⟩) ⟨(Lib.itoa (idR y.dp q)).toArray⟩)) rfl rfl ⟨congrArg (fun v => Ending.returned (.string v)) (txW_cat hck hf0p hy).symm, M⟩
theorem pspl_n {L : List S5} {pl : Option Addr} {cl : Nat} {a b c : Int} : ∀ (n : Nat) (q : Ro), q.s.toNat < n → ∀ (w : World), LL w pl L → TB w → ckR L q = 0 → agr (dpA L q.s.toNat) ⟨0, a, b, c⟩ q → Calls Tryd.prog 34 #[.slice pl L.length cl, .int .i64 q.s, .agg #[.int .i64 a, .int .i64 b, .int .i64 c]] w fun e9 w' => e9 = .returned (.string (txW L q)) ∧ Mw w w'
 | 0, q, h, _, _, _, _, _ => absurd h (Nat.not_lt_zero _)
 | n + 1, q, h, w, hL, hTb, hck, hag => pspl_s (fun q' hq => pspl_n n q' (by omega)) w hL hTb hck hag
theorem ptxt_n {L : List S5} {pl : Option Addr} {cl : Nat} {r : Ro} (w : World) (hL : LL w pl L) (hcl : L.length ≤ cl) (hTb : TB w) : Calls Tryd.prog 16 #[.slice pl L.length cl, r.v] w fun e9 w' => e9 = .returned (.string (txR L r)) ∧ Mw w w' := by
 refine w_enter 18 Tryd.func16 Tryd.ntmps16 rfl rfl ?_
 have M : Mw w w := Mw.refl _
 refine w_seq (w_reg ?_)
 refine wl_box 25 (.tmp 1) _ (((r.cells).toArray)) rfl rfl (fun _ => by kernel_rfl) rfl ?_
 intro k1 u1 hk hz hq Q1
 have N_k1 : w.heap.size ≤ k1 := by have := M.size; omega
 replace M := M.trans hq
 clear hk hz hq
 refine wl_m (.const (.string ⟨#[]⟩)) (.string ⟨#[]⟩) ?_
 refine w_nil (xn_then (w_seq (w_seq (w_reg ?_))))
 refine wl_m (.tmp 0) (.slice pl L.length cl) ?_
 refine wl_l 25 (.tmp 3) (pt k1 0) (.agg (r.cells).toArray) (run_row Q1 25 0 4 (r.cells) rfl Tryd.underlying25 rfl sz25) ?_
 refine wl_call 10 [(.tmp 5), (.tmp 6)] _ [.slice pl L.length cl, .agg (r.cells).toArray] (.int .i64 (ckR L r)) rfl rfl (fun _ _ => by kernel_rfl) (wk (pck_n _ (hL.mw M) hcl)) rfl ?_
 intro u2 hq
 replace Q1 := Q1.mo hq
 replace M := M.trans hq
 clear hq
 cases hf0 : decide (ckR L r = 0) with
 | true =>
  have hf0p := of_decide_eq_true hf0
  refine wl_b .neq 31 (.tmp 7) (.const (.int .i64 (0))) (.int .i64 (ckR L r)) (.int .i64 (0)) (.bool false) (ne34 hf0 _ _ _) ?_
  refine w_nil (xn_then (w_condF rfl (w_skip (xn_then (w_seq (w_seq (w_reg ?_)))))))
  refine wl_f 25 0 (.tmp 3) (pt k1 0) (pt k1 0) ?_
  refine wl_l 3 (.tmp 9) (pt k1 0) (.int .i64 (r.s)) (run_one Q1 3 0 rfl Tryd.underlying3 rfl) ?_
  cases hf1 : decide (r.s = 0) with
  | true =>
   have hf1p := of_decide_eq_true hf1
   refine wl_b .eql 3 (.tmp 10) (.const (.int .i64 (0))) (.int .i64 (r.s)) (.int .i64 (0)) (.bool true) (eq3 hf1 _ _ _) ?_
   refine w_nil (xn_then (w_condT rfl (w_seq (w_reg ?_))))
   refine wl_m (.const (.string ⟨#[47]⟩)) (.string ⟨#[47]⟩) ?_
   refine w_nil (xn_then (w_ret (xr_then ?_)))
   exact w_ret1 _ (.string ⟨#[47]⟩) rfl rfl ⟨congrArg (fun v => Ending.returned (.string v)) (by unfold txR; rw [if_pos hf0p, if_pos (txW_0 hf1p)]), M⟩
  | false =>
   have hf1p := of_decide_eq_false hf1
   refine wl_b .eql 3 (.tmp 10) (.const (.int .i64 (0))) (.int .i64 (r.s)) (.int .i64 (0)) (.bool false) (eq3 hf1 _ _ _) ?_
   refine w_nil (xn_then (w_condF rfl (w_skip (xn_then (w_seq (w_reg ?_))))))
   refine wl_m (.tmp 0) (.slice pl L.length cl) ?_
   refine wl_f 25 0 (.tmp 3) (pt k1 0) (pt k1 0) ?_
   refine wl_l 3 (.tmp 13) (pt k1 0) (.int .i64 (r.s)) (run_one Q1 3 0 rfl Tryd.underlying3 rfl) ?_
   refine wl_f 25 1 (.tmp 3) (pt k1 0) (pt k1 1) ?_
   refine wl_l 23 (.tmp 15) (pt k1 1) (.agg #[.int .i64 r.a, .int .i64 r.b, .int .i64 r.c]) (run_row Q1 23 1 3 _ rfl Tryd.underlying23 rfl sz23) ?_
   refine wl_call 34 [(.tmp 12), (.tmp 14), (.tmp 16)] _ [.slice pl L.length cl, .int .i64 (r.s), .agg #[.int .i64 r.a, .int .i64 r.b, .int .i64 r.c]] (.string (txW L r)) rfl rfl (fun _ _ => by kernel_rfl) (pspl_n (r.s.toNat + 1) r (by omega) _ (hL.mw M) (hTb.mw M) hf0p (fun _ _ _ => rfl)) rfl ?_
   intro u3 hq
   replace Q1 := Q1.mo hq
   replace M := M.trans hq
   clear hq
   refine wl_m (.tmp 17) (.string (txW L r)) ?_
   refine w_nil (xn_then (w_ret ?_))
   exact w_ret1 _ (.string (txW L r)) rfl rfl ⟨congrArg (fun v => Ending.returned (.string v)) (by unfold txR; rw [if_pos hf0p, if_neg (txW_ne hf0p hf1p)]), M⟩
 | false =>
  have hf0p := of_decide_eq_false hf0
  refine wl_b .neq 31 (.tmp 7) (.const (.int .i64 (0))) (.int .i64 (ckR L r)) (.int .i64 (0)) (.bool true) (ne34 hf0 _ _ _) ?_
  refine w_nil (xn_then (w_condT rfl (w_seq (w_reg ?_))))
  refine wl_m (.const (.string ⟨#[63]⟩)) (.string ⟨#[63]⟩) ?_
  refine w_nil (xn_then (w_ret (xr_then ?_)))
  exact w_ret1 _ (.string ⟨#[63]⟩) rfl rfl ⟨congrArg (fun v => Ending.returned (.string v)) (by unfold txR; rw [if_neg hf0p]), M⟩
theorem pctx_n {L : List S5} {pl : Option Addr} {cl : Nat} {c : Ce} (w : World) (hL : LL w pl L) (hcl : L.length ≤ cl) (hTb : TB w) : Calls Tryd.prog 18 #[.slice pl L.length cl, c.v] w fun e9 w' => e9 = .returned (.string (txC L c)) ∧ Mw w w' := by
 refine w_enter 27 Tryd.func18 Tryd.ntmps18 rfl rfl ?_
 have M : Mw w w := Mw.refl _
 refine w_seq (w_reg ?_)
 refine wl_box 27 (.tmp 1) _ (((c.cells).toArray)) rfl rfl (fun _ => by kernel_rfl) rfl ?_
 intro k1 u1 hk hz hq Q1
 have N_k1 : w.heap.size ≤ k1 := by have := M.size; omega
 replace M := M.trans hq
 clear hk hz hq
 refine wl_m (.const (.string ⟨#[]⟩)) (.string ⟨#[]⟩) ?_
 refine w_nil (xn_then (w_seq (w_seq (w_reg ?_))))
 refine wl_m (.tmp 0) (.slice pl L.length cl) ?_
 refine wl_l 27 (.tmp 3) (pt k1 0) (.agg (c.cells).toArray) (run_row Q1 27 0 5 (c.cells) rfl Tryd.underlying27 rfl sz27) ?_
 refine wl_call 12 [(.tmp 5), (.tmp 6)] _ [.slice pl L.length cl, .agg (c.cells).toArray] (.int .i64 (ckC L c)) rfl rfl (fun _ _ => by kernel_rfl) (wk (pcc_n _ (hL.mw M) hcl)) rfl ?_
 intro u2 hq
 replace Q1 := Q1.mo hq
 replace M := M.trans hq
 clear hq
 cases hf0 : decide (ckC L c = 0) with
 | true =>
  have hf0p := of_decide_eq_true hf0
  refine wl_b .neq 31 (.tmp 7) (.const (.int .i64 (0))) (.int .i64 (ckC L c)) (.int .i64 (0)) (.bool false) (ne34 hf0 _ _ _) ?_
  refine w_nil (xn_then (w_condF rfl (w_skip (xn_then (w_seq ?_)))))
  obtain ⟨hck, hi0, y, zz, hy, hzz, hnm⟩ := cc_0 hf0p
  obtain ⟨_, hs0, hs1, _⟩ := ck_0 hck
  have hmy := List.mem_of_getElem? hy
  have hly := lt_of_get hy
  have hlz := lt_of_get hzz
  obtain ⟨bp, op, hpp, hRp⟩ := D.SL.rw hL.sl hy
  obtain ⟨bq, oq, hpq, hRq⟩ := D.SL.rw (hL.it y hmy) hzz
  obtain ⟨d1, d2⟩ := szd (b := zz.nm) (txR_bd hL.nm c.r) (hL.im y hmy zz (List.mem_of_getElem? hzz))
  refine w_any 17 [.inl (.slice pl L.length cl), .inl (pt k1 0), .inl (.agg (c.r.cells).toArray), .inl (.string (txR L c.r)), .inl (.string (catB (txR L c.r) ⟨#[46]⟩)), .inl (.slice pl L.length cl), .inl (pt k1 0), .inl (pt k1 0), .inl (.int .i64 (c.r.s)), .inl (pt bp (op + c.r.s.toNat * 5)), .inl (pt bp (op + c.r.s.toNat * 5 + 4)), .inl (.slice y.pi y.items.length y.ci), .inl (pt k1 4), .inl (.int .i64 (c.i)), .inl (pt bq (oq + c.i.toNat * 23)), .inl (pt bq (oq + c.i.toNat * 23)), .inl (.string zz.nm)] [] (by kernel_rfl) (by kernel_rfl) (by kernel_rfl) (by kernel_rfl) rfl (by kernel_rfl) (by kernel_rfl) late_nil ?_ ?_ ?_
  ·exact Ds.none rfl
  ·refine ea_cons ?_ (ea_cons ?_ (ea_cons ?_ (ea_cons ?_ (ea_cons ?_ (ea_cons ?_ (ea_cons ?_ (ea_cons ?_ (ea_cons ?_ (ea_cons ?_ (ea_cons ?_ (ea_cons ?_ (ea_cons ?_ (ea_cons ?_ (ea_cons ?_ (ea_cons ?_ (ea_cons ?_ (ea_nil)))))))))))))))))
   ·exact og_eq _ rfl (fun f wf hq hd K hK => go_run rfl (wo_mv (.tmp 0) (.slice pl L.length cl) (fun _ => rfl) rfl (hK _ (Mw.refl _))))
   ·exact og_eq _ rfl (fun f wf hq hd K hK => go_run rfl (wo_un (fun v => Instr.fieldAt 27 v 0) (.tmp 3) (pt k1 0) (pt k1 0) (fun _ => rfl) rfl (by kernel_rfl) (hK _ (Mw.refl _))))
   ·exact og_eq _ rfl (fun f wf hq hd K hK => have Q1 := Q1.mo hq; go_run rfl (wo_load 25 (.tmp 10) (pt k1 0) (.agg (c.r.cells).toArray) rfl (hd 1 rfl) (run_row Q1 25 0 4 (c.r.cells) rfl Tryd.underlying25 rfl sz25) (hK _ (Mw.refl _))))
   ·exact og_eq _ rfl (fun f wf hq hd K hK => go_run rfl (wo_call 16 [(.tmp 9), (.tmp 11)] _ [.slice pl L.length cl, .agg (c.r.cells).toArray] (.string (txR L c.r)) rfl (li2 (hd 0 rfl) (hd 2 rfl)) (fun _ _ => by kernel_rfl) (ptxt_n _ (hL.mw (M.trans hq)) hcl (hTb.mw (M.trans hq))) hK))
   ·exact og_eq _ rfl (fun f wf hq hd K hK => go_run rfl (wo_bin (fun x y => do eqGuard .add 9 (.tmp 12) (.const (.string ⟨#[46]⟩)) x y; binOp .add 9 x y) (.tmp 12) (.const (.string ⟨#[46]⟩)) (.string (txR L c.r)) (.string ⟨#[46]⟩) (.string (catB (txR L c.r) ⟨#[46]⟩)) (fun _ => rfl) (hd 3 rfl) rfl (catc d1 _ _ _) (hK _ (Mw.refl _))))
   ·exact og_eq _ rfl (fun f wf hq hd K hK => go_run rfl (wo_mv (.tmp 0) (.slice pl L.length cl) (fun _ => rfl) rfl (hK _ (Mw.refl _))))
   ·exact og_eq _ rfl (fun f wf hq hd K hK => go_run rfl (wo_un (fun v => Instr.fieldAt 27 v 0) (.tmp 3) (pt k1 0) (pt k1 0) (fun _ => rfl) rfl (by kernel_rfl) (hK _ (Mw.refl _))))
   ·exact og_eq _ rfl (fun f wf hq hd K hK => go_run rfl (wo_un (fun v => Instr.fieldAt 25 v 0) (.tmp 15) (pt k1 0) (pt k1 0) (fun _ => rfl) (hd 6 rfl) (by kernel_rfl) (hK _ (Mw.refl _))))
   ·exact og_eq _ rfl (fun f wf hq hd K hK => have Q1 := Q1.mo hq; go_run rfl (wo_load 3 (.tmp 16) (pt k1 0) (.int .i64 (c.r.s)) rfl (hd 7 rfl) (run_one Q1 3 0 rfl Tryd.underlying3 rfl) (hK _ (Mw.refl _))))
   ·exact og_eq _ rfl (fun f wf hq hd K hK => go_run rfl (wo_bin (fun x y => Instr.indexAt 22 x y) (.tmp 14) (.tmp 17) (.slice pl L.length cl) (.int .i64 (c.r.s)) (pt bp (op + c.r.s.toNat * 5)) (fun _ => rfl) (hd 5 rfl) (hd 8 rfl) (ix22I hs0 hpp hly _) (hK _ (Mw.refl _))))
   ·exact og_eq _ rfl (fun f wf hq hd K hK => go_run rfl (wo_un (fun v => Instr.fieldAt 65 v 4) (.tmp 18) (pt bp (op + c.r.s.toNat * 5)) (pt bp (op + c.r.s.toNat * 5 + 4)) (fun _ => rfl) (hd 9 rfl) (by kernel_rfl) (hK _ (Mw.refl _))))
   ·exact og_eq _ rfl (fun f wf hq hd K hK => go_run rfl (wo_load 42 (.tmp 19) (pt bp (op + c.r.s.toNat * 5 + 4)) (.slice y.pi y.items.length y.ci) rfl (hd 10 rfl) (D.run_oneR (hRp.mw (M.trans hq)).at' 42 4 rfl Tryd.underlying42 rfl) (hK _ (Mw.refl _))))
   ·exact og_eq _ rfl (fun f wf hq hd K hK => go_run rfl (wo_un (fun v => Instr.fieldAt 27 v 1) (.tmp 3) (pt k1 0) (pt k1 4) (fun _ => rfl) rfl (by kernel_rfl) (hK _ (Mw.refl _))))
   ·exact og_eq _ rfl (fun f wf hq hd K hK => have Q1 := Q1.mo hq; go_run rfl (wo_load 3 (.tmp 21) (pt k1 4) (.int .i64 (c.i)) rfl (hd 12 rfl) (run_one Q1 3 4 rfl Tryd.underlying3 rfl) (hK _ (Mw.refl _))))
   ·exact og_eq _ rfl (fun f wf hq hd K hK => go_run rfl (wo_bin (fun x y => Instr.indexAt 42 x y) (.tmp 20) (.tmp 22) (.slice y.pi y.items.length y.ci) (.int .i64 (c.i)) (pt bq (oq + c.i.toNat * 23)) (fun _ => rfl) (hd 11 rfl) (hd 13 rfl) (ix42I hi0 hpq hlz _) (hK _ (Mw.refl _))))
   ·exact og_eq _ rfl (fun f wf hq hd K hK => go_run rfl (wo_un (fun v => Instr.fieldAt 79 v 0) (.tmp 23) (pt bq (oq + c.i.toNat * 23)) (pt bq (oq + c.i.toNat * 23)) (fun _ => rfl) (hd 14 rfl) (by kernel_rfl) (hK _ (Mw.refl _))))
   ·exact og_eq _ rfl (fun f wf hq hd K hK => go_run rfl (wo_load 9 (.tmp 24) (pt bq (oq + c.i.toNat * 23)) (.string zz.nm) rfl (hd 15 rfl) (D.run_oneR (hRq.mw (M.trans hq)).at' 9 0 rfl Tryd.underlying9 rfl) (hK _ (Mw.refl _))))
  intro kf3 u3 hq hR hne
  replace Q1 := Q1.mo hq
  replace M := M.trans hq
  clear hq hR hne
  refine wl_b .add 9 (.tmp 13) (.tmp 25) (.string (catB (txR L c.r) ⟨#[46]⟩)) (.string zz.nm) (.string (catB (catB (txR L c.r) ⟨#[46]⟩) zz.nm)) (catc d2 _ _ _) ?_
  refine wl_m (.tmp 26) (.string (catB (catB (txR L c.r) ⟨#[46]⟩) zz.nm)) ?_
  refine w_nil (xn_then (w_ret ?_))
  exact w_ret1 _ (.string (catB (catB (txR L c.r) ⟨#[46]⟩) zz.nm)) rfl rfl ⟨congrArg (fun v => Ending.returned (.string v)) (by unfold txC; rw [if_pos hf0p, hnm]), M⟩
 | false =>
  have hf0p := of_decide_eq_false hf0
  refine wl_b .neq 31 (.tmp 7) (.const (.int .i64 (0))) (.int .i64 (ckC L c)) (.int .i64 (0)) (.bool true) (ne34 hf0 _ _ _) ?_
  refine w_nil (xn_then (w_condT rfl (w_seq (w_reg ?_))))
  refine wl_m (.const (.string ⟨#[63]⟩)) (.string ⟨#[63]⟩) ?_
  refine w_nil (xn_then (w_ret (xr_then ?_)))
  exact w_ret1 _ (.string ⟨#[63]⟩) rfl rfl ⟨congrArg (fun v => Ending.returned (.string v)) (by unfold txC; rw [if_neg hf0p]), M⟩
end Go.Proofs.YtnffhcjmpjajlaaDoor.V
