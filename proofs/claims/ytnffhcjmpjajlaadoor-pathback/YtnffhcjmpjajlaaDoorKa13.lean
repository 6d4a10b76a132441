/-
  A part of the proof.
-/
import Derived.Test.YtnffhcjmpjajlaaDoorKa12
import Derived.Test.YtnffhcjmpjajlaaDoorKa9
import Derived.Test.YtnffhcjmpjajlaaDoorKa4
import Derived.Test.YtnffhcjmpjajlaaDoorKa3
import Derived.Test.YtnffhcjmpjajlaaDoorKa2
import Derived.Test.YtnffhcjmpjajlaaDoorKa1
import Derived.RegionTactic
import Derived.Test.YtnffhcjmpjajlaaDoorProg
import Derived.WalkKit
import Derived.WalkSpells
import Derived.Handy
import Derived.BigQuiet
import Derived.Deep.RegionHeld3
import Derived.Deep.MidRow
import Derived.BigCall
import Derived.ChangeKeysEq
import Derived.Shelf.Small.Bits
import Derived.Shelf.Strconv.Itoa0
import Derived.Shelf.Bits.Mul64
import Derived.Deep.CutRange
import Derived.Deep.CutBlock
import Derived.ScopeJumps
import Derived.WalkMore
import Derived.Laws.StructEq
import Derived.Lib.CutLaws
import Derived.Maps.OwnSet
import Derived.WalkArith
import Derived.StringKeys
import Derived.ProofKit
import Derived.OpenShut
import Derived.ChangeArms
import Derived.Deep.Slices
import Derived.ReadAgain
import Derived.WideKeyArgs
import Derived.Maps.AppendAt
import Derived.Test.YtnffhcjmpjajlaaDoorKa7
import Derived.Shelf.Strconv.Itoa4
import Derived.Test.YtnffhcjmpjajlaaDoorKa8
import Derived.Lib.IndexBytes
import Derived.Lib.AppendIntMem
import Derived.Lib.ItoaLen
import Derived.Test.YtnffhcjmpjajlaaDoorKa6
import Derived.Test.YtnffhcjmpjajlaaDoorKa11
import Derived.Test.YtnffhcjmpjajlaaDoorKa10
import Derived.Test.YtnffhcjmpjajlaaDoorKa5
import Derived.Laws.MakeOwn
namespace Go.Proofs.YtnffhcjmpjajlaaDoor.V
open Go.RowKit D
section
variable {P : Program} {o : Oper} {n : Nat} {l : List (Nat × Value)} {w : World} {ops : Array Oper} {rest : List Oper} {Q : Exit → Act → World → Prop}
theorem wl_callx (g : FuncId) (xs : List Operand) (ats : Array TypeId) (args : List Value) {F : Ending → World → Prop} (ho : o.op = .call { callee := .value (.func g), args := xs.toArray, argTypes := ats }) (hx : xs.map (evl n l) = args)
  (h : ∀ args w, (callFunc g args).run P w = .ok (.enter g args) w)
  (hc : Calls P g args.toArray w F) (hg : wnt n l ops o = true) (hk : ∀ v w', F v w' → ∃ u, v = .returned u ∧ WL P ops Q rest n (ext l o.dst u) w') : WL P ops Q (o :: rest) n l w := by
 have e : (execOp (evl n l) o).run P w = .ok (.enter g args.toArray) w := by
  obtain ⟨dst, op, ty, pos, after, guard⟩ := o
  simp only at ho
  subst ho hx
  have e2 := execOp_call_go (fr n l) dst g xs.toArray ats ty pos after guard
  rw [fr_eval] at e2
  rw [e2, h]
  simp
 refine ⟨l_step hg ?_⟩
 unfold Oper.wp; rw [fr_eval, e, Oper.upon_enter]
 refine hc.mono ?_
 intro e w' hF
 obtain ⟨u, rfl, hW⟩ := hk e w' hF
 show wpList _ _ _ _ _ _
 rw [fr_put]
 exact hW.out
end
def mtS (l : List S5) (z : Int) (s : ByteArray) : ByteArray := ((mtc l z s).map (·.2)).getD ⟨#[]⟩
def mtB (l : List S5) (z : Int) (s : ByteArray) : Bool := (mtc l z s).isSome
def mtR (l : List S5) (z : Int) (s : ByteArray) : Ro := ((mtc l z s).map (·.1)).getD ro0
def fstN {α : Type} (f : Nat → Option α) : Nat → Option α
 | 0 => none
 | n + 1 => match fstN f n with
  | some x => some x
  | none => f n
theorem fst_next {α : Type} {f : Nat → Option α} {n : Nat} (h : fstN f n = none) (k : f n = none) : fstN f (n + 1) = none := by rw [fstN, h]; exact k
theorem fst_hit {α : Type} {f : Nat → Option α} {i : Nat} {x : α} (h : fstN f i = none) (k : f i = some x) : ∀ n, i < n → fstN f n = some x
 | 0, hn => absurd hn (Nat.not_lt_zero i)
 | n + 1, hn => by
  rw [fstN]
  by_cases e : i = n
  ·subst e; rw [h]; exact k
  ·rw [fst_hit h k n (by omega)]
def prsC (l : List S5) (s : ByteArray) (i : Nat) : Bool := mtB l i s && (decide (mtS l i s = ⟨#[]⟩) && (decide (ckR l (mtR l i s) = 0) && decide (txR l (mtR l i s) = s)))
def prsA (l : List S5) (s : ByteArray) (i : Nat) : Option Ro := if prsC l s i then some (mtR l i s) else none
def prs (l : List S5) (s : ByteArray) : Option Ro := if snd l then fstN (prsA l s) l.length else none
end Go.Proofs.YtnffhcjmpjajlaaDoor.V

namespace Go.Proofs.YtnffhcjmpjajlaaDoor.V
open Go.RowKit D
theorem w_rounds {P : Program} {c : Code} {n : Nat} {l : List (Nat × Value)} {w : World} {Q : Exit → Act → World → Prop} (N : Nat) (h : WC P c (Exit.then (Code.rounds P c Q N) Q) n l w) : WC P (Code.loop c) Q n l w := ⟨wp_loop_rounds (N + 1) h.out⟩
def prcC (l : List S5) (s : ByteArray) (i k : Nat) (nm : ByteArray) : Bool := mtB l i s && (decide (mtS l i s = catB ⟨#[46]⟩ nm) && (decide (ckC l ⟨mtR l i s, (k : Int)⟩ = 0) && decide (txC l ⟨mtR l i s, (k : Int)⟩ = s)))
def prcA (l : List S5) (s : ByteArray) (i : Nat) (y : S5) (k : Nat) : Option Ce := match y.items[k]? with
 | some z => if prcC l s i k z.nm then some ⟨mtR l i s, (k : Int)⟩ else none
 | none => none
def prcI (l : List S5) (s : ByteArray) (i : Nat) : Option Ce := match l[i]? with
 | some y => fstN (prcA l s i y) y.items.length
 | none => none
def prc (l : List S5) (s : ByteArray) : Option Ce := if snd l then fstN (prcI l s) l.length else none
def ce0 : Ce := ⟨ro0, 0⟩
theorem fst_all {α : Type} {f : Nat → Option α} (h : ∀ k, f k = none) : ∀ n, fstN f n = none
 | 0 => rfl
 | n + 1 => fst_next (fst_all h n) (h n)
theorem prcA_at {l : List S5} {s : ByteArray} {i k : Nat} {y : S5} {z : It} (hz : y.items[k]? = some z) : prcA l s i y k = if prcC l s i k z.nm then some ⟨mtR l i s, (k : Int)⟩ else none := by unfold prcA; rw [hz]
theorem prcI_at {l : List S5} {s : ByteArray} {i : Nat} {y : S5} (hy : l[i]? = some y) : prcI l s i = fstN (prcA l s i y) y.items.length := by unfold prcI; rw [hy]
end Go.Proofs.YtnffhcjmpjajlaaDoor.V

namespace Go.Proofs.YtnffhcjmpjajlaaDoor.V
open Go.RowKit D
theorem dd_big {u : Nat} (h : 1 ≤ u) (d : Nat) (hd : d < 10) : Lib.decDigits (10 * u + d) = Lib.decDigits u ++ [UInt8.ofNat (48 + d)] := by
 rw [Lib.decDigits, dif_neg (by omega), show (10 * u + d) / 10 = u by omega, show (10 * u + d) % 10 = d by omega]
theorem it_nat {n : Int} (h : 0 ≤ n) : Lib.itoa n = Lib.decDigits n.toNat := by unfold Lib.itoa; rw [if_neg (by omega)]
theorem it_big {n d : Int} (h : 1 ≤ n) (hd : 0 ≤ d) (hd9 : d ≤ 9) : Lib.itoa (10 * n + d) = Lib.itoa n ++ [UInt8.ofNat (48 + d.toNat)] := by
 rw [it_nat (by omega), it_nat (by omega), show (10 * n + d).toNat = 10 * n.toNat + d.toNat by omega, dd_big (by omega) _ (by omega)]
theorem it_one {d : Int} (hd : 0 ≤ d) (hd9 : d ≤ 9) : Lib.itoa d = [UInt8.ofNat (48 + d.toNat)] := by rw [it_nat hd, Lib.decDigits_one (by omega)]
theorem it_head : ∀ (k : Nat) (n : Int), n.toNat ≤ k → 1 ≤ n → ∃ c r, Lib.itoa n = c :: r ∧ c ≠ 48
 | 0, n, h, h1 => by omega
 | k + 1, n, h, h1 => by
  by_cases q : n ≤ 9
  ·rw [it_one (by omega) q]
   refine ⟨_, _, rfl, fun e => ?_⟩
   have := congrArg UInt8.toNat e
   rw [UInt8.toNat_ofNat_of_lt' (by show 48 + n.toNat < 256; omega)] at this
   have h48 : (48 : UInt8).toNat = 48 := rfl
   omega
  ·obtain ⟨c, r, e, hc⟩ := it_head k (n / 10) (by omega) (by omega)
   have := it_big (n := n / 10) (d := n % 10) (by omega) (by omega) (by omega)
   rw [show 10 * (n / 10) + n % 10 = n by omega] at this
   rw [this, e]
   exact ⟨c, r ++ _, rfl, hc⟩
def bl (v : ByteArray) : List UInt8 := v.data.toList
theorem bl_len (v : ByteArray) : (bl v).length = v.size := rfl
theorem bl_at {v : ByteArray} {i : Nat} (h : i < v.size) : (bl v)[i]? = some (UInt8.ofNat (bt v i).toNat) := by
 rw [bt_in h, Int.toNat_natCast, UInt8.ofNat_toNat]
 rw [List.getElem?_eq_getElem (by rw [bl_len]; exact h)]
 rfl
theorem bl_take {v : ByteArray} {i : Nat} (h : i < v.size) : (bl v).take (i + 1) = (bl v).take i ++ [UInt8.ofNat (bt v i).toNat] := by rw [List.take_add_one, bl_at h]; rfl
theorem dgC_inv {v : ByteArray} {i : Nat} {n : Int} (h : dgC v i n = true) : i < v.size ∧ 48 ≤ bt v i ∧ bt v i ≤ 57 := by
 unfold dgC at h; simp at h; exact ⟨h.1, h.2.1, h.2.2.1⟩
theorem dg_text {v : ByteArray} (h0 : ¬ bt v 0 = 48) : ∀ (f i : Nat) (n : Int), (i = 0 ∧ n = 0 ∨ 1 ≤ n ∧ Lib.itoa n = (bl v).take i) → ((dgF v f i n).2 = 0 ∧ (dgF v f i n).1 = 0 ∨ 1 ≤ (dgF v f i n).1 ∧ Lib.itoa (dgF v f i n).1 = (bl v).take (dgF v f i n).2)
 | 0, i, n, h => h
 | f + 1, i, n, h => by
  rw [dgF]
  cases e : dgC v i n with
  | false => exact h
  | true =>
   obtain ⟨hi, a, b⟩ := dgC_inv e
   refine dg_text h0 f (i + 1) (10 * n + (bt v i - 48)) (.inr ?_)
   rw [bl_take hi]
   rcases h with ⟨rfl, rfl⟩ | ⟨h1, h2⟩
   ·refine ⟨by omega, ?_⟩
    rw [show 10 * (0 : Int) + (bt v 0 - 48) = bt v 0 - 48 by omega, it_one (by omega) (by omega)]
    show [_] = [] ++ [_]
    rw [show 48 + (bt v 0 - 48).toNat = (bt v 0).toNat by omega]; rfl
   ·refine ⟨by omega, ?_⟩
    rw [it_big h1 (by omega) (by omega), h2, show 48 + (bt v i - 48).toNat = (bt v i).toNat by omega]
theorem dg_size {v : ByteArray} : ∀ (f i : Nat) (n : Int), (n = 0 ∨ 1 ≤ n ∧ (Lib.itoa n).length ≤ i) → ((dgF v f i n).1 = 0 ∨ 1 ≤ (dgF v f i n).1 ∧ (Lib.itoa (dgF v f i n).1).length ≤ (dgF v f i n).2)
 | 0, i, n, h => h
 | f + 1, i, n, h => by
  rw [dgF]
  cases e : dgC v i n with
  | false => exact h
  | true =>
   obtain ⟨hi, a, b⟩ := dgC_inv e
   refine dg_size f (i + 1) (10 * n + (bt v i - 48)) ?_
   rcases h with rfl | ⟨h1, h2⟩
   ·by_cases q : bt v i = 48
    ·exact .inl (by omega)
    ·refine .inr ⟨by omega, ?_⟩
     rw [show 10 * (0 : Int) + (bt v i - 48) = bt v i - 48 by omega, it_one (by omega) (by omega)]
     show 1 ≤ _; omega
   ·refine .inr ⟨by omega, ?_⟩
    rw [it_big h1 (by omega) (by omega), List.length_append]
    show _ + 1 ≤ _; omega
def itB (n : Int) : ByteArray := ⟨(Lib.itoa n).toArray⟩
theorem ba_ext {a b : ByteArray} (h : bl a = bl b) : a = b := ByteArray.ext (Array.toList_inj.1 h)
theorem bl_app (a b : ByteArray) : bl (a ++ b) = bl a ++ bl b := by unfold bl; rw [ByteArray.data_append, Array.toList_append]
theorem bl_ext (a : ByteArray) (i : Nat) : bl (a.extract i a.size) = (bl a).drop i := by
 unfold bl
 rw [ByteArray.data_extract, Array.toList_extract]
 rw [List.extract_eq_take_drop]
 rw [List.take_of_length_le (by rw [List.length_drop]; exact Nat.le_refl _)]
theorem bl_it (n : Int) : bl (itB n) = Lib.itoa n := rfl
theorem cid_t {v u : ByteArray} {n : Int} (h : cid v = some (n, u)) : v = itB n ++ u ∧ idk n = true ∧ dgR v = (n, (dgR v).2) ∧ u = v.extract (dgR v).2 v.size := by
 unfold cid at h
 split at h
 ·cases h
 next h1 =>
  split at h
  ·cases h
  next h2 =>
   split at h
   next h3 =>
    cases h
    refine ⟨?_, h3, rfl, rfl⟩
    have q := dg_text h2 v.size 0 0 (.inl ⟨rfl, rfl⟩)
    have hb : 1 ≤ (dgR v).1 := by unfold idk at h3; simp at h3; exact h3.1
    rcases q with q | q
    ·have : (dgR v).1 = 0 := q.2
     omega
    ·apply ba_ext
     rw [bl_app, bl_ext, bl_it]
     rw [show Lib.itoa (dgR v).1 = (bl v).take (dgR v).2 from q.2, List.take_append_drop]
   next => cases h
theorem cid_s {v : ByteArray} {n : Int} {u : ByteArray} (hi : idk n = true) (hd : (dgR v).1 = n) (hv : v = itB n ++ u) : cid v = some (n, v.extract (dgR v).2 v.size) := by
 have hb : 1 ≤ n := by unfold idk at hi; simp at hi; exact hi.1
 obtain ⟨c, r, e, hc⟩ := it_head n.toNat n (Nat.le_refl _) hb
 have h1 : bl v = c :: (r ++ bl u) := by rw [hv, bl_app, bl_it, e]; rfl
 have hs : 0 < v.size := by rw [← bl_len, h1]; simp
 unfold cid
 rw [if_neg (fun q => by rw [q] at hs; exact absurd hs (by decide))]
 have h2 := bl_at hs
 rw [h1] at h2
 rw [if_neg (fun q => by rw [q] at h2; simp at h2; exact hc h2)]
 rw [hd, if_pos hi]
theorem dg_sz {v : ByteArray} (h : 1 ≤ (dgR v).1) : (itB (dgR v).1).size ≤ (dgR v).2 ∧ (dgR v).2 ≤ v.size := by
 refine ⟨?_, dgF_le v _ _ _ (Nat.zero_le _)⟩
 rcases dg_size (v := v) v.size 0 0 (.inl rfl) with q | q
 ·have : (dgR v).1 = 0 := q
  omega
 ·exact q.2
theorem bgn_s {s h u : ByteArray} (e : bgn s h = some u) : s = h ++ u := by
 unfold bgn at e
 split at e
 ·cases e
 next h1 =>
  split at e
  next h2 =>
   cases e
   have q : s = s.extract 0 h.size ++ s.extract h.size s.size := by
    rw [ByteArray.extract_append_extract]
    simp
   rw [h2] at q
   exact q
  next => cases e
theorem bgn_y {h u : ByteArray} : bgn (h ++ u) h = some u := by
 unfold bgn
 have hs : (h ++ u).size = h.size + u.size := ByteArray.size_append
 have h1 : (h ++ u).extract 0 h.size = h := by
  apply ba_ext; unfold bl; rw [ByteArray.data_extract, ByteArray.data_append, Array.toList_extract, Array.toList_append, List.extract_eq_take_drop]
  rw [List.drop_zero, Nat.sub_zero]; exact List.take_left' rfl
 have h2 : (h ++ u).extract h.size (h ++ u).size = u := by
  apply ba_ext; rw [bl_ext, bl_app, ← bl_len h, List.drop_left]
 rw [if_neg (by omega), if_pos h1, h2]
theorem app_l {a b c : ByteArray} (h : a ++ b = a ++ c) : b = c := by
 have := congrArg bl h
 rw [bl_app, bl_app] at this
 exact ba_ext (List.append_cancel_left this)
theorem app_sz {a b c d : ByteArray} (h : a ++ b = c ++ d) (e : b.size = d.size) : a = c ∧ b = d := by
 have := congrArg bl h
 rw [bl_app, bl_app] at this
 obtain ⟨p, q⟩ := List.append_inj' this (by rw [bl_len, bl_len]; exact e)
 exact ⟨ba_ext p, ba_ext q⟩
end Go.Proofs.YtnffhcjmpjajlaaDoor.V
namespace Go.Proofs.YtnffhcjmpjajlaaDoor.V
open Go.RowKit D
theorem chN_app (l : List S5) : ∀ (n : Nat) (z : Int) (acc : List Int), chN l n z acc = chN l n z [] ++ acc
 | 0, z, acc => rfl
 | n + 1, z, acc => by
  rw [chN, chN]
  split
  ·rfl
  ·rw [chN_app l n _ (z :: acc), chN_app l n _ [z], List.append_assoc]; rfl
theorem chn_up {l : List S5} (hs : snd l = true) {z : Nat} {y : S5} (hy : l[z]? = some y) (h0 : ¬ z = 0) : chn l (z : Int) = chn l y.pr ++ [(z : Int)] := by
 have q := ch_up (acc := []) hs (z := (z : Int)) (by omega) (by rw [Int.toNat_natCast]; exact hy) (by omega)
 unfold chn
 rw [q.1, chN_app]
theorem mtL_app (l : List S5) : ∀ (cs ds : List Int) (k : Nat) (s : ByteArray) (r : Ro), mtL l (cs ++ ds) k s r = (mtL l cs k s r).bind (fun p => mtL l ds (k + cs.length) p.2 p.1)
 | [], ds, k, s, r => rfl
 | c :: cs, ds, k, s, r => by
  rw [List.cons_append, mtL, mtL]
  cases e : bgn s (hdz l c) with
  | none => rfl
  | some u =>
   dsimp only
   rw [mtL_app l cs ds (k + 1)]
   rw [show k + 1 + cs.length = k + (c :: cs).length by rw [List.length_cons]; omega]
def reS (z : Int) (r : Ro) : Ro := ⟨z, r.a, r.b, r.c⟩
theorem putK_re (z : Int) (r : Ro) (k : Nat) (n : Int) : putK (reS z r) k n = reS z (putK r k n) := by
 unfold putK reS; split; · rfl
 split <;> rfl
theorem mtL_re (l : List S5) (z : Int) : ∀ (cs : List Int) (k : Nat) (s : ByteArray) (r : Ro), mtL l cs k s (reS z r) = (mtL l cs k s r).map (fun p => (reS z p.1, p.2))
 | [], k, s, r => rfl
 | c :: cs, k, s, r => by
  rw [mtL, mtL]
  cases e : bgn s (hdz l c) with
  | none => rfl
  | some u =>
   dsimp only
   rw [putK_re, mtL_re l z cs]
def mtw (l : List S5) (z : Int) (s : ByteArray) : Option (Ro × ByteArray) := mtL l (chn l z) 0 s ⟨z, 0, 0, 0⟩
theorem mtw_0 (l : List S5) (s : ByteArray) : mtw l 0 s = some (ro0, s) := rfl
theorem mtw_c {l : List S5} {z : Nat} {y : S5} {s : ByteArray} (hs : snd l = true) (hy : l[z]? = some y) (h0 : ¬ z = 0) : mtc l (z : Int) s = mtw l (z : Int) s := by
 unfold mtc
 rw [if_neg (by rw [chn_up hs hy h0]; simp)]
 rfl
theorem mtw_up {l : List S5} {z : Nat} {y : S5} {s : ByteArray} (hs : snd l = true) (hy : l[z]? = some y) (h0 : ¬ z = 0) : mtw l (z : Int) s = (mtw l y.pr s).bind (fun p => (bgn p.2 (hdz l (z : Int))).map (fun u => (putK (reS (z : Int) p.1) (chn l y.pr).length (dgR u).1, u.extract (dgR u).2 u.size))) := by
 unfold mtw
 rw [chn_up hs hy h0, mtL_app, show (⟨(z : Int), 0, 0, 0⟩ : Ro) = reS (z : Int) ⟨y.pr, 0, 0, 0⟩ from rfl, mtL_re, Nat.zero_add]
 cases e : mtL l (chn l y.pr) 0 s ⟨y.pr, 0, 0, 0⟩ with
 | none => rfl
 | some p =>
  simp only [Option.map_some, Option.bind_some]
  rw [mtL]
  cases q : bgn p.2 (hdz l (z : Int)) with
  | none => rfl
  | some u => rfl
theorem ch_len {l : List S5} (hs : snd l = true) {z : Int} {y : S5} (hy : l[z.toNat]? = some y) (h0 : 0 ≤ z) : ((chn l z).length : Int) = y.dp - 1 := by
 have hl := lt_of_get hy
 have q := chN_len hs z.toNat z [] (Nat.le_refl _) h0 (by omega)
 rw [dpA_at hy] at q
 unfold chn
 rw [q]
 show (0 : Int) + y.dp - 1 = _
 omega
theorem put_ud {d : Int} {k : Nat} {r : Ro} {z n : Int} (h : (k : Int) = d - 2) : putK (reS z r) k n = udR d r z n := by
 unfold putK reS udR setR
 by_cases a : k = 0
 ·rw [if_pos a, if_pos (show d = 2 by omega)]
 ·by_cases b : k = 1
  ·rw [if_neg a, if_pos b, if_neg (show ¬ d = 2 by omega), if_pos (show d = 3 by omega)]
  ·rw [if_neg a, if_neg b, if_neg (show ¬ d = 2 by omega), if_neg (show ¬ d = 3 by omega)]
theorem mtw_at {l : List S5} {z : Nat} {y : S5} {s : ByteArray} (hs : snd l = true) (hy : l[z]? = some y) (h0 : ¬ z = 0) : mtw l (z : Int) s = (mtw l y.pr s).bind (fun p => (bgn p.2 (hdz l (z : Int))).map (fun u => (udR y.dp p.1 (z : Int) (dgR u).1, u.extract (dgR u).2 u.size))) := by
 obtain ⟨x, hx, p0, p1, hd, hd2, hd4⟩ := pr_at hs hy h0
 have hc := ch_len hs hx p0
 rw [mtw_up hs hy h0]
 congr 1
 funext p
 congr 1
 funext u
 rw [put_ud (d := y.dp) (by omega)]
def zer (d : Int) (r : Ro) : Prop := (d ≤ 1 → r.a = 0) ∧ (d ≤ 2 → r.b = 0) ∧ (d ≤ 3 → r.c = 0)
theorem ids_zer {d : Int} {r : Ro} (h : ids d r = true) : zer d r := by
 unfold ids idu at h
 simp only [Bool.and_eq_true] at h
 obtain ⟨a, b, c⟩ := h
 refine ⟨fun q => ?_, fun q => ?_, fun q => ?_⟩
 ·rw [if_neg (by omega)] at a; exact of_decide_eq_true a
 ·rw [if_neg (by omega)] at b; exact of_decide_eq_true b
 ·rw [if_neg (by omega)] at c; exact of_decide_eq_true c
theorem dcase {d : Int} (h2 : 2 ≤ d) (h4 : d ≤ 4) : d = 2 ∨ d = 3 ∨ d = 4 := by omega
theorem zer_ud {d : Int} {r : Ro} {z n : Int} (h2 : 2 ≤ d) (h4 : d ≤ 4) (h : zer (d - 1) r) : zer d (udR d r z n) := by
 obtain ⟨a, b, c⟩ := h
 rcases dcase h2 h4 with rfl | rfl | rfl <;> simp [zer, udR, setR] at a b c ⊢ <;> simp_all
theorem ck_ud {l : List S5} {z : Nat} {y : S5} {q : Ro} {n : Int} (hs : snd l = true) (hy : l[z]? = some y) (h0 : ¬ z = 0) (hq : ckR l q = 0) (hp : q.s = y.pr) (hn : idk n = true) : ckR l (udR y.dp q (z : Int) n) = 0 := by
 obtain ⟨x, hx, p0, p1, hd, hd2, hd4⟩ := pr_at hs hy h0
 obtain ⟨_, _, _, hi⟩ := ck_0 hq
 rw [hp, dpA_at hx] at hi
 have hlz := lt_of_get hy
 refine ck_yes (y := y) hs (by show (0 : Int) ≤ z; omega) (by show (z : Int) < _; omega) (by show l[((z : Int)).toNat]? = _; rw [Int.toNat_natCast]; exact hy) ?_
 rw [show x.dp = y.dp - 1 by omega] at hi
 rcases dcase hd2 hd4 with e | e | e <;> (rw [e] at hi ⊢; simp [ids, idu, udR, setR] at hi ⊢; simp_all)
theorem par_ud {l : List S5} {z : Nat} {y : S5} {q : Ro} {n : Int} (hy : l[z]? = some y) (hd2 : 2 ≤ y.dp) (hd4 : y.dp ≤ 4) (hp : q.s = y.pr) (hz : zer (y.dp - 1) q) : parU l (udR y.dp q (z : Int) n) = q := by
 have e1 : (udR y.dp q (z : Int) n).s.toNat = z := Int.toNat_natCast z
 unfold parU
 rw [e1, dpA_at hy, prA_at hy, ← hp]
 obtain ⟨a, b, c⟩ := hz
 obtain ⟨s, qa, qb, qc⟩ := q
 rcases dcase hd2 hd4 with e | e | e <;> (rw [e] at a b c ⊢; simp [udR, setR] at a b c ⊢; simp_all)
theorem id_ud {d : Int} {r : Ro} {z n : Int} (h2 : 2 ≤ d) (h4 : d ≤ 4) : idR d (udR d r z n) = n := by
 rcases dcase h2 h4 with rfl | rfl | rfl <;> simp [idR, udR, setR]
theorem id_ok {d : Int} {r : Ro} (h2 : 2 ≤ d) (h4 : d ≤ 4) (h : ids d r = true) : idk (idR d r) = true := by
 rcases dcase h2 h4 with rfl | rfl | rfl <;> (simp [ids, idu, idR] at h ⊢; simp_all)
theorem mtw_f {l : List S5} (hs : snd l = true) (s : ByteArray) : ∀ (k z : Nat) (y : S5), z < k → l[z]? = some y → ∀ r u, mtw l (z : Int) s = some (r, u) → r.s = (z : Int) ∧ zer y.dp r
 | 0, z, y, h, _, _, _, _ => absurd h (Nat.not_lt_zero z)
 | k + 1, z, y, h, hy, r, u, e => by
  by_cases h0 : z = 0
  ·subst h0
   rw [show ((0 : Nat) : Int) = 0 from rfl, mtw_0] at e
   cases e
   exact ⟨rfl, fun _ => rfl, fun _ => rfl, fun _ => rfl⟩
  ·obtain ⟨x, hx, p0, p1, hd, hd2, hd4⟩ := pr_at hs hy h0
   rw [mtw_at hs hy h0] at e
   cases q : mtw l y.pr s with
   | none => rw [q] at e; cases e
   | some p =>
    rw [q, Option.bind_some] at e
    cases b : bgn p.2 (hdz l (z : Int)) with
    | none => rw [b] at e; cases e
    | some v =>
     rw [b] at e
     cases e
     refine ⟨rfl, zer_ud hd2 hd4 ?_⟩
     have hpp : ((y.pr.toNat : Nat) : Int) = y.pr := by omega
     have := mtw_f hs s k y.pr.toNat x (by omega) hx p.1 p.2 (by rw [hpp]; exact q)
     rw [show y.dp - 1 = x.dp by omega]
     exact this.2
theorem hdz_seg {l : List S5} {z : Nat} {y : S5} {r : Ro} (hy : l[z]? = some y) (hr : r.s = (z : Int)) (h : ckR l r = 0) (h0 : ¬ z = 0) : seg l r = hdz l (z : Int) ++ itB (idR y.dp r) := by
 have e : r.s.toNat = z := by rw [hr]; exact Int.toNat_natCast z
 rw [seg_at (y := y) (by rw [e]; exact hy), hdz_at (y := y) (by rw [Int.toNat_natCast]; exact hy), id_v h (by omega) (by rw [e]; exact hy)]
 rfl
theorem mtw_sz {l : List S5} (hs : snd l = true) (s : ByteArray) : ∀ (k z : Nat) (y : S5), z < k → l[z]? = some y → ∀ r u, mtw l (z : Int) s = some (r, u) → (∃ A, s = A ++ u) ∧ (ckR l r = 0 → (txW l r).size + u.size ≤ s.size)
 | 0, z, y, h, _, _, _, _ => absurd h (Nat.not_lt_zero z)
 | k + 1, z, y, h, hy, r, u, e => by
  by_cases h0 : z = 0
  ·subst h0
   rw [show ((0 : Nat) : Int) = 0 from rfl, mtw_0] at e
   cases e
   exact ⟨⟨⟨#[]⟩, (ByteArray.empty_append).symm⟩, fun _ => by rw [txW_0 rfl]; show 0 + _ ≤ _; omega⟩
  ·obtain ⟨x, hx, p0, p1, hd, hd2, hd4⟩ := pr_at hs hy h0
   rw [mtw_at hs hy h0] at e
   cases q : mtw l y.pr s with
   | none => rw [q] at e; cases e
   | some p =>
    rw [q, Option.bind_some] at e
    cases b : bgn p.2 (hdz l (z : Int)) with
    | none => rw [b] at e; cases e
    | some v =>
     rw [b] at e
     cases e
     have hpp : ((y.pr.toNat : Nat) : Int) = y.pr := by omega
     obtain ⟨⟨A, hA⟩, ih⟩ := mtw_sz hs s k y.pr.toNat x (by omega) hx p.1 p.2 (by rw [hpp]; exact q)
     have hf := mtw_f hs s (y.pr.toNat + 1) y.pr.toNat x (by omega) hx p.1 p.2 (by rw [hpp]; exact q)
     have hb := bgn_s b
     have hv : v = v.extract 0 (dgR v).2 ++ v.extract (dgR v).2 v.size := by
      have h9 := dgF_le v v.size 0 0 (Nat.zero_le _)
      have h8 : (dgR v).2 ≤ v.size := h9
      rw [ByteArray.extract_append_extract]
      simp [Nat.max_eq_right h8]
     refine ⟨⟨A ++ (hdz l (z : Int) ++ v.extract 0 (dgR v).2), ?_⟩, fun hc => ?_⟩
     ·rw [ByteArray.append_assoc, ByteArray.append_assoc, ← hv, ← hb]; exact hA
     ·have hr0 : ¬ (udR y.dp p.1 (z : Int) (dgR v).1).s = 0 := by show ¬ (z : Int) = 0; omega
      have hpar := par_ud (n := (dgR v).1) hy hd2 hd4 (by rw [hf.1]; exact hpp) (by rw [show y.dp - 1 = x.dp by omega]; exact hf.2)
      have hcp := par_ck hc hr0
      rw [hpar] at hcp
      have i2 := ih hcp
      have hik : idk (dgR v).1 = true := by
       obtain ⟨_, _, _, hi⟩ := ck_0 hc
       rw [show (udR y.dp p.1 (z : Int) (dgR v).1).s.toNat = z from Int.toNat_natCast z, dpA_at hy] at hi
       have := id_ok hd2 hd4 hi
       rw [id_ud hd2 hd4] at this
       exact this
      have h1 : 1 ≤ (dgR v).1 := by unfold idk at hik; simp at hik; exact hik.1
      obtain ⟨s1, s2⟩ := dg_sz h1
      rw [txW_up hc hr0, hpar, hdz_seg hy rfl hc h0, id_ud hd2 hd4]
      have e1 := congrArg ByteArray.size hb
      rw [ByteArray.size_append] at e1
      rw [ByteArray.size_append, ByteArray.size_append, ByteArray.size_extract]
      omega
end Go.Proofs.YtnffhcjmpjajlaaDoor.V
