/-
  A part of the proof.
-/
import Derived.Test.YtnffhcjmpjajlaaDoorKa11
import Derived.Test.YtnffhcjmpjajlaaDoorKa8
import Derived.Test.YtnffhcjmpjajlaaDoorKa7
import Derived.Test.YtnffhcjmpjajlaaDoorKa6
import Derived.Test.YtnffhcjmpjajlaaDoorKa5
import Derived.Test.YtnffhcjmpjajlaaDoorKa4
import Derived.Test.YtnffhcjmpjajlaaDoorKa3
import Derived.Test.YtnffhcjmpjajlaaDoorKa2
import Derived.Test.YtnffhcjmpjajlaaDoorKa1
import Derived.RegionTactic
import Derived.Test.YtnffhcjmpjajlaaDoorProg
import Derived.WalkKit
import Derived.WalkSpells
import Derived.Handy
import Derived.BigQuiet
import Derived.Deep.RegionHeld3
import Derived.Deep.MidRow
import Derived.BigCall
import Derived.ChangeKeysEq
import Derived.Shelf.Small.Bits
import Derived.Shelf.Strconv.Itoa0
import Derived.Shelf.Bits.Mul64
import Derived.Deep.CutRange
import Derived.Deep.CutBlock
import Derived.ScopeJumps
import Derived.WalkMore
import Derived.Laws.StructEq
import Derived.Lib.CutLaws
import Derived.Maps.OwnSet
import Derived.WalkArith
import Derived.StringKeys
import Derived.ProofKit
import Derived.OpenShut
import Derived.ChangeArms
import Derived.Deep.Slices
import Derived.ReadAgain
import Derived.WideKeyArgs
import Derived.Maps.AppendAt
import Derived.Shelf.Strconv.Itoa4
import Derived.Test.YtnffhcjmpjajlaaDoorKa10
import Derived.Test.YtnffhcjmpjajlaaDoorKa9
import Derived.Lib.IndexBytes
import Derived.Lib.AppendIntMem
import Derived.Lib.ItoaLen
import Derived.Laws.MakeOwn
import Derived.Test.YtnffhcjmpjajlaaDoorKa13
import Derived.Test.YtnffhcjmpjajlaaDoorKa12
namespace Go.Proofs.YtnffhcjmpjajlaaDoor.V
open Go.RowKit D
theorem dd_big {u : Nat} (h : 1 ≤ u) (d : Nat) (hd : d < 10) : Lib.decDigits (10 * u + d) = Lib.decDigits u ++ [UInt8.ofNat (48 + d)] := by
 rw [Lib.decDigits, dif_neg (by omega), show (10 * u + d) / 10 = u by omega, show (10 * u + d) % 10 = d by omega]
theorem it_nat {n : Int} (h : 0 ≤ n) : Lib.itoa n = Lib.decDigits n.toNat := by unfold Lib.itoa; rw [if_neg (by omega)]
theorem it_big {n d : Int} (h : 1 ≤ n) (hd : 0 ≤ d) (hd9 : d ≤ 9) : Lib.itoa (10 * n + d) = Lib.itoa n ++ [UInt8.ofNat (48 + d.toNat)] := by
 rw [it_nat (by omega), it_nat (by omega), show (10 * n + d).toNat = 10 * n.toNat + d.toNat by omega, dd_big (by omega) _ (by omega)]
theorem it_one {d : Int} (hd : 0 ≤ d) (hd9 : d ≤ 9) : Lib.itoa d = [UInt8.ofNat (48 + d.toNat)] := by rw [it_nat hd, Lib.decDigits_one (by omega)]
theorem it_head : ∀ (k : Nat) (n : Int), n.toNat ≤ k → 1 ≤ n → ∃ c r, Lib.itoa n = c :: r ∧ c ≠ 48
 | 0, n, h, h1 => by omega
 | k + 1, n, h, h1 => by
  by_cases q : n ≤ 9
  ·rw [it_one (by omega) q]
   refine ⟨_, _, rfl, fun e => ?_⟩
   have := congrArg UInt8.toNat e
   rw [UInt8.toNat_ofNat_of_lt' (by show 48 + n.toNat < 256; omega)] at this
   have h48 : (48 : UInt8).toNat = 48 := rfl
   omega
  ·obtain ⟨c, r, e, hc⟩ := it_head k (n / 10) (by omega) (by omega)
   have := it_big (n := n / 10) (d := n % 10) (by omega) (by omega) (by omega)
   rw [show 10 * (n / 10) + n % 10 = n by omega] at this
   rw [this, e]
   exact ⟨c, r ++ _, rfl, hc⟩
def bl (v : ByteArray) : List UInt8 := v.data.toList
theorem bl_len (v : ByteArray) : (bl v).length = v.size := rfl
theorem bl_at {v : ByteArray} {i : Nat} (h : i < v.size) : (bl v)[i]? = some (UInt8.ofNat (bt v i).toNat) := by
 rw [bt_in h, Int.toNat_natCast, UInt8.ofNat_toNat]
 rw [List.getElem?_eq_getElem (by rw [bl_len]; exact h)]
 rfl
theorem bl_take {v : ByteArray} {i : Nat} (h : i < v.size) : (bl v).take (i + 1) = (bl v).take i ++ [UInt8.ofNat (bt v i).toNat] := by rw [List.take_add_one, bl_at h]; rfl
theorem dgC_inv {v : ByteArray} {i : Nat} {n : Int} (h : dgC v i n = true) : i < v.size ∧ 48 ≤ bt v i ∧ bt v i ≤ 57 := by
 unfold dgC at h; simp at h; exact ⟨h.1, h.2.1, h.2.2.1⟩
theorem dg_text {v : ByteArray} (h0 : ¬ bt v 0 = 48) : ∀ (f i : Nat) (n : Int), (i = 0 ∧ n = 0 ∨ 1 ≤ n ∧ Lib.itoa n = (bl v).take i) → ((dgF v f i n).2 = 0 ∧ (dgF v f i n).1 = 0 ∨ 1 ≤ (dgF v f i n).1 ∧ Lib.itoa (dgF v f i n).1 = (bl v).take (dgF v f i n).2)
 | 0, i, n, h => h
 | f + 1, i, n, h => by
  rw [dgF]
  cases e : dgC v i n with
  | false => exact h
  | true =>
   obtain ⟨hi, a, b⟩ := dgC_inv e
   refine dg_text h0 f (i + 1) (10 * n + (bt v i - 48)) (.inr ?_)
   rw [bl_take hi]
   rcases h with ⟨rfl, rfl⟩ | ⟨h1, h2⟩
   ·refine ⟨by omega, ?_⟩
    rw [show 10 * (0 : Int) + (bt v 0 - 48) = bt v 0 - 48 by omega, it_one (by omega) (by omega)]
    show [_] = [] ++ [_]
    rw [show 48 + (bt v 0 - 48).toNat = (bt v 0).toNat by omega]; rfl
   ·refine ⟨by omega, ?_⟩
    rw [it_big h1 (by omega) (by omega), h2, show 48 + (bt v i - 48).toNat = (bt v i).toNat by omega]
theorem dg_size {v : ByteArray} : ∀ (f i : Nat) (n : Int), (n = 0 ∨ 1 ≤ n ∧ (Lib.itoa n).length ≤ i) → ((dgF v f i n).1 = 0 ∨ 1 ≤ (dgF v f i n).1 ∧ (Lib.itoa (dgF v f i n).1).length ≤ (dgF v f i n).2)
 | 0, i, n, h => h
 | f + 1, i, n, h => by
  rw [dgF]
  cases e : dgC v i n with
  | false => exact h
  | true =>
   obtain ⟨hi, a, b⟩ := dgC_inv e
   refine dg_size f (i + 1) (10 * n + (bt v i - 48)) ?_
   rcases h with rfl | ⟨h1, h2⟩
   ·by_cases q : bt v i = 48
    ·exact .inl (by omega)
    ·refine .inr ⟨by omega, ?_⟩
     rw [show 10 * (0 : Int) + (bt v i - 48) = bt v i - 48 by omega, it_one (by omega) (by omega)]
     show 1 ≤ _; omega
   ·refine .inr ⟨by omega, ?_⟩
    rw [it_big h1 (by omega) (by omega), List.length_append]
    show _ + 1 ≤ _; omega
def itB (n : Int) : ByteArray := ⟨(Lib.itoa n).toArray⟩
theorem ba_ext {a b : ByteArray} (h : bl a = bl b) : a = b := ByteArray.ext (Array.toList_inj.1 h)
theorem bl_app (a b : ByteArray) : bl (a ++ b) = bl a ++ bl b := by unfold bl; rw [ByteArray.data_append, Array.toList_append]
theorem bl_ext (a : ByteArray) (i : Nat) : bl (a.extract i a.size) = (bl a).drop i := by
 unfold bl
 rw [ByteArray.data_extract, Array.toList_extract]
 rw [List.extract_eq_take_drop]
 rw [List.take_of_length_le (by rw [List.length_drop]; exact Nat.le_refl _)]
theorem bl_it (n : Int) : bl (itB n) = Lib.itoa n := rfl
theorem cid_t {v u : ByteArray} {n : Int} (h : cid v = some (n, u)) : v = itB n ++ u ∧ idk n = true ∧ dgR v = (n, (dgR v).2) ∧ u = v.extract (dgR v).2 v.size := by
 unfold cid at h
 split at h
 ·cases h
 next h1 =>
  split at h
  ·cases h
  next h2 =>
   split at h
   next h3 =>
    cases h
    refine ⟨?_, h3, rfl, rfl⟩
    have q := dg_text h2 v.size 0 0 (.inl ⟨rfl, rfl⟩)
    have hb : 1 ≤ (dgR v).1 := by unfold idk at h3; simp at h3; exact h3.1
    rcases q with q | q
    ·have : (dgR v).1 = 0 := q.2
     omega
    ·apply ba_ext
     rw [bl_app, bl_ext, bl_it]
     rw [show Lib.itoa (dgR v).1 = (bl v).take (dgR v).2 from q.2, List.take_append_drop]
   next => cases h
theorem cid_s {v : ByteArray} {n : Int} {u : ByteArray} (hi : idk n = true) (hd : (dgR v).1 = n) (hv : v = itB n ++ u) : cid v = some (n, v.extract (dgR v).2 v.size) := by
 have hb : 1 ≤ n := by unfold idk at hi; simp at hi; exact hi.1
 obtain ⟨c, r, e, hc⟩ := it_head n.toNat n (Nat.le_refl _) hb
 have h1 : bl v = c :: (r ++ bl u) := by rw [hv, bl_app, bl_it, e]; rfl
 have hs : 0 < v.size := by rw [← bl_len, h1]; simp
 unfold cid
 rw [if_neg (fun q => by rw [q] at hs; exact absurd hs (by decide))]
 have h2 := bl_at hs
 rw [h1] at h2
 rw [if_neg (fun q => by rw [q] at h2; simp at h2; exact hc h2)]
 rw [hd, if_pos hi]
theorem dg_sz {v : ByteArray} (h : 1 ≤ (dgR v).1) : (itB (dgR v).1).size ≤ (dgR v).2 ∧ (dgR v).2 ≤ v.size := by
 refine ⟨?_, dgF_le v _ _ _ (Nat.zero_le _)⟩
 rcases dg_size (v := v) v.size 0 0 (.inl rfl) with q | q
 ·have : (dgR v).1 = 0 := q
  omega
 ·exact q.2
theorem bgn_s {s h u : ByteArray} (e : bgn s h = some u) : s = h ++ u := by
 unfold bgn at e
 split at e
 ·cases e
 next h1 =>
  split at e
  next h2 =>
   cases e
   have q : s = s.extract 0 h.size ++ s.extract h.size s.size := by
    rw [ByteArray.extract_append_extract]
    simp
   rw [h2] at q
   exact q
  next => cases e
theorem app_l {a b c : ByteArray} (h : a ++ b = a ++ c) : b = c := by
 have := congrArg bl h
 rw [bl_app, bl_app] at this
 exact ba_ext (List.append_cancel_left this)
theorem app_sz {a b c d : ByteArray} (h : a ++ b = c ++ d) (e : b.size = d.size) : a = c ∧ b = d := by
 have := congrArg bl h
 rw [bl_app, bl_app] at this
 obtain ⟨p, q⟩ := List.append_inj' this (by rw [bl_len, bl_len]; exact e)
 exact ⟨ba_ext p, ba_ext q⟩
end Go.Proofs.YtnffhcjmpjajlaaDoor.V
namespace Go.Proofs.YtnffhcjmpjajlaaDoor.V
open Go.RowKit D
theorem chN_app (l : List S5) : ∀ (n : Nat) (z : Int) (acc : List Int), chN l n z acc = chN l n z [] ++ acc
 | 0, z, acc => rfl
 | n + 1, z, acc => by
  rw [chN, chN]
  split
  ·rfl
  ·rw [chN_app l n _ (z :: acc), chN_app l n _ [z], List.append_assoc]; rfl
theorem chn_up {l : List S5} (hs : snd l = true) {z : Nat} {y : S5} (hy : l[z]? = some y) (h0 : ¬ z = 0) : chn l (z : Int) = chn l y.pr ++ [(z : Int)] := by
 have q := ch_up (acc := []) hs (z := (z : Int)) (by omega) (by rw [Int.toNat_natCast]; exact hy) (by omega)
 unfold chn
 rw [q.1, chN_app]
theorem mtL_app (l : List S5) : ∀ (cs ds : List Int) (k : Nat) (s : ByteArray) (r : Ro), mtL l (cs ++ ds) k s r = (mtL l cs k s r).bind (fun p => mtL l ds (k + cs.length) p.2 p.1)
 | [], ds, k, s, r => rfl
 | c :: cs, ds, k, s, r => by
  rw [List.cons_append, mtL, mtL]
  cases e : bgn s (hdz l c) with
  | none => rfl
  | some u =>
   dsimp only
   rw [mtL_app l cs ds (k + 1)]
   rw [show k + 1 + cs.length = k + (c :: cs).length by rw [List.length_cons]; omega]
def reS (z : Int) (r : Ro) : Ro := ⟨z, r.a, r.b, r.c⟩
theorem putK_re (z : Int) (r : Ro) (k : Nat) (n : Int) : putK (reS z r) k n = reS z (putK r k n) := by
 unfold putK reS; split; · rfl
 split <;> rfl
theorem mtL_re (l : List S5) (z : Int) : ∀ (cs : List Int) (k : Nat) (s : ByteArray) (r : Ro), mtL l cs k s (reS z r) = (mtL l cs k s r).map (fun p => (reS z p.1, p.2))
 | [], k, s, r => rfl
 | c :: cs, k, s, r => by
  rw [mtL, mtL]
  cases e : bgn s (hdz l c) with
  | none => rfl
  | some u =>
   dsimp only
   rw [putK_re, mtL_re l z cs]
def mtw (l : List S5) (z : Int) (s : ByteArray) : Option (Ro × ByteArray) := mtL l (chn l z) 0 s ⟨z, 0, 0, 0⟩
theorem mtw_0 (l : List S5) (s : ByteArray) : mtw l 0 s = some (ro0, s) := rfl
theorem mtw_up {l : List S5} {z : Nat} {y : S5} {s : ByteArray} (hs : snd l = true) (hy : l[z]? = some y) (h0 : ¬ z = 0) : mtw l (z : Int) s = (mtw l y.pr s).bind (fun p => (bgn p.2 (hdz l (z : Int))).map (fun u => (putK (reS (z : Int) p.1) (chn l y.pr).length (dgR u).1, u.extract (dgR u).2 u.size))) := by
 unfold mtw
 rw [chn_up hs hy h0, mtL_app, show (⟨(z : Int), 0, 0, 0⟩ : Ro) = reS (z : Int) ⟨y.pr, 0, 0, 0⟩ from rfl, mtL_re, Nat.zero_add]
 cases e : mtL l (chn l y.pr) 0 s ⟨y.pr, 0, 0, 0⟩ with
 | none => rfl
 | some p =>
  simp only [Option.map_some, Option.bind_some]
  rw [mtL]
  cases q : bgn p.2 (hdz l (z : Int)) with
  | none => rfl
  | some u => rfl
theorem ch_len {l : List S5} (hs : snd l = true) {z : Int} {y : S5} (hy : l[z.toNat]? = some y) (h0 : 0 ≤ z) : ((chn l z).length : Int) = y.dp - 1 := by
 have hl := lt_of_get hy
 have q := chN_len hs z.toNat z [] (Nat.le_refl _) h0 (by omega)
 rw [dpA_at hy] at q
 unfold chn
 rw [q]
 show (0 : Int) + y.dp - 1 = _
 omega
theorem put_ud {d : Int} {k : Nat} {r : Ro} {z n : Int} (h : (k : Int) = d - 2) : putK (reS z r) k n = udR d r z n := by
 unfold putK reS udR setR
 by_cases a : k = 0
 ·rw [if_pos a, if_pos (show d = 2 by omega)]
 ·by_cases b : k = 1
  ·rw [if_neg a, if_pos b, if_neg (show ¬ d = 2 by omega), if_pos (show d = 3 by omega)]
  ·rw [if_neg a, if_neg b, if_neg (show ¬ d = 2 by omega), if_neg (show ¬ d = 3 by omega)]
theorem mtw_at {l : List S5} {z : Nat} {y : S5} {s : ByteArray} (hs : snd l = true) (hy : l[z]? = some y) (h0 : ¬ z = 0) : mtw l (z : Int) s = (mtw l y.pr s).bind (fun p => (bgn p.2 (hdz l (z : Int))).map (fun u => (udR y.dp p.1 (z : Int) (dgR u).1, u.extract (dgR u).2 u.size))) := by
 obtain ⟨x, hx, p0, p1, hd, hd2, hd4⟩ := pr_at hs hy h0
 have hc := ch_len hs hx p0
 rw [mtw_up hs hy h0]
 congr 1
 funext p
 congr 1
 funext u
 rw [put_ud (d := y.dp) (by omega)]
def zer (d : Int) (r : Ro) : Prop := (d ≤ 1 → r.a = 0) ∧ (d ≤ 2 → r.b = 0) ∧ (d ≤ 3 → r.c = 0)
theorem ids_zer {d : Int} {r : Ro} (h : ids d r = true) : zer d r := by
 unfold ids idu at h
 simp only [Bool.and_eq_true] at h
 obtain ⟨a, b, c⟩ := h
 refine ⟨fun q => ?_, fun q => ?_, fun q => ?_⟩
 ·rw [if_neg (by omega)] at a; exact of_decide_eq_true a
 ·rw [if_neg (by omega)] at b; exact of_decide_eq_true b
 ·rw [if_neg (by omega)] at c; exact of_decide_eq_true c
theorem dcase {d : Int} (h2 : 2 ≤ d) (h4 : d ≤ 4) : d = 2 ∨ d = 3 ∨ d = 4 := by omega
theorem zer_ud {d : Int} {r : Ro} {z n : Int} (h2 : 2 ≤ d) (h4 : d ≤ 4) (h : zer (d - 1) r) : zer d (udR d r z n) := by
 obtain ⟨a, b, c⟩ := h
 rcases dcase h2 h4 with rfl | rfl | rfl <;> simp [zer, udR, setR] at a b c ⊢ <;> simp_all
theorem ck_ud {l : List S5} {z : Nat} {y : S5} {q : Ro} {n : Int} (hs : snd l = true) (hy : l[z]? = some y) (h0 : ¬ z = 0) (hq : ckR l q = 0) (hp : q.s = y.pr) (hn : idk n = true) : ckR l (udR y.dp q (z : Int) n) = 0 := by
 obtain ⟨x, hx, p0, p1, hd, hd2, hd4⟩ := pr_at hs hy h0
 obtain ⟨_, _, _, hi⟩ := ck_0 hq
 rw [hp, dpA_at hx] at hi
 have hlz := lt_of_get hy
 refine ck_yes (y := y) hs (by show (0 : Int) ≤ z; omega) (by show (z : Int) < _; omega) (by show l[((z : Int)).toNat]? = _; rw [Int.toNat_natCast]; exact hy) ?_
 rw [show x.dp = y.dp - 1 by omega] at hi
 rcases dcase hd2 hd4 with e | e | e <;> (rw [e] at hi ⊢; simp [ids, idu, udR, setR] at hi ⊢; simp_all)
theorem par_ud {l : List S5} {z : Nat} {y : S5} {q : Ro} {n : Int} (hy : l[z]? = some y) (hd2 : 2 ≤ y.dp) (hd4 : y.dp ≤ 4) (hp : q.s = y.pr) (hz : zer (y.dp - 1) q) : parU l (udR y.dp q (z : Int) n) = q := by
 have e1 : (udR y.dp q (z : Int) n).s.toNat = z := Int.toNat_natCast z
 unfold parU
 rw [e1, dpA_at hy, prA_at hy, ← hp]
 obtain ⟨a, b, c⟩ := hz
 obtain ⟨s, qa, qb, qc⟩ := q
 rcases dcase hd2 hd4 with e | e | e <;> (rw [e] at a b c ⊢; simp [udR, setR] at a b c ⊢; simp_all)
theorem id_ud {d : Int} {r : Ro} {z n : Int} (h2 : 2 ≤ d) (h4 : d ≤ 4) : idR d (udR d r z n) = n := by
 rcases dcase h2 h4 with rfl | rfl | rfl <;> simp [idR, udR, setR]
theorem id_ok {d : Int} {r : Ro} (h2 : 2 ≤ d) (h4 : d ≤ 4) (h : ids d r = true) : idk (idR d r) = true := by
 rcases dcase h2 h4 with rfl | rfl | rfl <;> (simp [ids, idu, idR] at h ⊢; simp_all)
theorem mtw_f {l : List S5} (hs : snd l = true) (s : ByteArray) : ∀ (k z : Nat) (y : S5), z < k → l[z]? = some y → ∀ r u, mtw l (z : Int) s = some (r, u) → r.s = (z : Int) ∧ zer y.dp r
 | 0, z, y, h, _, _, _, _ => absurd h (Nat.not_lt_zero z)
 | k + 1, z, y, h, hy, r, u, e => by
  by_cases h0 : z = 0
  ·subst h0
   rw [show ((0 : Nat) : Int) = 0 from rfl, mtw_0] at e
   cases e
   exact ⟨rfl, fun _ => rfl, fun _ => rfl, fun _ => rfl⟩
  ·obtain ⟨x, hx, p0, p1, hd, hd2, hd4⟩ := pr_at hs hy h0
   rw [mtw_at hs hy h0] at e
   cases q : mtw l y.pr s with
   | none => rw [q] at e; cases e
   | some p =>
    rw [q, Option.bind_some] at e
    cases b : bgn p.2 (hdz l (z : Int)) with
    | none => rw [b] at e; cases e
    | some v =>
     rw [b] at e
     cases e
     refine ⟨rfl, zer_ud hd2 hd4 ?_⟩
     have hpp : ((y.pr.toNat : Nat) : Int) = y.pr := by omega
     have := mtw_f hs s k y.pr.toNat x (by omega) hx p.1 p.2 (by rw [hpp]; exact q)
     rw [show y.dp - 1 = x.dp by omega]
     exact this.2
theorem hdz_seg {l : List S5} {z : Nat} {y : S5} {r : Ro} (hy : l[z]? = some y) (hr : r.s = (z : Int)) (h : ckR l r = 0) (h0 : ¬ z = 0) : seg l r = hdz l (z : Int) ++ itB (idR y.dp r) := by
 have e : r.s.toNat = z := by rw [hr]; exact Int.toNat_natCast z
 rw [seg_at (y := y) (by rw [e]; exact hy), hdz_at (y := y) (by rw [Int.toNat_natCast]; exact hy), id_v h (by omega) (by rw [e]; exact hy)]
 rfl
theorem mtw_sz {l : List S5} (hs : snd l = true) (s : ByteArray) : ∀ (k z : Nat) (y : S5), z < k → l[z]? = some y → ∀ r u, mtw l (z : Int) s = some (r, u) → (∃ A, s = A ++ u) ∧ (ckR l r = 0 → (txW l r).size + u.size ≤ s.size)
 | 0, z, y, h, _, _, _, _ => absurd h (Nat.not_lt_zero z)
 | k + 1, z, y, h, hy, r, u, e => by
  by_cases h0 : z = 0
  ·subst h0
   rw [show ((0 : Nat) : Int) = 0 from rfl, mtw_0] at e
   cases e
   exact ⟨⟨⟨#[]⟩, (ByteArray.empty_append).symm⟩, fun _ => by rw [txW_0 rfl]; show 0 + _ ≤ _; omega⟩
  ·obtain ⟨x, hx, p0, p1, hd, hd2, hd4⟩ := pr_at hs hy h0
   rw [mtw_at hs hy h0] at e
   cases q : mtw l y.pr s with
   | none => rw [q] at e; cases e
   | some p =>
    rw [q, Option.bind_some] at e
    cases b : bgn p.2 (hdz l (z : Int)) with
    | none => rw [b] at e; cases e
    | some v =>
     rw [b] at e
     cases e
     have hpp : ((y.pr.toNat : Nat) : Int) = y.pr := by omega
     obtain ⟨⟨A, hA⟩, ih⟩ := mtw_sz hs s k y.pr.toNat x (by omega) hx p.1 p.2 (by rw [hpp]; exact q)
     have hf := mtw_f hs s (y.pr.toNat + 1) y.pr.toNat x (by omega) hx p.1 p.2 (by rw [hpp]; exact q)
     have hb := bgn_s b
     have hv : v = v.extract 0 (dgR v).2 ++ v.extract (dgR v).2 v.size := by
      have h9 := dgF_le v v.size 0 0 (Nat.zero_le _)
      have h8 : (dgR v).2 ≤ v.size := h9
      rw [ByteArray.extract_append_extract]
      simp [Nat.max_eq_right h8]
     refine ⟨⟨A ++ (hdz l (z : Int) ++ v.extract 0 (dgR v).2), ?_⟩, fun hc => ?_⟩
     ·rw [ByteArray.append_assoc, ByteArray.append_assoc, ← hv, ← hb]; exact hA
     ·have hr0 : ¬ (udR y.dp p.1 (z : Int) (dgR v).1).s = 0 := by show ¬ (z : Int) = 0; omega
      have hpar := par_ud (n := (dgR v).1) hy hd2 hd4 (by rw [hf.1]; exact hpp) (by rw [show y.dp - 1 = x.dp by omega]; exact hf.2)
      have hcp := par_ck hc hr0
      rw [hpar] at hcp
      have i2 := ih hcp
      have hik : idk (dgR v).1 = true := by
       obtain ⟨_, _, _, hi⟩ := ck_0 hc
       rw [show (udR y.dp p.1 (z : Int) (dgR v).1).s.toNat = z from Int.toNat_natCast z, dpA_at hy] at hi
       have := id_ok hd2 hd4 hi
       rw [id_ud hd2 hd4] at this
       exact this
      have h1 : 1 ≤ (dgR v).1 := by unfold idk at hik; simp at hik; exact hik.1
      obtain ⟨s1, s2⟩ := dg_sz h1
      rw [txW_up hc hr0, hpar, hdz_seg hy rfl hc h0, id_ud hd2 hd4]
      have e1 := congrArg ByteArray.size hb
      rw [ByteArray.size_append] at e1
      rw [ByteArray.size_append, ByteArray.size_append, ByteArray.size_extract]
      omega
end Go.Proofs.YtnffhcjmpjajlaaDoor.V
namespace Go.Proofs.YtnffhcjmpjajlaaDoor.V
open Go.RowKit D
theorem bqL_get {l : List S5} {s : ByteArray} : ∀ (n i : Nat), i < n → (bqL l s n)[i]? = some (bqS l s (bqL l s i) i)
 | 0, i, h => absurd h (Nat.not_lt_zero i)
 | n + 1, i, h => by
  rw [bqL]
  by_cases e : i < n
  ·rw [List.getElem?_append_left (by rw [bqL_len]; exact e)]; exact bqL_get n i e
  ·rw [List.getElem?_append_right (by rw [bqL_len]; omega), bqL_len, show i - n = 0 by omega, show i = n by omega]; rfl
def vz (l : List S5) (s : ByteArray) (z : Nat) : Bg := if z = 0 then ⟨ro0, s, true⟩ else bqS l s (bqL l s z) z
theorem bqS_0 {l : List S5} {s : ByteArray} {acc : List Bg} {x : S5} (h : l[0]? = some x) : bqS l s acc 0 = ⟨ro0, (bgn s ⟨#[47]⟩).getD s, bgB s ⟨#[47]⟩⟩ := by unfold bqS; rw [h]; rfl
theorem vz_up {l : List S5} {s : ByteArray} {z : Nat} {y : S5} (hs : snd l = true) (hy : l[z]? = some y) (h0 : ¬ z = 0) : vz l s z = match cst (vz l s y.pr.toNat).s y.nm with
  | none => bg0
  | some c => ⟨udR y.dp (vz l s y.pr.toNat).r (z : Int) c.1, c.2, true⟩ := by
 obtain ⟨x, hx, p0, p1, hd, hd2, hd4⟩ := pr_at hs hy h0
 have hg := bqL_get (l := l) (s := s) z y.pr.toNat (by omega)
 have e : vz l s z = bqS l s (bqL l s z) z := by unfold vz; rw [if_neg h0]
 have er : (bqS l s (bqL l s y.pr.toNat) y.pr.toNat).r = (vz l s y.pr.toNat).r := by
  unfold vz
  split
  next q =>
   obtain ⟨x0, hx0⟩ := get_of_lt (show 0 < l.length by have := lt_of_get hy; omega)
   rw [q, bqS_0 hx0]
  next => rfl
 have es : (if y.pr = 0 then s else (bqS l s (bqL l s y.pr.toNat) y.pr.toNat).s) = (vz l s y.pr.toNat).s := by
  unfold vz
  by_cases q : y.pr = 0
  ·rw [if_pos q, if_pos (by omega)]
  ·rw [if_neg q, if_neg (by omega)]
 rw [e]
 unfold bqS
 rw [hy]
 dsimp only
 rw [if_neg h0, hg]
 dsimp only
 rw [es, er]
 cases cst (vz l s y.pr.toNat).s y.nm <;> rfl
theorem cst_0 {nm : ByteArray} : cst ⟨#[]⟩ nm = none := by
 unfold cst bgn
 rw [if_pos (by show 0 < _; unfold catB; simp only [ByteArray.size_append, s47, s58]; omega)]
 rfl
theorem hd_nm {l : List S5} {z : Nat} {y : S5} (hy : l[z]? = some y) : hdz l (z : Int) = catB (catB ⟨#[47]⟩ y.nm) ⟨#[58]⟩ := hdz_at (by rw [Int.toNat_natCast]; exact hy)
theorem cst_inv {R nm u : ByteArray} {n : Int} (h : cst R nm = some (n, u)) : ∃ v, bgn R (catB (catB ⟨#[47]⟩ nm) ⟨#[58]⟩) = some v ∧ cid v = some (n, u) := by
 unfold cst at h
 cases e : bgn R (catB (catB ⟨#[47]⟩ nm) ⟨#[58]⟩) with
 | none => rw [e] at h; cases h
 | some v => rw [e] at h; exact ⟨v, rfl, h⟩
def KeyT (l : List S5) (s : ByteArray) (z : Nat) : Prop := mtw l (z : Int) s = some ((vz l s z).r, (vz l s z).s) ∧ ckR l (vz l s z).r = 0 ∧ (vz l s z).r.s = (z : Int) ∧ s = txW l (vz l s z).r ++ (vz l s z).s
def KeyF (l : List S5) (s : ByteArray) (z : Nat) : Prop := vz l s z = bg0 ∧ ∀ r u, mtw l (z : Int) s = some (r, u) → ckR l r = 0 → s ≠ txW l r ++ u
theorem key {l : List S5} (hs : snd l = true) (s : ByteArray) : ∀ (k z : Nat) (y : S5), z < k → l[z]? = some y → ((vz l s z).b = true → KeyT l s z) ∧ ((vz l s z).b = false → KeyF l s z)
 | 0, z, y, h, _ => absurd h (Nat.not_lt_zero z)
 | k + 1, z, y, h, hy => by
  by_cases h0 : z = 0
  ·subst h0
   have e : vz l s 0 = ⟨ro0, s, true⟩ := rfl
   have hd := dp_root hs hy
   refine ⟨fun _ => ?_, fun q => by rw [e] at q; cases q⟩
   unfold KeyT
   rw [e]
   refine ⟨mtw_0 l s, ?_, rfl, ?_⟩
   ·refine ck_yes (y := y) hs (by show (0 : Int) ≤ 0; omega) (by have := lt_of_get hy; show (0 : Int) < _; omega) hy ?_
    rw [hd]; rfl
   ·rw [txW_0 rfl]; exact (ByteArray.empty_append).symm
  ·obtain ⟨x, hx, p0, p1, hd, hd2, hd4⟩ := pr_at hs hy h0
   have hpp : ((y.pr.toNat : Nat) : Int) = y.pr := by omega
   obtain ⟨ihT, ihF⟩ := key hs s k y.pr.toNat x (by omega) hx
   have hu := vz_up (s := s) hs hy h0
   have hm := mtw_at (s := s) hs hy h0
   cases hc : cst (vz l s y.pr.toNat).s y.nm with
   | some c =>
    rw [hc] at hu
    dsimp only at hu
    refine ⟨fun _ => ?_, fun q => by rw [hu] at q; cases q⟩
    obtain ⟨v, hv1, hv2⟩ := cst_inv (n := c.1) (u := c.2) hc
    have hb : (vz l s y.pr.toNat).b = true := by
     cases q : (vz l s y.pr.toNat).b with
     | true => rfl
     | false =>
      have := (ihF q).1
      rw [this] at hc
      rw [show bg0.s = ⟨#[]⟩ from rfl, cst_0] at hc
      cases hc
    obtain ⟨t1, t2, t3, t4⟩ := ihT hb
    obtain ⟨c1, c2, c3, c4⟩ := cid_t hv2
    rw [hpp] at t1 t3
    have hck := ck_ud (n := c.1) hs hy h0 t2 t3 c2
    have hz : zer (y.dp - 1) (vz l s y.pr.toNat).r := by
     obtain ⟨_, _, _, hi⟩ := ck_0 t2
     rw [t3, dpA_at hx] at hi
     rw [show y.dp - 1 = x.dp by omega]
     exact ids_zer hi
    unfold KeyT
    rw [hu]
    refine ⟨?_, hck, rfl, ?_⟩
    ·rw [hm, t1, Option.bind_some, hd_nm hy, hv1, Option.map_some, c4, show (dgR v).1 = c.1 from by rw [c3]]
    ·dsimp only
     rw [txW_up hck (by show ¬ (z : Int) = 0; omega), par_ud hy hd2 hd4 t3 hz, hdz_seg hy rfl hck h0, id_ud hd2 hd4, ByteArray.append_assoc, ByteArray.append_assoc, ← c1, hd_nm hy, ← bgn_s hv1]
     exact t4
   | none =>
    rw [hc] at hu
    dsimp only at hu
    refine ⟨fun q => (by rw [hu] at q; cases q), fun _ => ⟨hu, fun r u e hck hst => ?_⟩⟩
    rw [hm] at e
    cases q : mtw l y.pr s with
    | none => rw [q] at e; cases e
    | some p =>
     rw [q, Option.bind_some] at e
     cases b : bgn p.2 (hdz l (z : Int)) with
     | none => rw [b] at e; cases e
     | some v =>
      rw [b] at e
      cases e
      have hf := mtw_f hs s (y.pr.toNat + 1) y.pr.toNat x (by omega) hx p.1 p.2 (by rw [hpp]; exact q)
      obtain ⟨⟨A, hA⟩, hsz⟩ := mtw_sz hs s (y.pr.toNat + 1) y.pr.toNat x (by omega) hx p.1 p.2 (by rw [hpp]; exact q)
      have hr0 : ¬ (udR y.dp p.1 (z : Int) (dgR v).1).s = 0 := by show ¬ (z : Int) = 0; omega
      have hpar := par_ud (n := (dgR v).1) hy hd2 hd4 (by rw [hf.1]; exact hpp) (by rw [show y.dp - 1 = x.dp by omega]; exact hf.2)
      have hcp := par_ck hck hr0
      rw [hpar] at hcp
      have i2 := hsz hcp
      have hik : idk (dgR v).1 = true := by
       obtain ⟨_, _, _, hi⟩ := ck_0 hck
       rw [show (udR y.dp p.1 (z : Int) (dgR v).1).s.toNat = z from Int.toNat_natCast z, dpA_at hy] at hi
       have := id_ok hd2 hd4 hi
       rw [id_ud hd2 hd4] at this
       exact this
      have h1 : 1 ≤ (dgR v).1 := by unfold idk at hik; simp at hik; exact hik.1
      obtain ⟨s1, s2⟩ := dg_sz h1
      have hb := bgn_s b
      rw [txW_up hck hr0, hpar, hdz_seg hy rfl hck h0, id_ud hd2 hd4, ByteArray.append_assoc, ByteArray.append_assoc] at hst
      have z1 := congrArg ByteArray.size hst
      have z2 := congrArg ByteArray.size hb
      simp only [ByteArray.size_append, ByteArray.size_extract] at z1 z2
      have hu2 := app_sz (hA.symm.trans hst) (by simp only [ByteArray.size_append, ByteArray.size_extract]; omega)
      have hs2 : s = txW l p.1 ++ p.2 := by rw [hu2.2]; exact hst
      have hvv : v = itB (dgR v).1 ++ v.extract (dgR v).2 v.size := app_l (hb.symm.trans hu2.2)
      have hbt : (vz l s y.pr.toNat).b = true := by
       cases w : (vz l s y.pr.toNat).b with
       | true => rfl
       | false => exact absurd hs2 ((ihF w).2 p.1 p.2 (by rw [hpp]; exact q) hcp)
      have t1 := (ihT hbt).1
      rw [hpp, q] at t1
      have ep : p.2 = (vz l s y.pr.toNat).s := congrArg Prod.snd (Option.some.inj t1)
      have hcid := cid_s hik rfl hvv
      rw [← ep] at hc
      unfold cst at hc
      rw [← hd_nm hy, b, Option.bind_some, hcid] at hc
      cases hc
end Go.Proofs.YtnffhcjmpjajlaaDoor.V
namespace Go.Proofs.YtnffhcjmpjajlaaDoor.V
open Go.RowKit D
def zIt (nm : ByteArray) (k : Int) : It := ⟨nm, k, 0, 0, false, 0, ⟨0, 0, ⟨#[]⟩, ⟨#[]⟩, ⟨0, ⟨false, 0, 0, 0, 0, 0⟩, false, ⟨#[]⟩, 0⟩, 0, 0, none, 0, []⟩⟩
def l3 (pa : Option Addr) : List S5 := [⟨-1, 1, ⟨#[]⟩, 0, none, 0, []⟩, ⟨0, 2, ⟨#[106, 111, 98, 115]⟩, 5, none, 0, []⟩, ⟨1, 3, ⟨#[100, 97, 121, 115]⟩, 5, pa, 1, [zIt ⟨#[104]⟩ 1]⟩]
def r3 : Ro := ⟨2, 3, 7, 0⟩
theorem par_l3 (pa : Option Addr) : parR (l3 pa) r3 = ⟨1, 3, 0, 0⟩ ∧ parO (l3 pa) r3 = true := ⟨by kernel_rfl, by kernel_rfl⟩
theorem id_l3 (pa : Option Addr) : idA (l3 pa) r3 = 7 := by kernel_rfl
theorem tx_l3 (pa : Option Addr) : txR (l3 pa) r3 = ⟨#[47, 106, 111, 98, 115, 58, 51, 47, 100, 97, 121, 115, 58, 55]⟩ := by kernel_rfl
theorem tc_l3 (pa : Option Addr) : txC (l3 pa) ⟨r3, 0⟩ = ⟨#[47, 106, 111, 98, 115, 58, 51, 47, 100, 97, 121, 115, 58, 55, 46, 104]⟩ := by kernel_rfl
end Go.Proofs.YtnffhcjmpjajlaaDoor.V

namespace Go.Proofs.YtnffhcjmpjajlaaDoor.V
open Go.RowKit D
section
variable {P : Program} {o : Oper} {n : Nat} {l : List (Nat × Value)} {w : World} {ops : Array Oper} {rest : List Oper} {Q : Exit → Act → World → Prop}
theorem wl_bs (ty : TypeId) (m : Nat) (xs : List (Nat × Operand)) (ps : List (Nat × Value)) (cs : Array Value) (e : TypeId) (ho : o.op = .buildSlice ty m xs.toArray) (hx : xs.map (fun p => (p.1, evl n l p.2)) = ps)
  (h : ∀ w, (Instr.buildSlice ty m ps.toArray).run P w = .ok (.slice (some ⟨w.heap.size, 0, none⟩) m m) (w.alloc (.cells cs e))) (hg : wnt n l ops o = true)
  (hk : ∀ k w', w.heap.size = k → w'.heap.size = k + 1 → Mw w w' → At w' k cs.toList → WL P ops Q rest n (ext l o.dst (.slice (some ⟨k, 0, none⟩) m m)) w') : WL P ops Q (o :: rest) n l w := by
 subst hx
 refine ⟨l_step hg (o_val (.slice (some ⟨w.heap.size, 0, none⟩) m m) (w' := w.alloc (.cells cs e)) ?_ (hk _ _ rfl (by simp) ((Mw.refl _).alloc _ _) (At.new w cs e)).out)⟩
 simp [execOp, ho, h]
end
theorem ll3 {w : World} {k ki : Nat} (h : At w k ((l3 (some ⟨ki, 0, none⟩)).flatMap S5.cells)) (hi : At w ki (zIt ⟨#[104]⟩ 1).cells) : LL w (some ⟨k, 0, none⟩) (l3 (some ⟨ki, 0, none⟩)) := by
 refine ⟨SL.of_range (cells := S5.cells) (L := l3 (some ⟨ki, 0, none⟩)) (fun _ => rfl) (by show 3 ≤ maxLen; unfold maxLen; omega) h.2.2 h.1, fun x hx => ?_, fun x hx => ?_, fun x hx y hy => ?_⟩
 ·simp only [l3, List.mem_cons, List.not_mem_nil, or_false] at hx
  rcases hx with rfl | rfl | rfl
  ·exact ⟨Nat.zero_le _, fun _ _ e => by cases e⟩
  ·exact ⟨Nat.zero_le _, fun _ _ e => by cases e⟩
  ·exact SL.of_range (cells := It.cells) (L := [zIt ⟨#[104]⟩ 1]) (fun _ => rfl) (by show 1 ≤ maxLen; unfold maxLen; omega) hi.2.2 hi.1
 ·simp only [l3, List.mem_cons, List.not_mem_nil, or_false] at hx
  rcases hx with rfl | rfl | rfl
  ·show 0 ≤ _; omega
  ·show 4 ≤ _; omega
  ·show 4 ≤ _; omega
 ·simp only [l3, List.mem_cons, List.not_mem_nil, or_false] at hx
  rcases hx with rfl | rfl | rfl
  ·cases hy
  ·cases hy
  ·simp only [List.mem_cons, List.not_mem_nil, or_false] at hy
   rw [hy]; show 1 ≤ _; omega
section
variable {w : World} {k ki : Nat}
theorem lv_par (hL : LL w (some ⟨k, 0, none⟩) (l3 (some ⟨ki, 0, none⟩))) : Calls Tryd.prog 7 #[.slice (some ⟨k, 0, none⟩) 3 3, r3.v] w fun e9 w' => e9 = .returned (.tuple #[(⟨1, 3, 0, 0⟩ : Ro).v, .bool true]) ∧ Mw w w' := by
 have q := wk (ppar_n (cl := 3) (r := r3) w hL (Nat.le_refl 3))
 rw [(par_l3 _).1, (par_l3 _).2] at q
 exact q
theorem lv_txt (hL : LL w (some ⟨k, 0, none⟩) (l3 (some ⟨ki, 0, none⟩))) (hTb : TB w) : Calls Tryd.prog 16 #[.slice (some ⟨k, 0, none⟩) 3 3, r3.v] w fun e9 w' => e9 = .returned (.string ⟨#[47, 106, 111, 98, 115, 58, 51, 47, 100, 97, 121, 115, 58, 55]⟩) ∧ Mw w w' := by
 have q := ptxt_n (cl := 3) (r := r3) w hL (Nat.le_refl 3) hTb
 rw [tx_l3] at q
 exact q
theorem lv_ctx (hL : LL w (some ⟨k, 0, none⟩) (l3 (some ⟨ki, 0, none⟩))) (hTb : TB w) : Calls Tryd.prog 18 #[.slice (some ⟨k, 0, none⟩) 3 3, (⟨r3, 0⟩ : Ce).v] w fun e9 w' => e9 = .returned (.string ⟨#[47, 106, 111, 98, 115, 58, 51, 47, 100, 97, 121, 115, 58, 55, 46, 104]⟩) ∧ Mw w w' := by
 have q := pctx_n (cl := 3) (c := ⟨r3, 0⟩) w hL (Nat.le_refl 3) hTb
 rw [tc_l3] at q
 exact q
theorem lv_id (hL : LL w (some ⟨k, 0, none⟩) (l3 (some ⟨ki, 0, none⟩))) : Calls Tryd.prog 14 #[.slice (some ⟨k, 0, none⟩) 3 3, r3.v] w fun e9 w' => e9 = .returned (.int .i64 7) ∧ Mw w w' := by
 have q := wk (pid_n (cl := 3) (r := r3) w hL (Nat.le_refl 3))
 rw [id_l3] at q
 exact q
end
theorem live_n  (w : World) (hTb : TB w) : Calls Tryd.prog 9 #[] w fun e9 w' => e9 = .returned (.bool true) ∧ Mw w w' := by
 refine w_enter 45 Tryd.func9 Tryd.ntmps9 rfl rfl ?_
 have M : Mw w w := Mw.refl _
 refine w_seq (w_reg ?_)
 refine wl_m (.const (.bool false)) (.bool false) ?_
 refine w_nil (xn_then (w_seq (w_reg ?_)))
 refine wl_build 65 [(0, (.const (.int .i64 (-1)))), (1, (.const (.int .i64 (1))))] [(0, .int .i64 (-1)), (1, .int .i64 (1))] (.agg #[.int .i64 (-1), .int .i64 (1), .string ⟨#[]⟩, .int .i64 0, .slice none 0 0]) rfl rfl (by kernel_rfl) rfl ?_
 refine wl_build 65 [(0, (.const (.int .i64 (0)))), (1, (.const (.int .i64 (2)))), (2, (.const (.string ⟨#[106, 111, 98, 115]⟩))), (3, (.const (.int .i64 (5))))] [(0, .int .i64 (0)), (1, .int .i64 (2)), (2, .string (⟨#[106, 111, 98, 115]⟩)), (3, .int .i64 (5))] (.agg #[.int .i64 (0), .int .i64 (2), .string (⟨#[106, 111, 98, 115]⟩), .int .i64 (5), .slice none 0 0]) rfl rfl (by kernel_rfl) rfl ?_
 refine wl_build 79 [(0, (.const (.string ⟨#[104]⟩))), (1, (.const (.int .i64 (1))))] [(0, .string ⟨#[104]⟩), (1, .int .i64 (1))] (.agg #[.string ⟨#[104]⟩, .int .i64 (1), .int .i64 0, .int .i64 0, .bool false, .int .i64 0, .int .i64 0, .int .i64 0, .string ⟨#[]⟩, .string ⟨#[]⟩, .int .i64 0, .bool false, .int .u64 0, .int .u64 0, .int .u64 0, .int .u64 0, .int .i64 0, .bool false, .string ⟨#[]⟩, .int .i64 0, .int .i64 0, .int .i64 0, .slice none 0 0]) rfl rfl (by kernel_rfl) rfl ?_
 refine wl_bs 42 1 [(0, (.tmp 7))] [(0, .agg #[.string ⟨#[104]⟩, .int .i64 (1), .int .i64 0, .int .i64 0, .bool false, .int .i64 0, .int .i64 0, .int .i64 0, .string ⟨#[]⟩, .string ⟨#[]⟩, .int .i64 0, .bool false, .int .u64 0, .int .u64 0, .int .u64 0, .int .u64 0, .int .i64 0, .bool false, .string ⟨#[]⟩, .int .i64 0, .int .i64 0, .int .i64 0, .slice none 0 0])] #[.string ⟨#[104]⟩, .int .i64 (1), .int .i64 0, .int .i64 0, .bool false, .int .i64 0, .int .i64 0, .int .i64 0, .string ⟨#[]⟩, .string ⟨#[]⟩, .int .i64 0, .bool false, .int .u64 0, .int .u64 0, .int .u64 0, .int .u64 0, .int .i64 0, .bool false, .string ⟨#[]⟩, .int .i64 0, .int .i64 0, .int .i64 0, .slice none 0 0] 79 rfl rfl (fun _ => by kernel_rfl) rfl ?_
 intro k1 u1 hk hz hq Q1
 have N_k1 : w.heap.size ≤ k1 := by have := M.size; omega
 replace M := M.trans hq
 clear hk hz hq
 refine wl_build 65 [(0, (.const (.int .i64 (1)))), (1, (.const (.int .i64 (3)))), (2, (.const (.string ⟨#[100, 97, 121, 115]⟩))), (3, (.const (.int .i64 (5)))), (4, (.tmp 8))] [(0, .int .i64 (1)), (1, .int .i64 (3)), (2, .string (⟨#[100, 97, 121, 115]⟩)), (3, .int .i64 (5)), (4, .slice (some ⟨k1, 0, none⟩) 1 1)] (.agg #[.int .i64 (1), .int .i64 (3), .string (⟨#[100, 97, 121, 115]⟩), .int .i64 (5), .slice (some ⟨k1, 0, none⟩) 1 1]) rfl rfl (by kernel_rfl) rfl ?_
 refine wl_bs 22 3 [(0, (.tmp 5)), (1, (.tmp 6)), (2, (.tmp 9))] [(0, .agg #[.int .i64 (-1), .int .i64 (1), .string ⟨#[]⟩, .int .i64 0, .slice none 0 0]), (1, .agg #[.int .i64 (0), .int .i64 (2), .string (⟨#[106, 111, 98, 115]⟩), .int .i64 (5), .slice none 0 0]), (2, .agg #[.int .i64 (1), .int .i64 (3), .string (⟨#[100, 97, 121, 115]⟩), .int .i64 (5), .slice (some ⟨k1, 0, none⟩) 1 1])] #[.int .i64 (-1), .int .i64 (1), .string ⟨#[]⟩, .int .i64 0, .slice none 0 0, .int .i64 (0), .int .i64 (2), .string (⟨#[106, 111, 98, 115]⟩), .int .i64 (5), .slice none 0 0, .int .i64 (1), .int .i64 (3), .string (⟨#[100, 97, 121, 115]⟩), .int .i64 (5), .slice (some ⟨k1, 0, none⟩) 1 1] 65 rfl rfl (fun _ => by kernel_rfl) rfl ?_
 intro k2 u2 hk hz hq Q2
 have ne_k1_k2 : k1 ≠ k2 := by have := Q1.lt; omega
 have N_k2 : w.heap.size ≤ k2 := by have := M.size; omega
 replace Q1 := Q1.mo hq
 replace M := M.trans hq
 clear hk hz hq
 refine wl_m (.tmp 10) (.slice (some ⟨k2, 0, none⟩) 3 3) ?_
 refine w_nil (xn_then (w_seq (w_reg ?_)))
 refine wl_build 23 [(0, (.const (.int .i64 (3)))), (1, (.const (.int .i64 (7))))] [(0, .int .i64 (3)), (1, .int .i64 (7))] (.agg #[.int .i64 (3), .int .i64 (7), .int .i64 0]) rfl rfl (by kernel_rfl) rfl ?_
 refine wl_build 25 [(0, (.const (.int .i64 (2)))), (1, (.tmp 11))] [(0, .int .i64 (2)), (1, .agg #[.int .i64 (3), .int .i64 (7), .int .i64 0])] (.agg #[.int .i64 (2), .int .i64 (3), .int .i64 (7), .int .i64 0]) rfl rfl (by kernel_rfl) rfl ?_
 refine wl_alloc 25 #[.int .i64 0, .int .i64 0, .int .i64 0, .int .i64 0] rfl (fun _ => by kernel_rfl) rfl ?_
 intro k3 u3 hk hz hq Q3
 have ne_k1_k3 : k1 ≠ k3 := by have := Q1.lt; omega
 have ne_k2_k3 : k2 ≠ k3 := by have := Q2.lt; omega
 have N_k3 : w.heap.size ≤ k3 := by have := M.size; omega
 replace Q1 := Q1.mo hq
 replace Q2 := Q2.mo hq
 replace M := M.trans hq
 clear hk hz hq
 refine wl_st 25 (.tmp 2) (.tmp 12) k3 0 #[.int .i64 (2), .int .i64 (3), .int .i64 (7), .int .i64 0] _ [.int .i64 (2), .int .i64 (3), .int .i64 (7), .int .i64 0] Q3 rfl rfl rfl rfl rfl sz25 rfl rfl rfl ?_
 intro u4 hS Qn
 replace Q3 := Qn
 clear Qn
 replace Q1 := hS.other _ _ ne_k1_k3 Q1
 replace Q2 := hS.other _ _ ne_k2_k3 Q2
 replace M := hS.mo _ N_k3 M
 clear hS
 refine w_nil (xn_then (w_seq (w_reg ?_)))
 refine wl_m (.tmp 1) (.slice (some ⟨k2, 0, none⟩) 3 3) ?_
 refine wl_l 25 (.tmp 2) (pt k3 0) (.agg #[.int .i64 (2), .int .i64 (3), .int .i64 (7), .int .i64 0]) (run_row Q3 25 0 4 _ rfl Tryd.underlying25 rfl sz25) ?_
 refine wl_call 7 [(.tmp 14), (.tmp 15)] _ [.slice (some ⟨k2, 0, none⟩) 3 3, .agg #[.int .i64 (2), .int .i64 (3), .int .i64 (7), .int .i64 0]] (.tuple #[.agg #[.int .i64 1, .int .i64 3, .int .i64 0, .int .i64 0], .bool true]) rfl rfl (fun _ _ => by kernel_rfl) (lv_par (ll3 (k := k2) (ki := k1) Q2 Q1)) rfl ?_
 intro u5 hq
 replace Q1 := Q1.mo hq
 replace Q2 := Q2.mo hq
 replace Q3 := Q3.mo hq
 replace M := M.trans hq
 clear hq
 refine wl_m (.tmp 16) (.tuple #[.agg #[.int .i64 1, .int .i64 3, .int .i64 0, .int .i64 0], .bool true]) ?_
 refine wl_un (fun v => Instr.extract v 0) (.tmp 13) (.tuple #[.agg #[.int .i64 1, .int .i64 3, .int .i64 0, .int .i64 0], .bool true]) (.agg #[.int .i64 1, .int .i64 3, .int .i64 0, .int .i64 0]) (fun _ => rfl) rfl (by kernel_rfl) rfl ?_
 refine wl_un (fun v => Instr.extract v 1) (.tmp 13) (.tuple #[.agg #[.int .i64 1, .int .i64 3, .int .i64 0, .int .i64 0], .bool true]) (.bool true) (fun _ => rfl) rfl (by kernel_rfl) rfl ?_
 refine wl_alloc 25 #[.int .i64 0, .int .i64 0, .int .i64 0, .int .i64 0] rfl (fun _ => by kernel_rfl) rfl ?_
 intro k4 u6 hk hz hq Q4
 have ne_k1_k4 : k1 ≠ k4 := by have := Q1.lt; omega
 have ne_k2_k4 : k2 ≠ k4 := by have := Q2.lt; omega
 have ne_k3_k4 : k3 ≠ k4 := by have := Q3.lt; omega
 have N_k4 : w.heap.size ≤ k4 := by have := M.size; omega
 replace Q1 := Q1.mo hq
 replace Q2 := Q2.mo hq
 replace Q3 := Q3.mo hq
 replace M := M.trans hq
 clear hk hz hq
 refine wl_st 25 (.tmp 3) (.tmp 17) k4 0 #[.int .i64 1, .int .i64 3, .int .i64 0, .int .i64 0] _ [.int .i64 1, .int .i64 3, .int .i64 0, .int .i64 0] Q4 rfl rfl rfl rfl rfl sz25 rfl rfl rfl ?_
 intro u7 hS Qn
 replace Q4 := Qn
 clear Qn
 replace Q1 := hS.other _ _ ne_k1_k4 Q1
 replace Q2 := hS.other _ _ ne_k2_k4 Q2
 replace Q3 := hS.other _ _ ne_k3_k4 Q3
 replace M := hS.mo _ N_k4 M
 clear hS
 refine wl_m (.tmp 18) (.bool true) ?_
 refine w_nil (xn_then (w_seq (w_reg ?_)))
 refine wl_m (.tmp 1) (.slice (some ⟨k2, 0, none⟩) 3 3) ?_
 refine wl_l 25 (.tmp 2) (pt k3 0) (.agg #[.int .i64 (2), .int .i64 (3), .int .i64 (7), .int .i64 0]) (run_row Q3 25 0 4 _ rfl Tryd.underlying25 rfl sz25) ?_
 refine wl_call 16 [(.tmp 19), (.tmp 20)] _ [.slice (some ⟨k2, 0, none⟩) 3 3, .agg #[.int .i64 (2), .int .i64 (3), .int .i64 (7), .int .i64 0]] (.string (⟨#[47, 106, 111, 98, 115, 58, 51, 47, 100, 97, 121, 115, 58, 55]⟩)) rfl rfl (fun _ _ => by kernel_rfl) (lv_txt (ll3 (k := k2) (ki := k1) Q2 Q1) (hTb.mw M)) rfl ?_
 intro u8 hq
 replace Q1 := Q1.mo hq
 replace Q2 := Q2.mo hq
 replace Q3 := Q3.mo hq
 replace Q4 := Q4.mo hq
 replace M := M.trans hq
 clear hq
 refine wl_b .eql 9 (.tmp 21) (.const (.string ⟨#[47, 106, 111, 98, 115, 58, 51, 47, 100, 97, 121, 115, 58, 55]⟩)) (.string (⟨#[47, 106, 111, 98, 115, 58, 51, 47, 100, 97, 121, 115, 58, 55]⟩)) (.string (⟨#[47, 106, 111, 98, 115, 58, 51, 47, 100, 97, 121, 115, 58, 55]⟩)) (.bool true) (s9 (decide_eq_true rfl) _ _ _) ?_
 refine wl_m (.tmp 22) (.bool true) ?_
 refine wl_m (.tmp 4) (.bool true) ?_
 refine wl_pick (.tmp 23) (.tmp 24) (.const (.bool false)) true (.bool true) (fun _ => rfl) rfl rfl rfl ?_
 refine wl_m (.tmp 25) (.bool true) ?_
 refine wl_l 25 (.tmp 3) (pt k4 0) (.agg #[.int .i64 1, .int .i64 3, .int .i64 0, .int .i64 0]) (run_row Q4 25 0 4 _ rfl Tryd.underlying25 rfl sz25) ?_
 refine wl_build 23 [(0, (.const (.int .i64 (3))))] [(0, .int .i64 (3))] (.agg #[.int .i64 (3), .int .i64 0, .int .i64 0]) rfl rfl (by kernel_rfl) rfl ?_
 refine wl_build 25 [(0, (.const (.int .i64 (1)))), (1, (.tmp 28))] [(0, .int .i64 (1)), (1, .agg #[.int .i64 (3), .int .i64 0, .int .i64 0])] (.agg #[.int .i64 (1), .int .i64 (3), .int .i64 0, .int .i64 0]) rfl rfl (by kernel_rfl) rfl ?_
 refine wl_b .eql 25 (.tmp 27) (.tmp 29) (.agg #[.int .i64 1, .int .i64 3, .int .i64 0, .int .i64 0]) (.agg #[.int .i64 (1), .int .i64 (3), .int .i64 0, .int .i64 0]) (.bool true) (eqR (x := ⟨1, 3, 0, 0⟩) (y := ⟨1, 3, 0, 0⟩) (sR_self _) _ _ _) ?_
 refine wl_pick (.tmp 26) (.tmp 30) (.const (.bool false)) true (.bool true) (fun _ => rfl) rfl rfl rfl ?_
 refine wl_m (.tmp 31) (.bool true) ?_
 refine wl_m (.tmp 1) (.slice (some ⟨k2, 0, none⟩) 3 3) ?_
 refine wl_l 25 (.tmp 2) (pt k3 0) (.agg #[.int .i64 (2), .int .i64 (3), .int .i64 (7), .int .i64 0]) (run_row Q3 25 0 4 _ rfl Tryd.underlying25 rfl sz25) ?_
 refine wl_build 27 [(0, (.tmp 34))] [(0, .agg #[.int .i64 (2), .int .i64 (3), .int .i64 (7), .int .i64 0])] (.agg #[.int .i64 (2), .int .i64 (3), .int .i64 (7), .int .i64 0, .int .i64 0]) rfl rfl (by kernel_rfl) rfl ?_
 refine wl_call 18 [(.tmp 33), (.tmp 35)] _ [.slice (some ⟨k2, 0, none⟩) 3 3, .agg #[.int .i64 (2), .int .i64 (3), .int .i64 (7), .int .i64 0, .int .i64 0]] (.string (⟨#[47, 106, 111, 98, 115, 58, 51, 47, 100, 97, 121, 115, 58, 55, 46, 104]⟩)) rfl rfl (fun _ _ => by kernel_rfl) (lv_ctx (ll3 (k := k2) (ki := k1) Q2 Q1) (hTb.mw M)) rfl ?_
 intro u9 hq
 replace Q1 := Q1.mo hq
 replace Q2 := Q2.mo hq
 replace Q3 := Q3.mo hq
 replace Q4 := Q4.mo hq
 replace M := M.trans hq
 clear hq
 refine wl_b .eql 9 (.tmp 36) (.const (.string ⟨#[47, 106, 111, 98, 115, 58, 51, 47, 100, 97, 121, 115, 58, 55, 46, 104]⟩)) (.string (⟨#[47, 106, 111, 98, 115, 58, 51, 47, 100, 97, 121, 115, 58, 55, 46, 104]⟩)) (.string (⟨#[47, 106, 111, 98, 115, 58, 51, 47, 100, 97, 121, 115, 58, 55, 46, 104]⟩)) (.bool true) (s9 (decide_eq_true rfl) _ _ _) ?_
 refine wl_pick (.tmp 32) (.tmp 37) (.const (.bool false)) true (.bool true) (fun _ => rfl) rfl rfl rfl ?_
 refine wl_m (.tmp 38) (.bool true) ?_
 refine wl_m (.tmp 1) (.slice (some ⟨k2, 0, none⟩) 3 3) ?_
 refine wl_l 25 (.tmp 2) (pt k3 0) (.agg #[.int .i64 (2), .int .i64 (3), .int .i64 (7), .int .i64 0]) (run_row Q3 25 0 4 _ rfl Tryd.underlying25 rfl sz25) ?_
 refine wl_call 14 [(.tmp 40), (.tmp 41)] _ [.slice (some ⟨k2, 0, none⟩) 3 3, .agg #[.int .i64 (2), .int .i64 (3), .int .i64 (7), .int .i64 0]] (.int .i64 (7)) rfl rfl (fun _ _ => by kernel_rfl) (lv_id (ll3 (k := k2) (ki := k1) Q2 Q1)) rfl ?_
 intro u10 hq
 replace Q1 := Q1.mo hq
 replace Q2 := Q2.mo hq
 replace Q3 := Q3.mo hq
 replace Q4 := Q4.mo hq
 replace M := M.trans hq
 clear hq
 refine wl_b .eql 2 (.tmp 42) (.const (.int .i64 (7))) (.int .i64 (7)) (.int .i64 (7)) (.bool true) (eq2 (r := true) rfl _ _ _) ?_
 refine wl_pick (.tmp 39) (.tmp 43) (.const (.bool false)) true (.bool true) (fun _ => rfl) rfl rfl rfl ?_
 refine wl_m (.tmp 44) (.bool true) ?_
 refine w_nil (xn_then (w_ret ?_))
 exact w_ret1 _ _ rfl rfl ⟨rfl, M⟩
end Go.Proofs.YtnffhcjmpjajlaaDoor.V
namespace Go.Proofs.YtnffhcjmpjajlaaDoor.V
open Go.RowKit D
theorem LL.take {w : World} {pl : Option Addr} {l : List S5} (h : LL w pl l) (k : Nat) : LL w pl (l.take k) :=
 ⟨⟨by have := h.sl.1; rw [List.length_take]; omega, fun i o e => h.sl.2 i o (by rw [List.getElem?_take] at e; split at e; exact e; cases e)⟩, fun x hx => h.it x (List.mem_of_mem_take hx), fun x hx => h.nm x (List.mem_of_mem_take hx), fun x hx => h.im x (List.mem_of_mem_take hx)⟩
theorem min_T {l L9 : List S5} (h9 : L9 = l.take 100) (ρ : Operand → Value) (x : Operand) (hx : ρ x = .int .i64 ((l.length : Nat) : Int)) (hc : ρ (.const (.int .i64 100)) = .int .i64 100) (ats : Array TypeId) (dst : Option Tmp) (type : TypeId) (pos : String) (after : Array Edge) (guard : Option (Nat × Bool)) (w : World) : (execOp ρ { dst, op := .call { callee := .builtin .min, args := #[x, .const (.int .i64 100)], argTypes := ats }, type, pos, after, guard }).run Tryd.prog w = .ok (.value (.int .i64 ((L9.length : Nat) : Int))) w := by
 have q : (if (100 : Int) < (l.length : Int) then (100 : Int) else (l.length : Int)) = (L9.length : Int) := by rw [h9, List.length_take]; split <;> omega
 simp [go_sem, hx, hc, Builtin.min_, Builtin.min2, q]
end Go.Proofs.YtnffhcjmpjajlaaDoor.V
