/-
  A part of the proof.
-/
import Derived.Test.YtnffhcjmpjajlaaDoorKa13
import Derived.Test.YtnffhcjmpjajlaaDoorKa11
import Derived.Test.YtnffhcjmpjajlaaDoorKa10
import Derived.Test.YtnffhcjmpjajlaaDoorKa6
import Derived.Test.YtnffhcjmpjajlaaDoorKa5
import Derived.Test.YtnffhcjmpjajlaaDoorKa4
import Derived.Test.YtnffhcjmpjajlaaDoorKa3
import Derived.Test.YtnffhcjmpjajlaaDoorKa2
import Derived.Test.YtnffhcjmpjajlaaDoorKa1
import Derived.RegionTactic
import Derived.Test.YtnffhcjmpjajlaaDoorProg
import Derived.WalkKit
import Derived.WalkSpells
import Derived.Handy
import Derived.BigQuiet
import Derived.Deep.RegionHeld3
import Derived.Deep.MidRow
import Derived.BigCall
import Derived.ChangeKeysEq
import Derived.Shelf.Small.Bits
import Derived.Shelf.Strconv.Itoa0
import Derived.Shelf.Bits.Mul64
import Derived.Deep.CutRange
import Derived.Deep.CutBlock
import Derived.ScopeJumps
import Derived.WalkMore
import Derived.Laws.StructEq
import Derived.Lib.CutLaws
import Derived.Maps.OwnSet
import Derived.WalkArith
import Derived.StringKeys
import Derived.ProofKit
import Derived.OpenShut
import Derived.ChangeArms
import Derived.Deep.Slices
import Derived.ReadAgain
import Derived.WideKeyArgs
import Derived.Maps.AppendAt
import Derived.Test.YtnffhcjmpjajlaaDoorKa9
import Derived.Test.YtnffhcjmpjajlaaDoorKa7
import Derived.Shelf.Strconv.Itoa4
import Derived.Test.YtnffhcjmpjajlaaDoorKa8
import Derived.Lib.IndexBytes
import Derived.Lib.AppendIntMem
import Derived.Lib.ItoaLen
import Derived.Laws.MakeOwn
import Derived.Test.YtnffhcjmpjajlaaDoorKa12
import Derived.Test.YtnffhcjmpjajlaaDoorKa14
import Derived.Test.YtnffhcjmpjajlaaDoorRows
import Derived.Carry
import Derived.ChangeMaps5
import Derived.ChangeSame
import Derived.ChangeVars
import Derived.JoinedOf
import Derived.RowKitTokens
import Derived.LaidLaws
import Derived.LaidHandle
import Derived.Stop.Joined
import Derived.Lib.LaidIn
import Derived.Lib.LaidTab
import Derived.SizedLaws
import Derived.Deep.Strs
namespace Go.Proofs.YtnffhcjmpjajlaaDoor.V
open Go.RowKit D
theorem bqL_get {l : List S5} {s : ByteArray} : ∀ (n i : Nat), i < n → (bqL l s n)[i]? = some (bqS l s (bqL l s i) i)
 | 0, i, h => absurd h (Nat.not_lt_zero i)
 | n + 1, i, h => by
  rw [bqL]
  by_cases e : i < n
  ·rw [List.getElem?_append_left (by rw [bqL_len]; exact e)]; exact bqL_get n i e
  ·rw [List.getElem?_append_right (by rw [bqL_len]; omega), bqL_len, show i - n = 0 by omega, show i = n by omega]; rfl
def vz (l : List S5) (s : ByteArray) (z : Nat) : Bg := if z = 0 then ⟨ro0, s, true⟩ else bqS l s (bqL l s z) z
theorem bqS_0 {l : List S5} {s : ByteArray} {acc : List Bg} {x : S5} (h : l[0]? = some x) : bqS l s acc 0 = ⟨ro0, (bgn s ⟨#[47]⟩).getD s, bgB s ⟨#[47]⟩⟩ := by unfold bqS; rw [h]; rfl
theorem vz_up {l : List S5} {s : ByteArray} {z : Nat} {y : S5} (hs : snd l = true) (hy : l[z]? = some y) (h0 : ¬ z = 0) : vz l s z = match cst (vz l s y.pr.toNat).s y.nm with
  | none => bg0
  | some c => ⟨udR y.dp (vz l s y.pr.toNat).r (z : Int) c.1, c.2, true⟩ := by
 obtain ⟨x, hx, p0, p1, hd, hd2, hd4⟩ := pr_at hs hy h0
 have hg := bqL_get (l := l) (s := s) z y.pr.toNat (by omega)
 have e : vz l s z = bqS l s (bqL l s z) z := by unfold vz; rw [if_neg h0]
 have er : (bqS l s (bqL l s y.pr.toNat) y.pr.toNat).r = (vz l s y.pr.toNat).r := by
  unfold vz
  split
  next q =>
   obtain ⟨x0, hx0⟩ := get_of_lt (show 0 < l.length by have := lt_of_get hy; omega)
   rw [q, bqS_0 hx0]
  next => rfl
 have es : (if y.pr = 0 then s else (bqS l s (bqL l s y.pr.toNat) y.pr.toNat).s) = (vz l s y.pr.toNat).s := by
  unfold vz
  by_cases q : y.pr = 0
  ·rw [if_pos q, if_pos (by omega)]
  ·rw [if_neg q, if_neg (by omega)]
 rw [e]
 unfold bqS
 rw [hy]
 dsimp only
 rw [if_neg h0, hg]
 dsimp only
 rw [es, er]
 cases cst (vz l s y.pr.toNat).s y.nm <;> rfl
theorem cst_0 {nm : ByteArray} : cst ⟨#[]⟩ nm = none := by
 unfold cst bgn
 rw [if_pos (by show 0 < _; unfold catB; simp only [ByteArray.size_append, s47, s58]; omega)]
 rfl
theorem hd_nm {l : List S5} {z : Nat} {y : S5} (hy : l[z]? = some y) : hdz l (z : Int) = catB (catB ⟨#[47]⟩ y.nm) ⟨#[58]⟩ := hdz_at (by rw [Int.toNat_natCast]; exact hy)
theorem cst_inv {R nm u : ByteArray} {n : Int} (h : cst R nm = some (n, u)) : ∃ v, bgn R (catB (catB ⟨#[47]⟩ nm) ⟨#[58]⟩) = some v ∧ cid v = some (n, u) := by
 unfold cst at h
 cases e : bgn R (catB (catB ⟨#[47]⟩ nm) ⟨#[58]⟩) with
 | none => rw [e] at h; cases h
 | some v => rw [e] at h; exact ⟨v, rfl, h⟩
def KeyT (l : List S5) (s : ByteArray) (z : Nat) : Prop := mtw l (z : Int) s = some ((vz l s z).r, (vz l s z).s) ∧ ckR l (vz l s z).r = 0 ∧ (vz l s z).r.s = (z : Int) ∧ s = txW l (vz l s z).r ++ (vz l s z).s
def KeyF (l : List S5) (s : ByteArray) (z : Nat) : Prop := vz l s z = bg0 ∧ ∀ r u, mtw l (z : Int) s = some (r, u) → ckR l r = 0 → s ≠ txW l r ++ u
theorem key {l : List S5} (hs : snd l = true) (s : ByteArray) : ∀ (k z : Nat) (y : S5), z < k → l[z]? = some y → ((vz l s z).b = true → KeyT l s z) ∧ ((vz l s z).b = false → KeyF l s z)
 | 0, z, y, h, _ => absurd h (Nat.not_lt_zero z)
 | k + 1, z, y, h, hy => by
  by_cases h0 : z = 0
  ·subst h0
   have e : vz l s 0 = ⟨ro0, s, true⟩ := rfl
   have hd := dp_root hs hy
   refine ⟨fun _ => ?_, fun q => by rw [e] at q; cases q⟩
   unfold KeyT
   rw [e]
   refine ⟨mtw_0 l s, ?_, rfl, ?_⟩
   ·refine ck_yes (y := y) hs (by show (0 : Int) ≤ 0; omega) (by have := lt_of_get hy; show (0 : Int) < _; omega) hy ?_
    rw [hd]; rfl
   ·rw [txW_0 rfl]; exact (ByteArray.empty_append).symm
  ·obtain ⟨x, hx, p0, p1, hd, hd2, hd4⟩ := pr_at hs hy h0
   have hpp : ((y.pr.toNat : Nat) : Int) = y.pr := by omega
   obtain ⟨ihT, ihF⟩ := key hs s k y.pr.toNat x (by omega) hx
   have hu := vz_up (s := s) hs hy h0
   have hm := mtw_at (s := s) hs hy h0
   cases hc : cst (vz l s y.pr.toNat).s y.nm with
   | some c =>
    rw [hc] at hu
    dsimp only at hu
    refine ⟨fun _ => ?_, fun q => by rw [hu] at q; cases q⟩
    obtain ⟨v, hv1, hv2⟩ := cst_inv (n := c.1) (u := c.2) hc
    have hb : (vz l s y.pr.toNat).b = true := by
     cases q : (vz l s y.pr.toNat).b with
     | true => rfl
     | false =>
      have := (ihF q).1
      rw [this] at hc
      rw [show bg0.s = ⟨#[]⟩ from rfl, cst_0] at hc
      cases hc
    obtain ⟨t1, t2, t3, t4⟩ := ihT hb
    obtain ⟨c1, c2, c3, c4⟩ := cid_t hv2
    rw [hpp] at t1 t3
    have hck := ck_ud (n := c.1) hs hy h0 t2 t3 c2
    have hz : zer (y.dp - 1) (vz l s y.pr.toNat).r := by
     obtain ⟨_, _, _, hi⟩ := ck_0 t2
     rw [t3, dpA_at hx] at hi
     rw [show y.dp - 1 = x.dp by omega]
     exact ids_zer hi
    unfold KeyT
    rw [hu]
    refine ⟨?_, hck, rfl, ?_⟩
    ·rw [hm, t1, Option.bind_some, hd_nm hy, hv1, Option.map_some, c4, show (dgR v).1 = c.1 from by rw [c3]]
    ·dsimp only
     rw [txW_up hck (by show ¬ (z : Int) = 0; omega), par_ud hy hd2 hd4 t3 hz, hdz_seg hy rfl hck h0, id_ud hd2 hd4, ByteArray.append_assoc, ByteArray.append_assoc, ← c1, hd_nm hy, ← bgn_s hv1]
     exact t4
   | none =>
    rw [hc] at hu
    dsimp only at hu
    refine ⟨fun q => (by rw [hu] at q; cases q), fun _ => ⟨hu, fun r u e hck hst => ?_⟩⟩
    rw [hm] at e
    cases q : mtw l y.pr s with
    | none => rw [q] at e; cases e
    | some p =>
     rw [q, Option.bind_some] at e
     cases b : bgn p.2 (hdz l (z : Int)) with
     | none => rw [b] at e; cases e
     | some v =>
      rw [b] at e
      cases e
      have hf := mtw_f hs s (y.pr.toNat + 1) y.pr.toNat x (by omega) hx p.1 p.2 (by rw [hpp]; exact q)
      obtain ⟨⟨A, hA⟩, hsz⟩ := mtw_sz hs s (y.pr.toNat + 1) y.pr.toNat x (by omega) hx p.1 p.2 (by rw [hpp]; exact q)
      have hr0 : ¬ (udR y.dp p.1 (z : Int) (dgR v).1).s = 0 := by show ¬ (z : Int) = 0; omega
      have hpar := par_ud (n := (dgR v).1) hy hd2 hd4 (by rw [hf.1]; exact hpp) (by rw [show y.dp - 1 = x.dp by omega]; exact hf.2)
      have hcp := par_ck hck hr0
      rw [hpar] at hcp
      have i2 := hsz hcp
      have hik : idk (dgR v).1 = true := by
       obtain ⟨_, _, _, hi⟩ := ck_0 hck
       rw [show (udR y.dp p.1 (z : Int) (dgR v).1).s.toNat = z from Int.toNat_natCast z, dpA_at hy] at hi
       have := id_ok hd2 hd4 hi
       rw [id_ud hd2 hd4] at this
       exact this
      have h1 : 1 ≤ (dgR v).1 := by unfold idk at hik; simp at hik; exact hik.1
      obtain ⟨s1, s2⟩ := dg_sz h1
      have hb := bgn_s b
      rw [txW_up hck hr0, hpar, hdz_seg hy rfl hck h0, id_ud hd2 hd4, ByteArray.append_assoc, ByteArray.append_assoc] at hst
      have z1 := congrArg ByteArray.size hst
      have z2 := congrArg ByteArray.size hb
      simp only [ByteArray.size_append, ByteArray.size_extract] at z1 z2
      have hu2 := app_sz (hA.symm.trans hst) (by simp only [ByteArray.size_append, ByteArray.size_extract]; omega)
      have hs2 : s = txW l p.1 ++ p.2 := by rw [hu2.2]; exact hst
      have hvv : v = itB (dgR v).1 ++ v.extract (dgR v).2 v.size := app_l (hb.symm.trans hu2.2)
      have hbt : (vz l s y.pr.toNat).b = true := by
       cases w : (vz l s y.pr.toNat).b with
       | true => rfl
       | false => exact absurd hs2 ((ihF w).2 p.1 p.2 (by rw [hpp]; exact q) hcp)
      have t1 := (ihT hbt).1
      rw [hpp, q] at t1
      have ep : p.2 = (vz l s y.pr.toNat).s := congrArg Prod.snd (Option.some.inj t1)
      have hcid := cid_s hik rfl hvv
      rw [← ep] at hc
      unfold cst at hc
      rw [← hd_nm hy, b, Option.bind_some, hcid] at hc
      cases hc
theorem key2 {l : List S5} {s : ByteArray} (hs : snd l = true) {i : Nat} {y : S5} {g : Bg} (hy : l[i]? = some y) (hg : (bqs l s)[i]? = some g) : (g.b = true → mtc l (i : Int) s = some (g.r, g.s) ∧ ckR l g.r = 0 ∧ g.r.s = (i : Int) ∧ s = txR l g.r ++ g.s) ∧ (g.b = false → ∀ r u, mtc l (i : Int) s = some (r, u) → ckR l r = 0 → s ≠ txR l r ++ u) := by
 have hl := lt_of_get hy
 have e : bqs l s = bqL l s l.length := by unfold bqs; rw [if_pos hs]
 rw [e, bqL_get _ _ hl] at hg
 have hg := Option.some.inj hg
 by_cases h0 : i = 0
 ·subst h0
  have hd := dp_root hs hy
  rw [bqS_0 hy] at hg
  have hm : mtc l ((0 : Nat) : Int) s = (bgn s ⟨#[47]⟩).map (fun u => (ro0, u)) := mtc_nil rfl
  have hc : ckR l ro0 = 0 := by
   refine ck_yes (y := y) hs (by show (0 : Int) ≤ 0; omega) (by show (0 : Int) < _; omega) hy ?_
   rw [hd]; rfl
  have ht : txR l ro0 = ⟨#[47]⟩ := by unfold txR; rw [if_pos hc, if_pos (txW_0 rfl)]
  subst hg
  dsimp only
  refine ⟨fun q => ?_, fun q r u e => ?_⟩
  ·have hb := bgB_t q
   obtain ⟨_, hb2⟩ := bg_at q
   rw [hm, hb2]
   refine ⟨rfl, hc, rfl, ?_⟩
   rw [ht]
   exact bgn_s hb2
  ·rw [hm, bgB_f q] at e; cases e
 ·have hv : vz l s i = g := by unfold vz; rw [if_neg h0]; exact hg
  have hk := key hs s (i + 1) i y (by omega) hy
  rw [hv] at hk
  have hr : ∀ r : Ro, r.s = (i : Int) → ckR l r = 0 → txR l r = txW l r := fun r hr hc => by
   unfold txR; rw [if_pos hc, if_neg (txW_ne hc (by omega))]
  refine ⟨fun q => ?_, fun q r u e hc => ?_⟩
  ·obtain ⟨t1, t2, t3, t4⟩ := hk.1 q
   rw [hv] at t1 t2 t3 t4
   rw [mtw_c hs hy h0, hr _ t3 t2]
   exact ⟨t1, t2, t3, t4⟩
  ·rw [mtw_c hs hy h0] at e
   rw [hr r (mtw_f hs s (i + 1) i y (by omega) hy r u e).1 hc]
   exact (hk.2 q).2 r u e hc
theorem mt_some {l : List S5} {z : Int} {s : ByteArray} {r : Ro} {u : ByteArray} (h : mtc l z s = some (r, u)) : mtB l z s = true ∧ mtS l z s = u ∧ mtR l z s = r := by
 unfold mtB mtS mtR; rw [h]; exact ⟨rfl, rfl, rfl⟩
theorem app_nil {a b : ByteArray} : a = a ++ b ↔ b = ⟨#[]⟩ := by
 constructor
 ·intro h
  have : a ++ ⟨#[]⟩ = a ++ b := by rw [show a ++ (⟨#[]⟩ : ByteArray) = a from ByteArray.append_empty]; exact h
  exact (app_l this).symm
 ·rintro rfl; exact ByteArray.append_empty.symm
theorem prs_i {l : List S5} {s : ByteArray} (hs : snd l = true) {i : Nat} {y : S5} {g : Bg} (hy : l[i]? = some y) (hg : (bqs l s)[i]? = some g) : prsA l s i = ppA (bqs l s) i := by
 obtain ⟨kT, kF⟩ := key2 hs hy hg
 rw [ppA_at hg]
 unfold prsA prsC
 cases hb : g.b with
 | true =>
  obtain ⟨t1, t2, t3, t4⟩ := kT hb
  obtain ⟨m1, m2, m3⟩ := mt_some t1
  rw [m1, m2, m3, t2]
  have : decide (txR l g.r = s) = decide (g.s = ⟨#[]⟩) := by
   apply decide_eq_decide.2
   constructor
   ·intro q; rw [← q] at t4; exact app_nil.1 t4
   ·intro q; rw [q, show txR l g.r ++ (⟨#[]⟩ : ByteArray) = txR l g.r from ByteArray.append_empty] at t4; exact t4.symm
  rw [this]
  by_cases q : g.s = ⟨#[]⟩ <;> simp [q]
 | false =>
  have : (mtB l i s && (decide (mtS l i s = ⟨#[]⟩) && (decide (ckR l (mtR l i s) = 0) && decide (txR l (mtR l i s) = s)))) = false := by
   rw [Bool.eq_false_iff]
   intro q
   simp only [Bool.and_eq_true, decide_eq_true_eq] at q
   obtain ⟨q1, q2, q3, q4⟩ := q
   obtain ⟨x, hx⟩ := Option.isSome_iff_exists.1 q1
   obtain ⟨m1, m2, m3⟩ := mt_some (r := x.1) (u := x.2) hx
   rw [m3] at q3 q4
   rw [m2] at q2
   refine kF hb x.1 x.2 hx q3 ?_
   rw [q2, show txR l x.1 ++ (⟨#[]⟩ : ByteArray) = txR l x.1 from ByteArray.append_empty]
   exact q4.symm
  rw [this]; rfl
theorem fst_congr {α : Type} {f g : Nat → Option α} : ∀ (n : Nat), (∀ i < n, f i = g i) → fstN f n = fstN g n
 | 0, _ => rfl
 | n + 1, h => by rw [fstN, fstN, fst_congr n (fun i hi => h i (by omega)), h n (by omega)]
theorem fst_map {α β : Type} {f : Nat → Option α} {h : α → β} : ∀ (n : Nat), fstN (fun k => (f k).map h) n = (fstN f n).map h
 | 0 => rfl
 | n + 1 => by
  rw [fstN, fstN, fst_map n]
  cases fstN f n <;> rfl
theorem prs_ppr (l : List S5) (s : ByteArray) : prs l s = ppr (bqs l s) := by
 unfold prs ppr
 cases hs : snd l with
 | false => rw [show bqs l s = [] from by unfold bqs; rw [hs]; rfl]; rfl
 | true =>
  have e : (bqs l s).length = l.length := by unfold bqs; rw [if_pos hs, bqL_len]
  rw [e, if_pos rfl]
  refine fst_congr _ (fun i hi => ?_)
  obtain ⟨y, hy⟩ := get_of_lt hi
  obtain ⟨g, hg⟩ := get_of_lt (show i < (bqs l s).length by omega)
  exact prs_i hs hy hg
theorem nm_at {l : List S5} {i k : Nat} {y : S5} {z : It} (hy : l[i]? = some y) (hz : y.items[k]? = some z) : nmA l (i : Int) (k : Int) = z.nm := by
 unfold nmA
 rw [Int.toNat_natCast, Int.toNat_natCast, hy]
 dsimp only
 rw [hz]
theorem prc_k {l : List S5} {s : ByteArray} (hs : snd l = true) {i k : Nat} {y : S5} {g : Bg} {z : It} (hy : l[i]? = some y) (hg : (bqs l s)[i]? = some g) (hz : y.items[k]? = some z) : prcC l s i k z.nm = (g.b && decide (g.s = catB ⟨#[46]⟩ z.nm)) ∧ (g.b = true → mtR l (i : Int) s = g.r) := by
 obtain ⟨kT, kF⟩ := key2 hs hy hg
 unfold prcC
 cases hb : g.b with
 | true =>
  obtain ⟨t1, t2, t3, t4⟩ := kT hb
  obtain ⟨m1, m2, m3⟩ := mt_some t1
  refine ⟨?_, fun _ => m3⟩
  have hl := lt_of_get hz
  have hc : ckC l ⟨g.r, (k : Int)⟩ = 0 := by
   rw [cc_v (y := y) t2 (by show l[g.r.s.toNat]? = _; rw [t3, Int.toNat_natCast]; exact hy)]
   rw [decide_eq_true (show (0 : Int) ≤ (k : Int) by omega), decide_eq_true (show (k : Int) < (y.items.length : Int) by omega)]
   rfl
  have ht : txC l ⟨g.r, (k : Int)⟩ = catB (catB (txR l g.r) ⟨#[46]⟩) z.nm := by
   unfold txC
   rw [if_pos hc]
   show catB _ (nmA l g.r.s (k : Int)) = _
   rw [t3, nm_at hy hz]
  rw [m1, m2, m3, hc, ht]
  have : decide (catB (catB (txR l g.r) ⟨#[46]⟩) z.nm = s) = decide (g.s = catB ⟨#[46]⟩ z.nm) := by
   apply decide_eq_decide.2
   unfold catB
   rw [ByteArray.append_assoc]
   constructor
   ·intro q; rw [t4] at q; exact (app_l q).symm
   ·intro q; rw [← q]; exact t4.symm
  rw [this]
  by_cases q : g.s = catB ⟨#[46]⟩ z.nm <;> simp [q]
 | false =>
  refine ⟨?_, fun q => by cases q⟩
  rw [Bool.false_and, Bool.eq_false_iff]
  intro q
  simp only [Bool.and_eq_true, decide_eq_true_eq] at q
  obtain ⟨q1, q2, q3, q4⟩ := q
  obtain ⟨x, hx⟩ := Option.isSome_iff_exists.1 q1
  obtain ⟨m1, m2, m3⟩ := mt_some (r := x.1) (u := x.2) hx
  rw [m3] at q3 q4
  rw [m2] at q2
  obtain ⟨hc, _, y', z', hy', hz', hn⟩ := cc_0 q3
  refine kF hb x.1 x.2 hx hc ?_
  have h0 : ¬ (i : Int) = 0 → x.1.s = (i : Int) := fun h0 => by
   have hx2 := hx
   rw [mtw_c hs hy (by omega)] at hx2
   exact (mtw_f hs s (i + 1) i y (by omega) hy x.1 x.2 hx2).1
  have hsx : x.1.s = (i : Int) := by
   by_cases q : i = 0
   ·subst q
    have hm : mtc l ((0 : Nat) : Int) s = (bgn s ⟨#[47]⟩).map (fun u => (ro0, u)) := mtc_nil rfl
    rw [hm] at hx
    cases e : bgn s ⟨#[47]⟩ with
    | none => rw [e] at hx; cases hx
    | some u => rw [e] at hx; cases hx; rfl
   ·exact h0 (by omega)
  rw [← q4]
  unfold txC
  rw [if_pos q3]
  show catB (catB (txR l x.1) ⟨#[46]⟩) (nmA l x.1.s (k : Int)) = _
  rw [hsx, nm_at hy hz, q2]
  unfold catB
  rw [ByteArray.append_assoc]
theorem prc_i {l : List S5} {s : ByteArray} (hs : snd l = true) {i : Nat} {y : S5} {g : Bg} (hy : l[i]? = some y) (hg : (bqs l s)[i]? = some g) : prcI l s i = pcA l (bqs l s) i := by
 rw [prcI_at hy, pcA_at hg hy]
 cases hb : g.b with
 | false =>
  rw [if_neg Bool.false_ne_true]
  refine fst_all (fun k => ?_) _
  cases hz : y.items[k]? with
  | none => unfold prcA; rw [hz]
  | some z => rw [prcA_at hz, (prc_k hs hy hg hz).1, hb]; rfl
 | true =>
  rw [if_pos rfl]
  cases hd : bgn g.s ⟨#[46]⟩ with
  | none =>
   refine fst_all (fun k => ?_) _
   cases hz : y.items[k]? with
   | none => unfold prcA; rw [hz]
   | some z =>
    rw [prcA_at hz, (prc_k hs hy hg hz).1, decide_eq_false, Bool.and_false, if_neg Bool.false_ne_true]
    intro q
    rw [q, show catB ⟨#[46]⟩ z.nm = ⟨#[46]⟩ ++ z.nm from rfl, bgn_y] at hd
    cases hd
  | some u =>
   rw [Option.bind_some]
   unfold ifN
   rw [← fst_map]
   refine fst_congr _ (fun k hk => ?_)
   obtain ⟨z, hz⟩ := get_of_lt hk
   have hq := prc_k hs hy hg hz
   rw [prcA_at hz, ifA_at hz, hq.1, hb, Bool.true_and, hq.2 hb]
   have : (g.s = catB ⟨#[46]⟩ z.nm) ↔ z.nm = u := by
    rw [bgn_s hd]
    constructor
    ·intro q; exact (app_l q).symm
    ·intro q; rw [q]; rfl
   by_cases q : z.nm = u
   ·rw [if_pos q, decide_eq_true (this.2 q), if_pos rfl]; rfl
   ·rw [if_neg q, decide_eq_false (fun r => q (this.1 r)), if_neg Bool.false_ne_true]; rfl
theorem prc_ppc (l : List S5) (s : ByteArray) : prc l s = ppc l (bqs l s) := by
 unfold prc ppc
 cases hs : snd l with
 | false => rw [show bqs l s = [] from by unfold bqs; rw [hs]; rfl]; rfl
 | true =>
  have e : (bqs l s).length = l.length := by unfold bqs; rw [if_pos hs, bqL_len]
  rw [e, if_pos rfl]
  refine fst_congr _ (fun i hi => ?_)
  obtain ⟨y, hy⟩ := get_of_lt hi
  obtain ⟨g, hg⟩ := get_of_lt (show i < (bqs l s).length by omega)
  exact prc_i hs hy hg
end Go.Proofs.YtnffhcjmpjajlaaDoor.V
namespace Go.Proofs.YtnffhcjmpjajlaaDoor.V
open Go.RowKit D
def zIt (nm : ByteArray) (k : Int) : It := ⟨nm, k, 0, 0, false, 0, ⟨0, 0, ⟨#[]⟩, ⟨#[]⟩, ⟨0, ⟨false, 0, 0, 0, 0, 0⟩, false, ⟨#[]⟩, 0⟩, 0, 0, none, 0, []⟩⟩
def l3 (pa : Option Addr) : List S5 := [⟨-1, 1, ⟨#[]⟩, 0, none, 0, []⟩, ⟨0, 2, ⟨#[106, 111, 98, 115]⟩, 5, none, 0, []⟩, ⟨1, 3, ⟨#[100, 97, 121, 115]⟩, 5, pa, 1, [zIt ⟨#[104]⟩ 1]⟩]
def r3 : Ro := ⟨2, 3, 7, 0⟩
theorem par_l3 (pa : Option Addr) : parR (l3 pa) r3 = ⟨1, 3, 0, 0⟩ ∧ parO (l3 pa) r3 = true := ⟨by kernel_rfl, by kernel_rfl⟩
theorem id_l3 (pa : Option Addr) : idA (l3 pa) r3 = 7 := by kernel_rfl
theorem tx_l3 (pa : Option Addr) : txR (l3 pa) r3 = ⟨#[47, 106, 111, 98, 115, 58, 51, 47, 100, 97, 121, 115, 58, 55]⟩ := by kernel_rfl
theorem tc_l3 (pa : Option Addr) : txC (l3 pa) ⟨r3, 0⟩ = ⟨#[47, 106, 111, 98, 115, 58, 51, 47, 100, 97, 121, 115, 58, 55, 46, 104]⟩ := by kernel_rfl
end Go.Proofs.YtnffhcjmpjajlaaDoor.V

namespace Go.Proofs.YtnffhcjmpjajlaaDoor.V
open Go.RowKit D
section
variable {P : Program} {o : Oper} {n : Nat} {l : List (Nat × Value)} {w : World} {ops : Array Oper} {rest : List Oper} {Q : Exit → Act → World → Prop}
theorem wl_bs (ty : TypeId) (m : Nat) (xs : List (Nat × Operand)) (ps : List (Nat × Value)) (cs : Array Value) (e : TypeId) (ho : o.op = .buildSlice ty m xs.toArray) (hx : xs.map (fun p => (p.1, evl n l p.2)) = ps)
  (h : ∀ w, (Instr.buildSlice ty m ps.toArray).run P w = .ok (.slice (some ⟨w.heap.size, 0, none⟩) m m) (w.alloc (.cells cs e))) (hg : wnt n l ops o = true)
  (hk : ∀ k w', w.heap.size = k → w'.heap.size = k + 1 → Mw w w' → At w' k cs.toList → WL P ops Q rest n (ext l o.dst (.slice (some ⟨k, 0, none⟩) m m)) w') : WL P ops Q (o :: rest) n l w := by
 subst hx
 refine ⟨l_step hg (o_val (.slice (some ⟨w.heap.size, 0, none⟩) m m) (w' := w.alloc (.cells cs e)) ?_ (hk _ _ rfl (by simp) ((Mw.refl _).alloc _ _) (At.new w cs e)).out)⟩
 simp [execOp, ho, h]
end
theorem ll3 {w : World} {k ki : Nat} (h : At w k ((l3 (some ⟨ki, 0, none⟩)).flatMap S5.cells)) (hi : At w ki (zIt ⟨#[104]⟩ 1).cells) : LL w (some ⟨k, 0, none⟩) (l3 (some ⟨ki, 0, none⟩)) := by
 refine ⟨SL.of_range (cells := S5.cells) (L := l3 (some ⟨ki, 0, none⟩)) (fun _ => rfl) (by show 3 ≤ maxLen; unfold maxLen; omega) h.2.2 h.1, fun x hx => ?_, fun x hx => ?_, fun x hx y hy => ?_⟩
 ·simp only [l3, List.mem_cons, List.not_mem_nil, or_false] at hx
  rcases hx with rfl | rfl | rfl
  ·exact ⟨Nat.zero_le _, fun _ _ e => by cases e⟩
  ·exact ⟨Nat.zero_le _, fun _ _ e => by cases e⟩
  ·exact SL.of_range (cells := It.cells) (L := [zIt ⟨#[104]⟩ 1]) (fun _ => rfl) (by show 1 ≤ maxLen; unfold maxLen; omega) hi.2.2 hi.1
 ·simp only [l3, List.mem_cons, List.not_mem_nil, or_false] at hx
  rcases hx with rfl | rfl | rfl
  ·show 0 ≤ _; omega
  ·show 4 ≤ _; omega
  ·show 4 ≤ _; omega
 ·simp only [l3, List.mem_cons, List.not_mem_nil, or_false] at hx
  rcases hx with rfl | rfl | rfl
  ·cases hy
  ·cases hy
  ·simp only [List.mem_cons, List.not_mem_nil, or_false] at hy
   rw [hy]; show 1 ≤ _; omega
section
variable {w : World} {k ki : Nat}
theorem lv_par (hL : LL w (some ⟨k, 0, none⟩) (l3 (some ⟨ki, 0, none⟩))) : Calls Tryd.prog 7 #[.slice (some ⟨k, 0, none⟩) 3 3, r3.v] w fun e9 w' => e9 = .returned (.tuple #[(⟨1, 3, 0, 0⟩ : Ro).v, .bool true]) ∧ Mw w w' := by
 have q := wk (ppar_n (cl := 3) (r := r3) w hL (Nat.le_refl 3))
 rw [(par_l3 _).1, (par_l3 _).2] at q
 exact q
theorem lv_txt (hL : LL w (some ⟨k, 0, none⟩) (l3 (some ⟨ki, 0, none⟩))) (hTb : TB w) : Calls Tryd.prog 16 #[.slice (some ⟨k, 0, none⟩) 3 3, r3.v] w fun e9 w' => e9 = .returned (.string ⟨#[47, 106, 111, 98, 115, 58, 51, 47, 100, 97, 121, 115, 58, 55]⟩) ∧ Mw w w' := by
 have q := ptxt_n (cl := 3) (r := r3) w hL (Nat.le_refl 3) hTb
 rw [tx_l3] at q
 exact q
theorem lv_ctx (hL : LL w (some ⟨k, 0, none⟩) (l3 (some ⟨ki, 0, none⟩))) (hTb : TB w) : Calls Tryd.prog 18 #[.slice (some ⟨k, 0, none⟩) 3 3, (⟨r3, 0⟩ : Ce).v] w fun e9 w' => e9 = .returned (.string ⟨#[47, 106, 111, 98, 115, 58, 51, 47, 100, 97, 121, 115, 58, 55, 46, 104]⟩) ∧ Mw w w' := by
 have q := pctx_n (cl := 3) (c := ⟨r3, 0⟩) w hL (Nat.le_refl 3) hTb
 rw [tc_l3] at q
 exact q
theorem lv_id (hL : LL w (some ⟨k, 0, none⟩) (l3 (some ⟨ki, 0, none⟩))) : Calls Tryd.prog 14 #[.slice (some ⟨k, 0, none⟩) 3 3, r3.v] w fun e9 w' => e9 = .returned (.int .i64 7) ∧ Mw w w' := by
 have q := wk (pid_n (cl := 3) (r := r3) w hL (Nat.le_refl 3))
 rw [id_l3] at q
 exact q
end
theorem live_n  (w : World) (hTb : TB w) : Calls Tryd.prog 9 #[] w fun e9 w' => e9 = .returned (.bool true) ∧ Mw w w' := by
 refine w_enter 45 Tryd.func9 Tryd.ntmps9 rfl rfl ?_
 have M : Mw w w := Mw.refl _
 refine w_seq (w_reg ?_)
 refine wl_m (.const (.bool false)) (.bool false) ?_
 refine w_nil (xn_then (w_seq (w_reg ?_)))
 refine wl_build 65 [(0, (.const (.int .i64 (-1)))), (1, (.const (.int .i64 (1))))] [(0, .int .i64 (-1)), (1, .int .i64 (1))] (.agg #[.int .i64 (-1), .int .i64 (1), .string ⟨#[]⟩, .int .i64 0, .slice none 0 0]) rfl rfl (by kernel_rfl) rfl ?_
 refine wl_build 65 [(0, (.const (.int .i64 (0)))), (1, (.const (.int .i64 (2)))), (2, (.const (.string ⟨#[106, 111, 98, 115]⟩))), (3, (.const (.int .i64 (5))))] [(0, .int .i64 (0)), (1, .int .i64 (2)), (2, .string (⟨#[106, 111, 98, 115]⟩)), (3, .int .i64 (5))] (.agg #[.int .i64 (0), .int .i64 (2), .string (⟨#[106, 111, 98, 115]⟩), .int .i64 (5), .slice none 0 0]) rfl rfl (by kernel_rfl) rfl ?_
 refine wl_build 79 [(0, (.const (.string ⟨#[104]⟩))), (1, (.const (.int .i64 (1))))] [(0, .string ⟨#[104]⟩), (1, .int .i64 (1))] (.agg #[.string ⟨#[104]⟩, .int .i64 (1), .int .i64 0, .int .i64 0, .bool false, .int .i64 0, .int .i64 0, .int .i64 0, .string ⟨#[]⟩, .string ⟨#[]⟩, .int .i64 0, .bool false, .int .u64 0, .int .u64 0, .int .u64 0, .int .u64 0, .int .i64 0, .bool false, .string ⟨#[]⟩, .int .i64 0, .int .i64 0, .int .i64 0, .slice none 0 0]) rfl rfl (by kernel_rfl) rfl ?_
 refine wl_bs 42 1 [(0, (.tmp 7))] [(0, .agg #[.string ⟨#[104]⟩, .int .i64 (1), .int .i64 0, .int .i64 0, .bool false, .int .i64 0, .int .i64 0, .int .i64 0, .string ⟨#[]⟩, .string ⟨#[]⟩, .int .i64 0, .bool false, .int .u64 0, .int .u64 0, .int .u64 0, .int .u64 0, .int .i64 0, .bool false, .string ⟨#[]⟩, .int .i64 0, .int .i64 0, .int .i64 0, .slice none 0 0])] #[.string ⟨#[104]⟩, .int .i64 (1), .int .i64 0, .int .i64 0, .bool false, .int .i64 0, .int .i64 0, .int .i64 0, .string ⟨#[]⟩, .string ⟨#[]⟩, .int .i64 0, .bool false, .int .u64 0, .int .u64 0, .int .u64 0, .int .u64 0, .int .i64 0, .bool false, .string ⟨#[]⟩, .int .i64 0, .int .i64 0, .int .i64 0, .slice none 0 0] 79 rfl rfl (fun _ => by kernel_rfl) rfl ?_
 intro k1 u1 hk hz hq Q1
 have N_k1 : w.heap.size ≤ k1 := by have := M.size; omega
 replace M := M.trans hq
 clear hk hz hq
 refine wl_build 65 [(0, (.const (.int .i64 (1)))), (1, (.const (.int .i64 (3)))), (2, (.const (.string ⟨#[100, 97, 121, 115]⟩))), (3, (.const (.int .i64 (5)))), (4, (.tmp 8))] [(0, .int .i64 (1)), (1, .int .i64 (3)), (2, .string (⟨#[100, 97, 121, 115]⟩)), (3, .int .i64 (5)), (4, .slice (some ⟨k1, 0, none⟩) 1 1)] (.agg #[.int .i64 (1), .int .i64 (3), .string (⟨#[100, 97, 121, 115]⟩), .int .i64 (5), .slice (some ⟨k1, 0, none⟩) 1 1]) rfl rfl (by kernel_rfl) rfl ?_
 refine wl_bs 22 3 [(0, (.tmp 5)), (1, (.tmp 6)), (2, (.tmp 9))] [(0, .agg #[.int .i64 (-1), .int .i64 (1), .string ⟨#[]⟩, .int .i64 0, .slice none 0 0]), (1, .agg #[.int .i64 (0), .int .i64 (2), .string (⟨#[106, 111, 98, 115]⟩), .int .i64 (5), .slice none 0 0]), (2, .agg #[.int .i64 (1), .int .i64 (3), .string (⟨#[100, 97, 121, 115]⟩), .int .i64 (5), .slice (some ⟨k1, 0, none⟩) 1 1])] #[.int .i64 (-1), .int .i64 (1), .string ⟨#[]⟩, .int .i64 0, .slice none 0 0, .int .i64 (0), .int .i64 (2), .string (⟨#[106, 111, 98, 115]⟩), .int .i64 (5), .slice none 0 0, .int .i64 (1), .int .i64 (3), .string (⟨#[100, 97, 121, 115]⟩), .int .i64 (5), .slice (some ⟨k1, 0, none⟩) 1 1] 65 rfl rfl (fun _ => by kernel_rfl) rfl ?_
 intro k2 u2 hk hz hq Q2
 have ne_k1_k2 : k1 ≠ k2 := by have := Q1.lt; omega
 have N_k2 : w.heap.size ≤ k2 := by have := M.size; omega
 replace Q1 := Q1.mo hq
 replace M := M.trans hq
 clear hk hz hq
 refine wl_m (.tmp 10) (.slice (some ⟨k2, 0, none⟩) 3 3) ?_
 refine w_nil (xn_then (w_seq (w_reg ?_)))
 refine wl_build 23 [(0, (.const (.int .i64 (3)))), (1, (.const (.int .i64 (7))))] [(0, .int .i64 (3)), (1, .int .i64 (7))] (.agg #[.int .i64 (3), .int .i64 (7), .int .i64 0]) rfl rfl (by kernel_rfl) rfl ?_
 refine wl_build 25 [(0, (.const (.int .i64 (2)))), (1, (.tmp 11))] [(0, .int .i64 (2)), (1, .agg #[.int .i64 (3), .int .i64 (7), .int .i64 0])] (.agg #[.int .i64 (2), .int .i64 (3), .int .i64 (7), .int .i64 0]) rfl rfl (by kernel_rfl) rfl ?_
 refine wl_alloc 25 #[.int .i64 0, .int .i64 0, .int .i64 0, .int .i64 0] rfl (fun _ => by kernel_rfl) rfl ?_
 intro k3 u3 hk hz hq Q3
 have ne_k1_k3 : k1 ≠ k3 := by have := Q1.lt; omega
 have ne_k2_k3 : k2 ≠ k3 := by have := Q2.lt; omega
 have N_k3 : w.heap.size ≤ k3 := by have := M.size; omega
 replace Q1 := Q1.mo hq
 replace Q2 := Q2.mo hq
 replace M := M.trans hq
 clear hk hz hq
 refine wl_st 25 (.tmp 2) (.tmp 12) k3 0 #[.int .i64 (2), .int .i64 (3), .int .i64 (7), .int .i64 0] _ [.int .i64 (2), .int .i64 (3), .int .i64 (7), .int .i64 0] Q3 rfl rfl rfl rfl rfl sz25 rfl rfl rfl ?_
 intro u4 hS Qn
 replace Q3 := Qn
 clear Qn
 replace Q1 := hS.other _ _ ne_k1_k3 Q1
 replace Q2 := hS.other _ _ ne_k2_k3 Q2
 replace M := hS.mo _ N_k3 M
 clear hS
 refine w_nil (xn_then (w_seq (w_reg ?_)))
 refine wl_m (.tmp 1) (.slice (some ⟨k2, 0, none⟩) 3 3) ?_
 refine wl_l 25 (.tmp 2) (pt k3 0) (.agg #[.int .i64 (2), .int .i64 (3), .int .i64 (7), .int .i64 0]) (run_row Q3 25 0 4 _ rfl Tryd.underlying25 rfl sz25) ?_
 refine wl_call 7 [(.tmp 14), (.tmp 15)] _ [.slice (some ⟨k2, 0, none⟩) 3 3, .agg #[.int .i64 (2), .int .i64 (3), .int .i64 (7), .int .i64 0]] (.tuple #[.agg #[.int .i64 1, .int .i64 3, .int .i64 0, .int .i64 0], .bool true]) rfl rfl (fun _ _ => by kernel_rfl) (lv_par (ll3 (k := k2) (ki := k1) Q2 Q1)) rfl ?_
 intro u5 hq
 replace Q1 := Q1.mo hq
 replace Q2 := Q2.mo hq
 replace Q3 := Q3.mo hq
 replace M := M.trans hq
 clear hq
 refine wl_m (.tmp 16) (.tuple #[.agg #[.int .i64 1, .int .i64 3, .int .i64 0, .int .i64 0], .bool true]) ?_
 refine wl_un (fun v => Instr.extract v 0) (.tmp 13) (.tuple #[.agg #[.int .i64 1, .int .i64 3, .int .i64 0, .int .i64 0], .bool true]) (.agg #[.int .i64 1, .int .i64 3, .int .i64 0, .int .i64 0]) (fun _ => rfl) rfl (by kernel_rfl) rfl ?_
 refine wl_un (fun v => Instr.extract v 1) (.tmp 13) (.tuple #[.agg #[.int .i64 1, .int .i64 3, .int .i64 0, .int .i64 0], .bool true]) (.bool true) (fun _ => rfl) rfl (by kernel_rfl) rfl ?_
 refine wl_alloc 25 #[.int .i64 0, .int .i64 0, .int .i64 0, .int .i64 0] rfl (fun _ => by kernel_rfl) rfl ?_
 intro k4 u6 hk hz hq Q4
 have ne_k1_k4 : k1 ≠ k4 := by have := Q1.lt; omega
 have ne_k2_k4 : k2 ≠ k4 := by have := Q2.lt; omega
 have ne_k3_k4 : k3 ≠ k4 := by have := Q3.lt; omega
 have N_k4 : w.heap.size ≤ k4 := by have := M.size; omega
 replace Q1 := Q1.mo hq
 replace Q2 := Q2.mo hq
 replace Q3 := Q3.mo hq
 replace M := M.trans hq
 clear hk hz hq
 refine wl_st 25 (.tmp 3) (.tmp 17) k4 0 #[.int .i64 1, .int .i64 3, .int .i64 0, .int .i64 0] _ [.int .i64 1, .int .i64 3, .int .i64 0, .int .i64 0] Q4 rfl rfl rfl rfl rfl sz25 rfl rfl rfl ?_
 intro u7 hS Qn
 replace Q4 := Qn
 clear Qn
 replace Q1 := hS.other _ _ ne_k1_k4 Q1
 replace Q2 := hS.other _ _ ne_k2_k4 Q2
 replace Q3 := hS.other _ _ ne_k3_k4 Q3
 replace M := hS.mo _ N_k4 M
 clear hS
 refine wl_m (.tmp 18) (.bool true) ?_
 refine w_nil (xn_then (w_seq (w_reg ?_)))
 refine wl_m (.tmp 1) (.slice (some ⟨k2, 0, none⟩) 3 3) ?_
 refine wl_l 25 (.tmp 2) (pt k3 0) (.agg #[.int .i64 (2), .int .i64 (3), .int .i64 (7), .int .i64 0]) (run_row Q3 25 0 4 _ rfl Tryd.underlying25 rfl sz25) ?_
 refine wl_call 16 [(.tmp 19), (.tmp 20)] _ [.slice (some ⟨k2, 0, none⟩) 3 3, .agg #[.int .i64 (2), .int .i64 (3), .int .i64 (7), .int .i64 0]] (.string (⟨#[47, 106, 111, 98, 115, 58, 51, 47, 100, 97, 121, 115, 58, 55]⟩)) rfl rfl (fun _ _ => by kernel_rfl) (lv_txt (ll3 (k := k2) (ki := k1) Q2 Q1) (hTb.mw M)) rfl ?_
 intro u8 hq
 replace Q1 := Q1.mo hq
 replace Q2 := Q2.mo hq
 replace Q3 := Q3.mo hq
 replace Q4 := Q4.mo hq
 replace M := M.trans hq
 clear hq
 refine wl_b .eql 9 (.tmp 21) (.const (.string ⟨#[47, 106, 111, 98, 115, 58, 51, 47, 100, 97, 121, 115, 58, 55]⟩)) (.string (⟨#[47, 106, 111, 98, 115, 58, 51, 47, 100, 97, 121, 115, 58, 55]⟩)) (.string (⟨#[47, 106, 111, 98, 115, 58, 51, 47, 100, 97, 121, 115, 58, 55]⟩)) (.bool true) (s9 (decide_eq_true rfl) _ _ _) ?_
 refine wl_m (.tmp 22) (.bool true) ?_
 refine wl_m (.tmp 4) (.bool true) ?_
 refine wl_pick (.tmp 23) (.tmp 24) (.const (.bool false)) true (.bool true) (fun _ => rfl) rfl rfl rfl ?_
 refine wl_m (.tmp 25) (.bool true) ?_
 refine wl_l 25 (.tmp 3) (pt k4 0) (.agg #[.int .i64 1, .int .i64 3, .int .i64 0, .int .i64 0]) (run_row Q4 25 0 4 _ rfl Tryd.underlying25 rfl sz25) ?_
 refine wl_build 23 [(0, (.const (.int .i64 (3))))] [(0, .int .i64 (3))] (.agg #[.int .i64 (3), .int .i64 0, .int .i64 0]) rfl rfl (by kernel_rfl) rfl ?_
 refine wl_build 25 [(0, (.const (.int .i64 (1)))), (1, (.tmp 28))] [(0, .int .i64 (1)), (1, .agg #[.int .i64 (3), .int .i64 0, .int .i64 0])] (.agg #[.int .i64 (1), .int .i64 (3), .int .i64 0, .int .i64 0]) rfl rfl (by kernel_rfl) rfl ?_
 refine wl_b .eql 25 (.tmp 27) (.tmp 29) (.agg #[.int .i64 1, .int .i64 3, .int .i64 0, .int .i64 0]) (.agg #[.int .i64 (1), .int .i64 (3), .int .i64 0, .int .i64 0]) (.bool true) (eqR (x := ⟨1, 3, 0, 0⟩) (y := ⟨1, 3, 0, 0⟩) (sR_self _) _ _ _) ?_
 refine wl_pick (.tmp 26) (.tmp 30) (.const (.bool false)) true (.bool true) (fun _ => rfl) rfl rfl rfl ?_
 refine wl_m (.tmp 31) (.bool true) ?_
 refine wl_m (.tmp 1) (.slice (some ⟨k2, 0, none⟩) 3 3) ?_
 refine wl_l 25 (.tmp 2) (pt k3 0) (.agg #[.int .i64 (2), .int .i64 (3), .int .i64 (7), .int .i64 0]) (run_row Q3 25 0 4 _ rfl Tryd.underlying25 rfl sz25) ?_
 refine wl_build 27 [(0, (.tmp 34))] [(0, .agg #[.int .i64 (2), .int .i64 (3), .int .i64 (7), .int .i64 0])] (.agg #[.int .i64 (2), .int .i64 (3), .int .i64 (7), .int .i64 0, .int .i64 0]) rfl rfl (by kernel_rfl) rfl ?_
 refine wl_call 18 [(.tmp 33), (.tmp 35)] _ [.slice (some ⟨k2, 0, none⟩) 3 3, .agg #[.int .i64 (2), .int .i64 (3), .int .i64 (7), .int .i64 0, .int .i64 0]] (.string (⟨#[47, 106, 111, 98, 115, 58, 51, 47, 100, 97, 121, 115, 58, 55, 46, 104]⟩)) rfl rfl (fun _ _ => by kernel_rfl) (lv_ctx (ll3 (k := k2) (ki := k1) Q2 Q1) (hTb.mw M)) rfl ?_
 intro u9 hq
 replace Q1 := Q1.mo hq
 replace Q2 := Q2.mo hq
 replace Q3 := Q3.mo hq
 replace Q4 := Q4.mo hq
 replace M := M.trans hq
 clear hq
 refine wl_b .eql 9 (.tmp 36) (.const (.string ⟨#[47, 106, 111, 98, 115, 58, 51, 47, 100, 97, 121, 115, 58, 55, 46, 104]⟩)) (.string (⟨#[47, 106, 111, 98, 115, 58, 51, 47, 100, 97, 121, 115, 58, 55, 46, 104]⟩)) (.string (⟨#[47, 106, 111, 98, 115, 58, 51, 47, 100, 97, 121, 115, 58, 55, 46, 104]⟩)) (.bool true) (s9 (decide_eq_true rfl) _ _ _) ?_
 refine wl_pick (.tmp 32) (.tmp 37) (.const (.bool false)) true (.bool true) (fun _ => rfl) rfl rfl rfl ?_
 refine wl_m (.tmp 38) (.bool true) ?_
 refine wl_m (.tmp 1) (.slice (some ⟨k2, 0, none⟩) 3 3) ?_
 refine wl_l 25 (.tmp 2) (pt k3 0) (.agg #[.int .i64 (2), .int .i64 (3), .int .i64 (7), .int .i64 0]) (run_row Q3 25 0 4 _ rfl Tryd.underlying25 rfl sz25) ?_
 refine wl_call 14 [(.tmp 40), (.tmp 41)] _ [.slice (some ⟨k2, 0, none⟩) 3 3, .agg #[.int .i64 (2), .int .i64 (3), .int .i64 (7), .int .i64 0]] (.int .i64 (7)) rfl rfl (fun _ _ => by kernel_rfl) (lv_id (ll3 (k := k2) (ki := k1) Q2 Q1)) rfl ?_
 intro u10 hq
 replace Q1 := Q1.mo hq
 replace Q2 := Q2.mo hq
 replace Q3 := Q3.mo hq
 replace Q4 := Q4.mo hq
 replace M := M.trans hq
 clear hq
 refine wl_b .eql 2 (.tmp 42) (.const (.int .i64 (7))) (.int .i64 (7)) (.int .i64 (7)) (.bool true) (eq2 (r := true) rfl _ _ _) ?_
 refine wl_pick (.tmp 39) (.tmp 43) (.const (.bool false)) true (.bool true) (fun _ => rfl) rfl rfl rfl ?_
 refine wl_m (.tmp 44) (.bool true) ?_
 refine w_nil (xn_then (w_ret ?_))
 exact w_ret1 _ _ rfl rfl ⟨rfl, M⟩
end Go.Proofs.YtnffhcjmpjajlaaDoor.V
namespace Go.Proofs.YtnffhcjmpjajlaaDoor.V
open Go.RowKit D
theorem LL.take {w : World} {pl : Option Addr} {l : List S5} (h : LL w pl l) (k : Nat) : LL w pl (l.take k) :=
 ⟨⟨by have := h.sl.1; rw [List.length_take]; omega, fun i o e => h.sl.2 i o (by rw [List.getElem?_take] at e; split at e; exact e; cases e)⟩, fun x hx => h.it x (List.mem_of_mem_take hx), fun x hx => h.nm x (List.mem_of_mem_take hx), fun x hx => h.im x (List.mem_of_mem_take hx)⟩
def sCe (x y : Ce) : Bool := sR x.r y.r && x.i == y.i
theorem sCe_self (x : Ce) : sCe x x = true := by simp [sCe, sR_self]
theorem ht27 : Tryd.prog.underlying 27 = some (.struct (Tryd.prog.fieldsOf 27)) := by kernel_rfl
theorem hp27 : Tryd.prog.stoodInHeld 27 = false := by kernel_rfl
theorem fo27 : (Tryd.prog.fieldsOf 27).toList.map (fun f => (f.name, f.type, f.offset)) = [("Row", 25, 0), ("Item", 3, 4)] := by kernel_rfl
theorem gt27 : Tryd.prog.eqGuardType Tryd.prog.depth 27 = false := by kernel_rfl
theorem pc0 (x : Ce) (w : World) : (part 25 x.cells.toArray 0).run Tryd.prog w = .ok x.r.v w := by kernel_rfl
theorem pc1 (x : Ce) (w : World) : (part 3 x.cells.toArray 4).run Tryd.prog w = .ok (.int .i64 x.i) w := by kernel_rfl
theorem eqCe (x y : Ce) (w : World) : (Op.equalIn 10000 27 x.v y.v).run Tryd.prog w = .ok (sCe x y) w := by
 rw [show (10000 : Nat) = 9999 + 1 from rfl, run_equalIn_struct w 9999 27 _ _ ht27 hp27]
 have h := fo27
 generalize (Tryd.prog.fieldsOf 27).toList = L at h
 have hl : L.length = 2 := by have := congrArg List.length h; simpa using this
 match L, hl with
 | [f0, f1], _ =>
  simp at h
  obtain ⟨⟨a0, a1, a2⟩, ⟨b0, b1, b2⟩⟩ := h
  have q1 := eqRo 9996 x.r y.r w
  have q2 : (Op.equalIn 9999 3 (.int .i64 x.i) (.int .i64 y.i)).run Tryd.prog w = .ok (x.i == y.i) w := run_equalIn_int w 9998 3 .i64 .i64 x.i y.i Tryd.underlying3
  unfold sCe
  simp only [Op.eqFields, a0, a1, a2, b0, b1, b2]
  generalize sR x.r y.r = z at q1 ⊢
  cases z <;> cases h3 : (x.i == y.i) <;> simp [Sem.run_bind, pc0, pc1, Result.andThen_ok, q1, q2, h3, Sem.run_pure]
theorem pprs_v {L : List S5} {pl : Option Addr} {cl : Nat} {s : ByteArray} (w : World) (hL : LL w pl L) (hcl : L.length ≤ cl) (hs : s.size ≤ 9223372036854775807) (hN : L.length ≤ 100) : Calls Tryd.prog 20 #[.slice pl L.length cl, .string s] w fun e9 w' => e9 = .returned (.tuple #[((prs L s).getD ro0).v, .bool (prs L s).isSome]) ∧ Mw w w' := by
 rw [prs_ppr]; exact wk (pprs_n w hL hcl hs hN)
theorem pprc_v {L : List S5} {pl : Option Addr} {cl : Nat} {s : ByteArray} (w : World) (hL : LL w pl L) (hcl : L.length ≤ cl) (hs : s.size ≤ 9223372036854775807) (hN : L.length ≤ 100) : Calls Tryd.prog 22 #[.slice pl L.length cl, .string s] w fun e9 w' => e9 = .returned (.tuple #[((prc L s).getD ce0).v, .bool (prc L s).isSome]) ∧ Mw w w' := by
 rw [prc_ppc]; exact wk (pprc_n w hL hcl hs hN)
end Go.Proofs.YtnffhcjmpjajlaaDoor.V
namespace Go.Proofs.YtnffhcjmpjajlaaDoor
open Go.ChangeShapes Go.WideShapes Go.ChangeAt Go.RowKit Go.ChangeMaps D
set_option maxRecDepth 100000
theorem Tryd.own : ownKnob Tryd.prog.godebug = none := by kernel_rfl
theorem Tryd.laidOut : laidOutB Tryd.prog = true := by kernel_rfl
namespace D
theorem trodAll_stays {H : Type} {enc : TypeId × Value → H} {W W' : World} {sp' : Nat → Bool} : ∀ {ts : List TypeId} {vs : List Value} {ds : List (DataW H)} {ps : List MemPlace}, (∀ t ∈ ts, Tryd.prog.readableRec t = true ∧ t < Tryd.prog.types.size) → DataW.TrodAll enc Tryd.prog W 0 (fun _ => true) true ts vs ds ps → (∀ p ∈ ps, W.sameAt W' p) → (∀ p ∈ ps, sp' p.block = true) → DataW.TrodAll enc Tryd.prog W' 0 sp' true ts vs ds ps
 | [], [], [], _, _, h, _, _ => h
 | _ :: _, _ :: _, _ :: _, _, hT, ⟨p, q, h1, h2, e⟩, hm, hs => ⟨p, q, WideElems.Trod_stays Tryd.laidOut (hT _ (List.mem_cons.2 (Or.inl rfl))).1 (hT _ (List.mem_cons.2 (Or.inl rfl))).2 h1 (fun x hx => hm x (by rw [e]; exact List.mem_append_left _ hx)) (fun x hx => hs x (by rw [e]; exact List.mem_append_left _ hx)),
   trodAll_stays (fun t ht => hT t (List.mem_cons.2 (Or.inr ht))) h2 (fun x hx => hm x (by rw [e]; exact List.mem_append_right _ hx)) (fun x hx => hs x (by rw [e]; exact List.mem_append_right _ hx)), e⟩
end D
def pow10Cells : Array Value := #[.int .u64 1, .int .u64 10, .int .u64 100, .int .u64 1000, .int .u64 10000, .int .u64 100000, .int .u64 1000000, .int .u64 10000000, .int .u64 100000000, .int .u64 1000000000, .int .u64 10000000000, .int .u64 100000000000, .int .u64 1000000000000, .int .u64 10000000000000, .int .u64 100000000000000, .int .u64 1000000000000000, .int .u64 10000000000000000, .int .u64 100000000000000000, .int .u64 1000000000000000000, .int .u64 10000000000000000000]
def tab32Cells : Array Value := #[.int .u8 0, .int .u8 1, .int .u8 28, .int .u8 2, .int .u8 29, .int .u8 14, .int .u8 24, .int .u8 3, .int .u8 30, .int .u8 22, .int .u8 20, .int .u8 15, .int .u8 25, .int .u8 17, .int .u8 4, .int .u8 8, .int .u8 31, .int .u8 27, .int .u8 13, .int .u8 23, .int .u8 21, .int .u8 19, .int .u8 16, .int .u8 7, .int .u8 26, .int .u8 12, .int .u8 18, .int .u8 6, .int .u8 11, .int .u8 5, .int .u8 10, .int .u8 9]
def tab64Cells : Array Value := #[.int .u8 0, .int .u8 1, .int .u8 56, .int .u8 2, .int .u8 57, .int .u8 49, .int .u8 28, .int .u8 3, .int .u8 61, .int .u8 58, .int .u8 42, .int .u8 50, .int .u8 38, .int .u8 29, .int .u8 17, .int .u8 4, .int .u8 62, .int .u8 47, .int .u8 59, .int .u8 36, .int .u8 45, .int .u8 43, .int .u8 51, .int .u8 22, .int .u8 53, .int .u8 39, .int .u8 33, .int .u8 30, .int .u8 24, .int .u8 18, .int .u8 12, .int .u8 5, .int .u8 63, .int .u8 55, .int .u8 48, .int .u8 27, .int .u8 60, .int .u8 41, .int .u8 37, .int .u8 16, .int .u8 46, .int .u8 35, .int .u8 44, .int .u8 21, .int .u8 52, .int .u8 32, .int .u8 23, .int .u8 11, .int .u8 54, .int .u8 26, .int .u8 40, .int .u8 15, .int .u8 34, .int .u8 20, .int .u8 31, .int .u8 10, .int .u8 25, .int .u8 14, .int .u8 19, .int .u8 9, .int .u8 13, .int .u8 8, .int .u8 7, .int .u8 6]
def layW (w0 : World) : World :=
 { w0 with heap := ((w0.heap.modify 0 fun
   | .cells _ t frozen => .cells pow10Cells t frozen
   | o => o).modify 1 fun
   | .cells _ t frozen => .cells tab32Cells t frozen
   | o => o).modify 2 fun
   | .cells _ t frozen => .cells tab64Cells t frozen
   | o => o }
theorem laidWorld_met (os : Os) (args : Array Value) : laidMetH Tryd.prog Rows.pathChecksRow.laid ((layW (World.holding Tryd.prog os ⟨#[], #[], []⟩)).forCall (fun _ _ => 0) ⟨#[], args, []⟩).memory := by
 show laidMet Tryd.prog [("math/bits.deBruijn32tab", Rows.laid_math_bits_deBruijn32tab), ("math/bits.deBruijn64tab", Rows.laid_math_bits_deBruijn64tab), ("internal/strconv.uint64pow10", Rows.laid_internal_strconv_uint64pow10)] _
 exact (LaidIn.of_run [0, 1, 2] 8 (by kernel_rfl) (by kernel_rfl) (by kernel_rfl) (by kernel_rfl)).met
theorem laid_tail {P : Program} {x : String × DataW Unit} {r : List (String × DataW Unit)} {w : World} (h : laidMet P (x :: r) w) : laidMet P r w := by
 obtain ⟨ps, ⟨g, t, cs, fuel, p, q, _, _, _, _, hr, rfl⟩, hn, hz⟩ := h
 exact ⟨q, hr, (List.nodup_append.1 hn).2.1, fun b off hb => hz b off (List.mem_append_right _ hb)⟩
theorem tb_of {W : World} (h : laidMetH Tryd.prog Rows.pathChecksRow.laid W) : TB W := by
 have h1 : laidMet Tryd.prog [("math/bits.deBruijn32tab", Rows.laid_math_bits_deBruijn32tab), ("math/bits.deBruijn64tab", Rows.laid_math_bits_deBruijn64tab), ("internal/strconv.uint64pow10", Lib.tabData .u64 Lib.pow10Tab)] W := h
 exact Lib.tabIs_of_head (g := 0) (by kernel_rfl) rfl (Tryd.underlying140) (Tryd.underlying68) (by kernel_rfl) (by kernel_rfl) (laid_tail (laid_tail h1))
theorem post_mw {H : Type} {enc : TypeId × Value → H} {P : Program} {f : Func} {s : ChangeSpec} {apart fresh handsOn : Bool} {W W' : World} {args : Array Value} {v : Value} {ds gs : List (DataW H)} {p : List MemPlace}
  (hW : DataW.Whole enc P f.params.toList s.vars apart W args.toList ds gs p)
  (hres : ∀ (b : Nat) (sp : Nat → Bool) (hd : Bool), DataW.TrodAll enc P W' b sp hd f.resultTypes.toList (v.resultList f.resultTypes.size) (s.fn H (ds ++ gs)).results [])
  (hargs : ∀ sp : Nat → Bool, (∀ x ∈ p, sp x.block = true) → DataW.TrodAll enc P W' 0 sp true f.params.toList args.toList (s.fn H (ds ++ gs)).args p)
  (hvars : ∀ sp : Nat → Bool, DataW.TrodVars enc P W' sp s.vars (s.fn H (ds ++ gs)).vars []) (hk : V.Mw W W') :
  s.post enc P f apart fresh handsOn false W args v W' :=
 ⟨ds, gs, p, [], p, [], hW, hres _ _ _, hargs _ (fun x hx => by simpa using hW.lt x hx), hvars _, World.keptBut_mono (fun x hx => ⟨hx, Or.inr (Or.inl hx)⟩) (Below.frame hk (· ∈ p)), fun h => by cases h⟩
end Go.Proofs.YtnffhcjmpjajlaaDoor
