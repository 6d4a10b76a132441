/-
  Formulas: Eval (the program). What may be, as the document says it. The document's Ten, whatever the number: the walk. Division bit by bit: plain arithmetic, no program in sight. The document's Bit, whatever the number: the walks. The document's Div, whatever the numbers: the walk. Decimals as the document says them: numbers of twice as many bits, sums, differences, how two stand. Decimals as the document says them: sums, differences, how two stand, which way a cut rounds. Decimals as the document says them: how two stand, rounding, products. Values as the document says them: what is done with one. Operators as the document says them. Brackets as the document says them. Sums as the document says them: bit by bit. Sums as the document says them: of five limbs. What an aggregate says of a column, as the document says it. Formulas as the document says them: small calls, tables. Formulas as the document says them: what an expression comes to.
-/
import Derived.Test.YtfmfeipeeedfpaaGreatKd
import Derived.Test.YtfmfeipeeedfpaaGreatKc
namespace Go.Proofs.YtfmfeipeeedfpaaGreat
open S Go.RowKit
theorem rdN_fit {σ : List Nat} {e : Ev} {j : Nat} : fitL σ (rdC e (.map none)) (rdC e (mcR j false)) := fitL_cons fv (fitL_cons fv (fitL_cons fv (fitL_cons fv rfl)))
set_option maxRecDepth 20000 in
theorem f_Eval {d : Nat} {x : Ex} {e : Ev} (hu : XU d x) (w : World) (hL : LT w d x) (he : EvL w e) : Calls Tryz.prog 12 #[.agg x.c.toArray, e.v] w fun r W => r = .returned (evE e d x).v ∧ Mb w W := by
  obtain ⟨mk', h⟩ := f_eval e x.c d x false hu
  refine fn_pure [xY x, e.y] Tryz.func12 rfl rfl rfl (run_ok (st mo ?_))
  refine ⟨_, fun nn => r_c (tc := (evE e d x).y) [3, 0] [some (rdC e (mcR 4 mk')), some (cR e mk' x.c)] [4] rfl rfl (h w he hL) (fitL_cons fp (fitL_cons fv rfl)) ⟨rdN_fit, trivial, flr rfl, trivial⟩ uv ⟨mc_un, cR_un, trivial⟩, st mo ?_⟩
  rfl
/-- An item. -/
structure It where
  nm : ByteArray
  k : Int
  tk : Int
  ts : Int
  nd : Bool
  pl : Int
  x : Ex
def It.c (i : It) : List Value := [.string i.nm, .int .i64 i.k, .int .i64 i.tk, .int .i64 i.ts, .bool i.nd, .int .i64 i.pl] ++ i.x.c
def itE (e : Ev) (d : Nat) (i : It) : VL := if i.k = 2 then fitV (evE e d i.x) i.tk i.ts i.pl else if i.k = 3 then fitV (evE e d i.x) 2 0 0 else vBad 2
theorem fit_it {X : World} {e : Ev} (he : EvL X e) {d : Nat} {i : It} (h : XU d i.x) : (itE e d i).fit := by
  unfold itE
  split; · exact fit_fit _ _ _ (fit_ev he h).1
  split; · exact fit_fit _ _ _ (fit_ev he h).1
  exact fit_bad _
set_option maxRecDepth 20000 in
theorem f_Item {d : Nat} {i : It} {e : Ev} (hu : XU d i.x) (w : World) (hL : LT w d i.x) (he : EvL w e) : Calls Tryz.prog 14 #[.agg i.c.toArray, e.v] w fun r W => r = .returned (itE e d i).v ∧ Mb w W := by
  refine fn_pure [.agg (i.c.map rel1).toArray, e.y] Tryz.func14 rfl rfl rfl (run_ok (st mo ?_))
  refine ⟨fun h2 => st mo ?_, fun h2 => st mo ⟨fun h3 => st mo ?_, fun h3 => st mo ?_⟩⟩
  · refine ⟨_, fun nn => r_call (t := (evE e d i.x).y) rfl rfl Tryz.func12 (fun W M E => f_Eval hu W (hL.mono E) (he.mb M E)), st mo ?_⟩
    refine ⟨_, fun nn => r_call (t := (fitV (evE e d i.x) i.tk i.ts i.pl).y) rfl rfl Tryz.func43 (fun W M E => p_fit (evE e d i.x) (fit_ev he hu).1 i.tk i.ts i.pl W), st mo ⟨dk, st mo ?_⟩⟩
    show _ = _; rw [itE, if_pos h2]; rfl
  · refine ⟨_, fun nn => r_call (t := (evE e d i.x).y) rfl rfl Tryz.func12 (fun W M E => f_Eval hu W (hL.mono E) (he.mb M E)), st mo ?_⟩
    refine ⟨_, fun nn => r_call (t := (fitV (evE e d i.x) 2 0 0).y) rfl rfl Tryz.func43 (fun W M E => p_fit (evE e d i.x) (fit_ev he hu).1 2 0 0 W), st mo ?_⟩
    show _ = _; rw [itE, if_neg h2, if_pos h3]; rfl
  · refine ⟨_, fun nn => r_call (t := (vBad 2).y) rfl rfl Tryz.func44 (fun W M E => p_bad 2 W), st mo ?_⟩
    show _ = _; rw [itE, if_neg h2, if_neg h3]; rfl
end Go.Proofs.YtfmfeipeeedfpaaGreat
namespace Go.Proofs.YtfmfeipeeedfpaaGreat
open S Go.RowKit
set_option maxRecDepth 20000 in
theorem q_dck (b : Bool) (n s : Int) (hn : 0 ≤ n ∧ n < MM) (w : World) : Calls Tryz.prog 59 #[dc b n s] w fun r W => r = .returned (.int .i64 (ck b n s)) ∧ Mb w W := by
  cases b
  · refine fn_pure [dcl litF n s] Tryz.func59 rfl rfl rfl (run_ok (st mo ⟨fun h => st mo ?_, fun h => st mo ⟨fun h2 => st mo ?_, fun h2 => st mo ?_⟩⟩))
    · show _ = _; rw [ck, show sc s = false by unfold sc; rw [decide_eq_false (by omega)]; rfl]; rfl
    · show _ = _; rw [ck, show sc s = false by unfold sc; rw [decide_eq_true (by omega), decide_eq_false (by omega)]; rfl]; rfl
    · show _ = _; rw [ck, sc_iff.2 ⟨by omega, by omega⟩]; rfl
  · refine fn_pure [dcl litT n s] Tryz.func59 rfl rfl rfl (run_ok (st mo ⟨fun h => st mo ?_, fun h => st mo ⟨fun h2 => st mo ?_, fun h2 => st mo ?_⟩⟩))
    · show _ = _; rw [ck, show sc s = false by unfold sc; rw [decide_eq_false (by omega)]; rfl]; rfl
    · show _ = _; rw [ck, show sc s = false by unfold sc; rw [decide_eq_true (by omega), decide_eq_false (by omega)]; rfl]; rfl
    · refine ⟨_, r_eqN n 0 hn MM_0, fun h => st mo ?_, fun h => st mo ?_⟩
      · show _ = _; rw [ck, sc_iff.2 ⟨by omega, by omega⟩, h]; rfl
      · show _ = _; rw [ck, sc_iff.2 ⟨by omega, by omega⟩, h]; rfl
theorem ckI_of {v : VL} {b : Bool} (h : ckv v = b) : ckI v = if b then 0 else 1 := by unfold ckI; rw [h]
set_option maxRecDepth 20000 in
theorem q_check (v : VL) (hv : v.ok) (w : World) : Calls Tryz.prog 27 #[v.v] w fun r W => r = .returned (.int .i64 (ckI v)) ∧ Mb w W := by
  refine fn_pure [v.y] Tryz.func27 rfl rfl rfl (run_ok (st mo ?_))
  refine ⟨fun h0 => st mo ?_, fun h0 => st mo ⟨fun h1 => st mo ?_, fun h1 => st mo ⟨fun h2 => st mo ?_, fun h2 => st mo ⟨fun h3 => st mo ?_, fun h3 => st mo ⟨fun h4 => st mo ?_, fun h4 => st mo ?_⟩⟩⟩⟩⟩
  · have hb : bareV v = vBl := by unfold bareV; simp [h0]
    have hi : inB v = true := by unfold inB; simp [h0]
    refine ⟨_, r_eqV v vBl, fun q => st mo ?_, fun q => st mo ?_⟩
    · show _ = _; rw [ckI_of (b := true) (by unfold ckv; rw [hb, q, hi]; rfl)]; rfl
    · show _ = _; rw [ckI_of (b := false) (by unfold ckv; rw [hb, q]; rfl)]; rfl
  · have hb : bareV v = vNu v.b v.n v.s := by unfold bareV; rw [if_pos h1]
    have hi : inB v = decide (ck v.b v.n v.s = 0) := by unfold inB; rw [if_pos h1]
    refine ⟨_, r_eqV v (vNu v.b v.n v.s), fun q => st mo ?_, fun q => st mo ?_⟩
    · refine ⟨_, fun nn => r_call (t := .int .i64 (ck v.b v.n v.s)) rfl rfl Tryz.func59 (fun W M E => q_dck v.b v.n v.s hv W), st mo ⟨fun h => st mo ?_, fun h => st mo ?_⟩⟩
      · show _ = _; rw [ckI_of (b := true) (by unfold ckv; rw [hb, q, hi, decide_eq_true h]; rfl)]; rfl
      · show _ = _; rw [ckI_of (b := false) (by unfold ckv; rw [hb, q, hi, decide_eq_false h]; rfl)]; rfl
    · show _ = _; rw [ckI_of (b := false) (by unfold ckv; rw [hb, q]; rfl)]; rfl
  · have hb : bareV v = vFl v.f := by unfold bareV; rw [if_neg h1, if_pos h2]
    have hi : inB v = true := by unfold inB; rw [if_neg h1, if_neg (by omega), if_neg (by omega)]
    refine ⟨_, r_eqV v (vFl v.f), fun q => st mo ?_, fun q => st mo ?_⟩
    · show _ = _; rw [ckI_of (b := true) (by unfold ckv; rw [hb, q, hi]; rfl)]; rfl
    · show _ = _; rw [ckI_of (b := false) (by unfold ckv; rw [hb, q]; rfl)]; rfl
  · have hb : bareV v = vTx v.t := by unfold bareV; rw [if_neg h1, if_neg h2, if_pos h3]
    have hi : inB v = decide (v.t.size ≤ 64) := by unfold inB; rw [if_neg h1, if_pos h3]
    refine ⟨_, r_eqV v (vTx v.t), fun q => st mo ?_, fun q => st mo ?_⟩
    · refine st mo ⟨fun h => st mo ?_, fun h => st mo ?_⟩
      · show _ = _; rw [ckI_of (b := true) (by unfold ckv; rw [hb, q, hi, decide_eq_true (by omega)]; rfl)]; rfl
      · show _ = _; rw [ckI_of (b := false) (by unfold ckv; rw [hb, q, hi, decide_eq_false (by omega)]; rfl)]; rfl
    · show _ = _; rw [ckI_of (b := false) (by unfold ckv; rw [hb, q]; rfl)]; rfl
  · have hb : bareV v = vEr v.e := by unfold bareV; rw [if_neg h1, if_neg h2, if_neg h3, if_pos h4]
    have hi : inB v = isE v.e := by unfold inB; rw [if_neg h1, if_neg h3, if_pos h4]
    refine ⟨_, r_eqV v (vEr v.e), fun q => st mo ?_, fun q => st mo ?_⟩
    · refine ⟨fun h => st mo ⟨fun g => st mo ?_, fun g => st mo ?_⟩, fun h => st mo ?_⟩
      · show _ = _; rw [ckI_of (b := true) (by unfold ckv; rw [hb, q, hi]; unfold isE; rw [decide_eq_true (by omega), decide_eq_true (by omega)]; rfl)]; rfl
      · show _ = _; rw [ckI_of (b := false) (by unfold ckv; rw [hb, q, hi]; unfold isE; rw [decide_eq_true (by omega), decide_eq_false (by omega)]; rfl)]; rfl
      · show _ = _; rw [ckI_of (b := false) (by unfold ckv; rw [hb, q, hi]; unfold isE; rw [decide_eq_false (by omega)]; rfl)]; rfl
    · show _ = _; rw [ckI_of (b := false) (by unfold ckv; rw [hb, q]; rfl)]; rfl
  · have : ckv v = false := by
      cases c : ckv v with
      | false => rfl
      | true => rcases ckv_k hv c with h | h | h | h | h <;> omega
    show _ = _; rw [ckI_of this]; rfl
theorem q_check' {v : VL} (hv : v.fit) (w : World) : Calls Tryz.prog 27 #[v.v] w fun r W => r = .returned (.int .i64 0) ∧ Mb w W := by
  have := q_check v hv.1 w
  rw [ckI_of hv.2] at this; exact this
end Go.Proofs.YtfmfeipeeedfpaaGreat
namespace Go.Proofs.YtfmfeipeeedfpaaGreat
open Go.RowKit
set_option maxHeartbeats 1000000 in
theorem rten_no (n : Int) (w : World) (h : n < 0 ∨ 77 < n) :
    Calls Tryz.prog 148 #[.int .i64 n] w fun e w' => e = .returned (.tuple #[nv 0, .bool false]) ∧ Mo w w' := by
  have e : nv 0 = .agg #[.int .u64 0, .int .u64 0, .int .u64 0, .int .u64 0] := by simp [nv, l0, l1, l2, l3]
  rw [e]
  clear e
  by_cases hn : n < 0
  · clear h
    go_enter Tryz.func148, Tryz.ntmps148
    go_wp2
    refine bodyPost_ret (by simp [results, Tryz.results148, go_sem]; rfl) rfl ?_
    exact ⟨rfl, (Mo.refl _).alloc _ _⟩
  · have h7 : 77 < n := by omega
    clear h
    go_enter Tryz.func148, Tryz.ntmps148
    go_wp2
    refine bodyPost_ret (by simp [results, Tryz.results148, go_sem]; rfl) rfl ?_
    exact ⟨rfl, (Mo.refl _).alloc _ _⟩
theorem pow_lt (k : Nat) (h : k ≤ 77) : (0 : Int) < 10 ^ k ∧ (10 : Int) ^ k < MM := by
  refine ⟨Int.pow_pos (by decide), ?_⟩
  have h1 : (10 : Nat) ^ k ≤ 10 ^ 77 := Nat.pow_le_pow_right (by decide) h
  have h2 : (10 : Nat) ^ 77 < 115792089237316195423570985008687907853269984665640564039457584007913129639936 := by decide
  have h3 : ((10 ^ k : Nat) : Int) = (10 : Int) ^ k := by rw [Int.natCast_pow]; rfl
  rw [← h3]
  unfold MM
  omega
set_option maxHeartbeats 4000000 in
theorem rten_yes (n : Nat) (w : World) (h7 : n ≤ 77) :
    Calls Tryz.prog 148 #[.int .i64 n] w fun e w' => e = .returned (.tuple #[nv (10 ^ n), .bool true]) ∧ Mo w w' := by
  have hn : ¬ ((n : Int) < 0) := by omega
  have hn7 : ¬ (77 < (n : Int)) := by omega
  go_enter Tryz.func148, Tryz.ntmps148
  go_wp2_with fail
  refine (from34_any 1 _ ⟨by decide, by decide⟩).mono ?_
  rintro e w1 ⟨rfl, hm⟩
  have hz := hm.size
  simp only [World.size_alloc] at hz
  have hA : At4 w1 w.heap.size 0 0 0 0 := At4.mo (by simp [At4, go_sem]) hm (by simp)
  have hF : Fz w1 w.heap.size := Fz.mo (fun o => by simp [go_sem]) hm
  have hM : Mo w w1 := ((Mo.refl _).alloc _ _).trans hm
  have hS : TT w (w1.alloc (.cells #[.int .u64 (l0 1), .int .u64 (l1 1), .int .u64 (l2 1), .int .u64 (l3 1)] 24)) w1.heap.size 1 := by
    have z : w.heap.size < w1.heap.size := by omega
    exact ⟨hM.alloc _ _, z, by simp, hA.mo ((Mo.refl _).alloc _ _) z, hF.mo ((Mo.refl _).alloc _ _), by simp [At4, go_sem], fun o => by simp [go_sem]⟩
  have HS : Hid _ := hS
  clear hS hA hF
  go_wp2
  go_loopw [5] (fun i wr => ∃ k : Nat, k ≤ n ∧ i = .int .i64 k ∧ TT w wr w1.heap.size (10 ^ k)) (fun i _ => n - (intOf i).toNat)
  case atStart => exact ⟨0, Nat.zero_le _, rfl, HS.out⟩
  case round =>
    obtain ⟨k, hk, rfl, ht⟩ := hrel
    by_cases hlt : k < n
    · have pk := pow_lt k (by omega)
      have hstep : Hid (10 ^ k * 10 = (10 : Int) ^ (k + 1)) := (Int.pow_succ 10 k).symm
      obtain ⟨P, hP⟩ : ∃ P : Int, P = 10 ^ k := ⟨_, rfl⟩
      rw [← hP] at ht pk hstep
      have HP : Hid _ := hP
      clear hP
      have dk : decide ((k : Int) < (n : Int)) = true := decide_eq_true (by omega)
      go_upto_region 7 with fail
      have ht0 := ht
      obtain ⟨g1, g2, g3, ⟨c0, c1, c2, c3⟩, g5, ⟨b0, b1, b2, b3⟩, g7⟩ := ht0
      clear g5 g7
      go_region_with
        (first | (go_at_call 99; refine (from34_any 10 _ ⟨by decide, by decide⟩).mono ?_; rintro e w5 ⟨rfl, hm5⟩; have m5 : Mo wr w5 := Mo.trans (by repeat (first | with_reducible exact Mo.refl _ | with_reducible apply Mo.drew | with_reducible apply Mo.alloc)) hm5; obtain ⟨_, _, _, _, _, ⟨x0, x1, x2, x3⟩, _⟩ := ht.mo m5) | (go_at_call 155; refine (rmul_n P 10 _ (by omega) pk.2 (by decide) (by decide)).mono ?_; rintro e w6 ⟨rfl, hm6⟩; have m6 : Mo w5 w6 := Mo.trans (by repeat (first | with_reducible exact Mo.refl _ | with_reducible apply Mo.drew | with_reducible apply Mo.alloc)) hm6; have m7 := m5.trans m6; obtain ⟨_, _, zs, _, _, ⟨z0, z1, z2, z3⟩, zf⟩ := ht.mo m7; have zf := fun o => zf o))
      all_goals
        go_wp2
        go_roundw
        case rel =>
          refine ⟨k + 1, by omega, by go_num, ?_⟩
          rw [← hstep.out]
          exact (ht.mo m7).put
        case measure => simp [intOf]; omega
    · have hkn : k = n := by omega
      subst hkn
      obtain ⟨g1, g2, g3, ⟨c0, c1, c2, c3⟩, g5, ⟨b0, b1, b2, b3⟩, g7⟩ := ht
      have g5 := fun o => g5 o
      go_wp2
      refine bodyPost_ret (v := .tuple #[nv (10 ^ k), .bool true]) (by simp [results, Tryz.results148, go_sem, c0, c1, c2, c3]) rfl ?_
      refine ⟨rfl, ?_⟩
      exact (((g1.setCell (Nat.le_refl _) _).setCell (Nat.le_refl _) _).setCell (Nat.le_refl _) _).setCell (Nat.le_refl _) _
end Go.Proofs.YtfmfeipeeedfpaaGreat
namespace Go.Proofs.YtfmfeipeeedfpaaGreat
open Go.RowKit
theorem low_limb (q : Int) (m r : Nat) (hr : r < 64) (_hq : 0 ≤ q) :
    ∃ c : Int, 0 ≤ c ∧ q * 2 ^ (m + r + 1) / 2 ^ m % 18446744073709551616 = c * 2 ^ (r + 1) ∧ c * 2 ^ (r + 1) + 2 ^ r < 18446744073709551616 := by
  have hm : (0 : Int) < 2 ^ m := Int.pow_pos (by decide)
  have hp : (0 : Int) < 2 ^ (r + 1) := Int.pow_pos (by decide)
  have hp0 : (0 : Int) < 2 ^ r := Int.pow_pos (by decide)
  have hp2 : (0 : Int) < 2 ^ (63 - r) := Int.pow_pos (by decide)
  have e1 : q * 2 ^ (m + r + 1) / 2 ^ m = 2 ^ (r + 1) * q := by
    rw [Nat.add_assoc, Int.pow_add, Int.mul_left_comm, Int.mul_ediv_cancel_left _ (by omega), Int.mul_comm]
  have e2 : (18446744073709551616 : Int) = 2 ^ (r + 1) * 2 ^ (63 - r) := by
    rw [← Int.pow_add, show r + 1 + (63 - r) = 64 from by omega]; decide
  have a := Int.emod_nonneg q (show (2 : Int) ^ (63 - r) ≠ 0 by omega)
  have b := Int.emod_lt_of_pos q hp2
  refine ⟨q % 2 ^ (63 - r), a, ?_, ?_⟩
  · rw [e1, e2, Int.mul_emod_mul_of_pos _ _ hp, Int.mul_comm]
  · have e3 : q % 2 ^ (63 - r) * 2 ^ (r + 1) ≤ (2 ^ (63 - r) - 1) * 2 ^ (r + 1) := Int.mul_le_mul_of_nonneg_right (by omega) (by omega)
    rw [Int.sub_mul, Int.one_mul, Int.mul_comm (2 ^ (63 - r)), ← e2] at e3
    have e4 : (2 : Int) ^ (r + 1) = 2 ^ r * 2 := Int.pow_succ 2 r
    omega
theorem or_bit {x : Int} {r : Nat} (c : Int) (hc : 0 ≤ c) (h : x = c * 2 ^ (r + 1)) (h2 : c * 2 ^ (r + 1) + 2 ^ r < 18446744073709551616) : bits .or .u64 x (2 ^ r) = x + 2 ^ r := by
  have hp0 : (0 : Int) < 2 ^ r := Int.pow_pos (by decide)
  have e4 : (2 : Int) ^ (r + 1) = 2 ^ r * 2 := Int.pow_succ 2 r
  rw [h]
  exact or_join c (2 ^ r) (r + 1) hc (by omega) (by omega) h2
theorem Qlt {q : Int} {i : Nat} (hi : i < 256) (hq : q < 2 ^ (255 - i)) : q * 2 ^ (i + 1) < MM ∧ q * 2 ^ (i + 1) + 2 ^ i < MM := by
  have hp0 : (0 : Int) < 2 ^ i := Int.pow_pos (by decide)
  have e4 : (2 : Int) ^ (i + 1) = 2 ^ i * 2 := Int.pow_succ 2 i
  have e1 : q * 2 ^ (i + 1) ≤ (2 ^ (255 - i) - 1) * 2 ^ (i + 1) := Int.mul_le_mul_of_nonneg_right (by omega) (by omega)
  rw [Int.sub_mul, Int.one_mul, ← Int.pow_add, show 255 - i + (i + 1) = 256 from by omega, show (2 : Int) ^ 256 = MM from by decide] at e1
  omega
theorem bit_set {q : Int} {i : Nat} (hi : i < 256) (hq0 : 0 ≤ q) (hq : q < 2 ^ (255 - i)) (r : Nat) (hr : r = i % 64) :
    (i / 64 = 0 ∧ bits .or .u64 (l0 (q * 2 ^ (i + 1))) (2 ^ r) = l0 (q * 2 ^ (i + 1) + 2 ^ i) ∧ l1 (q * 2 ^ (i + 1) + 2 ^ i) = l1 (q * 2 ^ (i + 1)) ∧ l2 (q * 2 ^ (i + 1) + 2 ^ i) = l2 (q * 2 ^ (i + 1)) ∧ l3 (q * 2 ^ (i + 1) + 2 ^ i) = l3 (q * 2 ^ (i + 1))) ∨
    (i / 64 = 1 ∧ bits .or .u64 (l1 (q * 2 ^ (i + 1))) (2 ^ r) = l1 (q * 2 ^ (i + 1) + 2 ^ i) ∧ l0 (q * 2 ^ (i + 1) + 2 ^ i) = l0 (q * 2 ^ (i + 1)) ∧ l2 (q * 2 ^ (i + 1) + 2 ^ i) = l2 (q * 2 ^ (i + 1)) ∧ l3 (q * 2 ^ (i + 1) + 2 ^ i) = l3 (q * 2 ^ (i + 1))) ∨
    (i / 64 = 2 ∧ bits .or .u64 (l2 (q * 2 ^ (i + 1))) (2 ^ r) = l2 (q * 2 ^ (i + 1) + 2 ^ i) ∧ l0 (q * 2 ^ (i + 1) + 2 ^ i) = l0 (q * 2 ^ (i + 1)) ∧ l1 (q * 2 ^ (i + 1) + 2 ^ i) = l1 (q * 2 ^ (i + 1)) ∧ l3 (q * 2 ^ (i + 1) + 2 ^ i) = l3 (q * 2 ^ (i + 1))) ∨
    (i / 64 = 3 ∧ bits .or .u64 (l3 (q * 2 ^ (i + 1))) (2 ^ r) = l3 (q * 2 ^ (i + 1) + 2 ^ i) ∧ l0 (q * 2 ^ (i + 1) + 2 ^ i) = l0 (q * 2 ^ (i + 1)) ∧ l1 (q * 2 ^ (i + 1) + 2 ^ i) = l1 (q * 2 ^ (i + 1)) ∧ l2 (q * 2 ^ (i + 1) + 2 ^ i) = l2 (q * 2 ^ (i + 1))) := by
  have hQ := (Qlt hi hq).1
  have hp : (0 : Int) < 2 ^ (i + 1) := Int.pow_pos (by decide)
  have hQ0 : 0 ≤ q * 2 ^ (i + 1) := Int.mul_nonneg hq0 (by omega)
  have hV := vl_lb _ hQ0 hQ
  obtain ⟨u0, u1, u2, u3⟩ := u4_lb (q * 2 ^ (i + 1))
  have hr64 : r < 64 := by omega
  have hp0 : (0 : Int) < 2 ^ r := Int.pow_pos (by decide)
  have hm : i / 64 = 0 ∨ i / 64 = 1 ∨ i / 64 = 2 ∨ i / 64 = 3 := by omega
  rcases hm with hm | hm | hm | hm
  · refine Or.inl ⟨hm, ?_⟩
    obtain ⟨c, c0, c1, c2⟩ := low_limb q 0 r hr64 hq0
    have e : i = 0 + r := by omega
    have el : l0 (q * 2 ^ (i + 1)) = c * 2 ^ (r + 1) := by rw [← c1, e]; unfold l0; simp
    have ep : (2 : Int) ^ i = 2 ^ r := by rw [e]; simp
    rw [or_bit c c0 el c2]
    have hu : U4 (l0 (q * 2 ^ (i + 1)) + 2 ^ r) (l1 (q * 2 ^ (i + 1))) (l2 (q * 2 ^ (i + 1))) (l3 (q * 2 ^ (i + 1))) := ⟨⟨by have := u0.1; omega, by omega⟩, u1, u2, u3⟩
    have ev : q * 2 ^ (i + 1) + 2 ^ i = vl (l0 (q * 2 ^ (i + 1)) + 2 ^ r) (l1 (q * 2 ^ (i + 1))) (l2 (q * 2 ^ (i + 1))) (l3 (q * 2 ^ (i + 1))) := by
      rw [ep]; unfold vl at *; omega
    rw [ev, l0_vl hu, l1_vl hu, l2_vl hu, l3_vl hu]
    exact ⟨rfl, rfl, rfl, rfl⟩
  · refine Or.inr (Or.inl ⟨hm, ?_⟩)
    obtain ⟨c, c0, c1, c2⟩ := low_limb q 64 r hr64 hq0
    have e : i = 64 + r := by omega
    have el : l1 (q * 2 ^ (i + 1)) = c * 2 ^ (r + 1) := by rw [← c1, e]; unfold l1; rfl
    have ep : (2 : Int) ^ i = 18446744073709551616 * 2 ^ r := by rw [e, Int.pow_add]; rfl
    rw [or_bit c c0 el c2]
    have hu : U4 (l0 (q * 2 ^ (i + 1))) (l1 (q * 2 ^ (i + 1)) + 2 ^ r) (l2 (q * 2 ^ (i + 1))) (l3 (q * 2 ^ (i + 1))) := ⟨u0, ⟨by have := u1.1; omega, by omega⟩, u2, u3⟩
    have ev : q * 2 ^ (i + 1) + 2 ^ i = vl (l0 (q * 2 ^ (i + 1))) (l1 (q * 2 ^ (i + 1)) + 2 ^ r) (l2 (q * 2 ^ (i + 1))) (l3 (q * 2 ^ (i + 1))) := by
      rw [ep]; unfold vl at *; omega
    rw [ev, l0_vl hu, l1_vl hu, l2_vl hu, l3_vl hu]
    exact ⟨rfl, rfl, rfl, rfl⟩
  · refine Or.inr (Or.inr (Or.inl ⟨hm, ?_⟩))
    obtain ⟨c, c0, c1, c2⟩ := low_limb q 128 r hr64 hq0
    have e : i = 128 + r := by omega
    have el : l2 (q * 2 ^ (i + 1)) = c * 2 ^ (r + 1) := by rw [← c1, e]; unfold l2; rfl
    have ep : (2 : Int) ^ i = 340282366920938463463374607431768211456 * 2 ^ r := by rw [e, Int.pow_add]; rfl
    rw [or_bit c c0 el c2]
    have hu : U4 (l0 (q * 2 ^ (i + 1))) (l1 (q * 2 ^ (i + 1))) (l2 (q * 2 ^ (i + 1)) + 2 ^ r) (l3 (q * 2 ^ (i + 1))) := ⟨u0, u1, ⟨by have := u2.1; omega, by omega⟩, u3⟩
    have ev : q * 2 ^ (i + 1) + 2 ^ i = vl (l0 (q * 2 ^ (i + 1))) (l1 (q * 2 ^ (i + 1))) (l2 (q * 2 ^ (i + 1)) + 2 ^ r) (l3 (q * 2 ^ (i + 1))) := by
      rw [ep]; unfold vl at *; omega
    rw [ev, l0_vl hu, l1_vl hu, l2_vl hu, l3_vl hu]
    exact ⟨rfl, rfl, rfl, rfl⟩
  · refine Or.inr (Or.inr (Or.inr ⟨hm, ?_⟩))
    obtain ⟨c, c0, c1, c2⟩ := low_limb q 192 r hr64 hq0
    have e : i = 192 + r := by omega
    have el : l3 (q * 2 ^ (i + 1)) = c * 2 ^ (r + 1) := by rw [← c1, e]; unfold l3; rfl
    have ep : (2 : Int) ^ i = 6277101735386680763835789423207666416102355444464034512896 * 2 ^ r := by rw [e, Int.pow_add]; rfl
    rw [or_bit c c0 el c2]
    have hu : U4 (l0 (q * 2 ^ (i + 1))) (l1 (q * 2 ^ (i + 1))) (l2 (q * 2 ^ (i + 1))) (l3 (q * 2 ^ (i + 1)) + 2 ^ r) := ⟨u0, u1, u2, ⟨by have := u3.1; omega, by omega⟩⟩
    have ev : q * 2 ^ (i + 1) + 2 ^ i = vl (l0 (q * 2 ^ (i + 1))) (l1 (q * 2 ^ (i + 1))) (l2 (q * 2 ^ (i + 1))) (l3 (q * 2 ^ (i + 1)) + 2 ^ r) := by
      rw [ep]; unfold vl at *; omega
    rw [ev, l0_vl hu, l1_vl hu, l2_vl hu, l3_vl hu]
    exact ⟨rfl, rfl, rfl, rfl⟩
/-- What is divided, down to the bit j. -/
def nj (H L : Int) (j : Nat) : Int := H * 2 ^ (256 - j) + L / 2 ^ j
theorem nj_top (H : Int) {L : Int} (h0 : 0 ≤ L) (h : L < MM) : nj H L 256 = H := by
  unfold nj
  rw [show (2 : Int) ^ 256 = MM from by decide, Int.ediv_eq_zero_of_lt h0 h]
  simp
theorem nj_low (H L : Int) : nj H L 0 = H * MM + L := by
  unfold nj
  rw [show (256 - 0 : Nat) = 256 from rfl, show (2 : Int) ^ 256 = MM from by decide]
  simp
theorem nj_step (H L : Int) {i : Nat} (hi : i < 256) : nj H L i = 2 * nj H L (i + 1) + L / 2 ^ i % 2 := by
  unfold nj
  have e1 : (2 : Int) ^ (256 - i) = 2 ^ (256 - (i + 1)) * 2 := by rw [← Int.pow_succ]; congr 1; omega
  have e2 : L / 2 ^ (i + 1) = L / 2 ^ i / 2 := by
    rw [Int.pow_succ, Int.ediv_ediv_of_nonneg (Int.le_of_lt (Int.pow_pos (by decide)))]
  rw [e1, e2, ← Int.mul_assoc]
  omega
theorem div_no_step {q R D H L : Int} {i : Nat} (hi : i < 256) (h : q * D + R = nj H L (i + 1)) : 2 * q * D + (2 * R + L / 2 ^ i % 2) = nj H L i := by
  rw [nj_step H L hi, ← h, Int.mul_assoc]; omega
theorem div_yes_step {q R D H L : Int} {i : Nat} (hi : i < 256) (h : q * D + R = nj H L (i + 1)) : (2 * q + 1) * D + (2 * R + L / 2 ^ i % 2 - D) = nj H L i := by
  rw [nj_step H L hi, ← h, Int.add_mul, Int.mul_assoc]; omega
theorem q_no {q : Int} {i : Nat} (hi : i < 256) (hq : q < 2 ^ (255 - i)) : 2 * q < 2 ^ (256 - i) ∧ 2 * q + 1 < 2 ^ (256 - i) := by
  have e1 : (2 : Int) ^ (256 - i) = 2 ^ (255 - i) * 2 := by rw [← Int.pow_succ]; congr 1; omega
  omega
theorem div_end {q R D H L : Int} (hR0 : 0 ≤ R) (hR : R < D) (h : q * D + R = H * MM + L) : (H * MM + L) / D = q ∧ (H * MM + L) % D = R := by
  rw [← h]
  constructor
  · rw [Int.add_comm, Int.add_mul_ediv_right _ _ (by omega), Int.ediv_eq_zero_of_lt hR0 hR, Int.zero_add]
  · rw [Int.add_comm, Int.add_mul_emod_self_right, Int.emod_eq_of_lt hR0 hR]
theorem q_pow (q : Int) (i : Nat) : 2 * q * 2 ^ i = q * 2 ^ (i + 1) := by rw [Int.pow_succ]; grind
theorem q_pow1 (q : Int) (i : Nat) : (2 * q + 1) * 2 ^ i = q * 2 ^ (i + 1) + 2 ^ i := by rw [Int.pow_succ]; grind
end Go.Proofs.YtfmfeipeeedfpaaGreat
namespace Go.Proofs.YtfmfeipeeedfpaaGreat
open Go.RowKit
theorem and_one (a : Int) (h0 : 0 ≤ a) (h1 : a < 18446744073709551616) : bits .and .u64 a 1 = a % 2 := by
  obtain ⟨x, rfl⟩ := Int.eq_ofNat_of_zero_le h0
  have e := bits_and_u64_nat x 1 (by omega) (by decide)
  rw [Nat.and_one_is_mod] at e
  rw [show ((1 : Nat) : Int) = 1 from rfl] at e
  rw [e]; omega
theorem sh_bd {a : Int} (h : U1 a) (r : Nat) : 0 ≤ a / 2 ^ r ∧ a / 2 ^ r < 18446744073709551616 := by
  obtain ⟨p, q⟩ := h
  have hp : (0 : Int) < 2 ^ r := Int.pow_pos (by decide)
  refine ⟨Int.ediv_nonneg p (by omega), ?_⟩
  have := Int.ediv_le_self (2 ^ r) p
  omega
set_option maxHeartbeats 1000000 in
theorem bit_any (n : Int) (i : Nat) (w : World) (_hn0 : 0 ≤ n) (_hn : n < MM) (hi : i < 256) :
    Calls Tryz.prog 181 #[nv n, .int .i64 (i : Int)] w fun e w' => e = .returned (.int .u64 (n / 2 ^ i % 2)) ∧ Mo w w' := by
  have fin : ∀ (r : Int) (w' : World), r = n / 2 ^ i % 2 → Mo w w' → (Ending.returned (.int .u64 r) = .returned (.int .u64 (n / 2 ^ i % 2)) ∧ Mo w w') := fun r w' h m => ⟨by rw [h], m⟩
  obtain ⟨r, hr, er⟩ : ∃ r : Nat, r < 64 ∧ (i : Int) % 64 = (r : Int) := ⟨i % 64, by omega, by omega⟩
  have u := u4_lb n
  obtain ⟨u0, u1, u2, u3⟩ := u
  have s0 := sh_bd u0 r
  have s1 := sh_bd u1 r
  have s2 := sh_bd u2 r
  have s3 := sh_bd u3 r
  have t0 := and_one _ s0.1 s0.2
  have t1 := and_one _ s1.1 s1.2
  have t2 := and_one _ s2.1 s2.2
  have t3 := and_one _ s3.1 s3.2
  clear s0 s1 s2 s3
  obtain ⟨p0, q0⟩ := u0
  obtain ⟨p1, q1⟩ := u1
  obtain ⟨p2, q2⟩ := u2
  obtain ⟨p3, q3⟩ := u3
  have hq : (i : Int) / 64 = 0 ∨ (i : Int) / 64 = 1 ∨ (i : Int) / 64 = 2 ∨ (i : Int) / 64 = 3 := by omega
  rcases hq with hq | hq | hq | hq
  · go_enter Tryz.func181, Tryz.ntmps181
    go_wp2
    go_ret
    refine fin _ _ ?_ ((Mo.refl _).alloc _ _)
    rw [show i = r from by omega, ← bit_low (l0 n) (n / 18446744073709551616) r hr, show l0 n + 18446744073709551616 * (n / 18446744073709551616) = n from by unfold l0; omega]
  · go_enter Tryz.func181, Tryz.ntmps181
    go_wp2
    go_ret
    refine fin _ _ ?_ ((Mo.refl _).alloc _ _)
    rw [show i = 64 + r from by omega, div_pow_split, ← bit_low (l1 n) (n / 340282366920938463463374607431768211456) r hr, show l1 n + 18446744073709551616 * (n / 340282366920938463463374607431768211456) = n / 2 ^ 64 from by unfold l1; omega]
  · go_enter Tryz.func181, Tryz.ntmps181
    go_wp2
    go_ret
    refine fin _ _ ?_ ((Mo.refl _).alloc _ _)
    rw [show i = 128 + r from by omega, div_pow_split, ← bit_low (l2 n) (n / 6277101735386680763835789423207666416102355444464034512896) r hr, show l2 n + 18446744073709551616 * (n / 6277101735386680763835789423207666416102355444464034512896) = n / 2 ^ 128 from by unfold l2; omega]
  · go_enter Tryz.func181, Tryz.ntmps181
    go_wp2
    go_ret
    refine fin _ _ ?_ ((Mo.refl _).alloc _ _)
    rw [show i = 192 + r from by omega, div_pow_split, ← bit_low (l3 n) (n / MM) r hr, show l3 n + 18446744073709551616 * (n / MM) = n / 2 ^ 192 from by unfold l3 MM; omega]
end Go.Proofs.YtfmfeipeeedfpaaGreat
namespace Go.Proofs.YtfmfeipeeedfpaaGreat
open Go.RowKit
/-- The blocks of the call: what is divided, the divisor, the results; the rest and the quotient so far. -/
def QW (w wx : World) (k : Nat) (H L D R Q : Int) : Prop := Mo w wx ∧ AtN wx w.heap.size H ∧ AtN wx (w.heap.size + 1) L ∧ AtN wx (w.heap.size + 1 + 1) D ∧ AtN wx (w.heap.size + 1 + 1 + 1) 0 ∧ AtN wx (w.heap.size + 1 + 1 + 1 + 1) 0 ∧ AtN wx k R ∧ AtN wx (k + 1) Q ∧ w.heap.size + 1 + 1 + 1 + 1 < k
theorem QW.mo {w wx w1 : World} {k : Nat} {H L D R Q : Int} (v : QW w wx k H L D R Q) (m : Mo wx w1) : QW w w1 k H L D R Q := by
  obtain ⟨h1, h2, h3, h4, h5, h6, h7, h8, h9⟩ := v
  exact ⟨h1.trans m, h2.mo m, h3.mo m, h4.mo m, h5.mo m, h6.mo m, h7.mo m, h8.mo m, h9⟩
theorem QW.other {w wx : World} {k : Nat} {H L D R Q : Int} (v : QW w wx k H L D R Q) {j : Nat} (hj : k + 1 < j) (o : Nat) (x : Value) : QW w (wx.setCell ⟨j, o, none⟩ x) k H L D R Q := by
  obtain ⟨h1, h2, h3, h4, h5, h6, h7, h8, h9⟩ := v
  exact ⟨h1.setCell (by show w.heap.size ≤ j; omega) _, h2.set1 (by omega) _ _, h3.set1 (by omega) _ _, h4.set1 (by omega) _ _, h5.set1 (by omega) _ _, h6.set1 (by omega) _ _, h7.set1 (by omega) _ _, h8.set1 (by omega) _ _, h9⟩
theorem QW.rest {w wx : World} {k : Nat} {H L D R Q : Int} (v : QW w wx k H L D R Q) (z : Int) : QW w (st4 wx k z) k H L D z Q := by
  obtain ⟨h1, h2, h3, h4, h5, h6, h7, h8, h9⟩ := v
  exact ⟨h1.st4 (by omega) _, h2.other (by omega) _, h3.other (by omega) _, h4.other (by omega) _, h5.other (by omega) _, h6.other (by omega) _, h7.same _, h8.other (by omega) _, h9⟩
theorem QW.quo {w wx : World} {k : Nat} {H L D R Q : Int} (v : QW w wx k H L D R Q) {o : Nat} {x : Value} {Z : Int} (h : At4 (wx.setCell ⟨k + 1, o, none⟩ x) (k + 1) (l0 Z) (l1 Z) (l2 Z) (l3 Z)) : QW w (wx.setCell ⟨k + 1, o, none⟩ x) k H L D R Z := by
  obtain ⟨h1, h2, h3, h4, h5, h6, h7, ⟨_, f, s⟩, h9⟩ := v
  exact ⟨h1.setCell (by show w.heap.size ≤ k + 1; omega) _, h2.set1 (by omega) _ _, h3.set1 (by omega) _ _, h4.set1 (by omega) _ _, h5.set1 (by omega) _ _, h6.set1 (by omega) _ _, h7.set1 (by omega) _ _, ⟨h, fun o => by simp [World.frozen?_setCell, f o], by simpa [World.setCell] using s⟩, h9⟩
theorem even_or {x b : Int} (hx : 0 ≤ x) (hx2 : x < 18446744073709551616) (he : x % 2 = 0) (hb : b = 0 ∨ b = 1) : bits .or .u64 x b = x + b := by
  have := or_join (x / 2) b 1 (by omega) (by omega) (by simp; omega) (by simp; omega)
  simp at this
  rw [show x / 2 * 2 = x from by omega] at this
  exact this

set_option maxHeartbeats 4000000 in
theorem rdiv_no (H L D : Int) (w : World) (hH0 : 0 ≤ H) (hHM : H < MM) (hD0 : 0 ≤ D) (hDM : D < MM) (h : D ≤ H) :
    Calls Tryz.prog 149 #[nv H, nv L, nv D] w fun e w' => e = .returned (.tuple #[nv 0, nv 0, .bool false]) ∧ Mo w w' := by
  have z0 : nv 0 = .agg #[.int .u64 0, .int .u64 0, .int .u64 0, .int .u64 0] := by simp [nv, l0, l1, l2, l3]
  have hc : decide (cm H D ≥ 0) = true := decide_eq_true (by unfold cm; rw [if_neg (by omega)]; split <;> decide)
  rw [z0]
  go_enter Tryz.func149, Tryz.ntmps149
  go_wp2_with fail
  refine (rcmp_n H D _ hH0 hHM hD0 hDM).mono ?_
  rintro e w1 ⟨rfl, hm1⟩
  have M1 : Mo w w1 := Mo.trans (by repeat (first | with_reducible exact Mo.refl _ | with_reducible apply Mo.alloc)) hm1
  have Q1 : At0 w1 (w.heap.size + 1 + 1 + 1) := At0.mo ⟨by simp [At4, go_sem], fun o => by simp [go_sem], by simp <;> omega⟩ hm1
  have Q2 : At0 w1 (w.heap.size + 1 + 1 + 1 + 1) := At0.mo ⟨by simp [At4, go_sem], fun o => by simp [go_sem], by simp <;> omega⟩ hm1
  obtain ⟨⟨a0, a1, a2, a3⟩, fa, sa⟩ := Q1
  obtain ⟨⟨b0, b1, b2, b3⟩, fb, sb⟩ := Q2
  have fa := fun o => fa o
  have fb := fun o => fb o
  go_wp2
  refine bodyPost_ret (v := .tuple #[.agg #[.int .u64 0, .int .u64 0, .int .u64 0, .int .u64 0], .agg #[.int .u64 0, .int .u64 0, .int .u64 0, .int .u64 0], .bool false]) (by simp [results, Tryz.results149, go_sem, *]) rfl ?_
  refine ⟨rfl, ?_⟩
  repeat (first | with_reducible exact M1 | with_reducible apply Mo.drew | with_reducible apply Mo.drewN | with_reducible refine Mo.setCell ?_ (by simp <;> omega) _)

set_option maxRecDepth 100000 in
set_option maxHeartbeats 4000000 in
theorem rdiv_yes (H L D : Int) (w : World) (hH0 : 0 ≤ H) (hL0 : 0 ≤ L) (hLM : L < MM) (hDM : D < MM) (h : H < D) :
    Calls Tryz.prog 149 #[nv H, nv L, nv D] w fun e w' => e = .returned (.tuple #[nv ((H * MM + L) / D), nv ((H * MM + L) % D), .bool true]) ∧ Mo w w' := by
  have hc : decide (cm H D ≥ 0) = false := decide_eq_false (by unfold cm; rw [if_pos h]; decide)
  go_enter Tryz.func149, Tryz.ntmps149
  go_wp2_with fail
  refine (rcmp_n H D _ hH0 (by omega) (by omega) hDM).mono ?_
  rintro e w1 ⟨rfl, hm1⟩
  have M1 : Mo w w1 := Mo.trans (by repeat (first | with_reducible exact Mo.refl _ | with_reducible apply Mo.alloc)) hm1
  have Q0 : AtN w1 w.heap.size H := AtN.mo ⟨by simp [At4, go_sem], fun o => by simp [go_sem], by simp <;> omega⟩ hm1
  have Q1 : AtN w1 (w.heap.size + 1) L := AtN.mo ⟨by simp [At4, go_sem], fun o => by simp [go_sem], by simp <;> omega⟩ hm1
  have Q2 : AtN w1 (w.heap.size + 1 + 1) D := AtN.mo ⟨by simp [At4, go_sem], fun o => by simp [go_sem], by simp <;> omega⟩ hm1
  have Q3 : At0 w1 (w.heap.size + 1 + 1 + 1) := At0.mo ⟨by simp [At4, go_sem], fun o => by simp [go_sem], by simp <;> omega⟩ hm1
  have Q4 : At0 w1 (w.heap.size + 1 + 1 + 1 + 1) := At0.mo ⟨by simp [At4, go_sem], fun o => by simp [go_sem], by simp <;> omega⟩ hm1
  have hS : QW w ((w1.alloc (.cells #[.int .u64 (l0 H), .int .u64 (l1 H), .int .u64 (l2 H), .int .u64 (l3 H)] 24)).alloc (.cells #[.int .u64 0, .int .u64 0, .int .u64 0, .int .u64 0] 24)) w1.heap.size H L D H 0 := by
    have a : Mo w1 ((w1.alloc (.cells #[.int .u64 (l0 H), .int .u64 (l1 H), .int .u64 (l2 H), .int .u64 (l3 H)] 24)).alloc (.cells #[.int .u64 0, .int .u64 0, .int .u64 0, .int .u64 0] 24)) := ((Mo.refl _).alloc _ _).alloc _ _
    exact ⟨M1.trans a, Q0.mo a, Q1.mo a, Q2.mo a, Q3.mo a, Q4.mo a, (AtN.new _ _).al, AtN.at _ 0 (by simp), Q4.2.2⟩
  have HS : Hid _ := hS
  have k0 := Q4.2.2
  obtain ⟨⟨a0, a1, a2, a3⟩, _, sa⟩ := Q0
  clear hm1 M1 Q1 Q2 Q3 Q4 hS
  go_wp2_with fail
  generalize w1.heap.size = kr at *
  go_loopw [11] (fun s wx => ∃ (j : Nat) (q R : Int), j ≤ 256 ∧ s = .int .i64 ((j : Int) - 1) ∧ 0 ≤ q ∧ q < 2 ^ (256 - j) ∧ 0 ≤ R ∧ R < D ∧ q * D + R = nj H L j ∧ QW w wx kr H L D R (q * 2 ^ j)) (fun s _ => (intOf s + 1).toNat)
  case atStart => exact ⟨256, 0, H, by decide, rfl, by decide, by decide, hH0, h, by rw [nj_top H hL0 hLM]; omega, by rw [Int.zero_mul]; exact HS.out⟩
  case round =>
    obtain ⟨j, q, R, hj, rfl, q0, q1, R0, R1, hI, hv⟩ := hrel
    clear HS
    have HI : Hid _ := hI
    have HQ : Hid _ := q1
    clear hI q1
    rcases Nat.eq_zero_or_pos j with hj0 | hj0
    · subst hj0
      rw [Int.pow_zero, Int.mul_one] at hv
      have hI := HI.out
      rw [nj_low] at hI
      obtain ⟨x1, x2⟩ := div_end R0 R1 hI
      have X1 : Hid _ := x1
      have X2 : Hid _ := x2
      clear hI x1 x2
      obtain ⟨m, _, _, _, ⟨⟨a0, a1, a2, a3⟩, fa, za⟩, ⟨⟨b0, b1, b2, b3⟩, fb, zb⟩, ⟨⟨c0, c1, c2, c3⟩, _, zc⟩, ⟨⟨d0, d1, d2, d3⟩, _, zd⟩, hk⟩ := hv
      have fa := fun o => fa o
      have fb := fun o => fb o
      go_wp2
      go_region
      all_goals
        go_wp2
        refine bodyPost_ret (v := .tuple #[nv q, nv R, .bool true]) (by simp [results, Tryz.results149, go_sem, *]) rfl ?_
        refine ⟨by rw [X1.out, X2.out], ?_⟩
        repeat (first | with_reducible exact m | with_reducible apply Mo.drew | with_reducible apply Mo.drewN | with_reducible refine Mo.setCell ?_ (by simp <;> omega) _)
    · obtain ⟨i, rfl⟩ : ∃ i, j = i + 1 := ⟨j - 1, by omega⟩
      rw [show (((i + 1 : Nat)) : Int) - 1 = (i : Int) from by omega]
      have di : decide ((i : Int) ≥ 0) = true := decide_eq_true (by omega)
      have hv0 := hv
      obtain ⟨hm, n0, n1, n2, n3, n4, ⟨⟨c0, c1, c2, c3⟩, _, s1⟩, n6, hk⟩ := hv0
      clear n0 n1 n2 n3 n4 n6 hm
      go_wp2_with fail
      refine (radd_n R R _ R0 (by omega) R0 (by omega)).mono ?_
      rintro e w2 ⟨rfl, hm2⟩
      have hv2 := hv.mo hm2
      have sk : kr + 1 < w2.heap.size := hv2.2.2.2.2.2.2.2.1.2.2
      have v3 := hv2.mo ((Mo.refl _).alloc #[.int .u64 (l0 (R + R)), .int .u64 (l1 (R + R)), .int .u64 (l2 (R + R)), .int .u64 (l3 (R + R))] 24)
      have n3 := AtN.new w2 (R + R)
      clear c0 c1 c2 c3 s1 hv hm2 hv2
      go_upto_region 9 with fail
      generalize w2.alloc (.cells #[.int .u64 (l0 (R + R)), .int .u64 (l1 (R + R)), .int .u64 (l2 (R + R)), .int .u64 (l3 (R + R))] 24) = w3 at *
      generalize w2.heap.size = kx at *
      obtain ⟨b, hb⟩ : ∃ b, b = L / 2 ^ i % 2 := ⟨_, rfl⟩
      have hb2 : b = 0 ∨ b = 1 := by omega
      have eo : bits .or .u64 (l0 (R + R)) b = l0 (R + R + b) := by
        rw [even_or (by unfold l0; omega) (by unfold l0; omega) (by unfold l0; omega) hb2]
        unfold l0; omega
      have e1 : l1 (R + R + b) = l1 (R + R) := by unfold l1; omega
      have e2 : l2 (R + R + b) = l2 (R + R) := by unfold l2; omega
      have e3 : l3 (R + R + b) = l3 (R + R) := by unfold l3; omega
      have HB : Hid _ := hb
      have E1 : Hid _ := e1
      have E2 : Hid _ := e2
      have E3 : Hid _ := e3
      clear e1 e2 e3
      go_cut [] from 31 to 37 (fun wx => QW w wx kr H L D R (q * 2 ^ (i + 1)) ∧ AtN wx kx (R + R + b))
      case first =>
        have v3z := v3
        obtain ⟨_, _, ⟨⟨c0, c1, c2, c3⟩, _, s1⟩, _⟩ := v3z
        have n3z := n3
        obtain ⟨⟨d0, d1, d2, d3⟩, df, sx⟩ := n3z
        have df := fun o => df o
        clear hb
        go_region_with
          (first | (go_at_call 181; refine (bit_any L i _ hL0 hLM (by omega)).mono ?_; rintro e w4 ⟨rfl, hm4⟩; rw [← HB.out]; have m4 : Mo w3 w4 := Mo.trans (by repeat (first | with_reducible exact Mo.refl _ | with_reducible apply Mo.drew | with_reducible apply Mo.alloc)) hm4; have v4 := v3.mo m4; have n4 := n3.mo m4; have n4z := n4; obtain ⟨⟨f0, f1, f2, f3⟩, ff, sf⟩ := n4z; have ff := fun o => ff o))
        all_goals
          go_wp2
          go_meet
          case rel =>
            refine ⟨?_, ?_⟩
            · exact v4.other sk _ _
            · refine ⟨?_, fun o => ?_, ?_⟩
              · rw [E1.out, E2.out, E3.out]
                simp [At4, go_sem, *]
              · simp [World.frozen?_setCell, ff o]
              · simpa [World.setCell] using sf
      case rest =>
        clear v3 n3 eo E1 E2 E3
        obtain ⟨v, n⟩ := hcut
        obtain ⟨T, hT⟩ : ∃ T, T = R + R + b := ⟨_, rfl⟩
        rw [← hT] at n
        have T0 : 0 ≤ T := by omega
        have T1 : T < D + D := by omega
        have HT : Hid _ := hT
        go_upto_region 10 with fail
        generalize hO : ov (R + R) = o at *
        have HO : Hid _ := hO
        clear hO
        go_cut [44] from 38 to 44 (fun s44 wx => s44 = .bool (decide (D ≤ T)) ∧ QW w wx kr H L D R (q * 2 ^ (i + 1)) ∧ AtN wx kx T)
        case first =>
          cases o
          case true =>
            have ho : MM ≤ R + R := of_decide_eq_true HO.out
            have o2 : Hid (decide (D ≤ T) = true) := decide_eq_true (by omega)
            clear hT hb ho
            go_wp2
            go_meet
            case rel => exact ⟨by rw [o2.out], v, n⟩
          case false =>
            have ho : ¬ MM ≤ R + R := of_decide_eq_false HO.out
            have tm : T < MM := by unfold MM at *; omega
            have o2 : Hid (decide (cm T D ≥ 0) = decide (D ≤ T)) := by
              show _ = _
              unfold cm
              by_cases hx : T < D
              · rw [if_pos hx, decide_eq_false (by decide), decide_eq_false (by omega)]
              · rw [if_neg hx, decide_eq_true (p := D ≤ T) (by omega)]
                split <;> decide
            clear hT hb ho
            have vz := v
            have nz := n
            obtain ⟨_, _, _, ⟨⟨c0, c1, c2, c3⟩, _, s1⟩, _⟩ := vz
            obtain ⟨⟨d0, d1, d2, d3⟩, _, sx⟩ := nz
            go_wp2_with fail
            refine (rcmp_n T D _ T0 tm (by omega) hDM).mono ?_
            rintro e w5 ⟨rfl, hm5⟩
            have v5 := v.mo hm5
            have n5 := n.mo hm5
            go_wp2
            go_meet
            case rel => exact ⟨by rw [o2.out], v5, n5⟩
        case rest =>
          clear v n hT hb
          obtain ⟨rfl, v, n⟩ := hcut
          have vz := v
          have nz := n
          obtain ⟨_, _, _, ⟨⟨c0, c1, c2, c3⟩, _, s1⟩, _⟩ := vz
          obtain ⟨⟨d0, d1, d2, d3⟩, df, sx⟩ := nz
          generalize hdd : decide (D ≤ T) = dd at *
          have HD : Hid _ := hdd
          clear hdd
          cases dd
          case true =>
            have hsub : ∀ wx, Calls Tryz.prog 182 #[nv T, nv D] wx fun e w' => e = .returned (.tuple #[nv (T - D), .bool (un (T % MM - D))]) ∧ Mo wx w' := by
              intro wx
              have hh := rsub_n (T % MM) D wx (Int.emod_nonneg _ (by decide)) (Int.emod_lt_of_pos _ (by decide)) (by omega) hDM
              rw [nv_mod] at hh
              have e : nv (T % MM - D) = nv (T - D) := by rw [← nv_mod (T % MM - D), ← nv_mod (T - D), Int.emod_sub_emod]
              rw [e] at hh
              exact hh
            clear df
            go_wp2_with fail
            refine (hsub _).mono ?_
            rintro e w6 ⟨rfl, hm6⟩
            have v6 := v.mo hm6
            have n6 := n.mo hm6
            clear c0 c1 c2 c3 s1 d0 d1 d2 d3 sx v n hsub hm6
            have v7 : QW w (st4 w6 kx (T - D)) kr H L D R (q * 2 ^ (i + 1)) := (((v6.other sk _ _).other sk _ _).other sk _ _).other sk _ _
            have n7 : AtN (st4 w6 kx (T - D)) kx (T - D) := n6.same _
            unfold st4 at v7 n7
            obtain ⟨⟨d0, d1, d2, d3⟩, df, sx⟩ := n6
            have df := fun o => df o
            clear v6
            go_upto_region 12 with fail
            generalize (((w6.setCell ⟨kx, 0, none⟩ (.int .u64 (l0 (T - D)))).setCell ⟨kx, 1, none⟩ (.int .u64 (l1 (T - D)))).setCell ⟨kx, 2, none⟩ (.int .u64 (l2 (T - D)))).setCell ⟨kx, 3, none⟩ (.int .u64 (l3 (T - D))) = w8 at *
            clear d0 d1 d2 d3 df sx
            obtain ⟨r, hr⟩ : ∃ r, r = i % 64 := ⟨_, rfl⟩
            have hbs := bit_set (by omega) q0 (by have := HQ.out; rwa [show 256 - (i + 1) = 255 - i from by omega] at this) r hr
            have r64 : r < 64 := by omega
            have er : (i : Int) % 64 = (r : Int) := by omega
            have wp : IntKind.u64.wrap (2 ^ r) = 2 ^ r := by
              rw [IntKind.wrap_u64]
              have h1 : (0 : Int) < 2 ^ r := Int.pow_pos (by decide)
              have h2 : (2 : Int) ^ r < 2 ^ 64 := by
                have := Nat.pow_lt_pow_right (a := 2) (by decide) r64
                rw [← cast_pow, ← cast_pow]
                omega
              exact Int.emod_eq_of_lt (by omega) h2
            clear hr
            obtain ⟨Q, hQ⟩ : ∃ Q, Q = q * 2 ^ (i + 1) := ⟨_, rfl⟩
            obtain ⟨Z, hZ⟩ : ∃ Z, Z = Q + 2 ^ i := ⟨_, rfl⟩
            rw [← hQ, ← hZ] at hbs
            rw [← hQ] at v7
            have HQ2 : Hid _ := hQ
            have HZ : Hid _ := hZ
            clear hQ hZ
            go_cut [] from 51 to 59 (fun wx => QW w wx kr H L D R Z ∧ AtN wx kx (T - D))
            case first =>
              have vz := v7
              obtain ⟨_, _, _, _, _, _, _, ⟨⟨c0, c1, c2, c3⟩, cf, s1⟩, _⟩ := vz
              have cf := fun o => cf o
              rcases hbs with ⟨hm, g0, g1, g2, g3⟩ | ⟨hm, g0, g1, g2, g3⟩ | ⟨hm, g0, g1, g2, g3⟩ | ⟨hm, g0, g1, g2, g3⟩
              · have hq : (i : Int) / 64 = 0 := by omega
                have HG1 : Hid _ := g1
                have HG2 : Hid _ := g2
                have HG3 : Hid _ := g3
                clear g1 g2 g3 hm
                go_region
                all_goals
                  go_wp2
                  go_meet
                  case rel =>
                    refine ⟨(v7.quo ?_).mo (Mo.refl _).drew, (n7.set1 (by omega) _ _).mo (Mo.refl _).drew⟩
                    rw [HG1.out, HG2.out, HG3.out]
                    simp [At4, go_sem, *]
              · have hq : (i : Int) / 64 = 1 := by omega
                have HG1 : Hid _ := g1
                have HG2 : Hid _ := g2
                have HG3 : Hid _ := g3
                clear g1 g2 g3 hm
                go_region
                all_goals
                  go_wp2
                  go_meet
                  case rel =>
                    refine ⟨(v7.quo ?_).mo (Mo.refl _).drew, (n7.set1 (by omega) _ _).mo (Mo.refl _).drew⟩
                    rw [HG1.out, HG2.out, HG3.out]
                    simp [At4, go_sem, *]
              · have hq : (i : Int) / 64 = 2 := by omega
                have HG1 : Hid _ := g1
                have HG2 : Hid _ := g2
                have HG3 : Hid _ := g3
                clear g1 g2 g3 hm
                go_region
                all_goals
                  go_wp2
                  go_meet
                  case rel =>
                    refine ⟨(v7.quo ?_).mo (Mo.refl _).drew, (n7.set1 (by omega) _ _).mo (Mo.refl _).drew⟩
                    rw [HG1.out, HG2.out, HG3.out]
                    simp [At4, go_sem, *]
              · have hq : (i : Int) / 64 = 3 := by omega
                have HG1 : Hid _ := g1
                have HG2 : Hid _ := g2
                have HG3 : Hid _ := g3
                clear g1 g2 g3 hm
                go_region
                all_goals
                  go_wp2
                  go_meet
                  case rel =>
                    refine ⟨(v7.quo ?_).mo (Mo.refl _).drew, (n7.set1 (by omega) _ _).mo (Mo.refl _).drew⟩
                    rw [HG1.out, HG2.out, HG3.out]
                    simp [At4, go_sem, *]
            case rest =>
              clear v7 n7
              obtain ⟨v7, n7⟩ := hcut
              have v8 := v7.rest (T - D)
              unfold st4 at v8
              obtain ⟨⟨d0, d1, d2, d3⟩, _, sx⟩ := n7
              obtain ⟨_, _, _, _, _, _, ⟨⟨c0, c1, c2, c3⟩, cf, s1⟩, _, _⟩ := v7
              have cf := fun o => cf o
              clear hbs
              go_wp2
              go_roundw
              case rel =>
                have hI := div_yes_step (by omega) HI.out
                have hb := HB.out
                have hT := HT.out
                rw [← hb, show 2 * R + b = T from by omega] at hI
                have hq1 : q < 2 ^ (255 - i) := by have := HQ.out; rwa [show 256 - (i + 1) = 255 - i from by omega] at this
                have hge := of_decide_eq_true HD.out
                refine ⟨i, 2 * q + 1, T - D, by omega, by go_num, by omega, (q_no (by omega) hq1).2, by omega, by omega, hI, ?_⟩
                rw [q_pow1, ← HQ2.out, ← HZ.out]
                exact v8
              case measure => simp [intOf]
          case false =>
            have v8 := v.rest T
            unfold st4 at v8
            obtain ⟨_, _, _, _, _, _, ⟨⟨b0, b1, b2, b3⟩, cf, s2⟩, _, _⟩ := v
            have cf := fun o => cf o
            clear df
            go_wp2
            go_roundw
            case rel =>
              have hI := div_no_step (by omega) HI.out
              have hb := HB.out
              have hT := HT.out
              rw [← hb, show 2 * R + b = T from by omega] at hI
              have hq1 : q < 2 ^ (255 - i) := by have := HQ.out; rwa [show 256 - (i + 1) = 255 - i from by omega] at this
              have hge := of_decide_eq_false HD.out
              refine ⟨i, 2 * q, T, by omega, by go_num, by omega, (q_no (by omega) hq1).1, by omega, by omega, hI, ?_⟩
              rw [q_pow]
              exact v8
            case measure => simp [intOf]
theorem rdiv_n (H L D : Int) (w : World) (hH0 : 0 ≤ H) (hHM : H < MM) (hL0 : 0 ≤ L) (hLM : L < MM) (hD0 : 0 ≤ D) (hDM : D < MM) :
    Calls Tryz.prog 149 #[nv H, nv L, nv D] w fun e w' => e = .returned (.tuple #[nv (dq H L D), nv (dr H L D), .bool (dok H D)]) ∧ Mo w w' := by
  unfold dq dr dok
  by_cases h : D ≤ H
  · rw [if_pos h, if_pos h, decide_eq_false (by omega)]
    exact rdiv_no H L D w hH0 hHM hD0 hDM h
  · rw [if_neg h, if_neg h, decide_eq_true (by omega)]
    exact rdiv_yes H L D w hH0 hL0 hLM hDM (by omega)
end Go.Proofs.YtfmfeipeeedfpaaGreat
namespace Go.Proofs.YtfmfeipeeedfpaaGreat
open S Go.RowKit
set_option maxRecDepth 20000 in
theorem q_from (u : Int) (hu : 0 ≤ u ∧ u < 18446744073709551616) (w : World) : Calls Tryz.prog 99 #[.int .u64 u] w fun r W => r = .returned (nv u) ∧ Mb w W := by
  rw [show nv u = .agg #[.int .u64 u, .int .u64 0, .int .u64 0, .int .u64 0] by
    rw [nv, show l0 u = u by unfold l0; omega, show l1 u = 0 by unfold l1; omega, show l2 u = 0 by unfold l2; omega, show l3 u = 0 by unfold l3; omega]]
  exact fn_pure [.int .u64 u] Tryz.func99 rfl rfl rfl (run_ok (st mo rfl))
theorem qadd_c {X Y Z : Int} {o : Bool} (hz : Z = X + Y) (ho : decide (MM ≤ X % MM + Y % MM) = o) (W : World) : Calls Tryz.prog 180 #[nv X, nv Y] W fun e W' => e = .returned (.tuple #[nv Z, .bool o]) ∧ Mb W W' := by
  have q := radd_n (X % MM) (Y % MM) W (lo_b X).1 (lo_b X).2 (lo_b Y).1 (lo_b Y).2
  rw [nv_mod, nv_mod, ← nv_mod (X % MM + Y % MM), ← Int.add_emod, nv_mod, show ov (X % MM + Y % MM) = o from ho, ← hz] at q
  exact q.mono fun _ _ ⟨a, b⟩ => ⟨a, b.mb⟩
theorem qsub_c {X Y Z : Int} {o : Bool} (hz : Z = X - Y) (ho : decide (X % MM - Y % MM < 0) = o) (W : World) : Calls Tryz.prog 182 #[nv X, nv Y] W fun e W' => e = .returned (.tuple #[nv Z, .bool o]) ∧ Mb W W' := by
  have q := rsub_n (X % MM) (Y % MM) W (lo_b X).1 (lo_b X).2 (lo_b Y).1 (lo_b Y).2
  rw [nv_mod, nv_mod, ← nv_mod (X % MM - Y % MM), ← Int.sub_emod, nv_mod, show un (X % MM - Y % MM) = o from ho, ← hz] at q
  exact q.mono fun _ _ ⟨a, b⟩ => ⟨a, b.mb⟩
theorem qcmp_c {A B c : Int} (hA : 0 ≤ A ∧ A < MM) (hB : 0 ≤ B ∧ B < MM) (h : cm A B = c) (W : World) : Calls Tryz.prog 179 #[nv A, nv B] W fun e W' => e = .returned (.int .i64 c) ∧ Mb W W' :=
  (rcmp_n A B W hA.1 hA.2 hB.1 hB.2).mono fun _ _ ⟨a, b⟩ => ⟨h ▸ a, b.mb⟩
set_option maxRecDepth 20000 in
theorem q_plus (X Y : Int) (w : World) : Calls Tryz.prog 151 #[dw X, dw Y] w fun r W => r = .returned (dw (X + Y)) ∧ Mb w W := by
  refine fn_pure [dw X, dw Y] Tryz.func151 rfl rfl rfl (run_ok (st mo ?_))
  by_cases hc : MM ≤ X % MM + Y % MM
  · have e : (X + Y) / MM = X / MM + Y / MM + 1 := by unfold MM at *; omega
    refine ⟨_, fun nn => r_call (t := .tuple #[nv (X + Y), litT]) rfl rfl Tryz.func180 (fun W M E => qadd_c rfl (decide_eq_true hc) W), st mo ?_⟩
    refine ⟨_, fun nn => r_call (t := .tuple #[nv (X / MM + Y / MM), .bool (decide (MM ≤ (X / MM) % MM + (Y / MM) % MM))]) rfl rfl Tryz.func180 (fun W M E => qadd_c rfl rfl W), st mo ?_⟩
    refine ⟨_, fun nn => r_call (t := nv 1) rfl rfl Tryz.func99 (fun W M E => q_from 1 (by decide) W), st mo ?_⟩
    refine ⟨_, fun nn => r_call (t := .tuple #[nv ((X + Y) / MM), .bool (decide (MM ≤ (X / MM + Y / MM) % MM + 1 % MM))]) rfl rfl Tryz.func180 (fun W M E => qadd_c e rfl W), st mo ⟨dk, st mo ?_⟩⟩
    rfl
  · have e : (X + Y) / MM = X / MM + Y / MM := by unfold MM at *; omega
    refine ⟨_, fun nn => r_call (t := .tuple #[nv (X + Y), litF]) rfl rfl Tryz.func180 (fun W M E => qadd_c rfl (decide_eq_false hc) W), st mo ?_⟩
    refine ⟨_, fun nn => r_call (t := .tuple #[nv ((X + Y) / MM), .bool (decide (MM ≤ (X / MM) % MM + (Y / MM) % MM))]) rfl rfl Tryz.func180 (fun W M E => qadd_c e rfl W), st mo ?_⟩
    rfl
set_option maxRecDepth 20000 in
theorem q_minus (X Y : Int) (w : World) : Calls Tryz.prog 154 #[dw X, dw Y] w fun r W => r = .returned (dw (X - Y)) ∧ Mb w W := by
  refine fn_pure [dw X, dw Y] Tryz.func154 rfl rfl rfl (run_ok (st mo ?_))
  by_cases hc : X % MM - Y % MM < 0
  · have e : (X - Y) / MM = X / MM - Y / MM - 1 := by unfold MM at *; omega
    refine ⟨_, fun nn => r_call (t := .tuple #[nv (X - Y), litT]) rfl rfl Tryz.func182 (fun W M E => qsub_c rfl (decide_eq_true hc) W), st mo ?_⟩
    refine ⟨_, fun nn => r_call (t := .tuple #[nv (X / MM - Y / MM), .bool (decide ((X / MM) % MM - (Y / MM) % MM < 0))]) rfl rfl Tryz.func182 (fun W M E => qsub_c rfl rfl W), st mo ?_⟩
    refine ⟨_, fun nn => r_call (t := nv 1) rfl rfl Tryz.func99 (fun W M E => q_from 1 (by decide) W), st mo ?_⟩
    refine ⟨_, fun nn => r_call (t := .tuple #[nv ((X - Y) / MM), .bool (decide ((X / MM - Y / MM) % MM - 1 % MM < 0))]) rfl rfl Tryz.func182 (fun W M E => qsub_c e rfl W), st mo ⟨dk, st mo ?_⟩⟩
    rfl
  · have e : (X - Y) / MM = X / MM - Y / MM := by unfold MM at *; omega
    refine ⟨_, fun nn => r_call (t := .tuple #[nv (X - Y), litF]) rfl rfl Tryz.func182 (fun W M E => qsub_c rfl (decide_eq_false hc) W), st mo ?_⟩
    refine ⟨_, fun nn => r_call (t := .tuple #[nv ((X - Y) / MM), .bool (decide ((X / MM) % MM - (Y / MM) % MM < 0))]) rfl rfl Tryz.func182 (fun W M E => qsub_c e rfl W), st mo ?_⟩
    rfl
set_option maxRecDepth 20000 in
theorem q_cmpW (X Y : Int) (hX : 0 ≤ X ∧ X < MM * MM) (hY : 0 ≤ Y ∧ Y < MM * MM) (w : World) : Calls Tryz.prog 153 #[dw X, dw Y] w fun r W => r = .returned (.int .i64 (cm X Y)) ∧ Mb w W := by
  refine fn_pure [dw X, dw Y] Tryz.func153 rfl rfl rfl (run_ok (st mo ?_))
  refine ⟨_, fun nn => r_call (t := .int .i64 (cm (X / MM) (Y / MM))) rfl rfl Tryz.func179 (fun W M E => qcmp_c (hi_b hX) (hi_b hY) rfl W), st mo ⟨fun h1 => st mo ?_, fun h1 => st mo ?_⟩⟩
  · show _ = _; rw [cm_hi h1]
  · refine ⟨_, fun nn => r_call (t := .int .i64 (cm (X % MM) (Y % MM))) rfl rfl Tryz.func179 (fun W M E => qcmp_c (lo_b X) (lo_b Y) rfl W) (by rw [nv_mod, nv_mod]; rfl), st mo ?_⟩
    show _ = _; rw [cm_lo h1]
set_option maxRecDepth 20000 in
theorem q_shift (n : Int) (k : Nat) (hn : 0 ≤ n ∧ n < MM) (hk : k ≤ 77) (w : World) : Calls Tryz.prog 147 #[nv n, .int .i64 (k : Int)] w fun r W => r = .returned (dw (n * 10 ^ k)) ∧ Mb w W := by
  refine fn_pure [nv n, .int .i64 (k : Int)] Tryz.func147 rfl rfl rfl (run_ok (st mo ?_))
  refine ⟨_, fun nn => r_call (t := .tuple #[nv (10 ^ k), litT]) rfl rfl Tryz.func148 (fun W M E => (rten_yes k W hk).mono fun _ _ ⟨a, b⟩ => ⟨a, b.mb⟩), st mo ?_⟩
  refine ⟨_, fun nn => r_call (t := .tuple #[nv (n * 10 ^ k / MM), nv (n * 10 ^ k)]) rfl rfl Tryz.func155 (fun W M E => (rmul_n n (10 ^ k) W hn.1 hn.2 (p10_b hk).1 (p10_b hk).2).mono fun _ _ ⟨a, b⟩ => ⟨a, b.mb⟩), st mo ?_⟩
  rfl
set_option maxRecDepth 20000 in
theorem q_zero {X : Int} (h0 : 0 ≤ X) (h : X < MM) (w : World) : Calls Tryz.prog 146 #[dw X] w fun r W => r = .returned (.bool (decide (X = 0))) ∧ Mb w W := by
  refine fn_pure [dw X] Tryz.func146 rfl rfl rfl (run_ok (st mo ?_))
  refine ⟨_, r_eqN (X / MM) 0 ⟨Int.ediv_nonneg h0 (by decide), by rw [hi_0 h h0]; decide⟩ MM_0, fun q => st mo ?_, fun q => absurd (hi_0 h h0) (of_decide_eq_false q)⟩
  refine ⟨_, r_eqN X 0 ⟨h0, h⟩ MM_0, fun q => st mo ?_, fun q => st mo ?_⟩
  · show _ = _; rw [q]
  · show _ = _; rw [q]
theorem q_zero' {X : Int} {b : Bool} (hb : decide (X = 0) = b) (h0 : 0 ≤ X) (h : X < MM) (w : World) : Calls Tryz.prog 146 #[dw X] w fun r W => r = .returned (.bool b) ∧ Mb w W := hb ▸ q_zero h0 h w
set_option maxRecDepth 20000 in
theorem q_at {b : Bool} {X s : Int} {r : DR} (hr : fxR b X s = r) (hX : 0 ≤ X ∧ X < MM * MM) (w : World) : Calls Tryz.prog 102 #[.bool b, dw X, .int .i64 s] w fun e W => e = .returned r.v ∧ Mb w W := by
  subst hr
  cases b
  · refine fn_pure [litF, dw X, .int .i64 s] Tryz.func102 rfl rfl rfl (run_ok (st mo ?_))
    refine ⟨_, r_neN (X / MM) 0 (hi_b hX) MM_0, fun h => st mo ?_, fun h => st mo ⟨dk, st mo ?_⟩⟩
    · have h : ¬ X < MM := fun q => by rw [hi_0 q hX.1] at h; cases h
      show _ = _; rw [fx_7 h]; rfl
    · have h : X < MM := Classical.byContradiction fun q => by rw [decide_eq_false (hi_1 q)] at h; cases h
      show _ = _; rw [fx_0 h]; rfl
  · refine fn_pure [litT, dw X, .int .i64 s] Tryz.func102 rfl rfl rfl (run_ok (st mo ?_))
    refine ⟨_, r_neN (X / MM) 0 (hi_b hX) MM_0, fun h => st mo ?_, fun h => st mo ?_⟩
    · have h : ¬ X < MM := fun q => by rw [hi_0 q hX.1] at h; cases h
      show _ = _; rw [fx_7 h]; rfl
    · have h : X < MM := Classical.byContradiction fun q => by rw [decide_eq_false (hi_1 q)] at h; cases h
      cases hz : decide (X = 0) with
      | true =>
        refine ⟨_, fun nn => r_call (t := litT) rfl rfl Tryz.func146 (fun W M E => q_zero' hz hX.1 h W), st mo ⟨dk, st mo ?_⟩⟩
        show _ = _; rw [fx_0 h]; simp only [DR.v, hz]; rfl
      | false =>
        refine ⟨_, fun nn => r_call (t := litF) rfl rfl Tryz.func146 (fun W M E => q_zero' hz hX.1 h W), st mo ⟨dk, st mo ?_⟩⟩
        show _ = _; rw [fx_0 h]; simp only [DR.v, hz]; rfl
/-- A number of no more than 256 bits as one of twice as many. -/
abbrev dwz (n : Int) : Value := .agg #[.int .u64 0, .int .u64 0, .int .u64 0, .int .u64 0, .int .u64 (l0 n), .int .u64 (l1 n), .int .u64 (l2 n), .int .u64 (l3 n)]
theorem dwz_eq {n : Int} (h : 0 ≤ n ∧ n < MM) : dwz n = dw n := by
  show _ = Value.agg #[.int .u64 (l0 (n / MM)), .int .u64 (l1 (n / MM)), .int .u64 (l2 (n / MM)), .int .u64 (l3 (n / MM)), .int .u64 (l0 n), .int .u64 (l1 n), .int .u64 (l2 n), .int .u64 (l3 n)]
  rw [hi_0 h.2 h.1]; rfl
theorem mm_w {n : Int} (h : 0 ≤ n ∧ n < MM) : 0 ≤ n ∧ n < MM * MM := ⟨h.1, Int.lt_of_lt_of_le h.2 (by decide)⟩
theorem q_at0 {b : Bool} {n s : Int} {r : DR} (hr : fxR b n s = r) (hn : 0 ≤ n ∧ n < MM) (w : World) : Calls Tryz.prog 102 #[.bool b, dwz n, .int .i64 s] w fun e W => e = .returned r.v ∧ Mb w W := by
  rw [dwz_eq hn]; exact q_at hr (mm_w hn) w
set_option maxRecDepth 20000 in
theorem q_both (b : Bool) (n s : Int) (c : Bool) (m t : Int) (hn : 0 ≤ n ∧ n < MM) (hm : 0 ≤ m ∧ m < MM) (h1 : ck b n s = 0) (h2 : ck c m t = 0) (w : World) : Calls Tryz.prog 152 #[dc b n s, dc c m t] w fun r W => r = .returned (.int .i64 0) ∧ Mb w W := by
  refine fn_pure [dc b n s, dc c m t] Tryz.func152 rfl rfl rfl (run_ok (st mo ?_))
  refine ⟨_, fun nn => r_call (t := .int .i64 0) rfl rfl Tryz.func59 (fun W M E => h1 ▸ q_dck b n s hn W), st mo ⟨fun h => absurd rfl h, fun _ => st mo ?_⟩⟩
  refine ⟨_, fun nn => r_call (t := .int .i64 0) rfl rfl Tryz.func59 (fun W M E => h2 ▸ q_dck c m t hm W), st mo ?_⟩
  rfl
set_option maxRecDepth 20000 in
theorem q_dneg (b : Bool) (n s : Int) (hn : 0 ≤ n ∧ n < MM) (h1 : ck b n s = 0) (w : World) : Calls Tryz.prog 68 #[dc b n s] w fun r W => r = .returned (negR b n s).v ∧ Mb w W := by
  have e : ∀ b, fxR b n s = ⟨b && !decide (n = 0), n, s, 0⟩ := fun _ => fx_0 hn.2
  cases b
  · refine fn_pure [dcl litF n s] Tryz.func68 rfl rfl rfl (run_ok (st mo ?_))
    refine ⟨_, fun nn => r_call (t := .int .i64 0) rfl rfl Tryz.func59 (fun W M E => h1 ▸ q_dck _ n s hn W), st mo ⟨fun h => absurd rfl h, fun _ => st mo ?_⟩⟩
    refine ⟨_, fun nn => r_call (t := .tuple #[dc (true && !decide (n = 0)) n s, .int .i64 0]) rfl rfl Tryz.func102 (fun W M E => q_at0 (e true) hn W), st mo ?_⟩
    rfl
  · refine fn_pure [dcl litT n s] Tryz.func68 rfl rfl rfl (run_ok (st mo ?_))
    refine ⟨_, fun nn => r_call (t := .int .i64 0) rfl rfl Tryz.func59 (fun W M E => h1 ▸ q_dck _ n s hn W), st mo ⟨fun h => absurd rfl h, fun _ => st mo ?_⟩⟩
    refine ⟨_, fun nn => r_call (t := .tuple #[dc (false && !decide (n = 0)) n s, .int .i64 0]) rfl rfl Tryz.func102 (fun W M E => q_at0 (e false) hn W), st mo ?_⟩
    rfl
end Go.Proofs.YtfmfeipeeedfpaaGreat
namespace Go.Proofs.YtfmfeipeeedfpaaGreat
open S Go.RowKit
set_option maxRecDepth 20000 in
theorem q_may (S p : Int) (w : World) : Calls Tryz.prog 103 #[.int .i64 S, .int .i64 p] w fun r W => r = .returned (.int .i64 (rkE S p)) ∧ Mb w W := by
  refine fn_pure [.int .i64 S, .int .i64 p] Tryz.func103 rfl rfl rfl (run_ok (st mo ?_))
  have n1 : ∀ h : ¬ (0 ≤ S ∧ S ≤ 18), rkE S p = 21 := fun h => by unfold rkE; rw [if_neg (fun q => h (sc_iff.1 q))]
  refine ⟨fun h => st mo ?_, fun h => st mo ⟨fun g => st mo ?_, fun g => st mo ?_⟩⟩
  · show _ = _; rw [n1 (by omega)]
  · show _ = _; rw [n1 (by omega)]
  have n2 : rkE S p = if 1 ≤ p ∧ p ≤ 5 then 0 else 22 := by unfold rkE; rw [if_pos (sc_iff.2 ⟨by omega, by omega⟩)]
  refine ⟨fun h => st mo ?_, fun h => st mo ⟨fun g => st mo ?_, fun g => st mo ?_⟩⟩
  · show _ = _; rw [n2, if_neg (by omega)]
  · show _ = _; rw [n2, if_neg (by omega)]
  · show _ = _; rw [n2, if_pos (by omega)]
theorem qadd_r {r : Int} (hr : 0 ≤ r ∧ r + r < MM) (W : World) : Calls Tryz.prog 180 #[nv r, nv r] W fun e W' => e = .returned (.tuple #[nv (r + r), .bool false]) ∧ Mb W W' :=
  qadd_c rfl (decide_eq_false (by rw [lo_n (by omega) hr.1]; omega)) W
set_option maxRecDepth 20000 in
theorem q_up (b : Bool) (q r d p : Int) (h0 : ¬ r = 0) (hr : 0 ≤ r ∧ r + r < MM) (hd : 0 ≤ d ∧ d < MM) (w : World) : Calls Tryz.prog 150 #[.int .i64 p, .bool b, nv q, nv r, nv d] w fun e W => e = .returned (.bool (aw b q r d p)) ∧ Mb w W := by
  obtain ⟨g1, g2, g3⟩ := @cm_g (r + r) d
  cases b
  · refine fn_pure [.int .i64 p, litF, nv q, nv r, nv d] Tryz.func150 rfl rfl rfl (run_ok (st mo ?_))
    refine ⟨_, fun nn => r_call (t := .tuple #[nv (r + r), litF]) rfl rfl Tryz.func180 (fun W M E => qadd_r hr W), st mo ?_⟩
    refine ⟨_, fun nn => r_call (t := .int .i64 (cm (r + r) d)) rfl rfl Tryz.func179 (fun W M E => qcmp_c ⟨by omega, hr.2⟩ hd rfl W), st mo ?_⟩
    refine ⟨fun h1 => st mo ⟨fun h => st mo ?_, fun h => st mo ?_⟩, fun h1 => st mo ⟨fun h2 => st mo ?_, fun h2 => st mo ⟨fun h4 => st mo ?_, fun h4 => st mo ⟨fun h5 => st mo ?_, fun h5 => st mo ?_⟩⟩⟩⟩
    · show _ = _; rw [aw, if_neg h0, if_pos h1, decide_eq_true (g1.1 h)]
    · show _ = _; rw [aw, if_neg h0, if_pos h1, decide_eq_false (by omega)]
    · refine ⟨fun h => st mo ?_, fun h => st mo ⟨fun g => st mo ?_, fun g => st mo ?_⟩⟩
      · show _ = _; rw [aw, if_neg h0, if_neg h1, if_pos h2, decide_eq_true (g2.1 h)]; rfl
      · refine ⟨by decide, q % 2, by rw [Int.tmod_eq_emod_of_nonneg (by unfold l0; omega)]; unfold l0; omega, st mo ⟨fun ho => st mo ?_, fun ho => st mo ?_⟩⟩
        · show _ = _; rw [aw, if_neg h0, if_neg h1, if_pos h2, decide_eq_true (g3.1 g), decide_eq_true ho]; simp
        · show _ = _; rw [aw, if_neg h0, if_neg h1, if_pos h2, decide_eq_false (by omega : ¬ d < r + r), decide_eq_false ho]; simp
      · show _ = _; rw [aw, if_neg h0, if_neg h1, if_pos h2, decide_eq_false (by omega), decide_eq_false (by omega)]; rfl
    · show _ = _; rw [aw, if_neg h0, if_neg h1, if_neg h2, if_pos h4]
    · show _ = _; rw [aw, if_neg h0, if_neg h1, if_neg h2, if_neg h4, if_pos h5]
    · show _ = _; rw [aw, if_neg h0, if_neg h1, if_neg h2, if_neg h4, if_neg h5]
  · refine fn_pure [.int .i64 p, litT, nv q, nv r, nv d] Tryz.func150 rfl rfl rfl (run_ok (st mo ?_))
    refine ⟨_, fun nn => r_call (t := .tuple #[nv (r + r), litF]) rfl rfl Tryz.func180 (fun W M E => qadd_r hr W), st mo ?_⟩
    refine ⟨_, fun nn => r_call (t := .int .i64 (cm (r + r) d)) rfl rfl Tryz.func179 (fun W M E => qcmp_c ⟨by omega, hr.2⟩ hd rfl W), st mo ?_⟩
    refine ⟨fun h1 => st mo ⟨fun h => st mo ?_, fun h => st mo ?_⟩, fun h1 => st mo ⟨fun h2 => st mo ?_, fun h2 => st mo ⟨fun h4 => st mo ?_, fun h4 => st mo ⟨fun h5 => st mo ?_, fun h5 => st mo ?_⟩⟩⟩⟩
    · show _ = _; rw [aw, if_neg h0, if_pos h1, decide_eq_true (g1.1 h)]
    · show _ = _; rw [aw, if_neg h0, if_pos h1, decide_eq_false (by omega)]
    · refine ⟨fun h => st mo ?_, fun h => st mo ⟨fun g => st mo ?_, fun g => st mo ?_⟩⟩
      · show _ = _; rw [aw, if_neg h0, if_neg h1, if_pos h2, decide_eq_true (g2.1 h)]; rfl
      · refine ⟨by decide, q % 2, by rw [Int.tmod_eq_emod_of_nonneg (by unfold l0; omega)]; unfold l0; omega, st mo ⟨fun ho => st mo ?_, fun ho => st mo ?_⟩⟩
        · show _ = _; rw [aw, if_neg h0, if_neg h1, if_pos h2, decide_eq_true (g3.1 g), decide_eq_true ho]; simp
        · show _ = _; rw [aw, if_neg h0, if_neg h1, if_pos h2, decide_eq_false (by omega : ¬ d < r + r), decide_eq_false ho]; simp
      · show _ = _; rw [aw, if_neg h0, if_neg h1, if_pos h2, decide_eq_false (by omega), decide_eq_false (by omega)]; rfl
    · show _ = _; rw [aw, if_neg h0, if_neg h1, if_neg h2, if_pos h4]
    · show _ = _; rw [aw, if_neg h0, if_neg h1, if_neg h2, if_neg h4, if_pos h5]
    · show _ = _; rw [aw, if_neg h0, if_neg h1, if_neg h2, if_neg h4, if_neg h5]
theorem q_shift' {S s n : Int} {k : Nat} (h : S - s = (k : Int)) (hn : 0 ≤ n ∧ n < MM) (hk : k ≤ 77) (w : World) : Calls Tryz.prog 147 #[nv n, .int .i64 (S - s)] w fun r W => r = .returned (dw (n * 10 ^ k)) ∧ Mb w W := h ▸ q_shift n k hn hk w
set_option maxRecDepth 20000 in
theorem q_add (b : Bool) (n s : Int) (c : Bool) (m t : Int) (hn : 0 ≤ n ∧ n < MM) (hm : 0 ≤ m ∧ m < MM) (h1 : ck b n s = 0) (h2 : ck c m t = 0) (w : World) : Calls Tryz.prog 105 #[dc b n s, dc c m t] w fun r W => r = .returned (addR b n s c m t).v ∧ Mb w W := by
  obtain ⟨i, j, hi, hj, hi8, hj8, s0, t0, hS⟩ := lifts (ck_s h1) (ck_s h2)
  have bX := lift_b hn hi8
  have bY := lift_b hm hj8
  by_cases hbc : c = b
  · subst hbc
    rw [addR_same c hn hm hi hj]
    have bZ : 0 ≤ n * 10 ^ i + m * 10 ^ j ∧ n * 10 ^ i + m * 10 ^ j < MM * MM := ⟨by omega, by unfold MM at *; omega⟩
    generalize hr : fxR c (n * 10 ^ i + m * 10 ^ j) (max s t) = r
    cases c
    · refine fn_pure [dcl litF n s, dcl litF m t] Tryz.func105 rfl rfl rfl (run_ok (st mo ?_))
      refine ⟨_, fun nn => r_call (t := .int .i64 0) rfl rfl Tryz.func152 (fun W M E => q_both false n s false m t hn hm h1 h2 W), st mo ⟨fun h => absurd rfl h, fun _ => st mo ?_⟩⟩
      refine ⟨_, fun nn => r_max s t, st mo ⟨(i : Int), wz i (by omega), st mo ?_⟩⟩
      refine ⟨_, fun nn => r_call (t := dw (n * 10 ^ i)) rfl rfl Tryz.func147 (fun W M E => q_shift n i hn (by omega) W), st mo ⟨(j : Int), wz j (by omega), st mo ?_⟩⟩
      refine ⟨_, fun nn => r_call (t := dw (m * 10 ^ j)) rfl rfl Tryz.func147 (fun W M E => q_shift m j hm (by omega) W), st mo ?_⟩
      refine ⟨_, r_eqB false false, fun _ => st mo ?_, fun h => absurd h (by decide)⟩
      refine ⟨_, fun nn => r_call (t := dw (n * 10 ^ i + m * 10 ^ j)) rfl rfl Tryz.func151 (fun W M E => q_plus _ _ W), st mo ?_⟩
      refine ⟨_, fun nn => r_call (t := r.v) rfl rfl Tryz.func102 (fun W M E => q_at hr bZ W), st mo ⟨dk, st mo ?_⟩⟩
      rfl
    · refine fn_pure [dcl litT n s, dcl litT m t] Tryz.func105 rfl rfl rfl (run_ok (st mo ?_))
      refine ⟨_, fun nn => r_call (t := .int .i64 0) rfl rfl Tryz.func152 (fun W M E => q_both true n s true m t hn hm h1 h2 W), st mo ⟨fun h => absurd rfl h, fun _ => st mo ?_⟩⟩
      refine ⟨_, fun nn => r_max s t, st mo ⟨(i : Int), wz i (by omega), st mo ?_⟩⟩
      refine ⟨_, fun nn => r_call (t := dw (n * 10 ^ i)) rfl rfl Tryz.func147 (fun W M E => q_shift n i hn (by omega) W), st mo ⟨(j : Int), wz j (by omega), st mo ?_⟩⟩
      refine ⟨_, fun nn => r_call (t := dw (m * 10 ^ j)) rfl rfl Tryz.func147 (fun W M E => q_shift m j hm (by omega) W), st mo ?_⟩
      refine ⟨_, r_eqB true true, fun _ => st mo ?_, fun h => absurd h (by decide)⟩
      refine ⟨_, fun nn => r_call (t := dw (n * 10 ^ i + m * 10 ^ j)) rfl rfl Tryz.func151 (fun W M E => q_plus _ _ W), st mo ?_⟩
      refine ⟨_, fun nn => r_call (t := r.v) rfl rfl Tryz.func102 (fun W M E => q_at hr bZ W), st mo ⟨dk, st mo ?_⟩⟩
      rfl
  · obtain rfl : c = !b := by cases b <;> cases c <;> simp_all
    rw [addR_diff b hi hj]
    by_cases hlt : n * 10 ^ i < m * 10 ^ j
    · rw [if_pos hlt]
      have hc : cm (n * 10 ^ i) (m * 10 ^ j) = -1 := if_pos hlt
      have bZ : 0 ≤ m * 10 ^ j - n * 10 ^ i ∧ m * 10 ^ j - n * 10 ^ i < MM * MM := ⟨by omega, by unfold MM at *; omega⟩
      generalize hr : fxR (!b) (m * 10 ^ j - n * 10 ^ i) (max s t) = r
      cases b
      · refine fn_pure [dcl litF n s, dcl litT m t] Tryz.func105 rfl rfl rfl (run_ok (st mo ?_))
        refine ⟨_, fun nn => r_call (t := .int .i64 0) rfl rfl Tryz.func152 (fun W M E => q_both false n s true m t hn hm h1 h2 W), st mo ⟨fun h => absurd rfl h, fun _ => st mo ?_⟩⟩
        refine ⟨_, fun nn => r_max s t, st mo ⟨(i : Int), wz i (by omega), st mo ?_⟩⟩
        refine ⟨_, fun nn => r_call (t := dw (n * 10 ^ i)) rfl rfl Tryz.func147 (fun W M E => q_shift n i hn (by omega) W), st mo ⟨(j : Int), wz j (by omega), st mo ?_⟩⟩
        refine ⟨_, fun nn => r_call (t := dw (m * 10 ^ j)) rfl rfl Tryz.func147 (fun W M E => q_shift m j hm (by omega) W), st mo ?_⟩
        refine ⟨_, r_eqB false true, fun h => absurd h (by decide), fun _ => st mo ?_⟩
        refine ⟨_, fun nn => r_call (t := .int .i64 (-1)) rfl rfl Tryz.func153 (fun W M E => hc ▸ q_cmpW _ _ (lift_w bX) (lift_w bY) W), st mo ?_⟩
        refine ⟨fun h => absurd h (by decide), fun _ => st mo ?_⟩
        refine ⟨_, fun nn => r_call (t := dw (m * 10 ^ j - n * 10 ^ i)) rfl rfl Tryz.func154 (fun W M E => q_minus _ _ W), st mo ?_⟩
        refine ⟨_, fun nn => r_call (t := r.v) rfl rfl Tryz.func102 (fun W M E => q_at hr bZ W), st mo ⟨dk, st mo ?_⟩⟩
        rfl
      · refine fn_pure [dcl litT n s, dcl litF m t] Tryz.func105 rfl rfl rfl (run_ok (st mo ?_))
        refine ⟨_, fun nn => r_call (t := .int .i64 0) rfl rfl Tryz.func152 (fun W M E => q_both true n s false m t hn hm h1 h2 W), st mo ⟨fun h => absurd rfl h, fun _ => st mo ?_⟩⟩
        refine ⟨_, fun nn => r_max s t, st mo ⟨(i : Int), wz i (by omega), st mo ?_⟩⟩
        refine ⟨_, fun nn => r_call (t := dw (n * 10 ^ i)) rfl rfl Tryz.func147 (fun W M E => q_shift n i hn (by omega) W), st mo ⟨(j : Int), wz j (by omega), st mo ?_⟩⟩
        refine ⟨_, fun nn => r_call (t := dw (m * 10 ^ j)) rfl rfl Tryz.func147 (fun W M E => q_shift m j hm (by omega) W), st mo ?_⟩
        refine ⟨_, r_eqB true false, fun h => absurd h (by decide), fun _ => st mo ?_⟩
        refine ⟨_, fun nn => r_call (t := .int .i64 (-1)) rfl rfl Tryz.func153 (fun W M E => hc ▸ q_cmpW _ _ (lift_w bX) (lift_w bY) W), st mo ?_⟩
        refine ⟨fun h => absurd h (by decide), fun _ => st mo ?_⟩
        refine ⟨_, fun nn => r_call (t := dw (m * 10 ^ j - n * 10 ^ i)) rfl rfl Tryz.func154 (fun W M E => q_minus _ _ W), st mo ?_⟩
        refine ⟨_, fun nn => r_call (t := r.v) rfl rfl Tryz.func102 (fun W M E => q_at hr bZ W), st mo ⟨dk, st mo ?_⟩⟩
        rfl
    · rw [if_neg hlt]
      have hc : 0 ≤ cm (n * 10 ^ i) (m * 10 ^ j) := by unfold cm; rw [if_neg hlt]; split <;> decide
      have bZ : 0 ≤ n * 10 ^ i - m * 10 ^ j ∧ n * 10 ^ i - m * 10 ^ j < MM * MM := ⟨by omega, by unfold MM at *; omega⟩
      generalize hr : fxR b (n * 10 ^ i - m * 10 ^ j) (max s t) = r
      cases b
      · refine fn_pure [dcl litF n s, dcl litT m t] Tryz.func105 rfl rfl rfl (run_ok (st mo ?_))
        refine ⟨_, fun nn => r_call (t := .int .i64 0) rfl rfl Tryz.func152 (fun W M E => q_both false n s true m t hn hm h1 h2 W), st mo ⟨fun h => absurd rfl h, fun _ => st mo ?_⟩⟩
        refine ⟨_, fun nn => r_max s t, st mo ⟨(i : Int), wz i (by omega), st mo ?_⟩⟩
        refine ⟨_, fun nn => r_call (t := dw (n * 10 ^ i)) rfl rfl Tryz.func147 (fun W M E => q_shift n i hn (by omega) W), st mo ⟨(j : Int), wz j (by omega), st mo ?_⟩⟩
        refine ⟨_, fun nn => r_call (t := dw (m * 10 ^ j)) rfl rfl Tryz.func147 (fun W M E => q_shift m j hm (by omega) W), st mo ?_⟩
        refine ⟨_, r_eqB false true, fun h => absurd h (by decide), fun _ => st mo ?_⟩
        refine ⟨_, fun nn => r_call (t := .int .i64 (cm (n * 10 ^ i) (m * 10 ^ j))) rfl rfl Tryz.func153 (fun W M E => q_cmpW _ _ (lift_w bX) (lift_w bY) W), st mo ?_⟩
        refine ⟨fun _ => st mo ?_, fun h => absurd h (by omega)⟩
        refine ⟨_, fun nn => r_call (t := dw (n * 10 ^ i - m * 10 ^ j)) rfl rfl Tryz.func154 (fun W M E => q_minus _ _ W), st mo ?_⟩
        refine ⟨_, fun nn => r_call (t := r.v) rfl rfl Tryz.func102 (fun W M E => q_at hr bZ W), st mo ⟨dk, st mo ?_⟩⟩
        rfl
      · refine fn_pure [dcl litT n s, dcl litF m t] Tryz.func105 rfl rfl rfl (run_ok (st mo ?_))
        refine ⟨_, fun nn => r_call (t := .int .i64 0) rfl rfl Tryz.func152 (fun W M E => q_both true n s false m t hn hm h1 h2 W), st mo ⟨fun h => absurd rfl h, fun _ => st mo ?_⟩⟩
        refine ⟨_, fun nn => r_max s t, st mo ⟨(i : Int), wz i (by omega), st mo ?_⟩⟩
        refine ⟨_, fun nn => r_call (t := dw (n * 10 ^ i)) rfl rfl Tryz.func147 (fun W M E => q_shift n i hn (by omega) W), st mo ⟨(j : Int), wz j (by omega), st mo ?_⟩⟩
        refine ⟨_, fun nn => r_call (t := dw (m * 10 ^ j)) rfl rfl Tryz.func147 (fun W M E => q_shift m j hm (by omega) W), st mo ?_⟩
        refine ⟨_, r_eqB true false, fun h => absurd h (by decide), fun _ => st mo ?_⟩
        refine ⟨_, fun nn => r_call (t := .int .i64 (cm (n * 10 ^ i) (m * 10 ^ j))) rfl rfl Tryz.func153 (fun W M E => q_cmpW _ _ (lift_w bX) (lift_w bY) W), st mo ?_⟩
        refine ⟨fun _ => st mo ?_, fun h => absurd h (by omega)⟩
        refine ⟨_, fun nn => r_call (t := dw (n * 10 ^ i - m * 10 ^ j)) rfl rfl Tryz.func154 (fun W M E => q_minus _ _ W), st mo ?_⟩
        refine ⟨_, fun nn => r_call (t := r.v) rfl rfl Tryz.func102 (fun W M E => q_at hr bZ W), st mo ⟨dk, st mo ?_⟩⟩
        rfl
set_option maxRecDepth 20000 in
theorem q_sub (b : Bool) (n s : Int) (c : Bool) (m t : Int) (hn : 0 ≤ n ∧ n < MM) (hm : 0 ≤ m ∧ m < MM) (h1 : ck b n s = 0) (h2 : ck c m t = 0) (w : World) : Calls Tryz.prog 106 #[dc b n s, dc c m t] w fun r W => r = .returned (subR b n s c m t).v ∧ Mb w W := by
  have e : subR b n s c m t = addR b n s (!c && !decide (m = 0)) m t := by unfold subR addR; rw [neg_sgn h2]
  refine fn_pure [dc b n s, dc c m t] Tryz.func106 rfl rfl rfl (run_ok (st mo ?_))
  refine ⟨_, fun nn => r_call (t := .int .i64 0) rfl rfl Tryz.func152 (fun W M E => q_both b n s c m t hn hm h1 h2 W), st mo ⟨fun h => absurd rfl h, fun _ => st mo ?_⟩⟩
  refine ⟨_, fun nn => r_call (t := .tuple #[dc (!c && !decide (m = 0)) m t, .int .i64 0]) rfl rfl Tryz.func68 (fun W M E => q_dneg c m t hm h2 W), st mo ?_⟩
  refine ⟨_, fun nn => r_call (t := (addR b n s (!c && !decide (m = 0)) m t).v) rfl rfl Tryz.func105 (fun W M E => q_add b n s _ m t hn hm h1 (neg_ck h2) W), st mo ?_⟩
  rw [e]; rfl
end Go.Proofs.YtfmfeipeeedfpaaGreat
namespace Go.Proofs.YtfmfeipeeedfpaaGreat
open S Go.RowKit
theorem qc_11 {X Y : Int} : cm (-X) (-Y) = cm Y X := by unfold cm; repeat (first | omega | split)
theorem qc_10 {X Y : Int} (h : 0 < X) (g : 0 ≤ Y) : cm (-X) Y = -1 := by unfold cm; rw [if_pos (by omega)]
theorem qc_01 {X Y : Int} (h : 0 < Y) (g : 0 ≤ X) : cm X (-Y) = 1 := by unfold cm; repeat (first | omega | split)
theorem qc_e {b : Bool} {n s : Int} {c : Bool} {m t : Int} {i j : Nat} (hi : max s t - s = (i : Int)) (hj : max s t - t = (j : Int)) : cmpR b n s c m t = cm (sgn b (n * 10 ^ i)) (sgn c (m * 10 ^ j)) := by
  unfold cmpR; rw [hi, hj, pw_nat, pw_nat, sgn_mul, sgn_mul]
theorem qc_p {n s : Int} {i : Nat} (h : ck true n s = 0) (hn : 0 ≤ n) : 0 < n * 10 ^ i := Int.mul_pos (by have := (ck_0 h).2 rfl; omega) (Int.pow_pos (by decide))
set_option maxRecDepth 20000 in
theorem q_cmp (b : Bool) (n s : Int) (c : Bool) (m t : Int) (hn : 0 ≤ n ∧ n < MM) (hm : 0 ≤ m ∧ m < MM) (h1 : ck b n s = 0) (h2 : ck c m t = 0) (w : World) : Calls Tryz.prog 108 #[dc b n s, dc c m t] w fun r W => r = .returned (.int .i64 (cmpR b n s c m t)) ∧ Mb w W := by
  obtain ⟨i, j, hi, hj, hi8, hj8, s0, t0, hS⟩ := lifts (ck_s h1) (ck_s h2)
  have bX := lift_b hn hi8
  have bY := lift_b hm hj8
  rw [qc_e hi hj]
  cases b <;> cases c
  · refine fn_pure [dcl litF n s, dcl litF m t] Tryz.func108 rfl rfl rfl (run_ok (st mo ?_))
    refine ⟨_, fun nn => r_call (t := .int .i64 0) rfl rfl Tryz.func152 (fun W M E => q_both false n s false m t hn hm h1 h2 W), st mo ⟨fun h => absurd rfl h, fun _ => st mo ?_⟩⟩
    refine ⟨_, fun nn => r_max s t, st mo ⟨(i : Int), wz i (by omega), st mo ?_⟩⟩
    refine ⟨_, fun nn => r_call (t := dw (n * 10 ^ i)) rfl rfl Tryz.func147 (fun W M E => q_shift n i hn (by omega) W), st mo ⟨(j : Int), wz j (by omega), st mo ?_⟩⟩
    refine ⟨_, fun nn => r_call (t := dw (m * 10 ^ j)) rfl rfl Tryz.func147 (fun W M E => q_shift m j hm (by omega) W), st mo ?_⟩
    exact ⟨_, fun nn => r_call (t := .int .i64 (cm (n * 10 ^ i) (m * 10 ^ j))) rfl rfl Tryz.func153 (fun W M E => q_cmpW _ _ (lift_w bX) (lift_w bY) W), st mo rfl⟩
  · refine fn_pure [dcl litF n s, dcl litT m t] Tryz.func108 rfl rfl rfl (run_ok (st mo ?_))
    refine ⟨_, fun nn => r_call (t := .int .i64 0) rfl rfl Tryz.func152 (fun W M E => q_both false n s true m t hn hm h1 h2 W), st mo ⟨fun h => absurd rfl h, fun _ => st mo ?_⟩⟩
    refine ⟨_, fun nn => r_max s t, st mo ⟨(i : Int), wz i (by omega), st mo ?_⟩⟩
    refine ⟨_, fun nn => r_call (t := dw (n * 10 ^ i)) rfl rfl Tryz.func147 (fun W M E => q_shift n i hn (by omega) W), st mo ⟨(j : Int), wz j (by omega), st mo ?_⟩⟩
    refine ⟨_, fun nn => r_call (t := dw (m * 10 ^ j)) rfl rfl Tryz.func147 (fun W M E => q_shift m j hm (by omega) W), st mo ?_⟩
    (show _ = _; rw [show sgn true (m * 10 ^ j) = -(m * 10 ^ j) from rfl, show sgn false (n * 10 ^ i) = n * 10 ^ i from rfl, qc_01 (qc_p h2 hm.1) bX.1])
  · refine fn_pure [dcl litT n s, dcl litF m t] Tryz.func108 rfl rfl rfl (run_ok (st mo ?_))
    refine ⟨_, fun nn => r_call (t := .int .i64 0) rfl rfl Tryz.func152 (fun W M E => q_both true n s false m t hn hm h1 h2 W), st mo ⟨fun h => absurd rfl h, fun _ => st mo ?_⟩⟩
    refine ⟨_, fun nn => r_max s t, st mo ⟨(i : Int), wz i (by omega), st mo ?_⟩⟩
    refine ⟨_, fun nn => r_call (t := dw (n * 10 ^ i)) rfl rfl Tryz.func147 (fun W M E => q_shift n i hn (by omega) W), st mo ⟨(j : Int), wz j (by omega), st mo ?_⟩⟩
    refine ⟨_, fun nn => r_call (t := dw (m * 10 ^ j)) rfl rfl Tryz.func147 (fun W M E => q_shift m j hm (by omega) W), st mo ?_⟩
    (show _ = _; rw [show sgn true (n * 10 ^ i) = -(n * 10 ^ i) from rfl, show sgn false (m * 10 ^ j) = m * 10 ^ j from rfl, qc_10 (qc_p h1 hn.1) bY.1])
  · refine fn_pure [dcl litT n s, dcl litT m t] Tryz.func108 rfl rfl rfl (run_ok (st mo ?_))
    refine ⟨_, fun nn => r_call (t := .int .i64 0) rfl rfl Tryz.func152 (fun W M E => q_both true n s true m t hn hm h1 h2 W), st mo ⟨fun h => absurd rfl h, fun _ => st mo ?_⟩⟩
    refine ⟨_, fun nn => r_max s t, st mo ⟨(i : Int), wz i (by omega), st mo ?_⟩⟩
    refine ⟨_, fun nn => r_call (t := dw (n * 10 ^ i)) rfl rfl Tryz.func147 (fun W M E => q_shift n i hn (by omega) W), st mo ⟨(j : Int), wz j (by omega), st mo ?_⟩⟩
    refine ⟨_, fun nn => r_call (t := dw (m * 10 ^ j)) rfl rfl Tryz.func147 (fun W M E => q_shift m j hm (by omega) W), st mo ?_⟩
    exact ⟨_, fun nn => r_call (t := .int .i64 (cm (m * 10 ^ j) (n * 10 ^ i))) rfl rfl Tryz.func153 (fun W M E => q_cmpW _ _ (lift_w bY) (lift_w bX) W), st mo (by rw [show sgn true (n * 10 ^ i) = -(n * 10 ^ i) from rfl, show sgn true (m * 10 ^ j) = -(m * 10 ^ j) from rfl, qc_11]; rfl)⟩
theorem rdiv_c {X D : Int} {q r : Int} {o : Bool} (hX : 0 ≤ X ∧ X < MM * MM) (hD : 0 ≤ D ∧ D < MM) (h : dq (X / MM) (X % MM) D = q ∧ dr (X / MM) (X % MM) D = r ∧ decide (X / MM < D) = o) (W : World) : Calls Tryz.prog 149 #[nv (X / MM), nv X, nv D] W fun e W' => e = .returned (.tuple #[nv q, nv r, .bool o]) ∧ Mb W W' := by
  have a := rdiv_n (X / MM) (X % MM) D W (hi_b hX).1 (hi_b hX).2 (lo_b X).1 (lo_b X).2 hD.1 hD.2
  obtain ⟨h1, h2, h3⟩ := h
  rw [nv_mod, h1, h2, show dok (X / MM) D = o from h3] at a
  exact a.mono fun _ _ ⟨a, b⟩ => ⟨a, b.mb⟩
theorem q_ten' {k : Nat} {D : Int} (h : 10 ^ k = D) (hk : k ≤ 77) (w : World) : Calls Tryz.prog 148 #[.int .i64 (k : Int)] w fun r W => r = .returned (.tuple #[nv D, .bool true]) ∧ Mb w W := h ▸ (rten_yes k w hk).mono fun _ _ ⟨a, b⟩ => ⟨a, b.mb⟩
theorem q_plusz {x y : Int} (hx : 0 ≤ x ∧ x < MM) (hy : 0 ≤ y ∧ y < MM) (w : World) : Calls Tryz.prog 151 #[dwz x, dwz y] w fun r W => r = .returned (dw (x + y)) ∧ Mb w W := by
  rw [dwz_eq hx, dwz_eq hy]; exact q_plus x y w
theorem aw_0 {b : Bool} {q r d p : Int} (h : r = 0) : aw b q r d p = false := by unfold aw; rw [if_pos h]
set_option maxRecDepth 20000 in
theorem q_round {b : Bool} {X f S p : Int} {R : DR} (hR : fxR b (rdV b X f S p) S = R) (hX : 0 ≤ X ∧ X < MM * MM) (hf : 0 ≤ f ∧ f ≤ 36) (hS : 0 ≤ S ∧ S ≤ 18) (w : World) : Calls Tryz.prog 104 #[.bool b, dw X, .int .i64 f, .int .i64 S, .int .i64 p] w fun e W => e = .returned R.v ∧ Mb w W := by
  refine fn_pure [.bool b, dw X, .int .i64 f, .int .i64 S, .int .i64 p] Tryz.func104 rfl rfl rfl (run_ok (st mo ⟨fun hle => st mo ?_, fun hle => st mo ?_⟩))
  · unfold rdV at hR
    rw [if_pos hle] at hR
    obtain ⟨k, hk⟩ : ∃ k : Nat, S - f = (k : Int) := ⟨(S - f).toNat, by omega⟩
    rw [hk, pw_nat] at hR
    have p1 : (1 : Int) ≤ 10 ^ k := by have : (0 : Int) < 10 ^ k := Int.pow_pos (by decide); omega
    refine ⟨_, r_neN (X / MM) 0 (hi_b hX) MM_0, fun h => st mo ?_, fun h => st mo ?_⟩
    · have h : ¬ X < MM := fun q => by rw [hi_0 q hX.1] at h; cases h
      have := Int.mul_le_mul_of_nonneg_left p1 hX.1
      rw [fx_7 (by omega)] at hR
      subst hR; rfl
    · have h : X < MM := Classical.byContradiction fun q => by rw [decide_eq_false (hi_1 q)] at h; cases h
      refine ⟨(k : Int), wz k (by omega), st mo ?_⟩
      refine ⟨_, fun nn => r_call (t := dw (X * 10 ^ k)) rfl rfl Tryz.func147 (fun W M E => q_shift X k ⟨hX.1, h⟩ (by omega) W), st mo ?_⟩
      refine ⟨_, fun nn => r_call (t := R.v) rfl rfl Tryz.func102 (fun W M E => q_at hR (mul_b ⟨hX.1, h⟩ (p10_b (by omega))) W), st mo ?_⟩
      rfl
  · unfold rdV at hR
    rw [if_neg (by omega)] at hR
    obtain ⟨k, hk⟩ : ∃ k : Nat, f - S = (k : Int) := ⟨(f - S).toNat, by omega⟩
    rw [hk, Int.toNat_natCast] at hR
    obtain ⟨d0, d1, d2⟩ := p10_s (k := k) (by omega)
    obtain ⟨D, hD⟩ : ∃ D, (10 : Int) ^ k = D := ⟨_, rfl⟩
    unfold ro at hR
    rw [hD] at hR d0 d1 d2
    refine ⟨(k : Int), wz k (by omega), st mo ?_⟩
    refine ⟨_, fun nn => r_call (t := .tuple #[nv D, litT]) rfl rfl Tryz.func148 (fun W M E => q_ten' hD (by omega) W), st mo ?_⟩
    by_cases ho : X / MM < D
    · have hq := q_b hX.1 d0 ho
      have hr : 0 ≤ X % D ∧ X % D < D := ⟨Int.emod_nonneg _ (by omega), Int.emod_lt_of_pos _ d0⟩
      have hdv := dq_ok ho
      generalize hqe : X / D = q at hR hq hdv
      generalize hre : X % D = r at hR hr hdv
      refine ⟨_, fun nn => r_call (t := .tuple #[nv q, nv r, litT]) rfl rfl Tryz.func149 (fun W M E => rdiv_c hX ⟨by omega, d1⟩ hdv W), st mo ?_⟩
      have low : aw b q r D p = false → fxR b q S = R := fun ha => by
        rw [ha, show q + (if false = true then (1 : Int) else 0) = q by simp] at hR; exact hR
      refine ⟨_, r_neN r 0 ⟨hr.1, by omega⟩ MM_0, fun h => st mo ?_, fun h => st mo ?_⟩
      · have h : ¬ r = 0 := fun q => by rw [decide_eq_true q] at h; cases h
        have hA := q_up b q r D p h ⟨hr.1, by omega⟩ ⟨by omega, d1⟩
        cases ha : aw b q r D p with
        | false =>
          rw [ha] at hA
          refine ⟨_, fun nn => r_call (t := litF) rfl rfl Tryz.func150 (fun W M E => hA W), st mo ?_⟩
          refine ⟨_, fun nn => r_call (t := R.v) rfl rfl Tryz.func102 (fun W M E => q_at0 (low ha) hq W), st mo ?_⟩
          rfl
        | true =>
          rw [ha] at hA hR
          rw [show q + (if true = true then (1 : Int) else 0) = q + 1 by simp] at hR
          refine ⟨_, fun nn => r_call (t := litT) rfl rfl Tryz.func150 (fun W M E => hA W), st mo ?_⟩
          refine ⟨_, fun nn => r_call (t := nv 1) rfl rfl Tryz.func99 (fun W M E => q_from 1 (by decide) W), st mo ?_⟩
          refine ⟨_, fun nn => r_call (t := dw (q + 1)) rfl rfl Tryz.func151 (fun W M E => q_plusz (y := 1) hq (by decide) W), st mo ⟨dk, st mo ?_⟩⟩
          refine ⟨_, fun nn => r_call (t := R.v) rfl rfl Tryz.func102 (fun W M E => q_at hR ⟨by omega, Int.lt_of_le_of_lt (show q + 1 ≤ MM by omega) (by decide)⟩ W), st mo ?_⟩
          rfl
      · have h : r = 0 := by
          cases hz : decide (r = 0) with
          | true => exact of_decide_eq_true hz
          | false => rw [hz] at h; cases h
        refine ⟨_, fun nn => r_call (t := R.v) rfl rfl Tryz.func102 (fun W M E => q_at0 (low (aw_0 h)) hq W), st mo ?_⟩
        rfl
    · have hq := qt_no d0 ho
      refine ⟨_, fun nn => r_call (t := .tuple #[nv (dq (X / MM) (X % MM) D), nv (dr (X / MM) (X % MM) D), litF]) rfl rfl Tryz.func149 (fun W M E => rdiv_c hX ⟨by omega, d1⟩ ⟨rfl, rfl, decide_eq_false ho⟩ W), st mo ?_⟩
      have : ¬ X / D + (if aw b (X / D) (X % D) D p = true then 1 else 0) < MM := by split <;> omega
      rw [fx_7 this] at hR
      subst hR; rfl
theorem rk_ok {S p : Int} (h : rkE S p = 0) : sc S = true ∧ 1 ≤ p ∧ p ≤ 5 := by unfold rkE at h; by_cases q : sc S = true <;> by_cases r : 1 ≤ p ∧ p ≤ 5 <;> simp [q, r] at h; exact ⟨q, r⟩
set_option maxRecDepth 20000 in
theorem q_mto (b : Bool) (n s : Int) (c : Bool) (m t S p : Int) (hn : 0 ≤ n ∧ n < MM) (hm : 0 ≤ m ∧ m < MM) (h1 : ck b n s = 0) (h2 : ck c m t = 0) (w : World) : Calls Tryz.prog 107 #[dc b n s, dc c m t, .int .i64 S, .int .i64 p] w fun e W => e = .returned (mtoR b n s c m t S p).v ∧ Mb w W := by
  obtain ⟨s0, s1⟩ := sc_iff.1 (ck_s h1)
  obtain ⟨t0, t1⟩ := sc_iff.1 (ck_s h2)
  have hX := mul_b hn hm
  generalize hR : mtoR b n s c m t S p = R
  cases b <;> cases c
  · refine fn_pure [dcl litF n s, dcl litF m t, .int .i64 S, .int .i64 p] Tryz.func107 rfl rfl rfl (run_ok (st mo ?_))
    refine ⟨_, fun nn => r_call (t := .int .i64 0) rfl rfl Tryz.func152 (fun W M E => q_both false n s false m t hn hm h1 h2 W), st mo ⟨fun h => absurd rfl h, fun _ => st mo ?_⟩⟩
    refine ⟨_, fun nn => r_call (t := .int .i64 (rkE S p)) rfl rfl Tryz.func103 (fun W M E => q_may S p W), st mo ⟨fun h => st mo ?_, fun h => st mo ?_⟩⟩
    · rw [mto_e h] at hR; subst hR; rfl
    · have hk := rk_ok h
      unfold mtoR at hR
      rw [hk.1, if_pos rfl, if_pos hk.2] at hR
      refine ⟨_, fun nn => r_call (t := .tuple #[nv (n * m / MM), nv (n * m)]) rfl rfl Tryz.func155 (fun W M E => (rmul_n n m W hn.1 hn.2 hm.1 hm.2).mono fun _ _ ⟨a, b⟩ => ⟨a, b.mb⟩), st mo ?_⟩
      refine ⟨_, r_neB false false, fun h => absurd h (by decide), fun _ => st mo ?_⟩
      refine ⟨s + t, wi (by omega), st mo ?_⟩
      refine ⟨_, fun nn => r_call (t := R.v) rfl rfl Tryz.func104 (fun W M E => q_round (b := false) hR hX ⟨by omega, by omega⟩ (sc_iff.1 hk.1) W), st mo ?_⟩
      rfl
  · refine fn_pure [dcl litF n s, dcl litT m t, .int .i64 S, .int .i64 p] Tryz.func107 rfl rfl rfl (run_ok (st mo ?_))
    refine ⟨_, fun nn => r_call (t := .int .i64 0) rfl rfl Tryz.func152 (fun W M E => q_both false n s true m t hn hm h1 h2 W), st mo ⟨fun h => absurd rfl h, fun _ => st mo ?_⟩⟩
    refine ⟨_, fun nn => r_call (t := .int .i64 (rkE S p)) rfl rfl Tryz.func103 (fun W M E => q_may S p W), st mo ⟨fun h => st mo ?_, fun h => st mo ?_⟩⟩
    · rw [mto_e h] at hR; subst hR; rfl
    · have hk := rk_ok h
      unfold mtoR at hR
      rw [hk.1, if_pos rfl, if_pos hk.2] at hR
      refine ⟨_, fun nn => r_call (t := .tuple #[nv (n * m / MM), nv (n * m)]) rfl rfl Tryz.func155 (fun W M E => (rmul_n n m W hn.1 hn.2 hm.1 hm.2).mono fun _ _ ⟨a, b⟩ => ⟨a, b.mb⟩), st mo ?_⟩
      refine ⟨_, r_neB false true, fun _ => st mo ?_, fun h => absurd h (by decide)⟩
      refine ⟨s + t, wi (by omega), st mo ?_⟩
      refine ⟨_, fun nn => r_call (t := R.v) rfl rfl Tryz.func104 (fun W M E => q_round (b := true) hR hX ⟨by omega, by omega⟩ (sc_iff.1 hk.1) W), st mo ?_⟩
      rfl
  · refine fn_pure [dcl litT n s, dcl litF m t, .int .i64 S, .int .i64 p] Tryz.func107 rfl rfl rfl (run_ok (st mo ?_))
    refine ⟨_, fun nn => r_call (t := .int .i64 0) rfl rfl Tryz.func152 (fun W M E => q_both true n s false m t hn hm h1 h2 W), st mo ⟨fun h => absurd rfl h, fun _ => st mo ?_⟩⟩
    refine ⟨_, fun nn => r_call (t := .int .i64 (rkE S p)) rfl rfl Tryz.func103 (fun W M E => q_may S p W), st mo ⟨fun h => st mo ?_, fun h => st mo ?_⟩⟩
    · rw [mto_e h] at hR; subst hR; rfl
    · have hk := rk_ok h
      unfold mtoR at hR
      rw [hk.1, if_pos rfl, if_pos hk.2] at hR
      refine ⟨_, fun nn => r_call (t := .tuple #[nv (n * m / MM), nv (n * m)]) rfl rfl Tryz.func155 (fun W M E => (rmul_n n m W hn.1 hn.2 hm.1 hm.2).mono fun _ _ ⟨a, b⟩ => ⟨a, b.mb⟩), st mo ?_⟩
      refine ⟨_, r_neB true false, fun _ => st mo ?_, fun h => absurd h (by decide)⟩
      refine ⟨s + t, wi (by omega), st mo ?_⟩
      refine ⟨_, fun nn => r_call (t := R.v) rfl rfl Tryz.func104 (fun W M E => q_round (b := true) hR hX ⟨by omega, by omega⟩ (sc_iff.1 hk.1) W), st mo ?_⟩
      rfl
  · refine fn_pure [dcl litT n s, dcl litT m t, .int .i64 S, .int .i64 p] Tryz.func107 rfl rfl rfl (run_ok (st mo ?_))
    refine ⟨_, fun nn => r_call (t := .int .i64 0) rfl rfl Tryz.func152 (fun W M E => q_both true n s true m t hn hm h1 h2 W), st mo ⟨fun h => absurd rfl h, fun _ => st mo ?_⟩⟩
    refine ⟨_, fun nn => r_call (t := .int .i64 (rkE S p)) rfl rfl Tryz.func103 (fun W M E => q_may S p W), st mo ⟨fun h => st mo ?_, fun h => st mo ?_⟩⟩
    · rw [mto_e h] at hR; subst hR; rfl
    · have hk := rk_ok h
      unfold mtoR at hR
      rw [hk.1, if_pos rfl, if_pos hk.2] at hR
      refine ⟨_, fun nn => r_call (t := .tuple #[nv (n * m / MM), nv (n * m)]) rfl rfl Tryz.func155 (fun W M E => (rmul_n n m W hn.1 hn.2 hm.1 hm.2).mono fun _ _ ⟨a, b⟩ => ⟨a, b.mb⟩), st mo ?_⟩
      refine ⟨_, r_neB true true, fun h => absurd h (by decide), fun _ => st mo ?_⟩
      refine ⟨s + t, wi (by omega), st mo ?_⟩
      refine ⟨_, fun nn => r_call (t := R.v) rfl rfl Tryz.func104 (fun W M E => q_round (b := false) hR hX ⟨by omega, by omega⟩ (sc_iff.1 hk.1) W), st mo ?_⟩
      rfl
theorem rnd_e {b : Bool} {n s S p : Int} (h : rkE S p ≠ 0) : rndR b n s S p = erR (rkE S p) := by rw [← mto_1]; exact mto_e h
theorem q_roundz {b : Bool} {n f S p : Int} {R : DR} (hR : fxR b (rdV b n f S p) S = R) (hn : 0 ≤ n ∧ n < MM) (hf : 0 ≤ f ∧ f ≤ 36) (hS : 0 ≤ S ∧ S ≤ 18) (w : World) : Calls Tryz.prog 104 #[.bool b, dwz n, .int .i64 f, .int .i64 S, .int .i64 p] w fun e W => e = .returned R.v ∧ Mb w W := by
  rw [dwz_eq hn]; exact q_round hR (mm_w hn) hf hS w
set_option maxRecDepth 20000 in
theorem q_resc (b : Bool) (n s S p : Int) (hn : 0 ≤ n ∧ n < MM) (h1 : ck b n s = 0) (w : World) : Calls Tryz.prog 71 #[dc b n s, .int .i64 S, .int .i64 p] w fun e W => e = .returned (rndR b n s S p).v ∧ Mb w W := by
  obtain ⟨s0, s1⟩ := sc_iff.1 (ck_s h1)
  generalize hR : rndR b n s S p = R
  refine fn_pure [dc b n s, .int .i64 S, .int .i64 p] Tryz.func71 rfl rfl rfl (run_ok (st mo ?_))
  refine ⟨_, fun nn => r_call (t := .int .i64 0) rfl rfl Tryz.func59 (fun W M E => h1 ▸ q_dck b n s hn W), st mo ⟨fun h => absurd rfl h, fun _ => st mo ?_⟩⟩
  refine ⟨_, fun nn => r_call (t := .int .i64 (rkE S p)) rfl rfl Tryz.func103 (fun W M E => q_may S p W), st mo ⟨fun h => st mo ?_, fun h => st mo ?_⟩⟩
  · rw [rnd_e h] at hR; subst hR; rfl
  · have hk := rk_ok h
    unfold rndR at hR
    rw [hk.1, if_pos rfl, if_pos hk.2] at hR
    refine ⟨_, fun nn => r_call (t := R.v) rfl rfl Tryz.func104 (fun W M E => q_roundz hR hn ⟨by omega, by omega⟩ (sc_iff.1 hk.1) W), st mo ?_⟩
    rfl
end Go.Proofs.YtfmfeipeeedfpaaGreat
namespace Go.Proofs.YtfmfeipeeedfpaaGreat
open S Go.RowKit
set_option maxRecDepth 20000 in
theorem q_bad (e : Int) (w : World) : Calls Tryz.prog 62 #[.int .i64 e] w fun r W => r = .returned (vBad e).v ∧ Mb w W := by
  refine fn_pure [.int .i64 e] Tryz.func62 rfl rfl rfl (run_ok (st mo ⟨fun h => st mo ?_, fun h => st mo ⟨fun g => st mo ?_, fun g => st mo ?_⟩⟩))
  · show _ = _; rw [vBad, show isE e = false by unfold isE; rw [decide_eq_false (by omega)]; rfl]; rfl
  · show _ = _; rw [vBad, show isE e = false by unfold isE; rw [decide_eq_false (by omega : ¬ e ≤ 5), Bool.and_false]]; rfl
  · show _ = _; rw [vBad, show isE e = true by unfold isE; rw [decide_eq_true (by omega), decide_eq_true (by omega)]; rfl]; rfl
set_option maxRecDepth 20000 in
theorem q_flag (b : Bool) (w : World) : Calls Tryz.prog 69 #[.bool b] w fun r W => r = .returned (vFl b).v ∧ Mb w W :=
  fn_pure [.bool b] Tryz.func69 rfl rfl rfl (run_ok (st mo rfl))
set_option maxRecDepth 20000 in
theorem q_num (b : Bool) (n s : Int) (w : World) : Calls Tryz.prog 101 #[dc b n s] w fun r W => r = .returned (vNu b n s).v ∧ Mb w W :=
  fn_pure [dc b n s] Tryz.func101 rfl rfl rfl (run_ok (st mo rfl))
set_option maxRecDepth 20000 in
theorem q_told (r : DR) (w : World) : Calls Tryz.prog 67 #[dc r.b r.n r.s, .int .i64 r.e] w fun e W => e = .returned (numV r).v ∧ Mb w W := by
  refine fn_pure [dc r.b r.n r.s, .int .i64 r.e] Tryz.func67 rfl rfl rfl (run_ok (st mo ⟨fun h => st mo ?_, fun h => st mo ⟨fun g => st mo ?_, fun g => st mo ?_⟩⟩))
  · refine ⟨_, fun nn => r_call (t := (vBad 1).y) rfl rfl Tryz.func62 (fun W M E => q_bad 1 W), st mo ?_⟩
    show _ = _; rw [numV, if_neg (by omega), if_pos h]; rfl
  · refine ⟨_, fun nn => r_call (t := (vBad 2).y) rfl rfl Tryz.func62 (fun W M E => q_bad 2 W), st mo ?_⟩
    show _ = _; rw [numV, if_neg g, if_neg h]; rfl
  · refine ⟨_, fun nn => r_call (t := (vNu r.b r.n r.s).y) rfl rfl Tryz.func101 (fun W M E => q_num r.b r.n r.s W), st mo ?_⟩
    show _ = _; rw [numV, if_pos g]; rfl
set_option maxRecDepth 20000 in
theorem q_mayv (x : VL) (hx : x.ok) (w : World) : Calls Tryz.prog 70 #[x.v] w fun r W => r = .returned (mayV x).v ∧ Mb w W := by
  refine fn_pure [x.y] Tryz.func70 rfl rfl rfl (run_ok (st mo ?_))
  refine ⟨_, fun nn => r_call (t := .int .i64 (ckI x)) rfl rfl Tryz.func27 (fun W M E => q_check x hx W), st mo ⟨fun q => st mo ?_, fun q => st mo ?_⟩⟩
  · refine ⟨_, fun nn => r_call (t := (vBad 2).y) rfl rfl Tryz.func62 (fun W M E => q_bad 2 W), st mo ?_⟩
    show _ = _; rw [mayV, ckI_1 q]; rfl
  · show _ = _; rw [mayV, ckI_0 q]; rfl
def askV (x : VL) : VL := if ask x = 0 then x else vEr (ask x)
def oneV (K : Int) (x : VL) : VL := if askK K x = 0 then x else vEr (askK K x)
theorem may_1 {x : VL} (h : ckv x = true) : mayV x = x := if_pos h
theorem may_0 {x : VL} (h : ckv x = false) : mayV x = vEr 2 := by unfold mayV; rw [h]; rfl
theorem q_may1 {x : VL} (h : ckv x = true) (hx : x.ok) (w : World) : Calls Tryz.prog 70 #[x.v] w fun r W => r = .returned x.v ∧ Mb w W := by have q := q_mayv x hx w; rw [may_1 h] at q; exact q
theorem q_may0 {x : VL} (h : ckv x = false) (hx : x.ok) (w : World) : Calls Tryz.prog 70 #[x.v] w fun r W => r = .returned (vEr 2).v ∧ Mb w W := by have q := q_mayv x hx w; rw [may_0 h] at q; exact q
set_option maxRecDepth 20000 in
theorem q_asked (x : VL) (hx : x.ok) (w : World) : Calls Tryz.prog 72 #[x.v] w fun r W => r = .returned (askV x).v ∧ Mb w W := by
  refine fn_pure [x.y] Tryz.func72 rfl rfl rfl (run_ok (st mo ?_))
  cases hc : ckv x with
  | false =>
    refine ⟨_, fun nn => r_call (t := (vEr 2).y) rfl rfl Tryz.func70 (fun W M E => q_may0 hc hx W), st mo ⟨fun h => absurd h (by decide), fun _ => st mo ?_⟩⟩
    show _ = _; rw [askV, ask_c hc]; rfl
  | true =>
    refine ⟨_, fun nn => r_call (t := x.y) rfl rfl Tryz.func70 (fun W M E => q_may1 hc hx W), st mo ⟨fun h => st mo ?_, fun h => st mo ?_⟩⟩
    · refine ⟨_, fun nn => r_call (t := (vBad 3).y) rfl rfl Tryz.func62 (fun W M E => q_bad 3 W), st mo ?_⟩
      show _ = _; rw [askV, ask_b hc h]; rfl
    · have e : askV x = x := by
        unfold askV
        by_cases k : x.k = 4
        · have q := ckv_err hx hc k
          rw [ask_e hc k]; split
          · rfl
          · exact q.1.symm
        · rw [ask_n hc k h]; rfl
      show _ = _; rw [e]; rfl
theorem q_asked1 {x : VL} (h : ask x = 0) (hx : x.ok) (w : World) : Calls Tryz.prog 72 #[x.v] w fun r W => r = .returned x.v ∧ Mb w W := by have q := q_asked x hx w; rw [askV, if_pos h] at q; exact q
theorem q_asked0 {x : VL} (h : ¬ ask x = 0) (hx : x.ok) (w : World) : Calls Tryz.prog 72 #[x.v] w fun r W => r = .returned (vEr (ask x)).v ∧ Mb w W := by have q := q_asked x hx w; rw [askV, if_neg h] at q; exact q
set_option maxRecDepth 20000 in
theorem q_one (K : Int) (x : VL) (hx : x.ok) (w : World) : Calls Tryz.prog 66 #[x.v, .int .i64 K] w fun r W => r = .returned (oneV K x).v ∧ Mb w W := by
  refine fn_pure [x.y, .int .i64 K] Tryz.func66 rfl rfl rfl (run_ok (st mo ?_))
  by_cases ha : ask x = 0
  · have k4 := (ask_0 hx ha).2.1
    refine ⟨_, fun nn => r_call (t := x.y) rfl rfl Tryz.func72 (fun W M E => q_asked1 ha hx W), st mo ⟨fun _ => st mo ⟨fun h => st mo ?_, fun h => st mo ?_⟩, fun h => absurd h k4⟩⟩
    · refine ⟨_, fun nn => r_call (t := (vBad 2).y) rfl rfl Tryz.func62 (fun W M E => q_bad 2 W), st mo ?_⟩
      show _ = _; rw [oneV, show askK K x = 2 by unfold askK; rw [if_pos ha, if_neg h]]; rfl
    · show _ = _; rw [oneV, show askK K x = 0 by unfold askK; rw [if_pos ha, if_pos h]]; rfl
  · refine ⟨_, fun nn => r_call (t := (vEr (ask x)).y) rfl rfl Tryz.func72 (fun W M E => q_asked0 ha hx W), st mo ⟨fun h => absurd rfl h, fun _ => st mo ?_⟩⟩
    show _ = _; rw [oneV, show askK K x = ask x by unfold askK; rw [if_neg ha], if_neg ha]; rfl
theorem q_one1 {K : Int} {x : VL} (h : askK K x = 0) (hx : x.ok) (w : World) : Calls Tryz.prog 66 #[x.v, .int .i64 K] w fun r W => r = .returned x.v ∧ Mb w W := by have q := q_one K x hx w; rw [oneV, if_pos h] at q; exact q
theorem q_one0 {K : Int} {x : VL} (h : ¬ askK K x = 0) (hx : x.ok) (w : World) : Calls Tryz.prog 66 #[x.v, .int .i64 K] w fun r W => r = .returned (vEr (askK K x)).v ∧ Mb w W := by have q := q_one K x hx w; rw [oneV, if_neg h] at q; exact q
theorem askK_isE {K : Int} {x : VL} (hx : x.ok) (h : ¬ askK K x = 0) : vBad (askK K x) = vEr (askK K x) := by
  refine bad_of ?_
  unfold askK at h ⊢
  split
  next q => rw [if_pos q] at h; split; · rename_i r; rw [if_pos r] at h; exact absurd rfl h
            · rfl
  next q => exact ask_isE hx q
set_option maxRecDepth 20000 in
theorem q_neg (x : VL) (hx : x.ok) (w : World) : Calls Tryz.prog 36 #[x.v] w fun r W => r = .returned (negV x).v ∧ Mb w W := by
  refine fn_pure [x.y] Tryz.func36 rfl rfl rfl (run_ok (st mo ?_))
  by_cases h : askK 1 x = 0
  · have k := (askK_0 h).2
    refine ⟨_, fun nn => r_call (t := x.y) rfl rfl Tryz.func66 (fun W M E => q_one1 h hx W), st mo ⟨fun q => absurd q (by omega), fun _ => st mo ?_⟩⟩
    refine ⟨_, fun nn => r_call (t := (negR x.b x.n x.s).y) rfl rfl Tryz.func68 (fun W M E => q_dneg x.b x.n x.s hx (num_of hx (askK_0 h).1 k) W), st mo ?_⟩
    refine ⟨_, fun nn => r_call (t := (numV (negR x.b x.n x.s)).y) rfl rfl Tryz.func67 (fun W M E => q_told (negR x.b x.n x.s) W), st mo ?_⟩
    show _ = _; rw [negV, if_pos h]; rfl
  · refine ⟨_, fun nn => r_call (t := (vEr (askK 1 x)).y) rfl rfl Tryz.func66 (fun W M E => q_one0 h hx W), st mo ⟨fun _ => st mo ?_, fun q => absurd rfl q⟩⟩
    show _ = _; rw [negV, if_neg h, askK_isE hx h]; rfl
set_option maxRecDepth 20000 in
theorem q_not (x : VL) (hx : x.ok) (w : World) : Calls Tryz.prog 37 #[x.v] w fun r W => r = .returned (notV x).v ∧ Mb w W := by
  refine fn_pure [x.y] Tryz.func37 rfl rfl rfl (run_ok (st mo ?_))
  by_cases h : askK 2 x = 0
  · have k := (askK_0 h).2
    refine ⟨_, fun nn => r_call (t := x.y) rfl rfl Tryz.func66 (fun W M E => q_one1 h hx W), st mo ⟨fun q => absurd q (by omega), fun _ => st mo ?_⟩⟩
    refine ⟨_, fun nn => r_call (t := (vFl (!x.f)).y) rfl rfl Tryz.func69 (fun W M E => q_flag (!x.f) W), st mo ?_⟩
    show _ = _; rw [notV, if_pos h]; rfl
  · refine ⟨_, fun nn => r_call (t := (vEr (askK 2 x)).y) rfl rfl Tryz.func66 (fun W M E => q_one0 h hx W), st mo ⟨fun _ => st mo ?_, fun q => absurd rfl q⟩⟩
    show _ = _; rw [notV, if_neg h, askK_isE hx h]; rfl
set_option maxRecDepth 20000 in
theorem q_blank (x : VL) (hx : x.ok) (w : World) : Calls Tryz.prog 38 #[x.v] w fun r W => r = .returned (blkV x).v ∧ Mb w W := by
  refine fn_pure [x.y] Tryz.func38 rfl rfl rfl (run_ok (st mo ?_))
  cases hc : ckv x with
  | false =>
    refine ⟨_, fun nn => r_call (t := (vEr 2).y) rfl rfl Tryz.func70 (fun W M E => q_may0 hc hx W), st mo ⟨fun _ => st mo ?_, fun q => absurd rfl q⟩⟩
    show _ = _; rw [blkV, hc]; rfl
  | true =>
    refine ⟨_, fun nn => r_call (t := x.y) rfl rfl Tryz.func70 (fun W M E => q_may1 hc hx W), st mo ⟨fun h => st mo ?_, fun h => st mo ⟨fun h0 => st mo ?_, fun h0 => st mo ?_⟩⟩⟩
    · show _ = _; rw [blkV, if_pos hc, if_pos h]; rfl
    · refine ⟨_, fun nn => r_call (t := (vFl true).y) rfl rfl Tryz.func69 (fun W M E => q_flag true W), st mo ?_⟩
      show _ = _; rw [blkV, if_pos hc, if_neg h, decide_eq_true h0]; rfl
    · refine ⟨_, fun nn => r_call (t := (vFl false).y) rfl rfl Tryz.func69 (fun W M E => q_flag false W), st mo ?_⟩
      show _ = _; rw [blkV, if_pos hc, if_neg h, decide_eq_false h0]; rfl
set_option maxRecDepth 20000 in
theorem q_rnd (x : VL) (hx : x.ok) (s p : Int) (w : World) : Calls Tryz.prog 39 #[x.v, .int .i64 s, .int .i64 p] w fun r W => r = .returned (rndV x s p).v ∧ Mb w W := by
  refine fn_pure [x.y, .int .i64 s, .int .i64 p] Tryz.func39 rfl rfl rfl (run_ok (st mo ?_))
  by_cases h : askK 1 x = 0
  · have k := (askK_0 h).2
    refine ⟨_, fun nn => r_call (t := x.y) rfl rfl Tryz.func66 (fun W M E => q_one1 h hx W), st mo ⟨fun q => absurd q (by omega), fun _ => st mo ?_⟩⟩
    refine ⟨_, fun nn => r_call (t := (rndR x.b x.n x.s s p).y) rfl rfl Tryz.func71 (fun W M E => q_resc x.b x.n x.s s p hx (num_of hx (askK_0 h).1 k) W), st mo ?_⟩
    refine ⟨_, fun nn => r_call (t := (numV (rndR x.b x.n x.s s p)).y) rfl rfl Tryz.func67 (fun W M E => q_told (rndR x.b x.n x.s s p) W), st mo ?_⟩
    show _ = _; rw [rndV, if_pos h]; rfl
  · refine ⟨_, fun nn => r_call (t := (vEr (askK 1 x)).y) rfl rfl Tryz.func66 (fun W M E => q_one0 h hx W), st mo ⟨fun _ => st mo ?_, fun q => absurd rfl q⟩⟩
    show _ = _; rw [rndV, if_neg h, askK_isE hx h]; rfl
set_option maxRecDepth 20000 in
theorem q_if (c x y : VL) (hc : c.ok) (hx : x.ok) (hy : y.ok) (w : World) : Calls Tryz.prog 41 #[c.v, x.v, y.v] w fun r W => r = .returned (ifV c x y).v ∧ Mb w W := by
  refine fn_pure [c.y, x.y, y.y] Tryz.func41 rfl rfl rfl (run_ok (st mo ?_))
  by_cases h : askK 2 c = 0
  · have k := (askK_0 h).2
    refine ⟨_, fun nn => r_call (t := c.y) rfl rfl Tryz.func66 (fun W M E => q_one1 h hc W), st mo ⟨fun q => absurd q (by omega), fun _ => st mo ⟨fun hf => st mo ?_, fun hf => st mo ?_⟩⟩⟩
    · refine ⟨_, fun nn => r_call (t := (mayV x).y) rfl rfl Tryz.func70 (fun W M E => q_mayv x hx W), st mo ?_⟩
      show _ = _; rw [ifV, if_pos h, hf, if_pos rfl]; rfl
    · refine ⟨_, fun nn => r_call (t := (mayV y).y) rfl rfl Tryz.func70 (fun W M E => q_mayv y hy W), st mo ?_⟩
      show _ = _; rw [ifV, if_pos h, hf, if_neg (by decide)]; rfl
  · refine ⟨_, fun nn => r_call (t := (vEr (askK 2 c)).y) rfl rfl Tryz.func66 (fun W M E => q_one0 h hc W), st mo ⟨fun _ => st mo ?_, fun q => absurd rfl q⟩⟩
    show _ = _; rw [ifV, if_neg h, askK_isE hc h]; rfl
set_option maxRecDepth 20000 in
theorem q_fit (x : VL) (hx : x.ok) (tk ts p : Int) (w : World) : Calls Tryz.prog 45 #[x.v, .agg #[.int .i64 tk, .int .i64 ts], .int .i64 p] w fun r W => r = .returned (fitV x tk ts p).v ∧ Mb w W := by
  refine fn_pure [x.y, .agg #[.int .i64 tk, .int .i64 ts], .int .i64 p] Tryz.func45 rfl rfl rfl (run_ok (st mo ?_))
  cases hc : ckv x with
  | false =>
    refine ⟨_, fun nn => r_call (t := (vEr 2).y) rfl rfl Tryz.func70 (fun W M E => q_may0 hc hx W), st mo ⟨fun _ => st mo ?_, fun q => absurd rfl q⟩⟩
    show _ = _; rw [fitV, hc]; rfl
  | true =>
    refine ⟨_, fun nn => r_call (t := x.y) rfl rfl Tryz.func70 (fun W M E => q_may1 hc hx W), st mo ⟨fun h4 => st mo ?_, fun h4 => st mo ⟨fun h0 => st mo ?_, fun h0 => st mo ⟨fun hk => st mo ?_, fun hk => st mo ⟨fun h1 => st mo ?_, fun h1 => st mo ?_⟩⟩⟩⟩⟩
    · show _ = _; rw [fitV, if_pos hc, if_pos h4]; rfl
    · show _ = _; rw [fitV, if_pos hc, if_neg h4, if_pos h0]; rfl
    · refine ⟨_, fun nn => r_call (t := (vBad 2).y) rfl rfl Tryz.func62 (fun W M E => q_bad 2 W), st mo ?_⟩
      show _ = _; rw [fitV, if_pos hc, if_neg h4, if_neg h0, if_neg hk]; rfl
    · refine ⟨_, fun nn => r_call (t := (rndV x ts p).y) rfl rfl Tryz.func39 (fun W M E => q_rnd x hx ts p W), st mo ?_⟩
      show _ = _; rw [fitV, if_pos hc, if_neg h4, if_neg h0, if_pos hk, if_pos h1]; rfl
    · show _ = _; rw [fitV, if_pos hc, if_neg h4, if_neg h0, if_pos hk, if_neg h1]; rfl
end Go.Proofs.YtfmfeipeeedfpaaGreat
namespace Go.Proofs.YtfmfeipeeedfpaaGreat
open S Go.RowKit
def recV (op : Int) (b : Bool) (n s : Int) (c : Bool) (m t : Int) : VL := if op = 1 then numV (addR b n s c m t) else if op = 2 then numV (subR b n s c m t) else numV (mulR b n s c m t)
def samV (x y : VL) : Bool := if x.k = 1 then decide (cmpR x.b x.n x.s y.b y.n y.s = 0) else svv x y
def ordB (op o : Int) : Bool := if op = 6 then decide (o < 0) else if op = 7 then decide (o ≤ 0) else if op = 8 then decide (0 < o) else decide (0 ≤ o)
theorem qd_mul (b : Bool) (n s : Int) (c : Bool) (m t : Int) (w : World) (hn : 0 ≤ n ∧ n < MM) (hm : 0 ≤ m ∧ m < MM) (h1 : ck b n s = 0) (h2 : ck c m t = 0) : Calls Tryz.prog 107 #[dc b n s, dc c m t, .int .i64 (min 18 (s + t)), .int .i64 2] w fun e9 w' => e9 = .returned (mulR b n s c m t).v ∧ Mb w w' := by
  obtain ⟨a0, a1⟩ := sc_iff.1 (ck_s h1)
  obtain ⟨b0, b1⟩ := sc_iff.1 (ck_s h2)
  rw [show min 18 (s + t) = min (s + t) 18 by omega]
  have q := q_mto b n s c m t (min (s + t) 18) 2 hn hm h1 h2 w
  unfold mtoR at q
  rw [if_pos (sc_iff.2 ⟨by omega, by omega⟩), if_pos (by decide)] at q
  exact q
set_option maxRecDepth 20000 in
theorem q_reckon (op : Int) (b : Bool) (n s : Int) (c : Bool) (m t : Int) (hn : 0 ≤ n ∧ n < MM) (hm : 0 ≤ m ∧ m < MM) (h1 : ck b n s = 0) (h2 : ck c m t = 0) (w : World) : Calls Tryz.prog 73 #[.int .i64 op, dc b n s, dc c m t] w fun r W => r = .returned (recV op b n s c m t).v ∧ Mb w W := by
  have s1 := sc_iff.1 (ck_s h1)
  have t1 := sc_iff.1 (ck_s h2)
  refine fn_pure [.int .i64 op, dc b n s, dc c m t] Tryz.func73 rfl rfl rfl (run_ok (st mo ⟨fun h => st mo ?_, fun q1 => st mo ⟨fun h => st mo ?_, fun q2 => st mo ?_⟩⟩))
  · refine ⟨_, fun nn => r_call (t := (addR b n s c m t).y) rfl rfl Tryz.func105 (fun W M E => q_add b n s c m t hn hm h1 h2 W), st mo ?_⟩
    refine ⟨_, fun nn => r_call (t := (numV (addR b n s c m t)).y) rfl rfl Tryz.func67 (fun W M E => q_told (addR b n s c m t) W), st mo ?_⟩
    show _ = _; rw [recV, if_pos h]; rfl
  · refine ⟨_, fun nn => r_call (t := (subR b n s c m t).y) rfl rfl Tryz.func106 (fun W M E => q_sub b n s c m t hn hm h1 h2 W), st mo ?_⟩
    refine ⟨_, fun nn => r_call (t := (numV (subR b n s c m t)).y) rfl rfl Tryz.func67 (fun W M E => q_told (subR b n s c m t) W), st mo ?_⟩
    show _ = _; rw [recV, if_neg q1, if_pos h]; rfl
  · refine ⟨s + t, wi (by omega), st mo ⟨_, fun nn => r_min 18 (s + t), st mo ?_⟩⟩
    refine ⟨_, fun nn => r_call (t := (mulR b n s c m t).y) rfl rfl Tryz.func107 (fun W M E => qd_mul b n s c m t W hn hm h1 h2), st mo ?_⟩
    refine ⟨_, fun nn => r_call (t := (numV (mulR b n s c m t)).y) rfl rfl Tryz.func67 (fun W M E => q_told (mulR b n s c m t) W), st mo ?_⟩
    show _ = _; rw [recV, if_neg q1, if_neg q2]; rfl
set_option maxRecDepth 20000 in
theorem q_order (op : Int) (b : Bool) (n s : Int) (c : Bool) (m t : Int) (hn : 0 ≤ n ∧ n < MM) (hm : 0 ≤ m ∧ m < MM) (h1 : ck b n s = 0) (h2 : ck c m t = 0) (w : World) : Calls Tryz.prog 75 #[.int .i64 op, dc b n s, dc c m t] w fun r W => r = .returned (.bool (ordB op (cmpR b n s c m t))) ∧ Mb w W := by
  refine fn_pure [.int .i64 op, dc b n s, dc c m t] Tryz.func75 rfl rfl rfl (run_ok (st mo ?_))
  refine ⟨_, fun nn => r_call (t := .int .i64 (cmpR b n s c m t)) rfl rfl Tryz.func108 (fun W M E => q_cmp b n s c m t hn hm h1 h2 W), st mo ?_⟩
  generalize cmpR b n s c m t = o
  refine ⟨fun h => st mo ⟨fun q => st mo ?_, fun q => st mo ?_⟩, fun h6 => st mo ⟨fun h => st mo ⟨fun q => st mo ?_, fun q => st mo ?_⟩, fun h7 => st mo ⟨fun h => st mo ⟨fun q => st mo ?_, fun q => st mo ?_⟩, fun h8 => st mo ⟨fun q => st mo ?_, fun q => st mo ?_⟩⟩⟩⟩
  · show _ = _; rw [ordB, if_pos h, decide_eq_true (by omega)]
  · show _ = _; rw [ordB, if_pos h, decide_eq_false (by omega)]
  · show _ = _; rw [ordB, if_neg h6, if_pos h, decide_eq_true (by omega)]
  · show _ = _; rw [ordB, if_neg h6, if_pos h, decide_eq_false (by omega)]
  · show _ = _; rw [ordB, if_neg h6, if_neg h7, if_pos h, decide_eq_true (by omega)]
  · show _ = _; rw [ordB, if_neg h6, if_neg h7, if_pos h, decide_eq_false (by omega)]
  · show _ = _; rw [ordB, if_neg h6, if_neg h7, if_neg h8, decide_eq_true (by omega)]
  · show _ = _; rw [ordB, if_neg h6, if_neg h7, if_neg h8, decide_eq_false (by omega)]
set_option maxRecDepth 20000 in
theorem q_same (x y : VL) (hx : x.ok) (hy : y.ok) (h1 : x.k = 1 → ck x.b x.n x.s = 0 ∧ ck y.b y.n y.s = 0) (w : World) : Calls Tryz.prog 74 #[x.v, y.v] w fun r W => r = .returned (.bool (samV x y)) ∧ Mb w W := by
  refine fn_pure [x.y, y.y] Tryz.func74 rfl rfl rfl (run_ok (st mo ⟨fun h => st mo ?_, fun h => st mo ?_⟩))
  · refine ⟨_, fun nn => r_call (t := .int .i64 (cmpR x.b x.n x.s y.b y.n y.s)) rfl rfl Tryz.func108 (fun W M E => q_cmp x.b x.n x.s y.b y.n y.s hx hy (h1 h).1 (h1 h).2 W), st mo ⟨fun q => st mo ?_, fun q => st mo ?_⟩⟩
    · show _ = _; rw [samV, if_pos h, decide_eq_true q]
    · show _ = _; rw [samV, if_pos h, decide_eq_false q]
  · refine ⟨_, r_eqV x y, fun q => st mo ?_, fun q => st mo ?_⟩
    · show _ = _; rw [samV, if_neg h, q]
    · show _ = _; rw [samV, if_neg h, q]
theorem q_same' {x y : VL} {b : Bool} (hb : samV x y = b) (hx : x.ok) (hy : y.ok) (h1 : x.k = 1 → ck x.b x.n x.s = 0 ∧ ck y.b y.n y.s = 0) (w : World) : Calls Tryz.prog 74 #[x.v, y.v] w fun r W => r = .returned (.bool b) ∧ Mb w W := hb ▸ q_same x y hx hy h1 w
section
variable {op : Int} {x y : VL}
theorem op_rec (a : ask2 x y = 0) (k : x.k = 1) (l : y.k = 1) (h : 1 ≤ op ∧ op ≤ 3) : opV op x y = recV op x.b x.n x.s y.b y.n y.s := by
  rw [opV, if_pos a, if_pos (by omega), if_pos k, opN, recV]
  split; · rfl
  split; · rfl
  rw [if_pos (by omega)]
theorem op_ord (a : ask2 x y = 0) (k : x.k = 1) (l : y.k = 1) (h : 6 ≤ op ∧ op ≤ 9) : opV op x y = vFl (ordB op (cmpR x.b x.n x.s y.b y.n y.s)) := by
  rw [opV, if_pos a, if_pos (by omega), if_pos k, opN, if_neg (by omega), if_neg (by omega), if_neg (by omega), ordV, if_neg (by omega), if_neg (by omega), ordB]
  split; · rfl
  split; · rfl
  split; · rfl
  rw [if_pos (by omega)]
theorem op_eq (a : ask2 x y = 0) (k : x.k = y.k) (h : op = 4) : opV op x y = vFl (samV x y) := by
  subst h
  rw [opV, if_pos a, if_pos k, samV]
  split
  · rw [opN, if_neg (by decide), if_neg (by decide), if_neg (by decide), ordV, if_pos rfl]
  · rw [if_pos rfl]
theorem op_ne (a : ask2 x y = 0) (k : x.k = y.k) (h : op = 5) : opV op x y = vFl (!samV x y) := by
  subst h
  rw [opV, if_pos a, if_pos k, samV]
  split
  · rw [opN, if_neg (by decide), if_neg (by decide), if_neg (by decide), ordV, if_neg (by decide), if_pos rfl]
  · rw [if_neg (by decide), if_pos rfl]
theorem op_and (a : ask2 x y = 0) (k : x.k = 2) (l : y.k = 2) (h : op = 10) : opV op x y = vFl (x.f && y.f) := by
  subst h
  rw [opV, if_pos a, if_pos (by omega), if_neg (by omega), if_neg (by decide), if_neg (by decide), if_pos k, opF, if_pos rfl]
theorem op_or (a : ask2 x y = 0) (k : x.k = 2) (l : y.k = 2) (h : op = 11) : opV op x y = vFl (x.f || y.f) := by
  subst h
  rw [opV, if_pos a, if_pos (by omega), if_neg (by omega), if_neg (by decide), if_neg (by decide), if_pos k, opF, if_neg (by decide), if_pos rfl]
theorem op_bad (a : ask2 x y = 0) (h : ¬ (x.k = 1 ∧ y.k = 1 ∧ 1 ≤ op ∧ op ≤ 3)) (g : ¬ (x.k = y.k ∧ 4 ≤ op ∧ op ≤ 5)) (i : ¬ (x.k = 1 ∧ y.k = 1 ∧ 6 ≤ op ∧ op ≤ 9)) (j : ¬ (x.k = 2 ∧ y.k = 2 ∧ 10 ≤ op ∧ op ≤ 11)) : opV op x y = vBad 2 := by
  rw [opV, if_pos a]
  split
  next e =>
    split
    next k => rw [opN, if_neg (by omega), if_neg (by omega), if_neg (by omega), ordV, if_neg (by omega), if_neg (by omega), if_neg (by omega), if_neg (by omega), if_neg (by omega), if_neg (by omega)]
    next k =>
      rw [if_neg (by omega), if_neg (by omega)]
      split
      · rw [opF, if_neg (by omega), if_neg (by omega)]
      · rfl
  next => rfl
end
theorem num_of2 {x y : VL} (hx : x.ok) (hy : y.ok) (h : ask2 x y = 0) (k : x.k = 1) (l : y.k = 1) : ck x.b x.n x.s = 0 ∧ ck y.b y.n y.s = 0 := ⟨num_of hx (ask2_0 h).1 k, num_of hy (ask2_0 h).2 l⟩
set_option maxHeartbeats 2000000 in
set_option maxRecDepth 20000 in
theorem q_op (op : Int) (x y : VL) (hx : x.ok) (hy : y.ok) (w : World) : Calls Tryz.prog 40 #[.int .i64 op, x.v, y.v] w fun r W => r = .returned (opV op x y).v ∧ Mb w W := by
  refine fn_pure [.int .i64 op, x.y, y.y] Tryz.func40 rfl rfl rfl (run_ok (st mo ?_))
  by_cases ax : ask x = 0
  · by_cases ay : ask y = 0
    · have a : ask2 x y = 0 := by unfold ask2; rw [if_pos ax]; exact ay
      have kx := ask_0 hx ax
      have ky := ask_0 hy ay
      refine ⟨_, fun nn => r_call (t := x.y) rfl rfl Tryz.func72 (fun W M E => q_asked1 ax hx W), st mo ?_⟩
      refine ⟨_, fun nn => r_call (t := y.y) rfl rfl Tryz.func72 (fun W M E => q_asked1 ay hy W), st mo ⟨dk, st mo ?_⟩⟩
      have k4 := kx.2.1
      have l4 := ky.2.1
      have nn2 : x.k = 1 → y.k = 1 → ck x.b x.n x.s = 0 ∧ ck y.b y.n y.s = 0 := fun k l => num_of2 hx hy a k l
      by_cases o4 : op = 4
      · cases hs : samV x y
        · repeat' (first | (refine ⟨fun h => ?_, fun h => ?_⟩ <;> first | (exfalso; omega) | refine st mo ?_) | fail "")
          all_goals first
            | (refine ⟨_, fun nn => r_call (t := (vBad 2).y) rfl rfl Tryz.func62 (fun W M E => q_bad 2 W), st mo ?_⟩; show _ = _; rw [op_bad a (by omega) (by omega) (by omega) (by omega)]; rfl)
            | (refine ⟨_, fun nn => r_call (t := litF) rfl rfl Tryz.func74 (fun W M E => q_same' hs hx hy (fun k => nn2 k (by omega)) W), st mo ?_⟩; refine ⟨fun h => ?_, fun h => ?_⟩ <;> first | (exfalso; omega) | refine st mo ?_)
          all_goals refine ⟨_, r_eqB false true, fun h => ?_, fun h => ?_⟩ <;> first | exact absurd h (by decide) | refine st mo ?_
          all_goals refine ⟨_, fun nn => r_call (t := (vFl false).y) rfl rfl Tryz.func69 (fun W M E => q_flag false W), st mo ?_⟩
          all_goals (show _ = _; rw [op_eq a (by omega) (by omega), hs]; rfl)
        · repeat' (first | (refine ⟨fun h => ?_, fun h => ?_⟩ <;> first | (exfalso; omega) | refine st mo ?_) | fail "")
          all_goals first
            | (refine ⟨_, fun nn => r_call (t := (vBad 2).y) rfl rfl Tryz.func62 (fun W M E => q_bad 2 W), st mo ?_⟩; show _ = _; rw [op_bad a (by omega) (by omega) (by omega) (by omega)]; rfl)
            | (refine ⟨_, fun nn => r_call (t := litT) rfl rfl Tryz.func74 (fun W M E => q_same' hs hx hy (fun k => nn2 k (by omega)) W), st mo ?_⟩; refine ⟨fun h => ?_, fun h => ?_⟩ <;> first | (exfalso; omega) | refine st mo ?_)
          all_goals refine ⟨_, r_eqB true true, fun h => ?_, fun h => ?_⟩ <;> first | exact absurd h (by decide) | refine st mo ?_
          all_goals refine ⟨_, fun nn => r_call (t := (vFl true).y) rfl rfl Tryz.func69 (fun W M E => q_flag true W), st mo ?_⟩
          all_goals (show _ = _; rw [op_eq a (by omega) (by omega), hs]; rfl)
      by_cases o5 : op = 5
      · cases hs : samV x y
        · repeat' (first | (refine ⟨fun h => ?_, fun h => ?_⟩ <;> first | (exfalso; omega) | refine st mo ?_) | fail "")
          all_goals first
            | (refine ⟨_, fun nn => r_call (t := (vBad 2).y) rfl rfl Tryz.func62 (fun W M E => q_bad 2 W), st mo ?_⟩; show _ = _; rw [op_bad a (by omega) (by omega) (by omega) (by omega)]; rfl)
            | (refine ⟨_, fun nn => r_call (t := litF) rfl rfl Tryz.func74 (fun W M E => q_same' hs hx hy (fun k => nn2 k (by omega)) W), st mo ?_⟩; refine ⟨fun h => ?_, fun h => ?_⟩ <;> first | (exfalso; omega) | refine st mo ?_)
          all_goals refine ⟨_, r_eqB false false, fun h => ?_, fun h => ?_⟩ <;> first | exact absurd h (by decide) | refine st mo ?_
          all_goals refine ⟨_, fun nn => r_call (t := (vFl (!false)).y) rfl rfl Tryz.func69 (fun W M E => q_flag (!false) W), st mo ?_⟩
          all_goals (show _ = _; rw [op_ne a (by omega) (by omega), hs]; rfl)
        · repeat' (first | (refine ⟨fun h => ?_, fun h => ?_⟩ <;> first | (exfalso; omega) | refine st mo ?_) | fail "")
          all_goals first
            | (refine ⟨_, fun nn => r_call (t := (vBad 2).y) rfl rfl Tryz.func62 (fun W M E => q_bad 2 W), st mo ?_⟩; show _ = _; rw [op_bad a (by omega) (by omega) (by omega) (by omega)]; rfl)
            | (refine ⟨_, fun nn => r_call (t := litT) rfl rfl Tryz.func74 (fun W M E => q_same' hs hx hy (fun k => nn2 k (by omega)) W), st mo ?_⟩; refine ⟨fun h => ?_, fun h => ?_⟩ <;> first | (exfalso; omega) | refine st mo ?_)
          all_goals refine ⟨_, r_eqB true false, fun h => ?_, fun h => ?_⟩ <;> first | exact absurd h (by decide) | refine st mo ?_
          all_goals refine ⟨_, fun nn => r_call (t := (vFl (!true)).y) rfl rfl Tryz.func69 (fun W M E => q_flag (!true) W), st mo ?_⟩
          all_goals (show _ = _; rw [op_ne a (by omega) (by omega), hs]; rfl)
      repeat' (first | (refine ⟨fun h => ?_, fun h => ?_⟩ <;> first | (exfalso; omega) | exact absurd (‹x.f = true›.symm.trans ‹x.f = false›) (by decide) | refine st mo ?_) | fail "")
      all_goals first
        | (refine ⟨_, fun nn => r_call (t := (vBad 2).y) rfl rfl Tryz.func62 (fun W M E => q_bad 2 W), st mo ?_⟩; show _ = _; rw [op_bad a (by omega) (by omega) (by omega) (by omega)]; rfl)
        | (refine ⟨_, fun nn => r_call (t := (recV op x.b x.n x.s y.b y.n y.s).y) rfl rfl Tryz.func73 (fun W M E => q_reckon op x.b x.n x.s y.b y.n y.s hx hy (nn2 (by omega) (by omega)).1 (nn2 (by omega) (by omega)).2 W), st mo ?_⟩; show _ = _; rw [op_rec a (by omega) (by omega) (by omega)]; rfl)
        | (refine ⟨_, fun nn => r_call (t := .bool (ordB op (cmpR x.b x.n x.s y.b y.n y.s))) rfl rfl Tryz.func75 (fun W M E => q_order op x.b x.n x.s y.b y.n y.s hx hy (nn2 (by omega) (by omega)).1 (nn2 (by omega) (by omega)).2 W), st mo ?_⟩; refine ⟨_, fun nn => r_call (t := (vFl (ordB op (cmpR x.b x.n x.s y.b y.n y.s))).y) rfl rfl Tryz.func69 (fun W M E => q_flag _ W), st mo ?_⟩; show _ = _; rw [op_ord a (by omega) (by omega) (by omega)]; rfl)
        | exact absurd (‹x.f = true›.symm.trans ‹x.f = false›) (by decide)
        | (refine ⟨_, fun nn => r_call (t := (vFl false).y) rfl rfl Tryz.func69 (fun W M E => q_flag false W), st mo ?_⟩; show _ = _; rw [op_and a (by omega) (by omega) (by omega), ‹x.f = false›]; rfl)
        | (refine ⟨_, fun nn => r_call (t := (vFl y.f).y) rfl rfl Tryz.func69 (fun W M E => q_flag y.f W), st mo ?_⟩; show _ = _; rw [op_and a (by omega) (by omega) (by omega), ‹x.f = true›]; rfl)
        | (refine ⟨_, fun nn => r_call (t := (vFl true).y) rfl rfl Tryz.func69 (fun W M E => q_flag true W), st mo ?_⟩; show _ = _; rw [op_or a (by omega) (by omega) (by omega), ‹x.f = true›]; rfl)
        | (refine ⟨_, fun nn => r_call (t := (vFl y.f).y) rfl rfl Tryz.func69 (fun W M E => q_flag y.f W), st mo ?_⟩; show _ = _; rw [op_or a (by omega) (by omega) (by omega), ‹x.f = false›]; rfl)
    · refine ⟨_, fun nn => r_call (t := x.y) rfl rfl Tryz.func72 (fun W M E => q_asked1 ax hx W), st mo ?_⟩
      refine ⟨_, fun nn => r_call (t := (vEr (ask y)).y) rfl rfl Tryz.func72 (fun W M E => q_asked0 ay hy W), st mo ⟨dk, st mo ?_⟩⟩
      have k4 := (ask_0 hx ax).2.1
      refine ⟨fun h => absurd h k4, fun _ => st mo ⟨fun _ => st mo ?_, fun h => absurd rfl h⟩⟩
      have a : ask2 x y = ask y := by unfold ask2; rw [if_pos ax]
      show _ = _; rw [opV, if_neg (by rw [a]; exact ay), a, bad_of (ask_isE hy ay)]; rfl
  · refine ⟨_, fun nn => r_call (t := (vEr (ask x)).y) rfl rfl Tryz.func72 (fun W M E => q_asked0 ax hx W), st mo ?_⟩
    refine ⟨_, fun nn => r_call (t := (askV y).y) rfl rfl Tryz.func72 (fun W M E => q_asked y hy W), st mo ⟨dk, st mo ?_⟩⟩
    refine ⟨fun _ => st mo ?_, fun h => absurd rfl h⟩
    have a : ask2 x y = ask x := by unfold ask2; rw [if_neg ax]
    show _ = _; rw [opV, if_neg (by rw [a]; exact ax), a, bad_of (ask_isE hx ax)]; rfl
end Go.Proofs.YtfmfeipeeedfpaaGreat
namespace Go.Proofs.YtfmfeipeeedfpaaGreat
open S Go.RowKit
theorem okS_no {s : Stp} (h : ¬ (s.a.er = 0 ∧ s.b.er = 0 ∧ s.c.er = 0)) : okS s = false := by
  cases q : okS s with
  | false => rfl
  | true => unfold okS at q; simp at q; exact absurd ⟨q.1, q.2.1, q.2.2⟩ h
theorem okS_yes {s : Stp} (h : s.a.er = 0) (g : s.b.er = 0) (i : s.c.er = 0) : okS s = true := by unfold okS; rw [decide_eq_true h, decide_eq_true g, decide_eq_true i]; rfl
set_option maxRecDepth 20000 in
theorem c_check (x : Tb) (w : World) (hT : TbL w x) : Calls Tryz.prog 156 #[x.v] w fun r W => r = .returned (.int .i64 (chkT x.st)) ∧ Mb w W := by
  have hln := hT.ln
  refine fn_pure [x.y] Tryz.func156 rfl rfl rfl (run_ok (st mo (st mo ?_)))
  refine ⟨fun h => st mo ?_, fun h1 => st mo (st mo ⟨fun h => st mo ?_, fun h2 => st mo ?_⟩)⟩
  · show _ = _; rw [chkT, if_pos (by omega)]
  · show _ = _; rw [chkT, if_neg (by omega), if_pos (by omega)]
  refine S.w_loop (fun i : Nat => ⟨⟨Tryz.f156.ntmps, [(1, .pointer (some ⟨0, 0, none⟩)), (3, .int .i64 (i : Int))]⟩, [(0, some (x.cells.map rel1))], 1, w⟩) (fun i => i ≤ x.st.length ∧ ∀ j < i, ∀ y, x.st[j]? = some y → okS y = true) (fun i => x.st.length - i) 0 ⟨by omega, fun j hj => absurd hj (Nat.not_lt_zero j)⟩ [0] ⟨rfl, ⟨fp, fv, trivial⟩, ⟨flr rfl, trivial⟩, xf, rfl, rfl⟩ ?_
  intro i hi
  refine st mo (st mo ⟨fun hlt => st mo ?_, fun hge => st mo (st mo ?_)⟩)
  · have hil : i < x.st.length := by omega
    obtain ⟨y, hy, hok, b, o, h4, h5⟩ := hT.at hil
    refine ⟨b, o, i, h4, rfl, hil, st mo ⟨y.cells, rfl, h5, st mo ?_⟩⟩
    have bad : okS y = false → chkT x.st = 20 := fun hb => chk_bad (by omega) (by omega) (List.mem_of_getElem? hy) hb
    refine ⟨_, fun nn => r_call (t := .int .i64 y.a.er) rfl rfl Tryz.func59 (fun W M E => q_dck y.a.b y.a.n y.a.s hok.1 W), st mo ⟨fun h => st mo ?_, fun ha => st mo ?_⟩⟩
    · show _ = _; rw [bad (okS_no (fun q => h q.1))]
    refine ⟨_, fun nn => r_call (t := .int .i64 y.b.er) rfl rfl Tryz.func59 (fun W M E => q_dck y.b.b y.b.n y.b.s hok.2.1 W), st mo ⟨fun h => st mo ?_, fun hb => st mo ?_⟩⟩
    · show _ = _; rw [bad (okS_no (fun q => h q.2.1))]
    refine ⟨_, fun nn => r_call (t := .int .i64 y.c.er) rfl rfl Tryz.func59 (fun W M E => q_dck y.c.b y.c.n y.c.s hok.2.2 W), st mo ⟨fun h => st mo ?_, fun hc => st mo ?_⟩⟩
    · show _ = _; rw [bad (okS_no (fun q => h q.2.2))]
    refine ⟨_, wz (i + 1) rfl, st mo ?_⟩
    refine ⟨i + 1, ⟨hil, fun j hj z hz => ?_⟩, by dsimp; omega, [0], rfl, ⟨fp, fv, trivial⟩, ⟨flr rfl, trivial⟩, xf, rfl, rfl⟩
    rcases Nat.lt_or_ge j i with q | q
    · exact hi.2 j q z hz
    · obtain rfl : j = i := by omega
      rw [hy] at hz; cases hz; exact okS_yes ha hb hc
  have hall : x.st.all okS = true := all_of (fun j hj y hy => hi.2 j (by omega) y hy)
  refine S.w_loop (fun i : Nat => ⟨⟨Tryz.f156.ntmps, [(1, .pointer (some ⟨0, 0, none⟩)), (5, .int .i64 ((i + 1 : Nat) : Int))]⟩, [(0, some (x.cells.map rel1))], 1, w⟩) (fun i => i < x.st.length ∧ ∀ j < i, ∀ y z, x.st[j]? = some y → x.st[j + 1]? = some z → 0 < cmpD z.a y.a) (fun i => x.st.length - i) 0 ⟨by omega, fun j hj => absurd hj (Nat.not_lt_zero j)⟩ [0] ⟨rfl, ⟨fp, fv, trivial⟩, ⟨flr rfl, trivial⟩, xf, rfl, rfl⟩ ?_
  intro i hi
  refine st mo (st mo ⟨fun hlt => st mo ?_, fun hge => st mo (st mo ?_)⟩)
  · have hil : i + 1 < x.st.length := by omega
    obtain ⟨y, hy, hok, b, o, h4, h5⟩ := hT.at (Nat.lt_of_succ_lt hil)
    obtain ⟨z, hz, hokz, b', o', h6, h7⟩ := hT.at hil
    obtain ⟨rfl, rfl⟩ : b' = b ∧ o' = o := by rw [h4] at h6; cases h6; exact ⟨rfl, rfl⟩
    have fy := fit_of hT.ok hall hy
    have fz := fit_of hT.ok hall hz
    refine ⟨b', o', i + 1, h4, rfl, hil, st mo ⟨z.a.cells, rfl, (Stp.lc h7).1, st mo ?_⟩⟩
    refine ⟨(i : Int), wz i (by omega), st mo ⟨b', o', i, h4, rfl, by omega, st mo ⟨y.a.cells, rfl, (Stp.lc h5).1, st mo ?_⟩⟩⟩
    refine ⟨_, fun nn => r_call (t := .int .i64 (cmpD z.a y.a)) rfl rfl Tryz.func108 (fun W M E => q_cmp z.a.b z.a.n z.a.s y.a.b y.a.n y.a.s fz.1.1 fy.1.1 fz.1.2 fy.1.2 W), st mo ⟨fun h => st mo ⟨dk, st mo ?_⟩, fun h => st mo ⟨dk, st mo ?_⟩⟩⟩
    · show _ = _; rw [chk_low (by omega) (by omega) hall hy hz (by omega)]
    · refine ⟨_, wz (i + 1 + 1) rfl, st mo ?_⟩
      refine ⟨i + 1, ⟨hil, fun j hj u v hu hv => ?_⟩, by dsimp; omega, [0], rfl, ⟨fp, fv, trivial⟩, ⟨flr rfl, trivial⟩, xf, rfl, rfl⟩
      rcases Nat.lt_or_ge j i with q | q
      · exact hi.2 j q u v hu hv
      · obtain rfl : j = i := by omega
        rw [hy] at hu; cases hu; rw [hz] at hv; cases hv; omega
  · have hs : asc x.st = true := asc_of fun j u v hu hv => hi.2 j (by have := lt_of_get hv; omega) u v hu hv
    show _ = _; rw [chk_fine (by omega) (by omega) hall hs]
/-- The number found so far, none: -1. -/
def lpI (o : Option Nat) : Int := match o with | none => -1 | some k => (k : Int)
theorem lp_succ (p : Nat → Bool) (i : Nat) : lpI (lastP p (i + 1)) = if p i then (i : Int) else lpI (lastP p i) := by
  rw [lastP]; split <;> rfl
theorem stp_e {L : List Stp} {d : Dn} (hc : chkT L = 0) (he : d.er = 0) : (lpI (lastP (rchd L d) L.length) < 0 → stpE L d = 141 ∧ stpN L d = 0) ∧ (¬ lpI (lastP (rchd L d) L.length) < 0 → stpE L d = 0 ∧ stpN L d = lpI (lastP (rchd L d) L.length)) := by
  unfold stpN stpE
  rw [if_pos hc, if_pos he]
  cases lastP (rchd L d) L.length with
  | none => exact ⟨fun _ => ⟨rfl, rfl⟩, fun h => absurd (show (-1 : Int) < 0 by decide) h⟩
  | some k => exact ⟨fun h => absurd h (by show ¬ (k : Int) < 0; omega), fun _ => ⟨rfl, rfl⟩⟩
set_option maxRecDepth 20000 in
theorem c_step (x : Tb) (d : Dn) (hd : d.ok) (w : World) (hT : TbL w x) : Calls Tryz.prog 109 #[x.v, d.v'] w fun r W => r = .returned (.tuple #[.int .i64 (stpN x.st d), .int .i64 (stpE x.st d)]) ∧ Mb w W := by
  have hln := hT.ln
  refine fn_pure [x.y, d.v'] Tryz.func109 rfl rfl rfl (run_ok (st mo ?_))
  refine ⟨_, fun nn => r_call (t := .int .i64 (chkT x.st)) rfl rfl Tryz.func156 (fun W M E => c_check x W (hT.mono E)), st mo ⟨fun h => st mo ?_, fun h => st mo ?_⟩⟩
  · have e1 : stpE x.st d = chkT x.st := by unfold stpE; rw [if_neg h]
    have e2 : stpN x.st d = 0 := by unfold stpN; rw [if_neg (by rw [e1]; exact h)]
    show _ = _; rw [e1, e2]; rfl
  · have hc : chkT x.st = 0 := h
    refine ⟨_, fun nn => r_call (t := .int .i64 d.er) rfl rfl Tryz.func59 (fun W M E => q_dck d.b d.n d.s hd W), st mo ⟨fun h => st mo ?_, fun h => st mo ?_⟩⟩
    · have e1 : stpE x.st d = 20 := by unfold stpE; rw [if_pos hc, if_neg h]
      have e2 : stpN x.st d = 0 := by unfold stpN; rw [if_neg (by rw [e1]; decide)]
      show _ = _; rw [e1, e2]; rfl
    have he : d.er = 0 := h
    obtain ⟨s1, s2⟩ := stp_e hc he
    have hall := (chk_0 hc).2.2.1
    refine S.w_loop (fun i : Nat => ⟨⟨Tryz.f109.ntmps, [(2, .pointer (some ⟨0, 0, none⟩)), (3, .pointer (some ⟨1, 0, none⟩)), (7, .int .i64 (lpI (lastP (rchd x.st d) i))), (8, .int .i64 (i : Int))]⟩, hB x d, 2, w⟩) (fun i => i ≤ x.st.length) (fun i => x.st.length - i) 0 (by omega) [0, 1] ⟨rfl, ⟨fp, fp, fv, fv, trivial⟩, ⟨flr rfl, flr rfl, trivial⟩, xf, rfl, rfl⟩ ?_
    intro i hi
    refine st mo (st mo ⟨fun hlt => st mo ?_, fun hge => st mo (st mo ?_)⟩)
    · have hil : i < x.st.length := by omega
      obtain ⟨y, hy, hok, b, o, h4, h5⟩ := hT.at hil
      have fy := fit_of hT.ok hall hy
      have e3 := lp_succ (rchd x.st d) i
      rw [rchd_at hy] at e3
      refine ⟨b, o, i, h4, rfl, hil, st mo ⟨y.a.cells, rfl, (Stp.lc h5).1, st mo ?_⟩⟩
      refine ⟨_, fun nn => r_call (t := .int .i64 (cmpD y.a d)) rfl rfl Tryz.func108 (fun W M E => q_cmp y.a.b y.a.n y.a.s d.b d.n d.s fy.1.1 hd fy.1.2 he W), st mo ⟨fun h => st mo ⟨dk, st mo ?_⟩, fun h => st mo ⟨dk, st mo ?_⟩⟩⟩
      · refine ⟨_, wz (i + 1) rfl, st mo ?_⟩
        rw [if_pos (decide_eq_true h)] at e3
        exact ⟨i + 1, hil, by dsimp; omega, [0, 1], rfl, ⟨fp, fp, fe e3.symm, fv, trivial⟩, ⟨flr rfl, flr rfl, trivial⟩, xf, rfl, rfl⟩
      · refine ⟨_, wz (i + 1) rfl, st mo ?_⟩
        rw [decide_eq_false (by omega)] at e3
        exact ⟨i + 1, hil, by dsimp; omega, [0, 1], rfl, ⟨fp, fp, fe e3.symm, fv, trivial⟩, ⟨flr rfl, flr rfl, trivial⟩, xf, rfl, rfl⟩
    · obtain rfl : i = x.st.length := by omega
      refine ⟨fun h => st mo ?_, fun h => st mo ?_⟩
      · show _ = _; rw [(s1 h).1, (s1 h).2]; rfl
      · show _ = _; rw [(s2 (by omega)).1, (s2 (by omega)).2]; rfl
theorem addD_comm (x y : Dn) : addD x y = addD y x := by
  unfold addD addR addV
  rw [Int.max_comm x.s y.s, Int.add_comm (sgn x.b x.n * _)]
set_option maxRecDepth 20000 in
theorem c_says (s : Stp) (d : Dn) (hs : s.fit) (hd : d.fit) (w : World) : Calls Tryz.prog 110 #[s.v, d.v'] w fun r W => r = .returned (saysD s d).v ∧ Mb w W := by
  refine fn_pure [.agg (s.cells.map rel1).toArray, d.v'] Tryz.func110 rfl rfl rfl (run_ok (st mo ?_))
  have g1 := good_sub hd hs.1
  refine ⟨_, fun nn => r_call (t := (subD d s.a).y) rfl rfl Tryz.func106 (fun W M E => q_sub d.b d.n d.s s.a.b s.a.n s.a.s hd.1 hs.1.1 hd.2 hs.1.2 W), st mo ⟨fun h => st mo ?_, fun h => st mo ?_⟩⟩
  · show _ = _; rw [saysD, if_neg h]; rfl
  · have h : (subD d s.a).e = 0 := h
    have f1 := g1.fit h
    have b1 := f1.s
    have b2 := hs.2.2.s
    have g2 := good_mul f1 hs.2.2
    refine ⟨(subD d s.a).s + s.c.s, wi (by have : (subD d s.a).s = (subD d s.a).d.s := rfl; omega), st mo ⟨_, fun nn => r_min 18 ((subD d s.a).s + s.c.s), st mo ?_⟩⟩
    refine ⟨_, fun nn => r_call (t := (mulD (subD d s.a).d s.c).y) rfl rfl Tryz.func107 (fun W M E => qd_mul (subD d s.a).b (subD d s.a).n (subD d s.a).s s.c.b s.c.n s.c.s W f1.1 hs.2.2.1 f1.2 hs.2.2.2), st mo ⟨fun h2 => st mo ?_, fun h2 => st mo ?_⟩⟩
    · show _ = _; rw [saysD, if_pos h, if_neg h2]; rfl
    · have h2 : (mulD (subD d s.a).d s.c).e = 0 := h2
      have f2 := g2.fit h2
      refine ⟨_, fun nn => r_call (t := (addD s.b (mulD (subD d s.a).d s.c).d).y) rfl rfl Tryz.func105 (fun W M E => q_add s.b.b s.b.n s.b.s _ _ _ hs.2.1.1 f2.1 hs.2.1.2 f2.2 W), st mo ?_⟩
      show _ = _; rw [saysD, if_pos h, if_pos h2, addD_comm]; rfl
set_option maxRecDepth 20000 in
theorem c_at (x : Tb) (d : Dn) (hd : d.ok) (w : World) (hT : TbL w x) : Calls Tryz.prog 76 #[x.v, d.v'] w fun r W => r = .returned (atD x.st d).v ∧ Mb w W := by
  refine fn_pure [x.y, d.v'] Tryz.func76 rfl rfl rfl (run_ok (st mo ?_))
  refine ⟨_, fun nn => r_call (t := .tuple #[.int .i64 (stpN x.st d), .int .i64 (stpE x.st d)]) rfl rfl Tryz.func109 (fun W M E => c_step x d hd W (hT.mono E)), st mo ⟨fun h => st mo ?_, fun h => st mo ?_⟩⟩
  · show _ = _; rw [atD, if_neg h]; rfl
  · have h : stpE x.st d = 0 := h
    obtain ⟨hc, he, k, hk, hN⟩ := stp_0 h
    have hkl := (lastP_inv hk).1
    obtain ⟨y, hy, hok, b, o, h4, h5⟩ := hT.at hkl
    have fy := fit_of hT.ok (chk_0 hc).2.2.1 hy
    have e : atD x.st d = saysD y d := by unfold atD; rw [if_pos h, hk]; simp only [Option.getD_some, List.getD_eq_getElem?_getD, hy]
    rw [e]
    refine ⟨b, o, k, h4, hN.symm, hkl, st mo ⟨y.cells, rfl, h5, st mo ?_⟩⟩
    refine ⟨_, fun nn => r_call (t := (saysD y d).y) rfl rfl Tryz.func110 (fun W M E => c_says y d fy ⟨hd, he⟩ W), st mo ⟨dk, st mo ?_⟩⟩
    rfl
end Go.Proofs.YtfmfeipeeedfpaaGreat
namespace Go.Proofs.YtfmfeipeeedfpaaGreat
open S Go.RowKit
def pN (A B c e : Nat) : Nat := A % 2 ^ e + B % 2 ^ e + c
def ouN (A B c e : Nat) : Nat := pN A B c e % 2 ^ e
def caN (A B c e : Nat) : Nat := pN A B c e / 2 ^ e
theorem pN_succ (A B c e : Nat) : pN A B c (e + 1) = pN A B c e + 2 ^ e * (A / 2 ^ e % 2 + B / 2 ^ e % 2) := by
  unfold pN; rw [Nat.pow_succ, Nat.mod_mul, Nat.mod_mul, Nat.mul_add]; omega
theorem sN (A B c e : Nat) : A / 2 ^ e % 2 + B / 2 ^ e % 2 + caN A B c e = pN A B c (e + 1) / 2 ^ e := by
  rw [pN_succ, Nat.add_mul_div_left _ _ (Nat.two_pow_pos e)]; unfold caN; omega
theorem caN_succ (A B c e : Nat) : caN A B c (e + 1) = (A / 2 ^ e % 2 + B / 2 ^ e % 2 + caN A B c e) / 2 := by
  rw [sN, Nat.div_div_eq_div_mul, ← Nat.pow_succ]; rfl
theorem ouN_succ (A B c e : Nat) : ouN A B c (e + 1) = ouN A B c e + (A / 2 ^ e % 2 + B / 2 ^ e % 2 + caN A B c e) % 2 * 2 ^ e := by
  rw [sN]; unfold ouN
  rw [Nat.pow_succ, Nat.mod_mul, pN_succ, Nat.add_mul_mod_self_left, Nat.mul_comm (2 ^ e)]
theorem caN_le {A B c : Nat} (e : Nat) (h : c ≤ 1) : caN A B c e ≤ 1 := by
  unfold caN pN
  have h1 := Nat.mod_lt A (Nat.two_pow_pos e)
  have h2 := Nat.mod_lt B (Nat.two_pow_pos e)
  exact Nat.le_of_lt_succ (Nat.div_lt_of_lt_mul (by omega))
theorem ouN_lt (A B c e : Nat) : ouN A B c e < 2 ^ e := Nat.mod_lt _ (Nat.two_pow_pos e)
theorem orN {x y r : Nat} (hx : x < 2 ^ r) (hy : y ≤ 1) (hr : r < 64) : IntKind.u64.wrap (((BitVec.ofInt IntKind.u64.bits (x : Int) ||| BitVec.ofInt IntKind.u64.bits ((y * 2 ^ r : Nat) : Int)).toNat : Nat) : Int) = ((x + y * 2 ^ r : Nat) : Int) := by
  have p1 : 2 ^ r * 2 ≤ 2 ^ 64 := by rw [← Nat.pow_succ]; exact Nat.pow_le_pow_right (by decide) (by omega)
  have p2 : y * 2 ^ r ≤ 2 ^ r := by have := Nat.mul_le_mul_right (2 ^ r) hy; omega
  show IntKind.u64.wrap (((BitVec.ofInt 64 (x : Int) ||| BitVec.ofInt 64 ((y * 2 ^ r : Nat) : Int)).toNat : Nat) : Int) = _
  rw [BitVec.toNat_or, BitVec.toNat_ofInt, BitVec.toNat_ofInt, IntKind.wrap_u64]
  have e1 : ((x : Int) % ((2 ^ 64 : Nat) : Int)).toNat = x := by omega
  have e2 : (((y * 2 ^ r : Nat) : Int) % ((2 ^ 64 : Nat) : Int)).toNat = y * 2 ^ r := by omega
  rw [e1, e2, Nat.or_comm, ← Nat.shiftLeft_eq, ← Nat.shiftLeft_add_eq_or_of_lt hx, Nat.shiftLeft_eq]
  omega
theorem andN {x : Nat} (hx : x < 2 ^ 64) : IntKind.u64.wrap (((BitVec.ofInt IntKind.u64.bits (x : Int) &&& BitVec.ofInt IntKind.u64.bits 1).toNat : Nat) : Int) = ((x % 2 : Nat) : Int) := by
  show IntKind.u64.wrap (((BitVec.ofInt 64 (x : Int) &&& BitVec.ofInt 64 1).toNat : Nat) : Int) = _
  rw [BitVec.toNat_and, BitVec.toNat_ofInt, IntKind.wrap_u64]
  have e1 : ((x : Int) % ((2 ^ 64 : Nat) : Int)).toNat = x := by omega
  rw [e1, show (BitVec.ofInt 64 1).toNat = 1 by decide, Nat.and_one_is_mod]
  omega
theorem td64 {q r : Nat} (h : r < 64) : ((64 * q + r : Nat) : Int).tdiv 64 = (q : Int) := by rw [Int.tdiv_eq_ediv_of_nonneg (by omega)]; omega
theorem tm64 {q r : Nat} (h : r < 64) : ((64 * q + r : Nat) : Int).tmod 64 = (r : Int) := by rw [Int.tmod_eq_emod_of_nonneg (by omega)]; omega
theorem fdN (a r : Nat) (h : r < 64) : (a : Int).fdiv (2 ^ min (r : Int).toNat IntKind.u64.bits) = ((a / 2 ^ r : Nat) : Int) := by
  rw [show min (r : Int).toNat IntKind.u64.bits = r by show min (r : Int).toNat 64 = r; omega, Int.fdiv_eq_ediv_of_nonneg _ (Int.le_of_lt (Int.pow_pos (by decide)))]
  rw [Int.natCast_ediv, Int.natCast_pow]; rfl
theorem slN {a r : Nat} (h : r < 64) (ha : a ≤ 1) : IntKind.u64.wrap ((a : Int) * 2 ^ min (r : Int).toNat IntKind.u64.bits) = ((a * 2 ^ r : Nat) : Int) := by
  have p1 : 2 ^ r * 2 ≤ 2 ^ 64 := by rw [← Nat.pow_succ]; exact Nat.pow_le_pow_right (by decide) (by omega)
  have p2 : a * 2 ^ r ≤ 2 ^ r := by have := Nat.mul_le_mul_right (2 ^ r) ha; omega
  have e : (a : Int) * 2 ^ r = ((a * 2 ^ r : Nat) : Int) := by rw [Int.natCast_mul, Int.natCast_pow]; rfl
  rw [show min (r : Int).toNat IntKind.u64.bits = r by show min (r : Int).toNat 64 = r; omega, e, IntKind.wrap_u64]
  omega
theorem u_div {a : Nat} (h : a < 2 ^ 64) (r : Nat) : a / 2 ^ r < 2 ^ 64 := Nat.lt_of_le_of_lt (Nat.div_le_self ..) h
abbrev wn (a0 a1 a2 a3 a4 : Nat) : List Value := wd a0 a1 a2 a3 a4
set_option maxRecDepth 20000 in
theorem c_bit0 (a0 a1 a2 a3 a4 r : Nat) (h : a0 < 2 ^ 64) (hr : r < 64) (w : World) : Calls Tryz.prog 178 #[.agg (wn a0 a1 a2 a3 a4).toArray, .int .i64 ((64 * 0 + r : Nat) : Int)] w fun e W => e = .returned (.int .u64 ((a0 / 2 ^ r % 2 : Nat) : Int)) ∧ Mb w W := by
  refine fn_pure [.agg (wn a0 a1 a2 a3 a4).toArray, .int .i64 ((64 * 0 + r : Nat) : Int)] Tryz.func178 rfl rfl rfl (run_ok (st mo ?_))
  refine ⟨by decide, 0, by rw [td64 hr]; exact wz 0, st mo ⟨0, rfl, by decide, st mo ⟨.int .u64 a0, rfl, st mo ⟨by decide, r, tm64 hr, st mo ⟨by omega, _, fdN a0 r hr, st mo ⟨_, andN (u_div h r), st mo rfl⟩⟩⟩⟩⟩⟩
set_option maxRecDepth 20000 in
theorem c_bit1 (a0 a1 a2 a3 a4 r : Nat) (h : a1 < 2 ^ 64) (hr : r < 64) (w : World) : Calls Tryz.prog 178 #[.agg (wn a0 a1 a2 a3 a4).toArray, .int .i64 ((64 * 1 + r : Nat) : Int)] w fun e W => e = .returned (.int .u64 ((a1 / 2 ^ r % 2 : Nat) : Int)) ∧ Mb w W := by
  refine fn_pure [.agg (wn a0 a1 a2 a3 a4).toArray, .int .i64 ((64 * 1 + r : Nat) : Int)] Tryz.func178 rfl rfl rfl (run_ok (st mo ?_))
  refine ⟨by decide, 1, by rw [td64 hr]; exact wz 1, st mo ⟨1, rfl, by decide, st mo ⟨.int .u64 a1, rfl, st mo ⟨by decide, r, tm64 hr, st mo ⟨by omega, _, fdN a1 r hr, st mo ⟨_, andN (u_div h r), st mo rfl⟩⟩⟩⟩⟩⟩
set_option maxRecDepth 20000 in
theorem c_bit2 (a0 a1 a2 a3 a4 r : Nat) (h : a2 < 2 ^ 64) (hr : r < 64) (w : World) : Calls Tryz.prog 178 #[.agg (wn a0 a1 a2 a3 a4).toArray, .int .i64 ((64 * 2 + r : Nat) : Int)] w fun e W => e = .returned (.int .u64 ((a2 / 2 ^ r % 2 : Nat) : Int)) ∧ Mb w W := by
  refine fn_pure [.agg (wn a0 a1 a2 a3 a4).toArray, .int .i64 ((64 * 2 + r : Nat) : Int)] Tryz.func178 rfl rfl rfl (run_ok (st mo ?_))
  refine ⟨by decide, 2, by rw [td64 hr]; exact wz 2, st mo ⟨2, rfl, by decide, st mo ⟨.int .u64 a2, rfl, st mo ⟨by decide, r, tm64 hr, st mo ⟨by omega, _, fdN a2 r hr, st mo ⟨_, andN (u_div h r), st mo rfl⟩⟩⟩⟩⟩⟩
set_option maxRecDepth 20000 in
theorem c_bit3 (a0 a1 a2 a3 a4 r : Nat) (h : a3 < 2 ^ 64) (hr : r < 64) (w : World) : Calls Tryz.prog 178 #[.agg (wn a0 a1 a2 a3 a4).toArray, .int .i64 ((64 * 3 + r : Nat) : Int)] w fun e W => e = .returned (.int .u64 ((a3 / 2 ^ r % 2 : Nat) : Int)) ∧ Mb w W := by
  refine fn_pure [.agg (wn a0 a1 a2 a3 a4).toArray, .int .i64 ((64 * 3 + r : Nat) : Int)] Tryz.func178 rfl rfl rfl (run_ok (st mo ?_))
  refine ⟨by decide, 3, by rw [td64 hr]; exact wz 3, st mo ⟨3, rfl, by decide, st mo ⟨.int .u64 a3, rfl, st mo ⟨by decide, r, tm64 hr, st mo ⟨by omega, _, fdN a3 r hr, st mo ⟨_, andN (u_div h r), st mo rfl⟩⟩⟩⟩⟩⟩
set_option maxRecDepth 20000 in
theorem c_bit4 (a0 a1 a2 a3 a4 r : Nat) (h : a4 < 2 ^ 64) (hr : r < 64) (w : World) : Calls Tryz.prog 178 #[.agg (wn a0 a1 a2 a3 a4).toArray, .int .i64 ((64 * 4 + r : Nat) : Int)] w fun e W => e = .returned (.int .u64 ((a4 / 2 ^ r % 2 : Nat) : Int)) ∧ Mb w W := by
  refine fn_pure [.agg (wn a0 a1 a2 a3 a4).toArray, .int .i64 ((64 * 4 + r : Nat) : Int)] Tryz.func178 rfl rfl rfl (run_ok (st mo ?_))
  refine ⟨by decide, 4, by rw [td64 hr]; exact wz 4, st mo ⟨4, rfl, by decide, st mo ⟨.int .u64 a4, rfl, st mo ⟨by decide, r, tm64 hr, st mo ⟨by omega, _, fdN a4 r hr, st mo ⟨_, andN (u_div h r), st mo rfl⟩⟩⟩⟩⟩⟩
end Go.Proofs.YtfmfeipeeedfpaaGreat
namespace Go.Proofs.YtfmfeipeeedfpaaGreat
open S Go.RowKit
def k1 (a0 b0 : Nat) : Nat := caN a0 b0 0 64
def k2 (a0 a1 b0 b1 : Nat) : Nat := caN a1 b1 (k1 a0 b0) 64
def k3 (a0 a1 a2 b0 b1 b2 : Nat) : Nat := caN a2 b2 (k2 a0 a1 b0 b1) 64
def k4 (a0 a1 a2 a3 b0 b1 b2 b3 : Nat) : Nat := caN a3 b3 (k3 a0 a1 a2 b0 b1 b2) 64
theorem ad_N {A B c : Nat} (hA : A < 2 ^ 64) (hB : B < 2 ^ 64) : ((ouN A B c 64 : Nat) : Int) = ad A B c ∧ ((caN A B c 64 : Nat) : Int) = cy A B c := by
  unfold ouN caN pN ad cy M64
  rw [Nat.mod_eq_of_lt hA, Nat.mod_eq_of_lt hB]
  omega
/-- The limb so far. -/
def oN (A B c j i : Nat) : Nat := ouN A B c (min (i - 64 * j) 64)
theorem oN_at {A B c j i r : Nat} (h : i = 64 * j + r) (hr : r ≤ 64) : oN A B c j i = ouN A B c r := by unfold oN; rw [show min (i - 64 * j) 64 = r by omega]
theorem oN_end {A B c j i : Nat} (h : 64 * j + 64 ≤ i) : oN A B c j i = ouN A B c 64 := by unfold oN; rw [show min (i - 64 * j) 64 = 64 by omega]
theorem oN_off {A B c j i q r : Nat} (h : i = 64 * q + r) (hr : r < 64) (n : ¬ j = q) : oN A B c j (i + 1) = oN A B c j i := by unfold oN; rw [show min (i + 1 - 64 * j) 64 = min (i - 64 * j) 64 by omega]
theorem oN_0 (A B c j : Nat) : oN A B c j 0 = 0 := by unfold oN ouN; rw [show min (0 - 64 * j) 64 = 0 by omega]; omega
def gN (l : List Nat) (q : Nat) : Nat := l.getD q 0
def carN (A B K : List Nat) (i : Nat) : Nat := caN (gN A (i / 64)) (gN B (i / 64)) (gN K (i / 64)) (i % 64)
theorem carN_at {A B K : List Nat} {i q r : Nat} (h : i = 64 * q + r) (hr : r < 64) : carN A B K i = caN (gN A q) (gN B q) (gN K q) r := by unfold carN; rw [show i / 64 = q by omega, show i % 64 = r by omega]
theorem carN_next {A B K : List Nat} {i q r : Nat} (h : i = 64 * q + r) (hr : r < 64) (hk : gN K (q + 1) = caN (gN A q) (gN B q) (gN K q) 64) : carN A B K (i + 1) = caN (gN A q) (gN B q) (gN K q) (r + 1) := by
  by_cases e : r = 63
  · subst e
    rw [carN_at (q := q + 1) (r := 0) (by omega) (by omega), ← hk]
    unfold caN pN; simp; omega
  · rw [carN_at (q := q) (r := r + 1) (by omega) (by omega)]
theorem addN {x y : Nat} (h : x + y < 2 ^ 64) : IntKind.u64.wrap ((x : Int) + (y : Int)) = ((x + y : Nat) : Int) := by rw [IntKind.wrap_u64]; omega
theorem m2N {x : Nat} : (x : Int).tmod 2 = ((x % 2 : Nat) : Int) := by rw [Int.tmod_eq_emod_of_nonneg (by omega)]; omega
theorem d2N {x : Nat} (h : x < 2 ^ 64) : IntKind.u64.wrap ((x : Int).tdiv 2) = ((x / 2 : Nat) : Int) := by rw [Int.tdiv_eq_ediv_of_nonneg (by omega), IntKind.wrap_u64]; omega
set_option maxRecDepth 20000 in
theorem c_addN (a0 a1 a2 a3 a4 b0 b1 b2 b3 b4 : Nat) (ha0 : a0 < 2 ^ 64) (ha1 : a1 < 2 ^ 64) (ha2 : a2 < 2 ^ 64) (ha3 : a3 < 2 ^ 64) (ha4 : a4 < 2 ^ 64) (hb0 : b0 < 2 ^ 64) (hb1 : b1 < 2 ^ 64) (hb2 : b2 < 2 ^ 64) (hb3 : b3 < 2 ^ 64) (hb4 : b4 < 2 ^ 64) (w : World) : Calls Tryz.prog 145 #[.agg (wn a0 a1 a2 a3 a4).toArray, .agg (wn b0 b1 b2 b3 b4).toArray] w fun r W => r = .returned (.agg (wd ((oN a0 b0 0 0 320 : Nat) : Int) ((oN a1 b1 (k1 a0 b0) 1 320 : Nat) : Int) ((oN a2 b2 (k2 a0 a1 b0 b1) 2 320 : Nat) : Int) ((oN a3 b3 (k3 a0 a1 a2 b0 b1 b2) 3 320 : Nat) : Int) ((oN a4 b4 (k4 a0 a1 a2 a3 b0 b1 b2 b3) 4 320 : Nat) : Int)).toArray) ∧ Mb w W := by
  have c0 : (0 : Nat) ≤ 1 := by decide
  have c1 : (k1 a0 b0) ≤ 1 := caN_le 64 c0
  have c2 : (k2 a0 a1 b0 b1) ≤ 1 := caN_le 64 c1
  have c3 : (k3 a0 a1 a2 b0 b1 b2) ≤ 1 := caN_le 64 c2
  have c4 : (k4 a0 a1 a2 a3 b0 b1 b2 b3) ≤ 1 := caN_le 64 c3
  refine fn_pure [.agg (wn a0 a1 a2 a3 a4).toArray, .agg (wn b0 b1 b2 b3 b4).toArray] Tryz.func145 rfl rfl rfl (run_ok (st mo ?_))
  refine S.w_loop (fun i : Nat => ⟨⟨Tryz.f145.ntmps, [(2, .pointer (some ⟨0, 0, none⟩)), (3, .pointer (some ⟨1, 0, none⟩)), (4, .pointer (some ⟨2, 0, none⟩)), (5, .pointer (some ⟨3, 0, none⟩)), (6, .int .u64 ((carN [a0, a1, a2, a3, a4] [b0, b1, b2, b3, b4] [0, (k1 a0 b0), (k2 a0 a1 b0 b1), (k3 a0 a1 a2 b0 b1 b2), (k4 a0 a1 a2 a3 b0 b1 b2 b3), caN a4 b4 (k4 a0 a1 a2 a3 b0 b1 b2 b3) 64] i : Nat) : Int)), (7, .int .i64 (i : Int))]⟩, [(0, some ((wn a0 a1 a2 a3 a4).map rel1)), (1, some ((wn b0 b1 b2 b3 b4).map rel1)), (2, some ((wd 0 0 0 0 0).map rel1)), (3, some ((wd ((oN a0 b0 0 0 i : Nat) : Int) ((oN a1 b1 (k1 a0 b0) 1 i : Nat) : Int) ((oN a2 b2 (k2 a0 a1 b0 b1) 2 i : Nat) : Int) ((oN a3 b3 (k3 a0 a1 a2 b0 b1 b2) 3 i : Nat) : Int) ((oN a4 b4 (k4 a0 a1 a2 a3 b0 b1 b2 b3) 4 i : Nat) : Int)).map rel1))], 4, w⟩) (fun i => i ≤ 320) (fun i => 320 - i) 0 (by omega) [0, 1, 2, 3] ⟨rfl, ⟨fp, fp, fp, fp, fe (by show (0 : Int) = ((carN _ _ _ 0 : Nat) : Int); rw [carN_at (q := 0) (r := 0) (by omega) (by omega)]; unfold caN pN; simp [gN, Nat.mod_one]), fv, trivial⟩, ⟨flr rfl, flr rfl, flr rfl, by rw [oN_0, oN_0, oN_0, oN_0, oN_0]; exact flr rfl, trivial⟩, xf, rfl, rfl⟩ ?_
  intro i hi
  refine st mo ⟨fun hlt => st mo ?_, fun hge => st mo (st mo ?_)⟩
  · obtain ⟨q, r, hq, hr⟩ : ∃ q r, i = 64 * q + r ∧ r < 64 := ⟨i / 64, i % 64, by omega, by omega⟩
    have q5 : q < 5 := by omega
    rcases q with _ | _ | _ | _ | _ | q
    · obtain rfl : i = 64 * 0 + r := hq
      obtain ⟨x, hx⟩ : ∃ x, a0 / 2 ^ r % 2 = x := ⟨_, rfl⟩
      obtain ⟨y, hy⟩ : ∃ y, b0 / 2 ^ r % 2 = y := ⟨_, rfl⟩
      obtain ⟨c, hc⟩ : ∃ c, caN a0 b0 0 r = c := ⟨_, rfl⟩
      have bx : x < 2 := by rw [← hx]; exact Nat.mod_lt _ (by decide)
      have bY : y < 2 := by rw [← hy]; exact Nat.mod_lt _ (by decide)
      have bc : c ≤ 1 := by rw [← hc]; exact caN_le r c0
      have ec : carN [a0, a1, a2, a3, a4] [b0, b1, b2, b3, b4] [0, (k1 a0 b0), (k2 a0 a1 b0 b1), (k3 a0 a1 a2 b0 b1 b2), (k4 a0 a1 a2 a3 b0 b1 b2 b3), caN a4 b4 (k4 a0 a1 a2 a3 b0 b1 b2 b3) 64] (64 * 0 + r) = c := by rw [carN_at (q := 0) (r := r) rfl hr, ← hc]; rfl
      have eo : oN a0 b0 0 0 (64 * 0 + r) = ouN a0 b0 0 r := oN_at rfl (by omega)
      have eo' : oN a0 b0 0 0 (64 * 0 + r + 1) = ouN a0 b0 0 r + (x + y + c) % 2 * 2 ^ r := by rw [oN_at (r := r + 1) (by omega) (by omega), ouN_succ, hx, hy, hc]
      have ec' : carN [a0, a1, a2, a3, a4] [b0, b1, b2, b3, b4] [0, (k1 a0 b0), (k2 a0 a1 b0 b1), (k3 a0 a1 a2 b0 b1 b2), (k4 a0 a1 a2 a3 b0 b1 b2 b3), caN a4 b4 (k4 a0 a1 a2 a3 b0 b1 b2 b3) 64] (64 * 0 + r + 1) = (x + y + c) / 2 := by
        rw [carN_next (q := 0) (r := r) rfl hr rfl, ← hx, ← hy, ← hc]; exact caN_succ _ _ _ _
      refine ⟨_, fun nn => r_call (t := .int .u64 (x : Int)) rfl rfl Tryz.func178 (fun W M E => hx ▸ c_bit0 a0 a1 a2 a3 a4 r ha0 hr W), st mo ?_⟩
      refine ⟨_, fun nn => r_call (t := .int .u64 (y : Int)) rfl rfl Tryz.func178 (fun W M E => hy ▸ c_bit0 b0 b1 b2 b3 b4 r hb0 hr W), st mo ?_⟩
      refine ⟨_, addN (by omega), st mo ⟨((x + y + c : Nat) : Int), by rw [ec]; exact addN (by omega), st mo ⟨dk, st mo ?_⟩⟩⟩
      refine ⟨by decide, 0, by rw [td64 hr]; exact wz 0, st mo ⟨0, rfl, by decide, st mo ⟨.int .u64 ((oN a0 b0 0 0 (64 * 0 + r) : Nat) : Int), rfl, st mo ?_⟩⟩⟩
      refine ⟨by decide, (((x + y + c) % 2 : Nat) : Int), m2N, st mo ⟨by decide, r, tm64 hr, st mo ⟨by omega, _, slN hr (by omega), st mo ⟨((ouN a0 b0 0 r + (x + y + c) % 2 * 2 ^ r : Nat) : Int), by rw [eo]; exact orN (ouN_lt _ _ _ _) (by omega) hr, st mo ?_⟩⟩⟩⟩
      refine ⟨0, rfl, by decide, st mo ⟨Nat.le_of_ble_eq_true rfl, (wd ((ouN a0 b0 0 r + (x + y + c) % 2 * 2 ^ r : Nat) : Int) ((oN a1 b1 (k1 a0 b0) 1 (64 * 0 + r) : Nat) : Int) ((oN a2 b2 (k2 a0 a1 b0 b1) 2 (64 * 0 + r) : Nat) : Int) ((oN a3 b3 (k3 a0 a1 a2 b0 b1 b2) 3 (64 * 0 + r) : Nat) : Int) ((oN a4 b4 (k4 a0 a1 a2 a3 b0 b1 b2 b3) 4 (64 * 0 + r) : Nat) : Int)).map rel1, rfl, st mo ⟨dk, st mo ?_⟩⟩⟩
      refine ⟨by decide, (((x + y + c) / 2 : Nat) : Int), d2N (by omega), st mo ⟨((64 * 0 + r + 1 : Nat) : Int), wz _ (by omega), st mo ?_⟩⟩
      refine ⟨64 * 0 + r + 1, by dsimp; omega, by dsimp; omega, [0, 1, 2, 3], rfl, ⟨fp, fp, fp, fp, fe (by rw [ec']), fv, trivial⟩, ⟨flr rfl, flr rfl, flr rfl, by rw [oN_off (j := 1) (q := 0) (r := r) rfl hr (by decide), oN_off (j := 2) (q := 0) (r := r) rfl hr (by decide), oN_off (j := 3) (q := 0) (r := r) rfl hr (by decide), oN_off (j := 4) (q := 0) (r := r) rfl hr (by decide), eo']; exact flr rfl, trivial⟩, xf, rfl, rfl⟩
    · obtain rfl : i = 64 * 1 + r := hq
      obtain ⟨x, hx⟩ : ∃ x, a1 / 2 ^ r % 2 = x := ⟨_, rfl⟩
      obtain ⟨y, hy⟩ : ∃ y, b1 / 2 ^ r % 2 = y := ⟨_, rfl⟩
      obtain ⟨c, hc⟩ : ∃ c, caN a1 b1 (k1 a0 b0) r = c := ⟨_, rfl⟩
      have bx : x < 2 := by rw [← hx]; exact Nat.mod_lt _ (by decide)
      have bY : y < 2 := by rw [← hy]; exact Nat.mod_lt _ (by decide)
      have bc : c ≤ 1 := by rw [← hc]; exact caN_le r c1
      have ec : carN [a0, a1, a2, a3, a4] [b0, b1, b2, b3, b4] [0, (k1 a0 b0), (k2 a0 a1 b0 b1), (k3 a0 a1 a2 b0 b1 b2), (k4 a0 a1 a2 a3 b0 b1 b2 b3), caN a4 b4 (k4 a0 a1 a2 a3 b0 b1 b2 b3) 64] (64 * 1 + r) = c := by rw [carN_at (q := 1) (r := r) rfl hr, ← hc]; rfl
      have eo : oN a1 b1 (k1 a0 b0) 1 (64 * 1 + r) = ouN a1 b1 (k1 a0 b0) r := oN_at rfl (by omega)
      have eo' : oN a1 b1 (k1 a0 b0) 1 (64 * 1 + r + 1) = ouN a1 b1 (k1 a0 b0) r + (x + y + c) % 2 * 2 ^ r := by rw [oN_at (r := r + 1) (by omega) (by omega), ouN_succ, hx, hy, hc]
      have ec' : carN [a0, a1, a2, a3, a4] [b0, b1, b2, b3, b4] [0, (k1 a0 b0), (k2 a0 a1 b0 b1), (k3 a0 a1 a2 b0 b1 b2), (k4 a0 a1 a2 a3 b0 b1 b2 b3), caN a4 b4 (k4 a0 a1 a2 a3 b0 b1 b2 b3) 64] (64 * 1 + r + 1) = (x + y + c) / 2 := by
        rw [carN_next (q := 1) (r := r) rfl hr rfl, ← hx, ← hy, ← hc]; exact caN_succ _ _ _ _
      refine ⟨_, fun nn => r_call (t := .int .u64 (x : Int)) rfl rfl Tryz.func178 (fun W M E => hx ▸ c_bit1 a0 a1 a2 a3 a4 r ha1 hr W), st mo ?_⟩
      refine ⟨_, fun nn => r_call (t := .int .u64 (y : Int)) rfl rfl Tryz.func178 (fun W M E => hy ▸ c_bit1 b0 b1 b2 b3 b4 r hb1 hr W), st mo ?_⟩
      refine ⟨_, addN (by omega), st mo ⟨((x + y + c : Nat) : Int), by rw [ec]; exact addN (by omega), st mo ⟨dk, st mo ?_⟩⟩⟩
      refine ⟨by decide, 1, by rw [td64 hr]; exact wz 1, st mo ⟨1, rfl, by decide, st mo ⟨.int .u64 ((oN a1 b1 (k1 a0 b0) 1 (64 * 1 + r) : Nat) : Int), rfl, st mo ?_⟩⟩⟩
      refine ⟨by decide, (((x + y + c) % 2 : Nat) : Int), m2N, st mo ⟨by decide, r, tm64 hr, st mo ⟨by omega, _, slN hr (by omega), st mo ⟨((ouN a1 b1 (k1 a0 b0) r + (x + y + c) % 2 * 2 ^ r : Nat) : Int), by rw [eo]; exact orN (ouN_lt _ _ _ _) (by omega) hr, st mo ?_⟩⟩⟩⟩
      refine ⟨1, rfl, by decide, st mo ⟨Nat.le_of_ble_eq_true rfl, (wd ((oN a0 b0 0 0 (64 * 1 + r) : Nat) : Int) ((ouN a1 b1 (k1 a0 b0) r + (x + y + c) % 2 * 2 ^ r : Nat) : Int) ((oN a2 b2 (k2 a0 a1 b0 b1) 2 (64 * 1 + r) : Nat) : Int) ((oN a3 b3 (k3 a0 a1 a2 b0 b1 b2) 3 (64 * 1 + r) : Nat) : Int) ((oN a4 b4 (k4 a0 a1 a2 a3 b0 b1 b2 b3) 4 (64 * 1 + r) : Nat) : Int)).map rel1, rfl, st mo ⟨dk, st mo ?_⟩⟩⟩
      refine ⟨by decide, (((x + y + c) / 2 : Nat) : Int), d2N (by omega), st mo ⟨((64 * 1 + r + 1 : Nat) : Int), wz _ (by omega), st mo ?_⟩⟩
      refine ⟨64 * 1 + r + 1, by dsimp; omega, by dsimp; omega, [0, 1, 2, 3], rfl, ⟨fp, fp, fp, fp, fe (by rw [ec']), fv, trivial⟩, ⟨flr rfl, flr rfl, flr rfl, by rw [oN_off (j := 0) (q := 1) (r := r) rfl hr (by decide), oN_off (j := 2) (q := 1) (r := r) rfl hr (by decide), oN_off (j := 3) (q := 1) (r := r) rfl hr (by decide), oN_off (j := 4) (q := 1) (r := r) rfl hr (by decide), eo']; exact flr rfl, trivial⟩, xf, rfl, rfl⟩
    · obtain rfl : i = 64 * 2 + r := hq
      obtain ⟨x, hx⟩ : ∃ x, a2 / 2 ^ r % 2 = x := ⟨_, rfl⟩
      obtain ⟨y, hy⟩ : ∃ y, b2 / 2 ^ r % 2 = y := ⟨_, rfl⟩
      obtain ⟨c, hc⟩ : ∃ c, caN a2 b2 (k2 a0 a1 b0 b1) r = c := ⟨_, rfl⟩
      have bx : x < 2 := by rw [← hx]; exact Nat.mod_lt _ (by decide)
      have bY : y < 2 := by rw [← hy]; exact Nat.mod_lt _ (by decide)
      have bc : c ≤ 1 := by rw [← hc]; exact caN_le r c2
      have ec : carN [a0, a1, a2, a3, a4] [b0, b1, b2, b3, b4] [0, (k1 a0 b0), (k2 a0 a1 b0 b1), (k3 a0 a1 a2 b0 b1 b2), (k4 a0 a1 a2 a3 b0 b1 b2 b3), caN a4 b4 (k4 a0 a1 a2 a3 b0 b1 b2 b3) 64] (64 * 2 + r) = c := by rw [carN_at (q := 2) (r := r) rfl hr, ← hc]; rfl
      have eo : oN a2 b2 (k2 a0 a1 b0 b1) 2 (64 * 2 + r) = ouN a2 b2 (k2 a0 a1 b0 b1) r := oN_at rfl (by omega)
      have eo' : oN a2 b2 (k2 a0 a1 b0 b1) 2 (64 * 2 + r + 1) = ouN a2 b2 (k2 a0 a1 b0 b1) r + (x + y + c) % 2 * 2 ^ r := by rw [oN_at (r := r + 1) (by omega) (by omega), ouN_succ, hx, hy, hc]
      have ec' : carN [a0, a1, a2, a3, a4] [b0, b1, b2, b3, b4] [0, (k1 a0 b0), (k2 a0 a1 b0 b1), (k3 a0 a1 a2 b0 b1 b2), (k4 a0 a1 a2 a3 b0 b1 b2 b3), caN a4 b4 (k4 a0 a1 a2 a3 b0 b1 b2 b3) 64] (64 * 2 + r + 1) = (x + y + c) / 2 := by
        rw [carN_next (q := 2) (r := r) rfl hr rfl, ← hx, ← hy, ← hc]; exact caN_succ _ _ _ _
      refine ⟨_, fun nn => r_call (t := .int .u64 (x : Int)) rfl rfl Tryz.func178 (fun W M E => hx ▸ c_bit2 a0 a1 a2 a3 a4 r ha2 hr W), st mo ?_⟩
      refine ⟨_, fun nn => r_call (t := .int .u64 (y : Int)) rfl rfl Tryz.func178 (fun W M E => hy ▸ c_bit2 b0 b1 b2 b3 b4 r hb2 hr W), st mo ?_⟩
      refine ⟨_, addN (by omega), st mo ⟨((x + y + c : Nat) : Int), by rw [ec]; exact addN (by omega), st mo ⟨dk, st mo ?_⟩⟩⟩
      refine ⟨by decide, 2, by rw [td64 hr]; exact wz 2, st mo ⟨2, rfl, by decide, st mo ⟨.int .u64 ((oN a2 b2 (k2 a0 a1 b0 b1) 2 (64 * 2 + r) : Nat) : Int), rfl, st mo ?_⟩⟩⟩
      refine ⟨by decide, (((x + y + c) % 2 : Nat) : Int), m2N, st mo ⟨by decide, r, tm64 hr, st mo ⟨by omega, _, slN hr (by omega), st mo ⟨((ouN a2 b2 (k2 a0 a1 b0 b1) r + (x + y + c) % 2 * 2 ^ r : Nat) : Int), by rw [eo]; exact orN (ouN_lt _ _ _ _) (by omega) hr, st mo ?_⟩⟩⟩⟩
      refine ⟨2, rfl, by decide, st mo ⟨Nat.le_of_ble_eq_true rfl, (wd ((oN a0 b0 0 0 (64 * 2 + r) : Nat) : Int) ((oN a1 b1 (k1 a0 b0) 1 (64 * 2 + r) : Nat) : Int) ((ouN a2 b2 (k2 a0 a1 b0 b1) r + (x + y + c) % 2 * 2 ^ r : Nat) : Int) ((oN a3 b3 (k3 a0 a1 a2 b0 b1 b2) 3 (64 * 2 + r) : Nat) : Int) ((oN a4 b4 (k4 a0 a1 a2 a3 b0 b1 b2 b3) 4 (64 * 2 + r) : Nat) : Int)).map rel1, rfl, st mo ⟨dk, st mo ?_⟩⟩⟩
      refine ⟨by decide, (((x + y + c) / 2 : Nat) : Int), d2N (by omega), st mo ⟨((64 * 2 + r + 1 : Nat) : Int), wz _ (by omega), st mo ?_⟩⟩
      refine ⟨64 * 2 + r + 1, by dsimp; omega, by dsimp; omega, [0, 1, 2, 3], rfl, ⟨fp, fp, fp, fp, fe (by rw [ec']), fv, trivial⟩, ⟨flr rfl, flr rfl, flr rfl, by rw [oN_off (j := 0) (q := 2) (r := r) rfl hr (by decide), oN_off (j := 1) (q := 2) (r := r) rfl hr (by decide), oN_off (j := 3) (q := 2) (r := r) rfl hr (by decide), oN_off (j := 4) (q := 2) (r := r) rfl hr (by decide), eo']; exact flr rfl, trivial⟩, xf, rfl, rfl⟩
    · obtain rfl : i = 64 * 3 + r := hq
      obtain ⟨x, hx⟩ : ∃ x, a3 / 2 ^ r % 2 = x := ⟨_, rfl⟩
      obtain ⟨y, hy⟩ : ∃ y, b3 / 2 ^ r % 2 = y := ⟨_, rfl⟩
      obtain ⟨c, hc⟩ : ∃ c, caN a3 b3 (k3 a0 a1 a2 b0 b1 b2) r = c := ⟨_, rfl⟩
      have bx : x < 2 := by rw [← hx]; exact Nat.mod_lt _ (by decide)
      have bY : y < 2 := by rw [← hy]; exact Nat.mod_lt _ (by decide)
      have bc : c ≤ 1 := by rw [← hc]; exact caN_le r c3
      have ec : carN [a0, a1, a2, a3, a4] [b0, b1, b2, b3, b4] [0, (k1 a0 b0), (k2 a0 a1 b0 b1), (k3 a0 a1 a2 b0 b1 b2), (k4 a0 a1 a2 a3 b0 b1 b2 b3), caN a4 b4 (k4 a0 a1 a2 a3 b0 b1 b2 b3) 64] (64 * 3 + r) = c := by rw [carN_at (q := 3) (r := r) rfl hr, ← hc]; rfl
      have eo : oN a3 b3 (k3 a0 a1 a2 b0 b1 b2) 3 (64 * 3 + r) = ouN a3 b3 (k3 a0 a1 a2 b0 b1 b2) r := oN_at rfl (by omega)
      have eo' : oN a3 b3 (k3 a0 a1 a2 b0 b1 b2) 3 (64 * 3 + r + 1) = ouN a3 b3 (k3 a0 a1 a2 b0 b1 b2) r + (x + y + c) % 2 * 2 ^ r := by rw [oN_at (r := r + 1) (by omega) (by omega), ouN_succ, hx, hy, hc]
      have ec' : carN [a0, a1, a2, a3, a4] [b0, b1, b2, b3, b4] [0, (k1 a0 b0), (k2 a0 a1 b0 b1), (k3 a0 a1 a2 b0 b1 b2), (k4 a0 a1 a2 a3 b0 b1 b2 b3), caN a4 b4 (k4 a0 a1 a2 a3 b0 b1 b2 b3) 64] (64 * 3 + r + 1) = (x + y + c) / 2 := by
        rw [carN_next (q := 3) (r := r) rfl hr rfl, ← hx, ← hy, ← hc]; exact caN_succ _ _ _ _
      refine ⟨_, fun nn => r_call (t := .int .u64 (x : Int)) rfl rfl Tryz.func178 (fun W M E => hx ▸ c_bit3 a0 a1 a2 a3 a4 r ha3 hr W), st mo ?_⟩
      refine ⟨_, fun nn => r_call (t := .int .u64 (y : Int)) rfl rfl Tryz.func178 (fun W M E => hy ▸ c_bit3 b0 b1 b2 b3 b4 r hb3 hr W), st mo ?_⟩
      refine ⟨_, addN (by omega), st mo ⟨((x + y + c : Nat) : Int), by rw [ec]; exact addN (by omega), st mo ⟨dk, st mo ?_⟩⟩⟩
      refine ⟨by decide, 3, by rw [td64 hr]; exact wz 3, st mo ⟨3, rfl, by decide, st mo ⟨.int .u64 ((oN a3 b3 (k3 a0 a1 a2 b0 b1 b2) 3 (64 * 3 + r) : Nat) : Int), rfl, st mo ?_⟩⟩⟩
      refine ⟨by decide, (((x + y + c) % 2 : Nat) : Int), m2N, st mo ⟨by decide, r, tm64 hr, st mo ⟨by omega, _, slN hr (by omega), st mo ⟨((ouN a3 b3 (k3 a0 a1 a2 b0 b1 b2) r + (x + y + c) % 2 * 2 ^ r : Nat) : Int), by rw [eo]; exact orN (ouN_lt _ _ _ _) (by omega) hr, st mo ?_⟩⟩⟩⟩
      refine ⟨3, rfl, by decide, st mo ⟨Nat.le_of_ble_eq_true rfl, (wd ((oN a0 b0 0 0 (64 * 3 + r) : Nat) : Int) ((oN a1 b1 (k1 a0 b0) 1 (64 * 3 + r) : Nat) : Int) ((oN a2 b2 (k2 a0 a1 b0 b1) 2 (64 * 3 + r) : Nat) : Int) ((ouN a3 b3 (k3 a0 a1 a2 b0 b1 b2) r + (x + y + c) % 2 * 2 ^ r : Nat) : Int) ((oN a4 b4 (k4 a0 a1 a2 a3 b0 b1 b2 b3) 4 (64 * 3 + r) : Nat) : Int)).map rel1, rfl, st mo ⟨dk, st mo ?_⟩⟩⟩
      refine ⟨by decide, (((x + y + c) / 2 : Nat) : Int), d2N (by omega), st mo ⟨((64 * 3 + r + 1 : Nat) : Int), wz _ (by omega), st mo ?_⟩⟩
      refine ⟨64 * 3 + r + 1, by dsimp; omega, by dsimp; omega, [0, 1, 2, 3], rfl, ⟨fp, fp, fp, fp, fe (by rw [ec']), fv, trivial⟩, ⟨flr rfl, flr rfl, flr rfl, by rw [oN_off (j := 0) (q := 3) (r := r) rfl hr (by decide), oN_off (j := 1) (q := 3) (r := r) rfl hr (by decide), oN_off (j := 2) (q := 3) (r := r) rfl hr (by decide), oN_off (j := 4) (q := 3) (r := r) rfl hr (by decide), eo']; exact flr rfl, trivial⟩, xf, rfl, rfl⟩
    · obtain rfl : i = 64 * 4 + r := hq
      obtain ⟨x, hx⟩ : ∃ x, a4 / 2 ^ r % 2 = x := ⟨_, rfl⟩
      obtain ⟨y, hy⟩ : ∃ y, b4 / 2 ^ r % 2 = y := ⟨_, rfl⟩
      obtain ⟨c, hc⟩ : ∃ c, caN a4 b4 (k4 a0 a1 a2 a3 b0 b1 b2 b3) r = c := ⟨_, rfl⟩
      have bx : x < 2 := by rw [← hx]; exact Nat.mod_lt _ (by decide)
      have bY : y < 2 := by rw [← hy]; exact Nat.mod_lt _ (by decide)
      have bc : c ≤ 1 := by rw [← hc]; exact caN_le r c4
      have ec : carN [a0, a1, a2, a3, a4] [b0, b1, b2, b3, b4] [0, (k1 a0 b0), (k2 a0 a1 b0 b1), (k3 a0 a1 a2 b0 b1 b2), (k4 a0 a1 a2 a3 b0 b1 b2 b3), caN a4 b4 (k4 a0 a1 a2 a3 b0 b1 b2 b3) 64] (64 * 4 + r) = c := by rw [carN_at (q := 4) (r := r) rfl hr, ← hc]; rfl
      have eo : oN a4 b4 (k4 a0 a1 a2 a3 b0 b1 b2 b3) 4 (64 * 4 + r) = ouN a4 b4 (k4 a0 a1 a2 a3 b0 b1 b2 b3) r := oN_at rfl (by omega)
      have eo' : oN a4 b4 (k4 a0 a1 a2 a3 b0 b1 b2 b3) 4 (64 * 4 + r + 1) = ouN a4 b4 (k4 a0 a1 a2 a3 b0 b1 b2 b3) r + (x + y + c) % 2 * 2 ^ r := by rw [oN_at (r := r + 1) (by omega) (by omega), ouN_succ, hx, hy, hc]
      have ec' : carN [a0, a1, a2, a3, a4] [b0, b1, b2, b3, b4] [0, (k1 a0 b0), (k2 a0 a1 b0 b1), (k3 a0 a1 a2 b0 b1 b2), (k4 a0 a1 a2 a3 b0 b1 b2 b3), caN a4 b4 (k4 a0 a1 a2 a3 b0 b1 b2 b3) 64] (64 * 4 + r + 1) = (x + y + c) / 2 := by
        rw [carN_next (q := 4) (r := r) rfl hr rfl, ← hx, ← hy, ← hc]; exact caN_succ _ _ _ _
      refine ⟨_, fun nn => r_call (t := .int .u64 (x : Int)) rfl rfl Tryz.func178 (fun W M E => hx ▸ c_bit4 a0 a1 a2 a3 a4 r ha4 hr W), st mo ?_⟩
      refine ⟨_, fun nn => r_call (t := .int .u64 (y : Int)) rfl rfl Tryz.func178 (fun W M E => hy ▸ c_bit4 b0 b1 b2 b3 b4 r hb4 hr W), st mo ?_⟩
      refine ⟨_, addN (by omega), st mo ⟨((x + y + c : Nat) : Int), by rw [ec]; exact addN (by omega), st mo ⟨dk, st mo ?_⟩⟩⟩
      refine ⟨by decide, 4, by rw [td64 hr]; exact wz 4, st mo ⟨4, rfl, by decide, st mo ⟨.int .u64 ((oN a4 b4 (k4 a0 a1 a2 a3 b0 b1 b2 b3) 4 (64 * 4 + r) : Nat) : Int), rfl, st mo ?_⟩⟩⟩
      refine ⟨by decide, (((x + y + c) % 2 : Nat) : Int), m2N, st mo ⟨by decide, r, tm64 hr, st mo ⟨by omega, _, slN hr (by omega), st mo ⟨((ouN a4 b4 (k4 a0 a1 a2 a3 b0 b1 b2 b3) r + (x + y + c) % 2 * 2 ^ r : Nat) : Int), by rw [eo]; exact orN (ouN_lt _ _ _ _) (by omega) hr, st mo ?_⟩⟩⟩⟩
      refine ⟨4, rfl, by decide, st mo ⟨Nat.le_of_ble_eq_true rfl, (wd ((oN a0 b0 0 0 (64 * 4 + r) : Nat) : Int) ((oN a1 b1 (k1 a0 b0) 1 (64 * 4 + r) : Nat) : Int) ((oN a2 b2 (k2 a0 a1 b0 b1) 2 (64 * 4 + r) : Nat) : Int) ((oN a3 b3 (k3 a0 a1 a2 b0 b1 b2) 3 (64 * 4 + r) : Nat) : Int) ((ouN a4 b4 (k4 a0 a1 a2 a3 b0 b1 b2 b3) r + (x + y + c) % 2 * 2 ^ r : Nat) : Int)).map rel1, rfl, st mo ⟨dk, st mo ?_⟩⟩⟩
      refine ⟨by decide, (((x + y + c) / 2 : Nat) : Int), d2N (by omega), st mo ⟨((64 * 4 + r + 1 : Nat) : Int), wz _ (by omega), st mo ?_⟩⟩
      refine ⟨64 * 4 + r + 1, by dsimp; omega, by dsimp; omega, [0, 1, 2, 3], rfl, ⟨fp, fp, fp, fp, fe (by rw [ec']), fv, trivial⟩, ⟨flr rfl, flr rfl, flr rfl, by rw [oN_off (j := 0) (q := 4) (r := r) rfl hr (by decide), oN_off (j := 1) (q := 4) (r := r) rfl hr (by decide), oN_off (j := 2) (q := 4) (r := r) rfl hr (by decide), oN_off (j := 3) (q := 4) (r := r) rfl hr (by decide), eo']; exact flr rfl, trivial⟩, xf, rfl, rfl⟩
    · omega
  · obtain rfl : i = 320 := by omega
    exact rfl
theorem c_addw (a0 a1 a2 a3 a4 b0 b1 b2 b3 b4 : Int) (w : World) (ha : 0 ≤ a0 ∧ a0 < M64) (ha1 : 0 ≤ a1 ∧ a1 < M64) (ha2 : 0 ≤ a2 ∧ a2 < M64) (ha3 : 0 ≤ a3 ∧ a3 < M64) (ha4 : 0 ≤ a4 ∧ a4 < M64) (hb : 0 ≤ b0 ∧ b0 < M64) (hb1 : 0 ≤ b1 ∧ b1 < M64) (hb2 : 0 ≤ b2 ∧ b2 < M64) (hb3 : 0 ≤ b3 ∧ b3 < M64) (hb4 : 0 ≤ b4 ∧ b4 < M64) :
    Calls Tryz.prog 145 #[.agg (wd a0 a1 a2 a3 a4).toArray, .agg (wd b0 b1 b2 b3 b4).toArray] w fun r W => r = .returned (.agg (wd (ad a0 b0 0) (ad a1 b1 (aw1 a0 b0)) (ad a2 b2 (aw2 a0 a1 b0 b1)) (ad a3 b3 (aw3 a0 a1 a2 b0 b1 b2)) (ad a4 b4 (aw4 a0 a1 a2 a3 b0 b1 b2 b3))).toArray) ∧ Mb w W := by
  obtain ⟨a0, rfl⟩ := Int.eq_ofNat_of_zero_le ha.1
  have ha : a0 < 2 ^ 64 := by have := ha.2; unfold M64 at this; omega
  obtain ⟨a1, rfl⟩ := Int.eq_ofNat_of_zero_le ha1.1
  have ha1 : a1 < 2 ^ 64 := by have := ha1.2; unfold M64 at this; omega
  obtain ⟨a2, rfl⟩ := Int.eq_ofNat_of_zero_le ha2.1
  have ha2 : a2 < 2 ^ 64 := by have := ha2.2; unfold M64 at this; omega
  obtain ⟨a3, rfl⟩ := Int.eq_ofNat_of_zero_le ha3.1
  have ha3 : a3 < 2 ^ 64 := by have := ha3.2; unfold M64 at this; omega
  obtain ⟨a4, rfl⟩ := Int.eq_ofNat_of_zero_le ha4.1
  have ha4 : a4 < 2 ^ 64 := by have := ha4.2; unfold M64 at this; omega
  obtain ⟨b0, rfl⟩ := Int.eq_ofNat_of_zero_le hb.1
  have hb : b0 < 2 ^ 64 := by have := hb.2; unfold M64 at this; omega
  obtain ⟨b1, rfl⟩ := Int.eq_ofNat_of_zero_le hb1.1
  have hb1 : b1 < 2 ^ 64 := by have := hb1.2; unfold M64 at this; omega
  obtain ⟨b2, rfl⟩ := Int.eq_ofNat_of_zero_le hb2.1
  have hb2 : b2 < 2 ^ 64 := by have := hb2.2; unfold M64 at this; omega
  obtain ⟨b3, rfl⟩ := Int.eq_ofNat_of_zero_le hb3.1
  have hb3 : b3 < 2 ^ 64 := by have := hb3.2; unfold M64 at this; omega
  obtain ⟨b4, rfl⟩ := Int.eq_ofNat_of_zero_le hb4.1
  have hb4 : b4 < 2 ^ 64 := by have := hb4.2; unfold M64 at this; omega
  have q := c_addN a0 a1 a2 a3 a4 b0 b1 b2 b3 b4 ha ha1 ha2 ha3 ha4 hb hb1 hb2 hb3 hb4 w
  rw [oN_end (j := 0) (by decide), oN_end (j := 1) (by decide), oN_end (j := 2) (by decide), oN_end (j := 3) (by decide), oN_end (j := 4) (by decide)] at q
  have e1 : ((k1 a0 b0 : Nat) : Int) = aw1 a0 b0 := (ad_N (c := 0) ha hb).2
  have e2 : ((k2 a0 a1 b0 b1 : Nat) : Int) = aw2 a0 a1 b0 b1 := by rw [aw2, ← e1]; exact (ad_N ha1 hb1).2
  have e3 : ((k3 a0 a1 a2 b0 b1 b2 : Nat) : Int) = aw3 a0 a1 a2 b0 b1 b2 := by rw [aw3, ← e2]; exact (ad_N ha2 hb2).2
  have e4 : ((k4 a0 a1 a2 a3 b0 b1 b2 b3 : Nat) : Int) = aw4 a0 a1 a2 a3 b0 b1 b2 b3 := by rw [aw4, ← e3]; exact (ad_N ha3 hb3).2
  rw [(ad_N ha hb).1, (ad_N ha1 hb1).1, (ad_N ha2 hb2).1, (ad_N ha3 hb3).1, (ad_N ha4 hb4).1, e1, e2, e3, e4] at q
  exact q
set_option maxRecDepth 20000 in
theorem c_minus (a0 a1 a2 a3 a4 : Int) (w : World) (ha0 : 0 ≤ a0 ∧ a0 < M64) (ha1 : 0 ≤ a1 ∧ a1 < M64) (ha2 : 0 ≤ a2 ∧ a2 < M64) (ha3 : 0 ≤ a3 ∧ a3 < M64) (ha4 : 0 ≤ a4 ∧ a4 < M64) :
    Calls Tryz.prog 100 #[.agg (wd a0 a1 a2 a3 a4).toArray] w fun r W => r = .returned (.agg (wd (m0 a0) (m1 a0 a1) (m2 a0 a1 a2) (m3 a0 a1 a2 a3) (m4 a0 a1 a2 a3 a4)).toArray) ∧ Mb w W := by
  refine fn_pure [.agg (wd a0 a1 a2 a3 a4).toArray] Tryz.func100 rfl rfl rfl (run_ok (st mo ?_))
  refine ⟨_, nt_x ha0, st mo ⟨_, nt_x ha1, st mo ⟨_, nt_x ha2, st mo ⟨_, nt_x ha3, st mo ⟨_, nt_x ha4, st mo ?_⟩⟩⟩⟩⟩
  have z : (0 : Int) ≤ 0 ∧ (0 : Int) < M64 := by decide
  refine ⟨_, fun nn => r_call (t := .agg (wd (m0 a0) (m1 a0 a1) (m2 a0 a1 a2) (m3 a0 a1 a2 a3) (m4 a0 a1 a2 a3 a4)).toArray) rfl rfl Tryz.func145 (fun W M E => c_addw (nt a0) (nt a1) (nt a2) (nt a3) (nt a4) 1 0 0 0 0 W (nt_b ha0) (nt_b ha1) (nt_b ha2) (nt_b ha3) (nt_b ha4) (by decide) z z z z), st mo ?_⟩
  rfl
theorem and63 (n : Nat) : n &&& 2 ^ 63 = if n / 2 ^ 63 % 2 = 1 then 2 ^ 63 else 0 := by
  apply Nat.eq_of_testBit_eq
  intro i
  rw [Nat.testBit_and, Nat.testBit_two_pow]
  by_cases h : 63 = i
  · subst h
    rw [Nat.testBit_eq_decide_div_mod_eq]
    split
    next q => rw [Nat.testBit_two_pow]; simp [q]
    next q => simp [q]
  · simp only [h, decide_false, Bool.and_false]
    split
    · rw [Nat.testBit_two_pow]; simp [h]
    · simp
theorem sb_0 {a : Int} (h : 0 ≤ a ∧ a < M64) : (sb a = 0 ↔ ¬ a / 9223372036854775808 = 1) := by
  obtain ⟨n, rfl⟩ := Int.eq_ofNat_of_zero_le h.1
  have hn : n < 2 ^ 64 := by have := h.2; unfold M64 at this; omega
  unfold sb
  show IntKind.u64.wrap (((BitVec.ofInt 64 (n : Int) &&& BitVec.ofInt 64 9223372036854775808).toNat : Nat) : Int) = 0 ↔ _
  rw [BitVec.toNat_and, BitVec.toNat_ofInt, IntKind.wrap_u64, show (BitVec.ofInt 64 9223372036854775808).toNat = 2 ^ 63 by decide, show ((n : Int) % ((2 ^ 64 : Nat) : Int)).toNat = n by omega, and63]
  split
  · omega
  · omega
end Go.Proofs.YtfmfeipeeedfpaaGreat
namespace Go.Proofs.YtfmfeipeeedfpaaGreat
open S Go.RowKit
set_option maxRecDepth 20000 in
theorem c_narrow (a0 a1 a2 a3 a4 s : Int) (w : World) (ha0 : 0 ≤ a0 ∧ a0 < M64) (ha1 : 0 ≤ a1 ∧ a1 < M64) (ha2 : 0 ≤ a2 ∧ a2 < M64) (ha3 : 0 ≤ a3 ∧ a3 < M64) (ha4 : 0 ≤ a4 ∧ a4 < M64) :
    Calls Tryz.prog 65 #[.agg (wd a0 a1 a2 a3 a4).toArray, .int .i64 s] w fun r W => r = .returned (nrD a0 a1 a2 a3 a4 s).v ∧ Mb w W := by
  refine fn_pure [.agg (wd a0 a1 a2 a3 a4).toArray, .int .i64 s] Tryz.func65 rfl rfl rfl (run_ok (st mo ?_))
  have hs := sb_0 ha4
  refine ⟨fun h => st mo ?_, fun h => st mo ⟨fun h2 => st mo ?_, fun h2 => st mo ?_⟩⟩
  · show _ = _; rw [nrD, if_pos (by omega)]; rfl
  · show _ = _; rw [nrD, if_pos (by omega)]; rfl
  refine ⟨by decide, a4 / 9223372036854775808, by rw [Int.fdiv_eq_ediv_of_nonneg _ (by decide)]; rfl, st mo ⟨fun q => st mo ?_, fun q => st mo ?_⟩⟩
  · have q := fun e => hs.1 e q
    refine ⟨_, fun nn => r_call (t := .agg (wd (m0 a0) (m1 a0 a1) (m2 a0 a1 a2) (m3 a0 a1 a2 a3) (m4 a0 a1 a2 a3 a4)).toArray) rfl rfl Tryz.func100 (fun W M E => c_minus a0 a1 a2 a3 a4 W ha0 ha1 ha2 ha3 ha4), st mo ⟨fun z => st mo ?_, fun z => st mo ?_⟩⟩
    · show _ = _; rw [nrD, if_neg (by omega), if_neg q, if_neg z]; rfl
    · have um : U4 (m0 a0) (m1 a0 a1) (m2 a0 a1 a2) (m3 a0 a1 a2 a3) := ⟨ad_b _ _ _, ad_b _ _ _, ad_b _ _ _, ad_b _ _ _⟩
      show _ = _; rw [nrD, if_neg (by omega), if_neg q, if_pos z]; simp only [DR.v, dc, l0_vl um, l1_vl um, l2_vl um, l3_vl um]; rfl
  · have q := hs.2 q
    refine ⟨fun z => st mo ?_, fun z => st mo ?_⟩
    · show _ = _; rw [nrD, if_neg (by omega), if_pos q, if_neg z]; rfl
    · have ua : U4 a0 a1 a2 a3 := ⟨ha0, ha1, ha2, ha3⟩
      show _ = _; rw [nrD, if_neg (by omega), if_pos q, if_pos z]; simp only [DR.v, dc, l0_vl ua, l1_vl ua, l2_vl ua, l3_vl ua]; rfl
set_option maxRecDepth 20000 in
theorem c_bad (e : Int) (w : World) : Calls Tryz.prog 64 #[.int .i64 e] w fun r W => r = .returned (vEr e).v ∧ Mb w W :=
  fn_pure [.int .i64 e] Tryz.func64 rfl rfl rfl (run_ok (st mo rfl))
set_option maxRecDepth 20000 in
theorem c_whole (n : Int) (hn : -9223372036854775808 ≤ n ∧ n < 9223372036854775808) (w : World) : Calls Tryz.prog 63 #[.int .i64 n] w fun r W => r = .returned (cntV n).v ∧ Mb w W := by
  have ha : 0 ≤ ab n ∧ ab n ≤ 9223372036854775808 := by unfold ab; split <;> omega
  refine fn_pure [.int .i64 n] Tryz.func63 rfl rfl rfl (run_ok (st mo ?_))
  refine ⟨n % 18446744073709551616, IntKind.wrap_u64 n, st mo ?_⟩
  refine ⟨_, fun nn => r_call (t := nv (n % 18446744073709551616)) rfl rfl Tryz.func99 (fun W M E => q_from (n % 18446744073709551616) (by omega) W), st mo ⟨fun h => st mo ?_, fun h => st mo ?_⟩⟩
  · refine ⟨n % 18446744073709551616, IntKind.wrap_u64 n, st mo ⟨ab n, by rw [IntKind.wrap_u64]; unfold ab; rw [if_pos h]; omega, st mo ?_⟩⟩
    refine ⟨_, fun nn => r_call (t := nv (ab n)) rfl rfl Tryz.func99 (fun W M E => q_from (ab n) (by omega) W), st mo ?_⟩
    show _ = _; rw [cntV, decide_eq_true h]; rfl
  · have e : n % 18446744073709551616 = ab n := by unfold ab; rw [if_neg (by omega)]; omega
    show _ = _; rw [cntV, decide_eq_false (by omega), e]; rfl
set_option maxRecDepth 20000 in
theorem c_value (op : Int) (m : SM) (hm : m.ok) (s : Int) (w : World) : Calls Tryz.prog 35 #[.int .i64 op, m.v, .int .i64 s] w fun r W => r = .returned (agV op m s).v ∧ Mb w W := by
  refine fn_pure [.int .i64 op, m.y, .int .i64 s] Tryz.func35 rfl rfl rfl (run_ok (st mo ?_))
  refine ⟨fun h => st mo ?_, fun h => st mo ?_⟩
  · refine ⟨_, fun nn => r_call (t := (cntV m.ro).y) rfl rfl Tryz.func63 (fun W M E => c_whole m.ro hm.ro W), st mo ?_⟩
    show _ = _; rw [agV, if_pos h]; rfl
  refine ⟨fun h1 => st mo ?_, fun h1 => st mo ?_⟩
  · refine ⟨_, fun nn => r_call (t := (cntV m.fi).y) rfl rfl Tryz.func63 (fun W M E => c_whole m.fi hm.fi W), st mo ?_⟩
    show _ = _; rw [agV, if_neg h, if_pos h1]; rfl
  refine ⟨fun a => st mo ⟨fun b => st mo ⟨fun c => st mo ?_, fun d => st mo ?_⟩, fun d => st mo ?_⟩, fun d => st mo ?_⟩
  · refine ⟨_, fun nn => r_call (t := (vEr 2).y) rfl rfl Tryz.func64 (fun W M E => c_bad 2 W), st mo ?_⟩
    show _ = _; rw [agV, if_neg h, if_neg h1, if_neg (by omega)]; rfl
  · refine ⟨fun z => st mo ?_, fun z => st mo ?_⟩
    · refine ⟨_, fun nn => r_call (t := (vEr m.er).y) rfl rfl Tryz.func64 (fun W M E => c_bad m.er W), st mo ?_⟩
      show _ = _; rw [agV, if_neg h, if_neg h1, if_pos (by omega), ofnV, if_neg z]; rfl
    · refine ⟨fun o => absurd o (by omega), fun _ => st mo ⟨fun q => st mo ?_, fun q => st mo ⟨fun o => absurd o (by omega), fun o => st mo ?_⟩⟩⟩
      · have q : m.so = false := by cases hs : m.so <;> simp [hs] at q ⊢
        refine ⟨_, fun nn => r_call (t := (vEr 4).y) rfl rfl Tryz.func64 (fun W M E => c_bad 4 W), st mo ?_⟩
        show _ = _; rw [agV, if_neg h, if_neg h1, if_pos (by omega), ofnV, if_pos z, if_neg (by omega), q]; rfl
      · have q : m.so = true := by cases hs : m.so <;> simp [hs] at q ⊢
        show _ = _; rw [agV, if_neg h, if_neg h1, if_pos (by omega), ofnV, if_pos z, if_neg (by omega), q, if_pos rfl, if_neg (by omega)]; rfl
  · refine ⟨fun z => st mo ?_, fun z => st mo ?_⟩
    · refine ⟨_, fun nn => r_call (t := (vEr m.er).y) rfl rfl Tryz.func64 (fun W M E => c_bad m.er W), st mo ?_⟩
      show _ = _; rw [agV, if_neg h, if_neg h1, if_pos (by omega), ofnV, if_neg z]; rfl
    · refine ⟨fun o => absurd o (by omega), fun _ => st mo ⟨fun q => st mo ?_, fun q => st mo ⟨fun o => st mo ?_, fun o => absurd d o⟩⟩⟩
      · have q : m.so = false := by cases hs : m.so <;> simp [hs] at q ⊢
        refine ⟨_, fun nn => r_call (t := (vEr 4).y) rfl rfl Tryz.func64 (fun W M E => c_bad 4 W), st mo ?_⟩
        show _ = _; rw [agV, if_neg h, if_neg h1, if_pos (by omega), ofnV, if_pos z, if_neg (by omega), q]; rfl
      · have q : m.so = true := by cases hs : m.so <;> simp [hs] at q ⊢
        show _ = _; rw [agV, if_neg h, if_neg h1, if_pos (by omega), ofnV, if_pos z, if_neg (by omega), q, if_pos rfl, if_pos d]; rfl
  · refine ⟨fun z => st mo ?_, fun z => st mo ?_⟩
    · refine ⟨_, fun nn => r_call (t := (vEr m.er).y) rfl rfl Tryz.func64 (fun W M E => c_bad m.er W), st mo ?_⟩
      show _ = _; rw [agV, if_neg h, if_neg h1, if_pos (by omega), ofnV, if_neg z]; rfl
    · refine ⟨fun _ => st mo ?_, fun o => absurd d o⟩
      refine ⟨_, fun nn => r_call (t := (nrV m s).y) rfl rfl Tryz.func65 (fun W M E => c_narrow m.t0 m.t1 m.t2 m.t3 m.t4 s W hm.t0 hm.t1 hm.t2 hm.t3 hm.t4), st mo ⟨fun h => st mo ?_, fun h => st mo ?_⟩⟩
      · refine ⟨_, fun nn => r_call (t := (vEr 1).y) rfl rfl Tryz.func64 (fun W M E => c_bad 1 W), st mo ?_⟩
        show _ = _; rw [agV, if_neg (by omega), if_neg h1, if_pos (by omega), ofnV, if_pos z, if_pos d, totV, if_neg h]; rfl
      · show _ = _; rw [agV, if_neg (by omega), if_neg h1, if_pos (by omega), ofnV, if_pos z, if_pos d, totV, if_pos h]; rfl
end Go.Proofs.YtfmfeipeeedfpaaGreat
namespace Go.Proofs.YtfmfeipeeedfpaaGreat
open S Go.RowKit
def arN (x : Ex) : Int := match whN x with
  | some n => (n : Int)
  | none => -1
section
variable {x : Ex}
theorem arN_0 (h : x.k = 1 ∨ x.k = 2 ∨ x.k = 10) : arN x = 0 := by unfold arN whN; rw [if_pos h]; rfl
theorem arN_1 (h : x.k = 3 ∨ x.k = 4 ∨ x.k = 7 ∨ x.k = 8 ∨ x.k = 9) : arN x = 1 := by unfold arN whN; rw [if_neg (by omega), if_pos h]; rfl
theorem arN_2 (h : x.k = 5) : arN x = 2 := by unfold arN whN; rw [if_neg (by omega), if_neg (by omega), if_pos h]; rfl
theorem arN_3 (h : x.k = 6) : arN x = 3 := by unfold arN whN; rw [if_neg (by omega), if_neg (by omega), if_neg (by omega), if_pos h]; rfl
theorem arN_n (h : x.k < 1 ∨ 10 < x.k) : arN x = -1 := by unfold arN whN; rw [if_neg (by omega), if_neg (by omega), if_neg (by omega), if_neg (by omega)]
theorem arN_w : whl x = decide (arN x = (x.a.length : Int)) := by
  unfold whl arN
  cases whN x with
  | none => simp
  | some n => simp; omega
end
set_option maxRecDepth 20000 in
theorem c_args (x : Ex) (w : World) : Calls Tryz.prog 31 #[.agg x.c.toArray] w fun r W => r = .returned (.int .i64 (arN x)) ∧ Mb w W := by
  refine fn_pure [.agg (x.c.map rel1).toArray] Tryz.func31 rfl rfl rfl (run_ok (st mo ?_))
  repeat' (first | (refine ⟨fun h => ?_, fun h => ?_⟩ <;> first | (exfalso; omega) | refine st mo ?_) | fail "")
  all_goals first
    | (show _ = _; rw [arN_0 (by omega)])
    | (show _ = _; rw [arN_1 (by omega)])
    | (show _ = _; rw [arN_2 (by omega)])
    | (show _ = _; rw [arN_3 (by omega)])
    | (show _ = _; rw [arN_n (by omega)])
set_option maxRecDepth 20000 in
theorem c_bad7 (e : Int) (w : World) : Calls Tryz.prog 32 #[.int .i64 e] w fun r W => r = .returned (vBad e).v ∧ Mb w W :=
  fn_pure [.int .i64 e] Tryz.func32 rfl rfl rfl (run_ok (st mo ⟨_, fun nn => r_call (t := (vBad e).y) rfl rfl Tryz.func62 (fun W M E => q_bad e W), st mo rfl⟩))
set_option maxRecDepth 20000 in
theorem c_may (x : VL) (hx : x.ok) (w : World) : Calls Tryz.prog 33 #[x.v] w fun r W => r = .returned (mayV x).v ∧ Mb w W := by
  refine fn_pure [x.y] Tryz.func33 rfl rfl rfl (run_ok (st mo ?_))
  refine ⟨_, fun nn => r_call (t := .int .i64 (ckI x)) rfl rfl Tryz.func27 (fun W M E => q_check x hx W), st mo ⟨fun q => st mo ?_, fun q => st mo ?_⟩⟩
  · refine ⟨_, fun nn => r_call (t := (vBad 2).y) rfl rfl Tryz.func32 (fun W M E => c_bad7 2 W), st mo ?_⟩
    show _ = _; rw [mayV, ckI_1 q]; rfl
  · show _ = _; rw [mayV, ckI_0 q]; rfl
theorem c_may' {x : Ex} (h : x.u4) (W : World) : Calls Tryz.prog 33 #[.agg #[.int .i64 x.vk, .bool x.ng, .int .u64 x.l0, .int .u64 x.l1, .int .u64 x.l2, .int .u64 x.l3, .int .i64 x.vs, .bool x.fl, .string x.tx, .int .i64 x.er]] W fun r W' => r = .returned (mayV x.val).v ∧ Mb W W' := by
  have := c_may x.val h.ok W
  rw [show x.val.v = .agg #[.int .i64 x.vk, .bool x.ng, .int .u64 x.l0, .int .u64 x.l1, .int .u64 x.l2, .int .u64 x.l3, .int .i64 x.vs, .bool x.fl, .string x.tx, .int .i64 x.er] by rw [VL.v, h.cells]] at this
  exact this
theorem c_fitted {x : VL} (h : x.fit) (w : World) : Calls Tryz.prog 33 #[x.v] w fun r W => r = .returned x.v ∧ Mb w W := by have q := c_may x h.1 w; rw [may_1 h.2] at q; exact q
set_option maxRecDepth 20000 in
theorem c_key (x : Ex) (w : World) : Calls Tryz.prog 34 #[.agg x.c.toArray] w fun r W => r = .returned (es53 (colE x)) ∧ Mb w W := by
  refine fn_pure [.agg (x.c.map rel1).toArray] Tryz.func34 rfl rfl rfl (run_ok (st mo ?_))
  refine ⟨fun h => st mo ?_, fun h => st mo ?_⟩
  · show _ = _; rw [colE, if_pos h]; rfl
  · show _ = _; rw [colE, if_neg h]; rfl
theorem find_none {α : Type} {p : α → Bool} {l : List α} (h : ∀ j < l.length, ∀ t, l[j]? = some t → p t = false) : l.find? p = none := by
  rw [List.find?_eq_none]
  intro t ht
  obtain ⟨j, hj⟩ := List.getElem?_of_mem ht
  simp [h j (lt_of_get hj) t hj]
theorem find_at {α : Type} {p : α → Bool} : ∀ {l : List α} {i : Nat} {t : α}, (∀ j < i, ∀ u, l[j]? = some u → p u = false) → l[i]? = some t → p t = true → l.find? p = some t
  | [], _, _, _, h, _ => by simp at h
  | u :: r, 0, t, _, h, hp => by simp at h; subst h; rw [List.find?_cons, hp]
  | u :: r, i + 1, t, hn, h, hp => by
    rw [List.find?_cons, hn 0 (by omega) u rfl]
    exact find_at (i := i) (fun j hj v hv => hn (j + 1) (by omega) v (by simpa using hv)) (by simpa using h) hp
theorem frm_some {e : Ev} {s : ByteArray} {d : Dn} {t : Tb} (h : tabE e s = some t) : frmE e s d = if (atD t.st d).e = 0 then vNu (atD t.st d).b (atD t.st d).n (atD t.st d).s else if (atD t.st d).e = 141 then vBad 5 else if (atD t.st d).e = 7 then vBad 1 else vBad 2 := by unfold frmE; rw [h]
set_option maxRecDepth 20000 in
theorem c_table (e : Ev) (s : ByteArray) (v : VL) (hv : v.fit) (w : World) (he : EvL w e) : Calls Tryz.prog 42 #[.string s, v.v, .slice e.tp e.tb.length e.cp] w fun r W => r = .returned (brkE e s v).v ∧ Mb w W := by
  have hln := he.ln
  refine fn_pure [.string s, v.y, raw (.slice e.tp e.tb.length e.cp)] Tryz.func42 rfl rfl rfl (run_ok (st mo ?_))
  refine ⟨_, fun nn => r_call (t := v.y) rfl rfl Tryz.func33 (fun W M E => c_fitted hv W), st mo ?_⟩
  refine ⟨fun h4 => st mo ?_, fun h4 => st mo ⟨fun h0 => st mo ?_, fun h0 => st mo ⟨fun h1 => st mo ?_, fun h1 => st mo ?_⟩⟩⟩
  · show _ = _; rw [brkE, if_pos h4]; rfl
  · refine ⟨_, fun nn => r_call (t := (vBad 3).y) rfl rfl Tryz.func32 (fun W M E => c_bad7 3 W), st mo ?_⟩
    show _ = _; rw [brkE, if_neg h4, if_pos h0]; rfl
  · rw [show brkE e s v = frmE e s ⟨v.b, v.n, v.s⟩ by rw [brkE, if_neg h4, if_neg h0, if_pos h1]]
    refine S.w_loop (fun i : Nat => ⟨⟨Tryz.f42.ntmps, [(0, .string s), (2, raw (.slice e.tp e.tb.length e.cp)), (4, .pointer (some ⟨0, 0, none⟩)), (6, .pointer (some ⟨1, 0, none⟩)), (7, .int .i64 (i : Int))]⟩, [(0, some (v.cells.map rel1)), (1, some (vBl.cells.map rel1))], 2, w⟩) (fun i => i ≤ e.tb.length ∧ ∀ j < i, ∀ t, e.tb[j]? = some t → decide (t.nm = s) = false) (fun i => e.tb.length - i) 0 ⟨by omega, fun j hj => absurd hj (Nat.not_lt_zero j)⟩ [0, 1] ⟨rfl, ⟨fv, fv, fp, fp, fv, trivial⟩, ⟨flr rfl, flr rfl, trivial⟩, xf, rfl, rfl⟩ ?_
    intro i hi
    refine st mo (st mo ⟨fun hlt => st mo ?_, fun hge => st mo (st mo ?_)⟩)
    · have hil : i < e.tb.length := by omega
      obtain ⟨t, ht, hT, b, o, h5, h6⟩ := he.at hil
      have hnm : Lies w b (o + i * 2) [.string t.nm] := Lies.part (l1 := []) (l3 := [.slice t.pa t.st.length t.cap]) h6
      refine ⟨b, o, i, h5, rfl, hil, st mo ⟨.string t.nm, hnm 0 _ rfl, st mo ⟨fun q => st mo ?_, fun q => st mo ?_⟩⟩⟩
      · have hf : tabE e s = some t := by unfold tabE; exact find_at hi.2 ht (decide_eq_true q)
        refine ⟨b, o, i, h5, rfl, hil, st mo ⟨t.cells, rfl, h6, st mo ?_⟩⟩
        refine ⟨_, fun nn => r_call (t := (atD t.st ⟨v.b, v.n, v.s⟩).y) rfl rfl Tryz.func76 (fun W M E => c_at t ⟨v.b, v.n, v.s⟩ hv.1 W (hT.mono E)), st mo ⟨dk, st mo ?_⟩⟩
        refine ⟨fun z => st mo ?_, fun z => st mo ⟨fun z1 => st mo ?_, fun z1 => st mo ⟨fun z2 => st mo ?_, fun z2 => st mo ?_⟩⟩⟩
        · show _ = _; rw [frm_some hf, if_pos z]; rfl
        · refine ⟨_, fun nn => r_call (t := (vBad 5).y) rfl rfl Tryz.func32 (fun W M E => c_bad7 5 W), st mo ?_⟩
          show _ = _; rw [frm_some hf, if_neg z, if_pos z1]; rfl
        · refine ⟨_, fun nn => r_call (t := (vBad 1).y) rfl rfl Tryz.func32 (fun W M E => c_bad7 1 W), st mo ?_⟩
          show _ = _; rw [frm_some hf, if_neg z, if_neg z1, if_pos z2]; rfl
        · refine ⟨_, fun nn => r_call (t := (vBad 2).y) rfl rfl Tryz.func32 (fun W M E => c_bad7 2 W), st mo ?_⟩
          show _ = _; rw [frm_some hf, if_neg z, if_neg z1, if_neg z2]; rfl
      · refine ⟨_, wz (i + 1) rfl, st mo ?_⟩
        refine ⟨i + 1, ⟨hil, fun j hj u hu => ?_⟩, by dsimp; omega, [0, 1], rfl, ⟨fv, fv, fp, fp, fv, trivial⟩, ⟨flr rfl, flr rfl, trivial⟩, xf, rfl, rfl⟩
        rcases Nat.lt_or_ge j i with g | g
        · exact hi.2 j g u hu
        · obtain rfl : j = i := by omega
          rw [ht] at hu; cases hu; exact decide_eq_false q
    · refine ⟨_, fun nn => r_call (t := (vBad 2).y) rfl rfl Tryz.func32 (fun W M E => c_bad7 2 W), st mo ?_⟩
      have : tabE e s = none := by unfold tabE; exact find_none fun j hj t ht => hi.2 j (by omega) t ht
      show _ = _; rw [frmE, this]; rfl
  · refine ⟨_, fun nn => r_call (t := (vBad 2).y) rfl rfl Tryz.func32 (fun W M E => c_bad7 2 W), st mo ?_⟩
    show _ = _; rw [brkE, if_neg h4, if_neg h0, if_neg h1]; rfl
end Go.Proofs.YtfmfeipeeedfpaaGreat
namespace Go.Proofs.YtfmfeipeeedfpaaGreat
open S Go.RowKit
abbrev agQ (a : Nat → VL) : Nat → List Value
  | 0 => []
  | 1 => (a 0).cells
  | 2 => (a 0).cells ++ (a 1).cells
  | _ => (a 0).cells ++ (a 1).cells ++ (a 2).cells
abbrev agS : Nat → Value
  | 0 => .slice none 0 0
  | i + 1 => .slice (some ⟨3, 0, none⟩) (i + 1) 10
abbrev agH (x : Ex) (e : Ev) (a : Nat → VL) : Nat → HT
  | 0 => [(0, some (x.c.map rel1)), (1, some (e.cells.map rel1)), (2, some (vBl.cells.map rel1))]
  | i + 1 => [(0, some (x.c.map rel1)), (1, some (e.cells.map rel1)), (2, some (vBl.cells.map rel1)), (3, some ((agQ a (i + 1)).map rel1))]
abbrev agN : Nat → Nat
  | 0 => 3
  | _ + 1 => 4
theorem who {x : Ex} (h : whl x = true) : (x.a.length = 0 ∧ (x.k = 1 ∨ x.k = 2 ∨ x.k = 10)) ∨ (x.a.length = 1 ∧ (x.k = 3 ∨ x.k = 4 ∨ x.k = 7 ∨ x.k = 8 ∨ x.k = 9)) ∨ (x.a.length = 2 ∧ x.k = 5) ∨ (x.a.length = 3 ∧ x.k = 6) := by
  have h := of_decide_eq_true h
  unfold whN at h
  repeat (first | (injection h; omega) | cases h | split at h)
section
variable {e : Ev} {x : Ex} {a : Nat → VL}
theorem nd1 (h : x.k = 1) : nodE e x a = mayV x.val := by unfold nodE; simp [h]
theorem nd2 (h : x.k = 2) : nodE e x a = mayV ((lkB e.N x.nm).getD vBl) := by unfold nodE; simp [h]
theorem nd3 (h : x.k = 3) : nodE e x a = negV (a 0) := by unfold nodE; simp [h]
theorem nd4 (h : x.k = 4) : nodE e x a = notV (a 0) := by unfold nodE; simp [h]
theorem nd5 (h : x.k = 5) : nodE e x a = opV x.op (a 0) (a 1) := by unfold nodE; simp [h]
theorem nd6 (h : x.k = 6) : nodE e x a = ifV (a 0) (a 1) (a 2) := by unfold nodE; simp [h]
theorem nd7 (h : x.k = 7) : nodE e x a = rndV (a 0) x.s x.pl := by unfold nodE; simp [h]
theorem nd8 (h : x.k = 8) : nodE e x a = brkE e x.nm (a 0) := by unfold nodE; simp [h]
theorem nd9 (h : x.k = 9) : nodE e x a = blkV (a 0) := by unfold nodE; simp [h]
theorem nd10 (h : x.k = 10) : nodE e x a = aggE e x := by unfold nodE; simp [h]
end
abbrev EvD (e : Ev) (x : Ex) (v : VL) (d : Nat) : Prop := ∀ w, LT w d x → EvL w e → Calls Tryz.prog 13 #[.agg x.c.toArray, e.v] w fun r W => r = .returned v.v ∧ Mb w W
set_option maxRecDepth 20000 in
theorem c_no (e : Ev) (x : Ex) (h : whl x = false) (d : Nat) : EvD e x (vBad 2) d := fun w hL he => by
  rw [arN_w] at h
  have h := of_decide_eq_false h
  refine fn_pure [.agg (x.c.map rel1).toArray, e.y] Tryz.func13 rfl rfl rfl (run_ok (st mo ?_))
  refine ⟨_, fun nn => r_call (t := .int .i64 (arN x)) rfl rfl Tryz.func31 (fun W M E => c_args x W), st mo (st mo ⟨fun _ => st mo ⟨dk, st mo ?_⟩, fun q => absurd q h⟩)⟩
  refine ⟨_, fun nn => r_call (t := (vBad 2).y) rfl rfl Tryz.func32 (fun W M E => c_bad7 2 W), st mo ?_⟩
  rfl
set_option maxRecDepth 20000 in
theorem c_yes (e : Ev) (x : Ex) (hw : whl x = true) (hx : x.u4) (a : Nat → VL) (ha : ∀ i, (a i).fit) (d : Nat)
    (hs : ∀ i y, x.a[i]? = some y → EvD e y (a i) d) : EvD e x (nodE e x a) (d + 1) := fun w hL he => by
  have hl := who hw
  rw [arN_w] at hw
  have hw := of_decide_eq_true hw
  refine fn_pure [.agg (x.c.map rel1).toArray, e.y] Tryz.func13 rfl rfl rfl (run_ok (st mo ?_))
  refine ⟨_, fun nn => r_call (t := .int .i64 (arN x)) rfl rfl Tryz.func31 (fun W M E => c_args x W), st mo (st mo ⟨fun q => absurd hw q, fun _ => st mo ⟨dk, st mo ?_⟩⟩)⟩
  refine S.w_loop (fun i : Nat => ⟨⟨Tryz.f13.ntmps, [(2, q0 0), (3, q0 1), (4, q0 2), (5, agS i), (6, .int .i64 (i : Int))]⟩, agH x e a i, agN i, w⟩)
    (fun i => i ≤ x.a.length) (fun i => x.a.length - i) 0 (by omega) [0, 1, 2] ⟨rfl, ⟨fp, fp, fp, fv, fv, trivial⟩, ⟨flr rfl, flr rfl, flr rfl, trivial⟩, xf, rfl, rfl⟩ ?_
  intro i hi
  rcases i with _ | _ | _ | _ | i
  · refine st mo (st mo ⟨fun hlt => st mo ?_, fun hge => st mo (st mo ?_)⟩)
    · have hil : 0 < x.a.length := by omega
      obtain ⟨y, hy⟩ : ∃ y, x.a[0]? = some y := ⟨_, List.getElem?_eq_getElem hil⟩
      obtain ⟨⟨b, o, h4, h5⟩, h8⟩ := hL.at hy
      refine ⟨b, o, 0, h4, rfl, hil, st mo ⟨y.c, rfl, h5, st mo ?_⟩⟩
      refine ⟨_, fun nn => r_call (t := (a 0).y) rfl rfl Tryz.func13 (fun W M E => hs 0 y hy W (h8.mono E) (he.mb M E)), st mo ?_⟩
      refine ⟨1, (a 0).cells.map rel1, _, put_own rfl rfl rfl rfl rfl, by decide, by decide, st mo ⟨dk, st mo ?_⟩⟩
      refine ⟨_, wz 1 rfl, st mo ?_⟩
      exact ⟨1, hil, by dsimp; omega, [0, 1, 2, 4], rfl, ⟨fp, fp, fp, fs, fv, trivial⟩, ⟨flr rfl, flr rfl, flr rfl, flr rfl, trivial⟩, xf, rfl, rfl⟩
    · have l0 : x.a.length = 0 := by omega
      repeat' (first | (refine ⟨fun h => ?_, fun h => ?_⟩ <;> first | (exfalso; omega) | refine st mo ?_) | fail "")
      · refine ⟨_, fun nn => r_call (t := (mayV x.val).y) rfl rfl Tryz.func33 (fun W M E => c_may' hx W), st mo ?_⟩
        rw [nd1 ‹x.k = 1›]; rfl
      · refine ⟨_, fun nn => r_look (t := ((lkB e.N x.nm).getD vBl).y) rfl (fun W M => he.lkn M x.nm), st mo ?_⟩
        refine ⟨_, fun nn => r_call (t := (mayV ((lkB e.N x.nm).getD vBl)).y) rfl rfl Tryz.func33 (fun W M E => c_may _ (he.nv x.nm) W), st mo ?_⟩
        rw [nd2 ‹x.k = 2›]; rfl
      · refine ⟨_, fun nn => r_call (t := es53 (colE x)) rfl rfl Tryz.func34 (fun W M E => c_key x W), st mo ?_⟩
        refine ⟨_, fun nn => r_look (t := ((lkB e.C (colE x)).getD cl0).y) rfl (fun W M => he.lkc M (colE x)), st mo ⟨dk, st mo ?_⟩⟩
        refine ⟨_, fun nn => r_call (t := (agV x.op ((lkB e.C (colE x)).getD cl0).m ((lkB e.C (colE x)).getD cl0).s).y) rfl rfl Tryz.func35 (fun W M E => c_value x.op _ (he.cv (colE x)) _ W), st mo ?_⟩
        refine ⟨_, fun nn => r_call (t := (aggE e x).y) rfl rfl Tryz.func33 (fun W M E => c_may _ (ag_ok (he.cv (colE x))) W), st mo ?_⟩
        rw [nd10 ‹x.k = 10›]; rfl
  · refine st mo (st mo ⟨fun hlt => st mo ?_, fun hge => st mo (st mo ?_)⟩)
    · have hil : 1 < x.a.length := by omega
      obtain ⟨y, hy⟩ : ∃ y, x.a[1]? = some y := ⟨_, List.getElem?_eq_getElem hil⟩
      obtain ⟨⟨b, o, h4, h5⟩, h8⟩ := hL.at hy
      refine ⟨b, o, 1, h4, rfl, hil, st mo ⟨y.c, rfl, h5, st mo ?_⟩⟩
      refine ⟨_, fun nn => r_call (t := (a 1).y) rfl rfl Tryz.func13 (fun W M E => hs 1 y hy W (h8.mono E) (he.mb M E)), st mo ?_⟩
      refine ⟨rfl, 1, (a 1).cells.map rel1, _, put_own rfl rfl rfl rfl rfl, by decide, _, rfl, st mo ⟨dk, st mo ?_⟩⟩
      refine ⟨_, wz 2 rfl, st mo ?_⟩
      exact ⟨2, hil, by dsimp; omega, [0, 1, 2, 5], rfl, ⟨fp, fp, fp, fs, fv, trivial⟩, ⟨flr rfl, flr rfl, flr rfl, flr rfl, trivial⟩, xf, rfl, rfl⟩
    · have l1 : x.a.length = 1 := by omega
      repeat' (first | (refine ⟨fun h => ?_, fun h => ?_⟩ <;> first | (exfalso; omega) | refine st mo ?_) | fail "")
      · refine ⟨_, fun nn => r_call (t := (negV (a 0)).y) rfl rfl Tryz.func36 (fun W M E => q_neg (a 0) (ha 0).1 W), st mo ?_⟩
        rw [nd3 ‹x.k = 3›]; rfl
      · refine ⟨_, fun nn => r_call (t := (notV (a 0)).y) rfl rfl Tryz.func37 (fun W M E => q_not (a 0) (ha 0).1 W), st mo ?_⟩
        rw [nd4 ‹x.k = 4›]; rfl
      · refine ⟨_, fun nn => r_call (t := (blkV (a 0)).y) rfl rfl Tryz.func38 (fun W M E => q_blank (a 0) (ha 0).1 W), st mo ?_⟩
        rw [nd9 ‹x.k = 9›]; rfl
      · refine ⟨_, fun nn => r_call (t := (rndV (a 0) x.s x.pl).y) rfl rfl Tryz.func39 (fun W M E => q_rnd (a 0) (ha 0).1 x.s x.pl W), st mo ⟨dk, st mo ?_⟩⟩
        rw [nd7 ‹x.k = 7›]; rfl
      · refine ⟨_, fun nn => r_call (t := (brkE e x.nm (a 0)).y) rfl rfl Tryz.func42 (fun W M E => c_table e x.nm (a 0) (ha 0) W (he.mb M E)), st mo ⟨dk, st mo ?_⟩⟩
        rw [nd8 (by omega)]; rfl
  · refine st mo (st mo ⟨fun hlt => st mo ?_, fun hge => st mo (st mo ?_)⟩)
    · have hil : 2 < x.a.length := by omega
      obtain ⟨y, hy⟩ : ∃ y, x.a[2]? = some y := ⟨_, List.getElem?_eq_getElem hil⟩
      obtain ⟨⟨b, o, h4, h5⟩, h8⟩ := hL.at hy
      refine ⟨b, o, 2, h4, rfl, hil, st mo ⟨y.c, rfl, h5, st mo ?_⟩⟩
      refine ⟨_, fun nn => r_call (t := (a 2).y) rfl rfl Tryz.func13 (fun W M E => hs 2 y hy W (h8.mono E) (he.mb M E)), st mo ?_⟩
      refine ⟨rfl, 1, (a 2).cells.map rel1, _, put_own rfl rfl rfl rfl rfl, by decide, _, rfl, st mo ⟨dk, st mo ?_⟩⟩
      refine ⟨_, wz 3 rfl, st mo ?_⟩
      exact ⟨3, hil, by dsimp; omega, [0, 1, 2, 5], rfl, ⟨fp, fp, fp, fs, fv, trivial⟩, ⟨flr rfl, flr rfl, flr rfl, flr rfl, trivial⟩, xf, rfl, rfl⟩
    · have l2 : x.a.length = 2 := by omega
      repeat' (first | (refine ⟨fun h => ?_, fun h => ?_⟩ <;> first | (exfalso; omega) | refine st mo ?_) | fail "")
      refine ⟨_, fun nn => r_call (t := (opV x.op (a 0) (a 1)).y) rfl rfl Tryz.func40 (fun W M E => q_op x.op (a 0) (a 1) (ha 0).1 (ha 1).1 W), st mo ⟨dk, st mo ?_⟩⟩
      rw [nd5 ‹x.k = 5›]; rfl
  · refine st mo (st mo ⟨fun hlt => absurd hlt (by omega), fun hge => st mo (st mo ?_)⟩)
    have l3 : x.a.length = 3 := by omega
    repeat' (first | (refine ⟨fun h => ?_, fun h => ?_⟩ <;> first | (exfalso; omega) | refine st mo ?_) | fail "")
    refine ⟨_, fun nn => r_call (t := (ifV (a 0) (a 1) (a 2)).y) rfl rfl Tryz.func41 (fun W M E => q_if (a 0) (a 1) (a 2) (ha 0).1 (ha 1).1 (ha 2).1 W), st mo ⟨dk, st mo ?_⟩⟩
    rw [nd6 ‹x.k = 6›]; rfl
  · omega
theorem c_eval (e : Ev) : ∀ (d : Nat) (x : Ex), XU d x → EvD e x (evE e d x) d
  | 0, x, hu => fun w hL he => by
    cases hw : whl x with
    | false => rw [show evE e 0 x = vBad 2 by unfold evE; rw [hw]; rfl]; exact c_no e x hw 0 w hL he
    | true =>
      rw [show evE e 0 x = nodE e x (fun _ => vBl) by unfold evE; rw [hw]; rfl]
      exact c_yes e x hw hu.u (fun _ => vBl) (fun _ => vBl_fit) 0 (fun i y hy => by rw [show x.a = [] from hL] at hy; cases hy) w hL.up he
  | d + 1, x, hu => fun w hL he => by
    cases hw : whl x with
    | false => rw [show evE e (d + 1) x = vBad 2 by unfold evE; rw [hw]; rfl]; exact c_no e x hw (d + 1) w hL he
    | true =>
      rw [show evE e (d + 1) x = nodE e x (fun j => ((x.a[j]?).map (evE e d)).getD vBl) by rw [evE, hw]; rfl]
      exact c_yes e x hw hu.u _ (fun i => by
        cases q : x.a[i]? with
        | none => exact vBl_fit
        | some y => exact fit_ev he (hu.2 y (List.mem_of_getElem? q))) d (fun i y hy => by rw [hy]; exact c_eval e d y (hu.2 y (List.mem_of_getElem? hy))) w hL he
set_option maxRecDepth 20000 in
theorem c_item {d : Nat} {i : It} {e : Ev} (hu : XU d i.x) (w : World) (hL : LT w d i.x) (he : EvL w e) : Calls Tryz.prog 15 #[.agg i.c.toArray, e.v] w fun r W => r = .returned (itE e d i).v ∧ Mb w W := by
  refine fn_pure [.agg (i.c.map rel1).toArray, e.y] Tryz.func15 rfl rfl rfl (run_ok (st mo ?_))
  refine ⟨fun h2 => st mo ?_, fun h2 => st mo ⟨fun h3 => st mo ?_, fun h3 => st mo ?_⟩⟩
  · refine ⟨_, fun nn => r_call (t := (evE e d i.x).y) rfl rfl Tryz.func13 (fun W M E => c_eval e d i.x hu W (hL.mono E) (he.mb M E)), st mo ?_⟩
    refine ⟨_, fun nn => r_call (t := (fitV (evE e d i.x) i.tk i.ts i.pl).y) rfl rfl Tryz.func45 (fun W M E => q_fit (evE e d i.x) (fit_ev he hu).1 i.tk i.ts i.pl W), st mo ⟨dk, st mo ?_⟩⟩
    show _ = _; rw [itE, if_pos h2]; rfl
  · refine ⟨_, fun nn => r_call (t := (evE e d i.x).y) rfl rfl Tryz.func13 (fun W M E => c_eval e d i.x hu W (hL.mono E) (he.mb M E)), st mo ?_⟩
    refine ⟨_, fun nn => r_call (t := (fitV (evE e d i.x) 2 0 0).y) rfl rfl Tryz.func45 (fun W M E => q_fit (evE e d i.x) (fit_ev he hu).1 2 0 0 W), st mo ?_⟩
    show _ = _; rw [itE, if_neg h2, if_pos h3]; rfl
  · refine ⟨_, fun nn => r_call (t := (vBad 2).y) rfl rfl Tryz.func32 (fun W M E => c_bad7 2 W), st mo ?_⟩
    show _ = _; rw [itE, if_neg h2, if_neg h3]; rfl
end Go.Proofs.YtfmfeipeeedfpaaGreat
