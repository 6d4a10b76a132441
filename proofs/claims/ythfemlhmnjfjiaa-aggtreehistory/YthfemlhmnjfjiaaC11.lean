/-
  A part of the proof.
-/
import Derived.Test.YthfemlhmnjfjiaaC10
import Derived.Test.YthfemlhmnjfjiaaC9
import Derived.Test.YthfemlhmnjfjiaaC4
import Derived.Test.YthfemlhmnjfjiaaRows
import Derived.ProofKit
import Derived.OpenShut
import Derived.Carry
import Derived.ChangeMaps5
import Derived.ReadAgain
import Derived.WideKeyArgs
import Derived.SizedLaws
import Derived.Deep.Slices
import Derived.Deep.Strs
/-
 AggtreeHistory: the law's walk.
-/
namespace Go.Proofs.Ythfemlhmnjfjiaa
open Go.RowKit
namespace G
theorem at_inj {w : World} {k : Nat} {a b : Value} (h : At w k [a]) (g : At w k [b]) : a = b := Option.some.inj ((h.1 0 a rfl).symm.trans (g.1 0 b rfl))
theorem svv_rw {w : World} {p : Option Addr} {c : Nat} {vs : List V10} (h : Rw w 10 (.slice p vs.length c) (vs.map V10.cells)) : SVv w p vs := fun k x e => by
 obtain ⟨b, off, cap, e1, h2, _, h4, _⟩ := h.ix (by rw [List.getElem?_map, e]; rfl)
 rw [Value.slice.injEq] at e1
 exact ⟨b, off, e1.1, h2, h4⟩
section
variable {n0 : Nat} {ks : List Nat} {w : World} {t u : Nat} {mt mu : Hd} {tr ur : T} {lk uk : Int}
theorem ins2_ok {at0 id : Int} {p : Option Addr} {cap : Nat} {vs : List V10} (h : G2 n0 ks w t mt tr lk u mu ur uk) (hi : I64 id) (hlk : lk ≤ 3000000000000000000) (hSV : ∀ w', Mk (Wr n0 ks) w w' → SVv w' p vs) (hvo : ∀ x ∈ vs, x.n.ok) (hE : insE mt.sc.length tr at0 id vs.length = 0) : Calls Try.prog 9 #[pt t 0, .int .i64 at0, .int .i64 id, .slice p vs.length cap] w fun e w' => ∃ tr' lk' y kn, e = .returned (.int .i64 0) ∧ G2 n0 ks w' t mt tr' lk' u mu ur uk ∧ Ins tr at0 ⟨id, y, vs⟩ kn tr' ∧ lk ≤ lk' ∧ lk' ≤ lk + 10 * tr.ht + 8 ∧ Mk (Wr n0 ks) w w' := by
 refine (ins2 h hi hlk hSV hvo).mono fun e w' hq => ?_
 obtain ⟨tr', lk', he, hG, hc, hk1, hk2, hM⟩ := hq
 obtain ⟨y, kn, hI⟩ := hc hE
 rw [hE] at he
 exact ⟨tr', lk', y, kn, he, hG, hI, hk1, hk2, hM⟩
theorem sum2S {c : Nat} {S : Sm} (h : G2 n0 ks w t mt tr lk u mu ur uk) (hc : c < mt.sc.length) (hlk : lk ≤ 3000000000000000000) (hS : S = col c (mt.sc.getD c 0) tr.ids) : Calls Try.prog 12 #[pt t 0, .int .i64 ((c : Nat) : Int)] w fun e w' => ∃ lk', e = .returned (.tuple #[smv S, .int .i64 0]) ∧ G2 n0 ks w' t mt tr lk' u mu ur uk ∧ lk ≤ lk' ∧ lk' ≤ lk + 1 ∧ Mk (Wr n0 ks) w w' := by
 subst hS; exact sum2 h hc hlk
theorem qry2S {c a b : Nat} {S : Sm} (h : G2 n0 ks w t mt tr lk u mu ur uk) (hc : c < mt.sc.length) (ha : a ≤ b) (hb9 : (b : Int) ≤ tr.sz) (hlk : lk ≤ 3000000000000000000) (hS : S = prt c (mt.sc.getD c 0) ((a : Nat) : Int) ((b : Nat) : Int) tr.ids) : Calls Try.prog 11 #[pt t 0, .int .i64 ((c : Nat) : Int), .int .i64 ((a : Nat) : Int), .int .i64 ((b : Nat) : Int)] w fun e w' => ∃ lk', e = .returned (.tuple #[smv S, .int .i64 0]) ∧ G2 n0 ks w' t mt tr lk' u mu ur uk ∧ lk ≤ lk' ∧ lk' ≤ lk + 1 + 4 * tr.ht ∧ Mk (Wr n0 ks) w w' := by
 subst hS; exact qry2 h hc ha hb9 hlk
end
namespace R
section
variable {w : World}
set_option maxHeartbeats 4000000 in
theorem history_k (scs : List Int) (ps : Option Addr) (caps : Nat) (sc : List Op6) (p : Option Addr) (cap : Nat) (hsc : ∀ o ∈ sc, o.ok) (hSN : SN w ps scs) (hSA : SA w p sc) (hn : sc.length ≤ 2000000000000) (hle64 : scs.length ≤ 64) : Calls Try.prog 5 #[.slice ps scs.length caps, .slice p sc.length cap] w fun e w' => e = .returned (.bool true) ∧ Mo w w' := by
 refine calls_of (m := 9) (w_enter 204 Try.func5 Try.ntmps5 rfl rfl ?_)
 have M : Mo w w := Mo.refl _
 refine w_seq (w_reg ?_)
 refine wl_m (.const (.bool false)) (.bool false) ?_
 refine w_nil (xn_then (w_seq (w_reg ?_)))
 refine wl_m (.tmp 0) (.slice ps scs.length caps) ?_
 refine wl_callx 7 [(.tmp 26)] _ [.slice ps scs.length caps] rfl rfl (fun _ _ => by kernel_rfl) (new_g (n0 := w.heap.size) (ks := []) (sc := scs) (hSN.mo M) hle64 M.size (fun _ e => by cases e)) rfl ?_
 rintro _ w1 ⟨t, mt, rfl, hG, hmt, ht9, hq⟩
 refine ⟨_, rfl, ?_⟩
 replace M := M.trans hq
 clear hq
 refine wl_m (.tmp 27) (.tuple #[pt t 0, .int .i64 (0)]) ?_
 refine wl_un (fun v => Instr.extract v 0) (.tmp 25) (.tuple #[pt t 0, .int .i64 (0)]) (pt t 0) (fun _ => rfl) rfl (by kernel_rfl) rfl ?_
 refine wl_un (fun v => Instr.extract v 1) (.tmp 25) (.tuple #[pt t 0, .int .i64 (0)]) (.int .i64 (0)) (fun _ => rfl) rfl (by kernel_rfl) rfl ?_
 refine wl_m (.tmp 28) (pt t 0) ?_
 refine wl_m (.tmp 29) (.int .i64 (0)) ?_
 refine w_nil (xn_then (w_seq (w_reg ?_)))
 refine wl_m (.tmp 0) (.slice ps scs.length caps) ?_
 refine wl_callx 7 [(.tmp 31)] _ [.slice ps scs.length caps] rfl rfl (fun _ _ => by kernel_rfl) (new2 hG (hSN.mo M) hle64) rfl ?_
 rintro _ w2 ⟨u, mu, rfl, hG, hmu, hq⟩
 refine ⟨_, rfl, ?_⟩
 replace M := M.trans hq
 clear hq
 refine wl_m (.tmp 32) (.tuple #[pt u 0, .int .i64 (0)]) ?_
 refine wl_un (fun v => Instr.extract v 0) (.tmp 30) (.tuple #[pt u 0, .int .i64 (0)]) (pt u 0) (fun _ => rfl) rfl (by kernel_rfl) rfl ?_
 refine wl_un (fun v => Instr.extract v 1) (.tmp 30) (.tuple #[pt u 0, .int .i64 (0)]) (.int .i64 (0)) (fun _ => rfl) rfl (by kernel_rfl) rfl ?_
 refine wl_m (.tmp 33) (pt u 0) ?_
 refine wl_m (.tmp 34) (.int .i64 (0)) ?_
 refine w_nil (xn_then (w_seq (w_seq (w_reg ?_))))
 refine wl_call 8 [] _ [] (.bool true) rfl rfl (fun _ _ => by kernel_rfl) (begun_n _) rfl ?_
 intro w3 hq
 replace hG := hG.mo hq
 replace M := M.trans hq
 clear hq
 refine wl_un (fun v => Op.unary .not v) (.tmp 35) (.bool true) (.bool false) (fun _ => rfl) rfl (by kernel_rfl) rfl ?_
 refine wl_m (.tmp 36) (.bool false) ?_
 refine wl_m (.tmp 6) (.int .i64 (0)) ?_
 refine wl_m (.tmp 8) (.int .i64 (0)) ?_
 refine wl_b .neq 25 (.tmp 38) (.tmp 39) (.int .i64 (0)) (.int .i64 (0)) (.bool false) (by kernel_rfl) ?_
 refine wl_pick (.tmp 37) (.const (.bool true)) (.tmp 40) false (.bool false) (fun _ => rfl) rfl rfl rfl ?_
 refine wl_m (.tmp 41) (.bool false) ?_
 refine wl_m (.tmp 5) (pt t 0) ?_
 refine wl_b .eql 24 (.tmp 43) (.const (.pointer none)) (pt t 0) (pp none) (.bool false) (eqT _ _ _ _) ?_
 refine wl_m (.tmp 6) (.int .i64 (0)) ?_
 refine wl_b .neq 25 (.tmp 45) (.const (.int .i64 (0))) (.int .i64 (0)) (.int .i64 (0)) (.bool false) (by kernel_rfl) ?_
 refine wl_b .neq 4 (.tmp 44) (.tmp 46) (.bool false) (.bool false) (.bool false) (by kernel_rfl) ?_
 refine wl_pick (.tmp 42) (.const (.bool true)) (.tmp 47) false (.bool false) (fun _ => rfl) rfl rfl rfl ?_
 refine w_nil (xn_then (w_condF rfl (w_skip (xn_then (w_seq (w_seq (w_reg ?_)))))))
 refine wl_m (.tmp 5) (pt t 0) ?_
 refine wl_b .eql 24 (.tmp 49) (.const (.pointer none)) (pt t 0) (pp none) (.bool false) (eqT _ _ _ _) ?_
 refine wl_m (.tmp 50) (.bool false) ?_
 refine wl_m (.tmp 7) (pt u 0) ?_
 refine wl_b .eql 24 (.tmp 52) (.const (.pointer none)) (pt u 0) (pp none) (.bool false) (eqT _ _ _ _) ?_
 refine wl_pick (.tmp 51) (.const (.bool true)) (.tmp 53) false (.bool false) (fun _ => rfl) rfl rfl rfl ?_
 refine w_nil (xn_then (w_condF rfl (w_skip (xn_then (w_seq (w_seq (w_reg ?_)))))))
 refine wl_m (.tmp 1) (.slice p sc.length cap) ?_
 refine wl_val (.int .i64 ((sc.length : Nat) : Int)) (len23 _ _ _ _ _ (by exact rfl) _ _ _ _ _ _) rfl ?_
 refine wl_m (.const (.int .i64 (0))) (.int .i64 (0)) ?_
 refine w_nil (xn_then (w_block ?_))
 refine w_loop (fun r l w1 => ∃ (i : Nat) (tr : T) (lk : Int), r + i = sc.length ∧ look l 0 = .slice ps scs.length caps ∧ look l 5 = pt t 0 ∧ look l 7 = pt u 0 ∧ look l 61 = .slice p sc.length cap ∧ look l 62 = .int .i64 ((sc.length : Nat) : Int) ∧ look l 63 = .int .i64 ((i : Nat) : Int) ∧ G2 w.heap.size [] w1 t mt tr lk u mu .e 0 ∧ lk ≤ 200000 * i ∧ Mo w w1) sc.length ⟨0, .e, 0, by omega, rfl, rfl, rfl, rfl, rfl, rfl, hG, by decide, M⟩ ?_
 clear M hG
 rintro r l wl ⟨i, tr, lk, hr, e0, e5, e7, e61, e62, e63, hG, hlk, M⟩
 have hf1 := hG.facts
 have hht := T.ht_le tr
 refine w_seq ?_
 cases hf0 : decide (i < sc.length) with
 | true =>
  have hf0p := of_decide_eq_true hf0
  refine w_reg ?_
  refine wl_bin (fun x y => do eqGuard .lss 3 (.tmp 63) (.tmp 62) x y; binOp .lss 3 x y) (.tmp 63) (.tmp 62) (.int .i64 ((i : Nat) : Int)) (.int .i64 ((sc.length : Nat) : Int)) (.bool true) (fun _ => rfl) e63 e62 (ltN hf0 _ _ _) rfl ?_
  refine w_nil (xn_then (w_seq (w_condT rfl (w_skip (xn_then (w_seq (w_block (w_seq (w_reg ?_)))))))))
  obtain ⟨o, ho⟩ : ∃ o, sc[i]? = some o := ⟨sc[i]'(by omega), List.getElem?_eq_getElem _⟩
  have hok := hsc o (List.mem_of_getElem? ho)
  have hSVo := (hSA _ o ho).2
  obtain ⟨b, off, hpb, hbl, hrg⟩ := ((hSA.mo M) _ o ho).1
  refine wl_bin (fun x y => Instr.indexAt 23 x y) (.tmp 61) (.tmp 63) (.slice p sc.length cap) (.int .i64 ((i : Nat) : Int)) (pt b (off + i * 7)) (fun _ => rfl) e61 e63 (by rw [hpb]; exact ix23 b off i _ _ (by omega) _) rfl ?_
  refine wl_l 31 (.tmp 65) (pt b (off + i * 7)) (.agg #[.int .i64 (o.d), .int .i64 (o.a), .int .i64 (o.i), .slice o.p o.vs.length o.cap, .int .i64 (o.c), .int .i64 (o.f), .int .i64 (o.e)]) (SA.load hrg) ?_
  refine wl_alloc 31 #[.int .i64 0, .int .i64 0, .int .i64 0, .slice none 0 0, .int .i64 0, .int .i64 0, .int .i64 0] rfl (fun _ => by kernel_rfl) rfl ?_
  intro k1 w11 hk hz hq Q1
  have N_k1 : w.heap.size ≤ k1 := by have := M.size; omega
  replace hG := hG.push (Nat.le_of_eq hk) (by omega) hq
  replace M := M.trans hq
  clear hk hz hq
  refine wl_stx2 31 (.tmp 10) (.tmp 66) k1 0 #[.int .i64 (o.d), .int .i64 (o.a), .int .i64 (o.i), .slice o.p o.vs.length o.cap, .int .i64 (o.c), .int .i64 (o.f), .int .i64 (o.e)] _ [.int .i64 (o.d), .int .i64 (o.a), .int .i64 (o.i), .slice o.p o.vs.length o.cap, .int .i64 (o.c), .int .i64 (o.f), .int .i64 (o.e)] Q1 rfl rfl rfl rfl rfl zs31 rfl rfl rfl ?_
  intro w12 hT Qn
  replace Q1 := Qn
  clear Qn
  replace hG := hG.st hT (by simp)
  replace M := (Mk.refl (fun j => j = k1) _ |>.st hT rfl).mo M (fun _ e => e ▸ N_k1)
  clear hT
  refine w_nil (xn_then (w_seq (w_reg ?_)))
  refine wl_f 31 0 (.tmp 10) (pt k1 0) (pt k1 0) ?_
  refine wl_l 3 (.tmp 67) (pt k1 0) (.int .i64 (o.d)) (run_one Q1 3 0 rfl Try.underlying3 rfl) ?_
  refine w_nil (xn_then (w_block (w_seq ?_)))
  cases hf1 : decide (o.d = 0) with
  | true =>
   have hf1p := of_decide_eq_true hf1
   refine w_reg ?_
   refine wl_b .eql 3 (.tmp 68) (.const (.int .i64 (0))) (.int .i64 (o.d)) (.int .i64 (0)) (.bool true) (eqI hf1 _ _ _) ?_
   refine wl_m (.tmp 78) (.bool true) ?_
   refine w_nil (xn_then (w_condT rfl (w_reg ?_)))
   refine wl_mv (.tmp 5) (pt t 0) (fun _ => rfl) e5 rfl ?_
   refine wl_f 31 1 (.tmp 10) (pt k1 0) (pt k1 1) ?_
   refine wl_l 3 (.tmp 80) (pt k1 1) (.int .i64 (o.a)) (run_one Q1 3 1 rfl Try.underlying3 rfl) ?_
   refine wl_f 31 2 (.tmp 10) (pt k1 0) (pt k1 2) ?_
   refine wl_l 2 (.tmp 82) (pt k1 2) (.int .i64 (o.i)) (run_one Q1 2 2 rfl Try.underlying2 rfl) ?_
   refine wl_f 31 3 (.tmp 10) (pt k1 0) (pt k1 3) ?_
   refine wl_l 29 (.tmp 84) (pt k1 3) (.slice o.p o.vs.length o.cap) (run_one Q1 29 3 rfl Try.underlying29 rfl) ?_
   refine wl_callx 9 [(.tmp 79), (.tmp 81), (.tmp 83), (.tmp 85)] _ [pt t 0, .int .i64 (o.a), .int .i64 (o.i), .slice o.p o.vs.length o.cap] rfl rfl (fun _ _ => by kernel_rfl) (ins2 hG hok.i (by omega) (fun w9 m9 => hSVo.mo (Wr.mo m9 M (Nat.le_refl _))) hok.v) rfl ?_
   rintro _ w13 ⟨tr2, lk2, rfl, hG, _, hk1, hk2, hM2⟩
   refine ⟨_, rfl, ?_⟩
   have hf2 := hG.facts
   have hwr := hM2
   replace M := Wr.mo hM2 M (Nat.le_refl _)
   replace Q1 := Wr.at hM2 Q1 (by simp)
   clear hM2
   clear hwr
   refine w_nil (xn_blk (xn_blk (xn_then (w_reg ?_))))
   refine wl_bin (fun x y => do eqGuard .add 3 (.tmp 63) (.const (.int .i64 (1))) x y; binOp .add 3 x y) (.tmp 63) (.const (.int .i64 (1))) (.int .i64 ((i : Nat) : Int)) (.int .i64 (1)) (.int .i64 ((i + 1 : Nat) : Int)) (fun _ => rfl) e63 rfl (add1r (k := i) (by omega) _ _ _) rfl ?_
   refine wl_m (.tmp 101) (.int .i64 ((i + 1 : Nat) : Int)) ?_
   refine w_nil ?_
   exact xn_loop (r - 1) (by omega) ⟨i + 1, tr2, lk2, by omega, e0, e5, e7, e61, e62, rfl, hG.pop (fun _ e => by cases e), by omega, M⟩
  | false =>
   have hf1p := of_decide_eq_false hf1
   refine w_reg ?_
   refine wl_b .eql 3 (.tmp 68) (.const (.int .i64 (0))) (.int .i64 (o.d)) (.int .i64 (0)) (.bool false) (eqI hf1 _ _ _) ?_
   refine wl_m (.tmp 78) (.bool false) ?_
   refine w_nil (xn_then (w_condF rfl (w_seq ?_)))
   cases hf2 : decide (o.d = 1) with
   | true =>
    have hf2p := of_decide_eq_true hf2
    refine w_reg ?_
    refine wl_b .eql 3 (.tmp 68) (.const (.int .i64 (1))) (.int .i64 (o.d)) (.int .i64 (1)) (.bool true) (eqI hf2 _ _ _) ?_
    refine wl_m (.tmp 88) (.bool true) ?_
    refine w_nil (xn_then (w_condT rfl (w_reg ?_)))
    refine wl_mv (.tmp 5) (pt t 0) (fun _ => rfl) e5 rfl ?_
    refine wl_f 31 2 (.tmp 10) (pt k1 0) (pt k1 2) ?_
    refine wl_l 2 (.tmp 90) (pt k1 2) (.int .i64 (o.i)) (run_one Q1 2 2 rfl Try.underlying2 rfl) ?_
    refine wl_callx 15 [(.tmp 89), (.tmp 91)] _ [pt t 0, .int .i64 (o.i)] rfl rfl (fun _ _ => by kernel_rfl) (del2 hG hok.i (by omega)) rfl ?_
    rintro _ w13 ⟨p9, c9, tr2, lk2, rfl, hG, hk1, hk2, hM2⟩
    refine ⟨_, rfl, ?_⟩
    have hf2 := hG.facts
    have hwr := hM2
    replace M := Wr.mo hM2 M (Nat.le_refl _)
    replace Q1 := Wr.at hM2 Q1 (by simp)
    clear hM2
    clear hwr
    refine w_nil (xn_blk (xn_blk (xn_then (w_reg ?_))))
    refine wl_bin (fun x y => do eqGuard .add 3 (.tmp 63) (.const (.int .i64 (1))) x y; binOp .add 3 x y) (.tmp 63) (.const (.int .i64 (1))) (.int .i64 ((i : Nat) : Int)) (.int .i64 (1)) (.int .i64 ((i + 1 : Nat) : Int)) (fun _ => rfl) e63 rfl (add1r (k := i) (by omega) _ _ _) rfl ?_
    refine wl_m (.tmp 101) (.int .i64 ((i + 1 : Nat) : Int)) ?_
    refine w_nil ?_
    exact xn_loop (r - 1) (by omega) ⟨i + 1, tr2, lk2, by omega, e0, e5, e7, e61, e62, rfl, hG.pop (fun _ e => by cases e), by omega, M⟩
   | false =>
    have hf2p := of_decide_eq_false hf2
    refine w_reg ?_
    refine wl_b .eql 3 (.tmp 68) (.const (.int .i64 (1))) (.int .i64 (o.d)) (.int .i64 (1)) (.bool false) (eqI hf2 _ _ _) ?_
    refine wl_m (.tmp 88) (.bool false) ?_
    refine w_nil (xn_then (w_condF rfl (w_seq ?_)))
    cases hf3 : decide (o.d = 2) with
    | true =>
     have hf3p := of_decide_eq_true hf3
     refine w_reg ?_
     refine wl_b .eql 3 (.tmp 68) (.const (.int .i64 (2))) (.int .i64 (o.d)) (.int .i64 (2)) (.bool true) (eqI hf3 _ _ _) ?_
     refine wl_m (.tmp 94) (.bool true) ?_
     refine w_nil (xn_then (w_condT rfl (w_reg ?_)))
     refine wl_mv (.tmp 5) (pt t 0) (fun _ => rfl) e5 rfl ?_
     refine wl_f 31 2 (.tmp 10) (pt k1 0) (pt k1 2) ?_
     refine wl_l 2 (.tmp 96) (pt k1 2) (.int .i64 (o.i)) (run_one Q1 2 2 rfl Try.underlying2 rfl) ?_
     refine wl_f 31 1 (.tmp 10) (pt k1 0) (pt k1 1) ?_
     refine wl_l 3 (.tmp 98) (pt k1 1) (.int .i64 (o.a)) (run_one Q1 3 1 rfl Try.underlying3 rfl) ?_
     refine wl_callx 16 [(.tmp 95), (.tmp 97), (.tmp 99)] _ [pt t 0, .int .i64 (o.i), .int .i64 (o.a)] rfl rfl (fun _ _ => by kernel_rfl) (mov2 hG hok.i (by omega)) rfl ?_
     rintro _ w13 ⟨p9, c9, tr2, lk2, rfl, hG, hk1, hk2, hM2⟩
     refine ⟨_, rfl, ?_⟩
     have hf2 := hG.facts
     have hwr := hM2
     replace M := Wr.mo hM2 M (Nat.le_refl _)
     replace Q1 := Wr.at hM2 Q1 (by simp)
     clear hM2
     clear hwr
     refine w_nil (xn_blk (xn_blk (xn_then (w_reg ?_))))
     refine wl_bin (fun x y => do eqGuard .add 3 (.tmp 63) (.const (.int .i64 (1))) x y; binOp .add 3 x y) (.tmp 63) (.const (.int .i64 (1))) (.int .i64 ((i : Nat) : Int)) (.int .i64 (1)) (.int .i64 ((i + 1 : Nat) : Int)) (fun _ => rfl) e63 rfl (add1r (k := i) (by omega) _ _ _) rfl ?_
     refine wl_m (.tmp 101) (.int .i64 ((i + 1 : Nat) : Int)) ?_
     refine w_nil ?_
     exact xn_loop (r - 1) (by omega) ⟨i + 1, tr2, lk2, by omega, e0, e5, e7, e61, e62, rfl, hG.pop (fun _ e => by cases e), by omega, M⟩
    | false =>
     have hf3p := of_decide_eq_false hf3
     refine w_reg ?_
     refine wl_b .eql 3 (.tmp 68) (.const (.int .i64 (2))) (.int .i64 (o.d)) (.int .i64 (2)) (.bool false) (eqI hf3 _ _ _) ?_
     refine wl_m (.tmp 94) (.bool false) ?_
     refine w_nil (xn_then (w_condF rfl ?_))
     have hsm : Smos [vq (pt t 0), vq (pt k1 2), vq (.int .i64 (o.i)), vq (pt k1 4), vq (.int .i64 (o.c)), vq (.agg #[.int .i64 (o.d), .int .i64 (o.a), .int .i64 (o.i), .slice o.p o.vs.length o.cap, .int .i64 (o.c), .int .i64 (o.f), .int .i64 (o.e)]), vq (V10.v o.val)] := smos_cons (smo_vq _) (smos_cons (smo_vq _) (smos_cons (smo_vq _) (smos_cons (smo_vq _) (smos_cons (smo_vq _) (smos_cons (smo_vq _) (smos_cons (smo_vq _) (smos_nil)))))))
     have hgr : ∀ a b : World, Mo w12 a → Mo a b → Mo w12 b := fun _ _ h m => h.trans m
     refine w_ogc 7 (fun w9 => Mo w12 w9) [vq (pt t 0), vq (pt k1 2), vq (.int .i64 (o.i)), vq (pt k1 4), vq (.int .i64 (o.c)), vq (.agg #[.int .i64 (o.d), .int .i64 (o.a), .int .i64 (o.i), .slice o.p o.vs.length o.cap, .int .i64 (o.c), .int .i64 (o.f), .int .i64 (o.e)]), vq (V10.v o.val)] [] (by kernel_rfl) (by kernel_rfl) (by kernel_rfl) (by kernel_rfl) rfl (by kernel_rfl) (by kernel_rfl) (by kernel_rfl) latec_nil ((Mo.refl _).drew) ?_ ?_
     ·refine ea_cons ?_ (ea_cons ?_ (ea_cons ?_ (ea_cons ?_ (ea_cons ?_ (ea_cons ?_ (ea_cons ?_ (ea_nil)))))))
      ·exact oc_eq _ rfl hgr hsm (fun f wf hq hd K9 hK => go_run rfl (wo_mv (.tmp 5) (pt t 0) (fun _ => rfl) e5 (hK _ (Mo.refl _))))
      ·exact oc_eq _ rfl hgr hsm (fun f wf hq hd K9 hK => go_run rfl (wo_un (fun v => Instr.fieldAt 31 v 2) (.tmp 10) (pt k1 0) (pt k1 2) (fun _ => rfl) rfl (by kernel_rfl) (hK _ (Mo.refl _))))
      ·exact oc_eq _ rfl hgr hsm (fun f wf hq hd K9 hK => have Q1 := Q1.mo hq; go_run rfl (wo_load 2 (.tmp 70) (pt k1 2) (.int .i64 (o.i)) rfl (hd 1 rfl) (run_one Q1 2 2 rfl Try.underlying2 rfl) (hK _ (Mo.refl _))))
      ·exact oc_eq _ rfl hgr hsm (fun f wf hq hd K9 hK => go_run rfl (wo_un (fun v => Instr.fieldAt 31 v 4) (.tmp 10) (pt k1 0) (pt k1 4) (fun _ => rfl) rfl (by kernel_rfl) (hK _ (Mo.refl _))))
      ·exact oc_eq _ rfl hgr hsm (fun f wf hq hd K9 hK => have Q1 := Q1.mo hq; go_run rfl (wo_load 3 (.tmp 72) (pt k1 4) (.int .i64 (o.c)) rfl (hd 3 rfl) (run_one Q1 3 4 rfl Try.underlying3 rfl) (hK _ (Mo.refl _))))
      ·exact oc_eq _ rfl hgr hsm (fun f wf hq hd K9 hK => have Q1 := Q1.mo hq; go_run rfl (wo_load 31 (.tmp 10) (pt k1 0) (.agg #[.int .i64 (o.d), .int .i64 (o.a), .int .i64 (o.i), .slice o.p o.vs.length o.cap, .int .i64 (o.c), .int .i64 (o.f), .int .i64 (o.e)]) rfl rfl (run_row Q1 31 0 7 _ rfl Try.underlying31 rfl zs31) (hK _ (Mo.refl _))))
      ·exact oc_eq _ rfl hgr hsm (fun f wf hq hd K9 hK => go_run rfl (wo_call 18 [(.tmp 74)] _ [.agg #[.int .i64 (o.d), .int .i64 (o.a), .int .i64 (o.i), .slice o.p o.vs.length o.cap, .int .i64 (o.c), .int .i64 (o.f), .int .i64 (o.e)]] (V10.v o.val) rfl (li1 (hd 5 rfl)) (fun _ _ => by kernel_rfl) (value_n o (hSVo.mo (M.trans hq))) hK))
     intro f9 w13 hq hR9
     have r69 := hR9 0 rfl
     have r70 := hR9 1 rfl
     have r71 := hR9 2 rfl
     have r72 := hR9 3 rfl
     have r73 := hR9 4 rfl
     have r74 := hR9 5 rfl
     have r75 := hR9 6 rfl
     replace Q1 := Q1.mo hq
     replace hG := hG.mo hq
     replace M := M.trans hq
     clear hq hR9 hsm hgr
     refine wl_callx 17 [(.tmp 69), (.tmp 71), (.tmp 73), (.tmp 75)] _ [pt t 0, .int .i64 (o.i), .int .i64 (o.c), V10.v o.val] rfl (li4 r69 r71 r73 r75) (fun _ _ => by kernel_rfl) (set2 hG hok.i (Op6.val_ok hok) (by omega)) rfl ?_
     rintro _ w14 ⟨c9, tr2, lk2, rfl, hG, hk1, hk2, hM2⟩
     refine ⟨_, rfl, ?_⟩
     have hf2 := hG.facts
     have hwr := hM2
     replace M := Wr.mo hM2 M (Nat.le_refl _)
     replace Q1 := Wr.at hM2 Q1 (by simp)
     clear hM2
     clear hwr
     refine w_nil (xn_blk (xn_blk (xn_then (w_reg ?_))))
     refine wl_bin (fun x y => do eqGuard .add 3 (.tmp 63) (.const (.int .i64 (1))) x y; binOp .add 3 x y) (.tmp 63) (.const (.int .i64 (1))) (.int .i64 ((i : Nat) : Int)) (.int .i64 (1)) (.int .i64 ((i + 1 : Nat) : Int)) (fun _ => rfl) e63 rfl (add1r (k := i) (by omega) _ _ _) rfl ?_
     refine wl_m (.tmp 101) (.int .i64 ((i + 1 : Nat) : Int)) ?_
     refine w_nil ?_
     exact xn_loop (r - 1) (by omega) ⟨i + 1, tr2, lk2, by omega, e0, e5, e7, e61, e62, rfl, hG.pop (fun _ e => by cases e), by omega, M⟩
 | false =>
  have hf0p := of_decide_eq_false hf0
  refine w_reg ?_
  refine wl_bin (fun x y => do eqGuard .lss 3 (.tmp 63) (.tmp 62) x y; binOp .lss 3 x y) (.tmp 63) (.tmp 62) (.int .i64 ((i : Nat) : Int)) (.int .i64 ((sc.length : Nat) : Int)) (.bool false) (fun _ => rfl) e63 e62 (ltN hf0 _ _ _) rfl ?_
  refine w_nil (xn_then (w_seq (w_condF rfl (w_exit (xx_then (xx_then (xx_blk (xn_then (w_seq (w_reg ?_))))))))))
  refine wl_alloc 59 #[.slice none 0 0] rfl (fun _ => by kernel_rfl) rfl ?_
  intro k1 w11 hk hz hq Q1
  have N_k1 : w.heap.size ≤ k1 := by have := M.size; omega
  replace hG := hG.push (Nat.le_of_eq hk) (by omega) hq
  replace M := M.trans hq
  clear hk hz hq
  refine w_nil (xn_then (w_seq (w_reg ?_)))
  refine wl_alloc 60 #[.slice none 0 0] rfl (fun _ => by kernel_rfl) rfl ?_
  intro k2 w12 hk hz hq Q2
  have ne_k1_k2 : k1 ≠ k2 := by have := Q1.lt; omega
  have N_k2 : w.heap.size ≤ k2 := by have := M.size; omega
  replace hG := hG.push (Nat.le_of_eq hk) (by omega) hq
  replace Q1 := Q1.mo hq
  replace M := M.trans hq
  clear hk hz hq
  refine w_nil (xn_then (w_seq (w_seq (w_reg ?_))))
  refine wl_mv (.tmp 5) (pt t 0) (fun _ => rfl) e5 rfl ?_
  have hk1s := Q1.lt
  have hk2s := Q2.lt
  refine wl_callx 21 [(.tmp 102)] _ [pt t 0] rfl rfl (fun _ _ => by kernel_rfl) (all_2 hG) rfl ?_
  rintro _ w13 ⟨kb, pz, cz, Z, rfl, QB, hZ, hRA, hRV, hpb, hnz, hkb, hq⟩
  refine ⟨_, rfl, ?_⟩
  replace Q1 := Q1.mo hq
  replace Q2 := Q2.mo hq
  replace M := M.trans hq
  replace hG := hG.mo hq
  clear hq
  refine w_nil (xn_then (w_block ?_))
  have hNR : w.heap.size ≤ w13.heap.size := M.size
  obtain ⟨hG0, hks0, Dt, Du, hFt, hFu, hBt, hBu, hdis⟩ := hG
  obtain ⟨B9, hB9⟩ : ∃ b, b = w13.heap.size := ⟨_, rfl⟩
  have hk1R := Q1.lt
  have hk2R := Q2.lt
  rw [← hB9] at hk1R hk2R
  have hbt : ∀ j, Bt Dt mt j → j < B9 ∧ j ≠ k1 ∧ j ≠ k2 := fun j hj => ⟨by rw [hB9]; exact Bt.lt hFt hj, fun e => (hBt j hj).2 (by rw [e]; simp), fun e => (hBt j hj).2 (by rw [e]; simp)⟩
  have hbu : ∀ j, Bt Du mu j → j < B9 ∧ j ≠ k1 ∧ j ≠ k2 := fun j hj => ⟨by rw [hB9]; exact Bt.lt hFu hj, fun e => (hBu j hj).2 (by rw [e]; simp), fun e => (hBu j hj).2 (by rw [e]; simp)⟩
  have hzl : Z.length = tr.ids.length := by rw [← hZ]; simp
  have hzs := T.sz_ids tr
  have hzv : ∀ z ∈ Z, z.1.vs.length ≤ 64 := by
   intro z hz
   have h9 : z.1 ∈ tr.ids := by rw [← hZ]; exact List.mem_map_of_mem hz
   rw [(hf1.2.2.2.2 z.1 h9).2, hmt]; exact hle64
  refine w_rh 42 #[] #[pt kb 0] rfl (fun _ _ => by kernel_rfl) (fun x : Py × Value => #[.int .i64 x.1.i, x.2]) (TZ w13 Z) tz_own FZ (fun a b => Kd (KZ pz Z) a b ∧ a.heap.size ≤ b.heap.size) (fun xs => xs.map (·.1) = Z.map (·.1)) (fun pre => ∃ i : Nat, 0 < i ∧ i ≤ Z.length ∧ pre.map (·.1) = (Z.take i).map (·.1)) Z.length (all1_seqh QB hRA hRV (by omega) (fun z hz => Nat.le_trans (hzv z hz) (by decide))) (fun h k => ⟨Kd.tr h.1 k.1, Nat.le_trans h.2 k.2⟩) (fun W l o o' hl _ _ _ => ⟨fun k hk => World.putObj_heap_other (by rcases hk with hk | ⟨z, hz, hk⟩; (have := (hpb k hk).2; omega); (have := (hnz z hz k hk).2; omega)), by simp⟩) (fun _ => rfl) (fun (pre : List (Py × Value)) W => B9 ≤ W.heap.size ∧ (∃ v1 v2 U, HR B9 k1 k2 (pre.map (fun x => x.1.i)) pre W v1 v2 U) ∧ FT Dt W t mt tr lk ∧ FT Du W u mu .e 0 ∧ Mo w W) (fun _ _ _ => False) ?hI (fun _ _ _ _ _ h _ _ _ => h) ⟨Nat.le_of_eq hB9, ⟨.slice none 0 0, .slice none 0 0, [], ⟨Q1, Q2, ⟨rfl, .inl ⟨rfl, rfl⟩⟩, ⟨rfl, .inl ⟨rfl, rfl⟩⟩, (fun _ _ _ e => by cases e), (fun _ e => by cases e), (fun _ e => by cases e), (fun _ e => by cases e), hk1R, hk2R, ne_k1_k2⟩⟩, hFt, hFu, M⟩ _ ?lx (fun x => frps2 104 105 _ _) ?assign ?body ?done (fun _ _ _ _ _ _ h _ => h.elim)
  case hI => exact fun s9 W W' row ⟨h0, ⟨v1, v2, U, h1⟩, h2, h3, h4⟩ hg hf hr => ⟨Nat.le_trans h0 hg.size, ⟨v1, v2, U, h1.grown hg (fun r e => (hr r e).2)⟩, h2.keptB (mk_grown hg hf) (fun j hj e => by have := (hbt j hj).1; have := (hr j e).1; omega), h3.keptB (mk_grown hg hf) (fun j hj e => by have := (hbu j hj).1; have := (hr j e).1; omega), own_moF hNR s9 W W' row h4 hg hf hr⟩
  case assign =>
   intro lp x W K hK
   refine w_seq (w_reg ?_)
   refine wl_m (.tmp 104) (.int .i64 (x.1.i)) ?_
   refine w_nil (xn_then (w_reg ?_))
   refine wl_m (.tmp 105) (x.2) ?_
   refine w_nil ?_
   exact hK
  case body =>
   rintro lp pre x W ⟨hBW, ⟨v1, v2, U, hH⟩, hFt, hFu, M⟩ ⟨⟨z, hz1, hz2⟩, hRx, hbx⟩ ⟨W0, ⟨_, ⟨v1b, v2b, Ub, hH0⟩, _⟩, hF0, hAA⟩ hlen
   have hv1e : v1b = v1 := at_inj (hAA _ _ _ hH0.a1) hH.a1
   have hv2e : v2b = v2 := at_inj (hAA _ _ _ hH0.a2) hH.a2
   have hxv : ∀ b, ob x.2 = some b → v1.ownBlock ≠ some b := fun b hb e => by have h1 := hF0 b hb; have h2 := (hH0.o1.lt b (by rw [hv1e]; exact e)).2; omega
   have hxv3 : ∀ b, ob x.2 = some b → v2.ownBlock ≠ some b := fun b hb e => by have h1 := hF0 b hb; have h2 := (hH0.o2.lt b (by rw [hv2e]; exact e)).2; omega
   obtain ⟨L1, hL1⟩ : ∃ L, L = pre.map (fun x : Py × Value => x.1.i) := ⟨_, rfl⟩
   rw [← hL1] at hH
   have hL1l : L1.length = pre.length := by rw [hL1]; simp
   have hvl : x.1.vs.length ≤ 64 := by
    have h0 : x.1 = z.1 := hz2
    rw [h0]; exact hzv z (List.mem_of_getElem? hz1)
   replace hRx : Rw W 10 x.2 (x.1.vs.map V10.cells) := hRx
   replace hbx : ∀ b, ob x.2 = some b → B9 ≤ b := fun b hb => by rw [hB9]; exact hbx b hb
   have hxW : ∀ b, ob x.2 = some b → b < W.heap.size := fun b hb => hRx.lt hb
   refine w_block (w_seq (w_reg ?_))
   refine wl_l 59 (.tmp 11) (pt k1 0) v1 (run_one hH.a1 59 0 rfl Try.underlying59 rfl) ?_
   refine wl_m (.tmp 13) (.int .i64 x.1.i) ?_
   refine wl_bs59 (.tmp 107) x.1.i rfl rfl rfl ?_
   intro g9 wa hk9 hz9 hq Qg
   refine wl_app59 (.tmp 106) (.tmp 108) B9 v1 L1.length (L1.map (fun i => Value.int .i64 i)) g9 1 1 [.int .i64 x.1.i] rfl rfl rfl (own_mo59 hH.o1 hq) rfl Qg (fun u hu => by rw [List.mem_singleton.1 hu]; rfl) (by decide) (by omega) (by have := hq.size; omega) rfl ?_
   intro v1b wb ho1 hA1 hb1
   obtain ⟨g5, c5, hv5, _⟩ := ho1.form (by omega)
   have Q9 := hA1.at (hH.a1.mo hq) (hH.n1 hH.k1B)
   refine wl_st1x 59 (.tmp 11) (.tmp 109) k1 0 (.slice (some ⟨g5, 0, none⟩) (L1.length + 1) c5) [v1] [.slice (some ⟨g5, 0, none⟩) (L1.length + 1) c5] Q9 rfl rfl rfl hv5 rfl zs59 rfl rfl rfl rfl ?_
   intro wc hT Qn
   refine w_nil ?_
   rw [← hv5] at Qn
   obtain ⟨hH2, hM1⟩ := hH.ids hq hA1 ho1 hb1 hT Qn
   have hM1s := hM1.size
   have hRx2 := hRx.kept hM1 (fun b hb e => by have := hbx b hb; have := hxW b hb; rcases e with e | e; (have := hH.k1B; omega); (exact hxv b hb e))
   refine xn_then ?_
   have hv2b : ∀ k, v2.ownBlock = some k → k < wc.heap.size := fun k e => (hH2.o2.lt k e).2
   obtain ⟨pv, cv, hxv2, _⟩ := id hRx2
   have hsm : Smos [vq v2, vq x.2, fun u w9 => Rw w9 10 u (x.1.vs.map V10.cells) ∧ (∀ b, ob u = some b → wc.heap.size ≤ b ∧ b < w9.heap.size) ∧ (∃ p n c, u = Value.slice p n c), fun a w9 => ∃ k u, a = .slice (some ⟨k, 0, none⟩) 1 1 ∧ wc.heap.size ≤ k ∧ At w9 k [u] ∧ Rw w9 10 u (x.1.vs.map V10.cells) ∧ (∀ b, ob u = some b → wc.heap.size ≤ b ∧ b < w9.heap.size) ∧ (∃ p n c, u = Value.slice p n c), fun a w9 => ∃ u, w9.ownsRow B9 29 1 a (pre.length + 1) (U ++ [u]) ∧ (∀ b, b < wc.heap.size → v2.ownBlock ≠ some b → a.ownBlock ≠ some b) ∧ (∀ b, ob u = some b → a.ownBlock ≠ some b) ∧ Rw w9 10 u (x.1.vs.map V10.cells) ∧ (∀ b, ob u = some b → wc.heap.size ≤ b ∧ b < w9.heap.size) ∧ (∃ p n c, u = Value.slice p n c)] := smos_cons (smo_vq _) (smos_cons (smo_vq _) (smos_cons (fun u a b h m => ⟨h.1.mo m, fun b hb => ⟨(h.2.1 b hb).1, Nat.lt_of_lt_of_le (h.2.1 b hb).2 m.size⟩, h.2.2⟩) (smos_cons (fun z a b ⟨k, u, e, e2, hA, h⟩ m => ⟨k, u, e, e2, hA.mo m, ⟨h.1.mo m, fun b hb => ⟨(h.2.1 b hb).1, Nat.lt_of_lt_of_le (h.2.1 b hb).2 m.size⟩, h.2.2⟩⟩) (smos_cons (fun z a b ⟨u, e, e3, e4, h⟩ m => ⟨u, own_mo60 e m, e3, e4, ⟨h.1.mo m, fun b hb => ⟨(h.2.1 b hb).1, Nat.lt_of_lt_of_le (h.2.1 b hb).2 m.size⟩, h.2.2⟩⟩) (smos_nil)))))
   have hgr : ∀ a b : World, (fun w9 => AppW v2 wc w9 ∧ w9.ownsRow B9 29 1 v2 pre.length U) a → Mo a b → (fun w9 => AppW v2 wc w9 ∧ w9.ownsRow B9 29 1 v2 pre.length U) b := fun a b h m => ⟨h.1.grow m, own_mo60 h.2 m⟩
   refine w_ogc 5 (fun w9 => AppW v2 wc w9 ∧ w9.ownsRow B9 29 1 v2 pre.length U) [vq v2, vq x.2, fun u w9 => Rw w9 10 u (x.1.vs.map V10.cells) ∧ (∀ b, ob u = some b → wc.heap.size ≤ b ∧ b < w9.heap.size) ∧ (∃ p n c, u = Value.slice p n c), fun a w9 => ∃ k u, a = .slice (some ⟨k, 0, none⟩) 1 1 ∧ wc.heap.size ≤ k ∧ At w9 k [u] ∧ Rw w9 10 u (x.1.vs.map V10.cells) ∧ (∀ b, ob u = some b → wc.heap.size ≤ b ∧ b < w9.heap.size) ∧ (∃ p n c, u = Value.slice p n c), fun a w9 => ∃ u, w9.ownsRow B9 29 1 a (pre.length + 1) (U ++ [u]) ∧ (∀ b, b < wc.heap.size → v2.ownBlock ≠ some b → a.ownBlock ≠ some b) ∧ (∀ b, ob u = some b → a.ownBlock ≠ some b) ∧ Rw w9 10 u (x.1.vs.map V10.cells) ∧ (∀ b, ob u = some b → wc.heap.size ≤ b ∧ b < w9.heap.size) ∧ (∃ p n c, u = Value.slice p n c)] [] (by kernel_rfl) (by kernel_rfl) (by kernel_rfl) (by kernel_rfl) rfl (by kernel_rfl) (by kernel_rfl) (by kernel_rfl) latec_nil ⟨AppW.refl _ _, own_mo60 hH2.o2 ((Mo.refl _).drew)⟩ ?_ ?_
   ·refine ea_cons ?_ (ea_cons ?_ (ea_cons ?_ (ea_cons ?_ (ea_cons ?_ (ea_nil)))))
    ·exact oc_eq _ rfl hgr hsm (fun f wf hG9 hd K hK => have Q9 := hG9.1.at hH2.a2 (hH2.n2 hH2.k2B); go_run rfl (wo_load 60 (.tmp 12) (pt k2 0) v2 rfl rfl (run_one Q9 60 0 rfl Try.underlying60 rfl) (hK _ (Mo.refl _))))
    ·exact oc_eq _ rfl hgr hsm (fun f wf hG9 hd K hK => go_run rfl (wo_mv (.tmp 14) x.2 (fun _ => rfl) rfl (hK _ (Mo.refl _))))
    ·refine ⟨fun f wf hG9 hd K hK => ?_⟩
     have hRf := hG9.1.rw hRx2 hxv3
     rw [hxv2] at hRf
     refine go_run rfl (wo_callx 22 [(.tmp 111)] _ [.slice pv (x.1.vs.map V10.cells).length cv] rfl (li1 ((hd 1 rfl).trans hxv2)) (fun _ _ => by kernel_rfl) (clv_n (fun z hz => by obtain ⟨y, _, rfl⟩ := List.mem_map.1 hz; rfl) hRf.rows (by rw [List.length_map]; omega)) (fun e9 w9 ⟨p9, c9, he, h1, h2, hq⟩ => ⟨_, he, hK _ w9 (hgr _ _ hG9 hq) ⟨h1, fun b hb => ⟨Nat.le_trans hG9.1.size (h2 b hb), h1.lt hb⟩, ⟨_, _, _, rfl⟩⟩ (fun j u _ hr => hsm j u _ _ hr hq)⟩))
    ·refine ⟨fun f wf hG9 hd K hK => ?_⟩
     have h9 := hd 2 rfl
     exact go_run rfl (wo_bs60 (.tmp 112) (f 2) h9.2.2 rfl rfl (fun k w9 hk _ hq hA => hK _ w9 (hgr _ _ hG9 hq) ⟨k, f 2, rfl, by have := hG9.1.size; omega, hA, h9.1.mo hq, fun b hb => ⟨(h9.2.1 b hb).1, Nat.lt_of_lt_of_le (h9.2.1 b hb).2 hq.size⟩, h9.2.2⟩ (fun j u _ hr => hsm j u _ _ hr hq)))
    ·refine ⟨fun f wf hG9 hd K hK => ?_⟩
     obtain ⟨k9, u9, e9, h9, hA9, hU⟩ := hd 3 rfl
     have hGs := hG9.1.size
     have hapart : ∀ a : Value, a.ownBlock = v2.ownBlock ∨ a.ownBlock = some wf.heap.size → (∀ b, b < wc.heap.size → v2.ownBlock ≠ some b → a.ownBlock ≠ some b) ∧ ∀ b, ob u9 = some b → a.ownBlock ≠ some b := fun a h4 => ⟨fun b hb hne e => by rcases h4 with h | h; (exact hne (h.symm.trans e)); (rw [h] at e; cases e; omega), fun b hb e => by have hb2 := hU.2.1 b hb; rcases h4 with h | h; (have := hv2b b (h.symm.trans e); omega); (rw [h] at e; cases e; omega)⟩
     refine go_run rfl (wo_app60 (.tmp 110) (.tmp 113) B9 v2 pre.length U k9 1 1 [u9] rfl (hd 0 rfl) e9 hG9.2 rfl hA9 (fun u hu => by rw [List.mem_singleton.1 hu]; obtain ⟨_, _, _, e⟩ := hU.2.2; rw [e]; rfl) (by decide) (by omega) (by omega) (fun v9 w9 h1 h2 h3 h4 => hK v9 w9 ⟨hG9.1.trans h2, h3⟩ ⟨u9, h1, (hapart v9 h4).1, (hapart v9 h4).2, h2.rw hU.1 (fun b hb e => by have := hv2b b e; have := hU.2.1 b hb; omega), fun b hb => ⟨(hU.2.1 b hb).1, Nat.lt_of_lt_of_le (hU.2.1 b hb).2 h2.size⟩, hU.2.2⟩ (fun j u hj hr => ?_)))
     have hvW : ∀ b, wc.heap.size ≤ b → v2.ownBlock ≠ some b := fun b hb e => by have := hv2b b e; omega
     match j, hj, hr with
     | 0, _, hr => exact hr
     | 1, _, hr => exact hr
     | 2, _, hr => exact (fun h => ⟨h2.rw h.1 (fun b hb => hvW b (h.2.1 b hb).1), fun b hb => ⟨(h.2.1 b hb).1, Nat.lt_of_lt_of_le (h.2.1 b hb).2 h2.size⟩, h.2.2⟩) hr
     | 3, _, hr => obtain ⟨k0, u0, e0, q2, q3, h⟩ := hr; exact ⟨k0, u0, e0, q2, h2.at q3 (hvW k0 q2), ⟨h2.rw h.1 (fun b hb => hvW b (h.2.1 b hb).1), fun b hb => ⟨(h.2.1 b hb).1, Nat.lt_of_lt_of_le (h.2.1 b hb).2 h2.size⟩, h.2.2⟩⟩
     | 4, hj, _ => exact absurd rfl hj
     | j + 5, _, _ => trivial
   intro f w5 hG9 hR9
   obtain ⟨u5, hown5, onz, onu, hU5⟩ := hR9 4 rfl
   obtain ⟨g6, c6, hv6, _⟩ := hown5.form (by omega)
   have Q15 := hG9.1.at hH2.a2 (hH2.n2 hH2.k2B)
   refine wl_st1x 60 (.tmp 12) (.tmp 114) k2 0 (.slice (some ⟨g6, 0, none⟩) (pre.length + 1) c6) [v2] [.slice (some ⟨g6, 0, none⟩) (pre.length + 1) c6] Q15 rfl rfl rfl hv6 rfl zs60 rfl rfl rfl rfl ?_
   intro w6 hT2 Q16
   refine w_nil ?_
   rw [← hv6] at Q16
   obtain ⟨hH3, hM2⟩ := hH2.rows (x := x) (by have := hM1.size; omega) hG9.1 hown5 onz hU5.1 hU5.2.2 (fun b hb => ⟨(hU5.2.1 b hb).1, onu b hb⟩) hT2 Q16
   refine xn_blk ?_
   have hMT : Mk (fun j => j = k1 ∨ j = k2 ∨ v1.ownBlock = some j ∨ v2.ownBlock = some j) W w6 := (hM1.sub (fun j e => by rcases e with e | e; exact Or.inl e; exact Or.inr (Or.inr (Or.inl e)))).tr hM2 (fun j _ e => by rcases e with e | e; exact Or.inr (Or.inl e); exact Or.inr (Or.inr (Or.inr e)))
   have hnb : ∀ j, j < B9 → j ≠ k1 → j ≠ k2 → ¬ (j = k1 ∨ j = k2 ∨ v1.ownBlock = some j ∨ v2.ownBlock = some j) := fun j h1 h2 h3 e => by rcases e with e | e | e | e; exact h2 e; exact h3 e; exact hH.n1 h1 e; exact hH.n2 h1 e
   exact WX.mk ⟨keeps_mk3 hMT (fun j e => by rcases e with rfl | rfl | e | e; exact at_cells hH.a1; exact at_cells hH.a2; exact own_cells hH.o1 e; exact own_cells hH.o2 e), ⟨fun j hj => hMT.block j (by rcases hj with hj | ⟨z, hz, hj⟩; (have := (hpb j hj).2; omega); (have := (hnz z hz j hj).2; omega)) (hnb j (by rcases hj with hj | ⟨z, hz, hj⟩; (have := (hpb j hj).2; omega); (have := (hnz z hz j hj).2; omega)) (by rcases hj with hj | ⟨z, hz, hj⟩; (have := (hpb j hj).1; omega); (have := (hnz z hz j hj).1; omega)) (by rcases hj with hj | ⟨z, hz, hj⟩; (have := (hpb j hj).1; omega); (have := (hnz z hz j hj).1; omega))), hMT.size⟩, Nat.le_trans hBW hMT.size, ⟨_, _, _, by rw [List.map_append, ← hL1]; exact hH3⟩, hFt.keptB hMT (fun j hj => hnb j (hbt j hj).1 (hbt j hj).2.1 (hbt j hj).2.2), hFu.keptB hMT (fun j hj => hnb j (hbu j hj).1 (hbu j hj).2.1 (hbu j hj).2.2), hMT.mo M (fun j e => by rcases e with rfl | rfl | e | e; exact N_k1; exact N_k2; (have := (hH.o1.lt j e).1; omega); (have := (hH.o2.lt j e).1; omega))⟩
  case done =>
   rintro D xs W hD hxs ⟨hBW, ⟨v1, v2, U, hH⟩, hFt, hFu, M⟩ hK
   have hDs := (Array.getElem?_eq_some_iff.1 hK).1
   have hxt : xs.map (·.1) = tr.ids := hxs.trans hZ
   have hxl : xs.length = tr.ids.length := by rw [← hxt]; simp
   have hBD : B9 ≤ D := by rw [hB9]; exact hD
   have hkl := hH.kl
   have hG : G2 w.heap.size (D :: (KLs v1 v2 U ++ [k2, k1])) W t mt tr lk u mu .e 0 := by
    have kw : ∀ j, w.heap.size ≤ j → j < B9 → j ≠ k1 → j ≠ k2 → Wr w.heap.size (D :: (KLs v1 v2 U ++ [k2, k1])) j := fun j h0 h1 h2 h3 => ⟨h0, fun q => by
     rcases List.mem_cons.1 q with e | q
     ·omega
     ·rcases List.mem_append.1 q with q | q
      ·have := (hkl j q).1; omega
      ·simp only [List.mem_cons, List.not_mem_nil, or_false] at q; rcases q with q | q; exact h3 q; exact h2 q⟩
    refine ⟨M.size, fun k hk => ?_, Dt, Du, hFt, hFu, fun j hj => kw j (hBt j hj).1 (hbt j hj).1 (hbt j hj).2.1 (hbt j hj).2.2, fun j hj => kw j (hBu j hj).1 (hbu j hj).1 (hbu j hj).2.1 (hbu j hj).2.2, hdis⟩
    rcases List.mem_cons.1 hk with rfl | hk
    ·exact hDs
    ·rcases List.mem_append.1 hk with hk | hk
     ·exact (hkl k hk).2
     ·simp only [List.mem_cons, List.not_mem_nil, or_false] at hk; rcases hk with rfl | rfl; exact hH.a2.2.2; exact hH.a1.2.2
   replace hD := Nat.le_trans hNR hD
   have Q1 := hH.a1
   have Q2 := hH.a2
   obtain ⟨p1, c1, hv1, _⟩ := own_sl hH.o1
   obtain ⟨p2, c2, hv2, _⟩ := own_sl hH.o2
   have hL1l : (xs.map (fun x : Py × Value => x.1.i)).length = xs.length := by simp
   rw [hL1l] at hv1
   clear hFt hFu hB9 hNR hkl hBt hBu hbt hbu hdis hxs hks0 hG0 hRA hRV hpb hnz hzv hzl QB hkb
   have hKS : ∀ k, k = k1 ∨ k = k2 ∨ k ∈ KLs v1 v2 U → k ∈ (D :: (KLs v1 v2 U ++ [k2, k1])) := fun k e => by rcases e with rfl | rfl | e; simp; simp; (exact List.mem_cons_of_mem _ (List.mem_append_left _ e))
   obtain ⟨KS, hKSd⟩ : ∃ X, X = (D :: (KLs v1 v2 U ++ [k2, k1])) := ⟨_, rfl⟩
   rw [← hKSd] at hKS hG
   have hDK : D ∈ KS := by rw [hKSd]; simp
   have hk1K : k1 ∈ KS := hKS k1 (Or.inl rfl)
   have hk2K : k2 ∈ KS := hKS k2 (Or.inr (Or.inl rfl))
   subst hv1 hv2
   clear hKSd
   refine xn_blk (xn_then (w_seq (w_seq (w_reg ?_))))
   refine wl_l 59 (.tmp 11) (pt k1 0) (.slice p1 xs.length c1) (run_one Q1 59 0 rfl Try.underlying59 rfl) ?_
   refine wl_val (.int .i64 ((xs.length : Nat) : Int)) (len59 _ _ _ _ _ (by exact rfl) _ _ _ _ _ _) rfl ?_
   refine wl_b .sub 3 (.tmp 116) (.const (.int .i64 (1))) (.int .i64 ((xs.length : Nat) : Int)) (.int .i64 (1)) (.int .i64 (((xs.length : Nat) : Int) - 1)) (subI (by omega) (by omega) _ _ _) ?_
   refine wl_m (.tmp 117) (.int .i64 (((xs.length : Nat) : Int) - 1)) ?_
   refine w_nil (xn_then (w_block ?_))
   refine w_loop (fun r l w1 => ∃ (ur : T) (uk : Int), r ≤ xs.length ∧ ur.ids.map rk = (tr.ids.drop r).map rk ∧ look l 15 = .int .i64 (((r : Nat) : Int) - 1) ∧ look l 0 = .slice ps scs.length caps ∧ look l 5 = pt t 0 ∧ look l 7 = pt u 0 ∧ look l 11 = pt k1 0 ∧ look l 12 = pt k2 0 ∧ G2 w.heap.size KS w1 t mt tr lk u mu ur uk ∧ HR B9 k1 k2 (xs.map (fun x : Py × Value => x.1.i)) xs w1 (.slice p1 xs.length c1) (.slice p2 xs.length c2) U ∧ w1.heap[D]? = some (.deferred (some [])) ∧ uk + 200000 * r ≤ 200000 * xs.length ∧ Mo w w1) xs.length ⟨.e, 0, Nat.le_refl _, by rw [hxl, List.drop_length]; rfl, rfl, e0, e5, e7, rfl, rfl, hG, hH, hK, by omega, M⟩ ?_
   clear M hG hH hK Q1 Q2
   rintro r l wl ⟨ur, uk, hrx, hrk, e15, e0, e5, e7, e11, e12, hG, hH, hK, huk, M⟩
   have hf2 := hG.swap.facts
   have hht := T.ht_le ur
   have Q1 := hH.a1
   have Q2 := hH.a2
   rcases r with _ | j
   ·replace e15 : look l 15 = .int .i64 (-1) := e15
    rw [List.drop_zero] at hrk
    clear hH Q2
    refine w_seq (w_seq (w_reg ?_))
    refine wl_mv (.tmp 15) (.int .i64 (-1)) (fun _ => rfl) e15 rfl ?_
    refine wl_b .geq 3 (.tmp 118) (.const (.int .i64 (0))) (.int .i64 (-1)) (.int .i64 (0)) (.bool false) (by kernel_rfl) ?_
    refine w_nil (xn_then (w_condF rfl (w_exit (xx_then (xx_then (xx_blk (xn_then (w_seq (w_seq (w_reg ?_))))))))))
    refine wl_mv (.tmp 0) (.slice ps scs.length caps) (fun _ => rfl) e0 rfl ?_
    refine wl_val (.int .i64 ((scs.length : Nat) : Int)) (len22 _ _ _ _ _ (by exact rfl) _ _ _ _ _ _) rfl ?_
    refine wl_m (.const (.int .i64 (0))) (.int .i64 (0)) ?_
    refine w_nil (xn_then (w_block ?_))
    refine w_loop (fun r l w1 => ∃ (c : Nat) (lk3 uk3 : Int), r + c = scs.length ∧ look l 134 = .int .i64 ((scs.length : Nat) : Int) ∧ look l 135 = .int .i64 ((c : Nat) : Int) ∧ look l 5 = pt t 0 ∧ look l 7 = pt u 0 ∧ look l 11 = pt k1 0 ∧ G2 w.heap.size KS w1 t mt tr lk3 u mu ur uk3 ∧ At w1 k1 [.slice p1 xs.length c1] ∧ w1.heap[D]? = some (.deferred (some [])) ∧ lk3 ≤ lk + 20000 * c ∧ uk3 ≤ uk + 20000 * c ∧ Mo w w1) scs.length ⟨0, lk, uk, by omega, rfl, rfl, e5, e7, e11, hG, Q1, hK, by omega, by omega, M⟩ ?_
    clear M hG hK Q1
    rintro r3 l3 wl3 ⟨c, lk3, uk3, hr3, e134, e135, e5, e7, e11, hG, Q1, hK, hlk3, huk3, M⟩
    have hf3 := hG.facts
    have hf4 := hG.swap.facts
    have hln := len_rk hrk
    have hus := T.sz_ids ur
    have hkt := T.kv_len tr
    have hku := T.kv_len ur
    have hht2 := T.ht_le tr
    obtain ⟨Ss, hSs⟩ : ∃ S, S = col c (mt.sc.getD c 0) tr.ids := ⟨_, rfl⟩
    have hSsu : Ss = col c (mu.sc.getD c 0) ur.ids := by rw [hSs, hmt, hmu]; exact (col_rk hrk).symm
    obtain ⟨Sq, hSq⟩ : ∃ S, S = prt c (mt.sc.getD c 0) ((xs.length / 3 : Nat) : Int) ((xs.length : Nat) : Int) tr.ids := ⟨_, rfl⟩
    have hSqu : Sq = prt c (mu.sc.getD c 0) ((xs.length / 3 : Nat) : Int) ((xs.length : Nat) : Int) ur.ids := by rw [hSq, hmt, hmu]; exact (prt_rk hrk).symm
    refine w_seq ?_
    cases hf1 : decide (c < scs.length) with
    | true =>
     have hf1p := of_decide_eq_true hf1
     refine w_reg ?_
     refine wl_bin (fun x y => do eqGuard .lss 3 (.tmp 135) (.tmp 134) x y; binOp .lss 3 x y) (.tmp 135) (.tmp 134) (.int .i64 ((c : Nat) : Int)) (.int .i64 ((scs.length : Nat) : Int)) (.bool true) (fun _ => rfl) e135 e134 (ltN hf1 _ _ _) rfl ?_
     refine w_nil (xn_then (w_seq (w_condT rfl (w_skip (xn_then (w_seq (w_block (w_seq (w_reg ?_)))))))))
     refine wl_mv (.tmp 135) (.int .i64 ((c : Nat) : Int)) (fun _ => rfl) e135 rfl ?_
     refine wl_m (.tmp 137) (.int .i64 ((c : Nat) : Int)) ?_
     refine w_nil (xn_then (w_seq (w_reg ?_)))
     refine wl_mv (.tmp 5) (pt t 0) (fun _ => rfl) e5 rfl ?_
     refine wl_m (.tmp 16) (.int .i64 ((c : Nat) : Int)) ?_
     refine wl_callx 12 [(.tmp 139), (.tmp 140)] _ [pt t 0, .int .i64 ((c : Nat) : Int)] rfl rfl (fun _ _ => by kernel_rfl) (sum2S hG (by rw [hmt]; omega) (by omega) hSs) rfl ?_
     rintro _ w201 ⟨lq1, rfl, hG, hp1, hq1, hM2⟩
     refine ⟨_, rfl, ?_⟩
     have hwr := hM2
     replace M := Wr.mo hM2 M (Nat.le_refl _)
     replace Q1 := Wr.at hM2 Q1 (by simp [hk1K])
     clear hM2
     replace hK := dk_wr hK hwr (by simp [hDK])
     clear hwr
     refine wl_m (.tmp 141) (.tuple #[smv Ss, .int .i64 (0)]) ?_
     refine wl_un (fun v => Instr.extract v 0) (.tmp 138) (.tuple #[smv Ss, .int .i64 (0)]) (smv Ss) (fun _ => rfl) rfl (by kernel_rfl) rfl ?_
     refine wl_un (fun v => Instr.extract v 1) (.tmp 138) (.tuple #[smv Ss, .int .i64 (0)]) (.int .i64 (0)) (fun _ => rfl) rfl (by kernel_rfl) rfl ?_
     refine wl_alloc 42 #[.int .i64 0, .int .i64 0, .int .i64 0, .int .i64 0, .int .i64 0, .int .u64 0, .int .u64 0, .int .u64 0, .int .u64 0, .int .u64 0, .bool false, .bool false, .int .u64 0, .int .u64 0, .int .u64 0, .int .u64 0, .int .i64 0, .bool false, .int .u64 0, .int .u64 0, .int .u64 0, .int .u64 0, .int .i64 0] rfl (fun _ => by kernel_rfl) rfl ?_
     intro k3 w202 hk hz hq Q3
     have ne_k1_k3 : k1 ≠ k3 := by have := Q1.lt; omega
     have N_k3 : w.heap.size ≤ k3 := by have := M.size; omega
     replace hG := hG.push (Nat.le_of_eq hk) (by omega) hq
     replace Q1 := Q1.mo hq
     replace hK := dk_mo hK hq
     replace M := M.trans hq
     clear hk hz hq
     have hDk := dk_ne hK rfl Q3
     refine wl_stx2 42 (.tmp 17) (.tmp 142) k3 0 ((sml Ss).toArray) _ (sml Ss) Q3 rfl rfl rfl rfl rfl zs42 rfl rfl rfl ?_
     intro w203 hT Qn
     replace Q3 := Qn
     clear Qn
     replace Q1 := hT.other _ _ ne_k1_k3 Q1
     replace hG := hG.st hT (by simp)
     replace M := (Mk.refl (fun j => j = k3) _ |>.st hT rfl).mo M (fun _ e => e ▸ N_k3)
     replace hK := dk_st hK hT hDk
     clear hT
     clear hDk
     refine wl_m (.tmp 143) (.int .i64 (0)) ?_
     refine w_nil (xn_then (w_seq (w_reg ?_)))
     refine wl_mv (.tmp 7) (pt u 0) (fun _ => rfl) e7 rfl ?_
     refine wl_m (.tmp 16) (.int .i64 ((c : Nat) : Int)) ?_
     refine wl_callx 12 [(.tmp 145), (.tmp 146)] _ [pt u 0, .int .i64 ((c : Nat) : Int)] rfl rfl (fun _ _ => by kernel_rfl) (sum2S hG.swap (by rw [hmu]; omega) (by omega) hSsu) rfl ?_
     rintro _ w204 ⟨lq2, rfl, hG, hp2, hq2, hM2⟩
     refine ⟨_, rfl, ?_⟩
     replace hG := hG.swap
     have hwr := hM2
     replace M := Wr.mo hM2 M (Nat.le_refl _)
     replace Q1 := Wr.at hM2 Q1 (by simp [hk1K])
     replace Q3 := Wr.at hM2 Q3 (by simp)
     clear hM2
     replace hK := dk_wr hK hwr (by simp [hDK])
     clear hwr
     refine wl_m (.tmp 147) (.tuple #[smv Ss, .int .i64 (0)]) ?_
     refine wl_un (fun v => Instr.extract v 0) (.tmp 144) (.tuple #[smv Ss, .int .i64 (0)]) (smv Ss) (fun _ => rfl) rfl (by kernel_rfl) rfl ?_
     refine wl_un (fun v => Instr.extract v 1) (.tmp 144) (.tuple #[smv Ss, .int .i64 (0)]) (.int .i64 (0)) (fun _ => rfl) rfl (by kernel_rfl) rfl ?_
     refine wl_alloc 42 #[.int .i64 0, .int .i64 0, .int .i64 0, .int .i64 0, .int .i64 0, .int .u64 0, .int .u64 0, .int .u64 0, .int .u64 0, .int .u64 0, .bool false, .bool false, .int .u64 0, .int .u64 0, .int .u64 0, .int .u64 0, .int .i64 0, .bool false, .int .u64 0, .int .u64 0, .int .u64 0, .int .u64 0, .int .i64 0] rfl (fun _ => by kernel_rfl) rfl ?_
     intro k4 w205 hk hz hq Q4
     have ne_k1_k4 : k1 ≠ k4 := by have := Q1.lt; omega
     have ne_k3_k4 : k3 ≠ k4 := by have := Q3.lt; omega
     have N_k4 : w.heap.size ≤ k4 := by have := M.size; omega
     replace hG := hG.push (Nat.le_of_eq hk) (by omega) hq
     replace Q1 := Q1.mo hq
     replace Q3 := Q3.mo hq
     replace hK := dk_mo hK hq
     replace M := M.trans hq
     clear hk hz hq
     have hDk := dk_ne hK rfl Q4
     refine wl_stx2 42 (.tmp 19) (.tmp 148) k4 0 ((sml Ss).toArray) _ (sml Ss) Q4 rfl rfl rfl rfl rfl zs42 rfl rfl rfl ?_
     intro w206 hT Qn
     replace Q4 := Qn
     clear Qn
     replace Q1 := hT.other _ _ ne_k1_k4 Q1
     replace Q3 := hT.other _ _ ne_k3_k4 Q3
     replace hG := hG.st hT (by simp)
     replace M := (Mk.refl (fun j => j = k4) _ |>.st hT rfl).mo M (fun _ e => e ▸ N_k4)
     replace hK := dk_st hK hT hDk
     clear hT
     clear hDk
     refine wl_m (.tmp 149) (.int .i64 (0)) ?_
     refine w_nil (xn_then (w_seq (w_reg ?_)))
     refine wl_mv (.tmp 5) (pt t 0) (fun _ => rfl) e5 rfl ?_
     refine wl_m (.tmp 16) (.int .i64 ((c : Nat) : Int)) ?_
     refine wl_load 59 (.tmp 11) (pt k1 0) (.slice p1 xs.length c1) rfl e11 (run_one Q1 59 0 rfl Try.underlying59 rfl) rfl ?_
     refine wl_val (.int .i64 ((xs.length : Nat) : Int)) (len59 _ _ _ _ _ (by exact rfl) _ _ _ _ _ _) rfl ?_
     refine wl_b .quo 3 (.tmp 154) (.const (.int .i64 (3))) (.int .i64 ((xs.length : Nat) : Int)) (.int .i64 (3)) (.int .i64 ((xs.length / 3 : Nat) : Int)) (quo3 (by omega) _ _ _) ?_
     refine wl_load 59 (.tmp 11) (pt k1 0) (.slice p1 xs.length c1) rfl e11 (run_one Q1 59 0 rfl Try.underlying59 rfl) rfl ?_
     refine wl_val (.int .i64 ((xs.length : Nat) : Int)) (len59 _ _ _ _ _ (by exact rfl) _ _ _ _ _ _) rfl ?_
     refine wl_callx 11 [(.tmp 151), (.tmp 152), (.tmp 155), (.tmp 157)] _ [pt t 0, .int .i64 ((c : Nat) : Int), .int .i64 ((xs.length / 3 : Nat) : Int), .int .i64 ((xs.length : Nat) : Int)] rfl rfl (fun _ _ => by kernel_rfl) (qry2S hG (by rw [hmt]; omega) (by omega) (by omega) (by omega) hSq) rfl ?_
     rintro _ w207 ⟨lq3, rfl, hG, hp3, hq3, hM2⟩
     refine ⟨_, rfl, ?_⟩
     have hwr := hM2
     replace M := Wr.mo hM2 M (Nat.le_refl _)
     replace Q1 := Wr.at hM2 Q1 (by simp [hk1K])
     replace Q3 := Wr.at hM2 Q3 (by simp)
     replace Q4 := Wr.at hM2 Q4 (by simp)
     clear hM2
     replace hK := dk_wr hK hwr (by simp [hDK])
     clear hwr
     refine wl_m (.tmp 158) (.tuple #[smv Sq, .int .i64 (0)]) ?_
     refine wl_un (fun v => Instr.extract v 0) (.tmp 150) (.tuple #[smv Sq, .int .i64 (0)]) (smv Sq) (fun _ => rfl) rfl (by kernel_rfl) rfl ?_
     refine wl_un (fun v => Instr.extract v 1) (.tmp 150) (.tuple #[smv Sq, .int .i64 (0)]) (.int .i64 (0)) (fun _ => rfl) rfl (by kernel_rfl) rfl ?_
     refine wl_alloc 42 #[.int .i64 0, .int .i64 0, .int .i64 0, .int .i64 0, .int .i64 0, .int .u64 0, .int .u64 0, .int .u64 0, .int .u64 0, .int .u64 0, .bool false, .bool false, .int .u64 0, .int .u64 0, .int .u64 0, .int .u64 0, .int .i64 0, .bool false, .int .u64 0, .int .u64 0, .int .u64 0, .int .u64 0, .int .i64 0] rfl (fun _ => by kernel_rfl) rfl ?_
     intro k5 w208 hk hz hq Q5
     have ne_k1_k5 : k1 ≠ k5 := by have := Q1.lt; omega
     have ne_k3_k5 : k3 ≠ k5 := by have := Q3.lt; omega
     have ne_k4_k5 : k4 ≠ k5 := by have := Q4.lt; omega
     have N_k5 : w.heap.size ≤ k5 := by have := M.size; omega
     replace hG := hG.push (Nat.le_of_eq hk) (by omega) hq
     replace Q1 := Q1.mo hq
     replace Q3 := Q3.mo hq
     replace Q4 := Q4.mo hq
     replace hK := dk_mo hK hq
     replace M := M.trans hq
     clear hk hz hq
     have hDk := dk_ne hK rfl Q5
     refine wl_stx2 42 (.tmp 21) (.tmp 159) k5 0 ((sml Sq).toArray) _ (sml Sq) Q5 rfl rfl rfl rfl rfl zs42 rfl rfl rfl ?_
     intro w209 hT Qn
     replace Q5 := Qn
     clear Qn
     replace Q1 := hT.other _ _ ne_k1_k5 Q1
     replace Q3 := hT.other _ _ ne_k3_k5 Q3
     replace Q4 := hT.other _ _ ne_k4_k5 Q4
     replace hG := hG.st hT (by simp)
     replace M := (Mk.refl (fun j => j = k5) _ |>.st hT rfl).mo M (fun _ e => e ▸ N_k5)
     replace hK := dk_st hK hT hDk
     clear hT
     clear hDk
     refine wl_m (.tmp 160) (.int .i64 (0)) ?_
     refine w_nil (xn_then (w_seq (w_reg ?_)))
     refine wl_mv (.tmp 7) (pt u 0) (fun _ => rfl) e7 rfl ?_
     refine wl_m (.tmp 16) (.int .i64 ((c : Nat) : Int)) ?_
     refine wl_load 59 (.tmp 11) (pt k1 0) (.slice p1 xs.length c1) rfl e11 (run_one Q1 59 0 rfl Try.underlying59 rfl) rfl ?_
     refine wl_val (.int .i64 ((xs.length : Nat) : Int)) (len59 _ _ _ _ _ (by exact rfl) _ _ _ _ _ _) rfl ?_
     refine wl_b .quo 3 (.tmp 165) (.const (.int .i64 (3))) (.int .i64 ((xs.length : Nat) : Int)) (.int .i64 (3)) (.int .i64 ((xs.length / 3 : Nat) : Int)) (quo3 (by omega) _ _ _) ?_
     refine wl_load 59 (.tmp 11) (pt k1 0) (.slice p1 xs.length c1) rfl e11 (run_one Q1 59 0 rfl Try.underlying59 rfl) rfl ?_
     refine wl_val (.int .i64 ((xs.length : Nat) : Int)) (len59 _ _ _ _ _ (by exact rfl) _ _ _ _ _ _) rfl ?_
     refine wl_callx 11 [(.tmp 162), (.tmp 163), (.tmp 166), (.tmp 168)] _ [pt u 0, .int .i64 ((c : Nat) : Int), .int .i64 ((xs.length / 3 : Nat) : Int), .int .i64 ((xs.length : Nat) : Int)] rfl rfl (fun _ _ => by kernel_rfl) (qry2S hG.swap (by rw [hmu]; omega) (by omega) (by omega) (by omega) hSqu) rfl ?_
     rintro _ w210 ⟨lq4, rfl, hG, hp4, hq4, hM2⟩
     refine ⟨_, rfl, ?_⟩
     replace hG := hG.swap
     have hwr := hM2
     replace M := Wr.mo hM2 M (Nat.le_refl _)
     replace Q1 := Wr.at hM2 Q1 (by simp [hk1K])
     replace Q3 := Wr.at hM2 Q3 (by simp)
     replace Q4 := Wr.at hM2 Q4 (by simp)
     replace Q5 := Wr.at hM2 Q5 (by simp)
     clear hM2
     replace hK := dk_wr hK hwr (by simp [hDK])
     clear hwr
     refine wl_m (.tmp 169) (.tuple #[smv Sq, .int .i64 (0)]) ?_
     refine wl_un (fun v => Instr.extract v 0) (.tmp 161) (.tuple #[smv Sq, .int .i64 (0)]) (smv Sq) (fun _ => rfl) rfl (by kernel_rfl) rfl ?_
     refine wl_un (fun v => Instr.extract v 1) (.tmp 161) (.tuple #[smv Sq, .int .i64 (0)]) (.int .i64 (0)) (fun _ => rfl) rfl (by kernel_rfl) rfl ?_
     refine wl_alloc 42 #[.int .i64 0, .int .i64 0, .int .i64 0, .int .i64 0, .int .i64 0, .int .u64 0, .int .u64 0, .int .u64 0, .int .u64 0, .int .u64 0, .bool false, .bool false, .int .u64 0, .int .u64 0, .int .u64 0, .int .u64 0, .int .i64 0, .bool false, .int .u64 0, .int .u64 0, .int .u64 0, .int .u64 0, .int .i64 0] rfl (fun _ => by kernel_rfl) rfl ?_
     intro k6 w211 hk hz hq Q6
     have ne_k1_k6 : k1 ≠ k6 := by have := Q1.lt; omega
     have ne_k3_k6 : k3 ≠ k6 := by have := Q3.lt; omega
     have ne_k4_k6 : k4 ≠ k6 := by have := Q4.lt; omega
     have ne_k5_k6 : k5 ≠ k6 := by have := Q5.lt; omega
     have N_k6 : w.heap.size ≤ k6 := by have := M.size; omega
     replace hG := hG.push (Nat.le_of_eq hk) (by omega) hq
     replace Q1 := Q1.mo hq
     replace Q3 := Q3.mo hq
     replace Q4 := Q4.mo hq
     replace Q5 := Q5.mo hq
     replace hK := dk_mo hK hq
     replace M := M.trans hq
     clear hk hz hq
     have hDk := dk_ne hK rfl Q6
     refine wl_stx2 42 (.tmp 23) (.tmp 170) k6 0 ((sml Sq).toArray) _ (sml Sq) Q6 rfl rfl rfl rfl rfl zs42 rfl rfl rfl ?_
     intro w212 hT Qn
     replace Q6 := Qn
     clear Qn
     replace Q1 := hT.other _ _ ne_k1_k6 Q1
     replace Q3 := hT.other _ _ ne_k3_k6 Q3
     replace Q4 := hT.other _ _ ne_k4_k6 Q4
     replace Q5 := hT.other _ _ ne_k5_k6 Q5
     replace hG := hG.st hT (by simp)
     replace M := (Mk.refl (fun j => j = k6) _ |>.st hT rfl).mo M (fun _ e => e ▸ N_k6)
     replace hK := dk_st hK hT hDk
     clear hT
     clear hDk
     refine wl_m (.tmp 171) (.int .i64 (0)) ?_
     refine w_nil (xn_then (w_seq (w_reg ?_)))
     refine wl_l 42 (.tmp 17) (pt k3 0) (smv Ss) (run_row Q3 42 0 23 (sml Ss) rfl Try.underlying42 rfl zs42) ?_
     refine wl_l 42 (.tmp 19) (pt k4 0) (smv Ss) (run_row Q4 42 0 23 (sml Ss) rfl Try.underlying42 rfl zs42) ?_
     refine wl_b .neq 42 (.tmp 172) (.tmp 173) (smv Ss) (smv Ss) (.bool false) (neS Ss _ _ _) ?_
     refine wl_m (.tmp 174) (.bool false) ?_
     refine wl_m (.tmp 18) (.int .i64 (0)) ?_
     refine wl_m (.tmp 20) (.int .i64 (0)) ?_
     refine wl_b .neq 25 (.tmp 176) (.tmp 177) (.int .i64 (0)) (.int .i64 (0)) (.bool false) (by kernel_rfl) ?_
     refine wl_pick (.tmp 175) (.const (.bool true)) (.tmp 178) false (.bool false) (fun _ => rfl) rfl rfl rfl ?_
     refine wl_m (.tmp 179) (.bool false) ?_
     refine wl_l 42 (.tmp 21) (pt k5 0) (smv Sq) (run_row Q5 42 0 23 (sml Sq) rfl Try.underlying42 rfl zs42) ?_
     refine wl_l 42 (.tmp 23) (pt k6 0) (smv Sq) (run_row Q6 42 0 23 (sml Sq) rfl Try.underlying42 rfl zs42) ?_
     refine wl_b .neq 42 (.tmp 181) (.tmp 182) (smv Sq) (smv Sq) (.bool false) (neS Sq _ _ _) ?_
     refine wl_pick (.tmp 180) (.const (.bool true)) (.tmp 183) false (.bool false) (fun _ => rfl) rfl rfl rfl ?_
     refine wl_m (.tmp 184) (.bool false) ?_
     refine wl_m (.tmp 22) (.int .i64 (0)) ?_
     refine wl_m (.tmp 24) (.int .i64 (0)) ?_
     refine wl_b .neq 25 (.tmp 186) (.tmp 187) (.int .i64 (0)) (.int .i64 (0)) (.bool false) (by kernel_rfl) ?_
     refine wl_pick (.tmp 185) (.const (.bool true)) (.tmp 188) false (.bool false) (fun _ => rfl) rfl rfl rfl ?_
     refine wl_m (.tmp 189) (.bool false) ?_
     refine wl_m (.tmp 18) (.int .i64 (0)) ?_
     refine wl_b .neq 25 (.tmp 191) (.const (.int .i64 (0))) (.int .i64 (0)) (.int .i64 (0)) (.bool false) (by kernel_rfl) ?_
     refine wl_pick (.tmp 190) (.const (.bool true)) (.tmp 192) false (.bool false) (fun _ => rfl) rfl rfl rfl ?_
     refine wl_m (.tmp 193) (.bool false) ?_
     refine wl_m (.tmp 22) (.int .i64 (0)) ?_
     refine wl_b .neq 25 (.tmp 195) (.const (.int .i64 (0))) (.int .i64 (0)) (.int .i64 (0)) (.bool false) (by kernel_rfl) ?_
     refine wl_pick (.tmp 194) (.const (.bool true)) (.tmp 196) false (.bool false) (fun _ => rfl) rfl rfl rfl ?_
     refine w_nil (xn_then (w_condF rfl (w_skip (xn_blk (xn_then (w_reg ?_))))))
     refine wl_bin (fun x y => do eqGuard .add 3 (.tmp 135) (.const (.int .i64 (1))) x y; binOp .add 3 x y) (.tmp 135) (.const (.int .i64 (1))) (.int .i64 ((c : Nat) : Int)) (.int .i64 (1)) (.int .i64 ((c + 1 : Nat) : Int)) (fun _ => rfl) e135 rfl (add1r (k := c) (by omega) _ _ _) rfl ?_
     refine wl_m (.tmp 198) (.int .i64 ((c + 1 : Nat) : Int)) ?_
     refine w_nil ?_
     exact xn_loop (r3 - 1) (by omega) ⟨c + 1, lq3, lq4, by omega, e134, rfl, e5, e7, e11, hG.pop (fun _ h => by simp [h]), Q1, hK, by omega, by omega, M⟩
    | false =>
     have hf1p := of_decide_eq_false hf1
     refine w_reg ?_
     refine wl_bin (fun x y => do eqGuard .lss 3 (.tmp 135) (.tmp 134) x y; binOp .lss 3 x y) (.tmp 135) (.tmp 134) (.int .i64 ((c : Nat) : Int)) (.int .i64 ((scs.length : Nat) : Int)) (.bool false) (fun _ => rfl) e135 e134 (ltN hf1 _ _ _) rfl ?_
     refine w_nil (xn_then (w_seq (w_condF rfl (w_exit (xx_then (xx_then (xx_blk (xn_then (w_seq (w_reg ?_))))))))))
     refine wl_mv (.tmp 5) (pt t 0) (fun _ => rfl) e5 rfl ?_
     refine wl_call 10 [(.tmp 199)] _ [pt t 0] (.int .i64 ((tr.kv.length : Nat) : Int)) rfl rfl (fun _ _ => by kernel_rfl) (len2 hG) rfl ?_
     intro w201 hq
     replace Q1 := Q1.mo hq
     replace hG := hG.mo hq
     replace hK := dk_mo hK hq
     replace M := M.trans hq
     clear hq
     refine wl_mv (.tmp 7) (pt u 0) (fun _ => rfl) e7 rfl ?_
     refine wl_call 10 [(.tmp 201)] _ [pt u 0] (.int .i64 ((ur.kv.length : Nat) : Int)) rfl rfl (fun _ _ => by kernel_rfl) (len2 hG.swap) rfl ?_
     intro w202 hq
     replace Q1 := Q1.mo hq
     replace hG := hG.mo hq
     replace hK := dk_mo hK hq
     replace M := M.trans hq
     clear hq
     refine wl_b .eql 3 (.tmp 200) (.tmp 202) (.int .i64 ((tr.kv.length : Nat) : Int)) (.int .i64 ((ur.kv.length : Nat) : Int)) (.bool true) (eqI (r := true) (decide_eq_true (by omega)) _ _ _) ?_
     refine wl_m (.tmp 203) (.bool true) ?_
     refine w_nil (xn_then (w_ret ?_))
     exact w_ret1m D _ (.bool true) rfl hK rfl ⟨rfl, Mo.putO M hD hK rfl rfl⟩
   ·replace e15 : look l 15 = .int .i64 ((j : Nat) : Int) := e15.trans (by rw [show (((j + 1 : Nat) : Int) - 1) = ((j : Nat) : Int) by omega])
    obtain ⟨x9, hx9⟩ : ∃ x, xs[j]? = some x := ⟨xs[j]'(by omega), List.getElem?_eq_getElem _⟩
    have hUl := hH.ul
    obtain ⟨u9, hu9⟩ : ∃ x, U[j]? = some x := ⟨U[j]'(by omega), List.getElem?_eq_getElem _⟩
    obtain ⟨pA, cA, eA, hA⟩ := own_sl hH.o1
    rw [Value.slice.injEq] at eA
    obtain ⟨rfl, _, _⟩ := eA
    obtain ⟨g1, hp1, hg1l, hc1⟩ := hA j (.int .i64 x9.1.i) (by rw [List.getElem?_map, List.getElem?_map, hx9]; rfl)
    obtain ⟨pB, cB, eB, hB⟩ := own_sl hH.o2
    rw [Value.slice.injEq] at eB
    obtain ⟨rfl, _, _⟩ := eB
    obtain ⟨g2, hp2, hg2l, hc2⟩ := hB j u9 hu9
    obtain ⟨pu, cu, hue, _⟩ := hH.ur j x9 u9 hx9 hu9
    rw [List.length_map] at hue
    subst hue
    have hy9 : tr.ids[j]? = some x9.1 := by rw [← hxt, List.getElem?_map, hx9]; rfl
    have hmem := List.mem_of_getElem? hy9
    have hrng := hf1.2.2.2.1 x9.1.i (List.mem_map_of_mem hmem)
    have hok9 := hf1.2.2.2.2 x9.1 hmem
    have hln := len_rk hrk
    rw [List.length_drop] at hln
    have hus := T.sz_ids ur
    have hE : insE mu.sc.length ur 0 x9.1.i x9.1.vs.length = 0 := insE_of (by rw [hok9.2, hmt, hmu]) (by unfold T.is; rw [is_rk hrk]; exact nd_drop2 hf1.2.2.1 hy9) hrng.1 hrng.2 (by omega) (by decide) (by omega)
    refine w_seq (w_seq (w_reg ?_))
    refine wl_mv (.tmp 15) (.int .i64 ((j : Nat) : Int)) (fun _ => rfl) e15 rfl ?_
    refine wl_b .geq 3 (.tmp 118) (.const (.int .i64 (0))) (.int .i64 ((j : Nat) : Int)) (.int .i64 (0)) (.bool true) (geI (r := true) (decide_eq_true (by omega)) _ _ _) ?_
    refine w_nil (xn_then (w_condT rfl (w_skip (xn_then (w_seq (w_block (w_seq ?_)))))))
    have hsm : Smos [vq (pt u 0), vq (.slice p1 xs.length c1), vq (.int .i64 ((j : Nat) : Int)), vq (pt g1 j), vq (.int .i64 (x9.1.i)), vq (.slice p2 xs.length c2), vq (.int .i64 ((j : Nat) : Int)), vq (pt g2 j), vq (.slice pu x9.1.vs.length cu)] := smos_cons (smo_vq _) (smos_cons (smo_vq _) (smos_cons (smo_vq _) (smos_cons (smo_vq _) (smos_cons (smo_vq _) (smos_cons (smo_vq _) (smos_cons (smo_vq _) (smos_cons (smo_vq _) (smos_cons (smo_vq _) (smos_nil)))))))))
    have hgr : ∀ a b : World, Mo wl a → Mo a b → Mo wl b := fun _ _ h m => h.trans m
    refine w_ogc 9 (fun w9 => Mo wl w9) [vq (pt u 0), vq (.slice p1 xs.length c1), vq (.int .i64 ((j : Nat) : Int)), vq (pt g1 j), vq (.int .i64 (x9.1.i)), vq (.slice p2 xs.length c2), vq (.int .i64 ((j : Nat) : Int)), vq (pt g2 j), vq (.slice pu x9.1.vs.length cu)] [] (by kernel_rfl) (by kernel_rfl) (by kernel_rfl) (by kernel_rfl) rfl (by kernel_rfl) (by kernel_rfl) (by kernel_rfl) latec_nil ((Mo.refl _).drew) ?_ ?_
    ·refine ea_cons ?_ (ea_cons ?_ (ea_cons ?_ (ea_cons ?_ (ea_cons ?_ (ea_cons ?_ (ea_cons ?_ (ea_cons ?_ (ea_cons ?_ (ea_nil)))))))))
     ·exact oc_eq _ rfl hgr hsm (fun f wf hq hd K9 hK => go_run rfl (wo_mv (.tmp 7) (pt u 0) (fun _ => rfl) e7 (hK _ (Mo.refl _))))
     ·exact oc_eq _ rfl hgr hsm (fun f wf hq hd K9 hK => have Q1 := Q1.mo hq; go_run rfl (wo_load 59 (.tmp 11) (pt k1 0) (.slice p1 xs.length c1) rfl e11 (run_one Q1 59 0 rfl Try.underlying59 rfl) (hK _ (Mo.refl _))))
     ·exact oc_eq _ rfl hgr hsm (fun f wf hq hd K9 hK => go_run rfl (wo_mv (.tmp 15) (.int .i64 ((j : Nat) : Int)) (fun _ => rfl) e15 (hK _ (Mo.refl _))))
     ·exact oc_eq _ rfl hgr hsm (fun f wf hq hd K9 hK => go_run rfl (wo_bin (fun x y => Instr.indexAt 59 x y) (.tmp 123) (.tmp 124) (.slice p1 xs.length c1) (.int .i64 ((j : Nat) : Int)) (pt g1 j) (fun _ => rfl) (hd 1 rfl) (hd 2 rfl) (by rw [hp1]; exact ix59 g1 j _ _ (by omega) _) (hK _ (Mo.refl _))))
     ·exact oc_eq _ rfl hgr hsm (fun f wf hq hd K9 hK => go_run rfl (wo_load 2 (.tmp 125) (pt g1 j) (.int .i64 (x9.1.i)) rfl (hd 3 rfl) (ldi ((hq.cell g1 _ hg1l).trans hc1)) (hK _ (Mo.refl _))))
     ·exact oc_eq _ rfl hgr hsm (fun f wf hq hd K9 hK => have Q2 := Q2.mo hq; go_run rfl (wo_load 60 (.tmp 12) (pt k2 0) (.slice p2 xs.length c2) rfl e12 (run_one Q2 60 0 rfl Try.underlying60 rfl) (hK _ (Mo.refl _))))
     ·exact oc_eq _ rfl hgr hsm (fun f wf hq hd K9 hK => go_run rfl (wo_mv (.tmp 15) (.int .i64 ((j : Nat) : Int)) (fun _ => rfl) e15 (hK _ (Mo.refl _))))
     ·exact oc_eq _ rfl hgr hsm (fun f wf hq hd K9 hK => go_run rfl (wo_bin (fun x y => Instr.indexAt 60 x y) (.tmp 127) (.tmp 128) (.slice p2 xs.length c2) (.int .i64 ((j : Nat) : Int)) (pt g2 j) (fun _ => rfl) (hd 5 rfl) (hd 6 rfl) (by rw [hp2]; exact ix60 g2 j _ _ (by omega) _) (hK _ (Mo.refl _))))
     ·exact oc_eq _ rfl hgr hsm (fun f wf hq hd K9 hK => go_run rfl (wo_load 29 (.tmp 129) (pt g2 j) (.slice pu x9.1.vs.length cu) rfl (hd 7 rfl) (lds ((hq.cell g2 _ hg2l).trans hc2)) (hK _ (Mo.refl _))))
    intro f9 w101 hq hR9
    have r122 := hR9 0 rfl
    have r123 := hR9 1 rfl
    have r124 := hR9 2 rfl
    have r125 := hR9 3 rfl
    have r126 := hR9 4 rfl
    have r127 := hR9 5 rfl
    have r128 := hR9 6 rfl
    have r129 := hR9 7 rfl
    have r130 := hR9 8 rfl
    replace Q1 := Q1.mo hq
    replace Q2 := Q2.mo hq
    replace hG := hG.mo hq
    replace hK := dk_mo hK hq
    replace hH := hH.mo hq
    replace M := M.trans hq
    clear hq hR9 hsm hgr
    refine wl_callx 9 [(.tmp 122), (.const (.int .i64 (0))), (.tmp 126), (.tmp 130)] _ [pt u 0, .int .i64 (0), .int .i64 (x9.1.i), .slice pu x9.1.vs.length cu] rfl (li4 r122 rfl r126 r130) (fun _ _ => by kernel_rfl) (ins2_ok hG.swap (by constructor <;> omega) (by omega) (fun w9 m9 => svv_rw ((hH.kept m9 hKS).ur j x9 _ hx9 hu9)) hok9.1 hE) rfl ?_
    rintro _ w102 ⟨ur2, uk2, y9, kn9, rfl, hG, hIns, hk3, hk4, hM2⟩
    refine ⟨_, rfl, ?_⟩
    replace M := Wr.mo hM2 M (Nat.le_refl _)
    replace hK := dk_wr hK hM2 hDK
    replace hH := hH.kept hM2 hKS
    replace hG := hG.swap
    replace Q1 := hH.a1
    replace Q2 := hH.a2
    have hrk2 : ur2.ids.map rk = (tr.ids.drop j).map rk := by
     have h9 := hIns.td
     rw [show ((0 : Int).toNat) = 0 from rfl, List.take_zero, List.drop_zero, List.nil_append] at h9
     rw [h9]; exact drop_rk hy9 rfl hrk
    clear hM2 hIns
    refine wl_b .neq 25 (.tmp 131) (.const (.int .i64 (0))) (.int .i64 (0)) (.int .i64 (0)) (.bool false) (by kernel_rfl) ?_
    refine w_nil (xn_then (w_condF rfl (w_skip (xn_blk (xn_then (w_reg ?_))))))
    refine wl_mv (.tmp 15) (.int .i64 ((j : Nat) : Int)) (fun _ => rfl) e15 rfl ?_
    refine wl_b .sub 3 (.tmp 120) (.const (.int .i64 (1))) (.int .i64 ((j : Nat) : Int)) (.int .i64 (1)) (.int .i64 (((j : Nat) : Int) - 1)) (subI (by omega) (by omega) _ _ _) ?_
    refine wl_m (.tmp 121) (.int .i64 (((j : Nat) : Int) - 1)) ?_
    refine w_nil ?_
    exact xn_loop j (by omega) ⟨ur2, uk2, by omega, hrk2, rfl, e0, e5, e7, e11, e12, hG, hH, hK, by omega, M⟩
theorem history_x (scs : List Int) (ps : Option Addr) (caps : Nat) (sc : List Op6) (p : Option Addr) (cap : Nat) (hgt64 : 64 < scs.length) : Calls Try.prog 5 #[.slice ps scs.length caps, .slice p sc.length cap] w fun e w' => e = .returned (.bool true) ∧ Mo w w' := by
 refine calls_of (m := 9) (w_enter 204 Try.func5 Try.ntmps5 rfl rfl ?_)
 have M : Mo w w := Mo.refl _
 refine w_seq (w_reg ?_)
 refine wl_m (.const (.bool false)) (.bool false) ?_
 refine w_nil (xn_then (w_seq (w_reg ?_)))
 refine wl_m (.tmp 0) (.slice ps scs.length caps) ?_
 refine wl_call 7 [(.tmp 26)] _ [.slice ps scs.length caps] (.tuple #[pp none, .int .i64 (3)]) rfl rfl (fun _ _ => by kernel_rfl) (new_x hgt64) rfl ?_
 intro w1 hq
 replace M := M.trans hq
 clear hq
 refine wl_m (.tmp 27) (.tuple #[pp none, .int .i64 (3)]) ?_
 refine wl_un (fun v => Instr.extract v 0) (.tmp 25) (.tuple #[pp none, .int .i64 (3)]) (pp none) (fun _ => rfl) rfl (by kernel_rfl) rfl ?_
 refine wl_un (fun v => Instr.extract v 1) (.tmp 25) (.tuple #[pp none, .int .i64 (3)]) (.int .i64 (3)) (fun _ => rfl) rfl (by kernel_rfl) rfl ?_
 refine wl_m (.tmp 28) (pp none) ?_
 refine wl_m (.tmp 29) (.int .i64 (3)) ?_
 refine w_nil (xn_then (w_seq (w_reg ?_)))
 refine wl_m (.tmp 0) (.slice ps scs.length caps) ?_
 refine wl_call 7 [(.tmp 31)] _ [.slice ps scs.length caps] (.tuple #[pp none, .int .i64 (3)]) rfl rfl (fun _ _ => by kernel_rfl) (new_x hgt64) rfl ?_
 intro w2 hq
 replace M := M.trans hq
 clear hq
 refine wl_m (.tmp 32) (.tuple #[pp none, .int .i64 (3)]) ?_
 refine wl_un (fun v => Instr.extract v 0) (.tmp 30) (.tuple #[pp none, .int .i64 (3)]) (pp none) (fun _ => rfl) rfl (by kernel_rfl) rfl ?_
 refine wl_un (fun v => Instr.extract v 1) (.tmp 30) (.tuple #[pp none, .int .i64 (3)]) (.int .i64 (3)) (fun _ => rfl) rfl (by kernel_rfl) rfl ?_
 refine wl_m (.tmp 33) (pp none) ?_
 refine wl_m (.tmp 34) (.int .i64 (3)) ?_
 refine w_nil (xn_then (w_seq (w_seq (w_reg ?_))))
 refine wl_call 8 [] _ [] (.bool true) rfl rfl (fun _ _ => by kernel_rfl) (begun_n _) rfl ?_
 intro w3 hq
 replace M := M.trans hq
 clear hq
 refine wl_un (fun v => Op.unary .not v) (.tmp 35) (.bool true) (.bool false) (fun _ => rfl) rfl (by kernel_rfl) rfl ?_
 refine wl_m (.tmp 36) (.bool false) ?_
 refine wl_m (.tmp 6) (.int .i64 (3)) ?_
 refine wl_m (.tmp 8) (.int .i64 (3)) ?_
 refine wl_b .neq 25 (.tmp 38) (.tmp 39) (.int .i64 (3)) (.int .i64 (3)) (.bool false) (by kernel_rfl) ?_
 refine wl_pick (.tmp 37) (.const (.bool true)) (.tmp 40) false (.bool false) (fun _ => rfl) rfl rfl rfl ?_
 refine wl_m (.tmp 41) (.bool false) ?_
 refine wl_m (.tmp 5) (pp none) ?_
 refine wl_b .eql 24 (.tmp 43) (.const (.pointer none)) (pp none) (pp none) (.bool true) (eqT0 _ _ _) ?_
 refine wl_m (.tmp 6) (.int .i64 (3)) ?_
 refine wl_b .neq 25 (.tmp 45) (.const (.int .i64 (0))) (.int .i64 (3)) (.int .i64 (0)) (.bool true) (by kernel_rfl) ?_
 refine wl_b .neq 4 (.tmp 44) (.tmp 46) (.bool true) (.bool true) (.bool false) (by kernel_rfl) ?_
 refine wl_pick (.tmp 42) (.const (.bool true)) (.tmp 47) false (.bool false) (fun _ => rfl) rfl rfl rfl ?_
 refine w_nil (xn_then (w_condF rfl (w_skip (xn_then (w_seq (w_seq (w_reg ?_)))))))
 refine wl_m (.tmp 5) (pp none) ?_
 refine wl_b .eql 24 (.tmp 49) (.const (.pointer none)) (pp none) (pp none) (.bool true) (eqT0 _ _ _) ?_
 refine wl_m (.tmp 50) (.bool true) ?_
 refine wl_skip rfl (wl_skip rfl ?_)
 refine wl_pick (.tmp 51) (.const (.bool true)) (.tmp 53) true (.bool true) (fun _ => rfl) rfl rfl rfl ?_
 refine w_nil (xn_then (w_condT rfl (w_seq (w_reg ?_))))
 refine wl_m (.tmp 5) (pp none) ?_
 refine wl_b .eql 24 (.tmp 55) (.const (.pointer none)) (pp none) (pp none) (.bool true) (eqT0 _ _ _) ?_
 refine wl_m (.tmp 56) (.bool true) ?_
 refine wl_m (.tmp 7) (pp none) ?_
 refine wl_b .eql 24 (.tmp 58) (.const (.pointer none)) (pp none) (pp none) (.bool true) (eqT0 _ _ _) ?_
 refine wl_pick (.tmp 57) (.tmp 59) (.const (.bool false)) true (.bool true) (fun _ => rfl) rfl rfl rfl ?_
 refine wl_m (.tmp 60) (.bool true) ?_
 refine w_nil (xn_then (w_ret (xr_then ?_)))
 exact w_ret1 _ _ rfl rfl ⟨rfl, M⟩
theorem history_n (scs : List Int) (ps : Option Addr) (caps : Nat) (hSN : SN w ps scs) (sc : List Op6) (p : Option Addr) (cap : Nat) (hsc : ∀ o ∈ sc, o.ok) (hSA : SA w p sc) (hn : sc.length ≤ 2000000000000) : Calls Try.prog 5 #[.slice ps scs.length caps, .slice p sc.length cap] w fun e w' => e = .returned (.bool true) ∧ Mo w w' := by
 by_cases h : scs.length ≤ 64
 ·exact history_k scs ps caps sc p cap hsc hSN hSA hn h
 ·exact history_x scs ps caps sc p cap (by omega)
end
end R
end G
end Go.Proofs.Ythfemlhmnjfjiaa
/-
 Scripts that came in.
-/
namespace Go.Proofs.Ythfemlhmnjfjiaa
open Go.ChangeShapes Go.WideShapes Go.ChangeAt Go.RowKit
namespace G
theorem Try.own : ownKnob Try.prog.godebug = none := by kernel_rfl
theorem Try.cl2 : Try.prog.cellsOf 2 = 1 := by kernel_rfl
theorem Try.cl4 : Try.prog.cellsOf 4 = 1 := by kernel_rfl
theorem Try.cl9 : Try.prog.cellsOf 9 = 1 := by kernel_rfl
theorem Try.cl29 : Try.prog.cellsOf 29 = 1 := by kernel_rfl
theorem Try.cl31 : Try.prog.cellsOf 31 = 7 := by kernel_rfl
theorem Try.cl34 : Try.prog.cellsOf 34 = 1 := by kernel_rfl
theorem Try.cl38 : Try.prog.cellsOf 38 = 4 := by kernel_rfl
theorem Try.cl40 : Try.prog.cellsOf 40 = 6 := by kernel_rfl
theorem Try.cl55 : Try.prog.cellsOf 55 = 10 := by kernel_rfl
theorem Try.by31 : Try.prog.bytesOf 31 = 72 := by kernel_rfl
theorem Try.laidOut : laidOutB Try.prog = true := by kernel_rfl
theorem l0_vl {a b c d : Int} (h : U4 a b c d) : l0 (vl a b c d) = a := by unfold vl l0; unfold U4 U1 at h; omega
theorem l1_vl {a b c d : Int} (h : U4 a b c d) : l1 (vl a b c d) = b := by unfold vl l1; unfold U4 U1 at h; omega
theorem l2_vl {a b c d : Int} (h : U4 a b c d) : l2 (vl a b c d) = c := by unfold vl l2; unfold U4 U1 at h; omega
theorem l3_vl {a b c d : Int} (h : U4 a b c d) : l3 (vl a b c d) = d := by unfold vl l3; unfold U4 U1 at h; omega
theorem wf_u1 {x : Int} (h : (Lit.int .u64 x).wf = true) : U1 x := by
 simp [Lit.wf, IntKind.min, IntKind.max, IntKind.signed, IntKind.bits] at h
 exact ⟨by omega, by omega⟩
theorem wf_i1 {x : Int} (h : (Lit.int .i64 x).wf = true) : I64 x := by
 simp [Lit.wf, IntKind.min, IntKind.max, IntKind.signed, IntKind.bits] at h
 exact ⟨by omega, by omega⟩
theorem trodAll_stays {H : Type} {enc : TypeId × Value → H} {W W' : World} {sp' : Nat → Bool} : ∀ {ts : List TypeId} {vs : List Value} {ds : List (DataW H)} {ps : List MemPlace}, (∀ t ∈ ts, Try.prog.readableRec t = true ∧ t < Try.prog.types.size) → DataW.TrodAll enc Try.prog W 0 (fun _ => true) true ts vs ds ps → (∀ p ∈ ps, W.sameAt W' p) → (∀ p ∈ ps, sp' p.block = true) → DataW.TrodAll enc Try.prog W' 0 sp' true ts vs ds ps
 | [], [], [], _, _, h, _, _ => h
 | _ :: _, _ :: _, _ :: _, _, hT, ⟨p, q, h1, h2, e⟩, hm, hs => ⟨p, q, WideElems.Trod_stays Try.laidOut (hT _ (List.mem_cons.2 (Or.inl rfl))).1 (hT _ (List.mem_cons.2 (Or.inl rfl))).2 h1 (fun x hx => hm x (by rw [e]; exact List.mem_append_left _ hx)) (fun x hx => hs x (by rw [e]; exact List.mem_append_left _ hx)),
   trodAll_stays (fun t ht => hT t (List.mem_cons.2 (Or.inr ht))) h2 (fun x hx => hm x (by rw [e]; exact List.mem_append_right _ hx)) (fun x hx => hs x (by rw [e]; exact List.mem_append_right _ hx)), e⟩
section
variable {H : Type} {enc : TypeId × Value → H} {W : World} {sp : Nat → Bool} {fuel : Nat} {cs : List Value} {x : DataW H × List MemPlace}
set_option maxRecDepth 100000 in
theorem cut4 (h : DataW.trod enc Try.prog W 0 sp true fuel 38 cs = some x) : ∃ n : Int, (0 ≤ n ∧ n < MM) ∧ cs = [.int .u64 (l0 n), .int .u64 (l1 n), .int .u64 (l2 n), .int .u64 (l3 n)] := by
 obtain ⟨xs, m, rfl, _, hlen, hn, hi⟩ := DataW.trod_array Try.underlying38 h
 rw [Try.cl38] at hlen
 obtain ⟨c0, c1, c2, c3, rfl⟩ : ∃ c0 c1 c2 c3, cs = [c0, c1, c2, c3] := by
  match cs, hlen with
  | [a, b, c, d], _ => exact ⟨a, b, c, d, rfl⟩
 obtain ⟨y0, y1, y2, y3, rfl⟩ : ∃ y0 y1 y2 y3, xs = [y0, y1, y2, y3] := by
  match xs, hn with
  | [a, b, c, d], _ => exact ⟨a, b, c, d, rfl⟩
 have i0 := hi 0 (by decide)
 have i1 := hi 1 (by decide)
 have i2 := hi 2 (by decide)
 have i3 := hi 3 (by decide)
 simp only [Try.cl34] at i0 i1 i2 i3
 simp at i0 i1 i2 i3
 obtain ⟨x0, e0, _, w0⟩ := DataW.trod_int Try.underlying34 i0
 obtain ⟨x1, e1, _, w1⟩ := DataW.trod_int Try.underlying34 i1
 obtain ⟨x2, e2, _, w2⟩ := DataW.trod_int Try.underlying34 i2
 obtain ⟨x3, e3, _, w3⟩ := DataW.trod_int Try.underlying34 i3
 simp at e0 e1 e2 e3
 subst e0 e1 e2 e3
 have u : U4 x0 x1 x2 x3 := ⟨wf_u1 w0, wf_u1 w1, wf_u1 w2, wf_u1 w3⟩
 exact ⟨vl x0 x1 x2 x3, vl_bd u, by rw [l0_vl u, l1_vl u, l2_vl u, l3_vl u]⟩
set_option maxRecDepth 100000 in
theorem cut6 (h : DataW.trod enc Try.prog W 0 sp true fuel 40 cs = some x) : ∃ d : D3, d.ok ∧ cs = [.bool d.b, .int .u64 (l0 d.n), .int .u64 (l1 d.n), .int .u64 (l2 d.n), .int .u64 (l3 d.n), .int .i64 d.s] := by
 obtain ⟨y0, y1, y2, m, _, hl, h0, h1, h2⟩ := Go.Deep.trod_struct3 Try.underlying40 h
 rw [Try.cl40] at hl
 obtain ⟨c0, c1, c2, c3, c4, c5, rfl⟩ : ∃ c0 c1 c2 c3 c4 c5, cs = [c0, c1, c2, c3, c4, c5] := by
  match cs, hl with
  | [a, b, c, d, e, f], _ => exact ⟨a, b, c, d, e, f, rfl⟩
 simp [Try.cl4, Try.cl38, Try.cl3] at h0 h1 h2
 obtain ⟨b, e0, _⟩ := DataW.trod_bool Try.underlying4 h0
 obtain ⟨n, hn, e1⟩ := cut4 h1
 obtain ⟨s, e2, _, w2⟩ := DataW.trod_int Try.underlying3 h2
 simp at e0 e1 e2
 obtain ⟨e10, e11, e12, e13⟩ := e1
 subst e0 e10 e11 e12 e13 e2
 exact ⟨⟨b, n, s⟩, hn, rfl⟩
set_option maxRecDepth 100000 in
theorem cut10 (h : DataW.trod enc Try.prog W 0 sp true fuel 55 cs = some x) : ∃ v : V10, v.n.ok ∧ cs = v.cells := by
 obtain ⟨xs, n, rfl, _, hl, hlen, hi⟩ := DataW.trod_struct Try.underlying55 h
 rw [Try.cl55] at hl
 obtain ⟨c0, c1, c2, c3, c4, c5, c6, c7, c8, c9, rfl⟩ : ∃ c0 c1 c2 c3 c4 c5 c6 c7 c8 c9, cs = [c0, c1, c2, c3, c4, c5, c6, c7, c8, c9] := by
  match cs, hl with
  | [a0, a1, a2, a3, a4, a5, a6, a7, a8, a9], _ => exact ⟨a0, a1, a2, a3, a4, a5, a6, a7, a8, a9, rfl⟩
 obtain ⟨y0, y1, y2, y3, y4, rfl⟩ : ∃ y0 y1 y2 y3 y4, xs = [y0, y1, y2, y3, y4] := by
  match xs, hlen with
  | [a0, a1, a2, a3, a4], _ => exact ⟨a0, a1, a2, a3, a4, rfl⟩
 have i0 := hi 0 _ rfl
 have i1 := hi 1 _ rfl
 have i2 := hi 2 _ rfl
 have i3 := hi 3 _ rfl
 have i4 := hi 4 _ rfl
 simp [Try.cl3, Try.cl4, Try.cl9, Try.cl40] at i0 i1 i2 i3 i4
 obtain ⟨K, e0, _, w0⟩ := DataW.trod_int Try.underlying3 i0
 obtain ⟨d, hd, e1⟩ := cut6 i1
 obtain ⟨fl, e2, _⟩ := DataW.trod_bool Try.underlying4 i2
 obtain ⟨tx, e3, _⟩ := DataW.trod_string Try.underlying9 i3
 obtain ⟨er, e4, _, w4⟩ := DataW.trod_int Try.underlying3 i4
 simp at e0 e1 e2 e3 e4
 obtain ⟨e10, e11, e12, e13, e14, e15⟩ := e1
 subst e0 e10 e11 e12 e13 e14 e15 e2 e3 e4
 exact ⟨⟨K, d, fl, tx, er⟩, hd, rfl⟩
theorem cut_sl {t e : TypeId} (hu : Try.prog.underlying t = some (.slice e)) {n : Nat} (hn : 0 < n) (hcl : Try.prog.cellsOf e = n) {α : Type} (cells : α → List Value) (dflt : α) (ok : α → Prop) (hlen : ∀ y, (cells y).length = n)
  (hcut : ∀ {m : Nat} {cs : List Value} {y : DataW H × List MemPlace}, DataW.trod enc Try.prog W 0 sp true m e cs = some y → ∃ z, ok z ∧ cs = cells z) {v : Value} (h : DataW.trod enc Try.prog W 0 sp true fuel t [v] = some x) :
  ∃ (L : List α) (pa : Option Addr) (cap : Nat), v = .slice pa L.length cap ∧ (∀ o ∈ L, ok o) ∧ (∀ i o, L[i]? = some o → ∃ b off, pa = some ⟨b, off, none⟩ ∧ b < W.heap.size ∧ W.rangeAt b (off + i * n) (cells o)) ∧ (L = [] ∨ ∃ elems spare, x.1 = .slice elems spare ∧ elems.length = L.length) := by
 rcases Go.Deep.open_slice hu h with ⟨hcs, _⟩ | ⟨a, len, cap, m, k, D, Pl, hcs, _, hl, _, hm, hx, hel⟩
 ·simp only [List.cons.injEq, and_true] at hcs
  subst hcs
  exact ⟨[], none, 0, rfl, fun _ e => (by cases e), fun _ _ e => (by cases e), Or.inl rfl⟩
 ·simp only [List.cons.injEq, and_true] at hcs
  subst hcs
  have hm2 : len ≤ m := by rw [hm]; split <;> omega
  have first : ∀ o : α, ∃ u, (cells o)[0]? = some u := fun o => ⟨(cells o)[0]'(by rw [hlen]; exact hn), List.getElem?_eq_getElem _⟩
  have key : ∀ i : Nat, ∃ S : α, i < len → ok S ∧ ∃ b off, some a = some (⟨b, off, none⟩ : Addr) ∧ b < W.heap.size ∧ W.rangeAt b (off + i * n) (cells S) := by
   intro i
   by_cases hi : i < len
   ·obtain ⟨cs', hc, ht⟩ := hel i (by omega)
    obtain ⟨o, ho, rfl⟩ := hcut ht
    refine ⟨o, fun _ => ⟨ho, ?_⟩⟩
    rw [hcl] at hc
    have hb := World.cells?_block hc hn
    obtain ⟨_, _, hcell⟩ := World.cells?_some hc
    obtain ⟨b, off, spot⟩ := a
    have hs : spot = none := by
     obtain ⟨cs0, hc0, ht0⟩ := hel 0 (by omega)
     obtain ⟨o0, _, rfl⟩ := hcut ht0
     rw [hcl] at hc0
     have h0 := (World.cells?_some hc0).2.2 0 hn
     obtain ⟨u, hu0⟩ := first o0
     rw [hu0] at h0
     have := World.cell?_spot (show W.cell? (((⟨b, off, spot⟩ : Addr).add (0 * n)).add 0) = some u from h0)
     simpa [Addr.add] using this
    subst hs
    refine ⟨b, off, rfl, by simpa [Addr.add_mid] using hb, fun j v hv => ?_⟩
    have hj : j < n := by rw [← hlen o]; exact (List.getElem?_eq_some_iff.1 hv).1
    have := hcell j hj
    rw [Addr.add_mid, Addr.add_mid, hv] at this
    exact this
   ·exact ⟨dflt, fun e => absurd e hi⟩
  obtain ⟨f, hf2⟩ := Classical.skolem.1 key
  refine ⟨(List.range len).map f, some a, cap, by simp, fun o ho => ?_, fun i o e => ?_, Or.inr ⟨_, _, congrArg Prod.fst hx, by simp⟩⟩
  ·obtain ⟨i, hi, rfl⟩ := List.mem_map.1 ho
   exact (hf2 i (by simpa using hi)).1
  ·have hi : i < len := by have := (List.getElem?_eq_some_iff.1 e).1; simpa using this
   rw [List.getElem?_map, List.getElem?_range hi] at e
   cases e
   exact (hf2 i hi).2
set_option maxRecDepth 100000 in
theorem cut31 (h : DataW.trod enc Try.prog W 0 sp true fuel 31 cs = some x) : ∃ o : Op6, (o.ok ∧ SVv W o.p o.vs) ∧ cs = o.cells := by
 obtain ⟨xs, n, rfl, _, hl, hlen, hi⟩ := DataW.trod_struct Try.underlying31 h
 rw [Try.cl31] at hl
 obtain ⟨c0, c1, c2, c3, c4, c5, c6, rfl⟩ : ∃ c0 c1 c2 c3 c4 c5 c6, cs = [c0, c1, c2, c3, c4, c5, c6] := by
  match cs, hl with
  | [a0, a1, a2, a3, a4, a5, a6], _ => exact ⟨a0, a1, a2, a3, a4, a5, a6, rfl⟩
 obtain ⟨y0, y1, y2, y3, y4, y5, y6, rfl⟩ : ∃ y0 y1 y2 y3 y4 y5 y6, xs = [y0, y1, y2, y3, y4, y5, y6] := by
  match xs, hlen with
  | [a0, a1, a2, a3, a4, a5, a6], _ => exact ⟨a0, a1, a2, a3, a4, a5, a6, rfl⟩
 have i0 := hi 0 _ rfl
 have i1 := hi 1 _ rfl
 have i2 := hi 2 _ rfl
 have i3 := hi 3 _ rfl
 have i4 := hi 4 _ rfl
 have i5 := hi 5 _ rfl
 have i6 := hi 6 _ rfl
 simp [Try.cl3, Try.cl2, Try.cl29] at i0 i1 i2 i3 i4 i5 i6
 obtain ⟨d, e0, _, w0⟩ := DataW.trod_int Try.underlying3 i0
 obtain ⟨a, e1, _, w1⟩ := DataW.trod_int Try.underlying3 i1
 obtain ⟨i, e2, _, w2⟩ := DataW.trod_int Try.underlying2 i2
 obtain ⟨L, pa, cap, e3, hL, hSV, _⟩ := cut_sl Try.underlying29 (n := 10) (by decide) Try.cl55 V10.cells v0 (fun y => y.n.ok) (fun _ => rfl) (fun h => cut10 h) i3
 obtain ⟨c, e4, _, w4⟩ := DataW.trod_int Try.underlying3 i4
 obtain ⟨f, e5, _, w5⟩ := DataW.trod_int Try.underlying3 i5
 obtain ⟨g, e6, _, w6⟩ := DataW.trod_int Try.underlying3 i6
 simp at e0 e1 e2 e4 e5 e6
 subst e0 e1 e2 e3 e4 e5 e6
 exact ⟨⟨d, a, i, pa, L, cap, c, f, g⟩, ⟨⟨wf_i1 w0, wf_i1 w1, wf_i1 w2, hL, wf_i1 w4, wf_i1 w5, wf_i1 w6⟩, hSV⟩, rfl⟩
end
section
variable {H : Type} {enc : TypeId × Value → H} {W : World} {base : Nat} {v : Value} {d : DataW H} {p : List MemPlace}
set_option maxRecDepth 100000 in
theorem open_script (hv : Value.okWide Try.prog W .any base 23 v) (h : DataW.Trod enc Try.prog W 0 (fun _ => true) true 23 v d p) :
  ∃ (sc : List Op6) (pa : Option Addr) (cap : Nat), v = .slice pa sc.length cap ∧ (∀ o ∈ sc, o.ok) ∧ SA W pa sc ∧ (sc = [] ∨ ∃ elems spare, d = .slice elems spare ∧ elems.length = sc.length) := by
 obtain ⟨a0, len, cap0, rfl⟩ := okWide_slice Try.underlying23 hv
 obtain ⟨fuel, hf⟩ := h
 obtain ⟨L, pa, cap, h1, h2, h3, h4⟩ := cut_sl Try.underlying23 (n := 7) (by decide) Try.cl31 Op6.cells ⟨0, 0, 0, none, [], 0, 0, 0, 0⟩ (fun o => o.ok ∧ SVv W o.p o.vs) (fun _ => rfl) (fun h => cut31 h) (show DataW.trod enc Try.prog W 0 _ true fuel 23 [_] = some (d, p) from hf)
 exact ⟨L, pa, cap, h1, fun o ho => (h2 o ho).1, fun i o e => ⟨h3 i o e, (h2 o (List.mem_of_getElem? e)).2⟩, h4⟩
set_option maxRecDepth 100000 in
theorem open_ints (hv : Value.okWide Try.prog W .any base 22 v) (h : DataW.Trod enc Try.prog W 0 (fun _ => true) true 22 v d p) :
  ∃ (L : List Int) (pa : Option Addr) (cap : Nat), v = .slice pa L.length cap ∧ (∀ x ∈ L, I64 x) ∧ SN W pa L := by
 obtain ⟨a0, len, cap0, rfl⟩ := okWide_slice Try.underlying22 hv
 obtain ⟨fuel, hf⟩ := h
 obtain ⟨L, pa, cap, h1, h2, h3, _⟩ := cut_sl Try.underlying22 (n := 1) (by decide) Try.cl3 (fun x : Int => [.int .i64 x]) 0 I64 (fun _ => rfl) (fun h => by
  obtain ⟨z, e, _, w⟩ := DataW.trod_int Try.underlying3 h
  exact ⟨z, wf_i1 w, e⟩) (show DataW.trod enc Try.prog W 0 _ true fuel 22 [_] = some (d, p) from hf)
 exact ⟨L, pa, cap, h1, h2, h3⟩
end
end G
end Go.Proofs.Ythfemlhmnjfjiaa
