/-
  A part of the proof.
-/
import Derived.Test.YthfemlhmnjfjiaaC11
import Derived.Test.YthfemlhmnjfjiaaC7
import Derived.Test.YthfemlhmnjfjiaaRows
import Derived.ProofKit
import Derived.OpenShut
import Derived.Carry
import Derived.ChangeMaps5
import Derived.ReadAgain
import Derived.WideKeyArgs
import Derived.SizedLaws
import Derived.Deep.Slices
import Derived.Deep.Strs
/-
  AggtreeParts: the law's walk.
-/
namespace Go.Proofs.Ythfemlhmnjfjiaa
open Go.RowKit
namespace G
theorem cv5 (n : Nat) (h : n ≤ 255) (w : World) : (convert 5 3 (.int .u8 (n : Int))).run Try.prog w = .ok (.int .i64 (n : Int)) w := by
  have e : (convert 5 3 (.int .u8 (n : Int))).run Try.prog w = .ok (.int .i64 (IntKind.i64.wrap (n : Int))) w := by kernel_rfl
  have h2 : IntKind.i64.wrap (n : Int) = n := by rw [IntKind.wrap_i64]; omega
  rw [e, h2]
theorem rem3 {n m k : Nat} (hk : k = n % m) (hm : 0 < m) (x y : Operand) (w : World) : (do eqGuard .rem 3 x y (.int .i64 (n : Int)) (.int .i64 (m : Int)); binOp .rem 3 (.int .i64 (n : Int)) (.int .i64 (m : Int))).run Try.prog w = .ok (.int .i64 (k : Int)) w := by
  subst hk
  simp [go_sem]
  rw [if_neg (by omega), Int.tmod_eq_emod_of_nonneg (by omega)]
theorem subNn {a b : Nat} (h : b ≤ a) (ha : a ≤ 100000) (x y : Operand) (w : World) : (do eqGuard .sub 3 x y (.int .i64 (a : Int)) (.int .i64 (b : Int)); binOp .sub 3 (.int .i64 (a : Int)) (.int .i64 (b : Int))).run Try.prog w = .ok (.int .i64 ((a - b : Nat) : Int)) w := by
  rw [show ((a - b : Nat) : Int) = (a : Int) - b by omega]
  exact subI (by omega) (by omega) _ _ _
theorem addNn {a b : Nat} (ha : a + b ≤ 100000) (x y : Operand) (w : World) : (do eqGuard .add 3 x y (.int .i64 (a : Int)) (.int .i64 (b : Int)); binOp .add 3 (.int .i64 (a : Int)) (.int .i64 (b : Int))).run Try.prog w = .ok (.int .i64 ((a + b : Nat) : Int)) w := by
  rw [show ((a + b : Nat) : Int) = (a : Int) + b by omega]
  exact addI (by omega) (by omega) _ _ _
theorem neS (S : Sm) (x y : Operand) (w : World) : (do eqGuard .neq 42 x y (smv S) (smv S); binOp .neq 42 (smv S) (smv S)).run Try.prog w = .ok (.bool false) w := by
  have q := eq33s S.r S.f S.k S.d S.e S.tt S.so S.mn.b S.mn.n S.mn.s S.mx.b S.mx.n S.mx.s w
  have e : binOp .neq 42 (smv S) (smv S) = (do pure (.bool (!(← Op.equalIn 10000 42 (smv S) (smv S))))) := rfl
  rw [Sem.run_bind, guard_run x y gt33, e, Result.andThen_ok, Sem.run_bind, q]; rfl
theorem three_ok {A B C : Sm} (ha : A.ok) (hb : B.ok) (hc : C.ok) : ∀ T ∈ [A, B, C], T.ok := fun T hT => by
  simp only [List.mem_cons, List.mem_nil_iff, or_false] at hT
  rcases hT with rfl | rfl | rfl
  · exact ha
  · exact hb
  · exact hc
theorem prt_three {c : Nat} {s : Int} {L : List Py} {a b n : Int} (hL : ∀ y ∈ L, y.ok) (h0 : 0 ≤ a) (h1 : a ≤ b) (h2 : b ≤ n) (hn : n = L.length) : [prt c s 0 a L, prt c s a b L, prt c s b n L].foldl jn sm0 = col c s L := by
  have g : ∀ {x y : Int}, Gd s (prt c s x y L) := prt_gd hL
  show jn (jn (jn sm0 _) _) _ = _
  rw [jn_0l g, prt_join hL (Int.le_refl 0) h0 h1, prt_join hL (Int.le_refl 0) (by omega) h2]
  exact prt_all (Int.le_refl 0) (by omega)
section
variable {w : World}
theorem parts_x (scs : List Int) (ps : Option Addr) (caps : Nat) (sc : List Op6) (p : Option Addr) (cap : Nat) (xa xb : Nat) (hgt64 : 64 < scs.length) : Calls Try.prog 3 #[.slice ps scs.length caps, .slice p sc.length cap, .int .u8 ((xa : Nat) : Int), .int .u8 ((xb : Nat) : Int)] w fun e w' => e = .returned (.bool true) ∧ Mo w w' := by
  refine w_enter 130 Try.func3 Try.ntmps3 rfl rfl ?_
  have M : Mo w w := Mo.refl _
  refine w_seq (w_reg ?_)
  refine wl_m (.const (.bool false)) (.bool false) ?_
  refine w_nil (xn_then (w_seq (w_reg ?_)))
  refine wl_m (.tmp 0) (.slice ps scs.length caps) ?_
  refine wl_call 7 [(.tmp 26)] _ [.slice ps scs.length caps] (.tuple #[pp none, .int .i64 (3)]) rfl rfl (fun _ _ => by kernel_rfl) (new_x hgt64) rfl ?_
  intro w1 hq
  replace M := M.trans hq
  clear hq
  refine wl_m (.tmp 27) (.tuple #[pp none, .int .i64 (3)]) ?_
  refine wl_un (fun v => Instr.extract v 0) (.tmp 25) (.tuple #[pp none, .int .i64 (3)]) (pp none) (fun _ => rfl) rfl (by kernel_rfl) rfl ?_
  refine wl_un (fun v => Instr.extract v 1) (.tmp 25) (.tuple #[pp none, .int .i64 (3)]) (.int .i64 (3)) (fun _ => rfl) rfl (by kernel_rfl) rfl ?_
  refine wl_m (.tmp 28) (pp none) ?_
  refine wl_m (.tmp 29) (.int .i64 (3)) ?_
  refine w_nil (xn_then (w_seq (w_seq (w_reg ?_))))
  refine wl_call 8 [] _ [] (.bool true) rfl rfl (fun _ _ => by kernel_rfl) (begun_n _) rfl ?_
  intro w2 hq
  replace M := M.trans hq
  clear hq
  refine wl_un (fun v => Op.unary .not v) (.tmp 30) (.bool true) (.bool false) (fun _ => rfl) rfl (by kernel_rfl) rfl ?_
  refine wl_m (.tmp 31) (.bool false) ?_
  refine wl_m (.tmp 9) (pp none) ?_
  refine wl_b .eql 24 (.tmp 33) (.const (.pointer none)) (pp none) (pp none) (.bool true) (eqT0 _ _ _) ?_
  refine wl_m (.tmp 10) (.int .i64 (3)) ?_
  refine wl_b .neq 25 (.tmp 35) (.const (.int .i64 (0))) (.int .i64 (3)) (.int .i64 (0)) (.bool true) (by kernel_rfl) ?_
  refine wl_b .neq 4 (.tmp 34) (.tmp 36) (.bool true) (.bool true) (.bool false) (by kernel_rfl) ?_
  refine wl_pick (.tmp 32) (.const (.bool true)) (.tmp 37) false (.bool false) (fun _ => rfl) rfl rfl rfl ?_
  refine w_nil (xn_then (w_condF rfl (w_skip (xn_then (w_seq (w_seq (w_reg ?_)))))))
  refine wl_m (.tmp 9) (pp none) ?_
  refine wl_b .eql 24 (.tmp 39) (.const (.pointer none)) (pp none) (pp none) (.bool true) (eqT0 _ _ _) ?_
  refine w_nil (xn_then (w_condT rfl (w_seq (w_reg ?_))))
  refine wl_m (.const (.bool true)) (.bool true) ?_
  refine w_nil (xn_then (w_ret (xr_then ?_)))
  exact w_ret1 _ (.bool true) rfl rfl ⟨rfl, M⟩
set_option maxHeartbeats 4000000 in
theorem parts_k (scs : List Int) (ps : Option Addr) (caps : Nat) (sc : List Op6) (p : Option Addr) (cap : Nat) (xa xb : Nat) (hxa : xa ≤ 255) (hxb : xb ≤ 255) (hsc : ∀ o ∈ sc, o.ok) (hSN : SN w ps scs) (hSA : SA w p sc) (hn : sc.length ≤ 2000000000000) (hle64 : scs.length ≤ 64) : Calls Try.prog 3 #[.slice ps scs.length caps, .slice p sc.length cap, .int .u8 ((xa : Nat) : Int), .int .u8 ((xb : Nat) : Int)] w fun e w' => e = .returned (.bool true) ∧ Mo w w' := by
  refine w_enter 130 Try.func3 Try.ntmps3 rfl rfl ?_
  have M : Mo w w := Mo.refl _
  refine w_seq (w_reg ?_)
  refine wl_m (.const (.bool false)) (.bool false) ?_
  refine w_nil (xn_then (w_seq (w_reg ?_)))
  refine wl_m (.tmp 0) (.slice ps scs.length caps) ?_
  refine wl_callx 7 [(.tmp 26)] _ [.slice ps scs.length caps] rfl rfl (fun _ _ => by kernel_rfl) (new_g (n0 := w.heap.size) (ks := []) (sc := scs) (hSN.mo M) hle64 M.size (fun _ e => by cases e)) rfl ?_
  rintro _ w1 ⟨t, mb, rfl, hG, hscs, ht9, hq⟩
  refine ⟨_, rfl, ?_⟩
  replace M := M.trans hq
  clear hq
  refine wl_m (.tmp 27) (.tuple #[pt t 0, .int .i64 (0)]) ?_
  refine wl_un (fun v => Instr.extract v 0) (.tmp 25) (.tuple #[pt t 0, .int .i64 (0)]) (pt t 0) (fun _ => rfl) rfl (by kernel_rfl) rfl ?_
  refine wl_un (fun v => Instr.extract v 1) (.tmp 25) (.tuple #[pt t 0, .int .i64 (0)]) (.int .i64 (0)) (fun _ => rfl) rfl (by kernel_rfl) rfl ?_
  refine wl_m (.tmp 28) (pt t 0) ?_
  refine wl_m (.tmp 29) (.int .i64 (0)) ?_
  refine w_nil (xn_then (w_seq (w_seq (w_reg ?_))))
  refine wl_call 8 [] _ [] (.bool true) rfl rfl (fun _ _ => by kernel_rfl) (begun_n _) rfl ?_
  intro w2 hq
  replace hG := hG.mo hq
  replace M := M.trans hq
  clear hq
  refine wl_un (fun v => Op.unary .not v) (.tmp 30) (.bool true) (.bool false) (fun _ => rfl) rfl (by kernel_rfl) rfl ?_
  refine wl_m (.tmp 31) (.bool false) ?_
  refine wl_m (.tmp 9) (pt t 0) ?_
  refine wl_b .eql 24 (.tmp 33) (.const (.pointer none)) (pt t 0) (pp none) (.bool false) (eqT _ _ _ _) ?_
  refine wl_m (.tmp 10) (.int .i64 (0)) ?_
  refine wl_b .neq 25 (.tmp 35) (.const (.int .i64 (0))) (.int .i64 (0)) (.int .i64 (0)) (.bool false) (by kernel_rfl) ?_
  refine wl_b .neq 4 (.tmp 34) (.tmp 36) (.bool false) (.bool false) (.bool false) (by kernel_rfl) ?_
  refine wl_pick (.tmp 32) (.const (.bool true)) (.tmp 37) false (.bool false) (fun _ => rfl) rfl rfl rfl ?_
  refine w_nil (xn_then (w_condF rfl (w_skip (xn_then (w_seq (w_seq (w_reg ?_)))))))
  refine wl_m (.tmp 9) (pt t 0) ?_
  refine wl_b .eql 24 (.tmp 39) (.const (.pointer none)) (pt t 0) (pp none) (.bool false) (eqT _ _ _ _) ?_
  refine w_nil (xn_then (w_condF rfl (w_skip (xn_then (w_seq (w_seq (w_reg ?_)))))))
  refine wl_m (.tmp 1) (.slice p sc.length cap) ?_
  refine wl_val (.int .i64 ((sc.length : Nat) : Int)) (len23 _ _ _ _ _ (by exact rfl) _ _ _ _ _ _) rfl ?_
  refine wl_m (.const (.int .i64 (0))) (.int .i64 (0)) ?_
  refine w_nil (xn_then (w_block ?_))
  refine w_loop (fun r l w1 => ∃ (i : Nat) (tr : T) (lk : Int), r + i = sc.length ∧ look l 0 = .slice ps scs.length caps ∧ look l 2 = .int .u8 ((xa : Nat) : Int) ∧ look l 3 = .int .u8 ((xb : Nat) : Int) ∧ look l 41 = .slice p sc.length cap ∧ look l 42 = .int .i64 ((sc.length : Nat) : Int) ∧ look l 43 = .int .i64 ((i : Nat) : Int) ∧ look l 9 = pt t 0 ∧ GT w.heap.size [] w1 t mb tr lk ∧ lk ≤ 20000 * i ∧ Mo w w1) sc.length ⟨0, .e, 0, by omega, rfl, rfl, rfl, rfl, rfl, rfl, rfl, hG, by decide, M⟩ ?_
  clear M hG
  rintro r l wl ⟨i, tr, lk, hr, e0, e2, e3, e41, e42, e43, e9, hG, hlk, M⟩
  have hle := hG.le
  have hkl := tr.kv_len
  have hl0 := hG.l0
  have hht := T.ht_le tr
  refine w_seq ?_
  cases hf0 : decide (i < sc.length) with
  | true =>
    have hf0p := of_decide_eq_true hf0
    refine w_reg ?_
    refine wl_bin (fun x y => do eqGuard .lss 3 (.tmp 43) (.tmp 42) x y; binOp .lss 3 x y) (.tmp 43) (.tmp 42) (.int .i64 ((i : Nat) : Int)) (.int .i64 ((sc.length : Nat) : Int)) (.bool true) (fun _ => rfl) e43 e42 (ltN hf0 _ _ _) rfl ?_
    refine w_nil (xn_then (w_seq (w_condT rfl (w_skip (xn_then (w_seq (w_block (w_seq (w_reg ?_)))))))))
    obtain ⟨o, ho⟩ : ∃ o, sc[i]? = some o := ⟨sc[i]'(by omega), List.getElem?_eq_getElem _⟩
    have hok := hsc o (List.mem_of_getElem? ho)
    have hSVo := (hSA _ o ho).2
    obtain ⟨b, off, hpb, hbl, hrg⟩ := ((hSA.mo M) _ o ho).1
    refine wl_bin (fun x y => Instr.indexAt 23 x y) (.tmp 41) (.tmp 43) (.slice p sc.length cap) (.int .i64 ((i : Nat) : Int)) (pt b (off + i * 7)) (fun _ => rfl) e41 e43 (by rw [hpb]; exact ix23 b off i _ _ (by omega) _) rfl ?_
    refine wl_l 31 (.tmp 45) (pt b (off + i * 7)) (.agg #[.int .i64 (o.d), .int .i64 (o.a), .int .i64 (o.i), .slice o.p o.vs.length o.cap, .int .i64 (o.c), .int .i64 (o.f), .int .i64 (o.e)]) (SA.load hrg) ?_
    refine wl_alloc 31 #[.int .i64 0, .int .i64 0, .int .i64 0, .slice none 0 0, .int .i64 0, .int .i64 0, .int .i64 0] rfl (fun _ => by kernel_rfl) rfl ?_
    intro k1 w11 hk hz hq Q1
    have N_k1 : w.heap.size ≤ k1 := by have := M.size; omega
    replace hG := hG.push (Nat.le_of_eq hk) (by omega) hq
    replace M := M.trans hq
    clear hk hz hq
    refine wl_stx2 31 (.tmp 12) (.tmp 46) k1 0 #[.int .i64 (o.d), .int .i64 (o.a), .int .i64 (o.i), .slice o.p o.vs.length o.cap, .int .i64 (o.c), .int .i64 (o.f), .int .i64 (o.e)] [.int .i64 0, .int .i64 0, .int .i64 0, .slice none 0 0, .int .i64 0, .int .i64 0, .int .i64 0] [.int .i64 (o.d), .int .i64 (o.a), .int .i64 (o.i), .slice o.p o.vs.length o.cap, .int .i64 (o.c), .int .i64 (o.f), .int .i64 (o.e)] Q1 rfl rfl rfl rfl rfl zs31 rfl rfl rfl ?_
    intro w12 hT Qn
    replace Q1 := Qn
    clear Qn
    replace hG := hG.st hT (by simp)
    replace M := (Mk.refl (fun j => j = k1) _ |>.st hT rfl).mo M (fun _ e => e ▸ N_k1)
    clear hT
    refine w_nil (xn_then (w_reg ?_))
    refine wl_mv (.tmp 9) (pt t 0) (fun _ => rfl) e9 rfl ?_
    refine wl_f 31 1 (.tmp 12) (pt k1 0) (pt k1 1) ?_
    refine wl_l 3 (.tmp 48) (pt k1 1) (.int .i64 (o.a)) (run_one Q1 3 1 rfl Try.underlying3 rfl) ?_
    refine wl_f 31 2 (.tmp 12) (pt k1 0) (pt k1 2) ?_
    refine wl_l 2 (.tmp 50) (pt k1 2) (.int .i64 (o.i)) (run_one Q1 2 2 rfl Try.underlying2 rfl) ?_
    refine wl_f 31 3 (.tmp 12) (pt k1 0) (pt k1 3) ?_
    refine wl_l 29 (.tmp 52) (pt k1 3) (.slice o.p o.vs.length o.cap) (run_one Q1 29 3 rfl Try.underlying29 rfl) ?_
    refine wl_callx 9 [(.tmp 47), (.tmp 49), (.tmp 51), (.tmp 53)] _ [pt t 0, .int .i64 (o.a), .int .i64 (o.i), .slice o.p o.vs.length o.cap] rfl rfl (fun _ _ => by kernel_rfl) (ins_any hG hok.i (by omega) (fun w9 m9 => hSVo.mo (Wr.mo m9 M (Nat.le_refl _))) hok.v) rfl ?_
    rintro _ w13 ⟨tr2, lk2, rfl, hG, _, hk1, hk2, hM2⟩
    refine ⟨_, rfl, ?_⟩
    have hle2 := hG.le
    replace M := Wr.mo hM2 M (Nat.le_refl _)
    replace Q1 := Wr.at hM2 Q1 (by simp)
    clear hM2
    refine w_nil (xn_blk (xn_then (w_reg ?_)))
    refine wl_bin (fun x y => do eqGuard .add 3 (.tmp 43) (.const (.int .i64 (1))) x y; binOp .add 3 x y) (.tmp 43) (.const (.int .i64 (1))) (.int .i64 ((i : Nat) : Int)) (.int .i64 (1)) (.int .i64 ((i + 1 : Nat) : Int)) (fun _ => rfl) e43 rfl (add1r (k := i) (by omega) _ _ _) rfl ?_
    refine wl_m (.tmp 55) (.int .i64 ((i + 1 : Nat) : Int)) ?_
    refine w_nil ?_
    exact xn_loop (r - 1) (by omega) ⟨i + 1, tr2, lk2, by omega, e0, e2, e3, e41, e42, rfl, e9, hG.pop (fun _ e => by cases e), by omega, M⟩
  | false =>
    have hf0p := of_decide_eq_false hf0
    refine w_reg ?_
    refine wl_bin (fun x y => do eqGuard .lss 3 (.tmp 43) (.tmp 42) x y; binOp .lss 3 x y) (.tmp 43) (.tmp 42) (.int .i64 ((i : Nat) : Int)) (.int .i64 ((sc.length : Nat) : Int)) (.bool false) (fun _ => rfl) e43 e42 (ltN hf0 _ _ _) rfl ?_
    refine w_nil (xn_then (w_seq (w_condF rfl (w_exit (xx_then (xx_then (xx_blk (xn_then (w_seq (w_reg ?_))))))))))
    refine wl_mv (.tmp 9) (pt t 0) (fun _ => rfl) e9 rfl ?_
    refine wl_call 10 [(.tmp 56)] _ [pt t 0] (.int .i64 ((tr.kv.length : Nat) : Int)) rfl rfl (fun _ _ => by kernel_rfl) (len_g hG) rfl ?_
    intro w11 hq
    replace hG := hG.mo hq
    replace M := M.trans hq
    clear hq
    refine wl_m (.tmp 57) (.int .i64 ((tr.kv.length : Nat) : Int)) ?_
    refine w_nil (xn_then (w_seq (w_reg ?_)))
    refine wl_mv (.tmp 2) (.int .u8 ((xa : Nat) : Int)) (fun _ => rfl) e2 rfl ?_
    refine wl_un (fun v => convert 5 3 v) (.tmp 58) (.int .u8 ((xa : Nat) : Int)) (.int .i64 ((xa : Nat) : Int)) (fun _ => rfl) rfl (cv5 xa (by omega) _) rfl ?_
    refine wl_m (.tmp 13) (.int .i64 ((tr.kv.length : Nat) : Int)) ?_
    refine wl_b .add 3 (.tmp 60) (.const (.int .i64 (1))) (.int .i64 ((tr.kv.length : Nat) : Int)) (.int .i64 (1)) (.int .i64 ((tr.kv.length + 1 : Nat) : Int)) (add1r (k := tr.kv.length) (by omega) _ _ _) ?_
    obtain ⟨fN, hfN⟩ : ∃ X, X = xa % (tr.kv.length + 1) := ⟨_, rfl⟩
    have hfl : fN < tr.kv.length + 1 := by rw [hfN]; exact Nat.mod_lt _ (by omega)
    refine wl_b .rem 3 (.tmp 59) (.tmp 61) (.int .i64 ((xa : Nat) : Int)) (.int .i64 ((tr.kv.length + 1 : Nat) : Int)) (.int .i64 ((fN : Nat) : Int)) (rem3 hfN (by omega) _ _ _) ?_
    refine wl_m (.tmp 62) (.int .i64 ((fN : Nat) : Int)) ?_
    refine w_nil (xn_then (w_seq (w_reg ?_)))
    refine wl_m (.tmp 14) (.int .i64 ((fN : Nat) : Int)) ?_
    refine wl_mv (.tmp 3) (.int .u8 ((xb : Nat) : Int)) (fun _ => rfl) e3 rfl ?_
    refine wl_un (fun v => convert 5 3 v) (.tmp 64) (.int .u8 ((xb : Nat) : Int)) (.int .i64 ((xb : Nat) : Int)) (fun _ => rfl) rfl (cv5 xb (by omega) _) rfl ?_
    refine wl_m (.tmp 13) (.int .i64 ((tr.kv.length : Nat) : Int)) ?_
    refine wl_b .add 3 (.tmp 66) (.const (.int .i64 (1))) (.int .i64 ((tr.kv.length : Nat) : Int)) (.int .i64 (1)) (.int .i64 ((tr.kv.length + 1 : Nat) : Int)) (add1r (k := tr.kv.length) (by omega) _ _ _) ?_
    refine wl_m (.tmp 14) (.int .i64 ((fN : Nat) : Int)) ?_
    refine wl_b .sub 3 (.tmp 67) (.tmp 68) (.int .i64 ((tr.kv.length + 1 : Nat) : Int)) (.int .i64 ((fN : Nat) : Int)) (.int .i64 ((tr.kv.length + 1 - fN : Nat) : Int)) (subNn (by omega) (by omega) _ _ _) ?_
    obtain ⟨gN, hgN⟩ : ∃ X, X = xb % (tr.kv.length + 1 - fN) := ⟨_, rfl⟩
    have hgl : gN < tr.kv.length + 1 - fN := by rw [hgN]; exact Nat.mod_lt _ (by omega)
    refine wl_b .rem 3 (.tmp 65) (.tmp 69) (.int .i64 ((xb : Nat) : Int)) (.int .i64 ((tr.kv.length + 1 - fN : Nat) : Int)) (.int .i64 ((gN : Nat) : Int)) (rem3 hgN (by omega) _ _ _) ?_
    refine wl_b .add 3 (.tmp 63) (.tmp 70) (.int .i64 ((fN : Nat) : Int)) (.int .i64 ((gN : Nat) : Int)) (.int .i64 ((fN + gN : Nat) : Int)) (addNn (by omega) _ _ _) ?_
    refine wl_m (.tmp 71) (.int .i64 ((fN + gN : Nat) : Int)) ?_
    refine w_nil (xn_then (w_seq (w_seq (w_reg ?_))))
    refine wl_mv (.tmp 0) (.slice ps scs.length caps) (fun _ => rfl) e0 rfl ?_
    refine wl_val (.int .i64 ((scs.length : Nat) : Int)) (len22 _ _ _ _ _ (by exact rfl) _ _ _ _ _ _) rfl ?_
    refine wl_m (.const (.int .i64 (0))) (.int .i64 (0)) ?_
    refine w_nil (xn_then (w_block ?_))
    refine w_loop (fun r l w1 => ∃ (j : Nat) (lkj : Int), r + j = scs.length ∧ look l 73 = .int .i64 ((scs.length : Nat) : Int) ∧ look l 74 = .int .i64 ((j : Nat) : Int) ∧ look l 9 = pt t 0 ∧ look l 13 = .int .i64 ((tr.kv.length : Nat) : Int) ∧ look l 14 = .int .i64 ((fN : Nat) : Int) ∧ look l 15 = .int .i64 ((fN + gN : Nat) : Int) ∧ GT w.heap.size [] w1 t mb tr lkj ∧ lkj ≤ lk + 20000 * j ∧ Mo w w1) scs.length ⟨0, lk, by omega, rfl, rfl, e9, rfl, rfl, rfl, hG, by omega, M⟩ ?_
    have hoks : ∀ y ∈ tr.ids, y.ok := fun y hy => (hG.oks y hy).1
    clear M hG
    rintro r2 l2 wl2 ⟨j, lkj, hr2, e73, e74, g9, e13, e14, e15, hG, hlkj, M⟩
    have hlj0 := hG.l0
    have hszi := T.sz_ids tr
    refine w_seq ?_
    cases hf1 : decide (j < scs.length) with
    | true =>
      have hf1p := of_decide_eq_true hf1
      refine w_reg ?_
      refine wl_bin (fun x y => do eqGuard .lss 3 (.tmp 74) (.tmp 73) x y; binOp .lss 3 x y) (.tmp 74) (.tmp 73) (.int .i64 ((j : Nat) : Int)) (.int .i64 ((scs.length : Nat) : Int)) (.bool true) (fun _ => rfl) e74 e73 (ltN hf1 _ _ _) rfl ?_
      refine w_nil (xn_then (w_seq (w_condT rfl (w_skip (xn_then (w_seq (w_block (w_seq (w_reg ?_)))))))))
      refine wl_mv (.tmp 74) (.int .i64 ((j : Nat) : Int)) (fun _ => rfl) e74 rfl ?_
      refine wl_m (.tmp 76) (.int .i64 ((j : Nat) : Int)) ?_
      refine w_nil (xn_then (w_seq (w_reg ?_)))
      refine wl_mv (.tmp 9) (pt t 0) (fun _ => rfl) g9 rfl ?_
      refine wl_m (.tmp 16) (.int .i64 ((j : Nat) : Int)) ?_
      refine wl_mv (.tmp 14) (.int .i64 ((fN : Nat) : Int)) (fun _ => rfl) e14 rfl ?_
      refine wl_callx 11 [(.tmp 78), (.tmp 79), (.const (.int .i64 (0))), (.tmp 80)] _ [pt t 0, .int .i64 ((j : Nat) : Int), .int .i64 (0), .int .i64 ((fN : Nat) : Int)] rfl rfl (fun _ _ => by kernel_rfl) (qry_any (cn := ((j : Nat) : Int)) (fa := 0) (ta := ((fN : Nat) : Int)) hG (by omega)) rfl ?_
      rintro _ w61 ⟨Sx, cd1, lq1, rfl, hG, hc9, hq1, hp1, hM2⟩
      refine ⟨_, rfl, ?_⟩
      obtain ⟨_, rfl, hSx⟩ := hc9.resolve_right (fun h => h.1 (by rw [hscs]; omega))
      have okSx : Sx.ok := by rw [hSx]; exact prt_ok hoks
      clear hc9
      replace M := Wr.mo hM2 M (Nat.le_refl _)
      clear hM2
      refine wl_m (.tmp 81) (.tuple #[smv Sx, .int .i64 (0)]) ?_
      refine wl_un (fun v => Instr.extract v 0) (.tmp 77) (.tuple #[smv Sx, .int .i64 (0)]) (smv Sx) (fun _ => rfl) rfl (by kernel_rfl) rfl ?_
      refine wl_un (fun v => Instr.extract v 1) (.tmp 77) (.tuple #[smv Sx, .int .i64 (0)]) (.int .i64 (0)) (fun _ => rfl) rfl (by kernel_rfl) rfl ?_
      refine wl_alloc 42 #[.int .i64 0, .int .i64 0, .int .i64 0, .int .i64 0, .int .i64 0, .int .u64 0, .int .u64 0, .int .u64 0, .int .u64 0, .int .u64 0, .bool false, .bool false, .int .u64 0, .int .u64 0, .int .u64 0, .int .u64 0, .int .i64 0, .bool false, .int .u64 0, .int .u64 0, .int .u64 0, .int .u64 0, .int .i64 0] rfl (fun _ => by kernel_rfl) rfl ?_
      intro k1 w62 hk hz hq Q1
      have N_k1 : w.heap.size ≤ k1 := by have := M.size; omega
      replace hG := hG.push (Nat.le_of_eq hk) (by omega) hq
      replace M := M.trans hq
      clear hk hz hq
      refine wl_stx2 42 (.tmp 17) (.tmp 82) k1 0 ((sml Sx).toArray) [.int .i64 0, .int .i64 0, .int .i64 0, .int .i64 0, .int .i64 0, .int .u64 0, .int .u64 0, .int .u64 0, .int .u64 0, .int .u64 0, .bool false, .bool false, .int .u64 0, .int .u64 0, .int .u64 0, .int .u64 0, .int .i64 0, .bool false, .int .u64 0, .int .u64 0, .int .u64 0, .int .u64 0, .int .i64 0] (sml Sx) Q1 rfl rfl rfl rfl rfl zs42 rfl rfl rfl ?_
      intro w63 hT Qn
      replace Q1 := Qn
      clear Qn
      replace hG := hG.st hT (by simp)
      replace M := (Mk.refl (fun j => j = k1) _ |>.st hT rfl).mo M (fun _ e => e ▸ N_k1)
      clear hT
      refine wl_m (.tmp 83) (.int .i64 (0)) ?_
      refine w_nil (xn_then (w_seq (w_reg ?_)))
      refine wl_mv (.tmp 9) (pt t 0) (fun _ => rfl) g9 rfl ?_
      refine wl_m (.tmp 16) (.int .i64 ((j : Nat) : Int)) ?_
      refine wl_mv (.tmp 14) (.int .i64 ((fN : Nat) : Int)) (fun _ => rfl) e14 rfl ?_
      refine wl_mv (.tmp 15) (.int .i64 ((fN + gN : Nat) : Int)) (fun _ => rfl) e15 rfl ?_
      refine wl_callx 11 [(.tmp 85), (.tmp 86), (.tmp 87), (.tmp 88)] _ [pt t 0, .int .i64 ((j : Nat) : Int), .int .i64 ((fN : Nat) : Int), .int .i64 ((fN + gN : Nat) : Int)] rfl rfl (fun _ _ => by kernel_rfl) (qry_any (cn := ((j : Nat) : Int)) (fa := ((fN : Nat) : Int)) (ta := ((fN + gN : Nat) : Int)) hG (by omega)) rfl ?_
      rintro _ w64 ⟨Sy, cd2, lq2, rfl, hG, hc9, hq2, hp2, hM2⟩
      refine ⟨_, rfl, ?_⟩
      obtain ⟨_, rfl, hSy⟩ := hc9.resolve_right (fun h => h.1 (by rw [hscs]; omega))
      have okSy : Sy.ok := by rw [hSy]; exact prt_ok hoks
      clear hc9
      replace M := Wr.mo hM2 M (Nat.le_refl _)
      replace Q1 := Wr.at hM2 Q1 (by simp)
      clear hM2
      refine wl_m (.tmp 89) (.tuple #[smv Sy, .int .i64 (0)]) ?_
      refine wl_un (fun v => Instr.extract v 0) (.tmp 84) (.tuple #[smv Sy, .int .i64 (0)]) (smv Sy) (fun _ => rfl) rfl (by kernel_rfl) rfl ?_
      refine wl_un (fun v => Instr.extract v 1) (.tmp 84) (.tuple #[smv Sy, .int .i64 (0)]) (.int .i64 (0)) (fun _ => rfl) rfl (by kernel_rfl) rfl ?_
      refine wl_alloc 42 #[.int .i64 0, .int .i64 0, .int .i64 0, .int .i64 0, .int .i64 0, .int .u64 0, .int .u64 0, .int .u64 0, .int .u64 0, .int .u64 0, .bool false, .bool false, .int .u64 0, .int .u64 0, .int .u64 0, .int .u64 0, .int .i64 0, .bool false, .int .u64 0, .int .u64 0, .int .u64 0, .int .u64 0, .int .i64 0] rfl (fun _ => by kernel_rfl) rfl ?_
      intro k2 w65 hk hz hq Q2
      have ne_k1_k2 : k1 ≠ k2 := by have := Q1.lt; omega
      have N_k2 : w.heap.size ≤ k2 := by have := M.size; omega
      replace hG := hG.push (Nat.le_of_eq hk) (by omega) hq
      replace Q1 := Q1.mo hq
      replace M := M.trans hq
      clear hk hz hq
      refine wl_stx2 42 (.tmp 19) (.tmp 90) k2 0 ((sml Sy).toArray) [.int .i64 0, .int .i64 0, .int .i64 0, .int .i64 0, .int .i64 0, .int .u64 0, .int .u64 0, .int .u64 0, .int .u64 0, .int .u64 0, .bool false, .bool false, .int .u64 0, .int .u64 0, .int .u64 0, .int .u64 0, .int .i64 0, .bool false, .int .u64 0, .int .u64 0, .int .u64 0, .int .u64 0, .int .i64 0] (sml Sy) Q2 rfl rfl rfl rfl rfl zs42 rfl rfl rfl ?_
      intro w66 hT Qn
      replace Q2 := Qn
      clear Qn
      replace Q1 := hT.other _ _ ne_k1_k2 Q1
      replace hG := hG.st hT (by simp)
      replace M := (Mk.refl (fun j => j = k2) _ |>.st hT rfl).mo M (fun _ e => e ▸ N_k2)
      clear hT
      refine wl_m (.tmp 91) (.int .i64 (0)) ?_
      refine w_nil (xn_then (w_seq (w_reg ?_)))
      refine wl_mv (.tmp 9) (pt t 0) (fun _ => rfl) g9 rfl ?_
      refine wl_m (.tmp 16) (.int .i64 ((j : Nat) : Int)) ?_
      refine wl_mv (.tmp 15) (.int .i64 ((fN + gN : Nat) : Int)) (fun _ => rfl) e15 rfl ?_
      refine wl_mv (.tmp 13) (.int .i64 ((tr.kv.length : Nat) : Int)) (fun _ => rfl) e13 rfl ?_
      refine wl_callx 11 [(.tmp 93), (.tmp 94), (.tmp 95), (.tmp 96)] _ [pt t 0, .int .i64 ((j : Nat) : Int), .int .i64 ((fN + gN : Nat) : Int), .int .i64 ((tr.kv.length : Nat) : Int)] rfl rfl (fun _ _ => by kernel_rfl) (qry_any (cn := ((j : Nat) : Int)) (fa := ((fN + gN : Nat) : Int)) (ta := ((tr.kv.length : Nat) : Int)) hG (by omega)) rfl ?_
      rintro _ w67 ⟨Sz, cd3, lq3, rfl, hG, hc9, hq3, hp3, hM2⟩
      refine ⟨_, rfl, ?_⟩
      obtain ⟨_, rfl, hSz⟩ := hc9.resolve_right (fun h => h.1 (by rw [hscs]; omega))
      have okSz : Sz.ok := by rw [hSz]; exact prt_ok hoks
      clear hc9
      replace M := Wr.mo hM2 M (Nat.le_refl _)
      replace Q1 := Wr.at hM2 Q1 (by simp)
      replace Q2 := Wr.at hM2 Q2 (by simp)
      clear hM2
      refine wl_m (.tmp 97) (.tuple #[smv Sz, .int .i64 (0)]) ?_
      refine wl_un (fun v => Instr.extract v 0) (.tmp 92) (.tuple #[smv Sz, .int .i64 (0)]) (smv Sz) (fun _ => rfl) rfl (by kernel_rfl) rfl ?_
      refine wl_un (fun v => Instr.extract v 1) (.tmp 92) (.tuple #[smv Sz, .int .i64 (0)]) (.int .i64 (0)) (fun _ => rfl) rfl (by kernel_rfl) rfl ?_
      refine wl_alloc 42 #[.int .i64 0, .int .i64 0, .int .i64 0, .int .i64 0, .int .i64 0, .int .u64 0, .int .u64 0, .int .u64 0, .int .u64 0, .int .u64 0, .bool false, .bool false, .int .u64 0, .int .u64 0, .int .u64 0, .int .u64 0, .int .i64 0, .bool false, .int .u64 0, .int .u64 0, .int .u64 0, .int .u64 0, .int .i64 0] rfl (fun _ => by kernel_rfl) rfl ?_
      intro k3 w68 hk hz hq Q3
      have ne_k1_k3 : k1 ≠ k3 := by have := Q1.lt; omega
      have ne_k2_k3 : k2 ≠ k3 := by have := Q2.lt; omega
      have N_k3 : w.heap.size ≤ k3 := by have := M.size; omega
      replace hG := hG.push (Nat.le_of_eq hk) (by omega) hq
      replace Q1 := Q1.mo hq
      replace Q2 := Q2.mo hq
      replace M := M.trans hq
      clear hk hz hq
      refine wl_stx2 42 (.tmp 21) (.tmp 98) k3 0 ((sml Sz).toArray) [.int .i64 0, .int .i64 0, .int .i64 0, .int .i64 0, .int .i64 0, .int .u64 0, .int .u64 0, .int .u64 0, .int .u64 0, .int .u64 0, .bool false, .bool false, .int .u64 0, .int .u64 0, .int .u64 0, .int .u64 0, .int .i64 0, .bool false, .int .u64 0, .int .u64 0, .int .u64 0, .int .u64 0, .int .i64 0] (sml Sz) Q3 rfl rfl rfl rfl rfl zs42 rfl rfl rfl ?_
      intro w69 hT Qn
      replace Q3 := Qn
      clear Qn
      replace Q1 := hT.other _ _ ne_k1_k3 Q1
      replace Q2 := hT.other _ _ ne_k2_k3 Q2
      replace hG := hG.st hT (by simp)
      replace M := (Mk.refl (fun j => j = k3) _ |>.st hT rfl).mo M (fun _ e => e ▸ N_k3)
      clear hT
      refine wl_m (.tmp 99) (.int .i64 (0)) ?_
      refine w_nil (xn_then (w_seq (w_reg ?_)))
      refine wl_mv (.tmp 9) (pt t 0) (fun _ => rfl) g9 rfl ?_
      refine wl_m (.tmp 16) (.int .i64 ((j : Nat) : Int)) ?_
      refine wl_callx 12 [(.tmp 101), (.tmp 102)] _ [pt t 0, .int .i64 ((j : Nat) : Int)] rfl rfl (fun _ _ => by kernel_rfl) (sum_any (cn := ((j : Nat) : Int)) hG (by omega)) rfl ?_
      rintro _ w70 ⟨Ss, cd4, lq4, rfl, hG, hc9, hq4, hp4, hM2⟩
      refine ⟨_, rfl, ?_⟩
      obtain ⟨_, rfl, hSs⟩ := hc9.resolve_right (fun h => h.1 (by rw [hscs]; omega))
      clear hc9
      replace M := Wr.mo hM2 M (Nat.le_refl _)
      replace Q1 := Wr.at hM2 Q1 (by simp)
      replace Q2 := Wr.at hM2 Q2 (by simp)
      replace Q3 := Wr.at hM2 Q3 (by simp)
      clear hM2
      have hJ : [Sx, Sy, Sz].foldl jn sm0 = Ss := by rw [hSx, hSy, hSz, hSs]; exact prt_three hoks (by omega) (by omega) (by omega) (by omega)
      refine wl_m (.tmp 103) (.tuple #[smv Ss, .int .i64 (0)]) ?_
      refine wl_un (fun v => Instr.extract v 0) (.tmp 100) (.tuple #[smv Ss, .int .i64 (0)]) (smv Ss) (fun _ => rfl) rfl (by kernel_rfl) rfl ?_
      refine wl_un (fun v => Instr.extract v 1) (.tmp 100) (.tuple #[smv Ss, .int .i64 (0)]) (.int .i64 (0)) (fun _ => rfl) rfl (by kernel_rfl) rfl ?_
      refine wl_alloc 42 #[.int .i64 0, .int .i64 0, .int .i64 0, .int .i64 0, .int .i64 0, .int .u64 0, .int .u64 0, .int .u64 0, .int .u64 0, .int .u64 0, .bool false, .bool false, .int .u64 0, .int .u64 0, .int .u64 0, .int .u64 0, .int .i64 0, .bool false, .int .u64 0, .int .u64 0, .int .u64 0, .int .u64 0, .int .i64 0] rfl (fun _ => by kernel_rfl) rfl ?_
      intro k4 w71 hk hz hq Q4
      have ne_k1_k4 : k1 ≠ k4 := by have := Q1.lt; omega
      have ne_k2_k4 : k2 ≠ k4 := by have := Q2.lt; omega
      have ne_k3_k4 : k3 ≠ k4 := by have := Q3.lt; omega
      have N_k4 : w.heap.size ≤ k4 := by have := M.size; omega
      replace hG := hG.push (Nat.le_of_eq hk) (by omega) hq
      replace Q1 := Q1.mo hq
      replace Q2 := Q2.mo hq
      replace Q3 := Q3.mo hq
      replace M := M.trans hq
      clear hk hz hq
      refine wl_stx2 42 (.tmp 23) (.tmp 104) k4 0 ((sml Ss).toArray) [.int .i64 0, .int .i64 0, .int .i64 0, .int .i64 0, .int .i64 0, .int .u64 0, .int .u64 0, .int .u64 0, .int .u64 0, .int .u64 0, .bool false, .bool false, .int .u64 0, .int .u64 0, .int .u64 0, .int .u64 0, .int .i64 0, .bool false, .int .u64 0, .int .u64 0, .int .u64 0, .int .u64 0, .int .i64 0] (sml Ss) Q4 rfl rfl rfl rfl rfl zs42 rfl rfl rfl ?_
      intro w72 hT Qn
      replace Q4 := Qn
      clear Qn
      replace Q1 := hT.other _ _ ne_k1_k4 Q1
      replace Q2 := hT.other _ _ ne_k2_k4 Q2
      replace Q3 := hT.other _ _ ne_k3_k4 Q3
      replace hG := hG.st hT (by simp)
      replace M := (Mk.refl (fun j => j = k4) _ |>.st hT rfl).mo M (fun _ e => e ▸ N_k4)
      clear hT
      refine wl_m (.tmp 105) (.int .i64 (0)) ?_
      refine w_nil (xn_then (w_seq ?_))
      have hsm : Smos [vq (.int .i64 (0)), vq (.bool false), vq (.bool false), vq (.int .i64 (0)), vq (.bool false), vq (.bool false), vq (.bool false), vq (.int .i64 (0)), vq (.bool false), vq (.bool false), vq (.bool false), vq (.int .i64 (0)), vq (.bool false), vq (.bool false), vq (.bool false), vq (smv Sx), vq (smv Sy), vq (smv Sz), fun u w9 => ∃ b9, u = .slice (some ⟨b9, 0, none⟩) 3 3 ∧ SS w9 (some ⟨b9, 0, none⟩) [Sx, Sy, Sz], vq (smv Ss), vq (smv Ss)] := smos_cons (smo_vq _) (smos_cons (smo_vq _) (smos_cons (smo_vq _) (smos_cons (smo_vq _) (smos_cons (smo_vq _) (smos_cons (smo_vq _) (smos_cons (smo_vq _) (smos_cons (smo_vq _) (smos_cons (smo_vq _) (smos_cons (smo_vq _) (smos_cons (smo_vq _) (smos_cons (smo_vq _) (smos_cons (smo_vq _) (smos_cons (smo_vq _) (smos_cons (smo_vq _) (smos_cons (smo_vq _) (smos_cons (smo_vq _) (smos_cons (smo_vq _) (smos_cons (fun u a b ⟨k9, h1, h2⟩ m => ⟨k9, h1, h2.mo m⟩) (smos_cons (smo_vq _) (smos_cons (smo_vq _) (smos_nil)))))))))))))))))))))
      have hgr : ∀ a b : World, Mo w72 a → Mo a b → Mo w72 b := fun _ _ h m => h.trans m
      refine w_ogc 21 (fun w9 => Mo w72 w9) [vq (.int .i64 (0)), vq (.bool false), vq (.bool false), vq (.int .i64 (0)), vq (.bool false), vq (.bool false), vq (.bool false), vq (.int .i64 (0)), vq (.bool false), vq (.bool false), vq (.bool false), vq (.int .i64 (0)), vq (.bool false), vq (.bool false), vq (.bool false), vq (smv Sx), vq (smv Sy), vq (smv Sz), fun u w9 => ∃ b9, u = .slice (some ⟨b9, 0, none⟩) 3 3 ∧ SS w9 (some ⟨b9, 0, none⟩) [Sx, Sy, Sz], vq (smv Ss), vq (smv Ss)] [] (by kernel_rfl) (by kernel_rfl) (by kernel_rfl) (by kernel_rfl) rfl (by kernel_rfl) (by kernel_rfl) latec_nil ((Mo.refl _).drew) ?_ ?_
      · refine ea_cons ?_ (ea_cons ?_ (ea_cons ?_ (ea_cons ?_ (ea_cons ?_ (ea_cons ?_ (ea_cons ?_ (ea_cons ?_ (ea_cons ?_ (ea_cons ?_ (ea_cons ?_ (ea_cons ?_ (ea_cons ?_ (ea_cons ?_ (ea_cons ?_ (ea_cons ?_ (ea_cons ?_ (ea_cons ?_ (ea_cons ?_ (ea_cons ?_ (ea_cons ?_ (ea_nil)))))))))))))))))))))
        · exact oc_eq (.int .i64 (0)) rfl hgr hsm (fun f wf hG9 hd K hK => go_run rfl (wo_mv (.tmp 18) (.int .i64 (0)) (fun _ => rfl) rfl (hK _ (Mo.refl _))))
        · exact oc_eq (.bool false) rfl hgr hsm (fun f wf hG9 hd K hK => go_run rfl (wo_bin (fun x y => do eqGuard .neq 25 (.tmp 106) (.const (.int .i64 (0))) x y; binOp .neq 25 x y) (.tmp 106) (.const (.int .i64 (0))) (.int .i64 (0)) (.int .i64 (0)) (.bool false) (fun _ => rfl) (hd 0 rfl) rfl (by kernel_rfl) (hK _ (Mo.refl _))))
        · exact oc_eq (.bool false) rfl hgr hsm (fun f wf hG9 hd K hK => go_run rfl (wo_mv (.tmp 107) (.bool false) (fun _ => rfl) (hd 1 rfl) (hK _ (Mo.refl _))))
        · exact oc_eq (.int .i64 (0)) rfl hgr hsm (fun f wf hG9 hd K hK => go_run (wnt_g rfl rfl rfl (hd 2 rfl) rfl) (wo_mv (.tmp 20) (.int .i64 (0)) (fun _ => rfl) rfl (hK _ (Mo.refl _))))
        · exact oc_eq (.bool false) rfl hgr hsm (fun f wf hG9 hd K hK => go_run (wnt_g rfl rfl rfl (hd 2 rfl) rfl) (wo_bin (fun x y => do eqGuard .neq 25 (.tmp 109) (.const (.int .i64 (0))) x y; binOp .neq 25 x y) (.tmp 109) (.const (.int .i64 (0))) (.int .i64 (0)) (.int .i64 (0)) (.bool false) (fun _ => rfl) (hd 3 rfl) rfl (by kernel_rfl) (hK _ (Mo.refl _))))
        · exact oc_eq (.bool false) rfl hgr hsm (fun f wf hG9 hd K hK => go_run rfl (wo_pick (.tmp 108) (.const (.bool true)) (.tmp 110) false (.bool false) (fun _ => rfl) (hd 2 rfl) (hd 4 rfl) (hK _ (Mo.refl _))))
        · exact oc_eq (.bool false) rfl hgr hsm (fun f wf hG9 hd K hK => go_run rfl (wo_mv (.tmp 111) (.bool false) (fun _ => rfl) (hd 5 rfl) (hK _ (Mo.refl _))))
        · exact oc_eq (.int .i64 (0)) rfl hgr hsm (fun f wf hG9 hd K hK => go_run (wnt_g rfl rfl rfl (hd 6 rfl) rfl) (wo_mv (.tmp 22) (.int .i64 (0)) (fun _ => rfl) rfl (hK _ (Mo.refl _))))
        · exact oc_eq (.bool false) rfl hgr hsm (fun f wf hG9 hd K hK => go_run (wnt_g rfl rfl rfl (hd 6 rfl) rfl) (wo_bin (fun x y => do eqGuard .neq 25 (.tmp 113) (.const (.int .i64 (0))) x y; binOp .neq 25 x y) (.tmp 113) (.const (.int .i64 (0))) (.int .i64 (0)) (.int .i64 (0)) (.bool false) (fun _ => rfl) (hd 7 rfl) rfl (by kernel_rfl) (hK _ (Mo.refl _))))
        · exact oc_eq (.bool false) rfl hgr hsm (fun f wf hG9 hd K hK => go_run rfl (wo_pick (.tmp 112) (.const (.bool true)) (.tmp 114) false (.bool false) (fun _ => rfl) (hd 6 rfl) (hd 8 rfl) (hK _ (Mo.refl _))))
        · exact oc_eq (.bool false) rfl hgr hsm (fun f wf hG9 hd K hK => go_run rfl (wo_mv (.tmp 115) (.bool false) (fun _ => rfl) (hd 9 rfl) (hK _ (Mo.refl _))))
        · exact oc_eq (.int .i64 (0)) rfl hgr hsm (fun f wf hG9 hd K hK => go_run (wnt_g rfl rfl rfl (hd 10 rfl) rfl) (wo_mv (.tmp 24) (.int .i64 (0)) (fun _ => rfl) rfl (hK _ (Mo.refl _))))
        · exact oc_eq (.bool false) rfl hgr hsm (fun f wf hG9 hd K hK => go_run (wnt_g rfl rfl rfl (hd 10 rfl) rfl) (wo_bin (fun x y => do eqGuard .neq 25 (.tmp 117) (.const (.int .i64 (0))) x y; binOp .neq 25 x y) (.tmp 117) (.const (.int .i64 (0))) (.int .i64 (0)) (.int .i64 (0)) (.bool false) (fun _ => rfl) (hd 11 rfl) rfl (by kernel_rfl) (hK _ (Mo.refl _))))
        · exact oc_eq (.bool false) rfl hgr hsm (fun f wf hG9 hd K hK => go_run rfl (wo_pick (.tmp 116) (.const (.bool true)) (.tmp 118) false (.bool false) (fun _ => rfl) (hd 10 rfl) (hd 12 rfl) (hK _ (Mo.refl _))))
        · exact oc_eq (.bool false) rfl hgr hsm (fun f wf hG9 hd K hK => go_run rfl (wo_mv (.tmp 119) (.bool false) (fun _ => rfl) (hd 13 rfl) (hK _ (Mo.refl _))))
        · exact oc_eq (smv Sx) rfl hgr hsm (fun f wf hG9 hd K hK => have Q1 := Q1.mo hG9; go_run (wnt_g rfl rfl rfl (hd 14 rfl) rfl) (wo_load 42 (.tmp 17) (pt k1 0) (smv Sx) rfl rfl (run_row Q1 42 0 23 (sml Sx) rfl Try.underlying42 rfl zs42) (hK _ (Mo.refl _))))
        · exact oc_eq (smv Sy) rfl hgr hsm (fun f wf hG9 hd K hK => have Q2 := Q2.mo hG9; go_run (wnt_g rfl rfl rfl (hd 14 rfl) rfl) (wo_load 42 (.tmp 19) (pt k2 0) (smv Sy) rfl rfl (run_row Q2 42 0 23 (sml Sy) rfl Try.underlying42 rfl zs42) (hK _ (Mo.refl _))))
        · exact oc_eq (smv Sz) rfl hgr hsm (fun f wf hG9 hd K hK => have Q3 := Q3.mo hG9; go_run (wnt_g rfl rfl rfl (hd 14 rfl) rfl) (wo_load 42 (.tmp 21) (pt k3 0) (smv Sz) rfl rfl (run_row Q3 42 0 23 (sml Sz) rfl Try.underlying42 rfl zs42) (hK _ (Mo.refl _))))
        · refine ⟨fun f wf hG9 hd K hK => ?_⟩
          exact go_run (wnt_g rfl rfl rfl (hd 14 rfl) rfl) (wo_bs47 (.tmp 121) (.tmp 122) (.tmp 123) Sx Sy Sz rfl (hd 15 rfl) (hd 16 rfl) (hd 17 rfl) (fun k9 w9 _ q1 q2 => hK _ w9 (hG9.trans q1) ⟨k9, rfl, q2⟩ (fun j u _ hr9 => hsm j u _ _ hr9 q1)))
        · refine oc_eq (smv Ss) rfl hgr hsm (fun f wf hG9 hd K hK => ?_)
          obtain ⟨b9, e9, h9⟩ := hd 18 rfl
          have hj9 := rjoin_n [Sx, Sy, Sz] (some ⟨b9, 0, none⟩) 3 (three_ok okSx okSy okSz) h9 (show 3 ≤ 900000000000000000 by decide)
          rw [hJ] at hj9
          exact go_run (wnt_g rfl rfl rfl (hd 14 rfl) rfl) (wo_call 13 [(.tmp 124)] _ [.slice (some ⟨b9, 0, none⟩) 3 3] (smv Ss) rfl (li1 e9) (fun _ _ => by kernel_rfl) hj9 hK)
        · exact oc_eq (smv Ss) rfl hgr hsm (fun f wf hG9 hd K hK => have Q4 := Q4.mo hG9; go_run (wnt_g rfl rfl rfl (hd 14 rfl) rfl) (wo_load 42 (.tmp 23) (pt k4 0) (smv Ss) rfl rfl (run_row Q4 42 0 23 (sml Ss) rfl Try.underlying42 rfl zs42) (hK _ (Mo.refl _))))
      intro f9 w73 hq hR9
      have r106 := hR9 0 rfl
      have r107 := hR9 1 rfl
      have r108 := hR9 2 rfl
      have r109 := hR9 3 rfl
      have r110 := hR9 4 rfl
      have r111 := hR9 5 rfl
      have r112 := hR9 6 rfl
      have r113 := hR9 7 rfl
      have r114 := hR9 8 rfl
      have r115 := hR9 9 rfl
      have r116 := hR9 10 rfl
      have r117 := hR9 11 rfl
      have r118 := hR9 12 rfl
      have r119 := hR9 13 rfl
      have r120 := hR9 14 rfl
      have r121 := hR9 15 rfl
      have r122 := hR9 16 rfl
      have r123 := hR9 17 rfl
      have r125 := hR9 19 rfl
      have r126 := hR9 20 rfl
      replace Q1 := Q1.mo hq
      replace Q2 := Q2.mo hq
      replace Q3 := Q3.mo hq
      replace Q4 := Q4.mo hq
      replace hG := hG.mo hq
      replace M := M.trans hq
      clear hq hR9 hsm hgr
      refine wl_bin (fun x y => do eqGuard .neq 42 (.tmp 125) (.tmp 126) x y; binOp .neq 42 x y) (.tmp 125) (.tmp 126) (smv Ss) (smv Ss) (.bool false) (fun _ => rfl) r125 r126 (neS Ss _ _ _) (wnt_g rfl rfl rfl r120 rfl) ?_
      refine wl_pick (.tmp 120) (.const (.bool true)) (.tmp 127) false (.bool false) (fun _ => rfl) r120 rfl rfl ?_
      refine w_nil (xn_then (w_condF rfl (w_skip (xn_blk (xn_then (w_reg ?_))))))
      refine wl_bin (fun x y => do eqGuard .add 3 (.tmp 74) (.const (.int .i64 (1))) x y; binOp .add 3 x y) (.tmp 74) (.const (.int .i64 (1))) (.int .i64 ((j : Nat) : Int)) (.int .i64 (1)) (.int .i64 ((j + 1 : Nat) : Int)) (fun _ => rfl) e74 rfl (add1r (k := j) (by omega) _ _ _) rfl ?_
      refine wl_m (.tmp 129) (.int .i64 ((j + 1 : Nat) : Int)) ?_
      refine w_nil ?_
      exact xn_loop (r2 - 1) (by omega) ⟨j + 1, lq4, by omega, e73, rfl, g9, e13, e14, e15, hG.pop (fun _ e => by cases e), by omega, M⟩
    | false =>
      have hf1p := of_decide_eq_false hf1
      refine w_reg ?_
      refine wl_bin (fun x y => do eqGuard .lss 3 (.tmp 74) (.tmp 73) x y; binOp .lss 3 x y) (.tmp 74) (.tmp 73) (.int .i64 ((j : Nat) : Int)) (.int .i64 ((scs.length : Nat) : Int)) (.bool false) (fun _ => rfl) e74 e73 (ltN hf1 _ _ _) rfl ?_
      refine w_nil (xn_then (w_seq (w_condF rfl (w_exit (xx_then (xx_then (xx_blk (xn_then (w_seq (w_reg ?_))))))))))
      refine wl_m (.const (.bool true)) (.bool true) ?_
      refine w_nil (xn_then (w_ret ?_))
      exact w_ret1 _ (.bool true) rfl rfl ⟨rfl, M⟩
theorem parts_n (scs : List Int) (ps : Option Addr) (caps : Nat) (hSN : SN w ps scs) (sc : List Op6) (p : Option Addr) (cap : Nat) (hsc : ∀ o ∈ sc, o.ok) (hSA : SA w p sc) (hn : sc.length ≤ 2000000000000) (x : Int) (hx : 0 ≤ x ∧ x ≤ 255) (y : Int) (hy : 0 ≤ y ∧ y ≤ 255) : Calls Try.prog 3 #[.slice ps scs.length caps, .slice p sc.length cap, .int .u8 x, .int .u8 y] w fun e w' => e = .returned (.bool true) ∧ Mo w w' := by
  obtain ⟨xa, rfl⟩ := Int.eq_ofNat_of_zero_le hx.1
  obtain ⟨xb, rfl⟩ := Int.eq_ofNat_of_zero_le hy.1
  by_cases h : scs.length ≤ 64
  · exact parts_k scs ps caps sc p cap xa xb (by omega) (by omega) hsc hSN hSA hn h
  · exact parts_x scs ps caps sc p cap xa xb (by omega)
end
end G
end Go.Proofs.Ythfemlhmnjfjiaa
/-
  Scripts that came in.
-/
namespace Go.Proofs.Ythfemlhmnjfjiaa
open Go.ChangeShapes Go.WideShapes Go.ChangeAt Go.RowKit
namespace G
theorem Try.own : ownKnob Try.prog.godebug = none := by kernel_rfl
theorem Try.cl2 : Try.prog.cellsOf 2 = 1 := by kernel_rfl
theorem Try.cl4 : Try.prog.cellsOf 4 = 1 := by kernel_rfl
theorem Try.cl9 : Try.prog.cellsOf 9 = 1 := by kernel_rfl
theorem Try.cl29 : Try.prog.cellsOf 29 = 1 := by kernel_rfl
theorem Try.cl31 : Try.prog.cellsOf 31 = 7 := by kernel_rfl
theorem Try.cl34 : Try.prog.cellsOf 34 = 1 := by kernel_rfl
theorem Try.cl38 : Try.prog.cellsOf 38 = 4 := by kernel_rfl
theorem Try.cl40 : Try.prog.cellsOf 40 = 6 := by kernel_rfl
theorem Try.cl55 : Try.prog.cellsOf 55 = 10 := by kernel_rfl
theorem Try.by31 : Try.prog.bytesOf 31 = 72 := by kernel_rfl
theorem Try.laidOut : laidOutB Try.prog = true := by kernel_rfl
theorem l0_vl {a b c d : Int} (h : U4 a b c d) : l0 (vl a b c d) = a := by unfold vl l0; unfold U4 U1 at h; omega
theorem l1_vl {a b c d : Int} (h : U4 a b c d) : l1 (vl a b c d) = b := by unfold vl l1; unfold U4 U1 at h; omega
theorem l2_vl {a b c d : Int} (h : U4 a b c d) : l2 (vl a b c d) = c := by unfold vl l2; unfold U4 U1 at h; omega
theorem l3_vl {a b c d : Int} (h : U4 a b c d) : l3 (vl a b c d) = d := by unfold vl l3; unfold U4 U1 at h; omega
theorem wf_u1 {x : Int} (h : (Lit.int .u64 x).wf = true) : U1 x := by
  simp [Lit.wf, IntKind.min, IntKind.max, IntKind.signed, IntKind.bits] at h
  exact ⟨by omega, by omega⟩
theorem wf_i1 {x : Int} (h : (Lit.int .i64 x).wf = true) : I64 x := by
  simp [Lit.wf, IntKind.min, IntKind.max, IntKind.signed, IntKind.bits] at h
  exact ⟨by omega, by omega⟩
theorem wf_u8 {x : Int} (h : (Lit.int .u8 x).wf = true) : 0 ≤ x ∧ x ≤ 255 := by
  simp [Lit.wf, IntKind.min, IntKind.max, IntKind.signed, IntKind.bits] at h
  exact ⟨by omega, by omega⟩
theorem trodAll_stays {H : Type} {enc : TypeId × Value → H} {W W' : World} {sp' : Nat → Bool} : ∀ {ts : List TypeId} {vs : List Value} {ds : List (DataW H)} {ps : List MemPlace}, (∀ t ∈ ts, Try.prog.readableRec t = true ∧ t < Try.prog.types.size) → DataW.TrodAll enc Try.prog W 0 (fun _ => true) true ts vs ds ps → (∀ p ∈ ps, W.sameAt W' p) → (∀ p ∈ ps, sp' p.block = true) → DataW.TrodAll enc Try.prog W' 0 sp' true ts vs ds ps
  | [], [], [], _, _, h, _, _ => h
  | _ :: _, _ :: _, _ :: _, _, hT, ⟨p, q, h1, h2, e⟩, hm, hs => ⟨p, q, WideElems.Trod_stays Try.laidOut (hT _ (List.mem_cons.2 (Or.inl rfl))).1 (hT _ (List.mem_cons.2 (Or.inl rfl))).2 h1 (fun x hx => hm x (by rw [e]; exact List.mem_append_left _ hx)) (fun x hx => hs x (by rw [e]; exact List.mem_append_left _ hx)),
      trodAll_stays (fun t ht => hT t (List.mem_cons.2 (Or.inr ht))) h2 (fun x hx => hm x (by rw [e]; exact List.mem_append_right _ hx)) (fun x hx => hs x (by rw [e]; exact List.mem_append_right _ hx)), e⟩
section
variable {H : Type} {enc : TypeId × Value → H} {W : World} {sp : Nat → Bool} {fuel : Nat} {cs : List Value} {x : DataW H × List MemPlace}
set_option maxRecDepth 100000 in
theorem cut4 (h : DataW.trod enc Try.prog W 0 sp true fuel 38 cs = some x) : ∃ n : Int, (0 ≤ n ∧ n < MM) ∧ cs = [.int .u64 (l0 n), .int .u64 (l1 n), .int .u64 (l2 n), .int .u64 (l3 n)] := by
  obtain ⟨xs, m, rfl, _, hlen, hn, hi⟩ := DataW.trod_array Try.underlying38 h
  rw [Try.cl38] at hlen
  obtain ⟨c0, c1, c2, c3, rfl⟩ : ∃ c0 c1 c2 c3, cs = [c0, c1, c2, c3] := by
    match cs, hlen with
    | [a, b, c, d], _ => exact ⟨a, b, c, d, rfl⟩
  obtain ⟨y0, y1, y2, y3, rfl⟩ : ∃ y0 y1 y2 y3, xs = [y0, y1, y2, y3] := by
    match xs, hn with
    | [a, b, c, d], _ => exact ⟨a, b, c, d, rfl⟩
  have i0 := hi 0 (by decide)
  have i1 := hi 1 (by decide)
  have i2 := hi 2 (by decide)
  have i3 := hi 3 (by decide)
  simp only [Try.cl34] at i0 i1 i2 i3
  simp at i0 i1 i2 i3
  obtain ⟨x0, e0, _, w0⟩ := DataW.trod_int Try.underlying34 i0
  obtain ⟨x1, e1, _, w1⟩ := DataW.trod_int Try.underlying34 i1
  obtain ⟨x2, e2, _, w2⟩ := DataW.trod_int Try.underlying34 i2
  obtain ⟨x3, e3, _, w3⟩ := DataW.trod_int Try.underlying34 i3
  simp at e0 e1 e2 e3
  subst e0 e1 e2 e3
  have u : U4 x0 x1 x2 x3 := ⟨wf_u1 w0, wf_u1 w1, wf_u1 w2, wf_u1 w3⟩
  exact ⟨vl x0 x1 x2 x3, vl_bd u, by rw [l0_vl u, l1_vl u, l2_vl u, l3_vl u]⟩
set_option maxRecDepth 100000 in
theorem cut6 (h : DataW.trod enc Try.prog W 0 sp true fuel 40 cs = some x) : ∃ d : D3, d.ok ∧ cs = [.bool d.b, .int .u64 (l0 d.n), .int .u64 (l1 d.n), .int .u64 (l2 d.n), .int .u64 (l3 d.n), .int .i64 d.s] := by
  obtain ⟨y0, y1, y2, m, _, hl, h0, h1, h2⟩ := Go.Deep.trod_struct3 Try.underlying40 h
  rw [Try.cl40] at hl
  obtain ⟨c0, c1, c2, c3, c4, c5, rfl⟩ : ∃ c0 c1 c2 c3 c4 c5, cs = [c0, c1, c2, c3, c4, c5] := by
    match cs, hl with
    | [a, b, c, d, e, f], _ => exact ⟨a, b, c, d, e, f, rfl⟩
  simp [Try.cl4, Try.cl38, Try.cl3] at h0 h1 h2
  obtain ⟨b, e0, _⟩ := DataW.trod_bool Try.underlying4 h0
  obtain ⟨n, hn, e1⟩ := cut4 h1
  obtain ⟨s, e2, _, w2⟩ := DataW.trod_int Try.underlying3 h2
  simp at e0 e1 e2
  obtain ⟨e10, e11, e12, e13⟩ := e1
  subst e0 e10 e11 e12 e13 e2
  exact ⟨⟨b, n, s⟩, hn, rfl⟩
set_option maxRecDepth 100000 in
theorem cut10 (h : DataW.trod enc Try.prog W 0 sp true fuel 55 cs = some x) : ∃ v : V10, v.n.ok ∧ cs = v.cells := by
  obtain ⟨xs, n, rfl, _, hl, hlen, hi⟩ := DataW.trod_struct Try.underlying55 h
  rw [Try.cl55] at hl
  obtain ⟨c0, c1, c2, c3, c4, c5, c6, c7, c8, c9, rfl⟩ : ∃ c0 c1 c2 c3 c4 c5 c6 c7 c8 c9, cs = [c0, c1, c2, c3, c4, c5, c6, c7, c8, c9] := by
    match cs, hl with
    | [a0, a1, a2, a3, a4, a5, a6, a7, a8, a9], _ => exact ⟨a0, a1, a2, a3, a4, a5, a6, a7, a8, a9, rfl⟩
  obtain ⟨y0, y1, y2, y3, y4, rfl⟩ : ∃ y0 y1 y2 y3 y4, xs = [y0, y1, y2, y3, y4] := by
    match xs, hlen with
    | [a0, a1, a2, a3, a4], _ => exact ⟨a0, a1, a2, a3, a4, rfl⟩
  have i0 := hi 0 _ rfl
  have i1 := hi 1 _ rfl
  have i2 := hi 2 _ rfl
  have i3 := hi 3 _ rfl
  have i4 := hi 4 _ rfl
  simp [Try.cl3, Try.cl4, Try.cl9, Try.cl40] at i0 i1 i2 i3 i4
  obtain ⟨K, e0, _, w0⟩ := DataW.trod_int Try.underlying3 i0
  obtain ⟨d, hd, e1⟩ := cut6 i1
  obtain ⟨fl, e2, _⟩ := DataW.trod_bool Try.underlying4 i2
  obtain ⟨tx, e3, _⟩ := DataW.trod_string Try.underlying9 i3
  obtain ⟨er, e4, _, w4⟩ := DataW.trod_int Try.underlying3 i4
  simp at e0 e1 e2 e3 e4
  obtain ⟨e10, e11, e12, e13, e14, e15⟩ := e1
  subst e0 e10 e11 e12 e13 e14 e15 e2 e3 e4
  exact ⟨⟨K, d, fl, tx, er⟩, hd, rfl⟩
/-- A slice that came in, of whatever elements of n cells. -/
theorem cut_sl {t e : TypeId} (hu : Try.prog.underlying t = some (.slice e)) {n : Nat} (hn : 0 < n) (hcl : Try.prog.cellsOf e = n) {α : Type} (cells : α → List Value) (dflt : α) (ok : α → Prop) (hlen : ∀ y, (cells y).length = n)
    (hcut : ∀ {m : Nat} {cs : List Value} {y : DataW H × List MemPlace}, DataW.trod enc Try.prog W 0 sp true m e cs = some y → ∃ z, ok z ∧ cs = cells z) {v : Value} (h : DataW.trod enc Try.prog W 0 sp true fuel t [v] = some x) :
    ∃ (L : List α) (pa : Option Addr) (cap : Nat), v = .slice pa L.length cap ∧ (∀ o ∈ L, ok o) ∧ (∀ i o, L[i]? = some o → ∃ b off, pa = some ⟨b, off, none⟩ ∧ b < W.heap.size ∧ W.rangeAt b (off + i * n) (cells o)) ∧ (L = [] ∨ ∃ elems spare, x.1 = .slice elems spare ∧ elems.length = L.length) := by
  rcases Go.Deep.open_slice hu h with ⟨hcs, _⟩ | ⟨a, len, cap, m, k, D, Pl, hcs, _, hl, _, hm, hx, hel⟩
  · simp only [List.cons.injEq, and_true] at hcs
    subst hcs
    exact ⟨[], none, 0, rfl, fun _ e => (by cases e), fun _ _ e => (by cases e), Or.inl rfl⟩
  · simp only [List.cons.injEq, and_true] at hcs
    subst hcs
    have hm2 : len ≤ m := by rw [hm]; split <;> omega
    have first : ∀ o : α, ∃ u, (cells o)[0]? = some u := fun o => ⟨(cells o)[0]'(by rw [hlen]; exact hn), List.getElem?_eq_getElem _⟩
    have key : ∀ i : Nat, ∃ S : α, i < len → ok S ∧ ∃ b off, some a = some (⟨b, off, none⟩ : Addr) ∧ b < W.heap.size ∧ W.rangeAt b (off + i * n) (cells S) := by
      intro i
      by_cases hi : i < len
      · obtain ⟨cs', hc, ht⟩ := hel i (by omega)
        obtain ⟨o, ho, rfl⟩ := hcut ht
        refine ⟨o, fun _ => ⟨ho, ?_⟩⟩
        rw [hcl] at hc
        have hb := World.cells?_block hc hn
        obtain ⟨_, _, hcell⟩ := World.cells?_some hc
        obtain ⟨b, off, spot⟩ := a
        have hs : spot = none := by
          obtain ⟨cs0, hc0, ht0⟩ := hel 0 (by omega)
          obtain ⟨o0, _, rfl⟩ := hcut ht0
          rw [hcl] at hc0
          have h0 := (World.cells?_some hc0).2.2 0 hn
          obtain ⟨u, hu0⟩ := first o0
          rw [hu0] at h0
          have := World.cell?_spot (show W.cell? (((⟨b, off, spot⟩ : Addr).add (0 * n)).add 0) = some u from h0)
          simpa [Addr.add] using this
        subst hs
        refine ⟨b, off, rfl, by simpa [Addr.add_mid] using hb, fun j v hv => ?_⟩
        have hj : j < n := by rw [← hlen o]; exact (List.getElem?_eq_some_iff.1 hv).1
        have := hcell j hj
        rw [Addr.add_mid, Addr.add_mid, hv] at this
        exact this
      · exact ⟨dflt, fun e => absurd e hi⟩
    obtain ⟨f, hf2⟩ := Classical.skolem.1 key
    refine ⟨(List.range len).map f, some a, cap, by simp, fun o ho => ?_, fun i o e => ?_, Or.inr ⟨_, _, congrArg Prod.fst hx, by simp⟩⟩
    · obtain ⟨i, hi, rfl⟩ := List.mem_map.1 ho
      exact (hf2 i (by simpa using hi)).1
    · have hi : i < len := by have := (List.getElem?_eq_some_iff.1 e).1; simpa using this
      rw [List.getElem?_map, List.getElem?_range hi] at e
      cases e
      exact (hf2 i hi).2
set_option maxRecDepth 100000 in
theorem cut31 (h : DataW.trod enc Try.prog W 0 sp true fuel 31 cs = some x) : ∃ o : Op6, (o.ok ∧ SVv W o.p o.vs) ∧ cs = o.cells := by
  obtain ⟨xs, n, rfl, _, hl, hlen, hi⟩ := DataW.trod_struct Try.underlying31 h
  rw [Try.cl31] at hl
  obtain ⟨c0, c1, c2, c3, c4, c5, c6, rfl⟩ : ∃ c0 c1 c2 c3 c4 c5 c6, cs = [c0, c1, c2, c3, c4, c5, c6] := by
    match cs, hl with
    | [a0, a1, a2, a3, a4, a5, a6], _ => exact ⟨a0, a1, a2, a3, a4, a5, a6, rfl⟩
  obtain ⟨y0, y1, y2, y3, y4, y5, y6, rfl⟩ : ∃ y0 y1 y2 y3 y4 y5 y6, xs = [y0, y1, y2, y3, y4, y5, y6] := by
    match xs, hlen with
    | [a0, a1, a2, a3, a4, a5, a6], _ => exact ⟨a0, a1, a2, a3, a4, a5, a6, rfl⟩
  have i0 := hi 0 _ rfl
  have i1 := hi 1 _ rfl
  have i2 := hi 2 _ rfl
  have i3 := hi 3 _ rfl
  have i4 := hi 4 _ rfl
  have i5 := hi 5 _ rfl
  have i6 := hi 6 _ rfl
  simp [Try.cl3, Try.cl2, Try.cl29] at i0 i1 i2 i3 i4 i5 i6
  obtain ⟨d, e0, _, w0⟩ := DataW.trod_int Try.underlying3 i0
  obtain ⟨a, e1, _, w1⟩ := DataW.trod_int Try.underlying3 i1
  obtain ⟨i, e2, _, w2⟩ := DataW.trod_int Try.underlying2 i2
  obtain ⟨L, pa, cap, e3, hL, hSV, _⟩ := cut_sl Try.underlying29 (n := 10) (by decide) Try.cl55 V10.cells v0 (fun y => y.n.ok) (fun _ => rfl) (fun h => cut10 h) i3
  obtain ⟨c, e4, _, w4⟩ := DataW.trod_int Try.underlying3 i4
  obtain ⟨f, e5, _, w5⟩ := DataW.trod_int Try.underlying3 i5
  obtain ⟨g, e6, _, w6⟩ := DataW.trod_int Try.underlying3 i6
  simp at e0 e1 e2 e4 e5 e6
  subst e0 e1 e2 e3 e4 e5 e6
  exact ⟨⟨d, a, i, pa, L, cap, c, f, g⟩, ⟨⟨wf_i1 w0, wf_i1 w1, wf_i1 w2, hL, wf_i1 w4, wf_i1 w5, wf_i1 w6⟩, hSV⟩, rfl⟩
end
section
variable {H : Type} {enc : TypeId × Value → H} {W : World} {base : Nat} {v : Value} {d : DataW H} {p : List MemPlace}
set_option maxRecDepth 100000 in
theorem open_script (hv : Value.okWide Try.prog W .any base 23 v) (h : DataW.Trod enc Try.prog W 0 (fun _ => true) true 23 v d p) :
    ∃ (sc : List Op6) (pa : Option Addr) (cap : Nat), v = .slice pa sc.length cap ∧ (∀ o ∈ sc, o.ok) ∧ SA W pa sc ∧ (sc = [] ∨ ∃ elems spare, d = .slice elems spare ∧ elems.length = sc.length) := by
  obtain ⟨a0, len, cap0, rfl⟩ := okWide_slice Try.underlying23 hv
  obtain ⟨fuel, hf⟩ := h
  obtain ⟨L, pa, cap, h1, h2, h3, h4⟩ := cut_sl Try.underlying23 (n := 7) (by decide) Try.cl31 Op6.cells ⟨0, 0, 0, none, [], 0, 0, 0, 0⟩ (fun o => o.ok ∧ SVv W o.p o.vs) (fun _ => rfl) (fun h => cut31 h) (show DataW.trod enc Try.prog W 0 _ true fuel 23 [_] = some (d, p) from hf)
  exact ⟨L, pa, cap, h1, fun o ho => (h2 o ho).1, fun i o e => ⟨h3 i o e, (h2 o (List.mem_of_getElem? e)).2⟩, h4⟩
set_option maxRecDepth 100000 in
theorem open_ints (hv : Value.okWide Try.prog W .any base 22 v) (h : DataW.Trod enc Try.prog W 0 (fun _ => true) true 22 v d p) :
    ∃ (L : List Int) (pa : Option Addr) (cap : Nat), v = .slice pa L.length cap ∧ (∀ x ∈ L, I64 x) ∧ SN W pa L := by
  obtain ⟨a0, len, cap0, rfl⟩ := okWide_slice Try.underlying22 hv
  obtain ⟨fuel, hf⟩ := h
  obtain ⟨L, pa, cap, h1, h2, h3, _⟩ := cut_sl Try.underlying22 (n := 1) (by decide) Try.cl3 (fun x : Int => [.int .i64 x]) 0 I64 (fun _ => rfl) (fun h => by
    obtain ⟨z, e, _, w⟩ := DataW.trod_int Try.underlying3 h
    exact ⟨z, wf_i1 w, e⟩) (show DataW.trod enc Try.prog W 0 _ true fuel 22 [_] = some (d, p) from hf)
  exact ⟨L, pa, cap, h1, h2, h3⟩
end
end G
end Go.Proofs.Ythfemlhmnjfjiaa
