/-
  SeqtreeDoes: the law's walk.
-/
import Derived.Test.YtbmbldloeblbbaaSp
namespace Go.Proofs.Ytbmbldloeblbbaa
open Go.RowKit
open R (wo_callx told_n)
theorem neB (b : Bool) (x y : Operand) (w : World) : (do eqGuard .neq 4 x y (.bool b) (.bool b); binOp .neq 4 (.bool b) (.bool b)).run Try.prog w = .ok (.bool false) w := by cases b <;> kernel_rfl
theorem max0 (a : Int) (ρ : Operand → Value) (x y : Operand) (hx : ρ x = .int .i64 0) (hy : ρ y = .int .i64 a) (dst : Option Tmp) (type : TypeId) (pos : String) (after : Array Edge) (guard : Option (Nat × Bool)) (w : World) : (execOp ρ { dst, op := .call { callee := .builtin .max, args := #[x, y], argTypes := #[3, 3] }, type, pos, after, guard }).run Try.prog w = .ok (.value (.int .i64 (max 0 a))) w := by
  rw [maxI 0 a ρ x y hx hy]
section
variable {w : World}
theorem does_n (sc : List Op3) (p : Option Addr) (cap : Nat) (hsc : ∀ o ∈ sc, o.ok) (hSA : SA w p sc) (hn : sc.length ≤ 6000000000000) : Calls Try.prog 3 #[.slice p sc.length cap] w fun e w' => e = .returned (.bool true) ∧ Mo w w' := by
  refine w_enter 104 Try.func3 Try.ntmps3 rfl rfl ?_
  have M : Mo w w := Mo.refl _
  refine w_seq ?_
  refine w_reg ?_
  refine wl_mv (.const (.bool false)) (.bool false) (fun _ => rfl) rfl rfl ?_
  refine w_nil ?_
  refine xn_then ?_
  refine w_seq ?_
  refine w_reg ?_
  refine wl_callx 8 [] _ [] rfl rfl (fun _ _ => by kernel_rfl) (new_g (n0 := w.heap.size) (ks := []) _ M.size (fun _ e => by cases e)) rfl ?_
  rintro _ w1 ⟨t, mb, rfl, hG, hq⟩
  refine ⟨_, rfl, ?_⟩
  replace M := M.trans hq
  clear hq
  refine wl_build 28 [] [] (.agg #[.slice none 0 0]) rfl rfl (by kernel_rfl) rfl ?_
  refine wl_box 28 (.tmp 16) (.agg #[.slice none 0 0]) (#[.slice none 0 0]) rfl rfl (fun _ => by kernel_rfl) rfl ?_
  intro k1 w2 hk hz hq Q1
  have N_k1 : w.heap.size ≤ k1 := by have := M.size; omega
  replace hG := hG.push (Nat.le_of_eq hk) (by omega) hq
  replace M := M.trans hq
  clear hk hz hq
  refine wl_mv (.tmp 15) (pt t 0) (fun _ => rfl) rfl rfl ?_
  refine wl_mv (.tmp 17) (pt k1 0) (fun _ => rfl) rfl rfl ?_
  refine w_nil ?_
  refine xn_then ?_
  refine w_seq ?_
  refine w_seq ?_
  refine w_reg ?_
  refine wl_call 9 [] _ [] (.bool true) rfl rfl (fun _ _ => by kernel_rfl) (begun_n _) rfl ?_
  intro w3 hq
  replace Q1 := Q1.mo hq
  replace hG := hG.mo hq
  replace M := M.trans hq
  clear hq
  refine wl_un (fun v => Op.unary .not v) (.tmp 18) (.bool true) (.bool false) (fun _ => rfl) rfl (by kernel_rfl) rfl ?_
  refine wl_mv (.tmp 19) (.bool false) (fun _ => rfl) rfl rfl ?_
  refine wl_mv (.tmp 3) (pt t 0) (fun _ => rfl) rfl rfl ?_
  refine wl_bin (fun x y => do eqGuard .eql 23 (.tmp 21) (.const (.pointer none)) x y; binOp .eql 23 x y) (.tmp 21) (.const (.pointer none)) (pt t 0) (pp none) (.bool false) (fun _ => rfl) rfl rfl (by kernel_rfl) rfl ?_
  refine wl_pick (.tmp 20) (.const (.bool true)) (.tmp 22) false (.bool false) (fun _ => rfl) rfl rfl rfl ?_
  refine w_nil ?_
  refine xn_then ?_
  refine w_condF rfl ?_
  refine w_skip ?_
  refine xn_then ?_
  refine w_seq ?_
  refine w_seq ?_
  refine w_reg ?_
  refine wl_mv (.tmp 0) (.slice p sc.length cap) (fun _ => rfl) rfl rfl ?_
  refine wl_val (.int .i64 ((sc.length : Int))) (len22 _ _ _ _ _ (by exact rfl) _ _ _ _ _ _) rfl ?_
  refine wl_mv (.const (.int .i64 (0))) (.int .i64 (0)) (fun _ => rfl) rfl rfl ?_
  refine w_nil ?_
  refine xn_then ?_
  refine w_block ?_
  have hL : RL w.heap.size _ k1 [] (.slice none 0 0) := ⟨Q1, World.ownsRow_nil _ _ _ _, fun e => by cases e⟩
  refine w_loop (fun r l w1 => ∃ (i t mb : Nat) (tr : T) (lk : Int) (v : Value), r + i = sc.length ∧ look l 3 = pt t 0 ∧ look l 4 = pt k1 0 ∧ look l 24 = .slice p sc.length cap ∧ look l 25 = .int .i64 (sc.length : Int) ∧ look l 26 = .int .i64 (i : Int) ∧ GT w.heap.size (oks v ++ [k1]) w1 t mb tr lk ∧ RL w.heap.size w1 k1 tr.ids v ∧ lk ≤ 300000 * i ∧ Mo w w1) sc.length ⟨0, t, mb, .e, 0, .slice none 0 0, by omega, rfl, rfl, rfl, rfl, rfl, hG, hL, by decide, M⟩ ?_
  clear M hG hL Q1
  rintro m l wc ⟨i, t, mb, tr, lk, v, hm, g3, g4, g24, g25, g26, hG, hL, hlk, M⟩
  have hle := hG.le
  refine w_seq ?_
  cases hf0 : decide (((i : Nat) : Int) < (sc.length : Int)) with
  | true =>
    have hf0p := of_decide_eq_true hf0
    refine w_reg ?_
    refine wl_bin (fun x y => do eqGuard .lss 3 (.tmp 26) (.tmp 25) x y; binOp .lss 3 x y) (.tmp 26) (.tmp 25) (.int .i64 ((i : Nat) : Int)) (.int .i64 ((sc.length : Int))) (.bool true) (fun _ => rfl) g26 g25 (ltI hf0 _ _ _) rfl ?_
    refine w_nil ?_
    refine xn_then ?_
    refine w_seq ?_
    refine w_condT rfl ?_
    refine w_skip ?_
    refine xn_then ?_
    refine w_seq ?_
    refine w_block ?_
    refine w_seq ?_
    refine w_reg ?_
    obtain ⟨o, ho⟩ : ∃ o, sc[i]? = some o := ⟨sc[i]'(by omega), List.getElem?_eq_getElem _⟩
    have hok := hsc o (List.mem_of_getElem? ho)
    obtain ⟨b, off, hpb, hbl, hrg⟩ := (hSA.mo M) _ o ho
    refine wl_bin (fun x y => Instr.indexAt 22 x y) (.tmp 24) (.tmp 26) (.slice p sc.length cap) (.int .i64 ((i : Nat) : Int)) (pt b (off + i * 3)) (fun _ => rfl) g24 g26 (by rw [hpb]; exact ix22 b off i _ _ (by omega) _) rfl ?_
    refine wl_load 31 (.tmp 28) (pt b (off + i * 3)) (.agg #[.int .i64 (o.d), .int .i64 (o.a), .int .i64 (o.i)]) rfl rfl (SA.load hrg) rfl ?_
    refine wl_alloc 31 #[.int .i64 0, .int .i64 0, .int .i64 0] rfl (fun _ => by kernel_rfl) rfl ?_
    intro k6 w11 hk hz hq Q6
    have N_k6 : w.heap.size ≤ k6 := by have := M.size; omega
    have hrl := hL.at1.lt
    have ne6 : k1 ≠ k6 := by omega
    have no6 : v.ownBlock ≠ some k6 := fun e => by have := (hL.own.lt _ e).2; omega
    replace hG : GT w.heap.size (oks v ++ k1 :: [k6]) w11 t mb tr lk := (hG.push (Nat.le_of_eq hk) (by omega) hq).pop (fun j e => by simp only [List.mem_append, List.mem_cons, List.mem_nil_iff, or_false] at e ⊢; rcases e with e | e | e; exact Or.inr (Or.inl e); exact Or.inr (Or.inr e); exact Or.inl e)
    replace hL := hL.mo hq
    replace M := M.trans hq
    clear hk hz hq
    refine wl_stx2 31 (.tmp 6) (.tmp 29) k6 0 #[.int .i64 (o.d), .int .i64 (o.a), .int .i64 (o.i)] [.int .i64 0, .int .i64 0, .int .i64 0] [.int .i64 (o.d), .int .i64 (o.a), .int .i64 (o.i)] Q6 rfl rfl rfl rfl rfl sz31 rfl rfl rfl ?_
    intro w12 hT Qn
    replace Q6 := Qn
    replace hG := hG.st hT (by simp)
    have hM2 : Mk (fun j => j = k6) _ _ := (Mk.refl _ _).st hT rfl
    replace hL := hL.kept hM2 ne6 (fun g e q => no6 (q ▸ e))
    replace M := hM2.mo M (fun _ e => e ▸ N_k6)
    clear hT hM2 Qn
    refine w_nil ?_
    refine xn_then ?_
    refine w_seq ?_
    refine w_reg ?_
    refine wl_mv (.const (.bool true)) (.bool true) (fun _ => rfl) rfl rfl ?_
    refine w_nil ?_
    refine xn_then ?_
    refine w_seq ?_
    refine w_reg ?_
    refine wl_mv (.tmp 3) (pt t 0) (fun _ => rfl) g3 rfl ?_
    refine wl_mv (.tmp 4) (pt k1 0) (fun _ => rfl) g4 rfl ?_
    refine wl_load 31 (.tmp 6) (pt k6 0) (.agg #[.int .i64 (o.d), .int .i64 (o.a), .int .i64 (o.i)]) rfl rfl (run_row Q6 31 0 3 [.int .i64 (o.d), .int .i64 (o.a), .int .i64 (o.i)] rfl Try.underlying31 rfl sz31) rfl ?_
    refine wl_callx 10 [(.tmp 31), (.tmp 32), (.tmp 33)] _ [pt t 0, pt k1 0, .agg #[.int .i64 (o.d), .int .i64 (o.a), .int .i64 (o.i)]] rfl rfl (fun _ _ => by kernel_rfl) (step_n hG hL ⟨N_k1, fun e => ne6 (List.mem_singleton.1 e)⟩ (by omega) o hok.2.2) rfl ?_
    rintro _ w13 ⟨t2, mb2, tr2, lk2, v2, rfl, hG, hL, hk2, hM2⟩
    refine ⟨_, rfl, ?_⟩
    replace M := Wr.mo hM2 M (Nat.le_refl _)
    replace Q6 := Wr.at hM2 Q6 (by simp)
    clear hM2
    refine wl_mv (.tmp 34) (.tuple #[pt t2 0, .bool true]) (fun _ => rfl) rfl rfl ?_
    refine wl_un (fun v => Instr.extract v 0) (.tmp 30) (.tuple #[pt t2 0, .bool true]) (pt t2 0) (fun _ => rfl) rfl (by kernel_rfl) rfl ?_
    refine wl_un (fun v => Instr.extract v 1) (.tmp 30) (.tuple #[pt t2 0, .bool true]) (.bool true) (fun _ => rfl) rfl (by kernel_rfl) rfl ?_
    refine wl_mv (.tmp 35) (pt t2 0) (fun _ => rfl) rfl rfl ?_
    refine wl_mv (.tmp 36) (.bool true) (fun _ => rfl) rfl rfl ?_
    refine w_nil ?_
    refine xn_then ?_
    refine w_seq ?_
    refine w_reg ?_
    refine wl_mv (.tmp 3) (pt t2 0) (fun _ => rfl) rfl rfl ?_
    refine wl_un (fun v => Instr.fieldAt 31 v 1) (.tmp 6) (pt k6 0) (pt k6 1) (fun _ => rfl) rfl (by kernel_rfl) rfl ?_
    refine wl_load 3 (.tmp 39) (pt k6 1) (.int .i64 (o.a)) rfl rfl (run_one Q6 3 1 rfl Try.underlying3 rfl) rfl ?_
    refine wl_callx 11 [(.tmp 38), (.tmp 40)] _ [pt t2 0, .int .i64 (o.a)] rfl rfl (fun _ _ => by kernel_rfl) (at_full hG (by omega)) rfl ?_
    rintro _ w14 ⟨lk3, rfl, hG, hk3, hM2⟩
    refine ⟨_, rfl, ?_⟩
    replace M := Wr.mo hM2 M (Nat.le_refl _)
    replace Q6 := Wr.at hM2 Q6 (by simp)
    replace hL := hL.wr hM2 (by simp)
    clear hM2
    refine wl_mv (.tmp 41) (.tuple #[.int .i64 (atV tr2.ids (o.a)), .bool (atB tr2.ids (o.a))]) (fun _ => rfl) rfl rfl ?_
    refine wl_un (fun v => Instr.extract v 0) (.tmp 37) (.tuple #[.int .i64 (atV tr2.ids (o.a)), .bool (atB tr2.ids (o.a))]) (.int .i64 (atV tr2.ids (o.a))) (fun _ => rfl) rfl (by kernel_rfl) rfl ?_
    refine wl_un (fun v => Instr.extract v 1) (.tmp 37) (.tuple #[.int .i64 (atV tr2.ids (o.a)), .bool (atB tr2.ids (o.a))]) (.bool (atB tr2.ids (o.a))) (fun _ => rfl) rfl (by kernel_rfl) rfl ?_
    refine wl_mv (.tmp 42) (.int .i64 (atV tr2.ids (o.a))) (fun _ => rfl) rfl rfl ?_
    refine wl_mv (.tmp 43) (.bool (atB tr2.ids (o.a))) (fun _ => rfl) rfl rfl ?_
    refine w_nil ?_
    refine xn_then ?_
    refine w_seq ?_
    refine w_reg ?_
    refine wl_mv (.tmp 4) (pt k1 0) (fun _ => rfl) g4 rfl ?_
    refine wl_un (fun v => Instr.fieldAt 31 v 1) (.tmp 6) (pt k6 0) (pt k6 1) (fun _ => rfl) rfl (by kernel_rfl) rfl ?_
    refine wl_load 3 (.tmp 46) (pt k6 1) (.int .i64 (o.a)) rfl rfl (run_one Q6 3 1 rfl Try.underlying3 rfl) rfl ?_
    refine wl_call 12 [(.tmp 45), (.tmp 47)] _ [pt k1 0, .int .i64 (o.a)] (.tuple #[.int .i64 (atV tr2.ids (o.a)), .bool (atB tr2.ids (o.a))]) rfl rfl (fun _ _ => by kernel_rfl) (rat_full hL (o.a)) rfl ?_
    intro w15 hq
    replace Q6 := Q6.mo hq
    replace hG := hG.mo hq
    replace hL := hL.mo hq
    replace M := M.trans hq
    clear hq
    refine wl_mv (.tmp 48) (.tuple #[.int .i64 (atV tr2.ids (o.a)), .bool (atB tr2.ids (o.a))]) (fun _ => rfl) rfl rfl ?_
    refine wl_un (fun v => Instr.extract v 0) (.tmp 44) (.tuple #[.int .i64 (atV tr2.ids (o.a)), .bool (atB tr2.ids (o.a))]) (.int .i64 (atV tr2.ids (o.a))) (fun _ => rfl) rfl (by kernel_rfl) rfl ?_
    refine wl_un (fun v => Instr.extract v 1) (.tmp 44) (.tuple #[.int .i64 (atV tr2.ids (o.a)), .bool (atB tr2.ids (o.a))]) (.bool (atB tr2.ids (o.a))) (fun _ => rfl) rfl (by kernel_rfl) rfl ?_
    refine wl_mv (.tmp 49) (.int .i64 (atV tr2.ids (o.a))) (fun _ => rfl) rfl rfl ?_
    refine wl_mv (.tmp 50) (.bool (atB tr2.ids (o.a))) (fun _ => rfl) rfl rfl ?_
    refine w_nil ?_
    refine xn_then ?_
    refine w_seq ?_
    refine w_reg ?_
    refine wl_mv (.tmp 3) (pt t2 0) (fun _ => rfl) rfl rfl ?_
    refine wl_un (fun v => Instr.fieldAt 31 v 2) (.tmp 6) (pt k6 0) (pt k6 2) (fun _ => rfl) rfl (by kernel_rfl) rfl ?_
    refine wl_load 2 (.tmp 53) (pt k6 2) (.int .i64 (o.i)) rfl rfl (run_one Q6 2 2 rfl Try.underlying2 rfl) rfl ?_
    refine wl_callx 13 [(.tmp 52), (.tmp 54)] _ [pt t2 0, .int .i64 (o.i)] rfl rfl (fun _ _ => by kernel_rfl) (index_full hG hok.2.2 (by omega)) rfl ?_
    rintro _ w16 ⟨lk4, rfl, hG, hk4, hM2⟩
    refine ⟨_, rfl, ?_⟩
    replace M := Wr.mo hM2 M (Nat.le_refl _)
    replace Q6 := Wr.at hM2 Q6 (by simp)
    replace hL := hL.wr hM2 (by simp)
    clear hM2
    refine wl_mv (.tmp 55) (.tuple #[.int .i64 (max 0 (rix tr2.ids (o.i))), .bool (decide (0 ≤ rix tr2.ids (o.i)))]) (fun _ => rfl) rfl rfl ?_
    refine wl_un (fun v => Instr.extract v 0) (.tmp 51) (.tuple #[.int .i64 (max 0 (rix tr2.ids (o.i))), .bool (decide (0 ≤ rix tr2.ids (o.i)))]) (.int .i64 (max 0 (rix tr2.ids (o.i)))) (fun _ => rfl) rfl (by kernel_rfl) rfl ?_
    refine wl_un (fun v => Instr.extract v 1) (.tmp 51) (.tuple #[.int .i64 (max 0 (rix tr2.ids (o.i))), .bool (decide (0 ≤ rix tr2.ids (o.i)))]) (.bool (decide (0 ≤ rix tr2.ids (o.i)))) (fun _ => rfl) rfl (by kernel_rfl) rfl ?_
    refine wl_mv (.tmp 56) (.int .i64 (max 0 (rix tr2.ids (o.i)))) (fun _ => rfl) rfl rfl ?_
    refine wl_mv (.tmp 57) (.bool (decide (0 ≤ rix tr2.ids (o.i)))) (fun _ => rfl) rfl rfl ?_
    refine w_nil ?_
    refine xn_then ?_
    refine w_seq ?_
    refine w_reg ?_
    refine wl_mv (.tmp 4) (pt k1 0) (fun _ => rfl) g4 rfl ?_
    refine wl_un (fun v => Instr.fieldAt 31 v 2) (.tmp 6) (pt k6 0) (pt k6 2) (fun _ => rfl) rfl (by kernel_rfl) rfl ?_
    refine wl_load 2 (.tmp 59) (pt k6 2) (.int .i64 (o.i)) rfl rfl (run_one Q6 2 2 rfl Try.underlying2 rfl) rfl ?_
    refine wl_call 14 [(.tmp 58), (.tmp 60)] _ [pt k1 0, .int .i64 (o.i)] (.int .i64 (rix tr2.ids (o.i))) rfl rfl (fun _ _ => by kernel_rfl) (ridx_n hL (ids_le hG) (o.i)) rfl ?_
    intro w17 hq
    replace Q6 := Q6.mo hq
    replace hG := hG.mo hq
    replace hL := hL.mo hq
    replace M := M.trans hq
    clear hq
    refine wl_mv (.tmp 61) (.int .i64 (rix tr2.ids (o.i))) (fun _ => rfl) rfl rfl ?_
    refine w_nil ?_
    refine xn_then ?_
    refine w_seq ?_
    obtain ⟨pw, cw, hv, hSW, hpw⟩ := own_si hL.own
    have QL : At w17 k1 [.slice pw tr2.ids.length cw] := hv ▸ hL.at1
    have hsm : Smos [vq (.bool true), vq (.bool false), vq (.bool false), vq (.int .i64 (atV tr2.ids (o.a))), vq (.int .i64 (atV tr2.ids (o.a))), vq (.bool false), vq (.bool false), vq (.bool false), vq (.bool (atB tr2.ids (o.a))), vq (.bool (atB tr2.ids (o.a))), vq (.bool false), vq (.bool false), vq (.bool false), vq (.bool (decide (0 ≤ rix tr2.ids (o.i)))), vq (.int .i64 (rix tr2.ids (o.i))), vq (.bool (decide (0 ≤ rix tr2.ids (o.i)))), vq (.bool false), vq (.bool false), vq (.bool false), vq (.int .i64 (max 0 (rix tr2.ids (o.i)))), vq (.int .i64 (rix tr2.ids (o.i))), vq (.int .i64 (max 0 (rix tr2.ids (o.i)))), vq (.bool false), vq (.bool false), vq (.bool false), vq (pt t2 0), vq (.int .i64 ((tr2.kv.length : Int))), vq (pt k1 0), vq (pt k1 0), vq (pt k1 0), vq (.slice pw tr2.ids.length cw), vq (.int .i64 ((tr2.ids.length : Int))), vq (.bool false), vq (.bool false)] := smos_cons (smo_vq _) (smos_cons (smo_vq _) (smos_cons (smo_vq _) (smos_cons (smo_vq _) (smos_cons (smo_vq _) (smos_cons (smo_vq _) (smos_cons (smo_vq _) (smos_cons (smo_vq _) (smos_cons (smo_vq _) (smos_cons (smo_vq _) (smos_cons (smo_vq _) (smos_cons (smo_vq _) (smos_cons (smo_vq _) (smos_cons (smo_vq _) (smos_cons (smo_vq _) (smos_cons (smo_vq _) (smos_cons (smo_vq _) (smos_cons (smo_vq _) (smos_cons (smo_vq _) (smos_cons (smo_vq _) (smos_cons (smo_vq _) (smos_cons (smo_vq _) (smos_cons (smo_vq _) (smos_cons (smo_vq _) (smos_cons (smo_vq _) (smos_cons (smo_vq _) (smos_cons (smo_vq _) (smos_cons (smo_vq _) (smos_cons (smo_vq _) (smos_cons (smo_vq _) (smos_cons (smo_vq _) (smos_cons (smo_vq _) (smos_cons (smo_vq _) (smos_cons (smo_vq _) (smos_nil))))))))))))))))))))))))))))))))))
    have hgr : ∀ a b : World, Mo w17 a → Mo a b → Mo w17 b := fun _ _ h m => h.trans m
    refine w_ogc 34 (fun w9 => Mo w17 w9) [vq (.bool true), vq (.bool false), vq (.bool false), vq (.int .i64 (atV tr2.ids (o.a))), vq (.int .i64 (atV tr2.ids (o.a))), vq (.bool false), vq (.bool false), vq (.bool false), vq (.bool (atB tr2.ids (o.a))), vq (.bool (atB tr2.ids (o.a))), vq (.bool false), vq (.bool false), vq (.bool false), vq (.bool (decide (0 ≤ rix tr2.ids (o.i)))), vq (.int .i64 (rix tr2.ids (o.i))), vq (.bool (decide (0 ≤ rix tr2.ids (o.i)))), vq (.bool false), vq (.bool false), vq (.bool false), vq (.int .i64 (max 0 (rix tr2.ids (o.i)))), vq (.int .i64 (rix tr2.ids (o.i))), vq (.int .i64 (max 0 (rix tr2.ids (o.i)))), vq (.bool false), vq (.bool false), vq (.bool false), vq (pt t2 0), vq (.int .i64 ((tr2.kv.length : Int))), vq (pt k1 0), vq (pt k1 0), vq (pt k1 0), vq (.slice pw tr2.ids.length cw), vq (.int .i64 ((tr2.ids.length : Int))), vq (.bool false), vq (.bool false)] [] (by kernel_rfl) (by kernel_rfl) (by kernel_rfl) (by kernel_rfl) rfl (by kernel_rfl) (by kernel_rfl) latec_nil ((Mo.refl _).drew) ?_ ?_
    · refine ea_cons ?_ (ea_cons ?_ (ea_cons ?_ (ea_cons ?_ (ea_cons ?_ (ea_cons ?_ (ea_cons ?_ (ea_cons ?_ (ea_cons ?_ (ea_cons ?_ (ea_cons ?_ (ea_cons ?_ (ea_cons ?_ (ea_cons ?_ (ea_cons ?_ (ea_cons ?_ (ea_cons ?_ (ea_cons ?_ (ea_cons ?_ (ea_cons ?_ (ea_cons ?_ (ea_cons ?_ (ea_cons ?_ (ea_cons ?_ (ea_cons ?_ (ea_cons ?_ (ea_cons ?_ (ea_cons ?_ (ea_cons ?_ (ea_cons ?_ (ea_cons ?_ (ea_cons ?_ (ea_cons ?_ (ea_cons ?_ (ea_nil))))))))))))))))))))))))))))))))))
      · exact oc_eq (.bool true) rfl hgr hsm (fun f wf hG9 hd K hK => go_run rfl (wo_mv (.tmp 7) (.bool true) (fun _ => rfl) rfl (hK _ (Mo.refl _))))
      · exact oc_eq (.bool false) rfl hgr hsm (fun f wf hG9 hd K hK => go_run rfl (wo_un (fun v => Op.unary .not v) (.tmp 62) (.bool true) (.bool false) (fun _ => rfl) (hd 0 rfl) (by kernel_rfl) (hK _ (Mo.refl _))))
      · exact oc_eq (.bool false) rfl hgr hsm (fun f wf hG9 hd K hK => go_run rfl (wo_mv (.tmp 63) (.bool false) (fun _ => rfl) (hd 1 rfl) (hK _ (Mo.refl _))))
      · exact oc_eq (.int .i64 (atV tr2.ids (o.a))) rfl hgr hsm (fun f wf hG9 hd K hK => go_run (wnt_g rfl rfl rfl (hd 2 rfl) rfl) (wo_mv (.tmp 8) (.int .i64 (atV tr2.ids (o.a))) (fun _ => rfl) rfl (hK _ (Mo.refl _))))
      · exact oc_eq (.int .i64 (atV tr2.ids (o.a))) rfl hgr hsm (fun f wf hG9 hd K hK => go_run (wnt_g rfl rfl rfl (hd 2 rfl) rfl) (wo_mv (.tmp 10) (.int .i64 (atV tr2.ids (o.a))) (fun _ => rfl) rfl (hK _ (Mo.refl _))))
      · exact oc_eq (.bool false) rfl hgr hsm (fun f wf hG9 hd K hK => go_run (wnt_g rfl rfl rfl (hd 2 rfl) rfl) (wo_bin (fun x y => do eqGuard .neq 2 (.tmp 65) (.tmp 66) x y; binOp .neq 2 x y) (.tmp 65) (.tmp 66) (.int .i64 (atV tr2.ids (o.a))) (.int .i64 (atV tr2.ids (o.a))) (.bool false) (fun _ => rfl) (hd 3 rfl) (hd 4 rfl) (neL (decide_eq_true rfl) _ _ _) (hK _ (Mo.refl _))))
      · exact oc_eq (.bool false) rfl hgr hsm (fun f wf hG9 hd K hK => go_run rfl (wo_pick (.tmp 64) (.const (.bool true)) (.tmp 67) false (.bool false) (fun _ => rfl) (hd 2 rfl) (hd 5 rfl) (hK _ (Mo.refl _))))
      · exact oc_eq (.bool false) rfl hgr hsm (fun f wf hG9 hd K hK => go_run rfl (wo_mv (.tmp 68) (.bool false) (fun _ => rfl) (hd 6 rfl) (hK _ (Mo.refl _))))
      · exact oc_eq (.bool (atB tr2.ids (o.a))) rfl hgr hsm (fun f wf hG9 hd K hK => go_run (wnt_g rfl rfl rfl (hd 7 rfl) rfl) (wo_mv (.tmp 9) (.bool (atB tr2.ids (o.a))) (fun _ => rfl) rfl (hK _ (Mo.refl _))))
      · exact oc_eq (.bool (atB tr2.ids (o.a))) rfl hgr hsm (fun f wf hG9 hd K hK => go_run (wnt_g rfl rfl rfl (hd 7 rfl) rfl) (wo_mv (.tmp 11) (.bool (atB tr2.ids (o.a))) (fun _ => rfl) rfl (hK _ (Mo.refl _))))
      · exact oc_eq (.bool false) rfl hgr hsm (fun f wf hG9 hd K hK => go_run (wnt_g rfl rfl rfl (hd 7 rfl) rfl) (wo_bin (fun x y => do eqGuard .neq 4 (.tmp 70) (.tmp 71) x y; binOp .neq 4 x y) (.tmp 70) (.tmp 71) (.bool (atB tr2.ids (o.a))) (.bool (atB tr2.ids (o.a))) (.bool false) (fun _ => rfl) (hd 8 rfl) (hd 9 rfl) (neB _ _ _ _) (hK _ (Mo.refl _))))
      · exact oc_eq (.bool false) rfl hgr hsm (fun f wf hG9 hd K hK => go_run rfl (wo_pick (.tmp 69) (.const (.bool true)) (.tmp 72) false (.bool false) (fun _ => rfl) (hd 7 rfl) (hd 10 rfl) (hK _ (Mo.refl _))))
      · exact oc_eq (.bool false) rfl hgr hsm (fun f wf hG9 hd K hK => go_run rfl (wo_mv (.tmp 73) (.bool false) (fun _ => rfl) (hd 11 rfl) (hK _ (Mo.refl _))))
      · exact oc_eq (.bool (decide (0 ≤ rix tr2.ids (o.i)))) rfl hgr hsm (fun f wf hG9 hd K hK => go_run (wnt_g rfl rfl rfl (hd 12 rfl) rfl) (wo_mv (.tmp 13) (.bool (decide (0 ≤ rix tr2.ids (o.i)))) (fun _ => rfl) rfl (hK _ (Mo.refl _))))
      · exact oc_eq (.int .i64 (rix tr2.ids (o.i))) rfl hgr hsm (fun f wf hG9 hd K hK => go_run (wnt_g rfl rfl rfl (hd 12 rfl) rfl) (wo_mv (.tmp 14) (.int .i64 (rix tr2.ids (o.i))) (fun _ => rfl) rfl (hK _ (Mo.refl _))))
      · exact oc_eq (.bool (decide (0 ≤ rix tr2.ids (o.i)))) rfl hgr hsm (fun f wf hG9 hd K hK => go_run (wnt_g rfl rfl rfl (hd 12 rfl) rfl) (wo_bin (fun x y => do eqGuard .geq 3 (.tmp 76) (.const (.int .i64 (0))) x y; binOp .geq 3 x y) (.tmp 76) (.const (.int .i64 (0))) (.int .i64 (rix tr2.ids (o.i))) (.int .i64 (0)) (.bool (decide (0 ≤ rix tr2.ids (o.i)))) (fun _ => rfl) (hd 14 rfl) rfl (geI rfl _ _ _) (hK _ (Mo.refl _))))
      · exact oc_eq (.bool false) rfl hgr hsm (fun f wf hG9 hd K hK => go_run (wnt_g rfl rfl rfl (hd 12 rfl) rfl) (wo_bin (fun x y => do eqGuard .neq 4 (.tmp 75) (.tmp 77) x y; binOp .neq 4 x y) (.tmp 75) (.tmp 77) (.bool (decide (0 ≤ rix tr2.ids (o.i)))) (.bool (decide (0 ≤ rix tr2.ids (o.i)))) (.bool false) (fun _ => rfl) (hd 13 rfl) (hd 15 rfl) (neB _ _ _ _) (hK _ (Mo.refl _))))
      · exact oc_eq (.bool false) rfl hgr hsm (fun f wf hG9 hd K hK => go_run rfl (wo_pick (.tmp 74) (.const (.bool true)) (.tmp 78) false (.bool false) (fun _ => rfl) (hd 12 rfl) (hd 16 rfl) (hK _ (Mo.refl _))))
      · exact oc_eq (.bool false) rfl hgr hsm (fun f wf hG9 hd K hK => go_run rfl (wo_mv (.tmp 79) (.bool false) (fun _ => rfl) (hd 17 rfl) (hK _ (Mo.refl _))))
      · exact oc_eq (.int .i64 (max 0 (rix tr2.ids (o.i)))) rfl hgr hsm (fun f wf hG9 hd K hK => go_run (wnt_g rfl rfl rfl (hd 18 rfl) rfl) (wo_mv (.tmp 12) (.int .i64 (max 0 (rix tr2.ids (o.i)))) (fun _ => rfl) rfl (hK _ (Mo.refl _))))
      · exact oc_eq (.int .i64 (rix tr2.ids (o.i))) rfl hgr hsm (fun f wf hG9 hd K hK => go_run (wnt_g rfl rfl rfl (hd 18 rfl) rfl) (wo_mv (.tmp 14) (.int .i64 (rix tr2.ids (o.i))) (fun _ => rfl) rfl (hK _ (Mo.refl _))))
      · exact oc_eq (.int .i64 (max 0 (rix tr2.ids (o.i)))) rfl hgr hsm (fun f wf hG9 hd K hK => go_run (wnt_g rfl rfl rfl (hd 18 rfl) rfl) (wo_val (.int .i64 (max 0 (rix tr2.ids (o.i)))) (max0 _ _ _ _ (by exact rfl) (by exact (hd 20 rfl)) _ _ _ _ _ _) (hK _ (Mo.refl _))))
      · exact oc_eq (.bool false) rfl hgr hsm (fun f wf hG9 hd K hK => go_run (wnt_g rfl rfl rfl (hd 18 rfl) rfl) (wo_bin (fun x y => do eqGuard .neq 3 (.tmp 81) (.tmp 83) x y; binOp .neq 3 x y) (.tmp 81) (.tmp 83) (.int .i64 (max 0 (rix tr2.ids (o.i)))) (.int .i64 (max 0 (rix tr2.ids (o.i)))) (.bool false) (fun _ => rfl) (hd 19 rfl) (hd 21 rfl) (neI (decide_eq_true rfl) _ _ _) (hK _ (Mo.refl _))))
      · exact oc_eq (.bool false) rfl hgr hsm (fun f wf hG9 hd K hK => go_run rfl (wo_pick (.tmp 80) (.const (.bool true)) (.tmp 84) false (.bool false) (fun _ => rfl) (hd 18 rfl) (hd 22 rfl) (hK _ (Mo.refl _))))
      · exact oc_eq (.bool false) rfl hgr hsm (fun f wf hG9 hd K hK => go_run rfl (wo_mv (.tmp 85) (.bool false) (fun _ => rfl) (hd 23 rfl) (hK _ (Mo.refl _))))
      · exact oc_eq (pt t2 0) rfl hgr hsm (fun f wf hG9 hd K hK => go_run (wnt_g rfl rfl rfl (hd 24 rfl) rfl) (wo_mv (.tmp 3) (pt t2 0) (fun _ => rfl) rfl (hK _ (Mo.refl _))))
      · exact oc_eq (.int .i64 ((tr2.kv.length : Int))) rfl hgr hsm (fun f wf hG9 hd K hK => go_run (wnt_g rfl rfl rfl (hd 24 rfl) rfl) (wo_call 15 [(.tmp 87)] _ [pt t2 0] (.int .i64 ((tr2.kv.length : Int))) rfl (li1 (hd 25 rfl)) (fun _ _ => by kernel_rfl) (len_g (hG.mo hG9)) hK))
      · exact oc_eq (pt k1 0) rfl hgr hsm (fun f wf hG9 hd K hK => go_run (wnt_g rfl rfl rfl (hd 24 rfl) rfl) (wo_mv (.tmp 4) (pt k1 0) (fun _ => rfl) g4 (hK _ (Mo.refl _))))
      · exact oc_eq (pt k1 0) rfl hgr hsm (fun f wf hG9 hd K hK => go_run (wnt_g rfl rfl rfl (hd 24 rfl) rfl) (wo_nc (.tmp 89) k1 0 rfl (hd 27 rfl) (hK _ (Mo.refl _))))
      · exact oc_eq (pt k1 0) rfl hgr hsm (fun f wf hG9 hd K hK => go_run (wnt_g rfl rfl rfl (hd 24 rfl) rfl) (wo_un (fun v => Instr.fieldAt 28 v 0) (.tmp 90) (pt k1 0) (pt k1 0) (fun _ => rfl) (hd 28 rfl) (by kernel_rfl) (hK _ (Mo.refl _))))
      · exact oc_eq (.slice pw tr2.ids.length cw) rfl hgr hsm (fun f wf hG9 hd K hK => have QL := QL.mo hG9; go_run (wnt_g rfl rfl rfl (hd 24 rfl) rfl) (wo_load 26 (.tmp 91) (pt k1 0) (.slice pw tr2.ids.length cw) rfl (hd 29 rfl) (run_one QL 26 0 rfl Try.underlying26 rfl) (hK _ (Mo.refl _))))
      · exact oc_eq (.int .i64 ((tr2.ids.length : Int))) rfl hgr hsm (fun f wf hG9 hd K hK => go_run (wnt_g rfl rfl rfl (hd 24 rfl) rfl) (wo_val (.int .i64 ((tr2.ids.length : Int))) (len26 _ _ _ _ _ (by exact (hd 30 rfl)) _ _ _ _ _ _) (hK _ (Mo.refl _))))
      · exact oc_eq (.bool false) rfl hgr hsm (fun f wf hG9 hd K hK => go_run (wnt_g rfl rfl rfl (hd 24 rfl) rfl) (wo_bin (fun x y => do eqGuard .neq 3 (.tmp 88) (.tmp 93) x y; binOp .neq 3 x y) (.tmp 88) (.tmp 93) (.int .i64 ((tr2.kv.length : Int))) (.int .i64 ((tr2.ids.length : Int))) (.bool false) (fun _ => rfl) (hd 26 rfl) (hd 31 rfl) (neI (decide_eq_true (by have := tr2.kv_len; have := tr2.sz_ids; omega)) _ _ _) (hK _ (Mo.refl _))))
      · exact oc_eq (.bool false) rfl hgr hsm (fun f wf hG9 hd K hK => go_run rfl (wo_pick (.tmp 86) (.const (.bool true)) (.tmp 94) false (.bool false) (fun _ => rfl) (hd 24 rfl) (hd 32 rfl) (hK _ (Mo.refl _))))
    intro f w18 hq hR
    have e9_33 := hR 33 rfl
    replace Q6 := Q6.mo hq
    replace hG := hG.mo hq
    replace hL := hL.mo hq
    replace M := M.trans hq
    clear hq hR hsm hgr QL hSW hpw hv
    refine w_nil ?_
    refine xn_then ?_
    refine w_condF e9_33 ?_
    refine w_skip ?_
    refine xn_blk ?_
    refine xn_then ?_
    refine w_reg ?_
    refine wl_bin (fun x y => do eqGuard .add 3 (.tmp 26) (.const (.int .i64 (1))) x y; binOp .add 3 x y) (.tmp 26) (.const (.int .i64 (1))) (.int .i64 ((i : Nat) : Int)) (.int .i64 (1)) (.int .i64 ((i + 1 : Nat) : Int)) (fun _ => rfl) g26 rfl (add1r (by omega) _ _ _) rfl ?_
    refine wl_mv (.tmp 96) (.int .i64 ((i + 1 : Nat) : Int)) (fun _ => rfl) rfl rfl ?_
    refine w_nil ?_
    exact xn_loop (m - 1) (by omega) ⟨i + 1, t2, mb2, tr2, lk4, v2, by omega, rfl, g4, g24, g25, rfl, hG.pop (fun j e => by simp only [List.mem_append, List.mem_cons] at e ⊢; rcases e with e | e; exact Or.inl e; exact Or.inr (Or.inl (by simpa using e))), hL, by omega, M⟩
  | false =>
    have hf0p := of_decide_eq_false hf0
    refine w_reg ?_
    refine wl_bin (fun x y => do eqGuard .lss 3 (.tmp 26) (.tmp 25) x y; binOp .lss 3 x y) (.tmp 26) (.tmp 25) (.int .i64 ((i : Nat) : Int)) (.int .i64 ((sc.length : Int))) (.bool false) (fun _ => rfl) g26 g25 (ltI hf0 _ _ _) rfl ?_
    refine w_nil ?_
    refine xn_then ?_
    refine w_seq ?_
    refine w_condF rfl ?_
    refine w_exit ?_
    refine xx_then ?_
    refine xx_then ?_
    refine xx_blk ?_
    refine xn_then ?_
    refine w_seq ?_
    obtain ⟨pw, cw, hv, hSW, hpw⟩ := own_si hL.own
    have QL : At wc k1 [.slice pw tr.ids.length cw] := hv ▸ hL.at1
    have hsm : Smos [vq (pt t 0), fun u w9 => ∃ kb9 p9 cap9, u = .func (.func 32) #[] #[pt kb9 0] ∧ At w9 kb9 [.slice p9 tr.ids.length cap9] ∧ SI w9 p9 tr.ids ∧ (∀ k, pb p9 k → k < w9.heap.size), vq (pt k1 0), vq (pt k1 0), vq (pt k1 0), vq (.slice pw tr.ids.length cw), vq (.bool true), vq (.bool true)] := smos_cons (smo_vq _) (smos_cons (fun u a b ⟨k9, p9, c9, h1, h2, h3, h4⟩ m => ⟨k9, p9, c9, h1, h2.mo m, h3.mo m, fun k hk => Nat.lt_of_lt_of_le (h4 k hk) m.size⟩) (smos_cons (smo_vq _) (smos_cons (smo_vq _) (smos_cons (smo_vq _) (smos_cons (smo_vq _) (smos_cons (smo_vq _) (smos_cons (smo_vq _) (smos_nil))))))))
    have hgr : ∀ a b : World, Mo wc a → Mo a b → Mo wc b := fun _ _ h m => h.trans m
    refine w_ogc 8 (fun w9 => Mo wc w9) [vq (pt t 0), fun u w9 => ∃ kb9 p9 cap9, u = .func (.func 32) #[] #[pt kb9 0] ∧ At w9 kb9 [.slice p9 tr.ids.length cap9] ∧ SI w9 p9 tr.ids ∧ (∀ k, pb p9 k → k < w9.heap.size), vq (pt k1 0), vq (pt k1 0), vq (pt k1 0), vq (.slice pw tr.ids.length cw), vq (.bool true), vq (.bool true)] [] (by kernel_rfl) (by kernel_rfl) (by kernel_rfl) (by kernel_rfl) rfl (by kernel_rfl) (by kernel_rfl) latec_nil ((Mo.refl _).drew) ?_ ?_
    · refine ea_cons ?_ (ea_cons ?_ (ea_cons ?_ (ea_cons ?_ (ea_cons ?_ (ea_cons ?_ (ea_cons ?_ (ea_cons ?_ (ea_nil))))))))
      · exact oc_eq (pt t 0) rfl hgr hsm (fun f wf hG9 hd K hK => go_run rfl (wo_mv (.tmp 3) (pt t 0) (fun _ => rfl) g3 (hK _ (Mo.refl _))))
      · refine ⟨fun f wf hG9 hd K hK => ?_⟩
        exact go_run rfl (wo_callx 17 [(.tmp 97)] _ [pt t 0] rfl (li1 (hd 0 rfl)) (fun _ _ => by kernel_rfl) (all_g (hG.mo hG9)) (fun e9 w9 ⟨kb9, p9, cap9, he, h1, h2, h3, _, h4⟩ => ⟨_, he, hK _ w9 (hG9.trans h4) ⟨kb9, p9, cap9, rfl, h1, h2, fun k hk => (h3 k hk).2⟩ (fun j u _ hr => hsm j u _ _ hr h4)⟩))
      · exact oc_eq (pt k1 0) rfl hgr hsm (fun f wf hG9 hd K hK => go_run rfl (wo_mv (.tmp 4) (pt k1 0) (fun _ => rfl) g4 (hK _ (Mo.refl _))))
      · exact oc_eq (pt k1 0) rfl hgr hsm (fun f wf hG9 hd K hK => go_run rfl (wo_nc (.tmp 99) k1 0 rfl (hd 2 rfl) (hK _ (Mo.refl _))))
      · exact oc_eq (pt k1 0) rfl hgr hsm (fun f wf hG9 hd K hK => go_run rfl (wo_un (fun v => Instr.fieldAt 28 v 0) (.tmp 100) (pt k1 0) (pt k1 0) (fun _ => rfl) (hd 3 rfl) (by kernel_rfl) (hK _ (Mo.refl _))))
      · exact oc_eq (.slice pw tr.ids.length cw) rfl hgr hsm (fun f wf hG9 hd K hK => have QL := QL.mo hG9; go_run rfl (wo_load 26 (.tmp 101) (pt k1 0) (.slice pw tr.ids.length cw) rfl (hd 4 rfl) (run_one QL 26 0 rfl Try.underlying26 rfl) (hK _ (Mo.refl _))))
      · refine oc_eq (.bool true) rfl hgr hsm (fun f wf hG9 hd K hK => ?_)
        obtain ⟨kb9, p9, cap9, e9, h1, h2, h3⟩ := hd 1 rfl
        have hT9 := told_n (capw := cw) h1 h2 h3 (hSW.mo hG9) (fun k hk => Nat.lt_of_lt_of_le (hpw k hk).2 hG9.size) (by have := ids_le hG; omega)
        rw [decide_eq_true rfl] at hT9
        exact go_run rfl (wo_call 16 [(.tmp 98), (.tmp 102)] _ [.func (.func 32) #[] #[pt kb9 0], .slice pw tr.ids.length cw] (.bool true) rfl (li2 e9 (hd 5 rfl)) (fun _ _ => by kernel_rfl) hT9 hK)
      · exact oc_eq (.bool true) rfl hgr hsm (fun f wf hG9 hd K hK => go_run rfl (wo_mv (.tmp 103) (.bool true) (fun _ => rfl) (hd 6 rfl) (hK _ (Mo.refl _))))
    intro f w11 hq hR
    have e9_7 := hR 7 rfl
    replace hG := hG.mo hq
    replace hL := hL.mo hq
    replace M := M.trans hq
    clear hq hR hsm hgr QL hSW hpw hv
    refine w_nil ?_
    refine xn_then ?_
    refine w_ret ?_
    exact w_ret1 _ (.bool true) rfl e9_7 ⟨rfl, M⟩
end
end Go.Proofs.Ytbmbldloeblbbaa
